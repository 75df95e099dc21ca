/- Levels and proofs, level by level. -/
import Derived.Test.YtcpnobhdogpfiaaDoorF25d
namespace Go.Proofs.YtcpnobhdogpfiaaDoor
set_option maxRecDepth 20000
open Go.Px
set_option linter.unusedVariables false
theorem itN_up (k n : Nat) : itN (k + 1) n = itN k (upN n) := by
  induction k with
  | zero => rfl
  | succ k ih => show upN (itN (k + 1) n) = upN (itN k (upN n)); rw [ih]
theorem itI_up (k i : Nat) : itI (k + 1) i = itI k (i / 4) := by
  induction k with
  | zero => rfl
  | succ k ih => show itI (k + 1) i / 4 = itI k (i / 4) / 4; rw [ih]
/-- The levels up to one are there. -/
theorem lvD_at (j : Nat) : ∀ (f : Nat) (l : List Nat), l.length ≤ 4 ^ f → (∀ k, k < j → 1 < itN k l.length) → ∃ r, (lvD f l)[j]? = some r ∧ r.length = itN j l.length := by
  induction j with
  | zero =>
    intro f l h _
    obtain ⟨r, hr⟩ := lvD_head f l
    exact ⟨l, by rw [hr]; rfl, rfl⟩
  | succ j ih =>
    intro f l h hk
    have h1 : 1 < l.length := hk 0 (by omega)
    cases f with
    | zero => simp at h; omega
    | succ f =>
      obtain ⟨r, hr, hl⟩ := ih f (upD l) (by rw [upD_length]; exact upN_pow h) (fun k hk' => by rw [upD_length, ← itN_up]; exact hk (k + 1) (by omega))
      refine ⟨r, by rw [lvD_more h1]; exact hr, ?_⟩
      rw [hl, upD_length, ← itN_up]
theorem provD_at (j : Nat) : ∀ (f : Nat) (l : List Nat) (i : Nat), l.length ≤ 4 ^ f → (∀ k, k ≤ j → 1 < itN k l.length) → ∃ r, (lvD f l)[j]? = some r ∧ r.length = itN j l.length ∧ (provD (lvD f l) i)[j]? = some (pieceD r (itI j i / 4)) := by
  induction j with
  | zero =>
    intro f l i h hk
    have h1 : 1 < l.length := hk 0 (by omega)
    cases f with
    | zero => simp at h; omega
    | succ f => exact ⟨l, by rw [lvD_more h1]; rfl, rfl, by rw [provD_more f h1]; rfl⟩
  | succ j ih =>
    intro f l i h hk
    have h1 : 1 < l.length := hk 0 (by omega)
    cases f with
    | zero => simp at h; omega
    | succ f =>
      obtain ⟨r, hr, hl, hp⟩ := ih f (upD l) (i / 4) (by rw [upD_length]; exact upN_pow h) (fun k hk' => by rw [upD_length, ← itN_up]; exact hk (k + 1) (by omega))
      refine ⟨r, by rw [lvD_more h1]; exact hr, by rw [hl, upD_length, ← itN_up], ?_⟩
      rw [provD_more f h1, itI_up]; exact hp
theorem provD_len (j : Nat) : ∀ (f : Nat) (l : List Nat) (i : Nat), l.length ≤ 4 ^ f → (∀ k, k < j → 1 < itN k l.length) → ¬ 1 < itN j l.length → (provD (lvD f l) i).length = j := by
  induction j with
  | zero =>
    intro f l i h _ h0
    rw [lvD_one f (show l.length ≤ 1 by have : ¬ 1 < l.length := h0; omega)]; rfl
  | succ j ih =>
    intro f l i h hk h0
    have h1 : 1 < l.length := hk 0 (by omega)
    cases f with
    | zero => simp at h; omega
    | succ f =>
      rw [provD_more f h1, List.length_cons, ih f (upD l) (i / 4) (by rw [upD_length]; exact upN_pow h) (fun k hk' => by rw [upD_length, ← itN_up]; exact hk (k + 1) (by omega)) (by rw [upD_length, ← itN_up]; exact h0)]
theorem provD_take {j f : Nat} {l : List Nat} {i : Nat} {r : List Nat} (hr : (provD (lvD f l) i)[j]? = some r) : (provD (lvD f l) i).take (j + 1) = (provD (lvD f l) i).take j ++ [r] := by
  obtain ⟨h, e⟩ := List.getElem?_eq_some_iff.1 hr
  rw [List.take_succ_eq_append_getElem h, e]
theorem itN_small (j N : Nat) (h : N ≤ 4096) (hk : ∀ k, k < j → 1 < itN k N) : j ≤ 6 := by
  rcases Nat.lt_or_ge 6 j with h6 | h6
  · exfalso
    have h0 := hk 6 h6
    have e : itN 6 N = upN (upN (upN (upN (upN (upN N))))) := rfl
    rw [e] at h0
    unfold upN at h0
    omega
  · exact h6
end Go.Proofs.YtcpnobhdogpfiaaDoor
