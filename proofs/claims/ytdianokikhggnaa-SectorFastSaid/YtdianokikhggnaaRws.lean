/- A row of data that came in, read behind other calls. -/
import Derived.Test.YtdianokikhggnaaFra
namespace Go.Px
set_option maxRecDepth 20000
open Go.RowKit
set_option linter.unusedVariables false
/-- A row that came in: in memory below B. -/
structure RowAt (t : Ty) (w : World) (B : Nat) (A : Option Addr) (n : Nat) (xs : List t.Den) (vs : List Value) : Prop where
  len : xs.length = n
  rd : Rd w A vs
  rows : t.Rows w (fun b => b < B) xs vs
  lo : xs ≠ [] → ∀ a, A = some a → a.block < B
theorem rowAt_of {t : Ty} {w : World} {Q : Nat → Prop} {A : Option Addr} {n : Nat} {xs : List t.Den} {vs : List Value} (ht : 0 < t.n) (hl : xs.length = n) (hr : Rd w A vs) (hR : t.Rows w Q xs vs) : RowAt t w w.heap.size A n xs vs :=
  ⟨hl, hr, hR.low, fun hne => rd_block hr (fun e => hne (by
    have h1 := hR.1
    rw [e] at h1
    have h2 : t.n * xs.length = 0 := h1.symm
    rcases Nat.mul_eq_zero.mp h2 with h | h
    · omega
    · exact List.eq_nil_of_length_eq_zero h))⟩
theorem RowAt.at_ {t : Ty} {w wr : World} {B : Nat} {A : Option Addr} {n : Nat} {xs : List t.Den} {vs : List Value} (h : RowAt t w B A n xs vs) (ht : 0 < t.n) (hb : Below B w wr) {k : Nat} (hk : k < n) :
    ∃ x a cs, xs[k]? = some x ∧ A = some a ∧ t.Is wr (fun b => b < B) x cs ∧ (∀ (j : Nat) (u : Value), vs[j]? = some u → wr.cell? (a.add j) = some u) ∧ ∀ (i : Nat) (u : Value), cs[i]? = some u → vs[t.n * k + i]? = some u := by
  have hk' : k < xs.length := by rw [h.len]; exact hk
  have hne : xs ≠ [] := fun e => by rw [e] at hk'; simp at hk'
  have hr := h.rd.lo (fun a ha => h.lo hne a ha) hb
  obtain ⟨cs, hI, hc⟩ := (h.rows.lo hb).get (List.getElem?_eq_getElem hk')
  obtain ⟨a, rfl, hat⟩ := hr.some_of (by
    have h1 := h.rows.1
    rw [h1]
    exact Nat.mul_pos ht (by omega))
  exact ⟨_, a, cs, List.getElem?_eq_getElem hk', rfl, hI, hat, hc⟩
end Go.Px
