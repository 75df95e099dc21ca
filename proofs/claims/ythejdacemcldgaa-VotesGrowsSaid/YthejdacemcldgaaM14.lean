/- Stage 14, mathematics: a set and one more. -/
import Derived.Test.YthejdacemcldgaaM13b
import Derived.Test.YthejdacemcldgaaM13r
namespace Go.Proofs.Ythejdacemcldgaa
set_option maxRecDepth 20000
open Go.RowKit Go.Px
set_option linter.unusedVariables false
/-- 'o' is the set of 'l' and one more, in order. -/
def AddOf (l : List Int) (v : Int) (o : List Int) : Prop := Asc o ∧ ∀ x, x ∈ o ↔ (x ∈ l ∨ x = v)
theorem AddOf.uniq {l : List Int} {v : Int} {a b : List Int} (ha : AddOf l v a) (hb : AddOf l v b) : a = b := asc_ext ha.1 hb.1 (fun x => by rw [ha.2, hb.2])
/-- Between two rounds: what is out, what is left. -/
structure RI (l : List Int) (v : Int) (o r : List Int) : Prop where
  asc : Asc o
  le : ∀ x ∈ o, ∀ y ∈ r, x ≤ y
  mem : ∀ x, (x ∈ o ∨ x ∈ r) ↔ (x ∈ l ∨ x = v)
  len : o.length + r.length ≤ l.length + 1
theorem RI.start (l : List Int) (v : Int) : RI l v [] (l ++ [v]) := ⟨List.Pairwise.nil, (fun x hx => by cases hx), (fun x => by simp), by simp⟩
theorem RI.done {l : List Int} {v : Int} {o : List Int} (h : RI l v o []) : AddOf l v o := ⟨h.asc, fun x => by rw [← h.mem]; simp⟩
theorem mem_cutout {r : List Int} {k : Nat} (hk : k < r.length) (x : Int) : x ∈ r ↔ (x = r[k] ∨ x ∈ r.take k ++ r.drop (k + 1)) := by
  have h : r = r.take k ++ r[k] :: r.drop (k + 1) := by rw [← List.drop_eq_getElem_cons hk, List.take_append_drop]
  constructor
  · intro hx
    rw [h, List.mem_append, List.mem_cons] at hx
    rw [List.mem_append]
    rcases hx with hx | hx | hx
    · exact .inr (.inl hx)
    · exact .inl hx
    · exact .inr (.inr hx)
  · intro hx
    rw [h, List.mem_append, List.mem_cons]
    rw [List.mem_append] at hx
    rcases hx with hx | hx | hx
    · exact .inr (.inl hx)
    · exact .inl hx
    · exact .inr (.inr hx)
theorem cutout_length {r : List Int} {k : Nat} (hk : k < r.length) : (r.take k ++ r.drop (k + 1)).length = r.length - 1 := by simp; omega
theorem RI.keep {l : List Int} {v : Int} {o r : List Int} (h : RI l v o r) {k : Nat} (hk : k < r.length) (hin : r[k] ∈ o) : RI l v o (r.take k ++ r.drop (k + 1)) := by
  refine ⟨h.asc, fun x hx y hy => h.le x hx y ((mem_cutout hk y).2 (.inr hy)), fun x => ?_, ?_⟩
  · rw [← h.mem, mem_cutout hk x]
    constructor
    · rintro (hx | hx)
      · exact .inl hx
      · exact .inr (.inr hx)
    · rintro (hx | hx | hx)
      · exact .inl hx
      · exact .inl (hx ▸ hin)
      · exact .inr hx
  · rw [cutout_length hk]; have := h.len; omega
theorem RI.add {l : List Int} {v : Int} {o r : List Int} (h : RI l v o r) {k : Nat} (hk : k < r.length) (hmin : ∀ y ∈ r, r[k] ≤ y) (hne : ∀ x ∈ o, x ≠ r[k]) : RI l v (o ++ [r[k]]) (r.take k ++ r.drop (k + 1)) := by
  have hin : r[k] ∈ r := List.getElem_mem hk
  refine ⟨?_, fun x hx y hy => ?_, fun x => ?_, ?_⟩
  · unfold Asc
    rw [List.pairwise_append]
    refine ⟨h.asc, by simp, fun x hx y hy => ?_⟩
    rw [List.mem_singleton] at hy
    subst hy
    have := h.le x hx _ hin
    have := hne x hx
    omega
  · have hy' := (mem_cutout hk y).2 (.inr hy)
    rw [List.mem_append, List.mem_singleton] at hx
    rcases hx with hx | hx
    · exact h.le x hx y hy'
    · subst hx; exact hmin y hy'
  · rw [← h.mem, mem_cutout hk x, List.mem_append, List.mem_singleton]
    constructor
    · rintro ((hx | hx) | hx)
      · exact .inl hx
      · exact .inr (.inl hx)
      · exact .inr (.inr hx)
    · rintro (hx | hx | hx)
      · exact .inl (.inl hx)
      · exact .inl (.inr hx)
      · exact .inr hx
  · rw [cutout_length hk, List.length_append]; have := h.len; simp; omega
/-- Of a row in order, whether a number that is no less than each of it is in it: its last says it. -/
theorem last_ne {o : List Int} (ha : Asc o) {m : Nat} (hm : o.length = m + 1) {y : Int} (hle : ∀ x ∈ o, x ≤ y) (hne : o[m]'(by omega) ≠ y) : ∀ x ∈ o, x ≠ y := by
  intro x hx e
  obtain ⟨i, hi, rfl⟩ := List.mem_iff_getElem.1 hx
  have h1 := hle _ (List.getElem_mem (show m < o.length by omega))
  by_cases him : i = m
  · subst him; exact hne e
  · have h2 := List.pairwise_iff_getElem.1 ha i m hi (by omega) (by omega)
    omega
end Go.Proofs.Ythejdacemcldgaa
