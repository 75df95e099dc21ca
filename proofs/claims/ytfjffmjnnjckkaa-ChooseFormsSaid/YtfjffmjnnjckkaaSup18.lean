/- What the joined lower texts lack, besides. -/
import Derived.Test.YtfjffmjnnjckkaaSup17
namespace Go.Px
set_option maxRecDepth 20000
open Go.RowKit
section
variable {w wr w' : World} {n : Nat} {vs xs : List Value} {v0 v : Value} {base e size : Nat}
theorem ints_append (l m : List Int) : ints (l ++ m) = ints l ++ ints m := by simp [ints]
theorem own_out (h : w.ownsRow base e size v n xs) : ∃ A c, v = .slice A n c ∧ xs.length = n * size ∧ n ≤ c ∧ c ≤ maxLen ∧ Rd w A xs ∧ (∀ a, A = some a → base ≤ a.block ∧ a.block < w.heap.size) := by
  rcases h.2 with ⟨rfl, rfl⟩ | ⟨g, cap, cur, rfl, hbg, hg, hnc, hcm, _, _⟩
  · have hx : xs = [] := List.eq_nil_of_length_eq_zero (by simpa using h.1)
    subst hx
    exact ⟨none, 0, rfl, by simp, Nat.le_refl _, Nat.zero_le _, Rd.nil, fun a ha => by cases ha⟩
  · refine ⟨_, cap, rfl, h.1, hnc, hcm, Rd.of_some (h.cells (g := g) rfl), fun a ha => ?_⟩
    injection ha with ha
    subst ha
    exact ⟨hbg, (Array.getElem?_eq_some_iff.1 hg).1⟩
theorem own_weak {base' : Nat} (h : w.ownsRow base e size v n xs) (hb : base' ≤ base) : w.ownsRow base' e size v n xs := by
  refine ⟨h.1, ?_⟩
  rcases h.2 with h2 | ⟨g, cap, cur, hv, hbg, r⟩
  · exact .inl h2
  · exact .inr ⟨g, cap, cur, hv, by omega, r⟩
end
end Go.Px
