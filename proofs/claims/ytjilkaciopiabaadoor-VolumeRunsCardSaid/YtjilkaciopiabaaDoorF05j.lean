/- The law VolumeNew, walked. -/
import Derived.Test.YtjilkaciopiabaaDoorF05i
namespace Go.Proofs.YtjilkaciopiabaaDoor
open Go.RowKit Go.Px
set_option linter.unusedVariables false
def smB (b z : Int) : Bool := decide (b ≤ 64 ∧ z ≤ 64)
theorem small_any (b z : Int) (w : World) : Calls Tryd.prog 6 #[shp b z] w fun e w' => e = .returned (.bool (smB b z)) ∧ Below w.heap.size w w' := by
  by_cases h1 : b ≤ 64
  · by_cases h2 : z ≤ 64
    · have H := hide (show smB b z = true from decide_eq_true ⟨h1, h2⟩)
      go_enter Tryd.func6, Tryd.ntmps6
      go_wp2
      go_ret
      exact ⟨by rw [H.out]; rfl, (Below.refl _ _).alloc (Nat.le_refl _) _⟩
    · have H := hide (show smB b z = false from decide_eq_false (by omega))
      go_enter Tryd.func6, Tryd.ntmps6
      go_wp2
      go_ret
      exact ⟨by rw [H.out]; rfl, (Below.refl _ _).alloc (Nat.le_refl _) _⟩
  · have H := hide (show smB b z = false from decide_eq_false (by omega))
    go_enter Tryd.func6, Tryd.ntmps6
    go_wp2
    go_ret
    exact ⟨by rw [H.out]; rfl, (Below.refl _ _).alloc (Nat.le_refl _) _⟩
end Go.Proofs.YtjilkaciopiabaaDoor
