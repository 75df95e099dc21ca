/- Stage 17: pages and entries held against each other (written by gen_17p.py). -/
import Derived.Test.YtlcbelmbonaooaaF17a
namespace Go.Proofs.Ytlcbelmbonaooaa
set_option maxRecDepth 20000
open Go.RowKit Go.Px Go.Maps
set_option linter.unusedVariables false
set_option linter.unusedSimpArgs false
theorem take_one17 {α : Type} {a b : List α} {k : Nat} {x y : α} (h : a.take k = b.take k) (ha : a[k]? = some x) (hb : b[k]? = some y) (e : x = y) : a.take (k + 1) = b.take (k + 1) := by
  rw [List.take_add_one, List.take_add_one, h, ha, hb, e]
theorem same_no17 {α : Type} [DecidableEq α] {a b : List α} {k : Nat} {x y : α} (ha : a[k]? = some x) (hb : b[k]? = some y) (e : x ≠ y) : decide (a = b) = false :=
  decide_eq_false (fun h => e (by rw [h, hb] at ha; injection ha with ha; exact ha.symm))
def eqPg (x y : PageD) : Bool := (x.1 == y.1) && ((x.2.1 == y.2.1) && (x.2.2 == y.2.2))
theorem eqPg_iff {x y : PageD} : eqPg x y = decide (x = y) := by
  obtain ⟨a, b, c⟩ := x
  obtain ⟨a', b', c'⟩ := y
  unfold eqPg
  by_cases h1 : a = a' <;> by_cases h2 : b = b' <;> by_cases h3 : c = c' <;> simp [h1, h2, h3]
instance decEntry : DecidableEq EntryD := fun x y => decidable_of_iff (eqE x y = true) ⟨eqE_eq, fun h => by rw [h]; exact eqE_self y⟩
theorem eqE_iff {x y : EntryD} : eqE x y = decide (x = y) := by
  by_cases h : x = y
  · subst h; rw [eqE_self]; simp
  · rw [decide_eq_false h]
    cases he : eqE x y with
    | false => rfl
    | true => exact absurd (eqE_eq he) h
end Go.Proofs.Ytlcbelmbonaooaa
