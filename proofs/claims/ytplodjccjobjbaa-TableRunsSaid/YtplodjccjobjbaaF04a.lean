/- Shape twice, isPlace, Form twice. -/
import Derived.Test.YtplodjccjobjbaaTypes
import Derived.Test.YtplodjccjobjbaaArr
import Derived.Test.YtplodjccjobjbaaMore
import Derived.Deep.DeepFit
import Derived.Outline
namespace Go.Proofs.Ytplodjccjobjbaa
open Go.RowKit Go.Px
set_option linter.unusedVariables false

abbrev shp (b z : Int) : Value := .agg #[.int .i64 b, .int .i64 z]
abbrev opv (k : Nat) (p n : Int) (D : Option Addr) (d dc : Nat) (O : Option Addr) (o oc : Nat) : Value := .agg #[.int .u8 k, .int .i64 p, .int .i64 n, .slice D d dc, .slice O o oc]
def shE (b z : Int) : Int := if (1 ≤ b ∧ b ≤ 4096) ∧ 1 ≤ z ∧ z ≤ 4096 then 0 else 40
def fmP (k : Nat) (p n : Int) (d o : Nat) : Prop := ((0 ≤ p ∧ p ≤ 2147483647) ∧ (0 ≤ n ∧ n ≤ 2147483647) ∧ d ≤ 262144 ∧ o ≤ 4096) ∧ ((k = 4 ∧ p = 0 ∧ n = 0 ∧ d = 0 ∧ o = 0) ∨ ((k = 1 ∨ k = 3) ∧ d = 0 ∧ o = 0) ∨ (k = 2 ∧ o = 0) ∨ (k = 5 ∧ n = 0))
instance (k : Nat) (p n : Int) (d o : Nat) : Decidable (fmP k p n d o) := by unfold fmP; infer_instance
def fmE (k : Nat) (p n : Int) (d o : Nat) : Int := if fmP k p n d o then 0 else 41
theorem fm_yes {k : Nat} {p n : Int} {d o : Nat} (h : fmP k p n d o) : Ending.returned (.int .i64 0) = .returned (.int .i64 (fmE k p n d o)) := by unfold fmE; rw [if_pos h]
theorem fm_no {k : Nat} {p n : Int} {d o : Nat} (h : ¬ fmP k p n d o) : Ending.returned (.int .i64 41) = .returned (.int .i64 (fmE k p n d o)) := by unfold fmE; rw [if_neg h]
theorem sh_yes {b z : Int} (h : (1 ≤ b ∧ b ≤ 4096) ∧ 1 ≤ z ∧ z ≤ 4096) : Ending.returned (.int .i64 0) = .returned (.int .i64 (shE b z)) := by unfold shE; rw [if_pos h]
theorem sh_no {b z : Int} (h : ¬ ((1 ≤ b ∧ b ≤ 4096) ∧ 1 ≤ z ∧ z ≤ 4096)) : Ending.returned (.int .i64 40) = .returned (.int .i64 (shE b z)) := by unfold shE; rw [if_neg h]

def plB (v : Int) : Bool := decide (0 ≤ v ∧ v ≤ 2147483647)
end Go.Proofs.Ytplodjccjobjbaa
