/- Result twice, Changes twice, Same twice. -/
import Derived.Test.YtjilkaciopiabaaDoorF04a
namespace Go.Proofs.YtjilkaciopiabaaDoor
open Go.RowKit Go.Px
set_option linter.unusedVariables false
set_option linter.unusedSimpArgs false

abbrev resv (k : Nat) (D : Option Addr) (d dc : Nat) : Value := .agg #[.int .u8 k, .slice D d dc]
def rsP (k d : Nat) : Prop := ((k = 2 ∨ k = 3) ∧ d = 0) ∨ ((k = 1 ∨ k = 4) ∧ d ≤ 262144)
instance (k d : Nat) : Decidable (rsP k d) := by unfold rsP; infer_instance
def rsE (k d : Nat) : Int := if rsP k d then 0 else 42
theorem rs_yes {k d : Nat} (h : rsP k d) : Ending.returned (.int .i64 0) = .returned (.int .i64 (rsE k d)) := by unfold rsE; rw [if_pos h]
theorem rs_no {k d : Nat} (h : ¬ rsP k d) : Ending.returned (.int .i64 42) = .returned (.int .i64 (rsE k d)) := by unfold rsE; rw [if_neg h]

def chB (k : Nat) : Bool := decide (k = 2 ∨ k = 3 ∨ k = 5)
theorem ch_yes {k : Nat} (h : k = 2 ∨ k = 3 ∨ k = 5) : Ending.returned (.bool true) = .returned (.bool (chB k)) := by unfold chB; rw [decide_eq_true h]
theorem ch_no {k : Nat} (h : ¬ (k = 2 ∨ k = 3 ∨ k = 5)) : Ending.returned (.bool false) = .returned (.bool (chB k)) := by unfold chB; rw [decide_eq_false h]
/-! ### Same -/
theorem bool_two (b : Bool) : b = true ∨ b = false := by cases b <;> simp
def eqO (k : Nat) (p n : Int) (ds os : List UInt8) (k' : Nat) (p' n' : Int) (ds' os' : List UInt8) : Bool := ((k : Int) == (k' : Int)) && ((p == p') && ((n == n') && ((ds == ds') && (os == os'))))
theorem eqO_self (k : Nat) (p n : Int) (ds os : List UInt8) : eqO k p n ds os k p n ds os = true := by unfold eqO; simp
theorem bequal_any (A : Option Addr) (n c : Nat) (bd : List UInt8) (B : Option Addr) (m d : Nat) (bd' : List UInt8) (w : World) (hn : bd.length = n) (hr : Rd w A (bys bd)) (hm : bd'.length = m) (hr2 : Rd w B (bys bd')) :
    Calls Tryd.prog 43 #[.slice A n c, .slice B m d] w fun e w' => e = .returned (.bool (bd == bd')) ∧ w = w' := by
  have f1 := convB c hn hr
  have f2 := convB d hm hr2
  clear hn hm
  go_enter Tryd.func43, Tryd.ntmps43
  go_wp2
  go_ret
  exact ⟨rfl, rfl⟩
end Go.Proofs.YtjilkaciopiabaaDoor
