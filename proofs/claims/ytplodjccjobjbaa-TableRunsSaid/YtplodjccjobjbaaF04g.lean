/- Result twice, Changes twice, Same twice. -/
import Derived.Test.YtplodjccjobjbaaF04a
namespace Go.Proofs.Ytplodjccjobjbaa
open Go.RowKit Go.Px
set_option linter.unusedVariables false
set_option linter.unusedSimpArgs false

abbrev resv (k : Nat) (D : Option Addr) (d dc : Nat) : Value := .agg #[.int .u8 k, .slice D d dc]
def rsP (k d : Nat) : Prop := ((k = 2 ∨ k = 3) ∧ d = 0) ∨ ((k = 1 ∨ k = 4) ∧ d ≤ 262144)
instance (k d : Nat) : Decidable (rsP k d) := by unfold rsP; infer_instance
def rsE (k d : Nat) : Int := if rsP k d then 0 else 42
theorem rs_yes {k d : Nat} (h : rsP k d) : Ending.returned (.int .i64 0) = .returned (.int .i64 (rsE k d)) := by unfold rsE; rw [if_pos h]
theorem rs_no {k d : Nat} (h : ¬ rsP k d) : Ending.returned (.int .i64 42) = .returned (.int .i64 (rsE k d)) := by unfold rsE; rw [if_neg h]

set_option maxHeartbeats 800000 in
theorem result_any (k : Nat) (D : Option Addr) (d dc : Nat) (w : World) (hk : k < 256) : Calls Try.prog 31 #[resv k D d dc] w fun e w' => e = .returned (.int .i64 (rsE k d)) ∧ Below w.heap.size w w' := by
  obtain rfl | rfl | rfl | rfl | ⟨k1, k2, k3, k4⟩ : k = 2 ∨ k = 3 ∨ k = 1 ∨ k = 4 ∨ (k ≠ 2 ∧ k ≠ 3 ∧ k ≠ 1 ∧ k ≠ 4) := by omega
  rotate_left 4
  have e1 : ((k : Int) == 2) = false := by simp; omega
  have e2 : ((k : Int) == 3) = false := by simp; omega
  have e3 : ((k : Int) == 1) = false := by simp; omega
  have e4 : ((k : Int) == 4) = false := by simp; omega
  have Kn := hide (And.intro k1 (And.intro k2 (And.intro k3 k4)))
  clear k1 k2 k3 k4
  rotate_right 4
  all_goals
    go_enter Try.func31, Try.ntmps31
    go_wp2
    all_goals
      go_ret
      refine ⟨?_, (Below.refl _ _).alloc (Nat.le_refl _) _⟩
      (try simp only [Bool.not_eq_true', Bool.not_eq_false', beq_iff_eq, beq_eq_false_iff_ne, ne_eq, decide_eq_true_eq, decide_eq_false_iff_not] at *)
      first | exact rs_yes (by unfold rsP; omega) | exact rs_no (by unfold rsP; omega) | exact rs_no (by have := Kn.out; unfold rsP; omega)
set_option maxHeartbeats 800000 in
theorem rresult_any (k : Nat) (D : Option Addr) (d dc : Nat) (w : World) (hk : k < 256) : Calls Try.prog 38 #[resv k D d dc] w fun e w' => e = .returned (.int .i64 (rsE k d)) ∧ Below w.heap.size w w' := by
  obtain rfl | rfl | rfl | rfl | ⟨k1, k2, k3, k4⟩ : k = 2 ∨ k = 3 ∨ k = 1 ∨ k = 4 ∨ (k ≠ 2 ∧ k ≠ 3 ∧ k ≠ 1 ∧ k ≠ 4) := by omega
  rotate_left 4
  have e1 : ((k : Int) == 2) = false := by simp; omega
  have e2 : ((k : Int) == 3) = false := by simp; omega
  have e3 : ((k : Int) != 1) = true := by simp; omega
  have e4 : ((k : Int) != 4) = true := by simp; omega
  rotate_right 4
  all_goals
    go_enter Try.func38, Try.ntmps38
    go_wp2
    all_goals
      go_ret
      refine ⟨?_, (Below.refl _ _).alloc (Nat.le_refl _) _⟩
      (try simp only [Bool.not_eq_true', Bool.not_eq_false', beq_iff_eq, beq_eq_false_iff_ne, ne_eq] at *)
      first | exact rs_yes (by unfold rsP; omega) | exact rs_no (by unfold rsP; omega)
def chB (k : Nat) : Bool := decide (k = 2 ∨ k = 3 ∨ k = 5)
theorem ch_yes {k : Nat} (h : k = 2 ∨ k = 3 ∨ k = 5) : Ending.returned (.bool true) = .returned (.bool (chB k)) := by unfold chB; rw [decide_eq_true h]
theorem ch_no {k : Nat} (h : ¬ (k = 2 ∨ k = 3 ∨ k = 5)) : Ending.returned (.bool false) = .returned (.bool (chB k)) := by unfold chB; rw [decide_eq_false h]
/-! ### Same -/
theorem bool_two (b : Bool) : b = true ∨ b = false := by cases b <;> simp
def eqO (k : Nat) (p n : Int) (ds os : List UInt8) (k' : Nat) (p' n' : Int) (ds' os' : List UInt8) : Bool := ((k : Int) == (k' : Int)) && ((p == p') && ((n == n') && ((ds == ds') && (os == os'))))
theorem eqO_self (k : Nat) (p n : Int) (ds os : List UInt8) : eqO k p n ds os k p n ds os = true := by unfold eqO; simp
theorem bequal_any (A : Option Addr) (n c : Nat) (bd : List UInt8) (B : Option Addr) (m d : Nat) (bd' : List UInt8) (w : World) (hn : bd.length = n) (hr : Rd w A (bys bd)) (hm : bd'.length = m) (hr2 : Rd w B (bys bd')) :
    Calls Try.prog 35 #[.slice A n c, .slice B m d] w fun e w' => e = .returned (.bool (bd == bd')) ∧ w = w' := by
  have f1 := convB c hn hr
  have f2 := convB d hm hr2
  clear hn hm
  go_enter Try.func35, Try.ntmps35
  go_wp2
  go_ret
  exact ⟨rfl, rfl⟩
end Go.Proofs.Ytplodjccjobjbaa
