/- Result twice, Changes twice, Same twice. -/
import Derived.Test.YtabglphiafeheaaF04a
namespace Go.Proofs.Ytabglphiafeheaa
open Go.RowKit Go.Px
set_option linter.unusedVariables false
set_option linter.unusedSimpArgs false

abbrev resv (k : Nat) (D : Option Addr) (d dc : Nat) : Value := .agg #[.int .u8 k, .slice D d dc]
def rsP (k d : Nat) : Prop := ((k = 2 ∨ k = 3) ∧ d = 0) ∨ ((k = 1 ∨ k = 4) ∧ d ≤ 262144)
instance (k d : Nat) : Decidable (rsP k d) := by unfold rsP; infer_instance
def rsE (k d : Nat) : Int := if rsP k d then 0 else 42
theorem rs_yes {k d : Nat} (h : rsP k d) : Ending.returned (.int .i64 0) = .returned (.int .i64 (rsE k d)) := by unfold rsE; rw [if_pos h]
theorem rs_no {k d : Nat} (h : ¬ rsP k d) : Ending.returned (.int .i64 42) = .returned (.int .i64 (rsE k d)) := by unfold rsE; rw [if_neg h]

set_option maxHeartbeats 800000 in
theorem result_any (k : Nat) (D : Option Addr) (d dc : Nat) (w : World) (hk : k < 256) : Calls Try.prog 13 #[resv k D d dc] w fun e w' => e = .returned (.int .i64 (rsE k d)) ∧ Below w.heap.size w w' := by
  obtain rfl | rfl | rfl | rfl | ⟨k1, k2, k3, k4⟩ : k = 2 ∨ k = 3 ∨ k = 1 ∨ k = 4 ∨ (k ≠ 2 ∧ k ≠ 3 ∧ k ≠ 1 ∧ k ≠ 4) := by omega
  rotate_left 4
  have e1 : ((k : Int) == 2) = false := by simp; omega
  have e2 : ((k : Int) == 3) = false := by simp; omega
  have e3 : ((k : Int) == 1) = false := by simp; omega
  have e4 : ((k : Int) == 4) = false := by simp; omega
  have Kn := hide (And.intro k1 (And.intro k2 (And.intro k3 k4)))
  clear k1 k2 k3 k4
  rotate_right 4
  all_goals
    go_enter Try.func13, Try.ntmps13
    go_wp2
    all_goals
      go_ret
      refine ⟨?_, (Below.refl _ _).alloc (Nat.le_refl _) _⟩
      (try simp only [Bool.not_eq_true', Bool.not_eq_false', beq_iff_eq, beq_eq_false_iff_ne, ne_eq, decide_eq_true_eq, decide_eq_false_iff_not] at *)
      first | exact rs_yes (by unfold rsP; omega) | exact rs_no (by unfold rsP; omega) | exact rs_no (by have := Kn.out; unfold rsP; omega)
set_option maxHeartbeats 800000 in
theorem rresult_any (k : Nat) (D : Option Addr) (d dc : Nat) (w : World) (hk : k < 256) : Calls Try.prog 14 #[resv k D d dc] w fun e w' => e = .returned (.int .i64 (rsE k d)) ∧ Below w.heap.size w w' := by
  obtain rfl | rfl | rfl | rfl | ⟨k1, k2, k3, k4⟩ : k = 2 ∨ k = 3 ∨ k = 1 ∨ k = 4 ∨ (k ≠ 2 ∧ k ≠ 3 ∧ k ≠ 1 ∧ k ≠ 4) := by omega
  rotate_left 4
  have e1 : ((k : Int) == 2) = false := by simp; omega
  have e2 : ((k : Int) == 3) = false := by simp; omega
  have e3 : ((k : Int) != 1) = true := by simp; omega
  have e4 : ((k : Int) != 4) = true := by simp; omega
  rotate_right 4
  all_goals
    go_enter Try.func14, Try.ntmps14
    go_wp2
    all_goals
      go_ret
      refine ⟨?_, (Below.refl _ _).alloc (Nat.le_refl _) _⟩
      (try simp only [Bool.not_eq_true', Bool.not_eq_false', beq_iff_eq, beq_eq_false_iff_ne, ne_eq] at *)
      first | exact rs_yes (by unfold rsP; omega) | exact rs_no (by unfold rsP; omega)
def chB (k : Nat) : Bool := decide (k = 2 ∨ k = 3 ∨ k = 5)
theorem ch_yes {k : Nat} (h : k = 2 ∨ k = 3 ∨ k = 5) : Ending.returned (.bool true) = .returned (.bool (chB k)) := by unfold chB; rw [decide_eq_true h]
theorem ch_no {k : Nat} (h : ¬ (k = 2 ∨ k = 3 ∨ k = 5)) : Ending.returned (.bool false) = .returned (.bool (chB k)) := by unfold chB; rw [decide_eq_false h]
set_option maxHeartbeats 800000 in
theorem changes_any (k : Nat) (p n : Int) (D : Option Addr) (d dc : Nat) (O : Option Addr) (o oc : Nat) (w : World) (hk : k < 256) : Calls Try.prog 17 #[opv k p n D d dc O o oc] w fun e w' => e = .returned (.bool (chB k)) ∧ Below w.heap.size w w' := by
  obtain rfl | rfl | rfl | ⟨k1, k2, k3⟩ : k = 2 ∨ k = 3 ∨ k = 5 ∨ (k ≠ 2 ∧ k ≠ 3 ∧ k ≠ 5) := by omega
  rotate_left 3
  have e1 : ((k : Int) == 2) = false := by simp; omega
  have e2 : ((k : Int) == 3) = false := by simp; omega
  have e3 : ((k : Int) == 5) = false := by simp; omega
  rotate_right 3
  all_goals
    go_enter Try.func17, Try.ntmps17
    go_wp2
    go_ret
    refine ⟨?_, (Below.refl _ _).alloc (Nat.le_refl _) _⟩
    first | exact ch_yes (by omega) | exact ch_no (by omega)
set_option maxHeartbeats 800000 in
theorem rchanges_any (k : Nat) (p n : Int) (D : Option Addr) (d dc : Nat) (O : Option Addr) (o oc : Nat) (w : World) (hk : k < 256) : Calls Try.prog 18 #[opv k p n D d dc O o oc] w fun e w' => e = .returned (.bool (chB k)) ∧ Below w.heap.size w w' := by
  obtain rfl | rfl | rfl | ⟨k1, k2, k3⟩ : k = 2 ∨ k = 3 ∨ k = 5 ∨ (k ≠ 2 ∧ k ≠ 3 ∧ k ≠ 5) := by omega
  rotate_left 3
  have e1 : ((k : Int) == 2) = false := by simp; omega
  have e2 : ((k : Int) == 3) = false := by simp; omega
  have e3 : ((k : Int) == 5) = false := by simp; omega
  rotate_right 3
  all_goals
    go_enter Try.func18, Try.ntmps18
    go_wp2
    go_ret
    refine ⟨?_, (Below.refl _ _).alloc (Nat.le_refl _) _⟩
    first | exact ch_yes (by omega) | exact ch_no (by omega)

/-! ### Same -/
theorem bool_two (b : Bool) : b = true ∨ b = false := by cases b <;> simp
def eqO (k : Nat) (p n : Int) (ds os : List UInt8) (k' : Nat) (p' n' : Int) (ds' os' : List UInt8) : Bool := ((k : Int) == (k' : Int)) && ((p == p') && ((n == n') && ((ds == ds') && (os == os'))))
theorem eqO_self (k : Nat) (p n : Int) (ds os : List UInt8) : eqO k p n ds os k p n ds os = true := by unfold eqO; simp
theorem bequal_any (A : Option Addr) (n c : Nat) (bd : List UInt8) (B : Option Addr) (m d : Nat) (bd' : List UInt8) (w : World) (hn : bd.length = n) (hr : Rd w A (bys bd)) (hm : bd'.length = m) (hr2 : Rd w B (bys bd')) :
    Calls Try.prog 32 #[.slice A n c, .slice B m d] w fun e w' => e = .returned (.bool (bd == bd')) ∧ w = w' := by
  have f1 := convB c hn hr
  have f2 := convB d hm hr2
  clear hn hm
  go_enter Try.func32, Try.ntmps32
  go_wp2
  go_ret
  exact ⟨rfl, rfl⟩
set_option maxHeartbeats 1600000 in
theorem osame_any (k : Nat) (p n : Int) (D : Option Addr) (d dc : Nat) (ds : List UInt8) (O : Option Addr) (o oc : Nat) (os : List UInt8) (k' : Nat) (p' n' : Int) (D' : Option Addr) (d' dc' : Nat) (ds' : List UInt8) (O' : Option Addr) (o' oc' : Nat) (os' : List UInt8) (w : World)
    (hd : ds.length = d) (ho : os.length = o) (hd' : ds'.length = d') (ho' : os'.length = o') (hD : Rd w D (bys ds)) (hO : Rd w O (bys os)) (hD' : Rd w D' (bys ds')) (hO' : Rd w O' (bys os')) :
    Calls Try.prog 15 #[opv k p n D d dc O o oc, opv k' p' n' D' d' dc' O' o' oc'] w fun e w' => e = .returned (.bool (eqO k p n ds os k' p' n' ds' os')) ∧ Below w.heap.size w w' := by
  have hb0 : Below w.heap.size w ((w.alloc (.cells #[.int .u8 k, .int .i64 p, .int .i64 n, .slice D d dc, .slice O o oc] 27)).alloc (.cells #[.int .u8 k', .int .i64 p', .int .i64 n', .slice D' d' dc', .slice O' o' oc'] 27)) := ((Below.refl _ _).alloc (Nat.le_refl _) _).alloc (by simp) _
  have HD := hide (bequal_any D d dc ds D' d' dc' ds' _ hd (hD.below hb0) hd' (hD'.below hb0))
  have HO := hide (bequal_any O o oc os O' o' oc' os' _ ho (hO.below hb0) ho' (hO'.below hb0))
  clear hd ho hd' ho'
  rcases bool_two ((k : Int) == (k' : Int)) with q1 | q1
  · rcases bool_two (p == p') with q2 | q2
    · rcases bool_two (n == n') with q3 | q3
      · rcases bool_two (ds == ds') with q4 | q4
        · have HF := hide (show eqO k p n ds os k' p' n' ds' os' = (os == os') by unfold eqO; rw [q1, q2, q3, q4]; rfl)
          have Q4 := hide q4
          clear q4
          go_enter Try.func15, Try.ntmps15
          go_wp2_with fail
          refine HD.out.mono ?_
          rw [Q4.out]
          rintro e w1 ⟨rfl, rfl⟩
          go_wp2_with fail
          refine HO.out.mono ?_
          rintro e w1 ⟨rfl, rfl⟩
          go_wp2
          go_ret
          exact ⟨by rw [HF.out]; rfl, hb0⟩
        · have HF := hide (show eqO k p n ds os k' p' n' ds' os' = false by unfold eqO; rw [q1, q2, q3, q4]; rfl)
          have Q4 := hide q4
          clear q4
          go_enter Try.func15, Try.ntmps15
          go_wp2_with fail
          refine HD.out.mono ?_
          rw [Q4.out]
          rintro e w1 ⟨rfl, rfl⟩
          go_wp2
          go_ret
          exact ⟨by rw [HF.out]; rfl, hb0⟩
      · have HF := hide (show eqO k p n ds os k' p' n' ds' os' = false by unfold eqO; rw [q1, q2, q3]; rfl)
        go_enter Try.func15, Try.ntmps15
        go_wp2
        go_ret
        exact ⟨by rw [HF.out]; rfl, hb0⟩
    · have HF := hide (show eqO k p n ds os k' p' n' ds' os' = false by unfold eqO; rw [q1, q2]; rfl)
      go_enter Try.func15, Try.ntmps15
      go_wp2
      go_ret
      exact ⟨by rw [HF.out]; rfl, hb0⟩
  · have HF := hide (show eqO k p n ds os k' p' n' ds' os' = false by unfold eqO; rw [q1]; rfl)
    go_enter Try.func15, Try.ntmps15
    go_wp2
    go_ret
    exact ⟨by rw [HF.out]; rfl, hb0⟩
set_option maxHeartbeats 1600000 in
theorem rosame_any (k : Nat) (p n : Int) (D : Option Addr) (d dc : Nat) (ds : List UInt8) (O : Option Addr) (o oc : Nat) (os : List UInt8) (k' : Nat) (p' n' : Int) (D' : Option Addr) (d' dc' : Nat) (ds' : List UInt8) (O' : Option Addr) (o' oc' : Nat) (os' : List UInt8) (w : World)
    (hd : ds.length = d) (ho : os.length = o) (hd' : ds'.length = d') (ho' : os'.length = o') (hD : Rd w D (bys ds)) (hO : Rd w O (bys os)) (hD' : Rd w D' (bys ds')) (hO' : Rd w O' (bys os')) :
    Calls Try.prog 16 #[opv k p n D d dc O o oc, opv k' p' n' D' d' dc' O' o' oc'] w fun e w' => e = .returned (.bool (eqO k p n ds os k' p' n' ds' os')) ∧ Below w.heap.size w w' := by
  have hb0 : Below w.heap.size w ((w.alloc (.cells #[.int .u8 k, .int .i64 p, .int .i64 n, .slice D d dc, .slice O o oc] 27)).alloc (.cells #[.int .u8 k', .int .i64 p', .int .i64 n', .slice D' d' dc', .slice O' o' oc'] 27)) := ((Below.refl _ _).alloc (Nat.le_refl _) _).alloc (by simp) _
  have c1 := convB dc hd (hD.below hb0)
  have c2 := convB dc' hd' (hD'.below hb0)
  have c3 := convB oc ho (hO.below hb0)
  have c4 := convB oc' ho' (hO'.below hb0)
  clear hd ho hd' ho'
  rcases bool_two ((k : Int) == (k' : Int)) with q1 | q1
  · rcases bool_two (p == p') with q2 | q2
    · rcases bool_two (n == n') with q3 | q3
      · rcases bool_two (ds == ds') with q4 | q4
        · rcases bool_two (os == os') with q5 | q5
          all_goals
            have hF : eqO k p n ds os k' p' n' ds' os' = (os == os') := by unfold eqO; rw [q1, q2, q3, q4]; rfl
            rw [q5] at hF
            have HF := hide hF
            clear hF
            go_enter Try.func16, Try.ntmps16
            go_wp2
            go_ret
            exact ⟨by rw [HF.out]; rfl, hb0⟩
        · have HF := hide (show eqO k p n ds os k' p' n' ds' os' = false by unfold eqO; rw [q1, q2, q3, q4]; rfl)
          go_enter Try.func16, Try.ntmps16
          go_wp2
          go_ret
          exact ⟨by rw [HF.out]; rfl, hb0⟩
      · have HF := hide (show eqO k p n ds os k' p' n' ds' os' = false by unfold eqO; rw [q1, q2, q3]; rfl)
        go_enter Try.func16, Try.ntmps16
        go_wp2
        go_ret
        exact ⟨by rw [HF.out]; rfl, hb0⟩
    · have HF := hide (show eqO k p n ds os k' p' n' ds' os' = false by unfold eqO; rw [q1, q2]; rfl)
      go_enter Try.func16, Try.ntmps16
      go_wp2
      go_ret
      exact ⟨by rw [HF.out]; rfl, hb0⟩
  · have HF := hide (show eqO k p n ds os k' p' n' ds' os' = false by unfold eqO; rw [q1]; rfl)
    go_enter Try.func16, Try.ntmps16
    go_wp2
    go_ret
    exact ⟨by rw [HF.out]; rfl, hb0⟩
end Go.Proofs.Ytabglphiafeheaa
