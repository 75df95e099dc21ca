/- Stage 17: plinthref15.Check (written by gen_17b.py). -/
import Derived.Test.YtfjffmjnnjckkaaF17b
namespace Go.Proofs.Ytfjffmjnnjckkaa
set_option maxRecDepth 20000
open Go.RowKit Go.Px Go.Maps
set_option linter.unusedVariables false
set_option linter.unusedSimpArgs false
theorem beq_shift (a b : Int) : (a == b + 1) = (a - 1 == b) := by
  by_cases e0 : a = b + 1
  · rw [e0]; simp
  · have e1 : ¬ a - 1 = b := by omega
    rw [beq_eq_false_iff_ne.2 e0, beq_eq_false_iff_ne.2 e1]
set_option maxRecDepth 20000 in
set_option maxHeartbeats 6400000 in
theorem rled_any {w : World} {Q : Nat → Prop} {x : LedgerD} {cs : List Value} (h : tyLedger.Is w Q x cs) : Calls Try.prog 34 #[.agg cs.toArray] w fun e w' => e = .returned (.int .i64 (ledE x)) ∧ Below w.heap.size w w' := by
  have hL := h
  obtain ⟨xStateNum, xStateShapeBlocks, xStateShapeSize, xStatePages, xStatePagesA, xStatePagesn, xStatePagesc, xStatePagesv, xStateRows, xStateRowsA, xStateRowsn, xStateRowsc, xStateRowsv, xStateGroupEpoch, xStateGroupMembers, xStateGroupMembersA, xStateGroupMembersn, xStateGroupMembersc, xStateGroupMembersv, xLog, xLogA, xLogn, xLogc, xLogv, rfl, rfl, h1_xStateNum, h2_xStateNum, h1_xStateShapeBlocks, h2_xStateShapeBlocks, h1_xStateShapeSize, h2_xStateShapeSize, hl_xStatePages, hc_xStatePages, hm_xStatePages, hr_xStatePages, hq_xStatePages, he_xStatePages, hl_xStateRows, hc_xStateRows, hm_xStateRows, hr_xStateRows, hq_xStateRows, he_xStateRows, h1_xStateGroupEpoch, h2_xStateGroupEpoch, hl_xStateGroupMembers, hc_xStateGroupMembers, hm_xStateGroupMembers, hr_xStateGroupMembers, hq_xStateGroupMembers, he_xStateGroupMembers, hl_xLog, hc_xLog, hm_xLog, hr_xLog, hq_xLog, he_xLog⟩ := Ledger_out h
  have hA := rowAt_of (t := tyEntry) (by decide) hl_xLog hr_xLog he_xLog
  obtain ⟨w0, hw0⟩ : ∃ x, w.alloc (.cells #[.int .i64 xStateNum, .int .i64 xStateShapeBlocks, .int .i64 xStateShapeSize, .slice xStatePagesA xStatePagesn xStatePagesc, .slice xStateRowsA xStateRowsn xStateRowsc, .int .i64 xStateGroupEpoch, .slice xStateGroupMembersA xStateGroupMembersn xStateGroupMembersc, .slice xLogA xLogn xLogc] 42) = x := ⟨_, rfl⟩
  have hBw0 : Blk w0 w.heap.size [.int .i64 xStateNum, .int .i64 xStateShapeBlocks, .int .i64 xStateShapeSize, .slice xStatePagesA xStatePagesn xStatePagesc, .slice xStateRowsA xStateRowsn xStateRowsc, .int .i64 xStateGroupEpoch, .slice xStateGroupMembersA xStateGroupMembersn xStateGroupMembersc, .slice xLogA xLogn xLogc] 42 := by rw [← hw0]; exact Blk.new w [.int .i64 xStateNum, .int .i64 xStateShapeBlocks, .int .i64 xStateShapeSize, .slice xStatePagesA xStatePagesn xStatePagesc, .slice xStateRowsA xStateRowsn xStateRowsc, .int .i64 xStateGroupEpoch, .slice xStateGroupMembersA xStateGroupMembersn xStateGroupMembersc, .slice xLogA xLogn xLogc] _
  have hbw0 : Below w.heap.size w w0 := by rw [← hw0]; exact (Below.refl _ _).alloc (Nat.le_refl _) _
  have Hw0 := hide hw0
  clear hw0
  have hL0 := hL.below hbw0
  have hA0 := RowAt.go hA hbw0
  have hS0 := led_state hL0
  simp only [List.take_succ_cons, List.take_zero] at hS0
  have z0 := hbw0.size
  have y0 := Blk.cell hBw0 (j := 0) rfl; have y1 := Blk.cell hBw0 (j := 1) rfl; have y2 := Blk.cell hBw0 (j := 2) rfl; have y3 := Blk.cell hBw0 (j := 3) rfl; have y4 := Blk.cell hBw0 (j := 4) rfl; have y5 := Blk.cell hBw0 (j := 5) rfl; have y6 := Blk.cell hBw0 (j := 6) rfl; have y7 := Blk.cell hBw0 (j := 7) rfl
  have zz0 := fun (x : InC (fun W' => Below w0.heap.size w0 W')) => below_cell x.h y0
  have z1 := fun (x : InC (fun W' => Below w0.heap.size w0 W')) => below_cell x.h y1
  have z2 := fun (x : InC (fun W' => Below w0.heap.size w0 W')) => below_cell x.h y2
  have z3 := fun (x : InC (fun W' => Below w0.heap.size w0 W')) => below_cell x.h y3
  have z4 := fun (x : InC (fun W' => Below w0.heap.size w0 W')) => below_cell x.h y4
  have z5 := fun (x : InC (fun W' => Below w0.heap.size w0 W')) => below_cell x.h y5
  have z6 := fun (x : InC (fun W' => Below w0.heap.size w0 W')) => below_cell x.h y6
  have z7 := fun (x : InC (fun W' => Below w0.heap.size w0 W')) => below_cell x.h y7
  cases hSB : stateB (xStateNum, (xStateShapeBlocks, xStateShapeSize), xStatePages, xStateRows, (xStateGroupEpoch, xStateGroupMembers)) with
  | false =>
    have HR := hide (ledE_no (show ledB ((xStateNum, (xStateShapeBlocks, xStateShapeSize), xStatePages, xStateRows, (xStateGroupEpoch, xStateGroupMembers)), xLog) = false by unfold ledB; simp only [hSB, Bool.false_and]))
    have HB := hide (stE_no hSB)
    have HE := hide (rfl : entsB xLog = entsB xLog)
    clear hl_xLog hr_xLog he_xLog hq_xLog hA hSB hL0 hL
    go_enter Try.func34, Try.ntmps34
    go_wp2_with fail
    rw [Hw0.out]
    refine wp_region_in (fun W' => Below w0.heap.size w0 W') (Below.refl _ _).drew (by kernel_rfl) (by kernel_rfl) ?_
    repeat (go_big_quiet_step (first
      | (go_at_call 52; have hh := fun (x : InC (fun W' => Below w0.heap.size w0 W')) => rstate_any (hS0.below x.h); rw [HB.out] at hh; exact Calls.in_below (hh _))
      | (go_at_call 53; have hh := fun (x : InC (fun W' => Below w0.heap.size w0 W')) => rrow15_any (c := xLogc) (RowAt.go hA0 ((x.h).mono z0)) (Nat.le_trans z0 x.h.size) (by omega); rw [HE.out] at hh; exact Calls.in_below (hh _))))
    refine wpQuiet_nil ?_
    intro _ hw'
    obtain ⟨nq, hw''⟩ := hw'
    subst hw''
    have hbq := nq.h
    go_wp2
    go_ret
    exact ⟨by rw [HR.out]; rfl, hbw0.trans (hbq.mono z0)⟩
  | true =>
    have HB := hide (stE_ok hSB)
    cases hE : entsB xLog with
    | false =>
      have HR := hide (ledE_no (show ledB ((xStateNum, (xStateShapeBlocks, xStateShapeSize), xStatePages, xStateRows, (xStateGroupEpoch, xStateGroupMembers)), xLog) = false by unfold ledB; simp only [hE, Bool.false_and, Bool.and_false]))
      have HE := hide hE
      clear hl_xLog hr_xLog he_xLog hq_xLog hA hSB hL0 hL hE
      go_enter Try.func34, Try.ntmps34
      go_wp2_with fail
      rw [Hw0.out]
      refine wp_region_in (fun W' => Below w0.heap.size w0 W') (Below.refl _ _).drew (by kernel_rfl) (by kernel_rfl) ?_
      repeat (go_big_quiet_step (first
        | (go_at_call 52; have hh := fun (x : InC (fun W' => Below w0.heap.size w0 W')) => rstate_any (hS0.below x.h); rw [HB.out] at hh; exact Calls.in_below (hh _))
        | (go_at_call 53; have hh := fun (x : InC (fun W' => Below w0.heap.size w0 W')) => rrow15_any (c := xLogc) (RowAt.go hA0 ((x.h).mono z0)) (Nat.le_trans z0 x.h.size) (by omega); rw [HE.out] at hh; exact Calls.in_below (hh _))))
      refine wpQuiet_nil ?_
      intro _ hw'
      obtain ⟨nq, hw''⟩ := hw'
      subst hw''
      have hbq := nq.h
      go_wp2
      go_ret
      exact ⟨by rw [HR.out]; rfl, hbw0.trans (hbq.mono z0)⟩
    | true =>
      have HE := hide hE
      have hn := stateB_num hSB
      simp only at hn
      rcases Nat.eq_zero_or_pos xLogn with h0 | h0
      · have HR := hide (ledE_ok (show ledB ((xStateNum, (xStateShapeBlocks, xStateShapeSize), xStatePages, xStateRows, (xStateGroupEpoch, xStateGroupMembers)), xLog) = true by
          unfold ledB
          simp only [hE, hSB, Bool.true_and, List.eq_nil_of_length_eq_zero (hl_xLog.trans h0)]; rfl))
        have q : decide ((0 : Int) < (xLogn : Int)) = false := decide_eq_false (by omega)
        have q' : decide (0 < xLogn) = false := decide_eq_false (by omega)
        clear hl_xLog hr_xLog he_xLog hq_xLog hA hSB hL0 hL hE h0
        go_enter Try.func34, Try.ntmps34
        go_wp2_with fail
        rw [Hw0.out]
        refine wp_region_in (fun W' => Below w0.heap.size w0 W') (Below.refl _ _).drew (by kernel_rfl) (by kernel_rfl) ?_
        repeat (go_big_quiet_step (first
          | (go_at_call 52; have hh := fun (x : InC (fun W' => Below w0.heap.size w0 W')) => rstate_any (hS0.below x.h); rw [HB.out] at hh; exact Calls.in_below (hh _))
          | (go_at_call 53; have hh := fun (x : InC (fun W' => Below w0.heap.size w0 W')) => rrow15_any (c := xLogc) (RowAt.go hA0 ((x.h).mono z0)) (Nat.le_trans z0 x.h.size) (by omega); rw [HE.out] at hh; exact Calls.in_below (hh _))))
        refine wpQuiet_nil ?_
        intro _ hw'
        obtain ⟨nq, hw''⟩ := hw'
        subst hw''
        have hbq := nq.h
        go_wp2
        go_ret
        exact ⟨by rw [HR.out]; rfl, hbw0.trans (hbq.mono z0)⟩
      · obtain ⟨f, p, ds, hf, hAp, hJ, hat, hc⟩ := hA0.at_ (by decide) (Below.refl _ _) h0
        subst hAp
        have hfb := entryB_num (entsB_out hE hf).1
        have hlb : ledB ((xStateNum, (xStateShapeBlocks, xStateShapeSize), xStatePages, xStateRows, (xStateGroupEpoch, xStateGroupMembers)), xLog) = (f.2.1 - 1 == xStateNum) := by
          unfold ledB
          simp only [hE, hSB, Bool.true_and]
          have hne : xLog ≠ [] := fun e => by rw [e] at hf; cases hf
          rw [show xLog.isEmpty = false by simpa using hne, Bool.false_or, num0_of hf]
          exact beq_shift f.2.1 xStateNum
        obtain ⟨fKind, fNum, fView, fClient, fSerial, fOpKind, fOpAt, fOpN, fOpData, fOpDataA, fOpDatan, fOpDatac, fOpOld, fOpOldA, fOpOldn, fOpOldc, fGroupEpoch, fGroupMembers, fGroupMembersA, fGroupMembersn, fGroupMembersc, fGroupMembersv, rfl, rfl, hu_fKind, h1_fNum, h2_fNum, h1_fView, h2_fView, h1_fClient, h2_fClient, h1_fSerial, h2_fSerial, hu_fOpKind, h1_fOpAt, h2_fOpAt, h1_fOpN, h2_fOpN, hl_fOpData, hc_fOpData, hm_fOpData, hr_fOpData, hq_fOpData, hl_fOpOld, hc_fOpOld, hm_fOpOld, hr_fOpOld, hq_fOpOld, h1_fGroupEpoch, h2_fGroupEpoch, hl_fGroupMembers, hc_fGroupMembers, hm_fGroupMembers, hr_fGroupMembers, hq_fGroupMembers, he_fGroupMembers⟩ := Entry_out hJ
        simp only at hfb hlb
        have yf := el_0S (n := 12) (i := 0) hat (hc 1 _ rfl)
        have zf := fun (x : InC (fun W' => Below w0.heap.size w0 W')) => below_cell x.h yf
        have q : decide ((0 : Int) < (xLogn : Int)) = true := decide_eq_true (by omega)
        have q' : decide (0 < xLogn) = true := decide_eq_true (by omega)
        have q2 : (0 : Int) < (xLogn : Int) := by omega
        have g7 : IntKind.i64.wrap (fNum - 1) = fNum - 1 := IntWalk.i64_in _ (by omega)
        have HLB := hide hlb
        clear hl_xLog hr_xLog he_xLog hq_xLog hA hL0 hL hE hSB hat hc hf hlb h0
        rcases bool_two (fNum - 1 == xStateNum) with e0 | e0
        · have HR := hide (ledE_ok (HLB.out.trans e0))
          have q3 : (fNum - 1 != xStateNum) = false := by simp only [bne, e0]; rfl
          clear e0 HLB
          go_enter Try.func34, Try.ntmps34
          go_wp2_with fail
          rw [Hw0.out]
          refine wp_region_in (fun W' => Below w0.heap.size w0 W') (Below.refl _ _).drew (by kernel_rfl) (by kernel_rfl) ?_
          repeat (go_big_quiet_step (first
            | (go_at_call 52; have hh := fun (x : InC (fun W' => Below w0.heap.size w0 W')) => rstate_any (hS0.below x.h); rw [HB.out] at hh; exact Calls.in_below (hh _))
            | (go_at_call 53; have hh := fun (x : InC (fun W' => Below w0.heap.size w0 W')) => rrow15_any (c := xLogc) (RowAt.go hA0 ((x.h).mono z0)) (Nat.le_trans z0 x.h.size) (by omega); rw [HE.out] at hh; exact Calls.in_below (hh _))))
          refine wpQuiet_nil ?_
          intro _ hw'
          obtain ⟨nq, hw''⟩ := hw'
          subst hw''
          have hbq := nq.h
          go_wp2
          go_ret
          exact ⟨by rw [HR.out]; rfl, hbw0.trans (hbq.mono z0)⟩
        · have HR := hide (ledE_no (HLB.out.trans e0))
          have q3 : (fNum - 1 != xStateNum) = true := by simp only [bne, e0]; rfl
          clear e0 HLB
          go_enter Try.func34, Try.ntmps34
          go_wp2_with fail
          rw [Hw0.out]
          refine wp_region_in (fun W' => Below w0.heap.size w0 W') (Below.refl _ _).drew (by kernel_rfl) (by kernel_rfl) ?_
          repeat (go_big_quiet_step (first
            | (go_at_call 52; have hh := fun (x : InC (fun W' => Below w0.heap.size w0 W')) => rstate_any (hS0.below x.h); rw [HB.out] at hh; exact Calls.in_below (hh _))
            | (go_at_call 53; have hh := fun (x : InC (fun W' => Below w0.heap.size w0 W')) => rrow15_any (c := xLogc) (RowAt.go hA0 ((x.h).mono z0)) (Nat.le_trans z0 x.h.size) (by omega); rw [HE.out] at hh; exact Calls.in_below (hh _))))
          refine wpQuiet_nil ?_
          intro _ hw'
          obtain ⟨nq, hw''⟩ := hw'
          subst hw''
          have hbq := nq.h
          go_wp2
          go_ret
          exact ⟨by rw [HR.out]; rfl, hbw0.trans (hbq.mono z0)⟩
end Go.Proofs.Ytfjffmjnnjckkaa
