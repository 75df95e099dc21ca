/- Stage 17: ledgers (written by gen_17b.py). -/
import Derived.Test.YtfjffmjnnjckkaaF17r
namespace Go.Proofs.Ytfjffmjnnjckkaa
set_option maxRecDepth 20000
open Go.RowKit Go.Px Go.Maps
set_option linter.unusedVariables false
set_option linter.unusedSimpArgs false
theorem led_log {w : World} {Q : Nat → Prop} {x : LedgerD} {cs : List Value} (h : tyLedger.Is w Q x cs) : ∃ A n c vs, cs[7]? = some (.slice A n c) ∧ RowAt tyEntry w w.heap.size A n x.2 vs ∧ n ≤ c ∧ c ≤ 9223372036854775807 := by
  obtain ⟨xStateNum, xStateShapeBlocks, xStateShapeSize, xStatePages, xStatePagesA, xStatePagesn, xStatePagesc, xStatePagesv, xStateRows, xStateRowsA, xStateRowsn, xStateRowsc, xStateRowsv, xStateGroupEpoch, xStateGroupMembers, xStateGroupMembersA, xStateGroupMembersn, xStateGroupMembersc, xStateGroupMembersv, xLog, xLogA, xLogn, xLogc, xLogv, rfl, rfl, h1_xStateNum, h2_xStateNum, h1_xStateShapeBlocks, h2_xStateShapeBlocks, h1_xStateShapeSize, h2_xStateShapeSize, hl_xStatePages, hc_xStatePages, hm_xStatePages, hr_xStatePages, hq_xStatePages, he_xStatePages, hl_xStateRows, hc_xStateRows, hm_xStateRows, hr_xStateRows, hq_xStateRows, he_xStateRows, h1_xStateGroupEpoch, h2_xStateGroupEpoch, hl_xStateGroupMembers, hc_xStateGroupMembers, hm_xStateGroupMembers, hr_xStateGroupMembers, hq_xStateGroupMembers, he_xStateGroupMembers, hl_xLog, hc_xLog, hm_xLog, hr_xLog, hq_xLog, he_xLog⟩ := Ledger_out h
  exact ⟨xLogA, xLogn, xLogc, xLogv, rfl, rowAt_of (by decide) hl_xLog hr_xLog he_xLog, hc_xLog, hm_xLog⟩
theorem led_state {w : World} {Q : Nat → Prop} {x : LedgerD} {cs : List Value} (h : tyLedger.Is w Q x cs) : tyState.Is w Q x.1 (cs.take 7) := h.1
def fstI (x : LedgerD) : Int := if x.2 = [] then IntKind.i64.wrap (x.1.1 + 1) else num0 x.2
set_option maxRecDepth 20000 in
set_option maxHeartbeats 3200000 in
theorem first17_any {w : World} {Q : Nat → Prop} {x : LedgerD} {cs : List Value} (h : tyLedger.Is w Q x cs) : Calls Try.prog 66 #[.agg cs.toArray] w fun e w' => e = .returned (.int .i64 (fstI x)) ∧ Below w.heap.size w w' := by
  have hL := h
  obtain ⟨xStateNum, xStateShapeBlocks, xStateShapeSize, xStatePages, xStatePagesA, xStatePagesn, xStatePagesc, xStatePagesv, xStateRows, xStateRowsA, xStateRowsn, xStateRowsc, xStateRowsv, xStateGroupEpoch, xStateGroupMembers, xStateGroupMembersA, xStateGroupMembersn, xStateGroupMembersc, xStateGroupMembersv, xLog, xLogA, xLogn, xLogc, xLogv, rfl, rfl, h1_xStateNum, h2_xStateNum, h1_xStateShapeBlocks, h2_xStateShapeBlocks, h1_xStateShapeSize, h2_xStateShapeSize, hl_xStatePages, hc_xStatePages, hm_xStatePages, hr_xStatePages, hq_xStatePages, he_xStatePages, hl_xStateRows, hc_xStateRows, hm_xStateRows, hr_xStateRows, hq_xStateRows, he_xStateRows, h1_xStateGroupEpoch, h2_xStateGroupEpoch, hl_xStateGroupMembers, hc_xStateGroupMembers, hm_xStateGroupMembers, hr_xStateGroupMembers, hq_xStateGroupMembers, he_xStateGroupMembers, hl_xLog, hc_xLog, hm_xLog, hr_xLog, hq_xLog, he_xLog⟩ := Ledger_out h
  have hA := rowAt_of (t := tyEntry) (by decide) hl_xLog hr_xLog he_xLog
  obtain ⟨w0, hw0⟩ : ∃ x, w.alloc (.cells #[.int .i64 xStateNum, .int .i64 xStateShapeBlocks, .int .i64 xStateShapeSize, .slice xStatePagesA xStatePagesn xStatePagesc, .slice xStateRowsA xStateRowsn xStateRowsc, .int .i64 xStateGroupEpoch, .slice xStateGroupMembersA xStateGroupMembersn xStateGroupMembersc, .slice xLogA xLogn xLogc] 92) = x := ⟨_, rfl⟩
  have hBw0 : Blk w0 w.heap.size [.int .i64 xStateNum, .int .i64 xStateShapeBlocks, .int .i64 xStateShapeSize, .slice xStatePagesA xStatePagesn xStatePagesc, .slice xStateRowsA xStateRowsn xStateRowsc, .int .i64 xStateGroupEpoch, .slice xStateGroupMembersA xStateGroupMembersn xStateGroupMembersc, .slice xLogA xLogn xLogc] 92 := by rw [← hw0]; exact Blk.new w [.int .i64 xStateNum, .int .i64 xStateShapeBlocks, .int .i64 xStateShapeSize, .slice xStatePagesA xStatePagesn xStatePagesc, .slice xStateRowsA xStateRowsn xStateRowsc, .int .i64 xStateGroupEpoch, .slice xStateGroupMembersA xStateGroupMembersn xStateGroupMembersc, .slice xLogA xLogn xLogc] _
  have hbw0 : Below w.heap.size w w0 := by rw [← hw0]; exact (Below.refl _ _).alloc (Nat.le_refl _) _
  have Hw0 := hide hw0
  clear hw0
  have hL0 := hL.below hbw0
  have hA0 := RowAt.go hA hbw0
  have hS0 := led_state hL0
  simp only [List.take_succ_cons, List.take_zero] at hS0
  have z0 := hbw0.size
  have y0 := Blk.cell hBw0 (j := 0) rfl; have y1 := Blk.cell hBw0 (j := 1) rfl; have y2 := Blk.cell hBw0 (j := 2) rfl; have y3 := Blk.cell hBw0 (j := 3) rfl; have y4 := Blk.cell hBw0 (j := 4) rfl; have y5 := Blk.cell hBw0 (j := 5) rfl; have y6 := Blk.cell hBw0 (j := 6) rfl; have y7 := Blk.cell hBw0 (j := 7) rfl
  rcases Nat.eq_zero_or_pos xLogn with h0 | h0
  · have HF := hide (show fstI ((xStateNum, (xStateShapeBlocks, xStateShapeSize), xStatePages, xStateRows, (xStateGroupEpoch, xStateGroupMembers)), xLog) = IntKind.i64.wrap (xStateNum + 1) from if_pos (List.eq_nil_of_length_eq_zero (by rw [hl_xLog]; exact h0)))
    have q : decide ((0 : Int) < (xLogn : Int)) = false := decide_eq_false (by omega)
    have q' : decide (0 < xLogn) = false := decide_eq_false (by omega)
    clear hl_xLog hr_xLog he_xLog hq_xLog hA hA0 hL0 hL hS0 h0
    go_enter Try.func66, Try.ntmps66
    go_wp2
    go_ret
    exact ⟨by rw [HF.out, IntWalk.i64_left]; rfl, by first | (rw [Hw0.out]; exact hbw0) | exact hbw0⟩
  · obtain ⟨f, p, ds, hf, hAp, hJ, hat, hc⟩ := hA0.at_ (by decide) (Below.refl _ _) h0
    subst hAp
    have HF := hide (show fstI ((xStateNum, (xStateShapeBlocks, xStateShapeSize), xStatePages, xStateRows, (xStateGroupEpoch, xStateGroupMembers)), xLog) = f.2.1 by
      unfold fstI
      rw [if_neg (show ¬ xLog = [] from fun e => by rw [e] at hf; cases hf), num0_of hf])
    have q : decide ((0 : Int) < (xLogn : Int)) = true := decide_eq_true (by omega)
    have q' : decide (0 < xLogn) = true := decide_eq_true (by omega)
    have q2 : (0 : Int) < (xLogn : Int) := by omega
    obtain ⟨fKind, fNum, fView, fClient, fSerial, fOpKind, fOpAt, fOpN, fOpData, fOpDataA, fOpDatan, fOpDatac, fOpOld, fOpOldA, fOpOldn, fOpOldc, fGroupEpoch, fGroupMembers, fGroupMembersA, fGroupMembersn, fGroupMembersc, fGroupMembersv, rfl, rfl, hu_fKind, h1_fNum, h2_fNum, h1_fView, h2_fView, h1_fClient, h2_fClient, h1_fSerial, h2_fSerial, hu_fOpKind, h1_fOpAt, h2_fOpAt, h1_fOpN, h2_fOpN, hl_fOpData, hc_fOpData, hm_fOpData, hr_fOpData, hq_fOpData, hl_fOpOld, hc_fOpOld, hm_fOpOld, hr_fOpOld, hq_fOpOld, h1_fGroupEpoch, h2_fGroupEpoch, hl_fGroupMembers, hc_fGroupMembers, hm_fGroupMembers, hr_fGroupMembers, hq_fGroupMembers, he_fGroupMembers⟩ := Entry_out hJ
    have yf := el_0S (n := 12) (i := 0) hat (hc 1 _ rfl)
    rw [← Hw0.out] at yf
    clear hl_xLog hr_xLog he_xLog hq_xLog hA hA0 hL0 hL hS0 hat hc hf
    go_enter Try.func66, Try.ntmps66
    go_wp2
    go_ret
    exact ⟨by rw [HF.out]; first | rfl | (rw [IntWalk.i64_left]; rfl), by first | (rw [Hw0.out]; exact hbw0) | exact hbw0⟩
set_option maxRecDepth 20000 in
set_option maxHeartbeats 3200000 in
theorem mlast17_any {w : World} {Q : Nat → Prop} {x : LedgerD} {cs : List Value} (h : tyLedger.Is w Q x cs) : Calls Try.prog 51 #[.agg cs.toArray] w fun e w' => e = .returned (.int .i64 (lastW x)) ∧ Below w.heap.size w w' := by
  have hL := h
  obtain ⟨xStateNum, xStateShapeBlocks, xStateShapeSize, xStatePages, xStatePagesA, xStatePagesn, xStatePagesc, xStatePagesv, xStateRows, xStateRowsA, xStateRowsn, xStateRowsc, xStateRowsv, xStateGroupEpoch, xStateGroupMembers, xStateGroupMembersA, xStateGroupMembersn, xStateGroupMembersc, xStateGroupMembersv, xLog, xLogA, xLogn, xLogc, xLogv, rfl, rfl, h1_xStateNum, h2_xStateNum, h1_xStateShapeBlocks, h2_xStateShapeBlocks, h1_xStateShapeSize, h2_xStateShapeSize, hl_xStatePages, hc_xStatePages, hm_xStatePages, hr_xStatePages, hq_xStatePages, he_xStatePages, hl_xStateRows, hc_xStateRows, hm_xStateRows, hr_xStateRows, hq_xStateRows, he_xStateRows, h1_xStateGroupEpoch, h2_xStateGroupEpoch, hl_xStateGroupMembers, hc_xStateGroupMembers, hm_xStateGroupMembers, hr_xStateGroupMembers, hq_xStateGroupMembers, he_xStateGroupMembers, hl_xLog, hc_xLog, hm_xLog, hr_xLog, hq_xLog, he_xLog⟩ := Ledger_out h
  have hA := rowAt_of (t := tyEntry) (by decide) hl_xLog hr_xLog he_xLog
  obtain ⟨w0, hw0⟩ : ∃ x, w.alloc (.cells #[.int .i64 xStateNum, .int .i64 xStateShapeBlocks, .int .i64 xStateShapeSize, .slice xStatePagesA xStatePagesn xStatePagesc, .slice xStateRowsA xStateRowsn xStateRowsc, .int .i64 xStateGroupEpoch, .slice xStateGroupMembersA xStateGroupMembersn xStateGroupMembersc, .slice xLogA xLogn xLogc] 42) = x := ⟨_, rfl⟩
  have hBw0 : Blk w0 w.heap.size [.int .i64 xStateNum, .int .i64 xStateShapeBlocks, .int .i64 xStateShapeSize, .slice xStatePagesA xStatePagesn xStatePagesc, .slice xStateRowsA xStateRowsn xStateRowsc, .int .i64 xStateGroupEpoch, .slice xStateGroupMembersA xStateGroupMembersn xStateGroupMembersc, .slice xLogA xLogn xLogc] 42 := by rw [← hw0]; exact Blk.new w [.int .i64 xStateNum, .int .i64 xStateShapeBlocks, .int .i64 xStateShapeSize, .slice xStatePagesA xStatePagesn xStatePagesc, .slice xStateRowsA xStateRowsn xStateRowsc, .int .i64 xStateGroupEpoch, .slice xStateGroupMembersA xStateGroupMembersn xStateGroupMembersc, .slice xLogA xLogn xLogc] _
  have hbw0 : Below w.heap.size w w0 := by rw [← hw0]; exact (Below.refl _ _).alloc (Nat.le_refl _) _
  have Hw0 := hide hw0
  clear hw0
  have hL0 := hL.below hbw0
  have hA0 := RowAt.go hA hbw0
  have hS0 := led_state hL0
  simp only [List.take_succ_cons, List.take_zero] at hS0
  have z0 := hbw0.size
  have y0 := Blk.cell hBw0 (j := 0) rfl; have y1 := Blk.cell hBw0 (j := 1) rfl; have y2 := Blk.cell hBw0 (j := 2) rfl; have y3 := Blk.cell hBw0 (j := 3) rfl; have y4 := Blk.cell hBw0 (j := 4) rfl; have y5 := Blk.cell hBw0 (j := 5) rfl; have y6 := Blk.cell hBw0 (j := 6) rfl; have y7 := Blk.cell hBw0 (j := 7) rfl
  have HF := hide (show lastW ((xStateNum, (xStateShapeBlocks, xStateShapeSize), xStatePages, xStateRows, (xStateGroupEpoch, xStateGroupMembers)), xLog) = IntKind.i64.wrap (xStateNum + (xLogn : Int)) by unfold lastW; rw [show ((xLog.length : Nat) : Int) = (xLogn : Int) by rw [hl_xLog]])
  clear hl_xLog hr_xLog he_xLog hq_xLog hA hA0 hL0 hL hS0
  go_enter Try.func51, Try.ntmps51
  go_wp2
  go_ret
  exact ⟨by rw [HF.out]; first | rfl | (rw [IntWalk.i64_left]; rfl), by first | (rw [Hw0.out]; exact hbw0) | exact hbw0⟩
set_option maxRecDepth 20000 in
set_option maxHeartbeats 3200000 in
theorem rlast17_any {w : World} {Q : Nat → Prop} {x : LedgerD} {cs : List Value} (h : tyLedger.Is w Q x cs) : Calls Try.prog 35 #[.agg cs.toArray] w fun e w' => e = .returned (.int .i64 (lastW x)) ∧ Below w.heap.size w w' := by
  have hL := h
  obtain ⟨xStateNum, xStateShapeBlocks, xStateShapeSize, xStatePages, xStatePagesA, xStatePagesn, xStatePagesc, xStatePagesv, xStateRows, xStateRowsA, xStateRowsn, xStateRowsc, xStateRowsv, xStateGroupEpoch, xStateGroupMembers, xStateGroupMembersA, xStateGroupMembersn, xStateGroupMembersc, xStateGroupMembersv, xLog, xLogA, xLogn, xLogc, xLogv, rfl, rfl, h1_xStateNum, h2_xStateNum, h1_xStateShapeBlocks, h2_xStateShapeBlocks, h1_xStateShapeSize, h2_xStateShapeSize, hl_xStatePages, hc_xStatePages, hm_xStatePages, hr_xStatePages, hq_xStatePages, he_xStatePages, hl_xStateRows, hc_xStateRows, hm_xStateRows, hr_xStateRows, hq_xStateRows, he_xStateRows, h1_xStateGroupEpoch, h2_xStateGroupEpoch, hl_xStateGroupMembers, hc_xStateGroupMembers, hm_xStateGroupMembers, hr_xStateGroupMembers, hq_xStateGroupMembers, he_xStateGroupMembers, hl_xLog, hc_xLog, hm_xLog, hr_xLog, hq_xLog, he_xLog⟩ := Ledger_out h
  have hA := rowAt_of (t := tyEntry) (by decide) hl_xLog hr_xLog he_xLog
  obtain ⟨w0, hw0⟩ : ∃ x, w.alloc (.cells #[.int .i64 xStateNum, .int .i64 xStateShapeBlocks, .int .i64 xStateShapeSize, .slice xStatePagesA xStatePagesn xStatePagesc, .slice xStateRowsA xStateRowsn xStateRowsc, .int .i64 xStateGroupEpoch, .slice xStateGroupMembersA xStateGroupMembersn xStateGroupMembersc, .slice xLogA xLogn xLogc] 42) = x := ⟨_, rfl⟩
  have hBw0 : Blk w0 w.heap.size [.int .i64 xStateNum, .int .i64 xStateShapeBlocks, .int .i64 xStateShapeSize, .slice xStatePagesA xStatePagesn xStatePagesc, .slice xStateRowsA xStateRowsn xStateRowsc, .int .i64 xStateGroupEpoch, .slice xStateGroupMembersA xStateGroupMembersn xStateGroupMembersc, .slice xLogA xLogn xLogc] 42 := by rw [← hw0]; exact Blk.new w [.int .i64 xStateNum, .int .i64 xStateShapeBlocks, .int .i64 xStateShapeSize, .slice xStatePagesA xStatePagesn xStatePagesc, .slice xStateRowsA xStateRowsn xStateRowsc, .int .i64 xStateGroupEpoch, .slice xStateGroupMembersA xStateGroupMembersn xStateGroupMembersc, .slice xLogA xLogn xLogc] _
  have hbw0 : Below w.heap.size w w0 := by rw [← hw0]; exact (Below.refl _ _).alloc (Nat.le_refl _) _
  have Hw0 := hide hw0
  clear hw0
  have hL0 := hL.below hbw0
  have hA0 := RowAt.go hA hbw0
  have hS0 := led_state hL0
  simp only [List.take_succ_cons, List.take_zero] at hS0
  have z0 := hbw0.size
  have y0 := Blk.cell hBw0 (j := 0) rfl; have y1 := Blk.cell hBw0 (j := 1) rfl; have y2 := Blk.cell hBw0 (j := 2) rfl; have y3 := Blk.cell hBw0 (j := 3) rfl; have y4 := Blk.cell hBw0 (j := 4) rfl; have y5 := Blk.cell hBw0 (j := 5) rfl; have y6 := Blk.cell hBw0 (j := 6) rfl; have y7 := Blk.cell hBw0 (j := 7) rfl
  have HF := hide (show lastW ((xStateNum, (xStateShapeBlocks, xStateShapeSize), xStatePages, xStateRows, (xStateGroupEpoch, xStateGroupMembers)), xLog) = IntKind.i64.wrap (xStateNum + (xLogn : Int)) by unfold lastW; rw [show ((xLog.length : Nat) : Int) = (xLogn : Int) by rw [hl_xLog]])
  clear hl_xLog hr_xLog he_xLog hq_xLog hA hA0 hL0 hL hS0
  go_enter Try.func35, Try.ntmps35
  go_wp2
  go_ret
  exact ⟨by rw [HF.out]; first | rfl | (rw [IntWalk.i64_left]; rfl), by first | (rw [Hw0.out]; exact hbw0) | exact hbw0⟩
set_option maxRecDepth 20000 in
set_option maxHeartbeats 6400000 in
theorem toldMay_any {w : World} {Q : Nat → Prop} {x : LedgerD} {cs : List Value} (h : tyLedger.Is w Q x cs) : Calls Try.prog 50 #[.agg cs.toArray, .bool true] w fun e w' => e = .returned (.bool (ledB x)) ∧ Below w.heap.size w w' := by
  have hL := h
  obtain ⟨xStateNum, xStateShapeBlocks, xStateShapeSize, xStatePages, xStatePagesA, xStatePagesn, xStatePagesc, xStatePagesv, xStateRows, xStateRowsA, xStateRowsn, xStateRowsc, xStateRowsv, xStateGroupEpoch, xStateGroupMembers, xStateGroupMembersA, xStateGroupMembersn, xStateGroupMembersc, xStateGroupMembersv, xLog, xLogA, xLogn, xLogc, xLogv, rfl, rfl, h1_xStateNum, h2_xStateNum, h1_xStateShapeBlocks, h2_xStateShapeBlocks, h1_xStateShapeSize, h2_xStateShapeSize, hl_xStatePages, hc_xStatePages, hm_xStatePages, hr_xStatePages, hq_xStatePages, he_xStatePages, hl_xStateRows, hc_xStateRows, hm_xStateRows, hr_xStateRows, hq_xStateRows, he_xStateRows, h1_xStateGroupEpoch, h2_xStateGroupEpoch, hl_xStateGroupMembers, hc_xStateGroupMembers, hm_xStateGroupMembers, hr_xStateGroupMembers, hq_xStateGroupMembers, he_xStateGroupMembers, hl_xLog, hc_xLog, hm_xLog, hr_xLog, hq_xLog, he_xLog⟩ := Ledger_out h
  have hA := rowAt_of (t := tyEntry) (by decide) hl_xLog hr_xLog he_xLog
  obtain ⟨w0, hw0⟩ : ∃ x, w.alloc (.cells #[.int .i64 xStateNum, .int .i64 xStateShapeBlocks, .int .i64 xStateShapeSize, .slice xStatePagesA xStatePagesn xStatePagesc, .slice xStateRowsA xStateRowsn xStateRowsc, .int .i64 xStateGroupEpoch, .slice xStateGroupMembersA xStateGroupMembersn xStateGroupMembersc, .slice xLogA xLogn xLogc] 92) = x := ⟨_, rfl⟩
  have hBw0 : Blk w0 w.heap.size [.int .i64 xStateNum, .int .i64 xStateShapeBlocks, .int .i64 xStateShapeSize, .slice xStatePagesA xStatePagesn xStatePagesc, .slice xStateRowsA xStateRowsn xStateRowsc, .int .i64 xStateGroupEpoch, .slice xStateGroupMembersA xStateGroupMembersn xStateGroupMembersc, .slice xLogA xLogn xLogc] 92 := by rw [← hw0]; exact Blk.new w [.int .i64 xStateNum, .int .i64 xStateShapeBlocks, .int .i64 xStateShapeSize, .slice xStatePagesA xStatePagesn xStatePagesc, .slice xStateRowsA xStateRowsn xStateRowsc, .int .i64 xStateGroupEpoch, .slice xStateGroupMembersA xStateGroupMembersn xStateGroupMembersc, .slice xLogA xLogn xLogc] _
  have hbw0 : Below w.heap.size w w0 := by rw [← hw0]; exact (Below.refl _ _).alloc (Nat.le_refl _) _
  have Hw0 := hide hw0
  clear hw0
  have hL0 := hL.below hbw0
  have hA0 := RowAt.go hA hbw0
  have hS0 := led_state hL0
  simp only [List.take_succ_cons, List.take_zero] at hS0
  have z0 := hbw0.size
  have HE := hide (mayEntries_any (c := xLogc) hA0 hbw0.size (by omega))
  have y0 := Blk.cell hBw0 (j := 0) rfl; have y1 := Blk.cell hBw0 (j := 1) rfl; have y2 := Blk.cell hBw0 (j := 2) rfl; have y3 := Blk.cell hBw0 (j := 3) rfl; have y4 := Blk.cell hBw0 (j := 4) rfl; have y5 := Blk.cell hBw0 (j := 5) rfl; have y6 := Blk.cell hBw0 (j := 6) rfl; have y7 := Blk.cell hBw0 (j := 7) rfl
  clear hl_xLog hr_xLog he_xLog hq_xLog hA
  cases hE : entsB xLog with
  | false =>
    have HF := hide (show ledB ((xStateNum, (xStateShapeBlocks, xStateShapeSize), xStatePages, xStateRows, (xStateGroupEpoch, xStateGroupMembers)), xLog) = false by unfold ledB; simp only [hE, Bool.false_and, Bool.and_false])
    have HB := hide hE
    clear hE hA0 hL0 hL hS0
    go_enter Try.func50, Try.ntmps50
    go_wp2_with fail
    rw [Hw0.out]
    go_fit HE.out
    rw [HB.out]
    rintro xx w1 ⟨rfl, hb1⟩
    go_wp2
    go_ret
    exact ⟨by rw [HF.out]; rfl, hbw0.trans (hb1.mono hbw0.size)⟩
  | true =>
    have HE2 := hide hE
    obtain ⟨SB, hSB⟩ : ∃ b, stateB (xStateNum, (xStateShapeBlocks, xStateShapeSize), xStatePages, xStateRows, (xStateGroupEpoch, xStateGroupMembers)) = b := ⟨_, rfl⟩
    obtain ⟨FI, hFI⟩ : ∃ b, fstI ((xStateNum, (xStateShapeBlocks, xStateShapeSize), xStatePages, xStateRows, (xStateGroupEpoch, xStateGroupMembers)), xLog) = b := ⟨_, rfl⟩
    have hL1 : ledB ((xStateNum, (xStateShapeBlocks, xStateShapeSize), xStatePages, xStateRows, (xStateGroupEpoch, xStateGroupMembers)), xLog) = (SB && (FI == IntKind.i64.wrap (xStateNum + 1))) := by
      unfold ledB
      simp only [hE, hSB, Bool.true_and]
      cases SB with
      | false => rfl
      | true =>
        have hn := stateB_num hSB
        have hw : IntKind.i64.wrap (xStateNum + 1) = xStateNum + 1 := IntWalk.i64_in _ (by simp only at hn; omega)
        rw [← hFI]
        unfold fstI
        cases xLog with
        | nil => simp
        | cons a b =>
          rw [if_neg (by simp), hw]
          simp [num0]
    have HL := hide hL1
    have HB := hide hSB
    have HF := hide hFI
    clear hE hA0 hL hSB hFI hL1
    go_enter Try.func50, Try.ntmps50
    go_wp2_with fail
    rw [Hw0.out]
    go_fit HE.out
    rw [HE2.out]
    rintro xx w1 ⟨rfl, hb1⟩
    have hL1 := hL0.below hb1
    have hS1 := hS0.below hb1
    have hB1 := hBw0.below hb1
    clear y0 y1 y2 y3 y4 y5 y6 y7 HE hL0 hS0
    have y0 := Blk.cell hB1 (j := 0) rfl; have y1 := Blk.cell hB1 (j := 1) rfl; have y2 := Blk.cell hB1 (j := 2) rfl; have y3 := Blk.cell hB1 (j := 3) rfl; have y4 := Blk.cell hB1 (j := 4) rfl; have y5 := Blk.cell hB1 (j := 5) rfl; have y6 := Blk.cell hB1 (j := 6) rfl; have y7 := Blk.cell hB1 (j := 7) rfl
    have z0 := fun (x : InC (fun W' => Below w1.heap.size w1 W')) => below_cell x.h y0
    have z1 := fun (x : InC (fun W' => Below w1.heap.size w1 W')) => below_cell x.h y1
    have z2 := fun (x : InC (fun W' => Below w1.heap.size w1 W')) => below_cell x.h y2
    have z3 := fun (x : InC (fun W' => Below w1.heap.size w1 W')) => below_cell x.h y3
    have z4 := fun (x : InC (fun W' => Below w1.heap.size w1 W')) => below_cell x.h y4
    have z5 := fun (x : InC (fun W' => Below w1.heap.size w1 W')) => below_cell x.h y5
    have z6 := fun (x : InC (fun W' => Below w1.heap.size w1 W')) => below_cell x.h y6
    have z7 := fun (x : InC (fun W' => Below w1.heap.size w1 W')) => below_cell x.h y7
    have Hb := hide (fun X (hX : Below w1.heap.size w1 X) => hbw0.trans ((hb1.trans (hX.mono hb1.size)).mono hbw0.size))
    obtain ⟨N1, hN1⟩ : ∃ b, IntKind.i64.wrap (xStateNum + 1) = b := ⟨_, rfl⟩
    have hl := HL.out
    rw [hN1] at hl
    cases SB with
    | false =>
      have HR := hide (hl.trans rfl)
      clear hl HL hN1
      go_wp2_with fail
      refine wp_region_in (fun W' => Below w1.heap.size w1 W') (Below.refl _ _).drew (by kernel_rfl) (by kernel_rfl) ?_
      repeat (go_big_quiet_step (first
        | (go_at_call 65; have hh := fun (x : InC (fun W' => Below w1.heap.size w1 W')) => mayState_any (hS1.below x.h); rw [HB.out] at hh; exact Calls.in_below (hh _))
        | (go_at_call 66; have hh := fun (x : InC (fun W' => Below w1.heap.size w1 W')) => first17_any (hL1.below x.h); rw [HF.out] at hh; exact Calls.in_below (hh _))))
      refine wpQuiet_nil ?_
      intro _ hw'
      obtain ⟨nq, hw''⟩ := hw'
      subst hw''
      have hbq := nq.h
      go_wp2
      go_ret
      exact ⟨by rw [HR.out]; rfl, Hb.out _ hbq⟩
    | true =>
      obtain ⟨E, hEq⟩ : ∃ b, (FI == N1) = b := ⟨_, rfl⟩
      rw [hEq] at hl
      have HR := hide (hl.trans rfl)
      clear hl HL
      rw [← hN1, IntWalk.i64_left] at hEq
      clear hN1
      go_wp2_with fail
      refine wp_region_in (fun W' => Below w1.heap.size w1 W') (Below.refl _ _).drew (by kernel_rfl) (by kernel_rfl) ?_
      repeat (go_big_quiet_step (first
        | (go_at_call 65; have hh := fun (x : InC (fun W' => Below w1.heap.size w1 W')) => mayState_any (hS1.below x.h); rw [HB.out] at hh; exact Calls.in_below (hh _))
        | (go_at_call 66; have hh := fun (x : InC (fun W' => Below w1.heap.size w1 W')) => first17_any (hL1.below x.h); rw [HF.out] at hh; exact Calls.in_below (hh _))))
      refine wpQuiet_nil ?_
      intro _ hw'
      obtain ⟨nq, hw''⟩ := hw'
      subst hw''
      have hbq := nq.h
      go_wp2
      go_ret
      exact ⟨by rw [HR.out]; rfl, Hb.out _ hbq⟩
set_option maxHeartbeats 3200000 in
theorem mled_any {w : World} {Q : Nat → Prop} {x : LedgerD} {cs : List Value} (h : tyLedger.Is w Q x cs) : Calls Try.prog 31 #[.agg cs.toArray] w fun e w' => e = .returned (.int .i64 (ledE x)) ∧ Below w.heap.size w w' := by
  have hL := h
  obtain ⟨xStateNum, xStateShapeBlocks, xStateShapeSize, xStatePages, xStatePagesA, xStatePagesn, xStatePagesc, xStatePagesv, xStateRows, xStateRowsA, xStateRowsn, xStateRowsc, xStateRowsv, xStateGroupEpoch, xStateGroupMembers, xStateGroupMembersA, xStateGroupMembersn, xStateGroupMembersc, xStateGroupMembersv, xLog, xLogA, xLogn, xLogc, xLogv, rfl, rfl, h1_xStateNum, h2_xStateNum, h1_xStateShapeBlocks, h2_xStateShapeBlocks, h1_xStateShapeSize, h2_xStateShapeSize, hl_xStatePages, hc_xStatePages, hm_xStatePages, hr_xStatePages, hq_xStatePages, he_xStatePages, hl_xStateRows, hc_xStateRows, hm_xStateRows, hr_xStateRows, hq_xStateRows, he_xStateRows, h1_xStateGroupEpoch, h2_xStateGroupEpoch, hl_xStateGroupMembers, hc_xStateGroupMembers, hm_xStateGroupMembers, hr_xStateGroupMembers, hq_xStateGroupMembers, he_xStateGroupMembers, hl_xLog, hc_xLog, hm_xLog, hr_xLog, hq_xLog, he_xLog⟩ := Ledger_out h
  have hA := rowAt_of (t := tyEntry) (by decide) hl_xLog hr_xLog he_xLog
  obtain ⟨w0, hw0⟩ : ∃ x, w.alloc (.cells #[.int .i64 xStateNum, .int .i64 xStateShapeBlocks, .int .i64 xStateShapeSize, .slice xStatePagesA xStatePagesn xStatePagesc, .slice xStateRowsA xStateRowsn xStateRowsc, .int .i64 xStateGroupEpoch, .slice xStateGroupMembersA xStateGroupMembersn xStateGroupMembersc, .slice xLogA xLogn xLogc] 42) = x := ⟨_, rfl⟩
  have hBw0 : Blk w0 w.heap.size [.int .i64 xStateNum, .int .i64 xStateShapeBlocks, .int .i64 xStateShapeSize, .slice xStatePagesA xStatePagesn xStatePagesc, .slice xStateRowsA xStateRowsn xStateRowsc, .int .i64 xStateGroupEpoch, .slice xStateGroupMembersA xStateGroupMembersn xStateGroupMembersc, .slice xLogA xLogn xLogc] 42 := by rw [← hw0]; exact Blk.new w [.int .i64 xStateNum, .int .i64 xStateShapeBlocks, .int .i64 xStateShapeSize, .slice xStatePagesA xStatePagesn xStatePagesc, .slice xStateRowsA xStateRowsn xStateRowsc, .int .i64 xStateGroupEpoch, .slice xStateGroupMembersA xStateGroupMembersn xStateGroupMembersc, .slice xLogA xLogn xLogc] _
  have hbw0 : Below w.heap.size w w0 := by rw [← hw0]; exact (Below.refl _ _).alloc (Nat.le_refl _) _
  have Hw0 := hide hw0
  clear hw0
  have hL0 := hL.below hbw0
  have hA0 := RowAt.go hA hbw0
  have hS0 := led_state hL0
  simp only [List.take_succ_cons, List.take_zero] at hS0
  have z0 := hbw0.size
  have HT := hide (toldMay_any hL0)
  have y0 := Blk.cell hBw0 (j := 0) rfl; have y1 := Blk.cell hBw0 (j := 1) rfl; have y2 := Blk.cell hBw0 (j := 2) rfl; have y3 := Blk.cell hBw0 (j := 3) rfl; have y4 := Blk.cell hBw0 (j := 4) rfl; have y5 := Blk.cell hBw0 (j := 5) rfl; have y6 := Blk.cell hBw0 (j := 6) rfl; have y7 := Blk.cell hBw0 (j := 7) rfl
  clear hl_xLog hr_xLog he_xLog hq_xLog hA hA0 hS0 hL0 hL
  cases hE : ledB ((xStateNum, (xStateShapeBlocks, xStateShapeSize), xStatePages, xStateRows, (xStateGroupEpoch, xStateGroupMembers)), xLog) with
  | false =>
    have HF := hide (ledE_no hE)
    have HE := hide hE
    clear hE
    go_enter Try.func31, Try.ntmps31
    go_wp2_with fail
    rw [Hw0.out]
    go_fit HT.out
    rw [HE.out]
    rintro xx w1 ⟨rfl, hb1⟩
    go_wp2
    go_ret
    exact ⟨by rw [HF.out]; rfl, hbw0.trans (hb1.mono hbw0.size)⟩
  | true =>
    have HF := hide (ledE_ok hE)
    have HE := hide hE
    clear hE
    go_enter Try.func31, Try.ntmps31
    go_wp2_with fail
    rw [Hw0.out]
    go_fit HT.out
    rw [HE.out]
    rintro xx w1 ⟨rfl, hb1⟩
    go_wp2
    go_ret
    exact ⟨by rw [HF.out]; rfl, hbw0.trans (hb1.mono hbw0.size)⟩
end Go.Proofs.Ytfjffmjnnjckkaa
