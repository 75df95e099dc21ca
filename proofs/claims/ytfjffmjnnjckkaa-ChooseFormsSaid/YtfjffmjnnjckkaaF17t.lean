/- Stage 17: ledgers held against each other (written by gen_17t.py). -/
import Derived.Test.YtfjffmjnnjckkaaF17s
import Derived.Test.YtfjffmjnnjckkaaF17b
namespace Go.Proofs.Ytfjffmjnnjckkaa
set_option maxRecDepth 20000
open Go.RowKit Go.Px Go.Maps
set_option linter.unusedVariables false
set_option linter.unusedSimpArgs false
/-- Are two ledgers alike? -/
def eqLd (x y : LedgerD) : Bool := eqSt x.1 y.1 && decide (x.2 = y.2)
theorem eqLd_self (x : LedgerD) : eqLd x x = true := by unfold eqLd; rw [eqSt_self]; simp
set_option maxRecDepth 20000 in
set_option maxHeartbeats 12800000 in
theorem toldSame_any {w : World} {Q Q' : Nat → Prop} {x y : LedgerD} {cs ds : List Value} (h : tyLedger.Is w Q x cs) (h' : tyLedger.Is w Q' y ds) : Calls Try.prog 54 #[.agg cs.toArray, .agg ds.toArray] w fun e w' => e = .returned (.bool (eqLd x y)) ∧ Below w.heap.size w w' := by
  have h9 := h
  have h9' := h'
  obtain ⟨sStateNum, sStateShapeBlocks, sStateShapeSize, sStatePages, sStatePagesA, sStatePagesn, sStatePagesc, sStatePagesv, sStateRows, sStateRowsA, sStateRowsn, sStateRowsc, sStateRowsv, sStateGroupEpoch, sStateGroupMembers, sStateGroupMembersA, sStateGroupMembersn, sStateGroupMembersc, sStateGroupMembersv, sLog, sLogA, sLogn, sLogc, sLogv, rfl, rfl, h1_sStateNum, h2_sStateNum, h1_sStateShapeBlocks, h2_sStateShapeBlocks, h1_sStateShapeSize, h2_sStateShapeSize, hl_sStatePages, hc_sStatePages, hm_sStatePages, hr_sStatePages, hq_sStatePages, he_sStatePages, hl_sStateRows, hc_sStateRows, hm_sStateRows, hr_sStateRows, hq_sStateRows, he_sStateRows, h1_sStateGroupEpoch, h2_sStateGroupEpoch, hl_sStateGroupMembers, hc_sStateGroupMembers, hm_sStateGroupMembers, hr_sStateGroupMembers, hq_sStateGroupMembers, he_sStateGroupMembers, hl_sLog, hc_sLog, hm_sLog, hr_sLog, hq_sLog, he_sLog⟩ := Ledger_out h
  obtain ⟨tStateNum, tStateShapeBlocks, tStateShapeSize, tStatePages, tStatePagesA, tStatePagesn, tStatePagesc, tStatePagesv, tStateRows, tStateRowsA, tStateRowsn, tStateRowsc, tStateRowsv, tStateGroupEpoch, tStateGroupMembers, tStateGroupMembersA, tStateGroupMembersn, tStateGroupMembersc, tStateGroupMembersv, tLog, tLogA, tLogn, tLogc, tLogv, rfl, rfl, h1_tStateNum, h2_tStateNum, h1_tStateShapeBlocks, h2_tStateShapeBlocks, h1_tStateShapeSize, h2_tStateShapeSize, hl_tStatePages, hc_tStatePages, hm_tStatePages, hr_tStatePages, hq_tStatePages, he_tStatePages, hl_tStateRows, hc_tStateRows, hm_tStateRows, hr_tStateRows, hq_tStateRows, he_tStateRows, h1_tStateGroupEpoch, h2_tStateGroupEpoch, hl_tStateGroupMembers, hc_tStateGroupMembers, hm_tStateGroupMembers, hr_tStateGroupMembers, hq_tStateGroupMembers, he_tStateGroupMembers, hl_tLog, hc_tLog, hm_tLog, hr_tLog, hq_tLog, he_tLog⟩ := Ledger_out h'
  have hAs := rowAt_of (t := tyEntry) (by decide) hl_sLog hr_sLog he_sLog
  have hAt := rowAt_of (t := tyEntry) (by decide) hl_tLog hr_tLog he_tLog
  obtain ⟨g, hg⟩ : ∃ g, w.heap.size = g := ⟨_, rfl⟩
  obtain ⟨w0, hw0⟩ : ∃ x, (w.alloc (.cells #[.int .i64 sStateNum, .int .i64 sStateShapeBlocks, .int .i64 sStateShapeSize, .slice sStatePagesA sStatePagesn sStatePagesc, .slice sStateRowsA sStateRowsn sStateRowsc, .int .i64 sStateGroupEpoch, .slice sStateGroupMembersA sStateGroupMembersn sStateGroupMembersc, .slice sLogA sLogn sLogc] 92)).alloc (.cells #[.int .i64 tStateNum, .int .i64 tStateShapeBlocks, .int .i64 tStateShapeSize, .slice tStatePagesA tStatePagesn tStatePagesc, .slice tStateRowsA tStateRowsn tStateRowsc, .int .i64 tStateGroupEpoch, .slice tStateGroupMembersA tStateGroupMembersn tStateGroupMembersc, .slice tLogA tLogn tLogc] 92) = x := ⟨_, rfl⟩
  have hS : Blk w0 g [.int .i64 sStateNum, .int .i64 sStateShapeBlocks, .int .i64 sStateShapeSize, .slice sStatePagesA sStatePagesn sStatePagesc, .slice sStateRowsA sStateRowsn sStateRowsc, .int .i64 sStateGroupEpoch, .slice sStateGroupMembersA sStateGroupMembersn sStateGroupMembersc, .slice sLogA sLogn sLogc] 92 := by rw [← hw0, ← hg]; exact (Blk.new w [.int .i64 sStateNum, .int .i64 sStateShapeBlocks, .int .i64 sStateShapeSize, .slice sStatePagesA sStatePagesn sStatePagesc, .slice sStateRowsA sStateRowsn sStateRowsc, .int .i64 sStateGroupEpoch, .slice sStateGroupMembersA sStateGroupMembersn sStateGroupMembersc, .slice sLogA sLogn sLogc] _).alloc _
  have hT : Blk w0 (g + 1) [.int .i64 tStateNum, .int .i64 tStateShapeBlocks, .int .i64 tStateShapeSize, .slice tStatePagesA tStatePagesn tStatePagesc, .slice tStateRowsA tStateRowsn tStateRowsc, .int .i64 tStateGroupEpoch, .slice tStateGroupMembersA tStateGroupMembersn tStateGroupMembersc, .slice tLogA tLogn tLogc] 92 := by
    rw [← hw0, ← hg]
    have := Blk.new (w.alloc (.cells #[.int .i64 sStateNum, .int .i64 sStateShapeBlocks, .int .i64 sStateShapeSize, .slice sStatePagesA sStatePagesn sStatePagesc, .slice sStateRowsA sStateRowsn sStateRowsc, .int .i64 sStateGroupEpoch, .slice sStateGroupMembersA sStateGroupMembersn sStateGroupMembersc, .slice sLogA sLogn sLogc] 92)) [.int .i64 tStateNum, .int .i64 tStateShapeBlocks, .int .i64 tStateShapeSize, .slice tStatePagesA tStatePagesn tStatePagesc, .slice tStateRowsA tStateRowsn tStateRowsc, .int .i64 tStateGroupEpoch, .slice tStateGroupMembersA tStateGroupMembersn tStateGroupMembersc, .slice tLogA tLogn tLogc] 92
    rwa [World.size_alloc] at this
  have hb0 : Below w.heap.size w w0 := by rw [← hw0]; exact ((Below.refl _ _).alloc (Nat.le_refl _) _).alloc (by simp) _
  have HS := hide (fun W (hW : Below w.heap.size w W) => msameS_any ((led_state h9).below hW) ((led_state h9').below hW))
  simp only [List.take_succ_cons, List.take_zero] at HS
  have HE := hide (fun W (hW : Below w.heap.size w W) => equalE_any (c := sLogc) (c' := tLogc) (RowAt.go hAs hW) hW.size (RowAt.go hAt hW) hW.size (by omega))
  clear hl_sStatePages hr_sStatePages hq_sStatePages he_sStatePages hl_sStateRows hr_sStateRows hq_sStateRows he_sStateRows hl_sStateGroupMembers hr_sStateGroupMembers hq_sStateGroupMembers he_sStateGroupMembers hl_sLog hr_sLog hq_sLog he_sLog
  clear hl_tStatePages hr_tStatePages hq_tStatePages he_tStatePages hl_tStateRows hr_tStateRows hq_tStateRows he_tStateRows hl_tStateGroupMembers hr_tStateGroupMembers hq_tStateGroupMembers he_tStateGroupMembers hl_tLog hr_tLog hq_tLog he_tLog
  clear hAs hAt
  have Hw0 := hide hw0
  have Hg := hide hg
  clear hw0
  have HQ := hide (show eqLd ((sStateNum, (sStateShapeBlocks, sStateShapeSize), sStatePages, sStateRows, (sStateGroupEpoch, sStateGroupMembers)), sLog) ((tStateNum, (tStateShapeBlocks, tStateShapeSize), tStatePages, tStateRows, (tStateGroupEpoch, tStateGroupMembers)), tLog) = (eqSt (sStateNum, (sStateShapeBlocks, sStateShapeSize), sStatePages, sStateRows, (sStateGroupEpoch, sStateGroupMembers)) (tStateNum, (tStateShapeBlocks, tStateShapeSize), tStatePages, tStateRows, (tStateGroupEpoch, tStateGroupMembers)) && decide (sLog = tLog)) from rfl)
  have y0 := Blk.cell hS (j := 0) rfl; have y1 := Blk.cell hS (j := 1) rfl; have y2 := Blk.cell hS (j := 2) rfl; have y3 := Blk.cell hS (j := 3) rfl; have y4 := Blk.cell hS (j := 4) rfl; have y5 := Blk.cell hS (j := 5) rfl; have y6 := Blk.cell hS (j := 6) rfl; have y7 := Blk.cell hS (j := 7) rfl
  have z0 := Blk.cell hT (j := 0) rfl; have z1 := Blk.cell hT (j := 1) rfl; have z2 := Blk.cell hT (j := 2) rfl; have z3 := Blk.cell hT (j := 3) rfl; have z4 := Blk.cell hT (j := 4) rfl; have z5 := Blk.cell hT (j := 5) rfl; have z6 := Blk.cell hT (j := 6) rfl; have z7 := Blk.cell hT (j := 7) rfl
  rcases bool_two (eqSt (sStateNum, (sStateShapeBlocks, sStateShapeSize), sStatePages, sStateRows, (sStateGroupEpoch, sStateGroupMembers)) (tStateNum, (tStateShapeBlocks, tStateShapeSize), tStatePages, tStateRows, (tStateGroupEpoch, tStateGroupMembers))) with c1 | c1
  rotate_left
  · have HF := hide (show eqLd ((sStateNum, (sStateShapeBlocks, sStateShapeSize), sStatePages, sStateRows, (sStateGroupEpoch, sStateGroupMembers)), sLog) ((tStateNum, (tStateShapeBlocks, tStateShapeSize), tStatePages, tStateRows, (tStateGroupEpoch, tStateGroupMembers)), tLog) = false by rw [HQ.out]; simp only [c1, Bool.false_and])
    have Hc1 := hide c1
    clear c1
    go_enter Try.func54, Try.ntmps54
    go_wp2_with fail
    rw [Hw0.out]
    go_fit (HS.out w0 hb0)
    simp only [Hc1.out]
    rintro xx v1 ⟨rfl, hd1⟩
    go_wp2
    go_ret
    exact ⟨by rw [HF.out]; rfl, hb0.trans (hd1.mono hb0.size)⟩
  have HF := hide (show eqLd ((sStateNum, (sStateShapeBlocks, sStateShapeSize), sStatePages, sStateRows, (sStateGroupEpoch, sStateGroupMembers)), sLog) ((tStateNum, (tStateShapeBlocks, tStateShapeSize), tStatePages, tStateRows, (tStateGroupEpoch, tStateGroupMembers)), tLog) = decide (sLog = tLog) by rw [HQ.out]; simp only [c1, Bool.true_and])
  have Hc1 := hide c1
  clear c1
  go_enter Try.func54, Try.ntmps54
  go_wp2_with fail
  rw [Hw0.out]
  go_fit (HS.out w0 hb0)
  simp only [Hc1.out]
  rintro xx v1 ⟨rfl, hd1⟩
  have he1 := hb0.trans (hd1.mono hb0.size)
  replace hS := hS.below hd1
  replace hT := hT.below hd1
  clear y0 y1 y2 y3 y4 y5 y6 y7 z0 z1 z2 z3 z4 z5 z6 z7
  have y0 := Blk.cell hS (j := 0) rfl; have y1 := Blk.cell hS (j := 1) rfl; have y2 := Blk.cell hS (j := 2) rfl; have y3 := Blk.cell hS (j := 3) rfl; have y4 := Blk.cell hS (j := 4) rfl; have y5 := Blk.cell hS (j := 5) rfl; have y6 := Blk.cell hS (j := 6) rfl; have y7 := Blk.cell hS (j := 7) rfl
  have z0 := Blk.cell hT (j := 0) rfl; have z1 := Blk.cell hT (j := 1) rfl; have z2 := Blk.cell hT (j := 2) rfl; have z3 := Blk.cell hT (j := 3) rfl; have z4 := Blk.cell hT (j := 4) rfl; have z5 := Blk.cell hT (j := 5) rfl; have z6 := Blk.cell hT (j := 6) rfl; have z7 := Blk.cell hT (j := 7) rfl
  go_wp2_with fail
  go_fit (HE.out v1 he1)
  rintro xx v2 ⟨rfl, hd2⟩
  go_wp2
  go_ret
  exact ⟨by rw [HF.out]; rfl, he1.trans (hd2.mono he1.size)⟩
set_option maxRecDepth 20000 in
set_option maxHeartbeats 12800000 in
theorem mledSame_any {w : World} {Q Q' : Nat → Prop} {x y : LedgerD} {cs ds : List Value} (h : tyLedger.Is w Q x cs) (h' : tyLedger.Is w Q' y ds) : Calls Try.prog 36 #[.agg cs.toArray, .agg ds.toArray] w fun e w' => e = .returned (.bool (eqLd x y)) ∧ Below w.heap.size w w' := by
  have h9 := h
  have h9' := h'
  obtain ⟨sStateNum, sStateShapeBlocks, sStateShapeSize, sStatePages, sStatePagesA, sStatePagesn, sStatePagesc, sStatePagesv, sStateRows, sStateRowsA, sStateRowsn, sStateRowsc, sStateRowsv, sStateGroupEpoch, sStateGroupMembers, sStateGroupMembersA, sStateGroupMembersn, sStateGroupMembersc, sStateGroupMembersv, sLog, sLogA, sLogn, sLogc, sLogv, rfl, rfl, h1_sStateNum, h2_sStateNum, h1_sStateShapeBlocks, h2_sStateShapeBlocks, h1_sStateShapeSize, h2_sStateShapeSize, hl_sStatePages, hc_sStatePages, hm_sStatePages, hr_sStatePages, hq_sStatePages, he_sStatePages, hl_sStateRows, hc_sStateRows, hm_sStateRows, hr_sStateRows, hq_sStateRows, he_sStateRows, h1_sStateGroupEpoch, h2_sStateGroupEpoch, hl_sStateGroupMembers, hc_sStateGroupMembers, hm_sStateGroupMembers, hr_sStateGroupMembers, hq_sStateGroupMembers, he_sStateGroupMembers, hl_sLog, hc_sLog, hm_sLog, hr_sLog, hq_sLog, he_sLog⟩ := Ledger_out h
  obtain ⟨tStateNum, tStateShapeBlocks, tStateShapeSize, tStatePages, tStatePagesA, tStatePagesn, tStatePagesc, tStatePagesv, tStateRows, tStateRowsA, tStateRowsn, tStateRowsc, tStateRowsv, tStateGroupEpoch, tStateGroupMembers, tStateGroupMembersA, tStateGroupMembersn, tStateGroupMembersc, tStateGroupMembersv, tLog, tLogA, tLogn, tLogc, tLogv, rfl, rfl, h1_tStateNum, h2_tStateNum, h1_tStateShapeBlocks, h2_tStateShapeBlocks, h1_tStateShapeSize, h2_tStateShapeSize, hl_tStatePages, hc_tStatePages, hm_tStatePages, hr_tStatePages, hq_tStatePages, he_tStatePages, hl_tStateRows, hc_tStateRows, hm_tStateRows, hr_tStateRows, hq_tStateRows, he_tStateRows, h1_tStateGroupEpoch, h2_tStateGroupEpoch, hl_tStateGroupMembers, hc_tStateGroupMembers, hm_tStateGroupMembers, hr_tStateGroupMembers, hq_tStateGroupMembers, he_tStateGroupMembers, hl_tLog, hc_tLog, hm_tLog, hr_tLog, hq_tLog, he_tLog⟩ := Ledger_out h'
  obtain ⟨g, hg⟩ : ∃ g, w.heap.size = g := ⟨_, rfl⟩
  obtain ⟨w0, hw0⟩ : ∃ x, (w.alloc (.cells #[.int .i64 sStateNum, .int .i64 sStateShapeBlocks, .int .i64 sStateShapeSize, .slice sStatePagesA sStatePagesn sStatePagesc, .slice sStateRowsA sStateRowsn sStateRowsc, .int .i64 sStateGroupEpoch, .slice sStateGroupMembersA sStateGroupMembersn sStateGroupMembersc, .slice sLogA sLogn sLogc] 42)).alloc (.cells #[.int .i64 tStateNum, .int .i64 tStateShapeBlocks, .int .i64 tStateShapeSize, .slice tStatePagesA tStatePagesn tStatePagesc, .slice tStateRowsA tStateRowsn tStateRowsc, .int .i64 tStateGroupEpoch, .slice tStateGroupMembersA tStateGroupMembersn tStateGroupMembersc, .slice tLogA tLogn tLogc] 42) = x := ⟨_, rfl⟩
  have hS : Blk w0 g [.int .i64 sStateNum, .int .i64 sStateShapeBlocks, .int .i64 sStateShapeSize, .slice sStatePagesA sStatePagesn sStatePagesc, .slice sStateRowsA sStateRowsn sStateRowsc, .int .i64 sStateGroupEpoch, .slice sStateGroupMembersA sStateGroupMembersn sStateGroupMembersc, .slice sLogA sLogn sLogc] 42 := by rw [← hw0, ← hg]; exact (Blk.new w [.int .i64 sStateNum, .int .i64 sStateShapeBlocks, .int .i64 sStateShapeSize, .slice sStatePagesA sStatePagesn sStatePagesc, .slice sStateRowsA sStateRowsn sStateRowsc, .int .i64 sStateGroupEpoch, .slice sStateGroupMembersA sStateGroupMembersn sStateGroupMembersc, .slice sLogA sLogn sLogc] _).alloc _
  have hT : Blk w0 (g + 1) [.int .i64 tStateNum, .int .i64 tStateShapeBlocks, .int .i64 tStateShapeSize, .slice tStatePagesA tStatePagesn tStatePagesc, .slice tStateRowsA tStateRowsn tStateRowsc, .int .i64 tStateGroupEpoch, .slice tStateGroupMembersA tStateGroupMembersn tStateGroupMembersc, .slice tLogA tLogn tLogc] 42 := by
    rw [← hw0, ← hg]
    have := Blk.new (w.alloc (.cells #[.int .i64 sStateNum, .int .i64 sStateShapeBlocks, .int .i64 sStateShapeSize, .slice sStatePagesA sStatePagesn sStatePagesc, .slice sStateRowsA sStateRowsn sStateRowsc, .int .i64 sStateGroupEpoch, .slice sStateGroupMembersA sStateGroupMembersn sStateGroupMembersc, .slice sLogA sLogn sLogc] 42)) [.int .i64 tStateNum, .int .i64 tStateShapeBlocks, .int .i64 tStateShapeSize, .slice tStatePagesA tStatePagesn tStatePagesc, .slice tStateRowsA tStateRowsn tStateRowsc, .int .i64 tStateGroupEpoch, .slice tStateGroupMembersA tStateGroupMembersn tStateGroupMembersc, .slice tLogA tLogn tLogc] 42
    rwa [World.size_alloc] at this
  have hb0 : Below w.heap.size w w0 := by rw [← hw0]; exact ((Below.refl _ _).alloc (Nat.le_refl _) _).alloc (by simp) _
  have HS := hide (toldSame_any (h9.below hb0) (h9'.below hb0))
  clear hl_sStatePages hr_sStatePages hq_sStatePages he_sStatePages hl_sStateRows hr_sStateRows hq_sStateRows he_sStateRows hl_sStateGroupMembers hr_sStateGroupMembers hq_sStateGroupMembers he_sStateGroupMembers hl_sLog hr_sLog hq_sLog he_sLog
  clear hl_tStatePages hr_tStatePages hq_tStatePages he_tStatePages hl_tStateRows hr_tStateRows hq_tStateRows he_tStateRows hl_tStateGroupMembers hr_tStateGroupMembers hq_tStateGroupMembers he_tStateGroupMembers hl_tLog hr_tLog hq_tLog he_tLog
  have Hw0 := hide hw0
  have Hg := hide hg
  clear hw0
  have y0 := Blk.cell hS (j := 0) rfl; have y1 := Blk.cell hS (j := 1) rfl; have y2 := Blk.cell hS (j := 2) rfl; have y3 := Blk.cell hS (j := 3) rfl; have y4 := Blk.cell hS (j := 4) rfl; have y5 := Blk.cell hS (j := 5) rfl; have y6 := Blk.cell hS (j := 6) rfl; have y7 := Blk.cell hS (j := 7) rfl
  have z0 := Blk.cell hT (j := 0) rfl; have z1 := Blk.cell hT (j := 1) rfl; have z2 := Blk.cell hT (j := 2) rfl; have z3 := Blk.cell hT (j := 3) rfl; have z4 := Blk.cell hT (j := 4) rfl; have z5 := Blk.cell hT (j := 5) rfl; have z6 := Blk.cell hT (j := 6) rfl; have z7 := Blk.cell hT (j := 7) rfl
  go_enter Try.func36, Try.ntmps36
  go_wp2_with fail
  rw [Hw0.out]
  go_fit HS.out
  rintro xx v1 ⟨rfl, hd1⟩
  go_wp2
  go_ret
  exact ⟨rfl, hb0.trans (hd1.mono hb0.size)⟩
end Go.Proofs.Ytfjffmjnnjckkaa
