/- Stage 17: states held against each other (written by gen_17s.py). -/
import Derived.Test.YtlcbelmbonaooaaF17q
namespace Go.Proofs.Ytlcbelmbonaooaa
set_option maxRecDepth 20000
open Go.RowKit Go.Px Go.Maps
set_option linter.unusedVariables false
set_option linter.unusedSimpArgs false
/-- Are two states alike? -/
def eqSt (x y : StateD) : Bool := (x.1 == y.1) && ((x.2.1.1 == y.2.1.1) && ((x.2.1.2 == y.2.1.2) && (decide (x.2.2.1 = y.2.2.1) && (sameB x.2.2.2.1 y.2.2.2.1 && eqG x.2.2.2.2.1 x.2.2.2.2.2 y.2.2.2.2.1 y.2.2.2.2.2))))
theorem eqSt_self (x : StateD) : eqSt x x = true := by unfold eqSt sameB eqG eqB; simp
set_option maxRecDepth 20000 in
set_option maxHeartbeats 12800000 in
theorem rsameS_any {w : World} {Q Q' : Nat → Prop} {x y : StateD} {cs ds : List Value} (h : tyState.Is w Q x cs) (h' : tyState.Is w Q' y ds) : Calls Try.prog 62 #[.agg cs.toArray, .agg ds.toArray] w fun e w' => e = .returned (.bool (eqSt x y)) ∧ Below w.heap.size w w' := by
  obtain ⟨sNum, sShapeBlocks, sShapeSize, sPages, sPagesA, sPagesn, sPagesc, sPagesv, sRows, sRowsA, sRowsn, sRowsc, sRowsv, sGroupEpoch, sGroupMembers, sGroupMembersA, sGroupMembersn, sGroupMembersc, sGroupMembersv, rfl, rfl, h1_sNum, h2_sNum, h1_sShapeBlocks, h2_sShapeBlocks, h1_sShapeSize, h2_sShapeSize, hl_sPages, hc_sPages, hm_sPages, hr_sPages, hq_sPages, he_sPages, hl_sRows, hc_sRows, hm_sRows, hr_sRows, hq_sRows, he_sRows, h1_sGroupEpoch, h2_sGroupEpoch, hl_sGroupMembers, hc_sGroupMembers, hm_sGroupMembers, hr_sGroupMembers, hq_sGroupMembers, he_sGroupMembers⟩ := State_out h
  obtain ⟨tNum, tShapeBlocks, tShapeSize, tPages, tPagesA, tPagesn, tPagesc, tPagesv, tRows, tRowsA, tRowsn, tRowsc, tRowsv, tGroupEpoch, tGroupMembers, tGroupMembersA, tGroupMembersn, tGroupMembersc, tGroupMembersv, rfl, rfl, h1_tNum, h2_tNum, h1_tShapeBlocks, h2_tShapeBlocks, h1_tShapeSize, h2_tShapeSize, hl_tPages, hc_tPages, hm_tPages, hr_tPages, hq_tPages, he_tPages, hl_tRows, hc_tRows, hm_tRows, hr_tRows, hq_tRows, he_tRows, h1_tGroupEpoch, h2_tGroupEpoch, hl_tGroupMembers, hc_tGroupMembers, hm_tGroupMembers, hr_tGroupMembers, hq_tGroupMembers, he_tGroupMembers⟩ := State_out h'
  have hAs := rowAt_of (t := tyPage) (by decide) hl_sPages hr_sPages he_sPages
  have hAt := rowAt_of (t := tyPage) (by decide) hl_tPages hr_tPages he_tPages
  have hEs := rw_of he_sRows
  have hEt := rw_of he_tRows
  obtain ⟨hmi, _⟩ := i64rows he_sGroupMembers
  subst hmi
  obtain ⟨hmi', _⟩ := i64rows he_tGroupMembers
  subst hmi'
  obtain ⟨g, hg⟩ : ∃ g, w.heap.size = g := ⟨_, rfl⟩
  obtain ⟨w0, hw0⟩ : ∃ x, (w.alloc (.cells #[.int .i64 sNum, .int .i64 sShapeBlocks, .int .i64 sShapeSize, .slice sPagesA sPagesn sPagesc, .slice sRowsA sRowsn sRowsc, .int .i64 sGroupEpoch, .slice sGroupMembersA sGroupMembersn sGroupMembersc] 55)).alloc (.cells #[.int .i64 tNum, .int .i64 tShapeBlocks, .int .i64 tShapeSize, .slice tPagesA tPagesn tPagesc, .slice tRowsA tRowsn tRowsc, .int .i64 tGroupEpoch, .slice tGroupMembersA tGroupMembersn tGroupMembersc] 55) = x := ⟨_, rfl⟩
  have hS : Blk w0 g [.int .i64 sNum, .int .i64 sShapeBlocks, .int .i64 sShapeSize, .slice sPagesA sPagesn sPagesc, .slice sRowsA sRowsn sRowsc, .int .i64 sGroupEpoch, .slice sGroupMembersA sGroupMembersn sGroupMembersc] 55 := by rw [← hw0, ← hg]; exact (Blk.new w [.int .i64 sNum, .int .i64 sShapeBlocks, .int .i64 sShapeSize, .slice sPagesA sPagesn sPagesc, .slice sRowsA sRowsn sRowsc, .int .i64 sGroupEpoch, .slice sGroupMembersA sGroupMembersn sGroupMembersc] _).alloc _
  have hT : Blk w0 (g + 1) [.int .i64 tNum, .int .i64 tShapeBlocks, .int .i64 tShapeSize, .slice tPagesA tPagesn tPagesc, .slice tRowsA tRowsn tRowsc, .int .i64 tGroupEpoch, .slice tGroupMembersA tGroupMembersn tGroupMembersc] 55 := by
    rw [← hw0, ← hg]
    have := Blk.new (w.alloc (.cells #[.int .i64 sNum, .int .i64 sShapeBlocks, .int .i64 sShapeSize, .slice sPagesA sPagesn sPagesc, .slice sRowsA sRowsn sRowsc, .int .i64 sGroupEpoch, .slice sGroupMembersA sGroupMembersn sGroupMembersc] 55)) [.int .i64 tNum, .int .i64 tShapeBlocks, .int .i64 tShapeSize, .slice tPagesA tPagesn tPagesc, .slice tRowsA tRowsn tRowsc, .int .i64 tGroupEpoch, .slice tGroupMembersA tGroupMembersn tGroupMembersc] 55
    rwa [World.size_alloc] at this
  have hb0 : Below w.heap.size w w0 := by rw [← hw0]; exact ((Below.refl _ _).alloc (Nat.le_refl _) _).alloc (by simp) _
  have hz0 := hb0.size
  have HP := hide (fun W (hW : Below w.heap.size w W) => samePages_any (c := sPagesc) (c' := tPagesc) (RowAt.go hAs hW) hW.size (RowAt.go hAt hW) hW.size (by omega))
  have HR := hide (fun W (hW : Below w.heap.size w W) => rsame6_any sRowsA sRowsn sRowsc sRowsv sRows Q tRowsA tRowsn tRowsc tRowsv tRows Q' W hl_sRows (hr_sRows.below hW) (hEs.below hW) hl_tRows (hr_tRows.below hW) (hEt.below hW) (by omega))
  have HG := hide (fun W (hW : Below w.heap.size w W) => rsameg_any sGroupEpoch sGroupMembersA sGroupMembersn sGroupMembersc sGroupMembers tGroupEpoch tGroupMembersA tGroupMembersn tGroupMembersc tGroupMembers W hl_sGroupMembers hl_tGroupMembers (by omega) (by omega) (hr_sGroupMembers.below hW) (hr_tGroupMembers.below hW))
  clear hl_sPages hr_sPages hq_sPages he_sPages hl_sRows hr_sRows hq_sRows he_sRows hl_sGroupMembers hr_sGroupMembers hq_sGroupMembers he_sGroupMembers
  clear hl_tPages hr_tPages hq_tPages he_tPages hl_tRows hr_tRows hq_tRows he_tRows hl_tGroupMembers hr_tGroupMembers hq_tGroupMembers he_tGroupMembers
  clear hAs hAt hEs hEt
  have Hw0 := hide hw0
  have Hg := hide hg
  clear hw0
  have HQ := hide (show eqSt (sNum, (sShapeBlocks, sShapeSize), sPages, sRows, (sGroupEpoch, sGroupMembers)) (tNum, (tShapeBlocks, tShapeSize), tPages, tRows, (tGroupEpoch, tGroupMembers)) = ((sNum == tNum) && ((sShapeBlocks == tShapeBlocks) && ((sShapeSize == tShapeSize) && (decide (sPages = tPages) && (sameB sRows tRows && eqG sGroupEpoch sGroupMembers tGroupEpoch tGroupMembers))))) from rfl)
  have y0 := Blk.cell hS (j := 0) rfl; have y1 := Blk.cell hS (j := 1) rfl; have y2 := Blk.cell hS (j := 2) rfl; have y3 := Blk.cell hS (j := 3) rfl; have y4 := Blk.cell hS (j := 4) rfl; have y5 := Blk.cell hS (j := 5) rfl; have y6 := Blk.cell hS (j := 6) rfl
  have z0 := Blk.cell hT (j := 0) rfl; have z1 := Blk.cell hT (j := 1) rfl; have z2 := Blk.cell hT (j := 2) rfl; have z3 := Blk.cell hT (j := 3) rfl; have z4 := Blk.cell hT (j := 4) rfl; have z5 := Blk.cell hT (j := 5) rfl; have z6 := Blk.cell hT (j := 6) rfl
  rcases bool_two (sNum == tNum) with c1 | c1
  rotate_left
  · have HF := hide (show eqSt (sNum, (sShapeBlocks, sShapeSize), sPages, sRows, (sGroupEpoch, sGroupMembers)) (tNum, (tShapeBlocks, tShapeSize), tPages, tRows, (tGroupEpoch, tGroupMembers)) = false by rw [HQ.out]; simp only [c1, Bool.true_and, Bool.false_and, Bool.and_false])
    have Hc1 := hide c1
    go_enter Try.func62, Try.ntmps62
    go_wp2
    go_ret
    exact ⟨by rw [HF.out]; rfl, by first | exact hb0 | (rw [Hw0.out]; exact hb0)⟩
  have Hc1 := hide c1
  rcases bool_two (sShapeBlocks == tShapeBlocks) with c2 | c2
  rotate_left
  · have HF := hide (show eqSt (sNum, (sShapeBlocks, sShapeSize), sPages, sRows, (sGroupEpoch, sGroupMembers)) (tNum, (tShapeBlocks, tShapeSize), tPages, tRows, (tGroupEpoch, tGroupMembers)) = false by rw [HQ.out]; simp only [Hc1.out, c2, Bool.true_and, Bool.false_and, Bool.and_false])
    have Hc2 := hide c2
    go_enter Try.func62, Try.ntmps62
    go_wp2
    go_ret
    exact ⟨by rw [HF.out]; rfl, by first | exact hb0 | (rw [Hw0.out]; exact hb0)⟩
  have Hc2 := hide c2
  rcases bool_two (sShapeSize == tShapeSize) with c3 | c3
  rotate_left
  · have HF := hide (show eqSt (sNum, (sShapeBlocks, sShapeSize), sPages, sRows, (sGroupEpoch, sGroupMembers)) (tNum, (tShapeBlocks, tShapeSize), tPages, tRows, (tGroupEpoch, tGroupMembers)) = false by rw [HQ.out]; simp only [Hc1.out, Hc2.out, c3, Bool.true_and, Bool.false_and, Bool.and_false])
    have Hc3 := hide c3
    go_enter Try.func62, Try.ntmps62
    go_wp2
    go_ret
    exact ⟨by rw [HF.out]; rfl, by first | exact hb0 | (rw [Hw0.out]; exact hb0)⟩
  have Hc3 := hide c3
  rcases bool_two (decide (sPages = tPages)) with c4 | c4
  rotate_left
  · have HF := hide (show eqSt (sNum, (sShapeBlocks, sShapeSize), sPages, sRows, (sGroupEpoch, sGroupMembers)) (tNum, (tShapeBlocks, tShapeSize), tPages, tRows, (tGroupEpoch, tGroupMembers)) = false by rw [HQ.out]; simp only [Hc1.out, Hc2.out, Hc3.out, c4, Bool.true_and, Bool.false_and, Bool.and_false])
    have Hc4 := hide c4
    clear c4
    go_enter Try.func62, Try.ntmps62
    go_wp2_with fail
    rw [Hw0.out]
    go_fit (HP.out w0 hb0)
    rw [Hc4.out]
    rintro xx v1 ⟨rfl, hd1⟩
    have he1 := hb0.trans (hd1.mono hb0.size)
    replace hS := hS.below hd1
    replace hT := hT.below hd1
    clear y0 y1 y2 y3 y4 y5 y6 z0 z1 z2 z3 z4 z5 z6
    have y0 := Blk.cell hS (j := 0) rfl; have y1 := Blk.cell hS (j := 1) rfl; have y2 := Blk.cell hS (j := 2) rfl; have y3 := Blk.cell hS (j := 3) rfl; have y4 := Blk.cell hS (j := 4) rfl; have y5 := Blk.cell hS (j := 5) rfl; have y6 := Blk.cell hS (j := 6) rfl
    have z0 := Blk.cell hT (j := 0) rfl; have z1 := Blk.cell hT (j := 1) rfl; have z2 := Blk.cell hT (j := 2) rfl; have z3 := Blk.cell hT (j := 3) rfl; have z4 := Blk.cell hT (j := 4) rfl; have z5 := Blk.cell hT (j := 5) rfl; have z6 := Blk.cell hT (j := 6) rfl
    go_wp2
    go_ret
    exact ⟨by rw [HF.out]; rfl, he1⟩
  have Hc4 := hide c4
  clear c4
  rcases bool_two (sameB sRows tRows) with c5 | c5
  rotate_left
  · have HF := hide (show eqSt (sNum, (sShapeBlocks, sShapeSize), sPages, sRows, (sGroupEpoch, sGroupMembers)) (tNum, (tShapeBlocks, tShapeSize), tPages, tRows, (tGroupEpoch, tGroupMembers)) = false by rw [HQ.out]; simp only [Hc1.out, Hc2.out, Hc3.out, Hc4.out, c5, Bool.true_and, Bool.false_and, Bool.and_false])
    have Hc5 := hide c5
    clear c5
    go_enter Try.func62, Try.ntmps62
    go_wp2_with fail
    rw [Hw0.out]
    go_fit (HP.out w0 hb0)
    rw [Hc4.out]
    rintro xx v1 ⟨rfl, hd1⟩
    have he1 := hb0.trans (hd1.mono hb0.size)
    replace hS := hS.below hd1
    replace hT := hT.below hd1
    clear y0 y1 y2 y3 y4 y5 y6 z0 z1 z2 z3 z4 z5 z6
    have y0 := Blk.cell hS (j := 0) rfl; have y1 := Blk.cell hS (j := 1) rfl; have y2 := Blk.cell hS (j := 2) rfl; have y3 := Blk.cell hS (j := 3) rfl; have y4 := Blk.cell hS (j := 4) rfl; have y5 := Blk.cell hS (j := 5) rfl; have y6 := Blk.cell hS (j := 6) rfl
    have z0 := Blk.cell hT (j := 0) rfl; have z1 := Blk.cell hT (j := 1) rfl; have z2 := Blk.cell hT (j := 2) rfl; have z3 := Blk.cell hT (j := 3) rfl; have z4 := Blk.cell hT (j := 4) rfl; have z5 := Blk.cell hT (j := 5) rfl; have z6 := Blk.cell hT (j := 6) rfl
    go_wp2_with fail
    skip
    go_fit (HR.out v1 he1)
    rw [Hc5.out]
    rintro xx v2 ⟨rfl, hd2⟩
    have he2 := he1.trans (hd2.mono he1.size)
    replace hS := hS.below hd2
    replace hT := hT.below hd2
    clear y0 y1 y2 y3 y4 y5 y6 z0 z1 z2 z3 z4 z5 z6
    have y0 := Blk.cell hS (j := 0) rfl; have y1 := Blk.cell hS (j := 1) rfl; have y2 := Blk.cell hS (j := 2) rfl; have y3 := Blk.cell hS (j := 3) rfl; have y4 := Blk.cell hS (j := 4) rfl; have y5 := Blk.cell hS (j := 5) rfl; have y6 := Blk.cell hS (j := 6) rfl
    have z0 := Blk.cell hT (j := 0) rfl; have z1 := Blk.cell hT (j := 1) rfl; have z2 := Blk.cell hT (j := 2) rfl; have z3 := Blk.cell hT (j := 3) rfl; have z4 := Blk.cell hT (j := 4) rfl; have z5 := Blk.cell hT (j := 5) rfl; have z6 := Blk.cell hT (j := 6) rfl
    go_wp2
    go_ret
    exact ⟨by rw [HF.out]; rfl, he2⟩
  have Hc5 := hide c5
  clear c5
  have HF := hide (show eqSt (sNum, (sShapeBlocks, sShapeSize), sPages, sRows, (sGroupEpoch, sGroupMembers)) (tNum, (tShapeBlocks, tShapeSize), tPages, tRows, (tGroupEpoch, tGroupMembers)) = eqG sGroupEpoch sGroupMembers tGroupEpoch tGroupMembers by rw [HQ.out]; simp only [Hc1.out, Hc2.out, Hc3.out, Hc4.out, Hc5.out, Bool.true_and])
  go_enter Try.func62, Try.ntmps62
  go_wp2_with fail
  rw [Hw0.out]
  go_fit (HP.out w0 hb0)
  rw [Hc4.out]
  rintro xx v1 ⟨rfl, hd1⟩
  have he1 := hb0.trans (hd1.mono hb0.size)
  replace hS := hS.below hd1
  replace hT := hT.below hd1
  clear y0 y1 y2 y3 y4 y5 y6 z0 z1 z2 z3 z4 z5 z6
  have y0 := Blk.cell hS (j := 0) rfl; have y1 := Blk.cell hS (j := 1) rfl; have y2 := Blk.cell hS (j := 2) rfl; have y3 := Blk.cell hS (j := 3) rfl; have y4 := Blk.cell hS (j := 4) rfl; have y5 := Blk.cell hS (j := 5) rfl; have y6 := Blk.cell hS (j := 6) rfl
  have z0 := Blk.cell hT (j := 0) rfl; have z1 := Blk.cell hT (j := 1) rfl; have z2 := Blk.cell hT (j := 2) rfl; have z3 := Blk.cell hT (j := 3) rfl; have z4 := Blk.cell hT (j := 4) rfl; have z5 := Blk.cell hT (j := 5) rfl; have z6 := Blk.cell hT (j := 6) rfl
  go_wp2_with fail
  skip
  go_fit (HR.out v1 he1)
  rw [Hc5.out]
  rintro xx v2 ⟨rfl, hd2⟩
  have he2 := he1.trans (hd2.mono he1.size)
  replace hS := hS.below hd2
  replace hT := hT.below hd2
  clear y0 y1 y2 y3 y4 y5 y6 z0 z1 z2 z3 z4 z5 z6
  have y0 := Blk.cell hS (j := 0) rfl; have y1 := Blk.cell hS (j := 1) rfl; have y2 := Blk.cell hS (j := 2) rfl; have y3 := Blk.cell hS (j := 3) rfl; have y4 := Blk.cell hS (j := 4) rfl; have y5 := Blk.cell hS (j := 5) rfl; have y6 := Blk.cell hS (j := 6) rfl
  have z0 := Blk.cell hT (j := 0) rfl; have z1 := Blk.cell hT (j := 1) rfl; have z2 := Blk.cell hT (j := 2) rfl; have z3 := Blk.cell hT (j := 3) rfl; have z4 := Blk.cell hT (j := 4) rfl; have z5 := Blk.cell hT (j := 5) rfl; have z6 := Blk.cell hT (j := 6) rfl
  go_wp2_with fail
  skip
  go_fit (HG.out v2 he2)
  skip
  rintro xx v3 ⟨rfl, hd3⟩
  have he3 := he2.trans (hd3.mono he2.size)
  go_wp2
  go_ret
  exact ⟨by rw [HF.out]; rfl, he3⟩
end Go.Proofs.Ytlcbelmbonaooaa
