/- Stage 17: which tails may be (written by gen_17e.py). -/
import Derived.Test.YtfjffmjnnjckkaaF17e
namespace Go.Proofs.Ytfjffmjnnjckkaa
set_option maxRecDepth 20000
open Go.RowKit Go.Px Go.Maps
set_option linter.unusedVariables false
set_option linter.unusedSimpArgs false
set_option maxRecDepth 20000 in
set_option maxHeartbeats 12800000 in
theorem rtail_any {w : World} {Q : Nat → Prop} {x : TailD} {cs : List Value} (h : tyTail.Is w Q x cs) : Calls Try.prog 9 #[.agg cs.toArray] w fun e w' => e = .returned (.int .i64 (tailE x)) ∧ Below w.heap.size w w' := by
  have hT := h
  obtain ⟨tNode, tNormal, tCommit, tStateNum, tStateShapeBlocks, tStateShapeSize, tStatePages, tStatePagesA, tStatePagesn, tStatePagesc, tStatePagesv, tStateRows, tStateRowsA, tStateRowsn, tStateRowsc, tStateRowsv, tStateGroupEpoch, tStateGroupMembers, tStateGroupMembersA, tStateGroupMembersn, tStateGroupMembersc, tStateGroupMembersv, tLog, tLogA, tLogn, tLogc, tLogv, rfl, rfl, h1_tNode, h2_tNode, h1_tNormal, h2_tNormal, h1_tCommit, h2_tCommit, h1_tStateNum, h2_tStateNum, h1_tStateShapeBlocks, h2_tStateShapeBlocks, h1_tStateShapeSize, h2_tStateShapeSize, hl_tStatePages, hc_tStatePages, hm_tStatePages, hr_tStatePages, hq_tStatePages, he_tStatePages, hl_tStateRows, hc_tStateRows, hm_tStateRows, hr_tStateRows, hq_tStateRows, he_tStateRows, h1_tStateGroupEpoch, h2_tStateGroupEpoch, hl_tStateGroupMembers, hc_tStateGroupMembers, hm_tStateGroupMembers, hr_tStateGroupMembers, hq_tStateGroupMembers, he_tStateGroupMembers, hl_tLog, hc_tLog, hm_tLog, hr_tLog, hq_tLog, he_tLog⟩ := Tail_out h
  clear hl_tStatePages hr_tStatePages hq_tStatePages he_tStatePages hl_tStateRows hr_tStateRows hq_tStateRows he_tStateRows hl_tStateGroupMembers hr_tStateGroupMembers hq_tStateGroupMembers he_tStateGroupMembers hl_tLog hr_tLog hq_tLog he_tLog
  obtain ⟨g, hg⟩ : ∃ g, w.heap.size = g := ⟨_, rfl⟩
  obtain ⟨w0, hw0⟩ : ∃ x, w.alloc (.cells #[.int .i64 tNode, .int .i64 tNormal, .int .i64 tCommit, .int .i64 tStateNum, .int .i64 tStateShapeBlocks, .int .i64 tStateShapeSize, .slice tStatePagesA tStatePagesn tStatePagesc, .slice tStateRowsA tStateRowsn tStateRowsc, .int .i64 tStateGroupEpoch, .slice tStateGroupMembersA tStateGroupMembersn tStateGroupMembersc, .slice tLogA tLogn tLogc] 33) = x := ⟨_, rfl⟩
  have hBw0 : Blk w0 w.heap.size [.int .i64 tNode, .int .i64 tNormal, .int .i64 tCommit, .int .i64 tStateNum, .int .i64 tStateShapeBlocks, .int .i64 tStateShapeSize, .slice tStatePagesA tStatePagesn tStatePagesc, .slice tStateRowsA tStateRowsn tStateRowsc, .int .i64 tStateGroupEpoch, .slice tStateGroupMembersA tStateGroupMembersn tStateGroupMembersc, .slice tLogA tLogn tLogc] 33 := by rw [← hw0]; exact Blk.new w [.int .i64 tNode, .int .i64 tNormal, .int .i64 tCommit, .int .i64 tStateNum, .int .i64 tStateShapeBlocks, .int .i64 tStateShapeSize, .slice tStatePagesA tStatePagesn tStatePagesc, .slice tStateRowsA tStateRowsn tStateRowsc, .int .i64 tStateGroupEpoch, .slice tStateGroupMembersA tStateGroupMembersn tStateGroupMembersc, .slice tLogA tLogn tLogc] _
  have hbw0 : Below w.heap.size w w0 := by rw [← hw0]; exact (Below.refl _ _).alloc (Nat.le_refl _) _
  have Hw0 := hide hw0
  clear hw0
  have hT0 := hT.below hbw0
  have hBg : Blk w0 g [.int .i64 tNode, .int .i64 tNormal, .int .i64 tCommit, .int .i64 tStateNum, .int .i64 tStateShapeBlocks, .int .i64 tStateShapeSize, .slice tStatePagesA tStatePagesn tStatePagesc, .slice tStateRowsA tStateRowsn tStateRowsc, .int .i64 tStateGroupEpoch, .slice tStateGroupMembersA tStateGroupMembersn tStateGroupMembersc, .slice tLogA tLogn tLogc] 33 := by rw [← hg]; exact hBw0
  have HC := hide (rledger_any hT0)
  have y0 := Blk.cell hBg (j := 0) rfl; have y1 := Blk.cell hBg (j := 1) rfl; have y2 := Blk.cell hBg (j := 2) rfl; have y3 := Blk.cell hBg (j := 3) rfl; have y4 := Blk.cell hBg (j := 4) rfl; have y5 := Blk.cell hBg (j := 5) rfl; have y6 := Blk.cell hBg (j := 6) rfl; have y7 := Blk.cell hBg (j := 7) rfl; have y8 := Blk.cell hBg (j := 8) rfl; have y9 := Blk.cell hBg (j := 9) rfl; have y10 := Blk.cell hBg (j := 10) rfl
  go_enter Try.func9, Try.ntmps9
  go_wp2_with fail
  rw [Hw0.out]
  go_fit HC.out
  rintro xx w1 ⟨rfl, hb1⟩
  simp only [List.drop_succ_cons, List.drop_zero]
  obtain ⟨g3, hg3⟩ : ∃ g, w1.heap.size = g := ⟨_, rfl⟩
  obtain ⟨w2, hw2⟩ : ∃ x, w1.alloc (.cells #[.int .i64 0, .int .i64 0, .int .i64 0, .slice none 0 0, .slice none 0 0, .int .i64 0, .slice none 0 0, .slice none 0 0] 42) = x := ⟨_, rfl⟩
  have hZ : Blk w2 g3 [.int .i64 0, .int .i64 0, .int .i64 0, .slice none 0 0, .slice none 0 0, .int .i64 0, .slice none 0 0, .slice none 0 0] 42 := by rw [← hw2, ← hg3]; exact Blk.new w1 [.int .i64 0, .int .i64 0, .int .i64 0, .slice none 0 0, .slice none 0 0, .int .i64 0, .slice none 0 0, .slice none 0 0] _
  have hb2 : Below w1.heap.size w1 w2 := by rw [← hw2]; exact (Below.refl _ _).alloc (Nat.le_refl _) _
  have hb02 := hb1.trans (hb2.mono hb1.size)
  have hB2 := hBg.below hb02
  have sz1 := hb1.size
  have sz0 := hbw0.size
  have lt0 := hBg.lt
  go_wp2_with (first | (with_reducible refine stop_store 42 rfl ?_))
  try rw [hw2]
  refine go_store rfl rfl rfl (by first | rfl | (rw [← hg3]; rfl)) rfl hZ (by kernel_rfl) rfl (by intro u hu; simp only [List.mem_cons, List.not_mem_nil, or_false] at hu; rcases hu with rfl | rfl | rfl | rfl | rfl | rfl | rfl | rfl <;> rfl) ?_
  obtain ⟨w3, hw3⟩ : ∃ x, w2.setRow g3 #[.int .i64 tStateNum, .int .i64 tStateShapeBlocks, .int .i64 tStateShapeSize, .slice tStatePagesA tStatePagesn tStatePagesc, .slice tStateRowsA tStateRowsn tStateRowsc, .int .i64 tStateGroupEpoch, .slice tStateGroupMembersA tStateGroupMembersn tStateGroupMembersc, .slice tLogA tLogn tLogc] = x := ⟨_, rfl⟩
  have hY3 : Blk w3 g3 [.int .i64 tStateNum, .int .i64 tStateShapeBlocks, .int .i64 tStateShapeSize, .slice tStatePagesA tStatePagesn tStatePagesc, .slice tStateRowsA tStateRowsn tStateRowsc, .int .i64 tStateGroupEpoch, .slice tStateGroupMembersA tStateGroupMembersn tStateGroupMembersc, .slice tLogA tLogn tLogc] 42 := by rw [← hw3]; exact hZ.setAll [.int .i64 tStateNum, .int .i64 tStateShapeBlocks, .int .i64 tStateShapeSize, .slice tStatePagesA tStatePagesn tStatePagesc, .slice tStateRowsA tStateRowsn tStateRowsc, .int .i64 tStateGroupEpoch, .slice tStateGroupMembersA tStateGroupMembersn tStateGroupMembersc, .slice tLogA tLogn tLogc]
  have hP3 : Blk w3 g [.int .i64 tNode, .int .i64 tNormal, .int .i64 tCommit, .int .i64 tStateNum, .int .i64 tStateShapeBlocks, .int .i64 tStateShapeSize, .slice tStatePagesA tStatePagesn tStatePagesc, .slice tStateRowsA tStateRowsn tStateRowsc, .int .i64 tStateGroupEpoch, .slice tStateGroupMembersA tStateGroupMembersn tStateGroupMembersc, .slice tLogA tLogn tLogc] 33 := by rw [← hw3]; exact hB2.apartAll (by omega) [.int .i64 tStateNum, .int .i64 tStateShapeBlocks, .int .i64 tStateShapeSize, .slice tStatePagesA tStatePagesn tStatePagesc, .slice tStateRowsA tStateRowsn tStateRowsc, .int .i64 tStateGroupEpoch, .slice tStateGroupMembersA tStateGroupMembersn tStateGroupMembersc, .slice tLogA tLogn tLogc]
  have hb03 : Below w.heap.size w w3 := by rw [← hw3]; exact below_setRow (hbw0.trans (hb02.mono hbw0.size)) (by omega) _
  have hLw := tl_led (hT.below hb03)
  simp only [List.drop_succ_cons, List.drop_zero] at hLw
  clear y0 y1 y2 y3 y4 y5 y6 y7 y8 y9 y10 hT hT0 HC hb1 hb2 hb02 hB2 hZ hBw0 hBg hbw0
  have y0 := Blk.cell hP3 (j := 0) rfl; have y1 := Blk.cell hP3 (j := 1) rfl; have y2 := Blk.cell hP3 (j := 2) rfl; have y3 := Blk.cell hP3 (j := 3) rfl; have y4 := Blk.cell hP3 (j := 4) rfl; have y5 := Blk.cell hP3 (j := 5) rfl; have y6 := Blk.cell hP3 (j := 6) rfl; have y7 := Blk.cell hP3 (j := 7) rfl; have y8 := Blk.cell hP3 (j := 8) rfl; have y9 := Blk.cell hP3 (j := 9) rfl; have y10 := Blk.cell hP3 (j := 10) rfl
  have v0 := Blk.cell hY3 (j := 0) rfl; have v1 := Blk.cell hY3 (j := 1) rfl; have v2 := Blk.cell hY3 (j := 2) rfl; have v3 := Blk.cell hY3 (j := 3) rfl; have v4 := Blk.cell hY3 (j := 4) rfl; have v5 := Blk.cell hY3 (j := 5) rfl; have v6 := Blk.cell hY3 (j := 6) rfl; have v7 := Blk.cell hY3 (j := 7) rfl
  have z0 := fun (x : InC (fun W' => Below w3.heap.size w3 W')) => below_cell x.h y0
  have z1 := fun (x : InC (fun W' => Below w3.heap.size w3 W')) => below_cell x.h y1
  have z2 := fun (x : InC (fun W' => Below w3.heap.size w3 W')) => below_cell x.h y2
  have z3 := fun (x : InC (fun W' => Below w3.heap.size w3 W')) => below_cell x.h y3
  have z4 := fun (x : InC (fun W' => Below w3.heap.size w3 W')) => below_cell x.h y4
  have z5 := fun (x : InC (fun W' => Below w3.heap.size w3 W')) => below_cell x.h y5
  have z6 := fun (x : InC (fun W' => Below w3.heap.size w3 W')) => below_cell x.h y6
  have z7 := fun (x : InC (fun W' => Below w3.heap.size w3 W')) => below_cell x.h y7
  have z8 := fun (x : InC (fun W' => Below w3.heap.size w3 W')) => below_cell x.h y8
  have z9 := fun (x : InC (fun W' => Below w3.heap.size w3 W')) => below_cell x.h y9
  have z10 := fun (x : InC (fun W' => Below w3.heap.size w3 W')) => below_cell x.h y10
  have u0 := fun (x : InC (fun W' => Below w3.heap.size w3 W')) => below_cell x.h v0
  have u1 := fun (x : InC (fun W' => Below w3.heap.size w3 W')) => below_cell x.h v1
  have u2 := fun (x : InC (fun W' => Below w3.heap.size w3 W')) => below_cell x.h v2
  have u3 := fun (x : InC (fun W' => Below w3.heap.size w3 W')) => below_cell x.h v3
  have u4 := fun (x : InC (fun W' => Below w3.heap.size w3 W')) => below_cell x.h v4
  have u5 := fun (x : InC (fun W' => Below w3.heap.size w3 W')) => below_cell x.h v5
  have u6 := fun (x : InC (fun W' => Below w3.heap.size w3 W')) => below_cell x.h v6
  have u7 := fun (x : InC (fun W' => Below w3.heap.size w3 W')) => below_cell x.h v7
  have Hw2 := hide hw2
  have Hw3 := hide hw3
  have Hg := hide hg
  have Hg3 := hide hg3
  clear hw2 hw3 hg hg3 hY3 hP3 Hw0 lt0 sz0 sz1
  obtain ⟨L, hL⟩ : ∃ L, lastW (tlL (tNode, tNormal, tCommit, (tStateNum, (tStateShapeBlocks, tStateShapeSize), tStatePages, tStateRows, (tStateGroupEpoch, tStateGroupMembers)), tLog)) = L := ⟨_, rfl⟩
  have HL := hide hL
  have hq : tailB (tNode, tNormal, tCommit, (tStateNum, (tStateShapeBlocks, tStateShapeSize), tStatePages, tStateRows, (tStateGroupEpoch, tStateGroupMembers)), tLog) = (nodeB tNode && (numB tNormal && (ledB (tlL (tNode, tNormal, tCommit, (tStateNum, (tStateShapeBlocks, tStateShapeSize), tStatePages, tStateRows, (tStateGroupEpoch, tStateGroupMembers)), tLog)) && (decide (tStateNum ≤ tCommit) && decide (tCommit ≤ L))))) := by rw [← hL]; rfl
  have HQ := hide hq
  clear hL hq
  rcases bool_two (decide (tNode < 0)) with d1 | d1

  · have c1 : nodeB tNode = false := decide_eq_false (by have := of_decide_eq_true d1; omega)
    have HR := hide (tailE_no (HQ.out.trans (by simp [c1])))
    clear c1
    try rw [Hw3.out]
    go_wp2_with fail
    refine wp_region_in (fun W' => Below w3.heap.size w3 W') (Below.refl _ _).drew (by kernel_rfl) (by kernel_rfl) ?_
    repeat (go_big_quiet_step (first
      | (go_at_call 34; have hh := fun (x : InC (fun W' => Below w3.heap.size w3 W')) => rled_any (hLw.below x.h); (first | (rw [HE.out] at hh) | skip); exact Calls.in_below (hh _))
      | (go_at_call 35; have hh := fun (x : InC (fun W' => Below w3.heap.size w3 W')) => rlast17_any (hLw.below x.h); rw [HL.out] at hh; exact Calls.in_below (hh _))))
    refine wpQuiet_nil ?_
    intro _ hw'
    obtain ⟨nq, hw''⟩ := hw'
    subst hw''
    have hbq := nq.h
    go_wp2
    go_ret
    exact ⟨by rw [HR.out]; rfl, hb03.trans (hbq.mono hb03.size)⟩
  rcases bool_two (decide (64 ≤ tNode)) with d2 | d2

  · have c1 : nodeB tNode = false := decide_eq_false (by have := of_decide_eq_true d2; omega)
    have HR := hide (tailE_no (HQ.out.trans (by simp [c1])))
    clear c1
    try rw [Hw3.out]
    go_wp2_with fail
    refine wp_region_in (fun W' => Below w3.heap.size w3 W') (Below.refl _ _).drew (by kernel_rfl) (by kernel_rfl) ?_
    repeat (go_big_quiet_step (first
      | (go_at_call 34; have hh := fun (x : InC (fun W' => Below w3.heap.size w3 W')) => rled_any (hLw.below x.h); (first | (rw [HE.out] at hh) | skip); exact Calls.in_below (hh _))
      | (go_at_call 35; have hh := fun (x : InC (fun W' => Below w3.heap.size w3 W')) => rlast17_any (hLw.below x.h); rw [HL.out] at hh; exact Calls.in_below (hh _))))
    refine wpQuiet_nil ?_
    intro _ hw'
    obtain ⟨nq, hw''⟩ := hw'
    subst hw''
    have hbq := nq.h
    go_wp2
    go_ret
    exact ⟨by rw [HR.out]; rfl, hb03.trans (hbq.mono hb03.size)⟩
  have c1 : nodeB tNode = true := decide_eq_true (by have := of_decide_eq_false d1; have := of_decide_eq_false d2; omega)
  rcases bool_two (decide (tNormal < 0)) with d3 | d3

  · have c2 : numB tNormal = false := decide_eq_false (by have := of_decide_eq_true d3; omega)
    have HR := hide (tailE_no (HQ.out.trans (by simp [c1, c2])))
    clear c1 c2
    try rw [Hw3.out]
    go_wp2_with fail
    refine wp_region_in (fun W' => Below w3.heap.size w3 W') (Below.refl _ _).drew (by kernel_rfl) (by kernel_rfl) ?_
    repeat (go_big_quiet_step (first
      | (go_at_call 34; have hh := fun (x : InC (fun W' => Below w3.heap.size w3 W')) => rled_any (hLw.below x.h); (first | (rw [HE.out] at hh) | skip); exact Calls.in_below (hh _))
      | (go_at_call 35; have hh := fun (x : InC (fun W' => Below w3.heap.size w3 W')) => rlast17_any (hLw.below x.h); rw [HL.out] at hh; exact Calls.in_below (hh _))))
    refine wpQuiet_nil ?_
    intro _ hw'
    obtain ⟨nq, hw''⟩ := hw'
    subst hw''
    have hbq := nq.h
    go_wp2
    go_ret
    exact ⟨by rw [HR.out]; rfl, hb03.trans (hbq.mono hb03.size)⟩
  rcases bool_two (decide (4611686018427387904 < tNormal)) with d4 | d4

  · have c2 : numB tNormal = false := decide_eq_false (by have := of_decide_eq_true d4; omega)
    have HR := hide (tailE_no (HQ.out.trans (by simp [c1, c2])))
    clear c1 c2
    try rw [Hw3.out]
    go_wp2_with fail
    refine wp_region_in (fun W' => Below w3.heap.size w3 W') (Below.refl _ _).drew (by kernel_rfl) (by kernel_rfl) ?_
    repeat (go_big_quiet_step (first
      | (go_at_call 34; have hh := fun (x : InC (fun W' => Below w3.heap.size w3 W')) => rled_any (hLw.below x.h); (first | (rw [HE.out] at hh) | skip); exact Calls.in_below (hh _))
      | (go_at_call 35; have hh := fun (x : InC (fun W' => Below w3.heap.size w3 W')) => rlast17_any (hLw.below x.h); rw [HL.out] at hh; exact Calls.in_below (hh _))))
    refine wpQuiet_nil ?_
    intro _ hw'
    obtain ⟨nq, hw''⟩ := hw'
    subst hw''
    have hbq := nq.h
    go_wp2
    go_ret
    exact ⟨by rw [HR.out]; rfl, hb03.trans (hbq.mono hb03.size)⟩
  have c2 : numB tNormal = true := decide_eq_true (by have := of_decide_eq_false d3; have := of_decide_eq_false d4; omega)
  rcases bool_two (ledB (tlL (tNode, tNormal, tCommit, (tStateNum, (tStateShapeBlocks, tStateShapeSize), tStatePages, tStateRows, (tStateGroupEpoch, tStateGroupMembers)), tLog))) with c3 | c3
  rotate_left

  · have HE := hide (ledE_no c3)
    have HR := hide (tailE_no (HQ.out.trans (by simp [c1, c2, c3])))
    clear c1 c2 c3
    try rw [Hw3.out]
    go_wp2_with fail
    refine wp_region_in (fun W' => Below w3.heap.size w3 W') (Below.refl _ _).drew (by kernel_rfl) (by kernel_rfl) ?_
    repeat (go_big_quiet_step (first
      | (go_at_call 34; have hh := fun (x : InC (fun W' => Below w3.heap.size w3 W')) => rled_any (hLw.below x.h); (first | (rw [HE.out] at hh) | skip); exact Calls.in_below (hh _))
      | (go_at_call 35; have hh := fun (x : InC (fun W' => Below w3.heap.size w3 W')) => rlast17_any (hLw.below x.h); rw [HL.out] at hh; exact Calls.in_below (hh _))))
    refine wpQuiet_nil ?_
    intro _ hw'
    obtain ⟨nq, hw''⟩ := hw'
    subst hw''
    have hbq := nq.h
    go_wp2
    go_ret
    exact ⟨by rw [HR.out]; rfl, hb03.trans (hbq.mono hb03.size)⟩
  have HE := hide (ledE_ok c3)
  rcases bool_two (decide (tStateNum ≤ tCommit)) with c4 | c4
  rotate_left

  · have HR := hide (tailE_no (HQ.out.trans (by simp [c1, c2, c3, c4])))
    have q4 : decide (tCommit < tStateNum) = true := decide_eq_true (by have := of_decide_eq_false c4; omega)
    clear c1 c2 c3 c4
    try rw [Hw3.out]
    go_wp2_with fail
    refine wp_region_in (fun W' => Below w3.heap.size w3 W') (Below.refl _ _).drew (by kernel_rfl) (by kernel_rfl) ?_
    repeat (go_big_quiet_step (first
      | (go_at_call 34; have hh := fun (x : InC (fun W' => Below w3.heap.size w3 W')) => rled_any (hLw.below x.h); (first | (rw [HE.out] at hh) | skip); exact Calls.in_below (hh _))
      | (go_at_call 35; have hh := fun (x : InC (fun W' => Below w3.heap.size w3 W')) => rlast17_any (hLw.below x.h); rw [HL.out] at hh; exact Calls.in_below (hh _))))
    refine wpQuiet_nil ?_
    intro _ hw'
    obtain ⟨nq, hw''⟩ := hw'
    subst hw''
    have hbq := nq.h
    go_wp2
    go_ret
    exact ⟨by rw [HR.out]; rfl, hb03.trans (hbq.mono hb03.size)⟩
  have q4 : decide (tCommit < tStateNum) = false := decide_eq_false (by have := of_decide_eq_true c4; omega)
  rcases bool_two (decide (tCommit ≤ L)) with c5 | c5
  rotate_left

  · have HR := hide (tailE_no (HQ.out.trans (by simp [c1, c2, c3, c4, c5])))
    have q5 : decide (L < tCommit) = true := decide_eq_true (by have := of_decide_eq_false c5; omega)
    clear c1 c2 c3 c4 c5
    try rw [Hw3.out]
    go_wp2_with fail
    refine wp_region_in (fun W' => Below w3.heap.size w3 W') (Below.refl _ _).drew (by kernel_rfl) (by kernel_rfl) ?_
    repeat (go_big_quiet_step (first
      | (go_at_call 34; have hh := fun (x : InC (fun W' => Below w3.heap.size w3 W')) => rled_any (hLw.below x.h); (first | (rw [HE.out] at hh) | skip); exact Calls.in_below (hh _))
      | (go_at_call 35; have hh := fun (x : InC (fun W' => Below w3.heap.size w3 W')) => rlast17_any (hLw.below x.h); rw [HL.out] at hh; exact Calls.in_below (hh _))))
    refine wpQuiet_nil ?_
    intro _ hw'
    obtain ⟨nq, hw''⟩ := hw'
    subst hw''
    have hbq := nq.h
    go_wp2
    go_ret
    exact ⟨by rw [HR.out]; rfl, hb03.trans (hbq.mono hb03.size)⟩
  have q5 : decide (L < tCommit) = false := decide_eq_false (by have := of_decide_eq_true c5; omega)
  have HR := hide (tailE_ok (HQ.out.trans (by simp [c1, c2, c3, c4, c5])))
  clear c1 c2 c3 c4 c5
  try rw [Hw3.out]
  go_wp2_with fail
  refine wp_region_in (fun W' => Below w3.heap.size w3 W') (Below.refl _ _).drew (by kernel_rfl) (by kernel_rfl) ?_
  repeat (go_big_quiet_step (first
    | (go_at_call 34; have hh := fun (x : InC (fun W' => Below w3.heap.size w3 W')) => rled_any (hLw.below x.h); (first | (rw [HE.out] at hh) | skip); exact Calls.in_below (hh _))
    | (go_at_call 35; have hh := fun (x : InC (fun W' => Below w3.heap.size w3 W')) => rlast17_any (hLw.below x.h); rw [HL.out] at hh; exact Calls.in_below (hh _))))
  refine wpQuiet_nil ?_
  intro _ hw'
  obtain ⟨nq, hw''⟩ := hw'
  subst hw''
  have hbq := nq.h
  go_wp2
  go_ret
  exact ⟨by rw [HR.out]; rfl, hb03.trans (hbq.mono hb03.size)⟩
end Go.Proofs.Ytfjffmjnnjckkaa
