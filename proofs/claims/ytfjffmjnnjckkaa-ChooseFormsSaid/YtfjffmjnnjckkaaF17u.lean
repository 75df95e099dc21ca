/- Stage 17: tails held against each other (written by gen_17t.py). -/
import Derived.Test.YtfjffmjnnjckkaaF17t
import Derived.Test.YtfjffmjnnjckkaaF17d
namespace Go.Proofs.Ytfjffmjnnjckkaa
set_option maxRecDepth 20000
open Go.RowKit Go.Px Go.Maps
set_option linter.unusedVariables false
set_option linter.unusedSimpArgs false
@[go_sem] theorem field_ly (w : World) (c0 c1 c2 c3 c4 c5 c6 c7 c8 : Value) : (Instr.field 70 (.agg #[c0, c1, c2, c3, c4, c5, c6, c7, c8]) 0).run Try.prog w = .ok (.agg #[c0, c1, c2, c3, c4, c5, c6, c7]) w := by kernel_rfl
/-- Are two tails alike? -/
def eqT (x y : TailD) : Bool := (x.1 == y.1) && ((x.2.1 == y.2.1) && ((x.2.2.1 == y.2.2.1) && eqLd (tlL x) (tlL y)))
theorem eqT_self (x : TailD) : eqT x x = true := by unfold eqT; rw [eqLd_self]; simp
set_option maxRecDepth 20000 in
set_option maxHeartbeats 12800000 in
theorem mtailSame_any {w : World} {Q Q' : Nat → Prop} {x y : TailD} {cs ds : List Value} (h : tyTail.Is w Q x cs) (h' : tyTail.Is w Q' y ds) : Calls Try.prog 10 #[.agg cs.toArray, .agg ds.toArray] w fun e w' => e = .returned (.bool (eqT x y)) ∧ Below w.heap.size w w' := by
  have h9 := h
  have h9' := h'
  obtain ⟨sNode, sNormal, sCommit, sStateNum, sStateShapeBlocks, sStateShapeSize, sStatePages, sStatePagesA, sStatePagesn, sStatePagesc, sStatePagesv, sStateRows, sStateRowsA, sStateRowsn, sStateRowsc, sStateRowsv, sStateGroupEpoch, sStateGroupMembers, sStateGroupMembersA, sStateGroupMembersn, sStateGroupMembersc, sStateGroupMembersv, sLog, sLogA, sLogn, sLogc, sLogv, rfl, rfl, h1_sNode, h2_sNode, h1_sNormal, h2_sNormal, h1_sCommit, h2_sCommit, h1_sStateNum, h2_sStateNum, h1_sStateShapeBlocks, h2_sStateShapeBlocks, h1_sStateShapeSize, h2_sStateShapeSize, hl_sStatePages, hc_sStatePages, hm_sStatePages, hr_sStatePages, hq_sStatePages, he_sStatePages, hl_sStateRows, hc_sStateRows, hm_sStateRows, hr_sStateRows, hq_sStateRows, he_sStateRows, h1_sStateGroupEpoch, h2_sStateGroupEpoch, hl_sStateGroupMembers, hc_sStateGroupMembers, hm_sStateGroupMembers, hr_sStateGroupMembers, hq_sStateGroupMembers, he_sStateGroupMembers, hl_sLog, hc_sLog, hm_sLog, hr_sLog, hq_sLog, he_sLog⟩ := Tail_out h
  obtain ⟨tNode, tNormal, tCommit, tStateNum, tStateShapeBlocks, tStateShapeSize, tStatePages, tStatePagesA, tStatePagesn, tStatePagesc, tStatePagesv, tStateRows, tStateRowsA, tStateRowsn, tStateRowsc, tStateRowsv, tStateGroupEpoch, tStateGroupMembers, tStateGroupMembersA, tStateGroupMembersn, tStateGroupMembersc, tStateGroupMembersv, tLog, tLogA, tLogn, tLogc, tLogv, rfl, rfl, h1_tNode, h2_tNode, h1_tNormal, h2_tNormal, h1_tCommit, h2_tCommit, h1_tStateNum, h2_tStateNum, h1_tStateShapeBlocks, h2_tStateShapeBlocks, h1_tStateShapeSize, h2_tStateShapeSize, hl_tStatePages, hc_tStatePages, hm_tStatePages, hr_tStatePages, hq_tStatePages, he_tStatePages, hl_tStateRows, hc_tStateRows, hm_tStateRows, hr_tStateRows, hq_tStateRows, he_tStateRows, h1_tStateGroupEpoch, h2_tStateGroupEpoch, hl_tStateGroupMembers, hc_tStateGroupMembers, hm_tStateGroupMembers, hr_tStateGroupMembers, hq_tStateGroupMembers, he_tStateGroupMembers, hl_tLog, hc_tLog, hm_tLog, hr_tLog, hq_tLog, he_tLog⟩ := Tail_out h'
  obtain ⟨g, hg⟩ : ∃ g, w.heap.size = g := ⟨_, rfl⟩
  obtain ⟨w0, hw0⟩ : ∃ x, (w.alloc (.cells #[.int .i64 sNode, .int .i64 sNormal, .int .i64 sCommit, .int .i64 sStateNum, .int .i64 sStateShapeBlocks, .int .i64 sStateShapeSize, .slice sStatePagesA sStatePagesn sStatePagesc, .slice sStateRowsA sStateRowsn sStateRowsc, .int .i64 sStateGroupEpoch, .slice sStateGroupMembersA sStateGroupMembersn sStateGroupMembersc, .slice sLogA sLogn sLogc] 33)).alloc (.cells #[.int .i64 tNode, .int .i64 tNormal, .int .i64 tCommit, .int .i64 tStateNum, .int .i64 tStateShapeBlocks, .int .i64 tStateShapeSize, .slice tStatePagesA tStatePagesn tStatePagesc, .slice tStateRowsA tStateRowsn tStateRowsc, .int .i64 tStateGroupEpoch, .slice tStateGroupMembersA tStateGroupMembersn tStateGroupMembersc, .slice tLogA tLogn tLogc] 33) = x := ⟨_, rfl⟩
  have hS : Blk w0 g [.int .i64 sNode, .int .i64 sNormal, .int .i64 sCommit, .int .i64 sStateNum, .int .i64 sStateShapeBlocks, .int .i64 sStateShapeSize, .slice sStatePagesA sStatePagesn sStatePagesc, .slice sStateRowsA sStateRowsn sStateRowsc, .int .i64 sStateGroupEpoch, .slice sStateGroupMembersA sStateGroupMembersn sStateGroupMembersc, .slice sLogA sLogn sLogc] 33 := by rw [← hw0, ← hg]; exact (Blk.new w [.int .i64 sNode, .int .i64 sNormal, .int .i64 sCommit, .int .i64 sStateNum, .int .i64 sStateShapeBlocks, .int .i64 sStateShapeSize, .slice sStatePagesA sStatePagesn sStatePagesc, .slice sStateRowsA sStateRowsn sStateRowsc, .int .i64 sStateGroupEpoch, .slice sStateGroupMembersA sStateGroupMembersn sStateGroupMembersc, .slice sLogA sLogn sLogc] _).alloc _
  have hT : Blk w0 (g + 1) [.int .i64 tNode, .int .i64 tNormal, .int .i64 tCommit, .int .i64 tStateNum, .int .i64 tStateShapeBlocks, .int .i64 tStateShapeSize, .slice tStatePagesA tStatePagesn tStatePagesc, .slice tStateRowsA tStateRowsn tStateRowsc, .int .i64 tStateGroupEpoch, .slice tStateGroupMembersA tStateGroupMembersn tStateGroupMembersc, .slice tLogA tLogn tLogc] 33 := by
    rw [← hw0, ← hg]
    have := Blk.new (w.alloc (.cells #[.int .i64 sNode, .int .i64 sNormal, .int .i64 sCommit, .int .i64 sStateNum, .int .i64 sStateShapeBlocks, .int .i64 sStateShapeSize, .slice sStatePagesA sStatePagesn sStatePagesc, .slice sStateRowsA sStateRowsn sStateRowsc, .int .i64 sStateGroupEpoch, .slice sStateGroupMembersA sStateGroupMembersn sStateGroupMembersc, .slice sLogA sLogn sLogc] 33)) [.int .i64 tNode, .int .i64 tNormal, .int .i64 tCommit, .int .i64 tStateNum, .int .i64 tStateShapeBlocks, .int .i64 tStateShapeSize, .slice tStatePagesA tStatePagesn tStatePagesc, .slice tStateRowsA tStateRowsn tStateRowsc, .int .i64 tStateGroupEpoch, .slice tStateGroupMembersA tStateGroupMembersn tStateGroupMembersc, .slice tLogA tLogn tLogc] 33
    rwa [World.size_alloc] at this
  have hb0 : Below w.heap.size w w0 := by rw [← hw0]; exact ((Below.refl _ _).alloc (Nat.le_refl _) _).alloc (by simp) _
  have HA := hide (fun W (hW : Below w0.heap.size w0 W) => lies_any ((h9.below hb0).below hW))
  have HB := hide (fun W (hW : Below w0.heap.size w0 W) => lies_any ((h9'.below hb0).below hW))
  have HL := hide (fun W (hW : Below w0.heap.size w0 W) => mledSame_any (tl_led ((h9.below hb0).below hW)) (tl_led ((h9'.below hb0).below hW)))
  simp only [List.drop_succ_cons, List.drop_zero, List.cons_append, List.nil_append] at HA HB HL
  clear hl_sStatePages hr_sStatePages hq_sStatePages he_sStatePages hl_sStateRows hr_sStateRows hq_sStateRows he_sStateRows hl_sStateGroupMembers hr_sStateGroupMembers hq_sStateGroupMembers he_sStateGroupMembers hl_sLog hr_sLog hq_sLog he_sLog
  clear hl_tStatePages hr_tStatePages hq_tStatePages he_tStatePages hl_tStateRows hr_tStateRows hq_tStateRows he_tStateRows hl_tStateGroupMembers hr_tStateGroupMembers hq_tStateGroupMembers he_tStateGroupMembers hl_tLog hr_tLog hq_tLog he_tLog
  have Hw0 := hide hw0
  have Hg := hide hg
  clear hw0
  obtain ⟨E, hE⟩ : ∃ b, eqLd (tlL (sNode, sNormal, sCommit, (sStateNum, (sStateShapeBlocks, sStateShapeSize), sStatePages, sStateRows, (sStateGroupEpoch, sStateGroupMembers)), sLog)) (tlL (tNode, tNormal, tCommit, (tStateNum, (tStateShapeBlocks, tStateShapeSize), tStatePages, tStateRows, (tStateGroupEpoch, tStateGroupMembers)), tLog)) = b := ⟨_, rfl⟩
  have HQ := hide (show eqT (sNode, sNormal, sCommit, (sStateNum, (sStateShapeBlocks, sStateShapeSize), sStatePages, sStateRows, (sStateGroupEpoch, sStateGroupMembers)), sLog) (tNode, tNormal, tCommit, (tStateNum, (tStateShapeBlocks, tStateShapeSize), tStatePages, tStateRows, (tStateGroupEpoch, tStateGroupMembers)), tLog) = ((sNode == tNode) && ((sNormal == tNormal) && ((sCommit == tCommit) && E))) by rw [← hE]; rfl)
  have HE := hide hE
  clear hE
  have y0 := Blk.cell hS (j := 0) rfl; have y1 := Blk.cell hS (j := 1) rfl; have y2 := Blk.cell hS (j := 2) rfl; have y3 := Blk.cell hS (j := 3) rfl; have y4 := Blk.cell hS (j := 4) rfl; have y5 := Blk.cell hS (j := 5) rfl; have y6 := Blk.cell hS (j := 6) rfl; have y7 := Blk.cell hS (j := 7) rfl; have y8 := Blk.cell hS (j := 8) rfl; have y9 := Blk.cell hS (j := 9) rfl; have y10 := Blk.cell hS (j := 10) rfl
  have z0 := Blk.cell hT (j := 0) rfl; have z1 := Blk.cell hT (j := 1) rfl; have z2 := Blk.cell hT (j := 2) rfl; have z3 := Blk.cell hT (j := 3) rfl; have z4 := Blk.cell hT (j := 4) rfl; have z5 := Blk.cell hT (j := 5) rfl; have z6 := Blk.cell hT (j := 6) rfl; have z7 := Blk.cell hT (j := 7) rfl; have z8 := Blk.cell hT (j := 8) rfl; have z9 := Blk.cell hT (j := 9) rfl; have z10 := Blk.cell hT (j := 10) rfl
  have k0 := fun (x : InC (fun W' => Below w0.heap.size w0 W')) => below_cell x.h y0
  have k1 := fun (x : InC (fun W' => Below w0.heap.size w0 W')) => below_cell x.h y1
  have k2 := fun (x : InC (fun W' => Below w0.heap.size w0 W')) => below_cell x.h y2
  have k3 := fun (x : InC (fun W' => Below w0.heap.size w0 W')) => below_cell x.h y3
  have k4 := fun (x : InC (fun W' => Below w0.heap.size w0 W')) => below_cell x.h y4
  have k5 := fun (x : InC (fun W' => Below w0.heap.size w0 W')) => below_cell x.h y5
  have k6 := fun (x : InC (fun W' => Below w0.heap.size w0 W')) => below_cell x.h y6
  have k7 := fun (x : InC (fun W' => Below w0.heap.size w0 W')) => below_cell x.h y7
  have k8 := fun (x : InC (fun W' => Below w0.heap.size w0 W')) => below_cell x.h y8
  have k9 := fun (x : InC (fun W' => Below w0.heap.size w0 W')) => below_cell x.h y9
  have k10 := fun (x : InC (fun W' => Below w0.heap.size w0 W')) => below_cell x.h y10
  have m0 := fun (x : InC (fun W' => Below w0.heap.size w0 W')) => below_cell x.h z0
  have m1 := fun (x : InC (fun W' => Below w0.heap.size w0 W')) => below_cell x.h z1
  have m2 := fun (x : InC (fun W' => Below w0.heap.size w0 W')) => below_cell x.h z2
  have m3 := fun (x : InC (fun W' => Below w0.heap.size w0 W')) => below_cell x.h z3
  have m4 := fun (x : InC (fun W' => Below w0.heap.size w0 W')) => below_cell x.h z4
  have m5 := fun (x : InC (fun W' => Below w0.heap.size w0 W')) => below_cell x.h z5
  have m6 := fun (x : InC (fun W' => Below w0.heap.size w0 W')) => below_cell x.h z6
  have m7 := fun (x : InC (fun W' => Below w0.heap.size w0 W')) => below_cell x.h z7
  have m8 := fun (x : InC (fun W' => Below w0.heap.size w0 W')) => below_cell x.h z8
  have m9 := fun (x : InC (fun W' => Below w0.heap.size w0 W')) => below_cell x.h z9
  have m10 := fun (x : InC (fun W' => Below w0.heap.size w0 W')) => below_cell x.h z10
  rcases bool_two (sNode == tNode) with c1 | c1
  rotate_left
  · have HF := hide (show eqT (sNode, sNormal, sCommit, (sStateNum, (sStateShapeBlocks, sStateShapeSize), sStatePages, sStateRows, (sStateGroupEpoch, sStateGroupMembers)), sLog) (tNode, tNormal, tCommit, (tStateNum, (tStateShapeBlocks, tStateShapeSize), tStatePages, tStateRows, (tStateGroupEpoch, tStateGroupMembers)), tLog) = false by rw [HQ.out]; simp only [c1, Bool.true_and, Bool.false_and, Bool.and_false])
    go_enter Try.func10, Try.ntmps10
    go_wp2_with fail
    rw [Hw0.out]
    refine wp_region_in (fun W' => Below w0.heap.size w0 W') (Below.refl _ _).drew (by kernel_rfl) (by kernel_rfl) ?_
    repeat (go_big_quiet_step (first
      | (go_at_call_of 28 (Value.agg #[.int .i64 sNode, .int .i64 sNormal, .int .i64 sCommit, .int .i64 sStateNum, .int .i64 sStateShapeBlocks, .int .i64 sStateShapeSize, .slice sStatePagesA sStatePagesn sStatePagesc, .slice sStateRowsA sStateRowsn sStateRowsc, .int .i64 sStateGroupEpoch, .slice sStateGroupMembersA sStateGroupMembersn sStateGroupMembersc, .slice sLogA sLogn sLogc]); have hh := fun (x : InC (fun W' => Below w0.heap.size w0 W')) => HA.out x.W x.h; exact Calls.in_below (hh _))
      | (go_at_call_of 28 (Value.agg #[.int .i64 tNode, .int .i64 tNormal, .int .i64 tCommit, .int .i64 tStateNum, .int .i64 tStateShapeBlocks, .int .i64 tStateShapeSize, .slice tStatePagesA tStatePagesn tStatePagesc, .slice tStateRowsA tStateRowsn tStateRowsc, .int .i64 tStateGroupEpoch, .slice tStateGroupMembersA tStateGroupMembersn tStateGroupMembersc, .slice tLogA tLogn tLogc]); have hh := fun (x : InC (fun W' => Below w0.heap.size w0 W')) => HB.out x.W x.h; exact Calls.in_below (hh _))
      | (go_at_call 36; have hh := fun (x : InC (fun W' => Below w0.heap.size w0 W')) => HL.out x.W x.h; rw [HE.out] at hh; exact Calls.in_below (hh _))))
    refine wpQuiet_nil ?_
    intro _ hw'
    obtain ⟨nq, hw''⟩ := hw'
    subst hw''
    have hbq := nq.h
    go_wp2
    go_ret
    exact ⟨by rw [HF.out]; rfl, hb0.trans (hbq.mono hb0.size)⟩
  rcases bool_two (sNormal == tNormal) with c2 | c2
  rotate_left
  · have HF := hide (show eqT (sNode, sNormal, sCommit, (sStateNum, (sStateShapeBlocks, sStateShapeSize), sStatePages, sStateRows, (sStateGroupEpoch, sStateGroupMembers)), sLog) (tNode, tNormal, tCommit, (tStateNum, (tStateShapeBlocks, tStateShapeSize), tStatePages, tStateRows, (tStateGroupEpoch, tStateGroupMembers)), tLog) = false by rw [HQ.out]; simp only [c1, c2, Bool.true_and, Bool.false_and, Bool.and_false])
    go_enter Try.func10, Try.ntmps10
    go_wp2_with fail
    rw [Hw0.out]
    refine wp_region_in (fun W' => Below w0.heap.size w0 W') (Below.refl _ _).drew (by kernel_rfl) (by kernel_rfl) ?_
    repeat (go_big_quiet_step (first
      | (go_at_call_of 28 (Value.agg #[.int .i64 sNode, .int .i64 sNormal, .int .i64 sCommit, .int .i64 sStateNum, .int .i64 sStateShapeBlocks, .int .i64 sStateShapeSize, .slice sStatePagesA sStatePagesn sStatePagesc, .slice sStateRowsA sStateRowsn sStateRowsc, .int .i64 sStateGroupEpoch, .slice sStateGroupMembersA sStateGroupMembersn sStateGroupMembersc, .slice sLogA sLogn sLogc]); have hh := fun (x : InC (fun W' => Below w0.heap.size w0 W')) => HA.out x.W x.h; exact Calls.in_below (hh _))
      | (go_at_call_of 28 (Value.agg #[.int .i64 tNode, .int .i64 tNormal, .int .i64 tCommit, .int .i64 tStateNum, .int .i64 tStateShapeBlocks, .int .i64 tStateShapeSize, .slice tStatePagesA tStatePagesn tStatePagesc, .slice tStateRowsA tStateRowsn tStateRowsc, .int .i64 tStateGroupEpoch, .slice tStateGroupMembersA tStateGroupMembersn tStateGroupMembersc, .slice tLogA tLogn tLogc]); have hh := fun (x : InC (fun W' => Below w0.heap.size w0 W')) => HB.out x.W x.h; exact Calls.in_below (hh _))
      | (go_at_call 36; have hh := fun (x : InC (fun W' => Below w0.heap.size w0 W')) => HL.out x.W x.h; rw [HE.out] at hh; exact Calls.in_below (hh _))))
    refine wpQuiet_nil ?_
    intro _ hw'
    obtain ⟨nq, hw''⟩ := hw'
    subst hw''
    have hbq := nq.h
    go_wp2
    go_ret
    exact ⟨by rw [HF.out]; rfl, hb0.trans (hbq.mono hb0.size)⟩
  rcases bool_two (sCommit == tCommit) with c3 | c3
  rotate_left
  · have HF := hide (show eqT (sNode, sNormal, sCommit, (sStateNum, (sStateShapeBlocks, sStateShapeSize), sStatePages, sStateRows, (sStateGroupEpoch, sStateGroupMembers)), sLog) (tNode, tNormal, tCommit, (tStateNum, (tStateShapeBlocks, tStateShapeSize), tStatePages, tStateRows, (tStateGroupEpoch, tStateGroupMembers)), tLog) = false by rw [HQ.out]; simp only [c1, c2, c3, Bool.true_and, Bool.false_and, Bool.and_false])
    go_enter Try.func10, Try.ntmps10
    go_wp2_with fail
    rw [Hw0.out]
    refine wp_region_in (fun W' => Below w0.heap.size w0 W') (Below.refl _ _).drew (by kernel_rfl) (by kernel_rfl) ?_
    repeat (go_big_quiet_step (first
      | (go_at_call_of 28 (Value.agg #[.int .i64 sNode, .int .i64 sNormal, .int .i64 sCommit, .int .i64 sStateNum, .int .i64 sStateShapeBlocks, .int .i64 sStateShapeSize, .slice sStatePagesA sStatePagesn sStatePagesc, .slice sStateRowsA sStateRowsn sStateRowsc, .int .i64 sStateGroupEpoch, .slice sStateGroupMembersA sStateGroupMembersn sStateGroupMembersc, .slice sLogA sLogn sLogc]); have hh := fun (x : InC (fun W' => Below w0.heap.size w0 W')) => HA.out x.W x.h; exact Calls.in_below (hh _))
      | (go_at_call_of 28 (Value.agg #[.int .i64 tNode, .int .i64 tNormal, .int .i64 tCommit, .int .i64 tStateNum, .int .i64 tStateShapeBlocks, .int .i64 tStateShapeSize, .slice tStatePagesA tStatePagesn tStatePagesc, .slice tStateRowsA tStateRowsn tStateRowsc, .int .i64 tStateGroupEpoch, .slice tStateGroupMembersA tStateGroupMembersn tStateGroupMembersc, .slice tLogA tLogn tLogc]); have hh := fun (x : InC (fun W' => Below w0.heap.size w0 W')) => HB.out x.W x.h; exact Calls.in_below (hh _))
      | (go_at_call 36; have hh := fun (x : InC (fun W' => Below w0.heap.size w0 W')) => HL.out x.W x.h; rw [HE.out] at hh; exact Calls.in_below (hh _))))
    refine wpQuiet_nil ?_
    intro _ hw'
    obtain ⟨nq, hw''⟩ := hw'
    subst hw''
    have hbq := nq.h
    go_wp2
    go_ret
    exact ⟨by rw [HF.out]; rfl, hb0.trans (hbq.mono hb0.size)⟩
  have HF := hide (show eqT (sNode, sNormal, sCommit, (sStateNum, (sStateShapeBlocks, sStateShapeSize), sStatePages, sStateRows, (sStateGroupEpoch, sStateGroupMembers)), sLog) (tNode, tNormal, tCommit, (tStateNum, (tStateShapeBlocks, tStateShapeSize), tStatePages, tStateRows, (tStateGroupEpoch, tStateGroupMembers)), tLog) = E by rw [HQ.out]; simp only [c1, c2, c3, Bool.true_and])
  go_enter Try.func10, Try.ntmps10
  go_wp2_with fail
  rw [Hw0.out]
  refine wp_region_in (fun W' => Below w0.heap.size w0 W') (Below.refl _ _).drew (by kernel_rfl) (by kernel_rfl) ?_
  repeat (go_big_quiet_step (first
    | (go_at_call_of 28 (Value.agg #[.int .i64 sNode, .int .i64 sNormal, .int .i64 sCommit, .int .i64 sStateNum, .int .i64 sStateShapeBlocks, .int .i64 sStateShapeSize, .slice sStatePagesA sStatePagesn sStatePagesc, .slice sStateRowsA sStateRowsn sStateRowsc, .int .i64 sStateGroupEpoch, .slice sStateGroupMembersA sStateGroupMembersn sStateGroupMembersc, .slice sLogA sLogn sLogc]); have hh := fun (x : InC (fun W' => Below w0.heap.size w0 W')) => HA.out x.W x.h; exact Calls.in_below (hh _))
    | (go_at_call_of 28 (Value.agg #[.int .i64 tNode, .int .i64 tNormal, .int .i64 tCommit, .int .i64 tStateNum, .int .i64 tStateShapeBlocks, .int .i64 tStateShapeSize, .slice tStatePagesA tStatePagesn tStatePagesc, .slice tStateRowsA tStateRowsn tStateRowsc, .int .i64 tStateGroupEpoch, .slice tStateGroupMembersA tStateGroupMembersn tStateGroupMembersc, .slice tLogA tLogn tLogc]); have hh := fun (x : InC (fun W' => Below w0.heap.size w0 W')) => HB.out x.W x.h; exact Calls.in_below (hh _))
    | (go_at_call 36; have hh := fun (x : InC (fun W' => Below w0.heap.size w0 W')) => HL.out x.W x.h; rw [HE.out] at hh; exact Calls.in_below (hh _))))
  refine wpQuiet_nil ?_
  intro _ hw'
  obtain ⟨nq, hw''⟩ := hw'
  subst hw''
  have hbq := nq.h
  go_wp2
  go_ret
  exact ⟨by rw [HF.out]; rfl, hb0.trans (hbq.mono hb0.size)⟩
end Go.Proofs.Ytfjffmjnnjckkaa
