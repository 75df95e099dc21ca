/- Stage 17: the law ChooseForms (written by gen_w17f.py). -/
import Derived.Test.YtfjffmjnnjckkaaF17v
import Derived.Test.YtfjffmjnnjckkaaF17n
namespace Go.Proofs.Ytfjffmjnnjckkaa
set_option maxRecDepth 20000
open Go.RowKit Go.Px Go.Maps
set_option linter.unusedVariables false
set_option linter.unusedSimpArgs false
set_option maxRecDepth 20000 in
set_option maxHeartbeats 25600000 in
theorem chooseForms_walk {w : World} {Q Q' : Nat → Prop} {x y : TailD} {cs ds : List Value} (h : tyTail.Is w Q x cs) (h' : tyTail.Is w Q' y ds) : Calls Try.prog 3 #[.agg cs.toArray, .agg ds.toArray] w fun e w' => e = .returned (.bool true) ∧ Below w.heap.size w w' := by
  have h9 := h
  have h9' := h'
  obtain ⟨sNode, sNormal, sCommit, sStateNum, sStateShapeBlocks, sStateShapeSize, sStatePages, sStatePagesA, sStatePagesn, sStatePagesc, sStatePagesv, sStateRows, sStateRowsA, sStateRowsn, sStateRowsc, sStateRowsv, sStateGroupEpoch, sStateGroupMembers, sStateGroupMembersA, sStateGroupMembersn, sStateGroupMembersc, sStateGroupMembersv, sLog, sLogA, sLogn, sLogc, sLogv, rfl, rfl, h1_sNode, h2_sNode, h1_sNormal, h2_sNormal, h1_sCommit, h2_sCommit, h1_sStateNum, h2_sStateNum, h1_sStateShapeBlocks, h2_sStateShapeBlocks, h1_sStateShapeSize, h2_sStateShapeSize, hl_sStatePages, hc_sStatePages, hm_sStatePages, hr_sStatePages, hq_sStatePages, he_sStatePages, hl_sStateRows, hc_sStateRows, hm_sStateRows, hr_sStateRows, hq_sStateRows, he_sStateRows, h1_sStateGroupEpoch, h2_sStateGroupEpoch, hl_sStateGroupMembers, hc_sStateGroupMembers, hm_sStateGroupMembers, hr_sStateGroupMembers, hq_sStateGroupMembers, he_sStateGroupMembers, hl_sLog, hc_sLog, hm_sLog, hr_sLog, hq_sLog, he_sLog⟩ := Tail_out h
  obtain ⟨tNode, tNormal, tCommit, tStateNum, tStateShapeBlocks, tStateShapeSize, tStatePages, tStatePagesA, tStatePagesn, tStatePagesc, tStatePagesv, tStateRows, tStateRowsA, tStateRowsn, tStateRowsc, tStateRowsv, tStateGroupEpoch, tStateGroupMembers, tStateGroupMembersA, tStateGroupMembersn, tStateGroupMembersc, tStateGroupMembersv, tLog, tLogA, tLogn, tLogc, tLogv, rfl, rfl, h1_tNode, h2_tNode, h1_tNormal, h2_tNormal, h1_tCommit, h2_tCommit, h1_tStateNum, h2_tStateNum, h1_tStateShapeBlocks, h2_tStateShapeBlocks, h1_tStateShapeSize, h2_tStateShapeSize, hl_tStatePages, hc_tStatePages, hm_tStatePages, hr_tStatePages, hq_tStatePages, he_tStatePages, hl_tStateRows, hc_tStateRows, hm_tStateRows, hr_tStateRows, hq_tStateRows, he_tStateRows, h1_tStateGroupEpoch, h2_tStateGroupEpoch, hl_tStateGroupMembers, hc_tStateGroupMembers, hm_tStateGroupMembers, hr_tStateGroupMembers, hq_tStateGroupMembers, he_tStateGroupMembers, hl_tLog, hc_tLog, hm_tLog, hr_tLog, hq_tLog, he_tLog⟩ := Tail_out h'
  clear hl_sStatePages hr_sStatePages hq_sStatePages he_sStatePages hl_sStateRows hr_sStateRows hq_sStateRows he_sStateRows hl_sStateGroupMembers hr_sStateGroupMembers hq_sStateGroupMembers he_sStateGroupMembers hl_sLog hr_sLog hq_sLog he_sLog
  clear hl_tStatePages hr_tStatePages hq_tStatePages he_tStatePages hl_tStateRows hr_tStateRows hq_tStateRows he_tStateRows hl_tStateGroupMembers hr_tStateGroupMembers hq_tStateGroupMembers he_tStateGroupMembers hl_tLog hr_tLog hq_tLog he_tLog
  obtain ⟨g, hg⟩ : ∃ g, w.heap.size = g := ⟨_, rfl⟩
  obtain ⟨w0, hw0⟩ : ∃ x, (w.alloc (.cells #[.int .i64 sNode, .int .i64 sNormal, .int .i64 sCommit, .int .i64 sStateNum, .int .i64 sStateShapeBlocks, .int .i64 sStateShapeSize, .slice sStatePagesA sStatePagesn sStatePagesc, .slice sStateRowsA sStateRowsn sStateRowsc, .int .i64 sStateGroupEpoch, .slice sStateGroupMembersA sStateGroupMembersn sStateGroupMembersc, .slice sLogA sLogn sLogc] 33)).alloc (.cells #[.int .i64 tNode, .int .i64 tNormal, .int .i64 tCommit, .int .i64 tStateNum, .int .i64 tStateShapeBlocks, .int .i64 tStateShapeSize, .slice tStatePagesA tStatePagesn tStatePagesc, .slice tStateRowsA tStateRowsn tStateRowsc, .int .i64 tStateGroupEpoch, .slice tStateGroupMembersA tStateGroupMembersn tStateGroupMembersc, .slice tLogA tLogn tLogc] 33) = x := ⟨_, rfl⟩
  have hS : Blk w0 g [.int .i64 sNode, .int .i64 sNormal, .int .i64 sCommit, .int .i64 sStateNum, .int .i64 sStateShapeBlocks, .int .i64 sStateShapeSize, .slice sStatePagesA sStatePagesn sStatePagesc, .slice sStateRowsA sStateRowsn sStateRowsc, .int .i64 sStateGroupEpoch, .slice sStateGroupMembersA sStateGroupMembersn sStateGroupMembersc, .slice sLogA sLogn sLogc] 33 := by rw [← hw0, ← hg]; exact (Blk.new w [.int .i64 sNode, .int .i64 sNormal, .int .i64 sCommit, .int .i64 sStateNum, .int .i64 sStateShapeBlocks, .int .i64 sStateShapeSize, .slice sStatePagesA sStatePagesn sStatePagesc, .slice sStateRowsA sStateRowsn sStateRowsc, .int .i64 sStateGroupEpoch, .slice sStateGroupMembersA sStateGroupMembersn sStateGroupMembersc, .slice sLogA sLogn sLogc] _).alloc _
  have hT : Blk w0 (g + 1) [.int .i64 tNode, .int .i64 tNormal, .int .i64 tCommit, .int .i64 tStateNum, .int .i64 tStateShapeBlocks, .int .i64 tStateShapeSize, .slice tStatePagesA tStatePagesn tStatePagesc, .slice tStateRowsA tStateRowsn tStateRowsc, .int .i64 tStateGroupEpoch, .slice tStateGroupMembersA tStateGroupMembersn tStateGroupMembersc, .slice tLogA tLogn tLogc] 33 := by
    rw [← hw0, ← hg]
    have := Blk.new (w.alloc (.cells #[.int .i64 sNode, .int .i64 sNormal, .int .i64 sCommit, .int .i64 sStateNum, .int .i64 sStateShapeBlocks, .int .i64 sStateShapeSize, .slice sStatePagesA sStatePagesn sStatePagesc, .slice sStateRowsA sStateRowsn sStateRowsc, .int .i64 sStateGroupEpoch, .slice sStateGroupMembersA sStateGroupMembersn sStateGroupMembersc, .slice sLogA sLogn sLogc] 33)) [.int .i64 tNode, .int .i64 tNormal, .int .i64 tCommit, .int .i64 tStateNum, .int .i64 tStateShapeBlocks, .int .i64 tStateShapeSize, .slice tStatePagesA tStatePagesn tStatePagesc, .slice tStateRowsA tStateRowsn tStateRowsc, .int .i64 tStateGroupEpoch, .slice tStateGroupMembersA tStateGroupMembersn tStateGroupMembersc, .slice tLogA tLogn tLogc] 33
    rwa [World.size_alloc] at this
  have hb0 : Below w.heap.size w w0 := by rw [← hw0]; exact ((Below.refl _ _).alloc (Nat.le_refl _) _).alloc (by simp) _
  have hX0 := h9.below hb0
  have hY0 := h9'.below hb0
  have hgS : w0.heap.size = g + 1 + 1 := by rw [← hw0, World.size_alloc, World.size_alloc, hg]
  obtain ⟨w1, hw1⟩ : ∃ x, w0.alloc (.cells #[.int .i64 sNode, .int .i64 sNormal, .int .i64 sCommit, .int .i64 sStateNum, .int .i64 sStateShapeBlocks, .int .i64 sStateShapeSize, .slice sStatePagesA sStatePagesn sStatePagesc, .slice sStateRowsA sStateRowsn sStateRowsc, .int .i64 sStateGroupEpoch, .slice sStateGroupMembersA sStateGroupMembersn sStateGroupMembersc, .slice sLogA sLogn sLogc, .int .i64 tNode, .int .i64 tNormal, .int .i64 tCommit, .int .i64 tStateNum, .int .i64 tStateShapeBlocks, .int .i64 tStateShapeSize, .slice tStatePagesA tStatePagesn tStatePagesc, .slice tStateRowsA tStateRowsn tStateRowsc, .int .i64 tStateGroupEpoch, .slice tStateGroupMembersA tStateGroupMembersn tStateGroupMembersc, .slice tLogA tLogn tLogc] 33) = x := ⟨_, rfl⟩
  have hrow := row_new (t := tyTail) (w := w0) 33 ((Ty.Rows.one hX0.any).append (Ty.Rows.one hY0.any)) (n := 2) rfl (by omega)
  try simp only [List.cons_append, List.nil_append, List.append_eq] at hrow
  rw [hgS] at hrow
  have hrow : (Ty.row tyTail).Is w1 (fun _ => True) [(sNode, sNormal, sCommit, (sStateNum, (sStateShapeBlocks, sStateShapeSize), sStatePages, sStateRows, (sStateGroupEpoch, sStateGroupMembers)), sLog), (tNode, tNormal, tCommit, (tStateNum, (tStateShapeBlocks, tStateShapeSize), tStatePages, tStateRows, (tStateGroupEpoch, tStateGroupMembers)), tLog)] [.slice (some ⟨g + 1 + 1, 0, none⟩) 2 2] := by rw [← hw1]; exact hrow
  have hb1 : Below w0.heap.size w0 w1 := by rw [← hw1]; exact (Below.refl _ _).alloc (Nat.le_refl _) _
  have hb01 := hb0.trans (hb1.mono hb0.size)
  obtain ⟨rs, r1, r2, r3, r4, r5, r6⟩ := row_out hrow
  have HSm := hide (small17_any (c := 2) (rowAt_of (t := tyTail) (by decide) r1 r4 r6) (Nat.le_refl _) (by omega))
  have Hw0 := hide hw0
  have Hw1 := hide hw1
  have Hg := hide hg
  clear hgS hw0 hw1 hrow r1 r2 r3 r4 r5 r6
  have y0 := Blk.cell hS (j := 0) rfl; have y1 := Blk.cell hS (j := 1) rfl; have y2 := Blk.cell hS (j := 2) rfl; have y3 := Blk.cell hS (j := 3) rfl; have y4 := Blk.cell hS (j := 4) rfl; have y5 := Blk.cell hS (j := 5) rfl; have y6 := Blk.cell hS (j := 6) rfl; have y7 := Blk.cell hS (j := 7) rfl; have y8 := Blk.cell hS (j := 8) rfl; have y9 := Blk.cell hS (j := 9) rfl; have y10 := Blk.cell hS (j := 10) rfl
  have z0 := Blk.cell hT (j := 0) rfl; have z1 := Blk.cell hT (j := 1) rfl; have z2 := Blk.cell hT (j := 2) rfl; have z3 := Blk.cell hT (j := 3) rfl; have z4 := Blk.cell hT (j := 4) rfl; have z5 := Blk.cell hT (j := 5) rfl; have z6 := Blk.cell hT (j := 6) rfl; have z7 := Blk.cell hT (j := 7) rfl; have z8 := Blk.cell hT (j := 8) rfl; have z9 := Blk.cell hT (j := 9) rfl; have z10 := Blk.cell hT (j := 10) rfl
  go_enter Try.func3, Try.ntmps3
  go_wp2_with fail
  rw [Hw0.out]
  try rw [Hw1.out]
  go_fit HSm.out
  rintro xx w2 ⟨sb, rfl, hb2⟩
  have hb02 := hb01.trans (hb2.mono hb01.size)
  cases sb with
  | false =>
    go_wp2_with fail
    go_fit (awake17_any w2)
    rintro xx w3 ⟨rfl, hb3⟩
    go_wp2
    go_ret
    exact ⟨rfl, hb02.trans (hb3.mono hb02.size)⟩
  | true =>
    have hb12 := hb1.trans (hb2.mono hb1.size)
    have hS2 := hS.below hb12
    have hT2 := hT.below hb12
    have hX2 := hX0.below hb12
    have hY2 := hY0.below hb12
    clear y0 y1 y2 y3 y4 y5 y6 y7 y8 y9 y10 z0 z1 z2 z3 z4 z5 z6 z7 z8 z9 z10 HSm
    have y0 := Blk.cell hS2 (j := 0) rfl; have y1 := Blk.cell hS2 (j := 1) rfl; have y2 := Blk.cell hS2 (j := 2) rfl; have y3 := Blk.cell hS2 (j := 3) rfl; have y4 := Blk.cell hS2 (j := 4) rfl; have y5 := Blk.cell hS2 (j := 5) rfl; have y6 := Blk.cell hS2 (j := 6) rfl; have y7 := Blk.cell hS2 (j := 7) rfl; have y8 := Blk.cell hS2 (j := 8) rfl; have y9 := Blk.cell hS2 (j := 9) rfl; have y10 := Blk.cell hS2 (j := 10) rfl
    have z0 := Blk.cell hT2 (j := 0) rfl; have z1 := Blk.cell hT2 (j := 1) rfl; have z2 := Blk.cell hT2 (j := 2) rfl; have z3 := Blk.cell hT2 (j := 3) rfl; have z4 := Blk.cell hT2 (j := 4) rfl; have z5 := Blk.cell hT2 (j := 5) rfl; have z6 := Blk.cell hT2 (j := 6) rfl; have z7 := Blk.cell hT2 (j := 7) rfl; have z8 := Blk.cell hT2 (j := 8) rfl; have z9 := Blk.cell hT2 (j := 9) rfl; have z10 := Blk.cell hT2 (j := 10) rfl
    have k0 := fun (x : InC (fun W' => Below w2.heap.size w2 W')) => below_cell x.h y0
    have k1 := fun (x : InC (fun W' => Below w2.heap.size w2 W')) => below_cell x.h y1
    have k2 := fun (x : InC (fun W' => Below w2.heap.size w2 W')) => below_cell x.h y2
    have k3 := fun (x : InC (fun W' => Below w2.heap.size w2 W')) => below_cell x.h y3
    have k4 := fun (x : InC (fun W' => Below w2.heap.size w2 W')) => below_cell x.h y4
    have k5 := fun (x : InC (fun W' => Below w2.heap.size w2 W')) => below_cell x.h y5
    have k6 := fun (x : InC (fun W' => Below w2.heap.size w2 W')) => below_cell x.h y6
    have k7 := fun (x : InC (fun W' => Below w2.heap.size w2 W')) => below_cell x.h y7
    have k8 := fun (x : InC (fun W' => Below w2.heap.size w2 W')) => below_cell x.h y8
    have k9 := fun (x : InC (fun W' => Below w2.heap.size w2 W')) => below_cell x.h y9
    have k10 := fun (x : InC (fun W' => Below w2.heap.size w2 W')) => below_cell x.h y10
    have m0 := fun (x : InC (fun W' => Below w2.heap.size w2 W')) => below_cell x.h z0
    have m1 := fun (x : InC (fun W' => Below w2.heap.size w2 W')) => below_cell x.h z1
    have m2 := fun (x : InC (fun W' => Below w2.heap.size w2 W')) => below_cell x.h z2
    have m3 := fun (x : InC (fun W' => Below w2.heap.size w2 W')) => below_cell x.h z3
    have m4 := fun (x : InC (fun W' => Below w2.heap.size w2 W')) => below_cell x.h z4
    have m5 := fun (x : InC (fun W' => Below w2.heap.size w2 W')) => below_cell x.h z5
    have m6 := fun (x : InC (fun W' => Below w2.heap.size w2 W')) => below_cell x.h z6
    have m7 := fun (x : InC (fun W' => Below w2.heap.size w2 W')) => below_cell x.h z7
    have m8 := fun (x : InC (fun W' => Below w2.heap.size w2 W')) => below_cell x.h z8
    have m9 := fun (x : InC (fun W' => Below w2.heap.size w2 W')) => below_cell x.h z9
    have m10 := fun (x : InC (fun W' => Below w2.heap.size w2 W')) => below_cell x.h z10
    obtain ⟨E, hE⟩ : ∃ b, tailE (sNode, sNormal, sCommit, (sStateNum, (sStateShapeBlocks, sStateShapeSize), sStatePages, sStateRows, (sStateGroupEpoch, sStateGroupMembers)), sLog) = b := ⟨_, rfl⟩
    have HE := hide hE
    obtain ⟨G, hG⟩ : ∃ b, eqT (sNode, sNormal, sCommit, (sStateNum, (sStateShapeBlocks, sStateShapeSize), sStatePages, sStateRows, (sStateGroupEpoch, sStateGroupMembers)), sLog) (tNode, tNormal, tCommit, (tStateNum, (tStateShapeBlocks, tStateShapeSize), tStatePages, tStateRows, (tStateGroupEpoch, tStateGroupMembers)), tLog) = b := ⟨_, rfl⟩
    have HG := hide hG
    have HSelf := hide (eqT_self (sNode, sNormal, sCommit, (sStateNum, (sStateShapeBlocks, sStateShapeSize), sStatePages, sStateRows, (sStateGroupEpoch, sStateGroupMembers)), sLog))
    have q1 : (E != E) = false := by simp
    have q2 : (G != G) = false := by simp
    clear hE hG
    go_wp2_with fail
    refine wp_region_in (fun W' => Below w2.heap.size w2 W') (Below.refl _ _).drew (by kernel_rfl) (by kernel_rfl) ?_
    repeat (go_big_quiet_step (first
      | (go_at_call 8; have hh := fun (x : InC (fun W' => Below w2.heap.size w2 W')) => mtail_any (hX2.below x.h); rw [HE.out] at hh; exact Calls.in_below (hh _))
      | (go_at_call 9; have hh := fun (x : InC (fun W' => Below w2.heap.size w2 W')) => rtail_any (hX2.below x.h); rw [HE.out] at hh; exact Calls.in_below (hh _))
      | (go_at_call 11; have hh := fun (x : InC (fun W' => Below w2.heap.size w2 W')) => rtailSame_any (hX2.below x.h) (hY2.below x.h); rw [HG.out] at hh; exact Calls.in_below (hh _))
      | (go_at_call_of 10 (Value.agg #[.int .i64 tNode, .int .i64 tNormal, .int .i64 tCommit, .int .i64 tStateNum, .int .i64 tStateShapeBlocks, .int .i64 tStateShapeSize, .slice tStatePagesA tStatePagesn tStatePagesc, .slice tStateRowsA tStateRowsn tStateRowsc, .int .i64 tStateGroupEpoch, .slice tStateGroupMembersA tStateGroupMembersn tStateGroupMembersc, .slice tLogA tLogn tLogc]); have hh := fun (x : InC (fun W' => Below w2.heap.size w2 W')) => mtailSame_any (hX2.below x.h) (hY2.below x.h); rw [HG.out] at hh; exact Calls.in_below (hh _))
      | (go_at_call 10; have hh := fun (x : InC (fun W' => Below w2.heap.size w2 W')) => mtailSame_any (hX2.below x.h) (hX2.below x.h); rw [HSelf.out] at hh; exact Calls.in_below (hh _))))
    refine wpQuiet_nil ?_
    intro _ hw'
    obtain ⟨nq, hw''⟩ := hw'
    subst hw''
    have hbq := nq.h
    obtain ⟨w3, hw3⟩ : ∃ x, nq.W = x := ⟨_, rfl⟩
    rw [hw3] at hbq
    rw [hw3]
    clear hw3 k0 m0 k1 m1 k2 m2 k3 m3 k4 m4 k5 m5 k6 m6 k7 m7 k8 m8 k9 m9 k10 m10 y0 y1 y2 y3 y4 y5 y6 y7 y8 y9 y10 z0 z1 z2 z3 z4 z5 z6 z7 z8 z9 z10
    have hb03 := hb02.trans (hbq.mono hb02.size)
    have hS3 := hS2.below hbq
    have hT3 := hT2.below hbq
    have hX3 := hX2.below hbq
    have hY3 := hY2.below hbq
    clear hbq
    have y0 := Blk.cell hS3 (j := 0) rfl; have y1 := Blk.cell hS3 (j := 1) rfl; have y2 := Blk.cell hS3 (j := 2) rfl; have y3 := Blk.cell hS3 (j := 3) rfl; have y4 := Blk.cell hS3 (j := 4) rfl; have y5 := Blk.cell hS3 (j := 5) rfl; have y6 := Blk.cell hS3 (j := 6) rfl; have y7 := Blk.cell hS3 (j := 7) rfl; have y8 := Blk.cell hS3 (j := 8) rfl; have y9 := Blk.cell hS3 (j := 9) rfl; have y10 := Blk.cell hS3 (j := 10) rfl
    have z0 := Blk.cell hT3 (j := 0) rfl; have z1 := Blk.cell hT3 (j := 1) rfl; have z2 := Blk.cell hT3 (j := 2) rfl; have z3 := Blk.cell hT3 (j := 3) rfl; have z4 := Blk.cell hT3 (j := 4) rfl; have z5 := Blk.cell hT3 (j := 5) rfl; have z6 := Blk.cell hT3 (j := 6) rfl; have z7 := Blk.cell hT3 (j := 7) rfl; have z8 := Blk.cell hT3 (j := 8) rfl; have z9 := Blk.cell hT3 (j := 9) rfl; have z10 := Blk.cell hT3 (j := 10) rfl
    have k0 := fun (x : InC (fun W' => Below w3.heap.size w3 W')) => below_cell x.h y0
    have k1 := fun (x : InC (fun W' => Below w3.heap.size w3 W')) => below_cell x.h y1
    have k2 := fun (x : InC (fun W' => Below w3.heap.size w3 W')) => below_cell x.h y2
    have k3 := fun (x : InC (fun W' => Below w3.heap.size w3 W')) => below_cell x.h y3
    have k4 := fun (x : InC (fun W' => Below w3.heap.size w3 W')) => below_cell x.h y4
    have k5 := fun (x : InC (fun W' => Below w3.heap.size w3 W')) => below_cell x.h y5
    have k6 := fun (x : InC (fun W' => Below w3.heap.size w3 W')) => below_cell x.h y6
    have k7 := fun (x : InC (fun W' => Below w3.heap.size w3 W')) => below_cell x.h y7
    have k8 := fun (x : InC (fun W' => Below w3.heap.size w3 W')) => below_cell x.h y8
    have k9 := fun (x : InC (fun W' => Below w3.heap.size w3 W')) => below_cell x.h y9
    have k10 := fun (x : InC (fun W' => Below w3.heap.size w3 W')) => below_cell x.h y10
    have m0 := fun (x : InC (fun W' => Below w3.heap.size w3 W')) => below_cell x.h z0
    have m1 := fun (x : InC (fun W' => Below w3.heap.size w3 W')) => below_cell x.h z1
    have m2 := fun (x : InC (fun W' => Below w3.heap.size w3 W')) => below_cell x.h z2
    have m3 := fun (x : InC (fun W' => Below w3.heap.size w3 W')) => below_cell x.h z3
    have m4 := fun (x : InC (fun W' => Below w3.heap.size w3 W')) => below_cell x.h z4
    have m5 := fun (x : InC (fun W' => Below w3.heap.size w3 W')) => below_cell x.h z5
    have m6 := fun (x : InC (fun W' => Below w3.heap.size w3 W')) => below_cell x.h z6
    have m7 := fun (x : InC (fun W' => Below w3.heap.size w3 W')) => below_cell x.h z7
    have m8 := fun (x : InC (fun W' => Below w3.heap.size w3 W')) => below_cell x.h z8
    have m9 := fun (x : InC (fun W' => Below w3.heap.size w3 W')) => below_cell x.h z9
    have m10 := fun (x : InC (fun W' => Below w3.heap.size w3 W')) => below_cell x.h z10
    obtain ⟨BB, hBB⟩ : ∃ b, betB (sNode, sNormal, sCommit, (sStateNum, (sStateShapeBlocks, sStateShapeSize), sStatePages, sStateRows, (sStateGroupEpoch, sStateGroupMembers)), sLog) (tNode, tNormal, tCommit, (tStateNum, (tStateShapeBlocks, tStateShapeSize), tStatePages, tStateRows, (tStateGroupEpoch, tStateGroupMembers)), tLog) = b := ⟨_, rfl⟩
    have HBB := hide hBB
    have q3 : (BB == BB) = true := by simp
    clear hBB
    rcases bool_two (decide (4611686018427387904 < sStateNum)) with d1 | d1
    · go_wp2_with fail
      refine wp_region_in (fun W' => Below w3.heap.size w3 W') (Below.refl _ _).drew (by kernel_rfl) (by kernel_rfl) ?_
      repeat (go_big_quiet_step (first
        | (go_at_call 12; have hh := fun (x : InC (fun W' => Below w3.heap.size w3 W')) => mbetter_any (hX3.below x.h) (hY3.below x.h); rw [HBB.out] at hh; exact Calls.in_below (hh _))
        | (go_at_call 13; have hh := fun (x : InC (fun W' => Below w3.heap.size w3 W')) => rbetter_any (hX3.below x.h) (hY3.below x.h); rw [HBB.out] at hh; exact Calls.in_below (hh _))
        | (go_at_call 7; have hh := fun (x : InC (fun W' => Below w3.heap.size w3 W')) => awake17_any x.W; exact Calls.in_below (hh _))))
      refine wpQuiet_nil ?_
      intro _ hw'
      obtain ⟨nq, hw''⟩ := hw'
      subst hw''
      have hbq := nq.h
      go_wp2
      go_ret
      exact ⟨rfl, hb03.trans (hbq.mono hb03.size)⟩
    rcases bool_two (decide (4611686018427387904 < tStateNum)) with d2 | d2
    · go_wp2_with fail
      refine wp_region_in (fun W' => Below w3.heap.size w3 W') (Below.refl _ _).drew (by kernel_rfl) (by kernel_rfl) ?_
      repeat (go_big_quiet_step (first
        | (go_at_call 12; have hh := fun (x : InC (fun W' => Below w3.heap.size w3 W')) => mbetter_any (hX3.below x.h) (hY3.below x.h); rw [HBB.out] at hh; exact Calls.in_below (hh _))
        | (go_at_call 13; have hh := fun (x : InC (fun W' => Below w3.heap.size w3 W')) => rbetter_any (hX3.below x.h) (hY3.below x.h); rw [HBB.out] at hh; exact Calls.in_below (hh _))
        | (go_at_call 7; have hh := fun (x : InC (fun W' => Below w3.heap.size w3 W')) => awake17_any x.W; exact Calls.in_below (hh _))))
      refine wpQuiet_nil ?_
      intro _ hw'
      obtain ⟨nq, hw''⟩ := hw'
      subst hw''
      have hbq := nq.h
      go_wp2
      go_ret
      exact ⟨rfl, hb03.trans (hbq.mono hb03.size)⟩
    · go_wp2_with fail
      refine wp_region_in (fun W' => Below w3.heap.size w3 W') (Below.refl _ _).drew (by kernel_rfl) (by kernel_rfl) ?_
      repeat (go_big_quiet_step (first
        | (go_at_call 12; have hh := fun (x : InC (fun W' => Below w3.heap.size w3 W')) => mbetter_any (hX3.below x.h) (hY3.below x.h); rw [HBB.out] at hh; exact Calls.in_below (hh _))
        | (go_at_call 13; have hh := fun (x : InC (fun W' => Below w3.heap.size w3 W')) => rbetter_any (hX3.below x.h) (hY3.below x.h); rw [HBB.out] at hh; exact Calls.in_below (hh _))
        | (go_at_call 7; have hh := fun (x : InC (fun W' => Below w3.heap.size w3 W')) => awake17_any x.W; exact Calls.in_below (hh _))))
      refine wpQuiet_nil ?_
      intro _ hw'
      obtain ⟨nq, hw''⟩ := hw'
      subst hw''
      have hbq := nq.h
      go_wp2
      go_ret
      exact ⟨rfl, hb03.trans (hbq.mono hb03.size)⟩
end Go.Proofs.Ytfjffmjnnjckkaa
