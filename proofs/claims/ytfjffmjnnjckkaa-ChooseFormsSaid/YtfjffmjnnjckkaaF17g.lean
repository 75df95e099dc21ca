/- Stage 17: which tail is better (written by gen_17g.py). -/
import Derived.Test.YtfjffmjnnjckkaaF17f
import Derived.Test.YtfjffmjnnjckkaaOrd
import Derived.Deep.RegionWith
import Derived.Deep.CutRange
namespace Go.Proofs.Ytfjffmjnnjckkaa
set_option maxRecDepth 20000
open Go.RowKit Go.Px Go.Maps
set_option linter.unusedVariables false
set_option linter.unusedSimpArgs false
theorem below_more {B : Nat} {w w' : World} (h : Below B w w') (hB : B ≤ w.heap.size) (o : Obj) : Below B w (w'.alloc o) := h.alloc (Nat.le_trans hB h.size) o
set_option maxRecDepth 20000 in
set_option maxHeartbeats 12800000 in
theorem mbetter_any {w : World} {Q Q' : Nat → Prop} {x y : TailD} {cs ds : List Value} (h : tyTail.Is w Q x cs) (h' : tyTail.Is w Q' y ds) : Calls Try.prog 12 #[.agg cs.toArray, .agg ds.toArray] w fun e w' => e = .returned (.bool (betB x y)) ∧ Below w.heap.size w w' := by
  have hTa := h
  have hTb := h'
  obtain ⟨aNode, aNormal, aCommit, aStateNum, aStateShapeBlocks, aStateShapeSize, aStatePages, aStatePagesA, aStatePagesn, aStatePagesc, aStatePagesv, aStateRows, aStateRowsA, aStateRowsn, aStateRowsc, aStateRowsv, aStateGroupEpoch, aStateGroupMembers, aStateGroupMembersA, aStateGroupMembersn, aStateGroupMembersc, aStateGroupMembersv, aLog, aLogA, aLogn, aLogc, aLogv, rfl, rfl, h1_aNode, h2_aNode, h1_aNormal, h2_aNormal, h1_aCommit, h2_aCommit, h1_aStateNum, h2_aStateNum, h1_aStateShapeBlocks, h2_aStateShapeBlocks, h1_aStateShapeSize, h2_aStateShapeSize, hl_aStatePages, hc_aStatePages, hm_aStatePages, hr_aStatePages, hq_aStatePages, he_aStatePages, hl_aStateRows, hc_aStateRows, hm_aStateRows, hr_aStateRows, hq_aStateRows, he_aStateRows, h1_aStateGroupEpoch, h2_aStateGroupEpoch, hl_aStateGroupMembers, hc_aStateGroupMembers, hm_aStateGroupMembers, hr_aStateGroupMembers, hq_aStateGroupMembers, he_aStateGroupMembers, hl_aLog, hc_aLog, hm_aLog, hr_aLog, hq_aLog, he_aLog⟩ := Tail_out h
  obtain ⟨bNode, bNormal, bCommit, bStateNum, bStateShapeBlocks, bStateShapeSize, bStatePages, bStatePagesA, bStatePagesn, bStatePagesc, bStatePagesv, bStateRows, bStateRowsA, bStateRowsn, bStateRowsc, bStateRowsv, bStateGroupEpoch, bStateGroupMembers, bStateGroupMembersA, bStateGroupMembersn, bStateGroupMembersc, bStateGroupMembersv, bLog, bLogA, bLogn, bLogc, bLogv, rfl, rfl, h1_bNode, h2_bNode, h1_bNormal, h2_bNormal, h1_bCommit, h2_bCommit, h1_bStateNum, h2_bStateNum, h1_bStateShapeBlocks, h2_bStateShapeBlocks, h1_bStateShapeSize, h2_bStateShapeSize, hl_bStatePages, hc_bStatePages, hm_bStatePages, hr_bStatePages, hq_bStatePages, he_bStatePages, hl_bStateRows, hc_bStateRows, hm_bStateRows, hr_bStateRows, hq_bStateRows, he_bStateRows, h1_bStateGroupEpoch, h2_bStateGroupEpoch, hl_bStateGroupMembers, hc_bStateGroupMembers, hm_bStateGroupMembers, hr_bStateGroupMembers, hq_bStateGroupMembers, he_bStateGroupMembers, hl_bLog, hc_bLog, hm_bLog, hr_bLog, hq_bLog, he_bLog⟩ := Tail_out h'
  clear hl_aStatePages hr_aStatePages hq_aStatePages he_aStatePages hl_aStateRows hr_aStateRows hq_aStateRows he_aStateRows hl_aStateGroupMembers hr_aStateGroupMembers hq_aStateGroupMembers he_aStateGroupMembers hl_aLog hr_aLog hq_aLog he_aLog
  clear hl_bStatePages hr_bStatePages hq_bStatePages he_bStatePages hl_bStateRows hr_bStateRows hq_bStateRows he_bStateRows hl_bStateGroupMembers hr_bStateGroupMembers hq_bStateGroupMembers he_bStateGroupMembers hl_bLog hr_bLog hq_bLog he_bLog
  obtain ⟨g, hg⟩ : ∃ g, w.heap.size = g := ⟨_, rfl⟩
  obtain ⟨w0, hw0⟩ : ∃ x, (w.alloc (.cells #[.int .i64 aNode, .int .i64 aNormal, .int .i64 aCommit, .int .i64 aStateNum, .int .i64 aStateShapeBlocks, .int .i64 aStateShapeSize, .slice aStatePagesA aStatePagesn aStatePagesc, .slice aStateRowsA aStateRowsn aStateRowsc, .int .i64 aStateGroupEpoch, .slice aStateGroupMembersA aStateGroupMembersn aStateGroupMembersc, .slice aLogA aLogn aLogc] 33)).alloc (.cells #[.int .i64 bNode, .int .i64 bNormal, .int .i64 bCommit, .int .i64 bStateNum, .int .i64 bStateShapeBlocks, .int .i64 bStateShapeSize, .slice bStatePagesA bStatePagesn bStatePagesc, .slice bStateRowsA bStateRowsn bStateRowsc, .int .i64 bStateGroupEpoch, .slice bStateGroupMembersA bStateGroupMembersn bStateGroupMembersc, .slice bLogA bLogn bLogc] 33) = x := ⟨_, rfl⟩
  have hP : Blk w0 g [.int .i64 aNode, .int .i64 aNormal, .int .i64 aCommit, .int .i64 aStateNum, .int .i64 aStateShapeBlocks, .int .i64 aStateShapeSize, .slice aStatePagesA aStatePagesn aStatePagesc, .slice aStateRowsA aStateRowsn aStateRowsc, .int .i64 aStateGroupEpoch, .slice aStateGroupMembersA aStateGroupMembersn aStateGroupMembersc, .slice aLogA aLogn aLogc] 33 := by rw [← hw0, ← hg]; exact (Blk.new w [.int .i64 aNode, .int .i64 aNormal, .int .i64 aCommit, .int .i64 aStateNum, .int .i64 aStateShapeBlocks, .int .i64 aStateShapeSize, .slice aStatePagesA aStatePagesn aStatePagesc, .slice aStateRowsA aStateRowsn aStateRowsc, .int .i64 aStateGroupEpoch, .slice aStateGroupMembersA aStateGroupMembersn aStateGroupMembersc, .slice aLogA aLogn aLogc] _).alloc _
  have hR : Blk w0 (g + 1) [.int .i64 bNode, .int .i64 bNormal, .int .i64 bCommit, .int .i64 bStateNum, .int .i64 bStateShapeBlocks, .int .i64 bStateShapeSize, .slice bStatePagesA bStatePagesn bStatePagesc, .slice bStateRowsA bStateRowsn bStateRowsc, .int .i64 bStateGroupEpoch, .slice bStateGroupMembersA bStateGroupMembersn bStateGroupMembersc, .slice bLogA bLogn bLogc] 33 := by
    rw [← hw0, ← hg]
    have := Blk.new (w.alloc (.cells #[.int .i64 aNode, .int .i64 aNormal, .int .i64 aCommit, .int .i64 aStateNum, .int .i64 aStateShapeBlocks, .int .i64 aStateShapeSize, .slice aStatePagesA aStatePagesn aStatePagesc, .slice aStateRowsA aStateRowsn aStateRowsc, .int .i64 aStateGroupEpoch, .slice aStateGroupMembersA aStateGroupMembersn aStateGroupMembersc, .slice aLogA aLogn aLogc] 33)) [.int .i64 bNode, .int .i64 bNormal, .int .i64 bCommit, .int .i64 bStateNum, .int .i64 bStateShapeBlocks, .int .i64 bStateShapeSize, .slice bStatePagesA bStatePagesn bStatePagesc, .slice bStateRowsA bStateRowsn bStateRowsc, .int .i64 bStateGroupEpoch, .slice bStateGroupMembersA bStateGroupMembersn bStateGroupMembersc, .slice bLogA bLogn bLogc] 33
    rwa [World.size_alloc] at this
  have hb0 : Below w.heap.size w w0 := by rw [← hw0]; exact ((Below.refl _ _).alloc (Nat.le_refl _) _).alloc (by simp) _
  have hTa0 := hTa.below hb0
  have hTb0 := hTb.below hb0
  have HA := hide (fun W (hW : Below w0.heap.size w0 W) => lies_any (hTa0.below hW))
  have HB := hide (fun W (hW : Below w0.heap.size w0 W) => lies_any (hTb0.below hW))
  simp only [List.drop_succ_cons, List.drop_zero, List.cons_append, List.nil_append] at HA HB
  have Hw0 := hide hw0
  have Hg := hide hg
  have lp := hP.lt
  have lr := hR.lt
  clear hw0 hTa hTb
  have y0 := Blk.cell hP (j := 0) rfl; have y1 := Blk.cell hP (j := 1) rfl; have y2 := Blk.cell hP (j := 2) rfl; have y3 := Blk.cell hP (j := 3) rfl; have y4 := Blk.cell hP (j := 4) rfl; have y5 := Blk.cell hP (j := 5) rfl; have y6 := Blk.cell hP (j := 6) rfl; have y7 := Blk.cell hP (j := 7) rfl; have y8 := Blk.cell hP (j := 8) rfl; have y9 := Blk.cell hP (j := 9) rfl; have y10 := Blk.cell hP (j := 10) rfl
  have z0 := Blk.cell hR (j := 0) rfl; have z1 := Blk.cell hR (j := 1) rfl; have z2 := Blk.cell hR (j := 2) rfl; have z3 := Blk.cell hR (j := 3) rfl; have z4 := Blk.cell hR (j := 4) rfl; have z5 := Blk.cell hR (j := 5) rfl; have z6 := Blk.cell hR (j := 6) rfl; have z7 := Blk.cell hR (j := 7) rfl; have z8 := Blk.cell hR (j := 8) rfl; have z9 := Blk.cell hR (j := 9) rfl; have z10 := Blk.cell hR (j := 10) rfl
  go_enter Try.func12, Try.ntmps12
  go_upto_region 1 with fail
  rw [Hw0.out]
  go_cut [5, 6] from 7 to 11 (fun s5 s6 wx => ∃ gA gB : Nat, s5 = .pointer (some ⟨gA, 0, none⟩) ∧ s6 = .pointer (some ⟨gB, 0, none⟩) ∧ Blk wx gA [.int .i64 aStateNum, .int .i64 aStateShapeBlocks, .int .i64 aStateShapeSize, .slice aStatePagesA aStatePagesn aStatePagesc, .slice aStateRowsA aStateRowsn aStateRowsc, .int .i64 aStateGroupEpoch, .slice aStateGroupMembersA aStateGroupMembersn aStateGroupMembersc, .slice aLogA aLogn aLogc, .int .i64 aNormal] 70 ∧ Blk wx gB [.int .i64 bStateNum, .int .i64 bStateShapeBlocks, .int .i64 bStateShapeSize, .slice bStatePagesA bStatePagesn bStatePagesc, .slice bStateRowsA bStateRowsn bStateRowsc, .int .i64 bStateGroupEpoch, .slice bStateGroupMembersA bStateGroupMembersn bStateGroupMembersc, .slice bLogA bLogn bLogc, .int .i64 bNormal] 70 ∧ Below w0.heap.size w0 wx)
  case first =>
    refine wp_region_held_drew (S := fun Z => Below w0.heap.size w0 Z) (by kernel_rfl) (Below.refl _ _).drew (fun hS0 => ?_)
    refine wpAnyH_take (fuel := 7) (i := 0) (v := .agg #[.int .i64 aNode, .int .i64 aNormal, .int .i64 aCommit, .int .i64 aStateNum, .int .i64 aStateShapeBlocks, .int .i64 aStateShapeSize, .slice aStatePagesA aStatePagesn aStatePagesc, .slice aStateRowsA aStateRowsn aStateRowsc, .int .i64 aStateGroupEpoch, .slice aStateGroupMembersA aStateGroupMembersn aStateGroupMembersc, .slice aLogA aLogn aLogc]) rfl (by kernel_rfl) (by kernel_rfl) (by kernel_rfl) (fun _ _ _ h => h) (Or.inl ⟨by rfl, fun Z hZ => ?_⟩) hS0 ?_
    · have hPZ := hP.below hZ; clear hP hR y0 y1 y2 y3 y4 y5 y6 y7 y8 y9 y10 z0 z1 z2 z3 z4 z5 z6 z7 z8 z9 z10; have y0 := Blk.cell hPZ (j := 0) rfl; have y1 := Blk.cell hPZ (j := 1) rfl; have y2 := Blk.cell hPZ (j := 2) rfl; have y3 := Blk.cell hPZ (j := 3) rfl; have y4 := Blk.cell hPZ (j := 4) rfl; have y5 := Blk.cell hPZ (j := 5) rfl; have y6 := Blk.cell hPZ (j := 6) rfl; have y7 := Blk.cell hPZ (j := 7) rfl; have y8 := Blk.cell hPZ (j := 8) rfl; have y9 := Blk.cell hPZ (j := 9) rfl; have y10 := Blk.cell hPZ (j := 10) rfl; go_simp
    refine wpAnyH_take (fuel := 6) (i := 2) (v := .agg #[.int .i64 bNode, .int .i64 bNormal, .int .i64 bCommit, .int .i64 bStateNum, .int .i64 bStateShapeBlocks, .int .i64 bStateShapeSize, .slice bStatePagesA bStatePagesn bStatePagesc, .slice bStateRowsA bStateRowsn bStateRowsc, .int .i64 bStateGroupEpoch, .slice bStateGroupMembersA bStateGroupMembersn bStateGroupMembersc, .slice bLogA bLogn bLogc]) rfl (by kernel_rfl) (by kernel_rfl) (by kernel_rfl) (fun _ _ _ h => h) (Or.inl ⟨by rfl, fun Z hZ => ?_⟩) hS0 ?_
    · have hPZ := hR.below hZ; clear hP hR y0 y1 y2 y3 y4 y5 y6 y7 y8 y9 y10 z0 z1 z2 z3 z4 z5 z6 z7 z8 z9 z10; have y0 := Blk.cell hPZ (j := 0) rfl; have y1 := Blk.cell hPZ (j := 1) rfl; have y2 := Blk.cell hPZ (j := 2) rfl; have y3 := Blk.cell hPZ (j := 3) rfl; have y4 := Blk.cell hPZ (j := 4) rfl; have y5 := Blk.cell hPZ (j := 5) rfl; have y6 := Blk.cell hPZ (j := 6) rfl; have y7 := Blk.cell hPZ (j := 7) rfl; have y8 := Blk.cell hPZ (j := 8) rfl; have y9 := Blk.cell hPZ (j := 9) rfl; have y10 := Blk.cell hPZ (j := 10) rfl; go_simp
    obtain ⟨X0, hX0⟩ : ∃ y, w0.drew = y := ⟨_, rfl⟩
    have hB0 : Below w0.heap.size w0 X0 := by rw [← hX0]; exact (Below.refl _ _).drew
    rw [hX0]
    clear hX0 hS0
    refine all_three (fuel := 5) (i := 1) (j := 4) (k := 5) (by kernel_rfl) rfl rfl rfl rfl rfl rfl (fun Kk hK => ?_) (fun Kk hK => ?_) (fun Kk hK => ?_) 
    · go_simp
      refine (HA.out X0 hB0).mono ?_
      rintro e' X1 ⟨rfl, hst⟩
      have hB1 := hB0.trans (hst.mono hB0.size)
      clear hst
      refine hK _ _ ⟨hB1, ?_⟩
      clear hK Kk
      refine all_three (fuel := 4) (i := 3) (j := 4) (k := 5) (by kernel_rfl) rfl rfl rfl rfl rfl rfl (fun Kk hK => ?_) (fun Kk hK => ?_) (fun Kk hK => ?_) 
      · go_simp
        refine (HB.out X1 hB1).mono ?_
        rintro e' X2 ⟨rfl, hst⟩
        have hB2 := hB1.trans (hst.mono hB1.size)
        clear hst
        refine hK _ _ ⟨hB2, ?_⟩
        clear hK Kk
        refine all_two (fuel := 3) (i := 4) (j := 5) (by kernel_rfl) rfl rfl rfl rfl (fun Kk hK => ?_) (fun Kk hK => ?_) 
        · obtain ⟨gA, hgA⟩ : ∃ y, X2.heap.size = y := ⟨_, rfl⟩
          obtain ⟨X3, hY⟩ : ∃ y, X2.alloc (.cells #[.int .i64 0, .int .i64 0, .int .i64 0, .slice none 0 0, .slice none 0 0, .int .i64 0, .slice none 0 0, .slice none 0 0, .int .i64 0] 70) = y := ⟨_, rfl⟩
          have hA : Blk X3 gA [.int .i64 0, .int .i64 0, .int .i64 0, .slice none 0 0, .slice none 0 0, .int .i64 0, .slice none 0 0, .slice none 0 0, .int .i64 0] 70 := by rw [← hY, ← hgA]; exact Blk.new X2 [.int .i64 0, .int .i64 0, .int .i64 0, .slice none 0 0, .slice none 0 0, .int .i64 0, .slice none 0 0, .slice none 0 0, .int .i64 0] _
          have hst : Below X2.heap.size X2 X3 := by rw [← hY]; exact (Below.refl _ _).alloc (Nat.le_refl _) _
          have hB3 := hB2.trans (hst.mono hB2.size)
          have gAle : w0.heap.size ≤ gA := by have := hB2.size; omega
          go_simp
          try rw [hY]
          try rw [hgA]
          clear hY hst hgA
          refine hK _ _ ⟨hB3, ?_⟩
          clear hK Kk
          refine all_one (fuel := 2) (i := 5) (by kernel_rfl) rfl rfl (fun Kk hK => ?_)
          obtain ⟨gB, hgB⟩ : ∃ y, X3.heap.size = y := ⟨_, rfl⟩
          obtain ⟨X4, hY⟩ : ∃ y, X3.alloc (.cells #[.int .i64 0, .int .i64 0, .int .i64 0, .slice none 0 0, .slice none 0 0, .int .i64 0, .slice none 0 0, .slice none 0 0, .int .i64 0] 70) = y := ⟨_, rfl⟩
          have hB : Blk X4 gB [.int .i64 0, .int .i64 0, .int .i64 0, .slice none 0 0, .slice none 0 0, .int .i64 0, .slice none 0 0, .slice none 0 0, .int .i64 0] 70 := by rw [← hY, ← hgB]; exact Blk.new X3 [.int .i64 0, .int .i64 0, .int .i64 0, .slice none 0 0, .slice none 0 0, .int .i64 0, .slice none 0 0, .slice none 0 0, .int .i64 0] _
          have hst : Below X3.heap.size X3 X4 := by rw [← hY]; exact (Below.refl _ _).alloc (Nat.le_refl _) _
          have hB4 := hB3.trans (hst.mono hB3.size)
          have gBle : w0.heap.size ≤ gB := by have := hB3.size; omega
          have gAgB : gA ≠ gB := by have := hA.lt; omega
          replace hA := hA.below hst
          go_simp
          try rw [hY]
          try rw [hgB]
          clear hY hst hgB
          refine hK _ _ ⟨hB4, ?_⟩
          clear hK Kk
          refine all_one (fuel := 1) (i := 6) (by kernel_rfl) rfl rfl (fun Kk hK => ?_)
          refine oper_store rfl rfl rfl rfl rfl hA (by kernel_rfl) rfl (by intro u hu; simp only [List.mem_cons, List.not_mem_nil, or_false] at hu; rcases hu with rfl | rfl | rfl | rfl | rfl | rfl | rfl | rfl | rfl <;> rfl) ?_
          obtain ⟨X5, hY⟩ : ∃ y, X4.setRow gA #[.int .i64 aStateNum, .int .i64 aStateShapeBlocks, .int .i64 aStateShapeSize, .slice aStatePagesA aStatePagesn aStatePagesc, .slice aStateRowsA aStateRowsn aStateRowsc, .int .i64 aStateGroupEpoch, .slice aStateGroupMembersA aStateGroupMembersn aStateGroupMembersc, .slice aLogA aLogn aLogc, .int .i64 aNormal] = y := ⟨_, rfl⟩
          have hB5 : Below w0.heap.size w0 X5 := by rw [← hY]; exact below_setRow hB4 gAle _
          have hA' : Blk X5 gA [.int .i64 aStateNum, .int .i64 aStateShapeBlocks, .int .i64 aStateShapeSize, .slice aStatePagesA aStatePagesn aStatePagesc, .slice aStateRowsA aStateRowsn aStateRowsc, .int .i64 aStateGroupEpoch, .slice aStateGroupMembersA aStateGroupMembersn aStateGroupMembersc, .slice aLogA aLogn aLogc, .int .i64 aNormal] 70 := by rw [← hY]; exact hA.setAll [.int .i64 aStateNum, .int .i64 aStateShapeBlocks, .int .i64 aStateShapeSize, .slice aStatePagesA aStatePagesn aStatePagesc, .slice aStateRowsA aStateRowsn aStateRowsc, .int .i64 aStateGroupEpoch, .slice aStateGroupMembersA aStateGroupMembersn aStateGroupMembersc, .slice aLogA aLogn aLogc, .int .i64 aNormal]
          have hB' := hB.apartAll (by first | exact gBgA | exact Ne.symm gAgB) [.int .i64 aStateNum, .int .i64 aStateShapeBlocks, .int .i64 aStateShapeSize, .slice aStatePagesA aStatePagesn aStatePagesc, .slice aStateRowsA aStateRowsn aStateRowsc, .int .i64 aStateGroupEpoch, .slice aStateGroupMembersA aStateGroupMembersn aStateGroupMembersc, .slice aLogA aLogn aLogc, .int .i64 aNormal]
          rw [hY] at hB'
          clear hB
          have hB := hB'
          clear hB'
          clear hA
          have hA := hA'
          clear hA'
          try rw [hY]
          clear hY
          refine hK _ _ ⟨hB5, ?_⟩
          clear hK Kk
          refine all_one (fuel := 0) (i := 7) (by kernel_rfl) rfl rfl (fun Kk hK => ?_)
          refine oper_store rfl rfl rfl rfl rfl hB (by kernel_rfl) rfl (by intro u hu; simp only [List.mem_cons, List.not_mem_nil, or_false] at hu; rcases hu with rfl | rfl | rfl | rfl | rfl | rfl | rfl | rfl | rfl <;> rfl) ?_
          obtain ⟨X6, hY⟩ : ∃ y, X5.setRow gB #[.int .i64 bStateNum, .int .i64 bStateShapeBlocks, .int .i64 bStateShapeSize, .slice bStatePagesA bStatePagesn bStatePagesc, .slice bStateRowsA bStateRowsn bStateRowsc, .int .i64 bStateGroupEpoch, .slice bStateGroupMembersA bStateGroupMembersn bStateGroupMembersc, .slice bLogA bLogn bLogc, .int .i64 bNormal] = y := ⟨_, rfl⟩
          have hB6 : Below w0.heap.size w0 X6 := by rw [← hY]; exact below_setRow hB5 gBle _
          have hA' := hA.apartAll (by first | exact gAgB | exact Ne.symm gBgA) [.int .i64 bStateNum, .int .i64 bStateShapeBlocks, .int .i64 bStateShapeSize, .slice bStatePagesA bStatePagesn bStatePagesc, .slice bStateRowsA bStateRowsn bStateRowsc, .int .i64 bStateGroupEpoch, .slice bStateGroupMembersA bStateGroupMembersn bStateGroupMembersc, .slice bLogA bLogn bLogc, .int .i64 bNormal]
          rw [hY] at hA'
          clear hA
          have hA := hA'
          clear hA'
          have hB' : Blk X6 gB [.int .i64 bStateNum, .int .i64 bStateShapeBlocks, .int .i64 bStateShapeSize, .slice bStatePagesA bStatePagesn bStatePagesc, .slice bStateRowsA bStateRowsn bStateRowsc, .int .i64 bStateGroupEpoch, .slice bStateGroupMembersA bStateGroupMembersn bStateGroupMembersc, .slice bLogA bLogn bLogc, .int .i64 bNormal] 70 := by rw [← hY]; exact hB.setAll [.int .i64 bStateNum, .int .i64 bStateShapeBlocks, .int .i64 bStateShapeSize, .slice bStatePagesA bStatePagesn bStatePagesc, .slice bStateRowsA bStateRowsn bStateRowsc, .int .i64 bStateGroupEpoch, .slice bStateGroupMembersA bStateGroupMembersn bStateGroupMembersc, .slice bLogA bLogn bLogc, .int .i64 bNormal]
          clear hB
          have hB := hB'
          clear hB'
          try rw [hY]
          clear hY
          refine hK _ _ ⟨hB6, ?_⟩
          clear hK Kk
          refine wpAnyH_done (by kernel_rfl) ?_ _
          try simp only [Act.put, List.setIfInBounds_toArray, List.set_cons_zero, List.set_cons_succ, List.getElem_toArray, List.getElem_cons_zero, List.getElem_cons_succ]
          go_wp2_with fail
          go_meet
          case rel => exact ⟨gA, gB, rfl, rfl, hA, hB, hB6⟩
        · obtain ⟨gB, hgB⟩ : ∃ y, X2.heap.size = y := ⟨_, rfl⟩
          obtain ⟨X3, hY⟩ : ∃ y, X2.alloc (.cells #[.int .i64 0, .int .i64 0, .int .i64 0, .slice none 0 0, .slice none 0 0, .int .i64 0, .slice none 0 0, .slice none 0 0, .int .i64 0] 70) = y := ⟨_, rfl⟩
          have hB : Blk X3 gB [.int .i64 0, .int .i64 0, .int .i64 0, .slice none 0 0, .slice none 0 0, .int .i64 0, .slice none 0 0, .slice none 0 0, .int .i64 0] 70 := by rw [← hY, ← hgB]; exact Blk.new X2 [.int .i64 0, .int .i64 0, .int .i64 0, .slice none 0 0, .slice none 0 0, .int .i64 0, .slice none 0 0, .slice none 0 0, .int .i64 0] _
          have hst : Below X2.heap.size X2 X3 := by rw [← hY]; exact (Below.refl _ _).alloc (Nat.le_refl _) _
          have hB3 := hB2.trans (hst.mono hB2.size)
          have gBle : w0.heap.size ≤ gB := by have := hB2.size; omega
          go_simp
          try rw [hY]
          try rw [hgB]
          clear hY hst hgB
          refine hK _ _ ⟨hB3, ?_⟩
          clear hK Kk
          refine all_one (fuel := 2) (i := 4) (by kernel_rfl) rfl rfl (fun Kk hK => ?_)
          obtain ⟨gA, hgA⟩ : ∃ y, X3.heap.size = y := ⟨_, rfl⟩
          obtain ⟨X4, hY⟩ : ∃ y, X3.alloc (.cells #[.int .i64 0, .int .i64 0, .int .i64 0, .slice none 0 0, .slice none 0 0, .int .i64 0, .slice none 0 0, .slice none 0 0, .int .i64 0] 70) = y := ⟨_, rfl⟩
          have hA : Blk X4 gA [.int .i64 0, .int .i64 0, .int .i64 0, .slice none 0 0, .slice none 0 0, .int .i64 0, .slice none 0 0, .slice none 0 0, .int .i64 0] 70 := by rw [← hY, ← hgA]; exact Blk.new X3 [.int .i64 0, .int .i64 0, .int .i64 0, .slice none 0 0, .slice none 0 0, .int .i64 0, .slice none 0 0, .slice none 0 0, .int .i64 0] _
          have hst : Below X3.heap.size X3 X4 := by rw [← hY]; exact (Below.refl _ _).alloc (Nat.le_refl _) _
          have hB4 := hB3.trans (hst.mono hB3.size)
          have gAle : w0.heap.size ≤ gA := by have := hB3.size; omega
          have gBgA : gB ≠ gA := by have := hB.lt; omega
          replace hB := hB.below hst
          go_simp
          try rw [hY]
          try rw [hgA]
          clear hY hst hgA
          refine hK _ _ ⟨hB4, ?_⟩
          clear hK Kk
          refine all_one (fuel := 1) (i := 6) (by kernel_rfl) rfl rfl (fun Kk hK => ?_)
          refine oper_store rfl rfl rfl rfl rfl hA (by kernel_rfl) rfl (by intro u hu; simp only [List.mem_cons, List.not_mem_nil, or_false] at hu; rcases hu with rfl | rfl | rfl | rfl | rfl | rfl | rfl | rfl | rfl <;> rfl) ?_
          obtain ⟨X5, hY⟩ : ∃ y, X4.setRow gA #[.int .i64 aStateNum, .int .i64 aStateShapeBlocks, .int .i64 aStateShapeSize, .slice aStatePagesA aStatePagesn aStatePagesc, .slice aStateRowsA aStateRowsn aStateRowsc, .int .i64 aStateGroupEpoch, .slice aStateGroupMembersA aStateGroupMembersn aStateGroupMembersc, .slice aLogA aLogn aLogc, .int .i64 aNormal] = y := ⟨_, rfl⟩
          have hB5 : Below w0.heap.size w0 X5 := by rw [← hY]; exact below_setRow hB4 gAle _
          have hB' := hB.apartAll (by first | exact gBgA | exact Ne.symm gAgB) [.int .i64 aStateNum, .int .i64 aStateShapeBlocks, .int .i64 aStateShapeSize, .slice aStatePagesA aStatePagesn aStatePagesc, .slice aStateRowsA aStateRowsn aStateRowsc, .int .i64 aStateGroupEpoch, .slice aStateGroupMembersA aStateGroupMembersn aStateGroupMembersc, .slice aLogA aLogn aLogc, .int .i64 aNormal]
          rw [hY] at hB'
          clear hB
          have hB := hB'
          clear hB'
          have hA' : Blk X5 gA [.int .i64 aStateNum, .int .i64 aStateShapeBlocks, .int .i64 aStateShapeSize, .slice aStatePagesA aStatePagesn aStatePagesc, .slice aStateRowsA aStateRowsn aStateRowsc, .int .i64 aStateGroupEpoch, .slice aStateGroupMembersA aStateGroupMembersn aStateGroupMembersc, .slice aLogA aLogn aLogc, .int .i64 aNormal] 70 := by rw [← hY]; exact hA.setAll [.int .i64 aStateNum, .int .i64 aStateShapeBlocks, .int .i64 aStateShapeSize, .slice aStatePagesA aStatePagesn aStatePagesc, .slice aStateRowsA aStateRowsn aStateRowsc, .int .i64 aStateGroupEpoch, .slice aStateGroupMembersA aStateGroupMembersn aStateGroupMembersc, .slice aLogA aLogn aLogc, .int .i64 aNormal]
          clear hA
          have hA := hA'
          clear hA'
          try rw [hY]
          clear hY
          refine hK _ _ ⟨hB5, ?_⟩
          clear hK Kk
          refine all_one (fuel := 0) (i := 7) (by kernel_rfl) rfl rfl (fun Kk hK => ?_)
          refine oper_store rfl rfl rfl rfl rfl hB (by kernel_rfl) rfl (by intro u hu; simp only [List.mem_cons, List.not_mem_nil, or_false] at hu; rcases hu with rfl | rfl | rfl | rfl | rfl | rfl | rfl | rfl | rfl <;> rfl) ?_
          obtain ⟨X6, hY⟩ : ∃ y, X5.setRow gB #[.int .i64 bStateNum, .int .i64 bStateShapeBlocks, .int .i64 bStateShapeSize, .slice bStatePagesA bStatePagesn bStatePagesc, .slice bStateRowsA bStateRowsn bStateRowsc, .int .i64 bStateGroupEpoch, .slice bStateGroupMembersA bStateGroupMembersn bStateGroupMembersc, .slice bLogA bLogn bLogc, .int .i64 bNormal] = y := ⟨_, rfl⟩
          have hB6 : Below w0.heap.size w0 X6 := by rw [← hY]; exact below_setRow hB5 gBle _
          have hB' : Blk X6 gB [.int .i64 bStateNum, .int .i64 bStateShapeBlocks, .int .i64 bStateShapeSize, .slice bStatePagesA bStatePagesn bStatePagesc, .slice bStateRowsA bStateRowsn bStateRowsc, .int .i64 bStateGroupEpoch, .slice bStateGroupMembersA bStateGroupMembersn bStateGroupMembersc, .slice bLogA bLogn bLogc, .int .i64 bNormal] 70 := by rw [← hY]; exact hB.setAll [.int .i64 bStateNum, .int .i64 bStateShapeBlocks, .int .i64 bStateShapeSize, .slice bStatePagesA bStatePagesn bStatePagesc, .slice bStateRowsA bStateRowsn bStateRowsc, .int .i64 bStateGroupEpoch, .slice bStateGroupMembersA bStateGroupMembersn bStateGroupMembersc, .slice bLogA bLogn bLogc, .int .i64 bNormal]
          have hA' := hA.apartAll (by first | exact gAgB | exact Ne.symm gBgA) [.int .i64 bStateNum, .int .i64 bStateShapeBlocks, .int .i64 bStateShapeSize, .slice bStatePagesA bStatePagesn bStatePagesc, .slice bStateRowsA bStateRowsn bStateRowsc, .int .i64 bStateGroupEpoch, .slice bStateGroupMembersA bStateGroupMembersn bStateGroupMembersc, .slice bLogA bLogn bLogc, .int .i64 bNormal]
          rw [hY] at hA'
          clear hA
          have hA := hA'
          clear hA'
          clear hB
          have hB := hB'
          clear hB'
          try rw [hY]
          clear hY
          refine hK _ _ ⟨hB6, ?_⟩
          clear hK Kk
          refine wpAnyH_done (by kernel_rfl) ?_ _
          try simp only [Act.put, List.setIfInBounds_toArray, List.set_cons_zero, List.set_cons_succ, List.getElem_toArray, List.getElem_cons_zero, List.getElem_cons_succ]
          go_wp2_with fail
          go_meet
          case rel => exact ⟨gA, gB, rfl, rfl, hA, hB, hB6⟩
      · obtain ⟨gA, hgA⟩ : ∃ y, X1.heap.size = y := ⟨_, rfl⟩
        obtain ⟨X2, hY⟩ : ∃ y, X1.alloc (.cells #[.int .i64 0, .int .i64 0, .int .i64 0, .slice none 0 0, .slice none 0 0, .int .i64 0, .slice none 0 0, .slice none 0 0, .int .i64 0] 70) = y := ⟨_, rfl⟩
        have hA : Blk X2 gA [.int .i64 0, .int .i64 0, .int .i64 0, .slice none 0 0, .slice none 0 0, .int .i64 0, .slice none 0 0, .slice none 0 0, .int .i64 0] 70 := by rw [← hY, ← hgA]; exact Blk.new X1 [.int .i64 0, .int .i64 0, .int .i64 0, .slice none 0 0, .slice none 0 0, .int .i64 0, .slice none 0 0, .slice none 0 0, .int .i64 0] _
        have hst : Below X1.heap.size X1 X2 := by rw [← hY]; exact (Below.refl _ _).alloc (Nat.le_refl _) _
        have hB2 := hB1.trans (hst.mono hB1.size)
        have gAle : w0.heap.size ≤ gA := by have := hB1.size; omega
        go_simp
        try rw [hY]
        try rw [hgA]
        clear hY hst hgA
        refine hK _ _ ⟨hB2, ?_⟩
        clear hK Kk
        refine all_two (fuel := 3) (i := 3) (j := 5) (by kernel_rfl) rfl rfl rfl rfl (fun Kk hK => ?_) (fun Kk hK => ?_) 
        · go_simp
          refine (HB.out X2 hB2).mono ?_
          rintro e' X3 ⟨rfl, hst⟩
          have hB3 := hB2.trans (hst.mono hB2.size)
          replace hA := hA.below hst
          clear hst
          refine hK _ _ ⟨hB3, ?_⟩
          clear hK Kk
          refine all_one (fuel := 2) (i := 5) (by kernel_rfl) rfl rfl (fun Kk hK => ?_)
          obtain ⟨gB, hgB⟩ : ∃ y, X3.heap.size = y := ⟨_, rfl⟩
          obtain ⟨X4, hY⟩ : ∃ y, X3.alloc (.cells #[.int .i64 0, .int .i64 0, .int .i64 0, .slice none 0 0, .slice none 0 0, .int .i64 0, .slice none 0 0, .slice none 0 0, .int .i64 0] 70) = y := ⟨_, rfl⟩
          have hB : Blk X4 gB [.int .i64 0, .int .i64 0, .int .i64 0, .slice none 0 0, .slice none 0 0, .int .i64 0, .slice none 0 0, .slice none 0 0, .int .i64 0] 70 := by rw [← hY, ← hgB]; exact Blk.new X3 [.int .i64 0, .int .i64 0, .int .i64 0, .slice none 0 0, .slice none 0 0, .int .i64 0, .slice none 0 0, .slice none 0 0, .int .i64 0] _
          have hst : Below X3.heap.size X3 X4 := by rw [← hY]; exact (Below.refl _ _).alloc (Nat.le_refl _) _
          have hB4 := hB3.trans (hst.mono hB3.size)
          have gBle : w0.heap.size ≤ gB := by have := hB3.size; omega
          have gAgB : gA ≠ gB := by have := hA.lt; omega
          replace hA := hA.below hst
          go_simp
          try rw [hY]
          try rw [hgB]
          clear hY hst hgB
          refine hK _ _ ⟨hB4, ?_⟩
          clear hK Kk
          refine all_one (fuel := 1) (i := 6) (by kernel_rfl) rfl rfl (fun Kk hK => ?_)
          refine oper_store rfl rfl rfl rfl rfl hA (by kernel_rfl) rfl (by intro u hu; simp only [List.mem_cons, List.not_mem_nil, or_false] at hu; rcases hu with rfl | rfl | rfl | rfl | rfl | rfl | rfl | rfl | rfl <;> rfl) ?_
          obtain ⟨X5, hY⟩ : ∃ y, X4.setRow gA #[.int .i64 aStateNum, .int .i64 aStateShapeBlocks, .int .i64 aStateShapeSize, .slice aStatePagesA aStatePagesn aStatePagesc, .slice aStateRowsA aStateRowsn aStateRowsc, .int .i64 aStateGroupEpoch, .slice aStateGroupMembersA aStateGroupMembersn aStateGroupMembersc, .slice aLogA aLogn aLogc, .int .i64 aNormal] = y := ⟨_, rfl⟩
          have hB5 : Below w0.heap.size w0 X5 := by rw [← hY]; exact below_setRow hB4 gAle _
          have hA' : Blk X5 gA [.int .i64 aStateNum, .int .i64 aStateShapeBlocks, .int .i64 aStateShapeSize, .slice aStatePagesA aStatePagesn aStatePagesc, .slice aStateRowsA aStateRowsn aStateRowsc, .int .i64 aStateGroupEpoch, .slice aStateGroupMembersA aStateGroupMembersn aStateGroupMembersc, .slice aLogA aLogn aLogc, .int .i64 aNormal] 70 := by rw [← hY]; exact hA.setAll [.int .i64 aStateNum, .int .i64 aStateShapeBlocks, .int .i64 aStateShapeSize, .slice aStatePagesA aStatePagesn aStatePagesc, .slice aStateRowsA aStateRowsn aStateRowsc, .int .i64 aStateGroupEpoch, .slice aStateGroupMembersA aStateGroupMembersn aStateGroupMembersc, .slice aLogA aLogn aLogc, .int .i64 aNormal]
          have hB' := hB.apartAll (by first | exact gBgA | exact Ne.symm gAgB) [.int .i64 aStateNum, .int .i64 aStateShapeBlocks, .int .i64 aStateShapeSize, .slice aStatePagesA aStatePagesn aStatePagesc, .slice aStateRowsA aStateRowsn aStateRowsc, .int .i64 aStateGroupEpoch, .slice aStateGroupMembersA aStateGroupMembersn aStateGroupMembersc, .slice aLogA aLogn aLogc, .int .i64 aNormal]
          rw [hY] at hB'
          clear hB
          have hB := hB'
          clear hB'
          clear hA
          have hA := hA'
          clear hA'
          try rw [hY]
          clear hY
          refine hK _ _ ⟨hB5, ?_⟩
          clear hK Kk
          refine all_one (fuel := 0) (i := 7) (by kernel_rfl) rfl rfl (fun Kk hK => ?_)
          refine oper_store rfl rfl rfl rfl rfl hB (by kernel_rfl) rfl (by intro u hu; simp only [List.mem_cons, List.not_mem_nil, or_false] at hu; rcases hu with rfl | rfl | rfl | rfl | rfl | rfl | rfl | rfl | rfl <;> rfl) ?_
          obtain ⟨X6, hY⟩ : ∃ y, X5.setRow gB #[.int .i64 bStateNum, .int .i64 bStateShapeBlocks, .int .i64 bStateShapeSize, .slice bStatePagesA bStatePagesn bStatePagesc, .slice bStateRowsA bStateRowsn bStateRowsc, .int .i64 bStateGroupEpoch, .slice bStateGroupMembersA bStateGroupMembersn bStateGroupMembersc, .slice bLogA bLogn bLogc, .int .i64 bNormal] = y := ⟨_, rfl⟩
          have hB6 : Below w0.heap.size w0 X6 := by rw [← hY]; exact below_setRow hB5 gBle _
          have hA' := hA.apartAll (by first | exact gAgB | exact Ne.symm gBgA) [.int .i64 bStateNum, .int .i64 bStateShapeBlocks, .int .i64 bStateShapeSize, .slice bStatePagesA bStatePagesn bStatePagesc, .slice bStateRowsA bStateRowsn bStateRowsc, .int .i64 bStateGroupEpoch, .slice bStateGroupMembersA bStateGroupMembersn bStateGroupMembersc, .slice bLogA bLogn bLogc, .int .i64 bNormal]
          rw [hY] at hA'
          clear hA
          have hA := hA'
          clear hA'
          have hB' : Blk X6 gB [.int .i64 bStateNum, .int .i64 bStateShapeBlocks, .int .i64 bStateShapeSize, .slice bStatePagesA bStatePagesn bStatePagesc, .slice bStateRowsA bStateRowsn bStateRowsc, .int .i64 bStateGroupEpoch, .slice bStateGroupMembersA bStateGroupMembersn bStateGroupMembersc, .slice bLogA bLogn bLogc, .int .i64 bNormal] 70 := by rw [← hY]; exact hB.setAll [.int .i64 bStateNum, .int .i64 bStateShapeBlocks, .int .i64 bStateShapeSize, .slice bStatePagesA bStatePagesn bStatePagesc, .slice bStateRowsA bStateRowsn bStateRowsc, .int .i64 bStateGroupEpoch, .slice bStateGroupMembersA bStateGroupMembersn bStateGroupMembersc, .slice bLogA bLogn bLogc, .int .i64 bNormal]
          clear hB
          have hB := hB'
          clear hB'
          try rw [hY]
          clear hY
          refine hK _ _ ⟨hB6, ?_⟩
          clear hK Kk
          refine wpAnyH_done (by kernel_rfl) ?_ _
          try simp only [Act.put, List.setIfInBounds_toArray, List.set_cons_zero, List.set_cons_succ, List.getElem_toArray, List.getElem_cons_zero, List.getElem_cons_succ]
          go_wp2_with fail
          go_meet
          case rel => exact ⟨gA, gB, rfl, rfl, hA, hB, hB6⟩
        · obtain ⟨gB, hgB⟩ : ∃ y, X2.heap.size = y := ⟨_, rfl⟩
          obtain ⟨X3, hY⟩ : ∃ y, X2.alloc (.cells #[.int .i64 0, .int .i64 0, .int .i64 0, .slice none 0 0, .slice none 0 0, .int .i64 0, .slice none 0 0, .slice none 0 0, .int .i64 0] 70) = y := ⟨_, rfl⟩
          have hB : Blk X3 gB [.int .i64 0, .int .i64 0, .int .i64 0, .slice none 0 0, .slice none 0 0, .int .i64 0, .slice none 0 0, .slice none 0 0, .int .i64 0] 70 := by rw [← hY, ← hgB]; exact Blk.new X2 [.int .i64 0, .int .i64 0, .int .i64 0, .slice none 0 0, .slice none 0 0, .int .i64 0, .slice none 0 0, .slice none 0 0, .int .i64 0] _
          have hst : Below X2.heap.size X2 X3 := by rw [← hY]; exact (Below.refl _ _).alloc (Nat.le_refl _) _
          have hB3 := hB2.trans (hst.mono hB2.size)
          have gBle : w0.heap.size ≤ gB := by have := hB2.size; omega
          have gAgB : gA ≠ gB := by have := hA.lt; omega
          replace hA := hA.below hst
          go_simp
          try rw [hY]
          try rw [hgB]
          clear hY hst hgB
          refine hK _ _ ⟨hB3, ?_⟩
          clear hK Kk
          refine all_one (fuel := 2) (i := 3) (by kernel_rfl) rfl rfl (fun Kk hK => ?_)
          go_simp
          refine (HB.out X3 hB3).mono ?_
          rintro e' X4 ⟨rfl, hst⟩
          have hB4 := hB3.trans (hst.mono hB3.size)
          replace hA := hA.below hst
          replace hB := hB.below hst
          clear hst
          refine hK _ _ ⟨hB4, ?_⟩
          clear hK Kk
          refine all_one (fuel := 1) (i := 6) (by kernel_rfl) rfl rfl (fun Kk hK => ?_)
          refine oper_store rfl rfl rfl rfl rfl hA (by kernel_rfl) rfl (by intro u hu; simp only [List.mem_cons, List.not_mem_nil, or_false] at hu; rcases hu with rfl | rfl | rfl | rfl | rfl | rfl | rfl | rfl | rfl <;> rfl) ?_
          obtain ⟨X5, hY⟩ : ∃ y, X4.setRow gA #[.int .i64 aStateNum, .int .i64 aStateShapeBlocks, .int .i64 aStateShapeSize, .slice aStatePagesA aStatePagesn aStatePagesc, .slice aStateRowsA aStateRowsn aStateRowsc, .int .i64 aStateGroupEpoch, .slice aStateGroupMembersA aStateGroupMembersn aStateGroupMembersc, .slice aLogA aLogn aLogc, .int .i64 aNormal] = y := ⟨_, rfl⟩
          have hB5 : Below w0.heap.size w0 X5 := by rw [← hY]; exact below_setRow hB4 gAle _
          have hA' : Blk X5 gA [.int .i64 aStateNum, .int .i64 aStateShapeBlocks, .int .i64 aStateShapeSize, .slice aStatePagesA aStatePagesn aStatePagesc, .slice aStateRowsA aStateRowsn aStateRowsc, .int .i64 aStateGroupEpoch, .slice aStateGroupMembersA aStateGroupMembersn aStateGroupMembersc, .slice aLogA aLogn aLogc, .int .i64 aNormal] 70 := by rw [← hY]; exact hA.setAll [.int .i64 aStateNum, .int .i64 aStateShapeBlocks, .int .i64 aStateShapeSize, .slice aStatePagesA aStatePagesn aStatePagesc, .slice aStateRowsA aStateRowsn aStateRowsc, .int .i64 aStateGroupEpoch, .slice aStateGroupMembersA aStateGroupMembersn aStateGroupMembersc, .slice aLogA aLogn aLogc, .int .i64 aNormal]
          have hB' := hB.apartAll (by first | exact gBgA | exact Ne.symm gAgB) [.int .i64 aStateNum, .int .i64 aStateShapeBlocks, .int .i64 aStateShapeSize, .slice aStatePagesA aStatePagesn aStatePagesc, .slice aStateRowsA aStateRowsn aStateRowsc, .int .i64 aStateGroupEpoch, .slice aStateGroupMembersA aStateGroupMembersn aStateGroupMembersc, .slice aLogA aLogn aLogc, .int .i64 aNormal]
          rw [hY] at hB'
          clear hB
          have hB := hB'
          clear hB'
          clear hA
          have hA := hA'
          clear hA'
          try rw [hY]
          clear hY
          refine hK _ _ ⟨hB5, ?_⟩
          clear hK Kk
          refine all_one (fuel := 0) (i := 7) (by kernel_rfl) rfl rfl (fun Kk hK => ?_)
          refine oper_store rfl rfl rfl rfl rfl hB (by kernel_rfl) rfl (by intro u hu; simp only [List.mem_cons, List.not_mem_nil, or_false] at hu; rcases hu with rfl | rfl | rfl | rfl | rfl | rfl | rfl | rfl | rfl <;> rfl) ?_
          obtain ⟨X6, hY⟩ : ∃ y, X5.setRow gB #[.int .i64 bStateNum, .int .i64 bStateShapeBlocks, .int .i64 bStateShapeSize, .slice bStatePagesA bStatePagesn bStatePagesc, .slice bStateRowsA bStateRowsn bStateRowsc, .int .i64 bStateGroupEpoch, .slice bStateGroupMembersA bStateGroupMembersn bStateGroupMembersc, .slice bLogA bLogn bLogc, .int .i64 bNormal] = y := ⟨_, rfl⟩
          have hB6 : Below w0.heap.size w0 X6 := by rw [← hY]; exact below_setRow hB5 gBle _
          have hA' := hA.apartAll (by first | exact gAgB | exact Ne.symm gBgA) [.int .i64 bStateNum, .int .i64 bStateShapeBlocks, .int .i64 bStateShapeSize, .slice bStatePagesA bStatePagesn bStatePagesc, .slice bStateRowsA bStateRowsn bStateRowsc, .int .i64 bStateGroupEpoch, .slice bStateGroupMembersA bStateGroupMembersn bStateGroupMembersc, .slice bLogA bLogn bLogc, .int .i64 bNormal]
          rw [hY] at hA'
          clear hA
          have hA := hA'
          clear hA'
          have hB' : Blk X6 gB [.int .i64 bStateNum, .int .i64 bStateShapeBlocks, .int .i64 bStateShapeSize, .slice bStatePagesA bStatePagesn bStatePagesc, .slice bStateRowsA bStateRowsn bStateRowsc, .int .i64 bStateGroupEpoch, .slice bStateGroupMembersA bStateGroupMembersn bStateGroupMembersc, .slice bLogA bLogn bLogc, .int .i64 bNormal] 70 := by rw [← hY]; exact hB.setAll [.int .i64 bStateNum, .int .i64 bStateShapeBlocks, .int .i64 bStateShapeSize, .slice bStatePagesA bStatePagesn bStatePagesc, .slice bStateRowsA bStateRowsn bStateRowsc, .int .i64 bStateGroupEpoch, .slice bStateGroupMembersA bStateGroupMembersn bStateGroupMembersc, .slice bLogA bLogn bLogc, .int .i64 bNormal]
          clear hB
          have hB := hB'
          clear hB'
          try rw [hY]
          clear hY
          refine hK _ _ ⟨hB6, ?_⟩
          clear hK Kk
          refine wpAnyH_done (by kernel_rfl) ?_ _
          try simp only [Act.put, List.setIfInBounds_toArray, List.set_cons_zero, List.set_cons_succ, List.getElem_toArray, List.getElem_cons_zero, List.getElem_cons_succ]
          go_wp2_with fail
          go_meet
          case rel => exact ⟨gA, gB, rfl, rfl, hA, hB, hB6⟩
      · obtain ⟨gB, hgB⟩ : ∃ y, X1.heap.size = y := ⟨_, rfl⟩
        obtain ⟨X2, hY⟩ : ∃ y, X1.alloc (.cells #[.int .i64 0, .int .i64 0, .int .i64 0, .slice none 0 0, .slice none 0 0, .int .i64 0, .slice none 0 0, .slice none 0 0, .int .i64 0] 70) = y := ⟨_, rfl⟩
        have hB : Blk X2 gB [.int .i64 0, .int .i64 0, .int .i64 0, .slice none 0 0, .slice none 0 0, .int .i64 0, .slice none 0 0, .slice none 0 0, .int .i64 0] 70 := by rw [← hY, ← hgB]; exact Blk.new X1 [.int .i64 0, .int .i64 0, .int .i64 0, .slice none 0 0, .slice none 0 0, .int .i64 0, .slice none 0 0, .slice none 0 0, .int .i64 0] _
        have hst : Below X1.heap.size X1 X2 := by rw [← hY]; exact (Below.refl _ _).alloc (Nat.le_refl _) _
        have hB2 := hB1.trans (hst.mono hB1.size)
        have gBle : w0.heap.size ≤ gB := by have := hB1.size; omega
        go_simp
        try rw [hY]
        try rw [hgB]
        clear hY hst hgB
        refine hK _ _ ⟨hB2, ?_⟩
        clear hK Kk
        refine all_two (fuel := 3) (i := 3) (j := 4) (by kernel_rfl) rfl rfl rfl rfl (fun Kk hK => ?_) (fun Kk hK => ?_) 
        · go_simp
          refine (HB.out X2 hB2).mono ?_
          rintro e' X3 ⟨rfl, hst⟩
          have hB3 := hB2.trans (hst.mono hB2.size)
          replace hB := hB.below hst
          clear hst
          refine hK _ _ ⟨hB3, ?_⟩
          clear hK Kk
          refine all_one (fuel := 2) (i := 4) (by kernel_rfl) rfl rfl (fun Kk hK => ?_)
          obtain ⟨gA, hgA⟩ : ∃ y, X3.heap.size = y := ⟨_, rfl⟩
          obtain ⟨X4, hY⟩ : ∃ y, X3.alloc (.cells #[.int .i64 0, .int .i64 0, .int .i64 0, .slice none 0 0, .slice none 0 0, .int .i64 0, .slice none 0 0, .slice none 0 0, .int .i64 0] 70) = y := ⟨_, rfl⟩
          have hA : Blk X4 gA [.int .i64 0, .int .i64 0, .int .i64 0, .slice none 0 0, .slice none 0 0, .int .i64 0, .slice none 0 0, .slice none 0 0, .int .i64 0] 70 := by rw [← hY, ← hgA]; exact Blk.new X3 [.int .i64 0, .int .i64 0, .int .i64 0, .slice none 0 0, .slice none 0 0, .int .i64 0, .slice none 0 0, .slice none 0 0, .int .i64 0] _
          have hst : Below X3.heap.size X3 X4 := by rw [← hY]; exact (Below.refl _ _).alloc (Nat.le_refl _) _
          have hB4 := hB3.trans (hst.mono hB3.size)
          have gAle : w0.heap.size ≤ gA := by have := hB3.size; omega
          have gBgA : gB ≠ gA := by have := hB.lt; omega
          replace hB := hB.below hst
          go_simp
          try rw [hY]
          try rw [hgA]
          clear hY hst hgA
          refine hK _ _ ⟨hB4, ?_⟩
          clear hK Kk
          refine all_one (fuel := 1) (i := 6) (by kernel_rfl) rfl rfl (fun Kk hK => ?_)
          refine oper_store rfl rfl rfl rfl rfl hA (by kernel_rfl) rfl (by intro u hu; simp only [List.mem_cons, List.not_mem_nil, or_false] at hu; rcases hu with rfl | rfl | rfl | rfl | rfl | rfl | rfl | rfl | rfl <;> rfl) ?_
          obtain ⟨X5, hY⟩ : ∃ y, X4.setRow gA #[.int .i64 aStateNum, .int .i64 aStateShapeBlocks, .int .i64 aStateShapeSize, .slice aStatePagesA aStatePagesn aStatePagesc, .slice aStateRowsA aStateRowsn aStateRowsc, .int .i64 aStateGroupEpoch, .slice aStateGroupMembersA aStateGroupMembersn aStateGroupMembersc, .slice aLogA aLogn aLogc, .int .i64 aNormal] = y := ⟨_, rfl⟩
          have hB5 : Below w0.heap.size w0 X5 := by rw [← hY]; exact below_setRow hB4 gAle _
          have hB' := hB.apartAll (by first | exact gBgA | exact Ne.symm gAgB) [.int .i64 aStateNum, .int .i64 aStateShapeBlocks, .int .i64 aStateShapeSize, .slice aStatePagesA aStatePagesn aStatePagesc, .slice aStateRowsA aStateRowsn aStateRowsc, .int .i64 aStateGroupEpoch, .slice aStateGroupMembersA aStateGroupMembersn aStateGroupMembersc, .slice aLogA aLogn aLogc, .int .i64 aNormal]
          rw [hY] at hB'
          clear hB
          have hB := hB'
          clear hB'
          have hA' : Blk X5 gA [.int .i64 aStateNum, .int .i64 aStateShapeBlocks, .int .i64 aStateShapeSize, .slice aStatePagesA aStatePagesn aStatePagesc, .slice aStateRowsA aStateRowsn aStateRowsc, .int .i64 aStateGroupEpoch, .slice aStateGroupMembersA aStateGroupMembersn aStateGroupMembersc, .slice aLogA aLogn aLogc, .int .i64 aNormal] 70 := by rw [← hY]; exact hA.setAll [.int .i64 aStateNum, .int .i64 aStateShapeBlocks, .int .i64 aStateShapeSize, .slice aStatePagesA aStatePagesn aStatePagesc, .slice aStateRowsA aStateRowsn aStateRowsc, .int .i64 aStateGroupEpoch, .slice aStateGroupMembersA aStateGroupMembersn aStateGroupMembersc, .slice aLogA aLogn aLogc, .int .i64 aNormal]
          clear hA
          have hA := hA'
          clear hA'
          try rw [hY]
          clear hY
          refine hK _ _ ⟨hB5, ?_⟩
          clear hK Kk
          refine all_one (fuel := 0) (i := 7) (by kernel_rfl) rfl rfl (fun Kk hK => ?_)
          refine oper_store rfl rfl rfl rfl rfl hB (by kernel_rfl) rfl (by intro u hu; simp only [List.mem_cons, List.not_mem_nil, or_false] at hu; rcases hu with rfl | rfl | rfl | rfl | rfl | rfl | rfl | rfl | rfl <;> rfl) ?_
          obtain ⟨X6, hY⟩ : ∃ y, X5.setRow gB #[.int .i64 bStateNum, .int .i64 bStateShapeBlocks, .int .i64 bStateShapeSize, .slice bStatePagesA bStatePagesn bStatePagesc, .slice bStateRowsA bStateRowsn bStateRowsc, .int .i64 bStateGroupEpoch, .slice bStateGroupMembersA bStateGroupMembersn bStateGroupMembersc, .slice bLogA bLogn bLogc, .int .i64 bNormal] = y := ⟨_, rfl⟩
          have hB6 : Below w0.heap.size w0 X6 := by rw [← hY]; exact below_setRow hB5 gBle _
          have hB' : Blk X6 gB [.int .i64 bStateNum, .int .i64 bStateShapeBlocks, .int .i64 bStateShapeSize, .slice bStatePagesA bStatePagesn bStatePagesc, .slice bStateRowsA bStateRowsn bStateRowsc, .int .i64 bStateGroupEpoch, .slice bStateGroupMembersA bStateGroupMembersn bStateGroupMembersc, .slice bLogA bLogn bLogc, .int .i64 bNormal] 70 := by rw [← hY]; exact hB.setAll [.int .i64 bStateNum, .int .i64 bStateShapeBlocks, .int .i64 bStateShapeSize, .slice bStatePagesA bStatePagesn bStatePagesc, .slice bStateRowsA bStateRowsn bStateRowsc, .int .i64 bStateGroupEpoch, .slice bStateGroupMembersA bStateGroupMembersn bStateGroupMembersc, .slice bLogA bLogn bLogc, .int .i64 bNormal]
          have hA' := hA.apartAll (by first | exact gAgB | exact Ne.symm gBgA) [.int .i64 bStateNum, .int .i64 bStateShapeBlocks, .int .i64 bStateShapeSize, .slice bStatePagesA bStatePagesn bStatePagesc, .slice bStateRowsA bStateRowsn bStateRowsc, .int .i64 bStateGroupEpoch, .slice bStateGroupMembersA bStateGroupMembersn bStateGroupMembersc, .slice bLogA bLogn bLogc, .int .i64 bNormal]
          rw [hY] at hA'
          clear hA
          have hA := hA'
          clear hA'
          clear hB
          have hB := hB'
          clear hB'
          try rw [hY]
          clear hY
          refine hK _ _ ⟨hB6, ?_⟩
          clear hK Kk
          refine wpAnyH_done (by kernel_rfl) ?_ _
          try simp only [Act.put, List.setIfInBounds_toArray, List.set_cons_zero, List.set_cons_succ, List.getElem_toArray, List.getElem_cons_zero, List.getElem_cons_succ]
          go_wp2_with fail
          go_meet
          case rel => exact ⟨gA, gB, rfl, rfl, hA, hB, hB6⟩
        · obtain ⟨gA, hgA⟩ : ∃ y, X2.heap.size = y := ⟨_, rfl⟩
          obtain ⟨X3, hY⟩ : ∃ y, X2.alloc (.cells #[.int .i64 0, .int .i64 0, .int .i64 0, .slice none 0 0, .slice none 0 0, .int .i64 0, .slice none 0 0, .slice none 0 0, .int .i64 0] 70) = y := ⟨_, rfl⟩
          have hA : Blk X3 gA [.int .i64 0, .int .i64 0, .int .i64 0, .slice none 0 0, .slice none 0 0, .int .i64 0, .slice none 0 0, .slice none 0 0, .int .i64 0] 70 := by rw [← hY, ← hgA]; exact Blk.new X2 [.int .i64 0, .int .i64 0, .int .i64 0, .slice none 0 0, .slice none 0 0, .int .i64 0, .slice none 0 0, .slice none 0 0, .int .i64 0] _
          have hst : Below X2.heap.size X2 X3 := by rw [← hY]; exact (Below.refl _ _).alloc (Nat.le_refl _) _
          have hB3 := hB2.trans (hst.mono hB2.size)
          have gAle : w0.heap.size ≤ gA := by have := hB2.size; omega
          have gBgA : gB ≠ gA := by have := hB.lt; omega
          replace hB := hB.below hst
          go_simp
          try rw [hY]
          try rw [hgA]
          clear hY hst hgA
          refine hK _ _ ⟨hB3, ?_⟩
          clear hK Kk
          refine all_one (fuel := 2) (i := 3) (by kernel_rfl) rfl rfl (fun Kk hK => ?_)
          go_simp
          refine (HB.out X3 hB3).mono ?_
          rintro e' X4 ⟨rfl, hst⟩
          have hB4 := hB3.trans (hst.mono hB3.size)
          replace hB := hB.below hst
          replace hA := hA.below hst
          clear hst
          refine hK _ _ ⟨hB4, ?_⟩
          clear hK Kk
          refine all_one (fuel := 1) (i := 6) (by kernel_rfl) rfl rfl (fun Kk hK => ?_)
          refine oper_store rfl rfl rfl rfl rfl hA (by kernel_rfl) rfl (by intro u hu; simp only [List.mem_cons, List.not_mem_nil, or_false] at hu; rcases hu with rfl | rfl | rfl | rfl | rfl | rfl | rfl | rfl | rfl <;> rfl) ?_
          obtain ⟨X5, hY⟩ : ∃ y, X4.setRow gA #[.int .i64 aStateNum, .int .i64 aStateShapeBlocks, .int .i64 aStateShapeSize, .slice aStatePagesA aStatePagesn aStatePagesc, .slice aStateRowsA aStateRowsn aStateRowsc, .int .i64 aStateGroupEpoch, .slice aStateGroupMembersA aStateGroupMembersn aStateGroupMembersc, .slice aLogA aLogn aLogc, .int .i64 aNormal] = y := ⟨_, rfl⟩
          have hB5 : Below w0.heap.size w0 X5 := by rw [← hY]; exact below_setRow hB4 gAle _
          have hB' := hB.apartAll (by first | exact gBgA | exact Ne.symm gAgB) [.int .i64 aStateNum, .int .i64 aStateShapeBlocks, .int .i64 aStateShapeSize, .slice aStatePagesA aStatePagesn aStatePagesc, .slice aStateRowsA aStateRowsn aStateRowsc, .int .i64 aStateGroupEpoch, .slice aStateGroupMembersA aStateGroupMembersn aStateGroupMembersc, .slice aLogA aLogn aLogc, .int .i64 aNormal]
          rw [hY] at hB'
          clear hB
          have hB := hB'
          clear hB'
          have hA' : Blk X5 gA [.int .i64 aStateNum, .int .i64 aStateShapeBlocks, .int .i64 aStateShapeSize, .slice aStatePagesA aStatePagesn aStatePagesc, .slice aStateRowsA aStateRowsn aStateRowsc, .int .i64 aStateGroupEpoch, .slice aStateGroupMembersA aStateGroupMembersn aStateGroupMembersc, .slice aLogA aLogn aLogc, .int .i64 aNormal] 70 := by rw [← hY]; exact hA.setAll [.int .i64 aStateNum, .int .i64 aStateShapeBlocks, .int .i64 aStateShapeSize, .slice aStatePagesA aStatePagesn aStatePagesc, .slice aStateRowsA aStateRowsn aStateRowsc, .int .i64 aStateGroupEpoch, .slice aStateGroupMembersA aStateGroupMembersn aStateGroupMembersc, .slice aLogA aLogn aLogc, .int .i64 aNormal]
          clear hA
          have hA := hA'
          clear hA'
          try rw [hY]
          clear hY
          refine hK _ _ ⟨hB5, ?_⟩
          clear hK Kk
          refine all_one (fuel := 0) (i := 7) (by kernel_rfl) rfl rfl (fun Kk hK => ?_)
          refine oper_store rfl rfl rfl rfl rfl hB (by kernel_rfl) rfl (by intro u hu; simp only [List.mem_cons, List.not_mem_nil, or_false] at hu; rcases hu with rfl | rfl | rfl | rfl | rfl | rfl | rfl | rfl | rfl <;> rfl) ?_
          obtain ⟨X6, hY⟩ : ∃ y, X5.setRow gB #[.int .i64 bStateNum, .int .i64 bStateShapeBlocks, .int .i64 bStateShapeSize, .slice bStatePagesA bStatePagesn bStatePagesc, .slice bStateRowsA bStateRowsn bStateRowsc, .int .i64 bStateGroupEpoch, .slice bStateGroupMembersA bStateGroupMembersn bStateGroupMembersc, .slice bLogA bLogn bLogc, .int .i64 bNormal] = y := ⟨_, rfl⟩
          have hB6 : Below w0.heap.size w0 X6 := by rw [← hY]; exact below_setRow hB5 gBle _
          have hB' : Blk X6 gB [.int .i64 bStateNum, .int .i64 bStateShapeBlocks, .int .i64 bStateShapeSize, .slice bStatePagesA bStatePagesn bStatePagesc, .slice bStateRowsA bStateRowsn bStateRowsc, .int .i64 bStateGroupEpoch, .slice bStateGroupMembersA bStateGroupMembersn bStateGroupMembersc, .slice bLogA bLogn bLogc, .int .i64 bNormal] 70 := by rw [← hY]; exact hB.setAll [.int .i64 bStateNum, .int .i64 bStateShapeBlocks, .int .i64 bStateShapeSize, .slice bStatePagesA bStatePagesn bStatePagesc, .slice bStateRowsA bStateRowsn bStateRowsc, .int .i64 bStateGroupEpoch, .slice bStateGroupMembersA bStateGroupMembersn bStateGroupMembersc, .slice bLogA bLogn bLogc, .int .i64 bNormal]
          have hA' := hA.apartAll (by first | exact gAgB | exact Ne.symm gBgA) [.int .i64 bStateNum, .int .i64 bStateShapeBlocks, .int .i64 bStateShapeSize, .slice bStatePagesA bStatePagesn bStatePagesc, .slice bStateRowsA bStateRowsn bStateRowsc, .int .i64 bStateGroupEpoch, .slice bStateGroupMembersA bStateGroupMembersn bStateGroupMembersc, .slice bLogA bLogn bLogc, .int .i64 bNormal]
          rw [hY] at hA'
          clear hA
          have hA := hA'
          clear hA'
          clear hB
          have hB := hB'
          clear hB'
          try rw [hY]
          clear hY
          refine hK _ _ ⟨hB6, ?_⟩
          clear hK Kk
          refine wpAnyH_done (by kernel_rfl) ?_ _
          try simp only [Act.put, List.setIfInBounds_toArray, List.set_cons_zero, List.set_cons_succ, List.getElem_toArray, List.getElem_cons_zero, List.getElem_cons_succ]
          go_wp2_with fail
          go_meet
          case rel => exact ⟨gA, gB, rfl, rfl, hA, hB, hB6⟩
    · obtain ⟨gA, hgA⟩ : ∃ y, X0.heap.size = y := ⟨_, rfl⟩
      obtain ⟨X1, hY⟩ : ∃ y, X0.alloc (.cells #[.int .i64 0, .int .i64 0, .int .i64 0, .slice none 0 0, .slice none 0 0, .int .i64 0, .slice none 0 0, .slice none 0 0, .int .i64 0] 70) = y := ⟨_, rfl⟩
      have hA : Blk X1 gA [.int .i64 0, .int .i64 0, .int .i64 0, .slice none 0 0, .slice none 0 0, .int .i64 0, .slice none 0 0, .slice none 0 0, .int .i64 0] 70 := by rw [← hY, ← hgA]; exact Blk.new X0 [.int .i64 0, .int .i64 0, .int .i64 0, .slice none 0 0, .slice none 0 0, .int .i64 0, .slice none 0 0, .slice none 0 0, .int .i64 0] _
      have hst : Below X0.heap.size X0 X1 := by rw [← hY]; exact (Below.refl _ _).alloc (Nat.le_refl _) _
      have hB1 := hB0.trans (hst.mono hB0.size)
      have gAle : w0.heap.size ≤ gA := by have := hB0.size; omega
      go_simp
      try rw [hY]
      try rw [hgA]
      clear hY hst hgA
      refine hK _ _ ⟨hB1, ?_⟩
      clear hK Kk
      refine all_two (fuel := 4) (i := 1) (j := 5) (by kernel_rfl) rfl rfl rfl rfl (fun Kk hK => ?_) (fun Kk hK => ?_) 
      · go_simp
        refine (HA.out X1 hB1).mono ?_
        rintro e' X2 ⟨rfl, hst⟩
        have hB2 := hB1.trans (hst.mono hB1.size)
        replace hA := hA.below hst
        clear hst
        refine hK _ _ ⟨hB2, ?_⟩
        clear hK Kk
        refine all_two (fuel := 3) (i := 3) (j := 5) (by kernel_rfl) rfl rfl rfl rfl (fun Kk hK => ?_) (fun Kk hK => ?_) 
        · go_simp
          refine (HB.out X2 hB2).mono ?_
          rintro e' X3 ⟨rfl, hst⟩
          have hB3 := hB2.trans (hst.mono hB2.size)
          replace hA := hA.below hst
          clear hst
          refine hK _ _ ⟨hB3, ?_⟩
          clear hK Kk
          refine all_one (fuel := 2) (i := 5) (by kernel_rfl) rfl rfl (fun Kk hK => ?_)
          obtain ⟨gB, hgB⟩ : ∃ y, X3.heap.size = y := ⟨_, rfl⟩
          obtain ⟨X4, hY⟩ : ∃ y, X3.alloc (.cells #[.int .i64 0, .int .i64 0, .int .i64 0, .slice none 0 0, .slice none 0 0, .int .i64 0, .slice none 0 0, .slice none 0 0, .int .i64 0] 70) = y := ⟨_, rfl⟩
          have hB : Blk X4 gB [.int .i64 0, .int .i64 0, .int .i64 0, .slice none 0 0, .slice none 0 0, .int .i64 0, .slice none 0 0, .slice none 0 0, .int .i64 0] 70 := by rw [← hY, ← hgB]; exact Blk.new X3 [.int .i64 0, .int .i64 0, .int .i64 0, .slice none 0 0, .slice none 0 0, .int .i64 0, .slice none 0 0, .slice none 0 0, .int .i64 0] _
          have hst : Below X3.heap.size X3 X4 := by rw [← hY]; exact (Below.refl _ _).alloc (Nat.le_refl _) _
          have hB4 := hB3.trans (hst.mono hB3.size)
          have gBle : w0.heap.size ≤ gB := by have := hB3.size; omega
          have gAgB : gA ≠ gB := by have := hA.lt; omega
          replace hA := hA.below hst
          go_simp
          try rw [hY]
          try rw [hgB]
          clear hY hst hgB
          refine hK _ _ ⟨hB4, ?_⟩
          clear hK Kk
          refine all_one (fuel := 1) (i := 6) (by kernel_rfl) rfl rfl (fun Kk hK => ?_)
          refine oper_store rfl rfl rfl rfl rfl hA (by kernel_rfl) rfl (by intro u hu; simp only [List.mem_cons, List.not_mem_nil, or_false] at hu; rcases hu with rfl | rfl | rfl | rfl | rfl | rfl | rfl | rfl | rfl <;> rfl) ?_
          obtain ⟨X5, hY⟩ : ∃ y, X4.setRow gA #[.int .i64 aStateNum, .int .i64 aStateShapeBlocks, .int .i64 aStateShapeSize, .slice aStatePagesA aStatePagesn aStatePagesc, .slice aStateRowsA aStateRowsn aStateRowsc, .int .i64 aStateGroupEpoch, .slice aStateGroupMembersA aStateGroupMembersn aStateGroupMembersc, .slice aLogA aLogn aLogc, .int .i64 aNormal] = y := ⟨_, rfl⟩
          have hB5 : Below w0.heap.size w0 X5 := by rw [← hY]; exact below_setRow hB4 gAle _
          have hA' : Blk X5 gA [.int .i64 aStateNum, .int .i64 aStateShapeBlocks, .int .i64 aStateShapeSize, .slice aStatePagesA aStatePagesn aStatePagesc, .slice aStateRowsA aStateRowsn aStateRowsc, .int .i64 aStateGroupEpoch, .slice aStateGroupMembersA aStateGroupMembersn aStateGroupMembersc, .slice aLogA aLogn aLogc, .int .i64 aNormal] 70 := by rw [← hY]; exact hA.setAll [.int .i64 aStateNum, .int .i64 aStateShapeBlocks, .int .i64 aStateShapeSize, .slice aStatePagesA aStatePagesn aStatePagesc, .slice aStateRowsA aStateRowsn aStateRowsc, .int .i64 aStateGroupEpoch, .slice aStateGroupMembersA aStateGroupMembersn aStateGroupMembersc, .slice aLogA aLogn aLogc, .int .i64 aNormal]
          have hB' := hB.apartAll (by first | exact gBgA | exact Ne.symm gAgB) [.int .i64 aStateNum, .int .i64 aStateShapeBlocks, .int .i64 aStateShapeSize, .slice aStatePagesA aStatePagesn aStatePagesc, .slice aStateRowsA aStateRowsn aStateRowsc, .int .i64 aStateGroupEpoch, .slice aStateGroupMembersA aStateGroupMembersn aStateGroupMembersc, .slice aLogA aLogn aLogc, .int .i64 aNormal]
          rw [hY] at hB'
          clear hB
          have hB := hB'
          clear hB'
          clear hA
          have hA := hA'
          clear hA'
          try rw [hY]
          clear hY
          refine hK _ _ ⟨hB5, ?_⟩
          clear hK Kk
          refine all_one (fuel := 0) (i := 7) (by kernel_rfl) rfl rfl (fun Kk hK => ?_)
          refine oper_store rfl rfl rfl rfl rfl hB (by kernel_rfl) rfl (by intro u hu; simp only [List.mem_cons, List.not_mem_nil, or_false] at hu; rcases hu with rfl | rfl | rfl | rfl | rfl | rfl | rfl | rfl | rfl <;> rfl) ?_
          obtain ⟨X6, hY⟩ : ∃ y, X5.setRow gB #[.int .i64 bStateNum, .int .i64 bStateShapeBlocks, .int .i64 bStateShapeSize, .slice bStatePagesA bStatePagesn bStatePagesc, .slice bStateRowsA bStateRowsn bStateRowsc, .int .i64 bStateGroupEpoch, .slice bStateGroupMembersA bStateGroupMembersn bStateGroupMembersc, .slice bLogA bLogn bLogc, .int .i64 bNormal] = y := ⟨_, rfl⟩
          have hB6 : Below w0.heap.size w0 X6 := by rw [← hY]; exact below_setRow hB5 gBle _
          have hA' := hA.apartAll (by first | exact gAgB | exact Ne.symm gBgA) [.int .i64 bStateNum, .int .i64 bStateShapeBlocks, .int .i64 bStateShapeSize, .slice bStatePagesA bStatePagesn bStatePagesc, .slice bStateRowsA bStateRowsn bStateRowsc, .int .i64 bStateGroupEpoch, .slice bStateGroupMembersA bStateGroupMembersn bStateGroupMembersc, .slice bLogA bLogn bLogc, .int .i64 bNormal]
          rw [hY] at hA'
          clear hA
          have hA := hA'
          clear hA'
          have hB' : Blk X6 gB [.int .i64 bStateNum, .int .i64 bStateShapeBlocks, .int .i64 bStateShapeSize, .slice bStatePagesA bStatePagesn bStatePagesc, .slice bStateRowsA bStateRowsn bStateRowsc, .int .i64 bStateGroupEpoch, .slice bStateGroupMembersA bStateGroupMembersn bStateGroupMembersc, .slice bLogA bLogn bLogc, .int .i64 bNormal] 70 := by rw [← hY]; exact hB.setAll [.int .i64 bStateNum, .int .i64 bStateShapeBlocks, .int .i64 bStateShapeSize, .slice bStatePagesA bStatePagesn bStatePagesc, .slice bStateRowsA bStateRowsn bStateRowsc, .int .i64 bStateGroupEpoch, .slice bStateGroupMembersA bStateGroupMembersn bStateGroupMembersc, .slice bLogA bLogn bLogc, .int .i64 bNormal]
          clear hB
          have hB := hB'
          clear hB'
          try rw [hY]
          clear hY
          refine hK _ _ ⟨hB6, ?_⟩
          clear hK Kk
          refine wpAnyH_done (by kernel_rfl) ?_ _
          try simp only [Act.put, List.setIfInBounds_toArray, List.set_cons_zero, List.set_cons_succ, List.getElem_toArray, List.getElem_cons_zero, List.getElem_cons_succ]
          go_wp2_with fail
          go_meet
          case rel => exact ⟨gA, gB, rfl, rfl, hA, hB, hB6⟩
        · obtain ⟨gB, hgB⟩ : ∃ y, X2.heap.size = y := ⟨_, rfl⟩
          obtain ⟨X3, hY⟩ : ∃ y, X2.alloc (.cells #[.int .i64 0, .int .i64 0, .int .i64 0, .slice none 0 0, .slice none 0 0, .int .i64 0, .slice none 0 0, .slice none 0 0, .int .i64 0] 70) = y := ⟨_, rfl⟩
          have hB : Blk X3 gB [.int .i64 0, .int .i64 0, .int .i64 0, .slice none 0 0, .slice none 0 0, .int .i64 0, .slice none 0 0, .slice none 0 0, .int .i64 0] 70 := by rw [← hY, ← hgB]; exact Blk.new X2 [.int .i64 0, .int .i64 0, .int .i64 0, .slice none 0 0, .slice none 0 0, .int .i64 0, .slice none 0 0, .slice none 0 0, .int .i64 0] _
          have hst : Below X2.heap.size X2 X3 := by rw [← hY]; exact (Below.refl _ _).alloc (Nat.le_refl _) _
          have hB3 := hB2.trans (hst.mono hB2.size)
          have gBle : w0.heap.size ≤ gB := by have := hB2.size; omega
          have gAgB : gA ≠ gB := by have := hA.lt; omega
          replace hA := hA.below hst
          go_simp
          try rw [hY]
          try rw [hgB]
          clear hY hst hgB
          refine hK _ _ ⟨hB3, ?_⟩
          clear hK Kk
          refine all_one (fuel := 2) (i := 3) (by kernel_rfl) rfl rfl (fun Kk hK => ?_)
          go_simp
          refine (HB.out X3 hB3).mono ?_
          rintro e' X4 ⟨rfl, hst⟩
          have hB4 := hB3.trans (hst.mono hB3.size)
          replace hA := hA.below hst
          replace hB := hB.below hst
          clear hst
          refine hK _ _ ⟨hB4, ?_⟩
          clear hK Kk
          refine all_one (fuel := 1) (i := 6) (by kernel_rfl) rfl rfl (fun Kk hK => ?_)
          refine oper_store rfl rfl rfl rfl rfl hA (by kernel_rfl) rfl (by intro u hu; simp only [List.mem_cons, List.not_mem_nil, or_false] at hu; rcases hu with rfl | rfl | rfl | rfl | rfl | rfl | rfl | rfl | rfl <;> rfl) ?_
          obtain ⟨X5, hY⟩ : ∃ y, X4.setRow gA #[.int .i64 aStateNum, .int .i64 aStateShapeBlocks, .int .i64 aStateShapeSize, .slice aStatePagesA aStatePagesn aStatePagesc, .slice aStateRowsA aStateRowsn aStateRowsc, .int .i64 aStateGroupEpoch, .slice aStateGroupMembersA aStateGroupMembersn aStateGroupMembersc, .slice aLogA aLogn aLogc, .int .i64 aNormal] = y := ⟨_, rfl⟩
          have hB5 : Below w0.heap.size w0 X5 := by rw [← hY]; exact below_setRow hB4 gAle _
          have hA' : Blk X5 gA [.int .i64 aStateNum, .int .i64 aStateShapeBlocks, .int .i64 aStateShapeSize, .slice aStatePagesA aStatePagesn aStatePagesc, .slice aStateRowsA aStateRowsn aStateRowsc, .int .i64 aStateGroupEpoch, .slice aStateGroupMembersA aStateGroupMembersn aStateGroupMembersc, .slice aLogA aLogn aLogc, .int .i64 aNormal] 70 := by rw [← hY]; exact hA.setAll [.int .i64 aStateNum, .int .i64 aStateShapeBlocks, .int .i64 aStateShapeSize, .slice aStatePagesA aStatePagesn aStatePagesc, .slice aStateRowsA aStateRowsn aStateRowsc, .int .i64 aStateGroupEpoch, .slice aStateGroupMembersA aStateGroupMembersn aStateGroupMembersc, .slice aLogA aLogn aLogc, .int .i64 aNormal]
          have hB' := hB.apartAll (by first | exact gBgA | exact Ne.symm gAgB) [.int .i64 aStateNum, .int .i64 aStateShapeBlocks, .int .i64 aStateShapeSize, .slice aStatePagesA aStatePagesn aStatePagesc, .slice aStateRowsA aStateRowsn aStateRowsc, .int .i64 aStateGroupEpoch, .slice aStateGroupMembersA aStateGroupMembersn aStateGroupMembersc, .slice aLogA aLogn aLogc, .int .i64 aNormal]
          rw [hY] at hB'
          clear hB
          have hB := hB'
          clear hB'
          clear hA
          have hA := hA'
          clear hA'
          try rw [hY]
          clear hY
          refine hK _ _ ⟨hB5, ?_⟩
          clear hK Kk
          refine all_one (fuel := 0) (i := 7) (by kernel_rfl) rfl rfl (fun Kk hK => ?_)
          refine oper_store rfl rfl rfl rfl rfl hB (by kernel_rfl) rfl (by intro u hu; simp only [List.mem_cons, List.not_mem_nil, or_false] at hu; rcases hu with rfl | rfl | rfl | rfl | rfl | rfl | rfl | rfl | rfl <;> rfl) ?_
          obtain ⟨X6, hY⟩ : ∃ y, X5.setRow gB #[.int .i64 bStateNum, .int .i64 bStateShapeBlocks, .int .i64 bStateShapeSize, .slice bStatePagesA bStatePagesn bStatePagesc, .slice bStateRowsA bStateRowsn bStateRowsc, .int .i64 bStateGroupEpoch, .slice bStateGroupMembersA bStateGroupMembersn bStateGroupMembersc, .slice bLogA bLogn bLogc, .int .i64 bNormal] = y := ⟨_, rfl⟩
          have hB6 : Below w0.heap.size w0 X6 := by rw [← hY]; exact below_setRow hB5 gBle _
          have hA' := hA.apartAll (by first | exact gAgB | exact Ne.symm gBgA) [.int .i64 bStateNum, .int .i64 bStateShapeBlocks, .int .i64 bStateShapeSize, .slice bStatePagesA bStatePagesn bStatePagesc, .slice bStateRowsA bStateRowsn bStateRowsc, .int .i64 bStateGroupEpoch, .slice bStateGroupMembersA bStateGroupMembersn bStateGroupMembersc, .slice bLogA bLogn bLogc, .int .i64 bNormal]
          rw [hY] at hA'
          clear hA
          have hA := hA'
          clear hA'
          have hB' : Blk X6 gB [.int .i64 bStateNum, .int .i64 bStateShapeBlocks, .int .i64 bStateShapeSize, .slice bStatePagesA bStatePagesn bStatePagesc, .slice bStateRowsA bStateRowsn bStateRowsc, .int .i64 bStateGroupEpoch, .slice bStateGroupMembersA bStateGroupMembersn bStateGroupMembersc, .slice bLogA bLogn bLogc, .int .i64 bNormal] 70 := by rw [← hY]; exact hB.setAll [.int .i64 bStateNum, .int .i64 bStateShapeBlocks, .int .i64 bStateShapeSize, .slice bStatePagesA bStatePagesn bStatePagesc, .slice bStateRowsA bStateRowsn bStateRowsc, .int .i64 bStateGroupEpoch, .slice bStateGroupMembersA bStateGroupMembersn bStateGroupMembersc, .slice bLogA bLogn bLogc, .int .i64 bNormal]
          clear hB
          have hB := hB'
          clear hB'
          try rw [hY]
          clear hY
          refine hK _ _ ⟨hB6, ?_⟩
          clear hK Kk
          refine wpAnyH_done (by kernel_rfl) ?_ _
          try simp only [Act.put, List.setIfInBounds_toArray, List.set_cons_zero, List.set_cons_succ, List.getElem_toArray, List.getElem_cons_zero, List.getElem_cons_succ]
          go_wp2_with fail
          go_meet
          case rel => exact ⟨gA, gB, rfl, rfl, hA, hB, hB6⟩
      · obtain ⟨gB, hgB⟩ : ∃ y, X1.heap.size = y := ⟨_, rfl⟩
        obtain ⟨X2, hY⟩ : ∃ y, X1.alloc (.cells #[.int .i64 0, .int .i64 0, .int .i64 0, .slice none 0 0, .slice none 0 0, .int .i64 0, .slice none 0 0, .slice none 0 0, .int .i64 0] 70) = y := ⟨_, rfl⟩
        have hB : Blk X2 gB [.int .i64 0, .int .i64 0, .int .i64 0, .slice none 0 0, .slice none 0 0, .int .i64 0, .slice none 0 0, .slice none 0 0, .int .i64 0] 70 := by rw [← hY, ← hgB]; exact Blk.new X1 [.int .i64 0, .int .i64 0, .int .i64 0, .slice none 0 0, .slice none 0 0, .int .i64 0, .slice none 0 0, .slice none 0 0, .int .i64 0] _
        have hst : Below X1.heap.size X1 X2 := by rw [← hY]; exact (Below.refl _ _).alloc (Nat.le_refl _) _
        have hB2 := hB1.trans (hst.mono hB1.size)
        have gBle : w0.heap.size ≤ gB := by have := hB1.size; omega
        have gAgB : gA ≠ gB := by have := hA.lt; omega
        replace hA := hA.below hst
        go_simp
        try rw [hY]
        try rw [hgB]
        clear hY hst hgB
        refine hK _ _ ⟨hB2, ?_⟩
        clear hK Kk
        refine all_one (fuel := 3) (i := 1) (by kernel_rfl) rfl rfl (fun Kk hK => ?_)
        go_simp
        refine (HA.out X2 hB2).mono ?_
        rintro e' X3 ⟨rfl, hst⟩
        have hB3 := hB2.trans (hst.mono hB2.size)
        replace hA := hA.below hst
        replace hB := hB.below hst
        clear hst
        refine hK _ _ ⟨hB3, ?_⟩
        clear hK Kk
        refine all_one (fuel := 2) (i := 3) (by kernel_rfl) rfl rfl (fun Kk hK => ?_)
        go_simp
        refine (HB.out X3 hB3).mono ?_
        rintro e' X4 ⟨rfl, hst⟩
        have hB4 := hB3.trans (hst.mono hB3.size)
        replace hA := hA.below hst
        replace hB := hB.below hst
        clear hst
        refine hK _ _ ⟨hB4, ?_⟩
        clear hK Kk
        refine all_one (fuel := 1) (i := 6) (by kernel_rfl) rfl rfl (fun Kk hK => ?_)
        refine oper_store rfl rfl rfl rfl rfl hA (by kernel_rfl) rfl (by intro u hu; simp only [List.mem_cons, List.not_mem_nil, or_false] at hu; rcases hu with rfl | rfl | rfl | rfl | rfl | rfl | rfl | rfl | rfl <;> rfl) ?_
        obtain ⟨X5, hY⟩ : ∃ y, X4.setRow gA #[.int .i64 aStateNum, .int .i64 aStateShapeBlocks, .int .i64 aStateShapeSize, .slice aStatePagesA aStatePagesn aStatePagesc, .slice aStateRowsA aStateRowsn aStateRowsc, .int .i64 aStateGroupEpoch, .slice aStateGroupMembersA aStateGroupMembersn aStateGroupMembersc, .slice aLogA aLogn aLogc, .int .i64 aNormal] = y := ⟨_, rfl⟩
        have hB5 : Below w0.heap.size w0 X5 := by rw [← hY]; exact below_setRow hB4 gAle _
        have hA' : Blk X5 gA [.int .i64 aStateNum, .int .i64 aStateShapeBlocks, .int .i64 aStateShapeSize, .slice aStatePagesA aStatePagesn aStatePagesc, .slice aStateRowsA aStateRowsn aStateRowsc, .int .i64 aStateGroupEpoch, .slice aStateGroupMembersA aStateGroupMembersn aStateGroupMembersc, .slice aLogA aLogn aLogc, .int .i64 aNormal] 70 := by rw [← hY]; exact hA.setAll [.int .i64 aStateNum, .int .i64 aStateShapeBlocks, .int .i64 aStateShapeSize, .slice aStatePagesA aStatePagesn aStatePagesc, .slice aStateRowsA aStateRowsn aStateRowsc, .int .i64 aStateGroupEpoch, .slice aStateGroupMembersA aStateGroupMembersn aStateGroupMembersc, .slice aLogA aLogn aLogc, .int .i64 aNormal]
        have hB' := hB.apartAll (by first | exact gBgA | exact Ne.symm gAgB) [.int .i64 aStateNum, .int .i64 aStateShapeBlocks, .int .i64 aStateShapeSize, .slice aStatePagesA aStatePagesn aStatePagesc, .slice aStateRowsA aStateRowsn aStateRowsc, .int .i64 aStateGroupEpoch, .slice aStateGroupMembersA aStateGroupMembersn aStateGroupMembersc, .slice aLogA aLogn aLogc, .int .i64 aNormal]
        rw [hY] at hB'
        clear hB
        have hB := hB'
        clear hB'
        clear hA
        have hA := hA'
        clear hA'
        try rw [hY]
        clear hY
        refine hK _ _ ⟨hB5, ?_⟩
        clear hK Kk
        refine all_one (fuel := 0) (i := 7) (by kernel_rfl) rfl rfl (fun Kk hK => ?_)
        refine oper_store rfl rfl rfl rfl rfl hB (by kernel_rfl) rfl (by intro u hu; simp only [List.mem_cons, List.not_mem_nil, or_false] at hu; rcases hu with rfl | rfl | rfl | rfl | rfl | rfl | rfl | rfl | rfl <;> rfl) ?_
        obtain ⟨X6, hY⟩ : ∃ y, X5.setRow gB #[.int .i64 bStateNum, .int .i64 bStateShapeBlocks, .int .i64 bStateShapeSize, .slice bStatePagesA bStatePagesn bStatePagesc, .slice bStateRowsA bStateRowsn bStateRowsc, .int .i64 bStateGroupEpoch, .slice bStateGroupMembersA bStateGroupMembersn bStateGroupMembersc, .slice bLogA bLogn bLogc, .int .i64 bNormal] = y := ⟨_, rfl⟩
        have hB6 : Below w0.heap.size w0 X6 := by rw [← hY]; exact below_setRow hB5 gBle _
        have hA' := hA.apartAll (by first | exact gAgB | exact Ne.symm gBgA) [.int .i64 bStateNum, .int .i64 bStateShapeBlocks, .int .i64 bStateShapeSize, .slice bStatePagesA bStatePagesn bStatePagesc, .slice bStateRowsA bStateRowsn bStateRowsc, .int .i64 bStateGroupEpoch, .slice bStateGroupMembersA bStateGroupMembersn bStateGroupMembersc, .slice bLogA bLogn bLogc, .int .i64 bNormal]
        rw [hY] at hA'
        clear hA
        have hA := hA'
        clear hA'
        have hB' : Blk X6 gB [.int .i64 bStateNum, .int .i64 bStateShapeBlocks, .int .i64 bStateShapeSize, .slice bStatePagesA bStatePagesn bStatePagesc, .slice bStateRowsA bStateRowsn bStateRowsc, .int .i64 bStateGroupEpoch, .slice bStateGroupMembersA bStateGroupMembersn bStateGroupMembersc, .slice bLogA bLogn bLogc, .int .i64 bNormal] 70 := by rw [← hY]; exact hB.setAll [.int .i64 bStateNum, .int .i64 bStateShapeBlocks, .int .i64 bStateShapeSize, .slice bStatePagesA bStatePagesn bStatePagesc, .slice bStateRowsA bStateRowsn bStateRowsc, .int .i64 bStateGroupEpoch, .slice bStateGroupMembersA bStateGroupMembersn bStateGroupMembersc, .slice bLogA bLogn bLogc, .int .i64 bNormal]
        clear hB
        have hB := hB'
        clear hB'
        try rw [hY]
        clear hY
        refine hK _ _ ⟨hB6, ?_⟩
        clear hK Kk
        refine wpAnyH_done (by kernel_rfl) ?_ _
        try simp only [Act.put, List.setIfInBounds_toArray, List.set_cons_zero, List.set_cons_succ, List.getElem_toArray, List.getElem_cons_zero, List.getElem_cons_succ]
        go_wp2_with fail
        go_meet
        case rel => exact ⟨gA, gB, rfl, rfl, hA, hB, hB6⟩
    · obtain ⟨gB, hgB⟩ : ∃ y, X0.heap.size = y := ⟨_, rfl⟩
      obtain ⟨X1, hY⟩ : ∃ y, X0.alloc (.cells #[.int .i64 0, .int .i64 0, .int .i64 0, .slice none 0 0, .slice none 0 0, .int .i64 0, .slice none 0 0, .slice none 0 0, .int .i64 0] 70) = y := ⟨_, rfl⟩
      have hB : Blk X1 gB [.int .i64 0, .int .i64 0, .int .i64 0, .slice none 0 0, .slice none 0 0, .int .i64 0, .slice none 0 0, .slice none 0 0, .int .i64 0] 70 := by rw [← hY, ← hgB]; exact Blk.new X0 [.int .i64 0, .int .i64 0, .int .i64 0, .slice none 0 0, .slice none 0 0, .int .i64 0, .slice none 0 0, .slice none 0 0, .int .i64 0] _
      have hst : Below X0.heap.size X0 X1 := by rw [← hY]; exact (Below.refl _ _).alloc (Nat.le_refl _) _
      have hB1 := hB0.trans (hst.mono hB0.size)
      have gBle : w0.heap.size ≤ gB := by have := hB0.size; omega
      go_simp
      try rw [hY]
      try rw [hgB]
      clear hY hst hgB
      refine hK _ _ ⟨hB1, ?_⟩
      clear hK Kk
      refine all_two (fuel := 4) (i := 1) (j := 4) (by kernel_rfl) rfl rfl rfl rfl (fun Kk hK => ?_) (fun Kk hK => ?_) 
      · go_simp
        refine (HA.out X1 hB1).mono ?_
        rintro e' X2 ⟨rfl, hst⟩
        have hB2 := hB1.trans (hst.mono hB1.size)
        replace hB := hB.below hst
        clear hst
        refine hK _ _ ⟨hB2, ?_⟩
        clear hK Kk
        refine all_two (fuel := 3) (i := 3) (j := 4) (by kernel_rfl) rfl rfl rfl rfl (fun Kk hK => ?_) (fun Kk hK => ?_) 
        · go_simp
          refine (HB.out X2 hB2).mono ?_
          rintro e' X3 ⟨rfl, hst⟩
          have hB3 := hB2.trans (hst.mono hB2.size)
          replace hB := hB.below hst
          clear hst
          refine hK _ _ ⟨hB3, ?_⟩
          clear hK Kk
          refine all_one (fuel := 2) (i := 4) (by kernel_rfl) rfl rfl (fun Kk hK => ?_)
          obtain ⟨gA, hgA⟩ : ∃ y, X3.heap.size = y := ⟨_, rfl⟩
          obtain ⟨X4, hY⟩ : ∃ y, X3.alloc (.cells #[.int .i64 0, .int .i64 0, .int .i64 0, .slice none 0 0, .slice none 0 0, .int .i64 0, .slice none 0 0, .slice none 0 0, .int .i64 0] 70) = y := ⟨_, rfl⟩
          have hA : Blk X4 gA [.int .i64 0, .int .i64 0, .int .i64 0, .slice none 0 0, .slice none 0 0, .int .i64 0, .slice none 0 0, .slice none 0 0, .int .i64 0] 70 := by rw [← hY, ← hgA]; exact Blk.new X3 [.int .i64 0, .int .i64 0, .int .i64 0, .slice none 0 0, .slice none 0 0, .int .i64 0, .slice none 0 0, .slice none 0 0, .int .i64 0] _
          have hst : Below X3.heap.size X3 X4 := by rw [← hY]; exact (Below.refl _ _).alloc (Nat.le_refl _) _
          have hB4 := hB3.trans (hst.mono hB3.size)
          have gAle : w0.heap.size ≤ gA := by have := hB3.size; omega
          have gBgA : gB ≠ gA := by have := hB.lt; omega
          replace hB := hB.below hst
          go_simp
          try rw [hY]
          try rw [hgA]
          clear hY hst hgA
          refine hK _ _ ⟨hB4, ?_⟩
          clear hK Kk
          refine all_one (fuel := 1) (i := 6) (by kernel_rfl) rfl rfl (fun Kk hK => ?_)
          refine oper_store rfl rfl rfl rfl rfl hA (by kernel_rfl) rfl (by intro u hu; simp only [List.mem_cons, List.not_mem_nil, or_false] at hu; rcases hu with rfl | rfl | rfl | rfl | rfl | rfl | rfl | rfl | rfl <;> rfl) ?_
          obtain ⟨X5, hY⟩ : ∃ y, X4.setRow gA #[.int .i64 aStateNum, .int .i64 aStateShapeBlocks, .int .i64 aStateShapeSize, .slice aStatePagesA aStatePagesn aStatePagesc, .slice aStateRowsA aStateRowsn aStateRowsc, .int .i64 aStateGroupEpoch, .slice aStateGroupMembersA aStateGroupMembersn aStateGroupMembersc, .slice aLogA aLogn aLogc, .int .i64 aNormal] = y := ⟨_, rfl⟩
          have hB5 : Below w0.heap.size w0 X5 := by rw [← hY]; exact below_setRow hB4 gAle _
          have hB' := hB.apartAll (by first | exact gBgA | exact Ne.symm gAgB) [.int .i64 aStateNum, .int .i64 aStateShapeBlocks, .int .i64 aStateShapeSize, .slice aStatePagesA aStatePagesn aStatePagesc, .slice aStateRowsA aStateRowsn aStateRowsc, .int .i64 aStateGroupEpoch, .slice aStateGroupMembersA aStateGroupMembersn aStateGroupMembersc, .slice aLogA aLogn aLogc, .int .i64 aNormal]
          rw [hY] at hB'
          clear hB
          have hB := hB'
          clear hB'
          have hA' : Blk X5 gA [.int .i64 aStateNum, .int .i64 aStateShapeBlocks, .int .i64 aStateShapeSize, .slice aStatePagesA aStatePagesn aStatePagesc, .slice aStateRowsA aStateRowsn aStateRowsc, .int .i64 aStateGroupEpoch, .slice aStateGroupMembersA aStateGroupMembersn aStateGroupMembersc, .slice aLogA aLogn aLogc, .int .i64 aNormal] 70 := by rw [← hY]; exact hA.setAll [.int .i64 aStateNum, .int .i64 aStateShapeBlocks, .int .i64 aStateShapeSize, .slice aStatePagesA aStatePagesn aStatePagesc, .slice aStateRowsA aStateRowsn aStateRowsc, .int .i64 aStateGroupEpoch, .slice aStateGroupMembersA aStateGroupMembersn aStateGroupMembersc, .slice aLogA aLogn aLogc, .int .i64 aNormal]
          clear hA
          have hA := hA'
          clear hA'
          try rw [hY]
          clear hY
          refine hK _ _ ⟨hB5, ?_⟩
          clear hK Kk
          refine all_one (fuel := 0) (i := 7) (by kernel_rfl) rfl rfl (fun Kk hK => ?_)
          refine oper_store rfl rfl rfl rfl rfl hB (by kernel_rfl) rfl (by intro u hu; simp only [List.mem_cons, List.not_mem_nil, or_false] at hu; rcases hu with rfl | rfl | rfl | rfl | rfl | rfl | rfl | rfl | rfl <;> rfl) ?_
          obtain ⟨X6, hY⟩ : ∃ y, X5.setRow gB #[.int .i64 bStateNum, .int .i64 bStateShapeBlocks, .int .i64 bStateShapeSize, .slice bStatePagesA bStatePagesn bStatePagesc, .slice bStateRowsA bStateRowsn bStateRowsc, .int .i64 bStateGroupEpoch, .slice bStateGroupMembersA bStateGroupMembersn bStateGroupMembersc, .slice bLogA bLogn bLogc, .int .i64 bNormal] = y := ⟨_, rfl⟩
          have hB6 : Below w0.heap.size w0 X6 := by rw [← hY]; exact below_setRow hB5 gBle _
          have hB' : Blk X6 gB [.int .i64 bStateNum, .int .i64 bStateShapeBlocks, .int .i64 bStateShapeSize, .slice bStatePagesA bStatePagesn bStatePagesc, .slice bStateRowsA bStateRowsn bStateRowsc, .int .i64 bStateGroupEpoch, .slice bStateGroupMembersA bStateGroupMembersn bStateGroupMembersc, .slice bLogA bLogn bLogc, .int .i64 bNormal] 70 := by rw [← hY]; exact hB.setAll [.int .i64 bStateNum, .int .i64 bStateShapeBlocks, .int .i64 bStateShapeSize, .slice bStatePagesA bStatePagesn bStatePagesc, .slice bStateRowsA bStateRowsn bStateRowsc, .int .i64 bStateGroupEpoch, .slice bStateGroupMembersA bStateGroupMembersn bStateGroupMembersc, .slice bLogA bLogn bLogc, .int .i64 bNormal]
          have hA' := hA.apartAll (by first | exact gAgB | exact Ne.symm gBgA) [.int .i64 bStateNum, .int .i64 bStateShapeBlocks, .int .i64 bStateShapeSize, .slice bStatePagesA bStatePagesn bStatePagesc, .slice bStateRowsA bStateRowsn bStateRowsc, .int .i64 bStateGroupEpoch, .slice bStateGroupMembersA bStateGroupMembersn bStateGroupMembersc, .slice bLogA bLogn bLogc, .int .i64 bNormal]
          rw [hY] at hA'
          clear hA
          have hA := hA'
          clear hA'
          clear hB
          have hB := hB'
          clear hB'
          try rw [hY]
          clear hY
          refine hK _ _ ⟨hB6, ?_⟩
          clear hK Kk
          refine wpAnyH_done (by kernel_rfl) ?_ _
          try simp only [Act.put, List.setIfInBounds_toArray, List.set_cons_zero, List.set_cons_succ, List.getElem_toArray, List.getElem_cons_zero, List.getElem_cons_succ]
          go_wp2_with fail
          go_meet
          case rel => exact ⟨gA, gB, rfl, rfl, hA, hB, hB6⟩
        · obtain ⟨gA, hgA⟩ : ∃ y, X2.heap.size = y := ⟨_, rfl⟩
          obtain ⟨X3, hY⟩ : ∃ y, X2.alloc (.cells #[.int .i64 0, .int .i64 0, .int .i64 0, .slice none 0 0, .slice none 0 0, .int .i64 0, .slice none 0 0, .slice none 0 0, .int .i64 0] 70) = y := ⟨_, rfl⟩
          have hA : Blk X3 gA [.int .i64 0, .int .i64 0, .int .i64 0, .slice none 0 0, .slice none 0 0, .int .i64 0, .slice none 0 0, .slice none 0 0, .int .i64 0] 70 := by rw [← hY, ← hgA]; exact Blk.new X2 [.int .i64 0, .int .i64 0, .int .i64 0, .slice none 0 0, .slice none 0 0, .int .i64 0, .slice none 0 0, .slice none 0 0, .int .i64 0] _
          have hst : Below X2.heap.size X2 X3 := by rw [← hY]; exact (Below.refl _ _).alloc (Nat.le_refl _) _
          have hB3 := hB2.trans (hst.mono hB2.size)
          have gAle : w0.heap.size ≤ gA := by have := hB2.size; omega
          have gBgA : gB ≠ gA := by have := hB.lt; omega
          replace hB := hB.below hst
          go_simp
          try rw [hY]
          try rw [hgA]
          clear hY hst hgA
          refine hK _ _ ⟨hB3, ?_⟩
          clear hK Kk
          refine all_one (fuel := 2) (i := 3) (by kernel_rfl) rfl rfl (fun Kk hK => ?_)
          go_simp
          refine (HB.out X3 hB3).mono ?_
          rintro e' X4 ⟨rfl, hst⟩
          have hB4 := hB3.trans (hst.mono hB3.size)
          replace hB := hB.below hst
          replace hA := hA.below hst
          clear hst
          refine hK _ _ ⟨hB4, ?_⟩
          clear hK Kk
          refine all_one (fuel := 1) (i := 6) (by kernel_rfl) rfl rfl (fun Kk hK => ?_)
          refine oper_store rfl rfl rfl rfl rfl hA (by kernel_rfl) rfl (by intro u hu; simp only [List.mem_cons, List.not_mem_nil, or_false] at hu; rcases hu with rfl | rfl | rfl | rfl | rfl | rfl | rfl | rfl | rfl <;> rfl) ?_
          obtain ⟨X5, hY⟩ : ∃ y, X4.setRow gA #[.int .i64 aStateNum, .int .i64 aStateShapeBlocks, .int .i64 aStateShapeSize, .slice aStatePagesA aStatePagesn aStatePagesc, .slice aStateRowsA aStateRowsn aStateRowsc, .int .i64 aStateGroupEpoch, .slice aStateGroupMembersA aStateGroupMembersn aStateGroupMembersc, .slice aLogA aLogn aLogc, .int .i64 aNormal] = y := ⟨_, rfl⟩
          have hB5 : Below w0.heap.size w0 X5 := by rw [← hY]; exact below_setRow hB4 gAle _
          have hB' := hB.apartAll (by first | exact gBgA | exact Ne.symm gAgB) [.int .i64 aStateNum, .int .i64 aStateShapeBlocks, .int .i64 aStateShapeSize, .slice aStatePagesA aStatePagesn aStatePagesc, .slice aStateRowsA aStateRowsn aStateRowsc, .int .i64 aStateGroupEpoch, .slice aStateGroupMembersA aStateGroupMembersn aStateGroupMembersc, .slice aLogA aLogn aLogc, .int .i64 aNormal]
          rw [hY] at hB'
          clear hB
          have hB := hB'
          clear hB'
          have hA' : Blk X5 gA [.int .i64 aStateNum, .int .i64 aStateShapeBlocks, .int .i64 aStateShapeSize, .slice aStatePagesA aStatePagesn aStatePagesc, .slice aStateRowsA aStateRowsn aStateRowsc, .int .i64 aStateGroupEpoch, .slice aStateGroupMembersA aStateGroupMembersn aStateGroupMembersc, .slice aLogA aLogn aLogc, .int .i64 aNormal] 70 := by rw [← hY]; exact hA.setAll [.int .i64 aStateNum, .int .i64 aStateShapeBlocks, .int .i64 aStateShapeSize, .slice aStatePagesA aStatePagesn aStatePagesc, .slice aStateRowsA aStateRowsn aStateRowsc, .int .i64 aStateGroupEpoch, .slice aStateGroupMembersA aStateGroupMembersn aStateGroupMembersc, .slice aLogA aLogn aLogc, .int .i64 aNormal]
          clear hA
          have hA := hA'
          clear hA'
          try rw [hY]
          clear hY
          refine hK _ _ ⟨hB5, ?_⟩
          clear hK Kk
          refine all_one (fuel := 0) (i := 7) (by kernel_rfl) rfl rfl (fun Kk hK => ?_)
          refine oper_store rfl rfl rfl rfl rfl hB (by kernel_rfl) rfl (by intro u hu; simp only [List.mem_cons, List.not_mem_nil, or_false] at hu; rcases hu with rfl | rfl | rfl | rfl | rfl | rfl | rfl | rfl | rfl <;> rfl) ?_
          obtain ⟨X6, hY⟩ : ∃ y, X5.setRow gB #[.int .i64 bStateNum, .int .i64 bStateShapeBlocks, .int .i64 bStateShapeSize, .slice bStatePagesA bStatePagesn bStatePagesc, .slice bStateRowsA bStateRowsn bStateRowsc, .int .i64 bStateGroupEpoch, .slice bStateGroupMembersA bStateGroupMembersn bStateGroupMembersc, .slice bLogA bLogn bLogc, .int .i64 bNormal] = y := ⟨_, rfl⟩
          have hB6 : Below w0.heap.size w0 X6 := by rw [← hY]; exact below_setRow hB5 gBle _
          have hB' : Blk X6 gB [.int .i64 bStateNum, .int .i64 bStateShapeBlocks, .int .i64 bStateShapeSize, .slice bStatePagesA bStatePagesn bStatePagesc, .slice bStateRowsA bStateRowsn bStateRowsc, .int .i64 bStateGroupEpoch, .slice bStateGroupMembersA bStateGroupMembersn bStateGroupMembersc, .slice bLogA bLogn bLogc, .int .i64 bNormal] 70 := by rw [← hY]; exact hB.setAll [.int .i64 bStateNum, .int .i64 bStateShapeBlocks, .int .i64 bStateShapeSize, .slice bStatePagesA bStatePagesn bStatePagesc, .slice bStateRowsA bStateRowsn bStateRowsc, .int .i64 bStateGroupEpoch, .slice bStateGroupMembersA bStateGroupMembersn bStateGroupMembersc, .slice bLogA bLogn bLogc, .int .i64 bNormal]
          have hA' := hA.apartAll (by first | exact gAgB | exact Ne.symm gBgA) [.int .i64 bStateNum, .int .i64 bStateShapeBlocks, .int .i64 bStateShapeSize, .slice bStatePagesA bStatePagesn bStatePagesc, .slice bStateRowsA bStateRowsn bStateRowsc, .int .i64 bStateGroupEpoch, .slice bStateGroupMembersA bStateGroupMembersn bStateGroupMembersc, .slice bLogA bLogn bLogc, .int .i64 bNormal]
          rw [hY] at hA'
          clear hA
          have hA := hA'
          clear hA'
          clear hB
          have hB := hB'
          clear hB'
          try rw [hY]
          clear hY
          refine hK _ _ ⟨hB6, ?_⟩
          clear hK Kk
          refine wpAnyH_done (by kernel_rfl) ?_ _
          try simp only [Act.put, List.setIfInBounds_toArray, List.set_cons_zero, List.set_cons_succ, List.getElem_toArray, List.getElem_cons_zero, List.getElem_cons_succ]
          go_wp2_with fail
          go_meet
          case rel => exact ⟨gA, gB, rfl, rfl, hA, hB, hB6⟩
      · obtain ⟨gA, hgA⟩ : ∃ y, X1.heap.size = y := ⟨_, rfl⟩
        obtain ⟨X2, hY⟩ : ∃ y, X1.alloc (.cells #[.int .i64 0, .int .i64 0, .int .i64 0, .slice none 0 0, .slice none 0 0, .int .i64 0, .slice none 0 0, .slice none 0 0, .int .i64 0] 70) = y := ⟨_, rfl⟩
        have hA : Blk X2 gA [.int .i64 0, .int .i64 0, .int .i64 0, .slice none 0 0, .slice none 0 0, .int .i64 0, .slice none 0 0, .slice none 0 0, .int .i64 0] 70 := by rw [← hY, ← hgA]; exact Blk.new X1 [.int .i64 0, .int .i64 0, .int .i64 0, .slice none 0 0, .slice none 0 0, .int .i64 0, .slice none 0 0, .slice none 0 0, .int .i64 0] _
        have hst : Below X1.heap.size X1 X2 := by rw [← hY]; exact (Below.refl _ _).alloc (Nat.le_refl _) _
        have hB2 := hB1.trans (hst.mono hB1.size)
        have gAle : w0.heap.size ≤ gA := by have := hB1.size; omega
        have gBgA : gB ≠ gA := by have := hB.lt; omega
        replace hB := hB.below hst
        go_simp
        try rw [hY]
        try rw [hgA]
        clear hY hst hgA
        refine hK _ _ ⟨hB2, ?_⟩
        clear hK Kk
        refine all_one (fuel := 3) (i := 1) (by kernel_rfl) rfl rfl (fun Kk hK => ?_)
        go_simp
        refine (HA.out X2 hB2).mono ?_
        rintro e' X3 ⟨rfl, hst⟩
        have hB3 := hB2.trans (hst.mono hB2.size)
        replace hB := hB.below hst
        replace hA := hA.below hst
        clear hst
        refine hK _ _ ⟨hB3, ?_⟩
        clear hK Kk
        refine all_one (fuel := 2) (i := 3) (by kernel_rfl) rfl rfl (fun Kk hK => ?_)
        go_simp
        refine (HB.out X3 hB3).mono ?_
        rintro e' X4 ⟨rfl, hst⟩
        have hB4 := hB3.trans (hst.mono hB3.size)
        replace hB := hB.below hst
        replace hA := hA.below hst
        clear hst
        refine hK _ _ ⟨hB4, ?_⟩
        clear hK Kk
        refine all_one (fuel := 1) (i := 6) (by kernel_rfl) rfl rfl (fun Kk hK => ?_)
        refine oper_store rfl rfl rfl rfl rfl hA (by kernel_rfl) rfl (by intro u hu; simp only [List.mem_cons, List.not_mem_nil, or_false] at hu; rcases hu with rfl | rfl | rfl | rfl | rfl | rfl | rfl | rfl | rfl <;> rfl) ?_
        obtain ⟨X5, hY⟩ : ∃ y, X4.setRow gA #[.int .i64 aStateNum, .int .i64 aStateShapeBlocks, .int .i64 aStateShapeSize, .slice aStatePagesA aStatePagesn aStatePagesc, .slice aStateRowsA aStateRowsn aStateRowsc, .int .i64 aStateGroupEpoch, .slice aStateGroupMembersA aStateGroupMembersn aStateGroupMembersc, .slice aLogA aLogn aLogc, .int .i64 aNormal] = y := ⟨_, rfl⟩
        have hB5 : Below w0.heap.size w0 X5 := by rw [← hY]; exact below_setRow hB4 gAle _
        have hB' := hB.apartAll (by first | exact gBgA | exact Ne.symm gAgB) [.int .i64 aStateNum, .int .i64 aStateShapeBlocks, .int .i64 aStateShapeSize, .slice aStatePagesA aStatePagesn aStatePagesc, .slice aStateRowsA aStateRowsn aStateRowsc, .int .i64 aStateGroupEpoch, .slice aStateGroupMembersA aStateGroupMembersn aStateGroupMembersc, .slice aLogA aLogn aLogc, .int .i64 aNormal]
        rw [hY] at hB'
        clear hB
        have hB := hB'
        clear hB'
        have hA' : Blk X5 gA [.int .i64 aStateNum, .int .i64 aStateShapeBlocks, .int .i64 aStateShapeSize, .slice aStatePagesA aStatePagesn aStatePagesc, .slice aStateRowsA aStateRowsn aStateRowsc, .int .i64 aStateGroupEpoch, .slice aStateGroupMembersA aStateGroupMembersn aStateGroupMembersc, .slice aLogA aLogn aLogc, .int .i64 aNormal] 70 := by rw [← hY]; exact hA.setAll [.int .i64 aStateNum, .int .i64 aStateShapeBlocks, .int .i64 aStateShapeSize, .slice aStatePagesA aStatePagesn aStatePagesc, .slice aStateRowsA aStateRowsn aStateRowsc, .int .i64 aStateGroupEpoch, .slice aStateGroupMembersA aStateGroupMembersn aStateGroupMembersc, .slice aLogA aLogn aLogc, .int .i64 aNormal]
        clear hA
        have hA := hA'
        clear hA'
        try rw [hY]
        clear hY
        refine hK _ _ ⟨hB5, ?_⟩
        clear hK Kk
        refine all_one (fuel := 0) (i := 7) (by kernel_rfl) rfl rfl (fun Kk hK => ?_)
        refine oper_store rfl rfl rfl rfl rfl hB (by kernel_rfl) rfl (by intro u hu; simp only [List.mem_cons, List.not_mem_nil, or_false] at hu; rcases hu with rfl | rfl | rfl | rfl | rfl | rfl | rfl | rfl | rfl <;> rfl) ?_
        obtain ⟨X6, hY⟩ : ∃ y, X5.setRow gB #[.int .i64 bStateNum, .int .i64 bStateShapeBlocks, .int .i64 bStateShapeSize, .slice bStatePagesA bStatePagesn bStatePagesc, .slice bStateRowsA bStateRowsn bStateRowsc, .int .i64 bStateGroupEpoch, .slice bStateGroupMembersA bStateGroupMembersn bStateGroupMembersc, .slice bLogA bLogn bLogc, .int .i64 bNormal] = y := ⟨_, rfl⟩
        have hB6 : Below w0.heap.size w0 X6 := by rw [← hY]; exact below_setRow hB5 gBle _
        have hB' : Blk X6 gB [.int .i64 bStateNum, .int .i64 bStateShapeBlocks, .int .i64 bStateShapeSize, .slice bStatePagesA bStatePagesn bStatePagesc, .slice bStateRowsA bStateRowsn bStateRowsc, .int .i64 bStateGroupEpoch, .slice bStateGroupMembersA bStateGroupMembersn bStateGroupMembersc, .slice bLogA bLogn bLogc, .int .i64 bNormal] 70 := by rw [← hY]; exact hB.setAll [.int .i64 bStateNum, .int .i64 bStateShapeBlocks, .int .i64 bStateShapeSize, .slice bStatePagesA bStatePagesn bStatePagesc, .slice bStateRowsA bStateRowsn bStateRowsc, .int .i64 bStateGroupEpoch, .slice bStateGroupMembersA bStateGroupMembersn bStateGroupMembersc, .slice bLogA bLogn bLogc, .int .i64 bNormal]
        have hA' := hA.apartAll (by first | exact gAgB | exact Ne.symm gBgA) [.int .i64 bStateNum, .int .i64 bStateShapeBlocks, .int .i64 bStateShapeSize, .slice bStatePagesA bStatePagesn bStatePagesc, .slice bStateRowsA bStateRowsn bStateRowsc, .int .i64 bStateGroupEpoch, .slice bStateGroupMembersA bStateGroupMembersn bStateGroupMembersc, .slice bLogA bLogn bLogc, .int .i64 bNormal]
        rw [hY] at hA'
        clear hA
        have hA := hA'
        clear hA'
        clear hB
        have hB := hB'
        clear hB'
        try rw [hY]
        clear hY
        refine hK _ _ ⟨hB6, ?_⟩
        clear hK Kk
        refine wpAnyH_done (by kernel_rfl) ?_ _
        try simp only [Act.put, List.setIfInBounds_toArray, List.set_cons_zero, List.set_cons_succ, List.getElem_toArray, List.getElem_cons_zero, List.getElem_cons_succ]
        go_wp2_with fail
        go_meet
        case rel => exact ⟨gA, gB, rfl, rfl, hA, hB, hB6⟩

  case rest =>
    obtain ⟨gA, gB, rfl, rfl, hA, hB, hbc⟩ := hcut
    have hLa := tl_led (hTa0.below hbc)
    have hLb := tl_led (hTb0.below hbc)
    simp only [List.drop_succ_cons, List.drop_zero] at hLa hLb
    have hb0c := hb0.trans (hbc.mono hb0.size)
    clear y0 y1 y2 y3 y4 y5 y6 y7 y8 y9 y10 z0 z1 z2 z3 z4 z5 z6 z7 z8 z9 z10 HA HB hP hR hTa0 hTb0 lp lr
    have y0 := Blk.cell hA (j := 0) rfl; have y1 := Blk.cell hA (j := 1) rfl; have y2 := Blk.cell hA (j := 2) rfl; have y3 := Blk.cell hA (j := 3) rfl; have y4 := Blk.cell hA (j := 4) rfl; have y5 := Blk.cell hA (j := 5) rfl; have y6 := Blk.cell hA (j := 6) rfl; have y7 := Blk.cell hA (j := 7) rfl; have y8 := Blk.cell hA (j := 8) rfl
    have z0 := Blk.cell hB (j := 0) rfl; have z1 := Blk.cell hB (j := 1) rfl; have z2 := Blk.cell hB (j := 2) rfl; have z3 := Blk.cell hB (j := 3) rfl; have z4 := Blk.cell hB (j := 4) rfl; have z5 := Blk.cell hB (j := 5) rfl; have z6 := Blk.cell hB (j := 6) rfl; have z7 := Blk.cell hB (j := 7) rfl; have z8 := Blk.cell hB (j := 8) rfl
    obtain ⟨LA, hLA⟩ : ∃ L, lastW (tlL (aNode, aNormal, aCommit, (aStateNum, (aStateShapeBlocks, aStateShapeSize), aStatePages, aStateRows, (aStateGroupEpoch, aStateGroupMembers)), aLog)) = L := ⟨_, rfl⟩
    obtain ⟨LB, hLB⟩ : ∃ L, lastW (tlL (bNode, bNormal, bCommit, (bStateNum, (bStateShapeBlocks, bStateShapeSize), bStatePages, bStateRows, (bStateGroupEpoch, bStateGroupMembers)), bLog)) = L := ⟨_, rfl⟩
    have HLA := hide hLA
    have HLB := hide hLB
    have HQ := hide (show betB (aNode, aNormal, aCommit, (aStateNum, (aStateShapeBlocks, aStateShapeSize), aStatePages, aStateRows, (aStateGroupEpoch, aStateGroupMembers)), aLog) (bNode, bNormal, bCommit, (bStateNum, (bStateShapeBlocks, bStateShapeSize), bStatePages, bStateRows, (bStateGroupEpoch, bStateGroupMembers)), bLog) = (decide (bNormal < aNormal) || ((aNormal == bNormal) && decide (LB < LA))) by rw [← hLA, ← hLB]; rfl)
    clear hLA hLB
    rcases bool_two (aNormal == bNormal) with q | q
    · have HR := hide (show betB (aNode, aNormal, aCommit, (aStateNum, (aStateShapeBlocks, aStateShapeSize), aStatePages, aStateRows, (aStateGroupEpoch, aStateGroupMembers)), aLog) (bNode, bNormal, bCommit, (bStateNum, (bStateShapeBlocks, bStateShapeSize), bStatePages, bStateRows, (bStateGroupEpoch, bStateGroupMembers)), bLog) = decide (LB < LA) by
        rw [HQ.out, q, Bool.true_and, decide_eq_false (by have := beq_iff_eq.1 q; omega), Bool.false_or])
      have q2 : (aNormal != bNormal) = false := by simp only [bne, q]; rfl
      have u0 := fun (x : InC (fun W' => Below wc.heap.size wc W')) => below_cell x.h y0
      have u1 := fun (x : InC (fun W' => Below wc.heap.size wc W')) => below_cell x.h y1
      have u2 := fun (x : InC (fun W' => Below wc.heap.size wc W')) => below_cell x.h y2
      have u3 := fun (x : InC (fun W' => Below wc.heap.size wc W')) => below_cell x.h y3
      have u4 := fun (x : InC (fun W' => Below wc.heap.size wc W')) => below_cell x.h y4
      have u5 := fun (x : InC (fun W' => Below wc.heap.size wc W')) => below_cell x.h y5
      have u6 := fun (x : InC (fun W' => Below wc.heap.size wc W')) => below_cell x.h y6
      have u7 := fun (x : InC (fun W' => Below wc.heap.size wc W')) => below_cell x.h y7
      have u8 := fun (x : InC (fun W' => Below wc.heap.size wc W')) => below_cell x.h y8
      have v0 := fun (x : InC (fun W' => Below wc.heap.size wc W')) => below_cell x.h z0
      have v1 := fun (x : InC (fun W' => Below wc.heap.size wc W')) => below_cell x.h z1
      have v2 := fun (x : InC (fun W' => Below wc.heap.size wc W')) => below_cell x.h z2
      have v3 := fun (x : InC (fun W' => Below wc.heap.size wc W')) => below_cell x.h z3
      have v4 := fun (x : InC (fun W' => Below wc.heap.size wc W')) => below_cell x.h z4
      have v5 := fun (x : InC (fun W' => Below wc.heap.size wc W')) => below_cell x.h z5
      have v6 := fun (x : InC (fun W' => Below wc.heap.size wc W')) => below_cell x.h z6
      have v7 := fun (x : InC (fun W' => Below wc.heap.size wc W')) => below_cell x.h z7
      have v8 := fun (x : InC (fun W' => Below wc.heap.size wc W')) => below_cell x.h z8
      clear q HQ
      go_wp2_with fail
      refine wp_region_in (fun W' => Below wc.heap.size wc W') (Below.refl _ _).drew (by kernel_rfl) (by kernel_rfl) ?_
      repeat (go_big_quiet_step (first
        | (go_at_call_of 32 (Value.agg #[.int .i64 aStateNum, .int .i64 aStateShapeBlocks, .int .i64 aStateShapeSize, .slice aStatePagesA aStatePagesn aStatePagesc, .slice aStateRowsA aStateRowsn aStateRowsc, .int .i64 aStateGroupEpoch, .slice aStateGroupMembersA aStateGroupMembersn aStateGroupMembersc, .slice aLogA aLogn aLogc, .int .i64 aNormal]); have hh := fun (x : InC (fun W' => Below wc.heap.size wc W')) => lyLast_any aNormal (hLa.below x.h); simp only [List.cons_append, List.nil_append] at hh; rw [HLA.out] at hh; exact Calls.in_below (hh _))
        | (go_at_call_of 32 (Value.agg #[.int .i64 bStateNum, .int .i64 bStateShapeBlocks, .int .i64 bStateShapeSize, .slice bStatePagesA bStatePagesn bStatePagesc, .slice bStateRowsA bStateRowsn bStateRowsc, .int .i64 bStateGroupEpoch, .slice bStateGroupMembersA bStateGroupMembersn bStateGroupMembersc, .slice bLogA bLogn bLogc, .int .i64 bNormal]); have hh := fun (x : InC (fun W' => Below wc.heap.size wc W')) => lyLast_any bNormal (hLb.below x.h); simp only [List.cons_append, List.nil_append] at hh; rw [HLB.out] at hh; exact Calls.in_below (hh _))))
      refine wpQuiet_nil ?_
      intro _ hw'
      obtain ⟨nq, hw''⟩ := hw'
      subst hw''
      have hbq := nq.h
      go_wp2
      go_ret
      exact ⟨by rw [HR.out]; rfl, hb0c.trans (hbq.mono hb0c.size)⟩
    · have HR := hide (show betB (aNode, aNormal, aCommit, (aStateNum, (aStateShapeBlocks, aStateShapeSize), aStatePages, aStateRows, (aStateGroupEpoch, aStateGroupMembers)), aLog) (bNode, bNormal, bCommit, (bStateNum, (bStateShapeBlocks, bStateShapeSize), bStatePages, bStateRows, (bStateGroupEpoch, bStateGroupMembers)), bLog) = decide (bNormal < aNormal) by rw [HQ.out, q, Bool.false_and, Bool.or_false])
      have q2 : (aNormal != bNormal) = true := by simp only [bne, q]; rfl
      clear q HQ hLa hLb
      go_wp2
      go_ret
      exact ⟨by rw [HR.out]; rfl, hb0c⟩
end Go.Proofs.Ytfjffmjnnjckkaa
