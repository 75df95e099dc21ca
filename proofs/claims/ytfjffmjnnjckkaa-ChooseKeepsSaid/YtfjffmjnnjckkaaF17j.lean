/- Stage 17: holds (written by gen_17j.py). -/
import Derived.Test.YtfjffmjnnjckkaaF17i
import Derived.Test.YtfjffmjnnjckkaaOrd
import Derived.Deep.CutRange
namespace Go.Proofs.Ytfjffmjnnjckkaa
set_option maxRecDepth 20000
open Go.RowKit Go.Px Go.Maps
set_option linter.unusedVariables false
set_option linter.unusedSimpArgs false
set_option maxRecDepth 20000 in
set_option maxHeartbeats 12800000 in
theorem holds_any {w : World} {Q Q' : Nat → Prop} {x : TailD} {y : EntryD} {cs ds : List Value} (h : tyTail.Is w Q x cs) (h' : tyEntry.Is w Q' y ds) : Calls Try.prog 25 #[.agg cs.toArray, .agg ds.toArray] w fun e w' => e = .returned (.bool (hasB x y)) ∧ Below w.heap.size w w' := by
  have hT := h
  have hE9 := h'
  obtain ⟨tNode, tNormal, tCommit, tStateNum, tStateShapeBlocks, tStateShapeSize, tStatePages, tStatePagesA, tStatePagesn, tStatePagesc, tStatePagesv, tStateRows, tStateRowsA, tStateRowsn, tStateRowsc, tStateRowsv, tStateGroupEpoch, tStateGroupMembers, tStateGroupMembersA, tStateGroupMembersn, tStateGroupMembersc, tStateGroupMembersv, tLog, tLogA, tLogn, tLogc, tLogv, rfl, rfl, h1_tNode, h2_tNode, h1_tNormal, h2_tNormal, h1_tCommit, h2_tCommit, h1_tStateNum, h2_tStateNum, h1_tStateShapeBlocks, h2_tStateShapeBlocks, h1_tStateShapeSize, h2_tStateShapeSize, hl_tStatePages, hc_tStatePages, hm_tStatePages, hr_tStatePages, hq_tStatePages, he_tStatePages, hl_tStateRows, hc_tStateRows, hm_tStateRows, hr_tStateRows, hq_tStateRows, he_tStateRows, h1_tStateGroupEpoch, h2_tStateGroupEpoch, hl_tStateGroupMembers, hc_tStateGroupMembers, hm_tStateGroupMembers, hr_tStateGroupMembers, hq_tStateGroupMembers, he_tStateGroupMembers, hl_tLog, hc_tLog, hm_tLog, hr_tLog, hq_tLog, he_tLog⟩ := Tail_out h
  obtain ⟨eKind, eNum, eView, eClient, eSerial, eOpKind, eOpAt, eOpN, eOpData, eOpDataA, eOpDatan, eOpDatac, eOpOld, eOpOldA, eOpOldn, eOpOldc, eGroupEpoch, eGroupMembers, eGroupMembersA, eGroupMembersn, eGroupMembersc, eGroupMembersv, rfl, rfl, hu_eKind, h1_eNum, h2_eNum, h1_eView, h2_eView, h1_eClient, h2_eClient, h1_eSerial, h2_eSerial, hu_eOpKind, h1_eOpAt, h2_eOpAt, h1_eOpN, h2_eOpN, hl_eOpData, hc_eOpData, hm_eOpData, hr_eOpData, hq_eOpData, hl_eOpOld, hc_eOpOld, hm_eOpOld, hr_eOpOld, hq_eOpOld, h1_eGroupEpoch, h2_eGroupEpoch, hl_eGroupMembers, hc_eGroupMembers, hm_eGroupMembers, hr_eGroupMembers, hq_eGroupMembers, he_eGroupMembers⟩ := Entry_out h'
  clear hl_tStatePages hr_tStatePages hq_tStatePages he_tStatePages hl_tStateRows hr_tStateRows hq_tStateRows he_tStateRows hl_tStateGroupMembers hr_tStateGroupMembers hq_tStateGroupMembers he_tStateGroupMembers hl_tLog hr_tLog hq_tLog he_tLog
  clear hl_eOpData hr_eOpData hq_eOpData hl_eOpOld hr_eOpOld hq_eOpOld hl_eGroupMembers hr_eGroupMembers hq_eGroupMembers he_eGroupMembers
  obtain ⟨g, hg⟩ : ∃ g, w.heap.size = g := ⟨_, rfl⟩
  obtain ⟨w0, hw0⟩ : ∃ x, (w.alloc (.cells #[.int .i64 tNode, .int .i64 tNormal, .int .i64 tCommit, .int .i64 tStateNum, .int .i64 tStateShapeBlocks, .int .i64 tStateShapeSize, .slice tStatePagesA tStatePagesn tStatePagesc, .slice tStateRowsA tStateRowsn tStateRowsc, .int .i64 tStateGroupEpoch, .slice tStateGroupMembersA tStateGroupMembersn tStateGroupMembersc, .slice tLogA tLogn tLogc] 33)).alloc (.cells #[.int .u8 eKind, .int .i64 eNum, .int .i64 eView, .int .i64 eClient, .int .i64 eSerial, .int .u8 eOpKind, .int .i64 eOpAt, .int .i64 eOpN, .slice eOpDataA eOpDatan eOpDatac, .slice eOpOldA eOpOldn eOpOldc, .int .i64 eGroupEpoch, .slice eGroupMembersA eGroupMembersn eGroupMembersc] 58) = x := ⟨_, rfl⟩
  have hP : Blk w0 g [.int .i64 tNode, .int .i64 tNormal, .int .i64 tCommit, .int .i64 tStateNum, .int .i64 tStateShapeBlocks, .int .i64 tStateShapeSize, .slice tStatePagesA tStatePagesn tStatePagesc, .slice tStateRowsA tStateRowsn tStateRowsc, .int .i64 tStateGroupEpoch, .slice tStateGroupMembersA tStateGroupMembersn tStateGroupMembersc, .slice tLogA tLogn tLogc] 33 := by rw [← hw0, ← hg]; exact (Blk.new w [.int .i64 tNode, .int .i64 tNormal, .int .i64 tCommit, .int .i64 tStateNum, .int .i64 tStateShapeBlocks, .int .i64 tStateShapeSize, .slice tStatePagesA tStatePagesn tStatePagesc, .slice tStateRowsA tStateRowsn tStateRowsc, .int .i64 tStateGroupEpoch, .slice tStateGroupMembersA tStateGroupMembersn tStateGroupMembersc, .slice tLogA tLogn tLogc] _).alloc _
  have hR : Blk w0 (g + 1) [.int .u8 eKind, .int .i64 eNum, .int .i64 eView, .int .i64 eClient, .int .i64 eSerial, .int .u8 eOpKind, .int .i64 eOpAt, .int .i64 eOpN, .slice eOpDataA eOpDatan eOpDatac, .slice eOpOldA eOpOldn eOpOldc, .int .i64 eGroupEpoch, .slice eGroupMembersA eGroupMembersn eGroupMembersc] 58 := by
    rw [← hw0, ← hg]
    have := Blk.new (w.alloc (.cells #[.int .i64 tNode, .int .i64 tNormal, .int .i64 tCommit, .int .i64 tStateNum, .int .i64 tStateShapeBlocks, .int .i64 tStateShapeSize, .slice tStatePagesA tStatePagesn tStatePagesc, .slice tStateRowsA tStateRowsn tStateRowsc, .int .i64 tStateGroupEpoch, .slice tStateGroupMembersA tStateGroupMembersn tStateGroupMembersc, .slice tLogA tLogn tLogc] 33)) [.int .u8 eKind, .int .i64 eNum, .int .i64 eView, .int .i64 eClient, .int .i64 eSerial, .int .u8 eOpKind, .int .i64 eOpAt, .int .i64 eOpN, .slice eOpDataA eOpDatan eOpDatac, .slice eOpOldA eOpOldn eOpOldc, .int .i64 eGroupEpoch, .slice eGroupMembersA eGroupMembersn eGroupMembersc] 58
    rwa [World.size_alloc] at this
  have hb0 : Below w.heap.size w w0 := by rw [← hw0]; exact ((Below.refl _ _).alloc (Nat.le_refl _) _).alloc (by simp) _
  have hT0 := hT.below hb0
  have hE0 := hE9.below hb0
  have HL := hide (fun W (hW : Below w0.heap.size w0 W) => rledger_any (hT0.below hW))
  have HAt := hide (fun W (hW : Below w0.heap.size w0 W) => rat_any (tl_led hT) (hb0.trans (hW.mono hb0.size)) eNum)
  simp only [List.drop_succ_cons, List.drop_zero] at HL HAt
  have Hw0 := hide hw0
  have Hg := hide hg
  clear hw0
  have y0 := Blk.cell hP (j := 0) rfl; have y1 := Blk.cell hP (j := 1) rfl; have y2 := Blk.cell hP (j := 2) rfl; have y3 := Blk.cell hP (j := 3) rfl; have y4 := Blk.cell hP (j := 4) rfl; have y5 := Blk.cell hP (j := 5) rfl; have y6 := Blk.cell hP (j := 6) rfl; have y7 := Blk.cell hP (j := 7) rfl; have y8 := Blk.cell hP (j := 8) rfl; have y9 := Blk.cell hP (j := 9) rfl; have y10 := Blk.cell hP (j := 10) rfl
  have z0 := Blk.cell hR (j := 0) rfl; have z1 := Blk.cell hR (j := 1) rfl; have z2 := Blk.cell hR (j := 2) rfl; have z3 := Blk.cell hR (j := 3) rfl; have z4 := Blk.cell hR (j := 4) rfl; have z5 := Blk.cell hR (j := 5) rfl; have z6 := Blk.cell hR (j := 6) rfl; have z7 := Blk.cell hR (j := 7) rfl; have z8 := Blk.cell hR (j := 8) rfl; have z9 := Blk.cell hR (j := 9) rfl; have z10 := Blk.cell hR (j := 10) rfl; have z11 := Blk.cell hR (j := 11) rfl
  go_enter Try.func25, Try.ntmps25
  go_upto_region 1 with fail
  rw [Hw0.out]
  go_cut [5, 6] from 7 to 15 (fun s5 s6 wx => ∃ (gE : Nat) (y : EntryD) (b : Bool), s5 = .pointer (some ⟨gE, 0, none⟩) ∧ s6 = .bool b ∧ (∃ es, tyEntry.Is w (fun _ => True) y es ∧ Blk wx gE es 58) ∧ (b = true → atF tLog eNum = some y) ∧ (b = false → atF tLog eNum = none) ∧ Below w0.heap.size w0 wx)
  case first =>
    refine wp_region_held_drew (S := fun Z => Below w0.heap.size w0 Z) (by kernel_rfl) (Below.refl _ _).drew (fun hS0 => ?_)
    refine wpAnyH_take (fuel := 10) (i := 0) (v := .agg #[.int .i64 tNode, .int .i64 tNormal, .int .i64 tCommit, .int .i64 tStateNum, .int .i64 tStateShapeBlocks, .int .i64 tStateShapeSize, .slice tStatePagesA tStatePagesn tStatePagesc, .slice tStateRowsA tStateRowsn tStateRowsc, .int .i64 tStateGroupEpoch, .slice tStateGroupMembersA tStateGroupMembersn tStateGroupMembersc, .slice tLogA tLogn tLogc]) rfl (by kernel_rfl) (by kernel_rfl) (by kernel_rfl) (fun _ _ _ h => h) (Or.inl ⟨by rfl, fun Z hZ => ?_⟩) hS0 ?_
    · have hPZ := hP.below hZ; clear hP hR; have y0 := Blk.cell hPZ (j := 0) rfl; have y1 := Blk.cell hPZ (j := 1) rfl; have y2 := Blk.cell hPZ (j := 2) rfl; have y3 := Blk.cell hPZ (j := 3) rfl; have y4 := Blk.cell hPZ (j := 4) rfl; have y5 := Blk.cell hPZ (j := 5) rfl; have y6 := Blk.cell hPZ (j := 6) rfl; have y7 := Blk.cell hPZ (j := 7) rfl; have y8 := Blk.cell hPZ (j := 8) rfl; have y9 := Blk.cell hPZ (j := 9) rfl; have y10 := Blk.cell hPZ (j := 10) rfl; go_simp
    refine wpAnyH_take (fuel := 9) (i := 2) (v := .pointer (some ⟨g + 1, 1, none⟩)) rfl (by kernel_rfl) (by kernel_rfl) (by kernel_rfl) (fun _ _ _ h => h) (Or.inl ⟨by rfl, fun Z hZ => ?_⟩) hS0 ?_
    · go_simp
    refine wpAnyH_take (fuel := 8) (i := 3) (v := .int .i64 eNum) rfl (by kernel_rfl) (by kernel_rfl) (by kernel_rfl) (fun _ _ _ h => h) (Or.inl ⟨by rfl, fun Z hZ => ?_⟩) hS0 ?_
    · have hRZ := hR.below hZ; clear hP hR; have r1 := hRZ.cell (j := 1) rfl; go_simp
    obtain ⟨X0, hX0⟩ : ∃ y, w0.drew = y := ⟨_, rfl⟩
    have hB0 : Below w0.heap.size w0 X0 := by rw [← hX0]; exact (Below.refl _ _).drew
    rw [hX0]
    clear hX0 hS0
    refine all_two (fuel := 7) (i := 1) (j := 8) (by kernel_rfl) rfl rfl rfl rfl (fun Kk hK => ?_) (fun Kk hK => ?_) 
    · go_simp
      refine (HL.out X0 hB0).mono ?_
      rintro e' X1 ⟨rfl, hst⟩
      have hB1 := hB0.trans (hst.mono hB0.size)
      clear hst
      refine hK _ _ ⟨hB1, ?_⟩
      clear hK Kk
      refine all_two (fuel := 6) (i := 4) (j := 8) (by kernel_rfl) rfl rfl rfl rfl (fun Kk hK => ?_) (fun Kk hK => ?_) 
      · go_simp
        refine (HAt.out X1 hB1).mono ?_
        rintro e' X2 ⟨y, es, b, rfl, hY, hyes, hyno, hst⟩
        have hB2 := hB1.trans (hst.mono hB1.size)
        have hYY := hY
        obtain ⟨qKind, qNum, qView, qClient, qSerial, qOpKind, qOpAt, qOpN, qOpData, qOpDataA, qOpDatan, qOpDatac, qOpOld, qOpOldA, qOpOldn, qOpOldc, qGroupEpoch, qGroupMembers, qGroupMembersA, qGroupMembersn, qGroupMembersc, qGroupMembersv, rfl, rfl, hu_qKind, h1_qNum, h2_qNum, h1_qView, h2_qView, h1_qClient, h2_qClient, h1_qSerial, h2_qSerial, hu_qOpKind, h1_qOpAt, h2_qOpAt, h1_qOpN, h2_qOpN, hl_qOpData, hc_qOpData, hm_qOpData, hr_qOpData, hq_qOpData, hl_qOpOld, hc_qOpOld, hm_qOpOld, hr_qOpOld, hq_qOpOld, h1_qGroupEpoch, h2_qGroupEpoch, hl_qGroupMembers, hc_qGroupMembers, hm_qGroupMembers, hr_qGroupMembers, hq_qGroupMembers, he_qGroupMembers⟩ := Entry_out hY
        have HYE := hide (And.intro hyes hyno)
        clear hyes hyno hl_qOpData hr_qOpData hq_qOpData hl_qOpOld hr_qOpOld hq_qOpOld hl_qGroupMembers hr_qGroupMembers hq_qGroupMembers he_qGroupMembers
        clear hst
        refine hK _ _ ⟨hB2, ?_⟩
        clear hK Kk
        refine wpAnyH_take (fuel := 5) (i := 5) (v := .tuple #[.agg #[.int .u8 qKind, .int .i64 qNum, .int .i64 qView, .int .i64 qClient, .int .i64 qSerial, .int .u8 qOpKind, .int .i64 qOpAt, .int .i64 qOpN, .slice qOpDataA qOpDatan qOpDatac, .slice qOpOldA qOpOldn qOpOldc, .int .i64 qGroupEpoch, .slice qGroupMembersA qGroupMembersn qGroupMembersc], .bool b]) rfl (by kernel_rfl) (by kernel_rfl) (by kernel_rfl) (fun _ _ _ h => h) (Or.inl ⟨by rfl, fun Z hZ => ?_⟩) hB2 ?_
        · go_simp
        refine wpAnyH_take (fuel := 4) (i := 6) (v := .agg #[.int .u8 qKind, .int .i64 qNum, .int .i64 qView, .int .i64 qClient, .int .i64 qSerial, .int .u8 qOpKind, .int .i64 qOpAt, .int .i64 qOpN, .slice qOpDataA qOpDatan qOpDatac, .slice qOpOldA qOpOldn qOpOldc, .int .i64 qGroupEpoch, .slice qGroupMembersA qGroupMembersn qGroupMembersc]) rfl (by kernel_rfl) (by kernel_rfl) (by kernel_rfl) (fun _ _ _ h => h) (Or.inl ⟨by rfl, fun Z hZ => ?_⟩) hB2 ?_
        · go_simp
        refine wpAnyH_take (fuel := 3) (i := 7) (v := .bool b) rfl (by kernel_rfl) (by kernel_rfl) (by kernel_rfl) (fun _ _ _ h => h) (Or.inl ⟨by rfl, fun Z hZ => ?_⟩) hB2 ?_
        · go_simp
        refine all_one (fuel := 2) (i := 8) (by kernel_rfl) rfl rfl (fun Kk hK => ?_)
        obtain ⟨gE, hgE⟩ : ∃ y, X2.heap.size = y := ⟨_, rfl⟩
        obtain ⟨X3, hY⟩ : ∃ y, X2.alloc (.cells #[.int .u8 0, .int .i64 0, .int .i64 0, .int .i64 0, .int .i64 0, .int .u8 0, .int .i64 0, .int .i64 0, .slice none 0 0, .slice none 0 0, .int .i64 0, .slice none 0 0] 58) = y := ⟨_, rfl⟩
        have hE : Blk X3 gE [.int .u8 0, .int .i64 0, .int .i64 0, .int .i64 0, .int .i64 0, .int .u8 0, .int .i64 0, .int .i64 0, .slice none 0 0, .slice none 0 0, .int .i64 0, .slice none 0 0] 58 := by rw [← hY, ← hgE]; exact Blk.new X2 [.int .u8 0, .int .i64 0, .int .i64 0, .int .i64 0, .int .i64 0, .int .u8 0, .int .i64 0, .int .i64 0, .slice none 0 0, .slice none 0 0, .int .i64 0, .slice none 0 0] _
        have hst : Below X2.heap.size X2 X3 := by rw [← hY]; exact (Below.refl _ _).alloc (Nat.le_refl _) _
        have hB3 := hB2.trans (hst.mono hB2.size)
        have gEle : w0.heap.size ≤ gE := by have := hB2.size; omega
        go_simp
        try rw [hY]
        try rw [hgE]
        clear hY hst hgE
        refine hK _ _ ⟨hB3, ?_⟩
        clear hK Kk
        refine all_one (fuel := 1) (i := 9) (by kernel_rfl) rfl rfl (fun Kk hK => ?_)
        refine oper_store rfl rfl rfl rfl rfl hE (by kernel_rfl) rfl (by intro u hu; simp only [List.mem_cons, List.not_mem_nil, or_false] at hu; rcases hu with rfl | rfl | rfl | rfl | rfl | rfl | rfl | rfl | rfl | rfl | rfl | rfl <;> rfl) ?_
        obtain ⟨X4, hY⟩ : ∃ y, X3.setRow gE #[.int .u8 qKind, .int .i64 qNum, .int .i64 qView, .int .i64 qClient, .int .i64 qSerial, .int .u8 qOpKind, .int .i64 qOpAt, .int .i64 qOpN, .slice qOpDataA qOpDatan qOpDatac, .slice qOpOldA qOpOldn qOpOldc, .int .i64 qGroupEpoch, .slice qGroupMembersA qGroupMembersn qGroupMembersc] = y := ⟨_, rfl⟩
        have hB4 : Below w0.heap.size w0 X4 := by rw [← hY]; exact below_setRow hB3 gEle _
        have hE' : Blk X4 gE [.int .u8 qKind, .int .i64 qNum, .int .i64 qView, .int .i64 qClient, .int .i64 qSerial, .int .u8 qOpKind, .int .i64 qOpAt, .int .i64 qOpN, .slice qOpDataA qOpDatan qOpDatac, .slice qOpOldA qOpOldn qOpOldc, .int .i64 qGroupEpoch, .slice qGroupMembersA qGroupMembersn qGroupMembersc] 58 := by rw [← hY]; exact hE.setAll [.int .u8 qKind, .int .i64 qNum, .int .i64 qView, .int .i64 qClient, .int .i64 qSerial, .int .u8 qOpKind, .int .i64 qOpAt, .int .i64 qOpN, .slice qOpDataA qOpDatan qOpDatac, .slice qOpOldA qOpOldn qOpOldc, .int .i64 qGroupEpoch, .slice qGroupMembersA qGroupMembersn qGroupMembersc]
        clear hE
        have hE := hE'
        clear hE'
        try rw [hY]
        clear hY
        refine hK _ _ ⟨hB4, ?_⟩
        clear hK Kk
        refine all_one (fuel := 0) (i := 10) (by kernel_rfl) rfl rfl (fun Kk hK => ?_)
        go_simp
        refine hK _ _ ⟨hB4, ?_⟩
        clear hK Kk
        refine wpAnyH_done (by kernel_rfl) ?_ _
        try simp only [Act.put, List.setIfInBounds_toArray, List.set_cons_zero, List.set_cons_succ, List.getElem_toArray, List.getElem_cons_zero, List.getElem_cons_succ]
        go_wp2_with fail
        go_meet
        case rel => exact ⟨gE, _, b, rfl, rfl, ⟨_, hYY, hE⟩, HYE.out.1, HYE.out.2, hB4⟩
      · obtain ⟨gE, hgE⟩ : ∃ y, X1.heap.size = y := ⟨_, rfl⟩
        obtain ⟨X2, hY⟩ : ∃ y, X1.alloc (.cells #[.int .u8 0, .int .i64 0, .int .i64 0, .int .i64 0, .int .i64 0, .int .u8 0, .int .i64 0, .int .i64 0, .slice none 0 0, .slice none 0 0, .int .i64 0, .slice none 0 0] 58) = y := ⟨_, rfl⟩
        have hE : Blk X2 gE [.int .u8 0, .int .i64 0, .int .i64 0, .int .i64 0, .int .i64 0, .int .u8 0, .int .i64 0, .int .i64 0, .slice none 0 0, .slice none 0 0, .int .i64 0, .slice none 0 0] 58 := by rw [← hY, ← hgE]; exact Blk.new X1 [.int .u8 0, .int .i64 0, .int .i64 0, .int .i64 0, .int .i64 0, .int .u8 0, .int .i64 0, .int .i64 0, .slice none 0 0, .slice none 0 0, .int .i64 0, .slice none 0 0] _
        have hst : Below X1.heap.size X1 X2 := by rw [← hY]; exact (Below.refl _ _).alloc (Nat.le_refl _) _
        have hB2 := hB1.trans (hst.mono hB1.size)
        have gEle : w0.heap.size ≤ gE := by have := hB1.size; omega
        go_simp
        try rw [hY]
        try rw [hgE]
        clear hY hst hgE
        refine hK _ _ ⟨hB2, ?_⟩
        clear hK Kk
        refine all_one (fuel := 5) (i := 4) (by kernel_rfl) rfl rfl (fun Kk hK => ?_)
        go_simp
        refine (HAt.out X2 hB2).mono ?_
        rintro e' X3 ⟨y, es, b, rfl, hY, hyes, hyno, hst⟩
        have hB3 := hB2.trans (hst.mono hB2.size)
        replace hE := hE.below hst
        have hYY := hY
        obtain ⟨qKind, qNum, qView, qClient, qSerial, qOpKind, qOpAt, qOpN, qOpData, qOpDataA, qOpDatan, qOpDatac, qOpOld, qOpOldA, qOpOldn, qOpOldc, qGroupEpoch, qGroupMembers, qGroupMembersA, qGroupMembersn, qGroupMembersc, qGroupMembersv, rfl, rfl, hu_qKind, h1_qNum, h2_qNum, h1_qView, h2_qView, h1_qClient, h2_qClient, h1_qSerial, h2_qSerial, hu_qOpKind, h1_qOpAt, h2_qOpAt, h1_qOpN, h2_qOpN, hl_qOpData, hc_qOpData, hm_qOpData, hr_qOpData, hq_qOpData, hl_qOpOld, hc_qOpOld, hm_qOpOld, hr_qOpOld, hq_qOpOld, h1_qGroupEpoch, h2_qGroupEpoch, hl_qGroupMembers, hc_qGroupMembers, hm_qGroupMembers, hr_qGroupMembers, hq_qGroupMembers, he_qGroupMembers⟩ := Entry_out hY
        have HYE := hide (And.intro hyes hyno)
        clear hyes hyno hl_qOpData hr_qOpData hq_qOpData hl_qOpOld hr_qOpOld hq_qOpOld hl_qGroupMembers hr_qGroupMembers hq_qGroupMembers he_qGroupMembers
        clear hst
        refine hK _ _ ⟨hB3, ?_⟩
        clear hK Kk
        refine wpAnyH_take (fuel := 4) (i := 5) (v := .tuple #[.agg #[.int .u8 qKind, .int .i64 qNum, .int .i64 qView, .int .i64 qClient, .int .i64 qSerial, .int .u8 qOpKind, .int .i64 qOpAt, .int .i64 qOpN, .slice qOpDataA qOpDatan qOpDatac, .slice qOpOldA qOpOldn qOpOldc, .int .i64 qGroupEpoch, .slice qGroupMembersA qGroupMembersn qGroupMembersc], .bool b]) rfl (by kernel_rfl) (by kernel_rfl) (by kernel_rfl) (fun _ _ _ h => h) (Or.inl ⟨by rfl, fun Z hZ => ?_⟩) hB3 ?_
        · go_simp
        refine wpAnyH_take (fuel := 3) (i := 6) (v := .agg #[.int .u8 qKind, .int .i64 qNum, .int .i64 qView, .int .i64 qClient, .int .i64 qSerial, .int .u8 qOpKind, .int .i64 qOpAt, .int .i64 qOpN, .slice qOpDataA qOpDatan qOpDatac, .slice qOpOldA qOpOldn qOpOldc, .int .i64 qGroupEpoch, .slice qGroupMembersA qGroupMembersn qGroupMembersc]) rfl (by kernel_rfl) (by kernel_rfl) (by kernel_rfl) (fun _ _ _ h => h) (Or.inl ⟨by rfl, fun Z hZ => ?_⟩) hB3 ?_
        · go_simp
        refine wpAnyH_take (fuel := 2) (i := 7) (v := .bool b) rfl (by kernel_rfl) (by kernel_rfl) (by kernel_rfl) (fun _ _ _ h => h) (Or.inl ⟨by rfl, fun Z hZ => ?_⟩) hB3 ?_
        · go_simp
        refine all_one (fuel := 1) (i := 9) (by kernel_rfl) rfl rfl (fun Kk hK => ?_)
        refine oper_store rfl rfl rfl rfl rfl hE (by kernel_rfl) rfl (by intro u hu; simp only [List.mem_cons, List.not_mem_nil, or_false] at hu; rcases hu with rfl | rfl | rfl | rfl | rfl | rfl | rfl | rfl | rfl | rfl | rfl | rfl <;> rfl) ?_
        obtain ⟨X4, hY⟩ : ∃ y, X3.setRow gE #[.int .u8 qKind, .int .i64 qNum, .int .i64 qView, .int .i64 qClient, .int .i64 qSerial, .int .u8 qOpKind, .int .i64 qOpAt, .int .i64 qOpN, .slice qOpDataA qOpDatan qOpDatac, .slice qOpOldA qOpOldn qOpOldc, .int .i64 qGroupEpoch, .slice qGroupMembersA qGroupMembersn qGroupMembersc] = y := ⟨_, rfl⟩
        have hB4 : Below w0.heap.size w0 X4 := by rw [← hY]; exact below_setRow hB3 gEle _
        have hE' : Blk X4 gE [.int .u8 qKind, .int .i64 qNum, .int .i64 qView, .int .i64 qClient, .int .i64 qSerial, .int .u8 qOpKind, .int .i64 qOpAt, .int .i64 qOpN, .slice qOpDataA qOpDatan qOpDatac, .slice qOpOldA qOpOldn qOpOldc, .int .i64 qGroupEpoch, .slice qGroupMembersA qGroupMembersn qGroupMembersc] 58 := by rw [← hY]; exact hE.setAll [.int .u8 qKind, .int .i64 qNum, .int .i64 qView, .int .i64 qClient, .int .i64 qSerial, .int .u8 qOpKind, .int .i64 qOpAt, .int .i64 qOpN, .slice qOpDataA qOpDatan qOpDatac, .slice qOpOldA qOpOldn qOpOldc, .int .i64 qGroupEpoch, .slice qGroupMembersA qGroupMembersn qGroupMembersc]
        clear hE
        have hE := hE'
        clear hE'
        try rw [hY]
        clear hY
        refine hK _ _ ⟨hB4, ?_⟩
        clear hK Kk
        refine all_one (fuel := 0) (i := 10) (by kernel_rfl) rfl rfl (fun Kk hK => ?_)
        go_simp
        refine hK _ _ ⟨hB4, ?_⟩
        clear hK Kk
        refine wpAnyH_done (by kernel_rfl) ?_ _
        try simp only [Act.put, List.setIfInBounds_toArray, List.set_cons_zero, List.set_cons_succ, List.getElem_toArray, List.getElem_cons_zero, List.getElem_cons_succ]
        go_wp2_with fail
        go_meet
        case rel => exact ⟨gE, _, b, rfl, rfl, ⟨_, hYY, hE⟩, HYE.out.1, HYE.out.2, hB4⟩
    · obtain ⟨gE, hgE⟩ : ∃ y, X0.heap.size = y := ⟨_, rfl⟩
      obtain ⟨X1, hY⟩ : ∃ y, X0.alloc (.cells #[.int .u8 0, .int .i64 0, .int .i64 0, .int .i64 0, .int .i64 0, .int .u8 0, .int .i64 0, .int .i64 0, .slice none 0 0, .slice none 0 0, .int .i64 0, .slice none 0 0] 58) = y := ⟨_, rfl⟩
      have hE : Blk X1 gE [.int .u8 0, .int .i64 0, .int .i64 0, .int .i64 0, .int .i64 0, .int .u8 0, .int .i64 0, .int .i64 0, .slice none 0 0, .slice none 0 0, .int .i64 0, .slice none 0 0] 58 := by rw [← hY, ← hgE]; exact Blk.new X0 [.int .u8 0, .int .i64 0, .int .i64 0, .int .i64 0, .int .i64 0, .int .u8 0, .int .i64 0, .int .i64 0, .slice none 0 0, .slice none 0 0, .int .i64 0, .slice none 0 0] _
      have hst : Below X0.heap.size X0 X1 := by rw [← hY]; exact (Below.refl _ _).alloc (Nat.le_refl _) _
      have hB1 := hB0.trans (hst.mono hB0.size)
      have gEle : w0.heap.size ≤ gE := by have := hB0.size; omega
      go_simp
      try rw [hY]
      try rw [hgE]
      clear hY hst hgE
      refine hK _ _ ⟨hB1, ?_⟩
      clear hK Kk
      refine all_one (fuel := 6) (i := 1) (by kernel_rfl) rfl rfl (fun Kk hK => ?_)
      go_simp
      refine (HL.out X1 hB1).mono ?_
      rintro e' X2 ⟨rfl, hst⟩
      have hB2 := hB1.trans (hst.mono hB1.size)
      replace hE := hE.below hst
      clear hst
      refine hK _ _ ⟨hB2, ?_⟩
      clear hK Kk
      refine all_one (fuel := 5) (i := 4) (by kernel_rfl) rfl rfl (fun Kk hK => ?_)
      go_simp
      refine (HAt.out X2 hB2).mono ?_
      rintro e' X3 ⟨y, es, b, rfl, hY, hyes, hyno, hst⟩
      have hB3 := hB2.trans (hst.mono hB2.size)
      replace hE := hE.below hst
      have hYY := hY
      obtain ⟨qKind, qNum, qView, qClient, qSerial, qOpKind, qOpAt, qOpN, qOpData, qOpDataA, qOpDatan, qOpDatac, qOpOld, qOpOldA, qOpOldn, qOpOldc, qGroupEpoch, qGroupMembers, qGroupMembersA, qGroupMembersn, qGroupMembersc, qGroupMembersv, rfl, rfl, hu_qKind, h1_qNum, h2_qNum, h1_qView, h2_qView, h1_qClient, h2_qClient, h1_qSerial, h2_qSerial, hu_qOpKind, h1_qOpAt, h2_qOpAt, h1_qOpN, h2_qOpN, hl_qOpData, hc_qOpData, hm_qOpData, hr_qOpData, hq_qOpData, hl_qOpOld, hc_qOpOld, hm_qOpOld, hr_qOpOld, hq_qOpOld, h1_qGroupEpoch, h2_qGroupEpoch, hl_qGroupMembers, hc_qGroupMembers, hm_qGroupMembers, hr_qGroupMembers, hq_qGroupMembers, he_qGroupMembers⟩ := Entry_out hY
      have HYE := hide (And.intro hyes hyno)
      clear hyes hyno hl_qOpData hr_qOpData hq_qOpData hl_qOpOld hr_qOpOld hq_qOpOld hl_qGroupMembers hr_qGroupMembers hq_qGroupMembers he_qGroupMembers
      clear hst
      refine hK _ _ ⟨hB3, ?_⟩
      clear hK Kk
      refine wpAnyH_take (fuel := 4) (i := 5) (v := .tuple #[.agg #[.int .u8 qKind, .int .i64 qNum, .int .i64 qView, .int .i64 qClient, .int .i64 qSerial, .int .u8 qOpKind, .int .i64 qOpAt, .int .i64 qOpN, .slice qOpDataA qOpDatan qOpDatac, .slice qOpOldA qOpOldn qOpOldc, .int .i64 qGroupEpoch, .slice qGroupMembersA qGroupMembersn qGroupMembersc], .bool b]) rfl (by kernel_rfl) (by kernel_rfl) (by kernel_rfl) (fun _ _ _ h => h) (Or.inl ⟨by rfl, fun Z hZ => ?_⟩) hB3 ?_
      · go_simp
      refine wpAnyH_take (fuel := 3) (i := 6) (v := .agg #[.int .u8 qKind, .int .i64 qNum, .int .i64 qView, .int .i64 qClient, .int .i64 qSerial, .int .u8 qOpKind, .int .i64 qOpAt, .int .i64 qOpN, .slice qOpDataA qOpDatan qOpDatac, .slice qOpOldA qOpOldn qOpOldc, .int .i64 qGroupEpoch, .slice qGroupMembersA qGroupMembersn qGroupMembersc]) rfl (by kernel_rfl) (by kernel_rfl) (by kernel_rfl) (fun _ _ _ h => h) (Or.inl ⟨by rfl, fun Z hZ => ?_⟩) hB3 ?_
      · go_simp
      refine wpAnyH_take (fuel := 2) (i := 7) (v := .bool b) rfl (by kernel_rfl) (by kernel_rfl) (by kernel_rfl) (fun _ _ _ h => h) (Or.inl ⟨by rfl, fun Z hZ => ?_⟩) hB3 ?_
      · go_simp
      refine all_one (fuel := 1) (i := 9) (by kernel_rfl) rfl rfl (fun Kk hK => ?_)
      refine oper_store rfl rfl rfl rfl rfl hE (by kernel_rfl) rfl (by intro u hu; simp only [List.mem_cons, List.not_mem_nil, or_false] at hu; rcases hu with rfl | rfl | rfl | rfl | rfl | rfl | rfl | rfl | rfl | rfl | rfl | rfl <;> rfl) ?_
      obtain ⟨X4, hY⟩ : ∃ y, X3.setRow gE #[.int .u8 qKind, .int .i64 qNum, .int .i64 qView, .int .i64 qClient, .int .i64 qSerial, .int .u8 qOpKind, .int .i64 qOpAt, .int .i64 qOpN, .slice qOpDataA qOpDatan qOpDatac, .slice qOpOldA qOpOldn qOpOldc, .int .i64 qGroupEpoch, .slice qGroupMembersA qGroupMembersn qGroupMembersc] = y := ⟨_, rfl⟩
      have hB4 : Below w0.heap.size w0 X4 := by rw [← hY]; exact below_setRow hB3 gEle _
      have hE' : Blk X4 gE [.int .u8 qKind, .int .i64 qNum, .int .i64 qView, .int .i64 qClient, .int .i64 qSerial, .int .u8 qOpKind, .int .i64 qOpAt, .int .i64 qOpN, .slice qOpDataA qOpDatan qOpDatac, .slice qOpOldA qOpOldn qOpOldc, .int .i64 qGroupEpoch, .slice qGroupMembersA qGroupMembersn qGroupMembersc] 58 := by rw [← hY]; exact hE.setAll [.int .u8 qKind, .int .i64 qNum, .int .i64 qView, .int .i64 qClient, .int .i64 qSerial, .int .u8 qOpKind, .int .i64 qOpAt, .int .i64 qOpN, .slice qOpDataA qOpDatan qOpDatac, .slice qOpOldA qOpOldn qOpOldc, .int .i64 qGroupEpoch, .slice qGroupMembersA qGroupMembersn qGroupMembersc]
      clear hE
      have hE := hE'
      clear hE'
      try rw [hY]
      clear hY
      refine hK _ _ ⟨hB4, ?_⟩
      clear hK Kk
      refine all_one (fuel := 0) (i := 10) (by kernel_rfl) rfl rfl (fun Kk hK => ?_)
      go_simp
      refine hK _ _ ⟨hB4, ?_⟩
      clear hK Kk
      refine wpAnyH_done (by kernel_rfl) ?_ _
      try simp only [Act.put, List.setIfInBounds_toArray, List.set_cons_zero, List.set_cons_succ, List.getElem_toArray, List.getElem_cons_zero, List.getElem_cons_succ]
      go_wp2_with fail
      go_meet
      case rel => exact ⟨gE, _, b, rfl, rfl, ⟨_, hYY, hE⟩, HYE.out.1, HYE.out.2, hB4⟩

  case rest =>
    obtain ⟨gE, y, b, rfl, rfl, ⟨es, hY, hEc⟩, hyes, hyno, hbc⟩ := hcut
    have hb0c := hb0.trans (hbc.mono hb0.size)
    have hY9 := hY
    obtain ⟨qKind, qNum, qView, qClient, qSerial, qOpKind, qOpAt, qOpN, qOpData, qOpDataA, qOpDatan, qOpDatac, qOpOld, qOpOldA, qOpOldn, qOpOldc, qGroupEpoch, qGroupMembers, qGroupMembersA, qGroupMembersn, qGroupMembersc, qGroupMembersv, rfl, rfl, hu_qKind, h1_qNum, h2_qNum, h1_qView, h2_qView, h1_qClient, h2_qClient, h1_qSerial, h2_qSerial, hu_qOpKind, h1_qOpAt, h2_qOpAt, h1_qOpN, h2_qOpN, hl_qOpData, hc_qOpData, hm_qOpData, hr_qOpData, hq_qOpData, hl_qOpOld, hc_qOpOld, hm_qOpOld, hr_qOpOld, hq_qOpOld, h1_qGroupEpoch, h2_qGroupEpoch, hl_qGroupMembers, hc_qGroupMembers, hm_qGroupMembers, hr_qGroupMembers, hq_qGroupMembers, he_qGroupMembers⟩ := Entry_out hY
    clear hl_qOpData hr_qOpData hq_qOpData hl_qOpOld hr_qOpOld hq_qOpOld hl_qGroupMembers hr_qGroupMembers hq_qGroupMembers he_qGroupMembers
    clear y0 y1 y2 y3 y4 y5 y6 y7 y8 y9 y10 z0 z1 z2 z3 z4 z5 z6 z7 z8 z9 z10 z11 HL HAt hP
    have hRc := hR.below hbc
    have y0 := Blk.cell hEc (j := 0) rfl; have y1 := Blk.cell hEc (j := 1) rfl; have y2 := Blk.cell hEc (j := 2) rfl; have y3 := Blk.cell hEc (j := 3) rfl; have y4 := Blk.cell hEc (j := 4) rfl; have y5 := Blk.cell hEc (j := 5) rfl; have y6 := Blk.cell hEc (j := 6) rfl; have y7 := Blk.cell hEc (j := 7) rfl; have y8 := Blk.cell hEc (j := 8) rfl; have y9 := Blk.cell hEc (j := 9) rfl; have y10 := Blk.cell hEc (j := 10) rfl; have y11 := Blk.cell hEc (j := 11) rfl
    have z0 := Blk.cell hRc (j := 0) rfl; have z1 := Blk.cell hRc (j := 1) rfl; have z2 := Blk.cell hRc (j := 2) rfl; have z3 := Blk.cell hRc (j := 3) rfl; have z4 := Blk.cell hRc (j := 4) rfl; have z5 := Blk.cell hRc (j := 5) rfl; have z6 := Blk.cell hRc (j := 6) rfl; have z7 := Blk.cell hRc (j := 7) rfl; have z8 := Blk.cell hRc (j := 8) rfl; have z9 := Blk.cell hRc (j := 9) rfl; have z10 := Blk.cell hRc (j := 10) rfl; have z11 := Blk.cell hRc (j := 11) rfl
    have u0 := fun (x : InC (fun W' => Below wc.heap.size wc W')) => below_cell x.h y0
    have u1 := fun (x : InC (fun W' => Below wc.heap.size wc W')) => below_cell x.h y1
    have u2 := fun (x : InC (fun W' => Below wc.heap.size wc W')) => below_cell x.h y2
    have u3 := fun (x : InC (fun W' => Below wc.heap.size wc W')) => below_cell x.h y3
    have u4 := fun (x : InC (fun W' => Below wc.heap.size wc W')) => below_cell x.h y4
    have u5 := fun (x : InC (fun W' => Below wc.heap.size wc W')) => below_cell x.h y5
    have u6 := fun (x : InC (fun W' => Below wc.heap.size wc W')) => below_cell x.h y6
    have u7 := fun (x : InC (fun W' => Below wc.heap.size wc W')) => below_cell x.h y7
    have u8 := fun (x : InC (fun W' => Below wc.heap.size wc W')) => below_cell x.h y8
    have u9 := fun (x : InC (fun W' => Below wc.heap.size wc W')) => below_cell x.h y9
    have u10 := fun (x : InC (fun W' => Below wc.heap.size wc W')) => below_cell x.h y10
    have u11 := fun (x : InC (fun W' => Below wc.heap.size wc W')) => below_cell x.h y11
    have v0 := fun (x : InC (fun W' => Below wc.heap.size wc W')) => below_cell x.h z0
    have v1 := fun (x : InC (fun W' => Below wc.heap.size wc W')) => below_cell x.h z1
    have v2 := fun (x : InC (fun W' => Below wc.heap.size wc W')) => below_cell x.h z2
    have v3 := fun (x : InC (fun W' => Below wc.heap.size wc W')) => below_cell x.h z3
    have v4 := fun (x : InC (fun W' => Below wc.heap.size wc W')) => below_cell x.h z4
    have v5 := fun (x : InC (fun W' => Below wc.heap.size wc W')) => below_cell x.h z5
    have v6 := fun (x : InC (fun W' => Below wc.heap.size wc W')) => below_cell x.h z6
    have v7 := fun (x : InC (fun W' => Below wc.heap.size wc W')) => below_cell x.h z7
    have v8 := fun (x : InC (fun W' => Below wc.heap.size wc W')) => below_cell x.h z8
    have v9 := fun (x : InC (fun W' => Below wc.heap.size wc W')) => below_cell x.h z9
    have v10 := fun (x : InC (fun W' => Below wc.heap.size wc W')) => below_cell x.h z10
    have v11 := fun (x : InC (fun W' => Below wc.heap.size wc W')) => below_cell x.h z11
    have hYc := hY9.below hb0c
    have hEe := hE9.below hb0c
    cases b with
    | false =>
      have HR := hide (show hasB (tNode, tNormal, tCommit, (tStateNum, (tStateShapeBlocks, tStateShapeSize), tStatePages, tStateRows, (tStateGroupEpoch, tStateGroupMembers)), tLog) (eKind, eNum, eView, eClient, eSerial, (eOpKind, eOpAt, eOpN, eOpData, eOpOld), (eGroupEpoch, eGroupMembers)) = false by
        unfold hasB
        rw [show atF tLog eNum = none from hyno rfl]; rfl)
      clear hyes hyno hYc hEe
      go_wp2
      go_ret
      exact ⟨by rw [HR.out]; rfl, hb0c⟩
    | true =>
      have HR := hide (show hasB (tNode, tNormal, tCommit, (tStateNum, (tStateShapeBlocks, tStateShapeSize), tStatePages, tStateRows, (tStateGroupEpoch, tStateGroupMembers)), tLog) (eKind, eNum, eView, eClient, eSerial, (eOpKind, eOpAt, eOpN, eOpData, eOpOld), (eGroupEpoch, eGroupMembers)) = eqE (qKind, qNum, qView, qClient, qSerial, (qOpKind, qOpAt, qOpN, qOpData, qOpOld), (qGroupEpoch, qGroupMembers)) (eKind, eNum, eView, eClient, eSerial, (eOpKind, eOpAt, eOpN, eOpData, eOpOld), (eGroupEpoch, eGroupMembers)) by
        unfold hasB
        rw [show atF tLog eNum = some _ from hyes rfl]; rfl)
      clear hyes hyno
      have HSm := hide (rsameE_any hYc hEe)
      clear hYc hEe
      go_wp2_with fail
      go_fit HSm.out
      rintro xx w2 ⟨rfl, hb2⟩
      go_wp2
      go_ret
      exact ⟨by rw [HR.out]; rfl, hb0c.trans (hb2.mono hb0c.size)⟩
end Go.Proofs.Ytfjffmjnnjckkaa
