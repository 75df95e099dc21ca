/- Texts joined (shake.py). -/
import Derived.Test.YtkknkdjdneldlaaGreatK67
import Derived.Test.YtkknkdjdneldlaaGreatK68
import Derived.Test.YtkknkdjdneldlaaGreatK611
import Derived.Test.YtkknkdjdneldlaaGreatK612
namespace Go.Proofs.YtkknkdjdneldlaaGreat
set_option maxRecDepth 20000
open Go.RowKit Go.Px Go.Maps
set_option linter.unusedVariables false
set_option linter.unusedSimpArgs false

set_option maxRecDepth 20000 in
set_option maxHeartbeats 6400000 in
theorem mencE_any {w : World} {Q : Nat → Prop} {x : EntryD} {cs : List Value} (h : tyEntry.Is w Q x cs) : Calls Tryz.prog 24 #[.agg cs.toArray] w fun e w' => ∃ v, e = .returned (.tuple #[v, .int .i64 (enE x)]) ∧ w'.ownsRow w.heap.size 5 1 v (entB x).length (bys (entB x)) ∧ Below w.heap.size w w' := by
  have h' := h
  obtain ⟨eKind, eNum, eView, eClient, eSerial, eOpKind, eOpAt, eOpN, eOpData, eOpDataA, eOpDatan, eOpDatac, eOpOld, eOpOldA, eOpOldn, eOpOldc, eGroupEpoch, eGroupMembers, eGroupMembersA, eGroupMembersn, eGroupMembersc, eGroupMembersv, rfl, rfl, hu_eKind, h1_eNum, h2_eNum, h1_eView, h2_eView, h1_eClient, h2_eClient, h1_eSerial, h2_eSerial, hu_eOpKind, h1_eOpAt, h2_eOpAt, h1_eOpN, h2_eOpN, hl_eOpData, hc_eOpData, hm_eOpData, hr_eOpData, hq_eOpData, hl_eOpOld, hc_eOpOld, hm_eOpOld, hr_eOpOld, hq_eOpOld, h1_eGroupEpoch, h2_eGroupEpoch, hl_eGroupMembers, hc_eGroupMembers, hm_eGroupMembers, hr_eGroupMembers, hq_eGroupMembers, he_eGroupMembers⟩ := Entry_out h'
  obtain ⟨hmi, _⟩ := i64rows he_eGroupMembers
  subst hmi
  obtain ⟨w0, hw0⟩ : ∃ x, w.alloc (.cells #[.int .u8 eKind, .int .i64 eNum, .int .i64 eView, .int .i64 eClient, .int .i64 eSerial, .int .u8 eOpKind, .int .i64 eOpAt, .int .i64 eOpN, .slice eOpDataA eOpDatan eOpDatac, .slice eOpOldA eOpOldn eOpOldc, .int .i64 eGroupEpoch, .slice eGroupMembersA eGroupMembersn eGroupMembersc] 49) = x := ⟨_, rfl⟩; have hBw0 : Blk w0 w.heap.size [.int .u8 eKind, .int .i64 eNum, .int .i64 eView, .int .i64 eClient, .int .i64 eSerial, .int .u8 eOpKind, .int .i64 eOpAt, .int .i64 eOpN, .slice eOpDataA eOpDatan eOpDatac, .slice eOpOldA eOpOldn eOpOldc, .int .i64 eGroupEpoch, .slice eGroupMembersA eGroupMembersn eGroupMembersc] 49 := (by rw [← hw0]; exact Blk.new w [.int .u8 eKind, .int .i64 eNum, .int .i64 eView, .int .i64 eClient, .int .i64 eSerial, .int .u8 eOpKind, .int .i64 eOpAt, .int .i64 eOpN, .slice eOpDataA eOpDatan eOpDatac, .slice eOpOldA eOpOldn eOpOldc, .int .i64 eGroupEpoch, .slice eGroupMembersA eGroupMembersn eGroupMembersc] _); have hbw0 : Below w.heap.size w w0 := (by rw [← hw0]; exact (Below.refl _ _).alloc (Nat.le_refl _) _); have Hw0 := hide hw0; clear hw0
  have h0 := h.below hbw0
  have s0 := hbw0.size
  cases hx : entryB (eKind, eNum, eView, eClient, eSerial, (eOpKind, eOpAt, eOpN, eOpData, eOpOld), (eGroupEpoch, eGroupMembers)) with
  | false =>
    have hB0 : entB (eKind, eNum, eView, eClient, eSerial, (eOpKind, eOpAt, eOpN, eOpData, eOpOld), (eGroupEpoch, eGroupMembers)) = [] := by unfold entB; rw [if_neg (by rw [hx]; decide)]
    have hE0 : enE (eKind, eNum, eView, eClient, eSerial, (eOpKind, eOpAt, eOpN, eOpData, eOpOld), (eGroupEpoch, eGroupMembers)) = 71 := enE_no hx
    have HE := mEntry_any h0
    rw [hE0] at HE ⊢
    rw [hB0]
    have HE := hide HE
    have HbW := hide hbw0
    have y0 := Blk.cell hBw0 (j := 0) rfl; have y1 := Blk.cell hBw0 (j := 1) rfl; have y2 := Blk.cell hBw0 (j := 2) rfl; have y3 := Blk.cell hBw0 (j := 3) rfl; have y4 := Blk.cell hBw0 (j := 4) rfl; have y5 := Blk.cell hBw0 (j := 5) rfl; have y6 := Blk.cell hBw0 (j := 6) rfl; have y7 := Blk.cell hBw0 (j := 7) rfl; have y8 := Blk.cell hBw0 (j := 8) rfl; have y9 := Blk.cell hBw0 (j := 9) rfl; have y10 := Blk.cell hBw0 (j := 10) rfl; have y11 := Blk.cell hBw0 (j := 11) rfl
    clear hx hE0 hB0 h h0 h' hBw0 hbw0 hl_eOpData hl_eOpOld hl_eGroupMembers hq_eOpData hq_eOpOld hq_eGroupMembers he_eGroupMembers
    go_enter Tryz.func24, Tryz.ntmps24
    go_wp2_with fail
    rw [Hw0.out]
    go_fit HE.out
    rintro xx w1 ⟨rfl, hb1⟩
    have HX := hide (HbW.out.trans (hb1.mono s0))
    clear hb1 HE y0 y1 y2 y3 y4 y5 y6 y7 y8 y9 y10 y11
    go_wp2
    go_ret2
    exact ⟨.slice none 0 0, rfl, World.ownsRow_nil _ _ _ _, HX.out⟩
  | true =>
    obtain ⟨b1, b2, b3, b4, hkb⟩ := entB_bd hx
    simp only at b1 b2 b3 b4
    have hE0 : enE (eKind, eNum, eView, eClient, eSerial, (eOpKind, eOpAt, eOpN, eOpData, eOpOld), (eGroupEpoch, eGroupMembers)) = 0 := enE_ok hx
    have HE := mEntry_any h0
    rw [hE0] at HE ⊢
    have hH0 : entHead (eKind, eNum, eView, eClient, eSerial, (eOpKind, eOpAt, eOpN, eOpData, eOpOld), (eGroupEpoch, eGroupMembers)) = [UInt8.ofNat eKind] ++ flatB 8 [eNum.toNat, eView.toNat, eClient.toNat, eSerial.toNat] := rfl
    have hB0 : entB (eKind, eNum, eView, eClient, eSerial, (eOpKind, eOpAt, eOpN, eOpData, eOpOld), (eGroupEpoch, eGroupMembers)) = entHead (eKind, eNum, eView, eClient, eSerial, (eOpKind, eOpAt, eOpN, eOpData, eOpOld), (eGroupEpoch, eGroupMembers)) ++ (if eKind = 2 then grpB eGroupEpoch eGroupMembers else encL eOpKind eOpAt eOpN eOpData eOpOld) := by unfold entB; rw [if_pos hx]
    have hk1 : eKind = 1 → fmE eOpKind eOpAt eOpN eOpData.length eOpOld.length = 0 := fun hk => kindB_op hkb hk
    have hk2 : eKind ≠ 1 → eKind = 2 ∧ grpOk eGroupEpoch eGroupMembers = true := fun hk => kindB_conf hkb hk
    obtain ⟨RES, hRES⟩ : ∃ y, entB (eKind, eNum, eView, eClient, eSerial, (eOpKind, eOpAt, eOpN, eOpData, eOpOld), (eGroupEpoch, eGroupMembers)) = y := ⟨_, rfl⟩
    rw [hRES] at hB0 ⊢
    rw [hH0] at hB0
    obtain ⟨N1, rfl⟩ := Int.eq_ofNat_of_zero_le (show 0 ≤ eNum by omega)
    obtain ⟨N2, rfl⟩ := Int.eq_ofNat_of_zero_le (show 0 ≤ eView by omega)
    obtain ⟨N3, rfl⟩ := Int.eq_ofNat_of_zero_le (show 0 ≤ eClient by omega)
    obtain ⟨N4, rfl⟩ := Int.eq_ofNat_of_zero_le (show 0 ≤ eSerial by omega)
    simp only [Int.toNat_natCast] at hB0
    obtain ⟨L, hL⟩ : ∃ y, [UInt8.ofNat eKind] ++ flatB 8 [N1, N2, N3, N4] = y := ⟨_, rfl⟩
    have hLl : L.length = 33 := by rw [← hL, List.length_append, flatB_len]; rfl
    rw [hL] at hB0
    have hfl : (flatB (8 : Int).toNat [N1, N2, N3, N4]).length = 32 := by rw [flatB_len]; rfl
    have Hfl := hide hfl
    have HI := hide (fun X d (hd : Rd X (some ⟨d, 0, none⟩) [.int .i64 (N1 : Int), .int .i64 (N2 : Int), .int .i64 (N3 : Int), .int .i64 (N4 : Int)]) => hfl ▸ ints_fit 8 (some ⟨d, 0, none⟩) 4 4 [N1, N2, N3, N4] X rfl (by omega) hd (by intro v hv; simp at hv; omega) (by omega) (by intro v hv; show v < 256 ^ 8; simp at hv; omega))
    have hu8 : bys [UInt8.ofNat eKind] = [.int .u8 (eKind : Int)] := by simp [bys, Nat.mod_eq_of_lt hu_eKind]
    have Hu8 := hide hu8
    have HO := hide (fun W (hW : Below w.heap.size w W) => enc_any eOpKind eOpAt eOpN eOpDataA eOpDatan eOpDatac eOpData eOpOldA eOpOldn eOpOldc eOpOld W hu_eOpKind hl_eOpData hl_eOpOld (hr_eOpData.below hW) (hr_eOpOld.below hW))
    have HM := hide (fun W (hW : Below w.heap.size w W) => hr_eGroupMembers.below hW)
    have HLM := hide hl_eGroupMembers
    have HL := hide hL
    have HBB := hide (And.intro hBw0 hbw0)
    have HRES := hide hB0
    have HE := hide HE
    have y0 := Blk.cell hBw0 (j := 0) rfl; have y1 := Blk.cell hBw0 (j := 1) rfl; have y2 := Blk.cell hBw0 (j := 2) rfl; have y3 := Blk.cell hBw0 (j := 3) rfl; have y4 := Blk.cell hBw0 (j := 4) rfl; have y5 := Blk.cell hBw0 (j := 5) rfl; have y6 := Blk.cell hBw0 (j := 6) rfl; have y7 := Blk.cell hBw0 (j := 7) rfl; have y8 := Blk.cell hBw0 (j := 8) rfl; have y9 := Blk.cell hBw0 (j := 9) rfl; have y10 := Blk.cell hBw0 (j := 10) rfl; have y11 := Blk.cell hBw0 (j := 11) rfl
    by_cases hkk : eKind = 1
    · have hf := hk1 hkk
      have hlen := encL_le hf
      have hR : L ++ encL eOpKind eOpAt eOpN eOpData eOpOld = RES := by rw [HRES.out, if_neg (by omega)]
      have hq2 : ((eKind : Int) == 2) = false := by rw [hkk]; decide
      have HF := hide hf
      have HR := hide hR
      clear hf hR hx hkb hE0 hH0 hk1 hk2 hB0 hRES hL hfl hu8 h h0 h' hBw0 hbw0 hl_eOpData hl_eOpOld hl_eGroupMembers hq_eOpData hq_eOpOld hq_eGroupMembers he_eGroupMembers hr_eOpData hr_eOpOld hr_eGroupMembers hkk
      go_enter Tryz.func24, Tryz.ntmps24
      go_wp2_with fail
      rw [Hw0.out]
      go_fit HE.out
      rintro xx w1 ⟨rfl, hb1⟩
      have hB1 := HBB.out.1.below hb1
      have hb01 := HBB.out.2.trans (hb1.mono s0)
      have s1 := hb01.size
      clear HE y0 y1 y2 y3 y4 y5 y6 y7 y8 y9 y10 y11
      have HS := hide (show ∀ Z, Below w1.heap.size w1 Z → (Z.cell? ⟨w.heap.size, 0, none⟩ = some (.int .u8 (eKind : Int)) ∧ Z.cell? ⟨w.heap.size, 1, none⟩ = some (.int .i64 (N1 : Int)) ∧ Z.cell? ⟨w.heap.size, 2, none⟩ = some (.int .i64 (N2 : Int)) ∧ Z.cell? ⟨w.heap.size, 3, none⟩ = some (.int .i64 (N3 : Int)) ∧ Z.cell? ⟨w.heap.size, 4, none⟩ = some (.int .i64 (N4 : Int))) from fun Z hZ => ⟨(hB1.below hZ).cell (j := 0) rfl, (hB1.below hZ).cell (j := 1) rfl, (hB1.below hZ).cell (j := 2) rfl, (hB1.below hZ).cell (j := 3) rfl, (hB1.below hZ).cell (j := 4) rfl⟩)
      have HB1 := hide (And.intro hB1 hb01)
      clear hB1 hb01 hb1
      go_wp2_with fail
      refine wp_region_held_drew (S := fun Z => Z.cell? ⟨w.heap.size, 0, none⟩ = some (.int .u8 (eKind : Int)) ∧ Z.cell? ⟨w.heap.size, 1, none⟩ = some (.int .i64 (N1 : Int)) ∧ Z.cell? ⟨w.heap.size, 2, none⟩ = some (.int .i64 (N2 : Int)) ∧ Z.cell? ⟨w.heap.size, 3, none⟩ = some (.int .i64 (N3 : Int)) ∧ Z.cell? ⟨w.heap.size, 4, none⟩ = some (.int .i64 (N4 : Int))) (by kernel_rfl) (HS.out w1.drew (Below.refl _ _).drew) (fun hS0 => ?_)
      refine wpAnyH_take (fuel := 14) (i := 0) (v := .pointer (some ⟨w.heap.size, 0, none⟩)) rfl (by kernel_rfl) (by kernel_rfl) (by kernel_rfl) (fun _ _ _ h => h) (Or.inl ⟨by rfl, fun Z hZ => ?_⟩) hS0 ?_
      · obtain ⟨z1, z2, z3, z4, z5⟩ := hZ
        go_simp
      refine wpAnyH_take (fuel := 13) (i := 1) (v := .int .u8 (eKind : Int)) rfl (by kernel_rfl) (by kernel_rfl) (by kernel_rfl) (fun _ _ _ h => h) (Or.inl ⟨by rfl, fun Z hZ => ?_⟩) hS0 ?_
      · obtain ⟨z1, z2, z3, z4, z5⟩ := hZ
        go_simp
      refine wpAnyH_take (fuel := 12) (i := 3) (v := .pointer (some ⟨w.heap.size, 1, none⟩)) rfl (by kernel_rfl) (by kernel_rfl) (by kernel_rfl) (fun _ _ _ h => h) (Or.inl ⟨by rfl, fun Z hZ => ?_⟩) hS0 ?_
      · obtain ⟨z1, z2, z3, z4, z5⟩ := hZ
        go_simp
      refine wpAnyH_take (fuel := 11) (i := 4) (v := .int .i64 (N1 : Int)) rfl (by kernel_rfl) (by kernel_rfl) (by kernel_rfl) (fun _ _ _ h => h) (Or.inl ⟨by rfl, fun Z hZ => ?_⟩) hS0 ?_
      · obtain ⟨z1, z2, z3, z4, z5⟩ := hZ
        go_simp
      refine wpAnyH_take (fuel := 10) (i := 5) (v := .pointer (some ⟨w.heap.size, 2, none⟩)) rfl (by kernel_rfl) (by kernel_rfl) (by kernel_rfl) (fun _ _ _ h => h) (Or.inl ⟨by rfl, fun Z hZ => ?_⟩) hS0 ?_
      · obtain ⟨z1, z2, z3, z4, z5⟩ := hZ
        go_simp
      refine wpAnyH_take (fuel := 9) (i := 6) (v := .int .i64 (N2 : Int)) rfl (by kernel_rfl) (by kernel_rfl) (by kernel_rfl) (fun _ _ _ h => h) (Or.inl ⟨by rfl, fun Z hZ => ?_⟩) hS0 ?_
      · obtain ⟨z1, z2, z3, z4, z5⟩ := hZ
        go_simp
      refine wpAnyH_take (fuel := 8) (i := 7) (v := .pointer (some ⟨w.heap.size, 3, none⟩)) rfl (by kernel_rfl) (by kernel_rfl) (by kernel_rfl) (fun _ _ _ h => h) (Or.inl ⟨by rfl, fun Z hZ => ?_⟩) hS0 ?_
      · obtain ⟨z1, z2, z3, z4, z5⟩ := hZ
        go_simp
      refine wpAnyH_take (fuel := 7) (i := 8) (v := .int .i64 (N3 : Int)) rfl (by kernel_rfl) (by kernel_rfl) (by kernel_rfl) (fun _ _ _ h => h) (Or.inl ⟨by rfl, fun Z hZ => ?_⟩) hS0 ?_
      · obtain ⟨z1, z2, z3, z4, z5⟩ := hZ
        go_simp
      refine wpAnyH_take (fuel := 6) (i := 9) (v := .pointer (some ⟨w.heap.size, 4, none⟩)) rfl (by kernel_rfl) (by kernel_rfl) (by kernel_rfl) (fun _ _ _ h => h) (Or.inl ⟨by rfl, fun Z hZ => ?_⟩) hS0 ?_
      · obtain ⟨z1, z2, z3, z4, z5⟩ := hZ
        go_simp
      refine wpAnyH_take (fuel := 5) (i := 10) (v := .int .i64 (N4 : Int)) rfl (by kernel_rfl) (by kernel_rfl) (by kernel_rfl) (fun _ _ _ h => h) (Or.inl ⟨by rfl, fun Z hZ => ?_⟩) hS0 ?_
      · obtain ⟨z1, z2, z3, z4, z5⟩ := hZ
        go_simp
      obtain ⟨X0, hX0⟩ : ∃ y, w1.drew = y := ⟨_, rfl⟩
      have hB0 : Below w1.heap.size w1 X0 := by rw [← hX0]; exact (Below.refl _ _).drew
      rw [hX0] at hS0
      have hw0' := hB0.size
      have HX0 := hide hX0
      rw [hX0]
      clear hX0
      refine all_two (fuel := 4) (i := 2) (j := 11) (by kernel_rfl) rfl rfl rfl rfl (fun Kk hK => ?_) (fun Kk hK => ?_)
      · obtain ⟨X1, hY⟩ : ∃ y, X0.alloc (.cells #[.int .u8 (eKind : Int)] 5) = y := ⟨_, rfl⟩
        obtain ⟨g15, hg⟩ : ∃ y, X0.heap.size = y := ⟨_, rfl⟩
        have hr15 : Rd X1 (some ⟨g15, 0, none⟩) [.int .u8 (eKind : Int)] := by rw [← hY, ← hg]; exact Rd.newN X0 [.int .u8 (eKind : Int)] 5 (0, 0)
        have ho15 : X1.ownsRow X0.heap.size 5 1 (.slice (some ⟨g15, 0, none⟩) 1 1) 1 [.int .u8 (eKind : Int)] := by rw [← hY, ← hg]; exact own_made #[.int .u8 (eKind : Int)] 1 1 (Nat.le_refl _) (Nat.le_refl _) (by unfold maxLen; omega) rfl
        have hst : Below X0.heap.size X0 X1 := by rw [← hY]; exact (Below.refl _ _).alloc (Nat.le_refl _) _
        have HY := hide hY
        have Hg := hide hg
        clear hY hg
        go_simp
        rw [HY.out, Hg.out]
        have hB1 := hB0.trans (hst.mono hB0.size)
        have hz1 := hst.size
        have hw1 := hB1.size
        have hS1 := HS.out X1 hB1
        clear hst
        refine hK _ _ ⟨hS1, ?_⟩
        clear hK Kk
        refine all_one (fuel := 3) (i := 11) (by kernel_rfl) rfl rfl (fun Kk hK => ?_)
        obtain ⟨X2, hY⟩ : ∃ y, X1.alloc (.cells #[.int .i64 (N1 : Int), .int .i64 (N2 : Int), .int .i64 (N3 : Int), .int .i64 (N4 : Int)] 3) = y := ⟨_, rfl⟩
        obtain ⟨g24, hg⟩ : ∃ y, X1.heap.size = y := ⟨_, rfl⟩
        have hr24 : Rd X2 (some ⟨g24, 0, none⟩) [.int .i64 (N1 : Int), .int .i64 (N2 : Int), .int .i64 (N3 : Int), .int .i64 (N4 : Int)] := by rw [← hY, ← hg]; exact Rd.newN X1 [.int .i64 (N1 : Int), .int .i64 (N2 : Int), .int .i64 (N3 : Int), .int .i64 (N4 : Int)] 3 (0, 0)
        have hst : Below X1.heap.size X1 X2 := by rw [← hY]; exact (Below.refl _ _).alloc (Nat.le_refl _) _
        have HY := hide hY
        have Hg := hide hg
        clear hY hg
        go_simp
        rw [HY.out, Hg.out]
        have hB2 := hB1.trans (hst.mono hB1.size)
        have hz2 := hst.size
        have hw2 := hB2.size
        have hS2 := HS.out X2 hB2
        replace hr15 := hr15.below hst
        replace ho15 := own_below ho15 hst
        clear hst
        refine hK _ _ ⟨hS2, ?_⟩
        clear hK Kk
        refine all_one (fuel := 2) (i := 12) (by kernel_rfl) rfl rfl (fun Kk hK => ?_)
        go_simp
        refine (HI.out X2 g24 hr24).mono ?_
        rintro e' X3 ⟨v25, rfl, ho25, hst⟩
        obtain ⟨A25, c25, rfl, _, hc25, hm25, hr25, _⟩ := own_out ho25
        have hB3 := hB2.trans (hst.mono hB2.size)
        have hz3 := hst.size
        have hw3 := hB3.size
        have hS3 := HS.out X3 hB3
        replace hr15 := hr15.below hst
        replace ho15 := own_below ho15 hst
        replace hr24 := hr24.below hst
        clear hst
        refine hK _ _ ⟨hS3, ?_⟩
        clear hK Kk
        refine all_one (fuel := 1) (i := 13) (by kernel_rfl) rfl rfl (fun Kk hK => ?_)
        refine oper_own rfl tBytes (by rfl) ho15 (A := A25) (m := 32) (c := c25) (by rfl) (by rw [bys_length]; simpa using Hfl.out) hr25 (bys_one _) (by omega) (by omega) (by omega) ?_
        intro v26 X4 ho26 hgr hkr
        have hB4 := own_grow ho15 hB3 (by omega) (by omega) hgr
        have hS4 := HS.out X4 hB4
        clear hgr hkr
        refine hK _ _ ⟨hS4, ?_⟩
        clear hK Kk
        refine wpAnyH_take (fuel := 0) (i := 14) (v := v26) rfl (by kernel_rfl) (by kernel_rfl) (by kernel_rfl) (fun _ _ _ h => h) (Or.inl ⟨by rfl, fun Z hZ => ?_⟩) hS4 ?_
        · obtain ⟨z1, z2, z3, z4, z5⟩ := hZ
          go_simp
        refine wpAnyH_done (by kernel_rfl) ?_ _
        try simp only [Act.put, List.setIfInBounds_toArray, List.set_cons_zero, List.set_cons_succ, List.getElem_toArray, List.getElem_cons_zero, List.getElem_cons_succ]
        have hoL := own_weak ho26 (show w.heap.size ≤ _ by omega)
        rw [← Hu8.out, ← bys_append] at hoL
        have hLe : [UInt8.ofNat eKind] ++ flatB (8 : Int).toNat [N1, N2, N3, N4] = L := HL.out
        rw [hLe] at hoL
        clear hLe
        have hbk := HB1.out.1.below hB4
        have hbw := HB1.out.2.trans (hB4.mono (by omega))
        have hwz := hbw.size
        obtain ⟨A26, c26, rfl, _, hc26, hm26, hr26, _⟩ := own_out hoL
        have x0 := hbk.cell (j := 0) rfl
        have x5 := hbk.cell (j := 5) rfl; have x6 := hbk.cell (j := 6) rfl; have x7 := hbk.cell (j := 7) rfl; have x8 := hbk.cell (j := 8) rfl; have x9 := hbk.cell (j := 9) rfl
        have HO4 := hide (HO.out X4 hbw)
        have HbW := hide (And.intro hbw hoL)
        clear ho26 hS4 hbw hS0 HS hbk hoL hr26
        go_wp2_with fail
        go_fit HO4.out
        rintro e' X5 ⟨v38, rfl, ho38, hst⟩
        rw [HF.out]
        obtain ⟨A38, c38, rfl, _, hc38, hm38, hr38, _⟩ := own_out ho38
        have hoL5 := own_below HbW.out.2 hst
        have hw5 := hst.size
        have hb5 := HbW.out.1.trans (hst.mono hwz)
        clear hst ho38 x0 x5 x6 x7 x8 x9
        go_wp2_with (first | (with_reducible refine stop_append rfl ?_) | (with_reducible refine stop_copy rfl ?_) | (with_reducible refine stop_make rfl ?_))
        refine go_append rfl rfl tBytes (by rfl) hoL5 (A := A38) (m := (encL eOpKind eOpAt eOpN eOpData eOpOld).length) (c := c38) (by rfl) (by rw [bys_length, Nat.mul_one]) hr38 (bys_one _) (by omega) (by omega) (by omega) ?_
        intro v43 X6 ho43 hg43 _
        have hb6 := own_grow hoL5 hb5 (Nat.le_refl _) (by omega) hg43
        have ho43' : X6.ownsRow w.heap.size 5 1 v43 RES.length (bys RES) := by
          rw [← HR.out, bys_append, List.length_append, hLl]
          exact ho43
        clear ho43 hoL5 hg43
        go_wp2
        go_ret2
        exact ⟨_, rfl, ho43', hb6⟩
      · obtain ⟨X1, hY⟩ : ∃ y, X0.alloc (.cells #[.int .i64 (N1 : Int), .int .i64 (N2 : Int), .int .i64 (N3 : Int), .int .i64 (N4 : Int)] 3) = y := ⟨_, rfl⟩
        obtain ⟨g24, hg⟩ : ∃ y, X0.heap.size = y := ⟨_, rfl⟩
        have hr24 : Rd X1 (some ⟨g24, 0, none⟩) [.int .i64 (N1 : Int), .int .i64 (N2 : Int), .int .i64 (N3 : Int), .int .i64 (N4 : Int)] := by rw [← hY, ← hg]; exact Rd.newN X0 [.int .i64 (N1 : Int), .int .i64 (N2 : Int), .int .i64 (N3 : Int), .int .i64 (N4 : Int)] 3 (0, 0)
        have hst : Below X0.heap.size X0 X1 := by rw [← hY]; exact (Below.refl _ _).alloc (Nat.le_refl _) _
        have HY := hide hY
        have Hg := hide hg
        clear hY hg
        go_simp
        rw [HY.out, Hg.out]
        have hB1 := hB0.trans (hst.mono hB0.size)
        have hz1 := hst.size
        have hw1 := hB1.size
        have hS1 := HS.out X1 hB1
        clear hst
        refine hK _ _ ⟨hS1, ?_⟩
        clear hK Kk
        refine all_two (fuel := 3) (i := 2) (j := 12) (by kernel_rfl) rfl rfl rfl rfl (fun Kk hK => ?_) (fun Kk hK => ?_)
        · obtain ⟨X2, hY⟩ : ∃ y, X1.alloc (.cells #[.int .u8 (eKind : Int)] 5) = y := ⟨_, rfl⟩
          obtain ⟨g15, hg⟩ : ∃ y, X1.heap.size = y := ⟨_, rfl⟩
          have hr15 : Rd X2 (some ⟨g15, 0, none⟩) [.int .u8 (eKind : Int)] := by rw [← hY, ← hg]; exact Rd.newN X1 [.int .u8 (eKind : Int)] 5 (0, 0)
          have ho15 : X2.ownsRow X1.heap.size 5 1 (.slice (some ⟨g15, 0, none⟩) 1 1) 1 [.int .u8 (eKind : Int)] := by rw [← hY, ← hg]; exact own_made #[.int .u8 (eKind : Int)] 1 1 (Nat.le_refl _) (Nat.le_refl _) (by unfold maxLen; omega) rfl
          have hst : Below X1.heap.size X1 X2 := by rw [← hY]; exact (Below.refl _ _).alloc (Nat.le_refl _) _
          have HY := hide hY
          have Hg := hide hg
          clear hY hg
          go_simp
          rw [HY.out, Hg.out]
          have hB2 := hB1.trans (hst.mono hB1.size)
          have hz2 := hst.size
          have hw2 := hB2.size
          have hS2 := HS.out X2 hB2
          replace hr24 := hr24.below hst
          clear hst
          refine hK _ _ ⟨hS2, ?_⟩
          clear hK Kk
          refine all_one (fuel := 2) (i := 12) (by kernel_rfl) rfl rfl (fun Kk hK => ?_)
          go_simp
          refine (HI.out X2 g24 hr24).mono ?_
          rintro e' X3 ⟨v25, rfl, ho25, hst⟩
          obtain ⟨A25, c25, rfl, _, hc25, hm25, hr25, _⟩ := own_out ho25
          have hB3 := hB2.trans (hst.mono hB2.size)
          have hz3 := hst.size
          have hw3 := hB3.size
          have hS3 := HS.out X3 hB3
          replace hr24 := hr24.below hst
          replace hr15 := hr15.below hst
          replace ho15 := own_below ho15 hst
          clear hst
          refine hK _ _ ⟨hS3, ?_⟩
          clear hK Kk
          refine all_one (fuel := 1) (i := 13) (by kernel_rfl) rfl rfl (fun Kk hK => ?_)
          refine oper_own rfl tBytes (by rfl) ho15 (A := A25) (m := 32) (c := c25) (by rfl) (by rw [bys_length]; simpa using Hfl.out) hr25 (bys_one _) (by omega) (by omega) (by omega) ?_
          intro v26 X4 ho26 hgr hkr
          have hB4 := own_grow ho15 hB3 (by omega) (by omega) hgr
          have hS4 := HS.out X4 hB4
          clear hgr hkr
          refine hK _ _ ⟨hS4, ?_⟩
          clear hK Kk
          refine wpAnyH_take (fuel := 0) (i := 14) (v := v26) rfl (by kernel_rfl) (by kernel_rfl) (by kernel_rfl) (fun _ _ _ h => h) (Or.inl ⟨by rfl, fun Z hZ => ?_⟩) hS4 ?_
          · obtain ⟨z1, z2, z3, z4, z5⟩ := hZ
            go_simp
          refine wpAnyH_done (by kernel_rfl) ?_ _
          try simp only [Act.put, List.setIfInBounds_toArray, List.set_cons_zero, List.set_cons_succ, List.getElem_toArray, List.getElem_cons_zero, List.getElem_cons_succ]
          have hoL := own_weak ho26 (show w.heap.size ≤ _ by omega)
          rw [← Hu8.out, ← bys_append] at hoL
          have hLe : [UInt8.ofNat eKind] ++ flatB (8 : Int).toNat [N1, N2, N3, N4] = L := HL.out
          rw [hLe] at hoL
          clear hLe
          have hbk := HB1.out.1.below hB4
          have hbw := HB1.out.2.trans (hB4.mono (by omega))
          have hwz := hbw.size
          obtain ⟨A26, c26, rfl, _, hc26, hm26, hr26, _⟩ := own_out hoL
          have x0 := hbk.cell (j := 0) rfl
          have x5 := hbk.cell (j := 5) rfl; have x6 := hbk.cell (j := 6) rfl; have x7 := hbk.cell (j := 7) rfl; have x8 := hbk.cell (j := 8) rfl; have x9 := hbk.cell (j := 9) rfl
          have HO4 := hide (HO.out X4 hbw)
          have HbW := hide (And.intro hbw hoL)
          clear ho26 hS4 hbw hS0 HS hbk hoL hr26
          go_wp2_with fail
          go_fit HO4.out
          rintro e' X5 ⟨v38, rfl, ho38, hst⟩
          rw [HF.out]
          obtain ⟨A38, c38, rfl, _, hc38, hm38, hr38, _⟩ := own_out ho38
          have hoL5 := own_below HbW.out.2 hst
          have hw5 := hst.size
          have hb5 := HbW.out.1.trans (hst.mono hwz)
          clear hst ho38 x0 x5 x6 x7 x8 x9
          go_wp2_with (first | (with_reducible refine stop_append rfl ?_) | (with_reducible refine stop_copy rfl ?_) | (with_reducible refine stop_make rfl ?_))
          refine go_append rfl rfl tBytes (by rfl) hoL5 (A := A38) (m := (encL eOpKind eOpAt eOpN eOpData eOpOld).length) (c := c38) (by rfl) (by rw [bys_length, Nat.mul_one]) hr38 (bys_one _) (by omega) (by omega) (by omega) ?_
          intro v43 X6 ho43 hg43 _
          have hb6 := own_grow hoL5 hb5 (Nat.le_refl _) (by omega) hg43
          have ho43' : X6.ownsRow w.heap.size 5 1 v43 RES.length (bys RES) := by
            rw [← HR.out, bys_append, List.length_append, hLl]
            exact ho43
          clear ho43 hoL5 hg43
          go_wp2
          go_ret2
          exact ⟨_, rfl, ho43', hb6⟩
        · go_simp
          refine (HI.out X1 g24 hr24).mono ?_
          rintro e' X2 ⟨v25, rfl, ho25, hst⟩
          obtain ⟨A25, c25, rfl, _, hc25, hm25, hr25, _⟩ := own_out ho25
          have hB2 := hB1.trans (hst.mono hB1.size)
          have hz2 := hst.size
          have hw2 := hB2.size
          have hS2 := HS.out X2 hB2
          replace hr24 := hr24.below hst
          clear hst
          refine hK _ _ ⟨hS2, ?_⟩
          clear hK Kk
          refine all_one (fuel := 2) (i := 2) (by kernel_rfl) rfl rfl (fun Kk hK => ?_)
          obtain ⟨X3, hY⟩ : ∃ y, X2.alloc (.cells #[.int .u8 (eKind : Int)] 5) = y := ⟨_, rfl⟩
          obtain ⟨g15, hg⟩ : ∃ y, X2.heap.size = y := ⟨_, rfl⟩
          have hr15 : Rd X3 (some ⟨g15, 0, none⟩) [.int .u8 (eKind : Int)] := by rw [← hY, ← hg]; exact Rd.newN X2 [.int .u8 (eKind : Int)] 5 (0, 0)
          have ho15 : X3.ownsRow X2.heap.size 5 1 (.slice (some ⟨g15, 0, none⟩) 1 1) 1 [.int .u8 (eKind : Int)] := by rw [← hY, ← hg]; exact own_made #[.int .u8 (eKind : Int)] 1 1 (Nat.le_refl _) (Nat.le_refl _) (by unfold maxLen; omega) rfl
          have hst : Below X2.heap.size X2 X3 := by rw [← hY]; exact (Below.refl _ _).alloc (Nat.le_refl _) _
          have HY := hide hY
          have Hg := hide hg
          clear hY hg
          go_simp
          rw [HY.out, Hg.out]
          have hB3 := hB2.trans (hst.mono hB2.size)
          have hz3 := hst.size
          have hw3 := hB3.size
          have hS3 := HS.out X3 hB3
          replace hr24 := hr24.below hst
          replace hr25 := hr25.below hst
          clear hst
          refine hK _ _ ⟨hS3, ?_⟩
          clear hK Kk
          refine all_one (fuel := 1) (i := 13) (by kernel_rfl) rfl rfl (fun Kk hK => ?_)
          refine oper_own rfl tBytes (by rfl) ho15 (A := A25) (m := 32) (c := c25) (by rfl) (by rw [bys_length]; simpa using Hfl.out) hr25 (bys_one _) (by omega) (by omega) (by omega) ?_
          intro v26 X4 ho26 hgr hkr
          have hB4 := own_grow ho15 hB3 (by omega) (by omega) hgr
          have hS4 := HS.out X4 hB4
          clear hgr hkr
          refine hK _ _ ⟨hS4, ?_⟩
          clear hK Kk
          refine wpAnyH_take (fuel := 0) (i := 14) (v := v26) rfl (by kernel_rfl) (by kernel_rfl) (by kernel_rfl) (fun _ _ _ h => h) (Or.inl ⟨by rfl, fun Z hZ => ?_⟩) hS4 ?_
          · obtain ⟨z1, z2, z3, z4, z5⟩ := hZ
            go_simp
          refine wpAnyH_done (by kernel_rfl) ?_ _
          try simp only [Act.put, List.setIfInBounds_toArray, List.set_cons_zero, List.set_cons_succ, List.getElem_toArray, List.getElem_cons_zero, List.getElem_cons_succ]
          have hoL := own_weak ho26 (show w.heap.size ≤ _ by omega)
          rw [← Hu8.out, ← bys_append] at hoL
          have hLe : [UInt8.ofNat eKind] ++ flatB (8 : Int).toNat [N1, N2, N3, N4] = L := HL.out
          rw [hLe] at hoL
          clear hLe
          have hbk := HB1.out.1.below hB4
          have hbw := HB1.out.2.trans (hB4.mono (by omega))
          have hwz := hbw.size
          obtain ⟨A26, c26, rfl, _, hc26, hm26, hr26, _⟩ := own_out hoL
          have x0 := hbk.cell (j := 0) rfl
          have x5 := hbk.cell (j := 5) rfl; have x6 := hbk.cell (j := 6) rfl; have x7 := hbk.cell (j := 7) rfl; have x8 := hbk.cell (j := 8) rfl; have x9 := hbk.cell (j := 9) rfl
          have HO4 := hide (HO.out X4 hbw)
          have HbW := hide (And.intro hbw hoL)
          clear ho26 hS4 hbw hS0 HS hbk hoL hr26
          go_wp2_with fail
          go_fit HO4.out
          rintro e' X5 ⟨v38, rfl, ho38, hst⟩
          rw [HF.out]
          obtain ⟨A38, c38, rfl, _, hc38, hm38, hr38, _⟩ := own_out ho38
          have hoL5 := own_below HbW.out.2 hst
          have hw5 := hst.size
          have hb5 := HbW.out.1.trans (hst.mono hwz)
          clear hst ho38 x0 x5 x6 x7 x8 x9
          go_wp2_with (first | (with_reducible refine stop_append rfl ?_) | (with_reducible refine stop_copy rfl ?_) | (with_reducible refine stop_make rfl ?_))
          refine go_append rfl rfl tBytes (by rfl) hoL5 (A := A38) (m := (encL eOpKind eOpAt eOpN eOpData eOpOld).length) (c := c38) (by rfl) (by rw [bys_length, Nat.mul_one]) hr38 (bys_one _) (by omega) (by omega) (by omega) ?_
          intro v43 X6 ho43 hg43 _
          have hb6 := own_grow hoL5 hb5 (Nat.le_refl _) (by omega) hg43
          have ho43' : X6.ownsRow w.heap.size 5 1 v43 RES.length (bys RES) := by
            rw [← HR.out, bys_append, List.length_append, hLl]
            exact ho43
          clear ho43 hoL5 hg43
          go_wp2
          go_ret2
          exact ⟨_, rfl, ho43', hb6⟩
    · obtain ⟨hk2', hg⟩ := hk2 hkk
      have hR : L ++ grpB eGroupEpoch eGroupMembers = RES := by rw [HRES.out, if_pos hk2']
      have hq2 : ((eKind : Int) == 2) = true := by rw [hk2']; decide
      have HGO := hide hg
      have HR := hide hR
      have h9g : eGroupMembersn ≤ 9 := by have := (grpOk_bd hg).2.2.1; omega
      clear hg hR hx hkb hE0 hH0 hk1 hk2 hB0 hRES hL hfl hu8 h h0 h' hBw0 hbw0 hl_eOpData hl_eOpOld hl_eGroupMembers hq_eOpData hq_eOpOld hq_eGroupMembers he_eGroupMembers hr_eOpData hr_eOpOld hr_eGroupMembers hkk hk2'
      go_enter Tryz.func24, Tryz.ntmps24
      go_wp2_with fail
      rw [Hw0.out]
      go_fit HE.out
      rintro xx w1 ⟨rfl, hb1⟩
      have hB1 := HBB.out.1.below hb1
      have hb01 := HBB.out.2.trans (hb1.mono s0)
      have s1 := hb01.size
      clear HE y0 y1 y2 y3 y4 y5 y6 y7 y8 y9 y10 y11
      have HS := hide (show ∀ Z, Below w1.heap.size w1 Z → (Z.cell? ⟨w.heap.size, 0, none⟩ = some (.int .u8 (eKind : Int)) ∧ Z.cell? ⟨w.heap.size, 1, none⟩ = some (.int .i64 (N1 : Int)) ∧ Z.cell? ⟨w.heap.size, 2, none⟩ = some (.int .i64 (N2 : Int)) ∧ Z.cell? ⟨w.heap.size, 3, none⟩ = some (.int .i64 (N3 : Int)) ∧ Z.cell? ⟨w.heap.size, 4, none⟩ = some (.int .i64 (N4 : Int))) from fun Z hZ => ⟨(hB1.below hZ).cell (j := 0) rfl, (hB1.below hZ).cell (j := 1) rfl, (hB1.below hZ).cell (j := 2) rfl, (hB1.below hZ).cell (j := 3) rfl, (hB1.below hZ).cell (j := 4) rfl⟩)
      have HB1 := hide (And.intro hB1 hb01)
      clear hB1 hb01 hb1
      go_wp2_with fail
      refine wp_region_held_drew (S := fun Z => Z.cell? ⟨w.heap.size, 0, none⟩ = some (.int .u8 (eKind : Int)) ∧ Z.cell? ⟨w.heap.size, 1, none⟩ = some (.int .i64 (N1 : Int)) ∧ Z.cell? ⟨w.heap.size, 2, none⟩ = some (.int .i64 (N2 : Int)) ∧ Z.cell? ⟨w.heap.size, 3, none⟩ = some (.int .i64 (N3 : Int)) ∧ Z.cell? ⟨w.heap.size, 4, none⟩ = some (.int .i64 (N4 : Int))) (by kernel_rfl) (HS.out w1.drew (Below.refl _ _).drew) (fun hS0 => ?_)
      refine wpAnyH_take (fuel := 14) (i := 0) (v := .pointer (some ⟨w.heap.size, 0, none⟩)) rfl (by kernel_rfl) (by kernel_rfl) (by kernel_rfl) (fun _ _ _ h => h) (Or.inl ⟨by rfl, fun Z hZ => ?_⟩) hS0 ?_
      · obtain ⟨z1, z2, z3, z4, z5⟩ := hZ
        go_simp
      refine wpAnyH_take (fuel := 13) (i := 1) (v := .int .u8 (eKind : Int)) rfl (by kernel_rfl) (by kernel_rfl) (by kernel_rfl) (fun _ _ _ h => h) (Or.inl ⟨by rfl, fun Z hZ => ?_⟩) hS0 ?_
      · obtain ⟨z1, z2, z3, z4, z5⟩ := hZ
        go_simp
      refine wpAnyH_take (fuel := 12) (i := 3) (v := .pointer (some ⟨w.heap.size, 1, none⟩)) rfl (by kernel_rfl) (by kernel_rfl) (by kernel_rfl) (fun _ _ _ h => h) (Or.inl ⟨by rfl, fun Z hZ => ?_⟩) hS0 ?_
      · obtain ⟨z1, z2, z3, z4, z5⟩ := hZ
        go_simp
      refine wpAnyH_take (fuel := 11) (i := 4) (v := .int .i64 (N1 : Int)) rfl (by kernel_rfl) (by kernel_rfl) (by kernel_rfl) (fun _ _ _ h => h) (Or.inl ⟨by rfl, fun Z hZ => ?_⟩) hS0 ?_
      · obtain ⟨z1, z2, z3, z4, z5⟩ := hZ
        go_simp
      refine wpAnyH_take (fuel := 10) (i := 5) (v := .pointer (some ⟨w.heap.size, 2, none⟩)) rfl (by kernel_rfl) (by kernel_rfl) (by kernel_rfl) (fun _ _ _ h => h) (Or.inl ⟨by rfl, fun Z hZ => ?_⟩) hS0 ?_
      · obtain ⟨z1, z2, z3, z4, z5⟩ := hZ
        go_simp
      refine wpAnyH_take (fuel := 9) (i := 6) (v := .int .i64 (N2 : Int)) rfl (by kernel_rfl) (by kernel_rfl) (by kernel_rfl) (fun _ _ _ h => h) (Or.inl ⟨by rfl, fun Z hZ => ?_⟩) hS0 ?_
      · obtain ⟨z1, z2, z3, z4, z5⟩ := hZ
        go_simp
      refine wpAnyH_take (fuel := 8) (i := 7) (v := .pointer (some ⟨w.heap.size, 3, none⟩)) rfl (by kernel_rfl) (by kernel_rfl) (by kernel_rfl) (fun _ _ _ h => h) (Or.inl ⟨by rfl, fun Z hZ => ?_⟩) hS0 ?_
      · obtain ⟨z1, z2, z3, z4, z5⟩ := hZ
        go_simp
      refine wpAnyH_take (fuel := 7) (i := 8) (v := .int .i64 (N3 : Int)) rfl (by kernel_rfl) (by kernel_rfl) (by kernel_rfl) (fun _ _ _ h => h) (Or.inl ⟨by rfl, fun Z hZ => ?_⟩) hS0 ?_
      · obtain ⟨z1, z2, z3, z4, z5⟩ := hZ
        go_simp
      refine wpAnyH_take (fuel := 6) (i := 9) (v := .pointer (some ⟨w.heap.size, 4, none⟩)) rfl (by kernel_rfl) (by kernel_rfl) (by kernel_rfl) (fun _ _ _ h => h) (Or.inl ⟨by rfl, fun Z hZ => ?_⟩) hS0 ?_
      · obtain ⟨z1, z2, z3, z4, z5⟩ := hZ
        go_simp
      refine wpAnyH_take (fuel := 5) (i := 10) (v := .int .i64 (N4 : Int)) rfl (by kernel_rfl) (by kernel_rfl) (by kernel_rfl) (fun _ _ _ h => h) (Or.inl ⟨by rfl, fun Z hZ => ?_⟩) hS0 ?_
      · obtain ⟨z1, z2, z3, z4, z5⟩ := hZ
        go_simp
      obtain ⟨X0, hX0⟩ : ∃ y, w1.drew = y := ⟨_, rfl⟩
      have hB0 : Below w1.heap.size w1 X0 := by rw [← hX0]; exact (Below.refl _ _).drew
      rw [hX0] at hS0
      have hw0' := hB0.size
      have HX0 := hide hX0
      rw [hX0]
      clear hX0
      refine all_two (fuel := 4) (i := 2) (j := 11) (by kernel_rfl) rfl rfl rfl rfl (fun Kk hK => ?_) (fun Kk hK => ?_)
      · obtain ⟨X1, hY⟩ : ∃ y, X0.alloc (.cells #[.int .u8 (eKind : Int)] 5) = y := ⟨_, rfl⟩
        obtain ⟨g15, hg⟩ : ∃ y, X0.heap.size = y := ⟨_, rfl⟩
        have hr15 : Rd X1 (some ⟨g15, 0, none⟩) [.int .u8 (eKind : Int)] := by rw [← hY, ← hg]; exact Rd.newN X0 [.int .u8 (eKind : Int)] 5 (0, 0)
        have ho15 : X1.ownsRow X0.heap.size 5 1 (.slice (some ⟨g15, 0, none⟩) 1 1) 1 [.int .u8 (eKind : Int)] := by rw [← hY, ← hg]; exact own_made #[.int .u8 (eKind : Int)] 1 1 (Nat.le_refl _) (Nat.le_refl _) (by unfold maxLen; omega) rfl
        have hst : Below X0.heap.size X0 X1 := by rw [← hY]; exact (Below.refl _ _).alloc (Nat.le_refl _) _
        have HY := hide hY
        have Hg := hide hg
        clear hY hg
        go_simp
        rw [HY.out, Hg.out]
        have hB1 := hB0.trans (hst.mono hB0.size)
        have hz1 := hst.size
        have hw1 := hB1.size
        have hS1 := HS.out X1 hB1
        clear hst
        refine hK _ _ ⟨hS1, ?_⟩
        clear hK Kk
        refine all_one (fuel := 3) (i := 11) (by kernel_rfl) rfl rfl (fun Kk hK => ?_)
        obtain ⟨X2, hY⟩ : ∃ y, X1.alloc (.cells #[.int .i64 (N1 : Int), .int .i64 (N2 : Int), .int .i64 (N3 : Int), .int .i64 (N4 : Int)] 3) = y := ⟨_, rfl⟩
        obtain ⟨g24, hg⟩ : ∃ y, X1.heap.size = y := ⟨_, rfl⟩
        have hr24 : Rd X2 (some ⟨g24, 0, none⟩) [.int .i64 (N1 : Int), .int .i64 (N2 : Int), .int .i64 (N3 : Int), .int .i64 (N4 : Int)] := by rw [← hY, ← hg]; exact Rd.newN X1 [.int .i64 (N1 : Int), .int .i64 (N2 : Int), .int .i64 (N3 : Int), .int .i64 (N4 : Int)] 3 (0, 0)
        have hst : Below X1.heap.size X1 X2 := by rw [← hY]; exact (Below.refl _ _).alloc (Nat.le_refl _) _
        have HY := hide hY
        have Hg := hide hg
        clear hY hg
        go_simp
        rw [HY.out, Hg.out]
        have hB2 := hB1.trans (hst.mono hB1.size)
        have hz2 := hst.size
        have hw2 := hB2.size
        have hS2 := HS.out X2 hB2
        replace hr15 := hr15.below hst
        replace ho15 := own_below ho15 hst
        clear hst
        refine hK _ _ ⟨hS2, ?_⟩
        clear hK Kk
        refine all_one (fuel := 2) (i := 12) (by kernel_rfl) rfl rfl (fun Kk hK => ?_)
        go_simp
        refine (HI.out X2 g24 hr24).mono ?_
        rintro e' X3 ⟨v25, rfl, ho25, hst⟩
        obtain ⟨A25, c25, rfl, _, hc25, hm25, hr25, _⟩ := own_out ho25
        have hB3 := hB2.trans (hst.mono hB2.size)
        have hz3 := hst.size
        have hw3 := hB3.size
        have hS3 := HS.out X3 hB3
        replace hr15 := hr15.below hst
        replace ho15 := own_below ho15 hst
        replace hr24 := hr24.below hst
        clear hst
        refine hK _ _ ⟨hS3, ?_⟩
        clear hK Kk
        refine all_one (fuel := 1) (i := 13) (by kernel_rfl) rfl rfl (fun Kk hK => ?_)
        refine oper_own rfl tBytes (by rfl) ho15 (A := A25) (m := 32) (c := c25) (by rfl) (by rw [bys_length]; simpa using Hfl.out) hr25 (bys_one _) (by omega) (by omega) (by omega) ?_
        intro v26 X4 ho26 hgr hkr
        have hB4 := own_grow ho15 hB3 (by omega) (by omega) hgr
        have hS4 := HS.out X4 hB4
        clear hgr hkr
        refine hK _ _ ⟨hS4, ?_⟩
        clear hK Kk
        refine wpAnyH_take (fuel := 0) (i := 14) (v := v26) rfl (by kernel_rfl) (by kernel_rfl) (by kernel_rfl) (fun _ _ _ h => h) (Or.inl ⟨by rfl, fun Z hZ => ?_⟩) hS4 ?_
        · obtain ⟨z1, z2, z3, z4, z5⟩ := hZ
          go_simp
        refine wpAnyH_done (by kernel_rfl) ?_ _
        try simp only [Act.put, List.setIfInBounds_toArray, List.set_cons_zero, List.set_cons_succ, List.getElem_toArray, List.getElem_cons_zero, List.getElem_cons_succ]
        have hoL := own_weak ho26 (show w.heap.size ≤ _ by omega)
        rw [← Hu8.out, ← bys_append] at hoL
        have hLe : [UInt8.ofNat eKind] ++ flatB (8 : Int).toNat [N1, N2, N3, N4] = L := HL.out
        rw [hLe] at hoL
        clear hLe
        have hbk := HB1.out.1.below hB4
        have hbw := HB1.out.2.trans (hB4.mono (by omega))
        have hwz := hbw.size
        obtain ⟨A26, c26, rfl, _, hc26, hm26, hr26, _⟩ := own_out hoL
        have x0 := hbk.cell (j := 0) rfl
        have x10 := hbk.cell (j := 10) rfl; have x11 := hbk.cell (j := 11) rfl
        have HG4 := hide (cgroup_any eGroupEpoch eGroupMembersA eGroupMembersn eGroupMembersc eGroupMembers X4 HLM.out hc_eGroupMembers (HM.out X4 hbw) HGO.out)
        have hgl : (grpB eGroupEpoch eGroupMembers).length ≤ 18 := by rw [grpB_len]; have := HLM.out; omega
        have HbW := hide (And.intro hbw hoL)
        have hLMn := HLM.out
        clear ho26 hS4 hbw hS0 HS hbk hoL hr26
        go_wp2_with fail
        go_fit HG4.out
        rintro e' X5 ⟨v38, rfl, ho38, hst⟩
        obtain ⟨A38, c38, rfl, _, hc38, hm38, hr38, _⟩ := own_out ho38
        have hoL5 := own_below HbW.out.2 hst
        have hw5 := hst.size
        have hb5 := HbW.out.1.trans (hst.mono hwz)
        clear hst ho38 x0 x10 x11
        go_wp2_with (first | (with_reducible refine stop_append rfl ?_) | (with_reducible refine stop_copy rfl ?_) | (with_reducible refine stop_make rfl ?_))
        refine go_append rfl rfl tBytes (by rfl) hoL5 (A := A38) (m := (grpB eGroupEpoch eGroupMembers).length) (c := c38) (by rfl) (by rw [bys_length, Nat.mul_one]) hr38 (bys_one _) (by omega) (by omega) (by omega) ?_
        intro v43 X6 ho43 hg43 _
        have hb6 := own_grow hoL5 hb5 (Nat.le_refl _) (by omega) hg43
        have ho43' : X6.ownsRow w.heap.size 5 1 v43 RES.length (bys RES) := by
          rw [← HR.out, bys_append, List.length_append, hLl]
          exact ho43
        clear ho43 hoL5 hg43
        go_wp2
        go_ret2
        exact ⟨_, rfl, ho43', hb6⟩
      · obtain ⟨X1, hY⟩ : ∃ y, X0.alloc (.cells #[.int .i64 (N1 : Int), .int .i64 (N2 : Int), .int .i64 (N3 : Int), .int .i64 (N4 : Int)] 3) = y := ⟨_, rfl⟩
        obtain ⟨g24, hg⟩ : ∃ y, X0.heap.size = y := ⟨_, rfl⟩
        have hr24 : Rd X1 (some ⟨g24, 0, none⟩) [.int .i64 (N1 : Int), .int .i64 (N2 : Int), .int .i64 (N3 : Int), .int .i64 (N4 : Int)] := by rw [← hY, ← hg]; exact Rd.newN X0 [.int .i64 (N1 : Int), .int .i64 (N2 : Int), .int .i64 (N3 : Int), .int .i64 (N4 : Int)] 3 (0, 0)
        have hst : Below X0.heap.size X0 X1 := by rw [← hY]; exact (Below.refl _ _).alloc (Nat.le_refl _) _
        have HY := hide hY
        have Hg := hide hg
        clear hY hg
        go_simp
        rw [HY.out, Hg.out]
        have hB1 := hB0.trans (hst.mono hB0.size)
        have hz1 := hst.size
        have hw1 := hB1.size
        have hS1 := HS.out X1 hB1
        clear hst
        refine hK _ _ ⟨hS1, ?_⟩
        clear hK Kk
        refine all_two (fuel := 3) (i := 2) (j := 12) (by kernel_rfl) rfl rfl rfl rfl (fun Kk hK => ?_) (fun Kk hK => ?_)
        · obtain ⟨X2, hY⟩ : ∃ y, X1.alloc (.cells #[.int .u8 (eKind : Int)] 5) = y := ⟨_, rfl⟩
          obtain ⟨g15, hg⟩ : ∃ y, X1.heap.size = y := ⟨_, rfl⟩
          have hr15 : Rd X2 (some ⟨g15, 0, none⟩) [.int .u8 (eKind : Int)] := by rw [← hY, ← hg]; exact Rd.newN X1 [.int .u8 (eKind : Int)] 5 (0, 0)
          have ho15 : X2.ownsRow X1.heap.size 5 1 (.slice (some ⟨g15, 0, none⟩) 1 1) 1 [.int .u8 (eKind : Int)] := by rw [← hY, ← hg]; exact own_made #[.int .u8 (eKind : Int)] 1 1 (Nat.le_refl _) (Nat.le_refl _) (by unfold maxLen; omega) rfl
          have hst : Below X1.heap.size X1 X2 := by rw [← hY]; exact (Below.refl _ _).alloc (Nat.le_refl _) _
          have HY := hide hY
          have Hg := hide hg
          clear hY hg
          go_simp
          rw [HY.out, Hg.out]
          have hB2 := hB1.trans (hst.mono hB1.size)
          have hz2 := hst.size
          have hw2 := hB2.size
          have hS2 := HS.out X2 hB2
          replace hr24 := hr24.below hst
          clear hst
          refine hK _ _ ⟨hS2, ?_⟩
          clear hK Kk
          refine all_one (fuel := 2) (i := 12) (by kernel_rfl) rfl rfl (fun Kk hK => ?_)
          go_simp
          refine (HI.out X2 g24 hr24).mono ?_
          rintro e' X3 ⟨v25, rfl, ho25, hst⟩
          obtain ⟨A25, c25, rfl, _, hc25, hm25, hr25, _⟩ := own_out ho25
          have hB3 := hB2.trans (hst.mono hB2.size)
          have hz3 := hst.size
          have hw3 := hB3.size
          have hS3 := HS.out X3 hB3
          replace hr24 := hr24.below hst
          replace hr15 := hr15.below hst
          replace ho15 := own_below ho15 hst
          clear hst
          refine hK _ _ ⟨hS3, ?_⟩
          clear hK Kk
          refine all_one (fuel := 1) (i := 13) (by kernel_rfl) rfl rfl (fun Kk hK => ?_)
          refine oper_own rfl tBytes (by rfl) ho15 (A := A25) (m := 32) (c := c25) (by rfl) (by rw [bys_length]; simpa using Hfl.out) hr25 (bys_one _) (by omega) (by omega) (by omega) ?_
          intro v26 X4 ho26 hgr hkr
          have hB4 := own_grow ho15 hB3 (by omega) (by omega) hgr
          have hS4 := HS.out X4 hB4
          clear hgr hkr
          refine hK _ _ ⟨hS4, ?_⟩
          clear hK Kk
          refine wpAnyH_take (fuel := 0) (i := 14) (v := v26) rfl (by kernel_rfl) (by kernel_rfl) (by kernel_rfl) (fun _ _ _ h => h) (Or.inl ⟨by rfl, fun Z hZ => ?_⟩) hS4 ?_
          · obtain ⟨z1, z2, z3, z4, z5⟩ := hZ
            go_simp
          refine wpAnyH_done (by kernel_rfl) ?_ _
          try simp only [Act.put, List.setIfInBounds_toArray, List.set_cons_zero, List.set_cons_succ, List.getElem_toArray, List.getElem_cons_zero, List.getElem_cons_succ]
          have hoL := own_weak ho26 (show w.heap.size ≤ _ by omega)
          rw [← Hu8.out, ← bys_append] at hoL
          have hLe : [UInt8.ofNat eKind] ++ flatB (8 : Int).toNat [N1, N2, N3, N4] = L := HL.out
          rw [hLe] at hoL
          clear hLe
          have hbk := HB1.out.1.below hB4
          have hbw := HB1.out.2.trans (hB4.mono (by omega))
          have hwz := hbw.size
          obtain ⟨A26, c26, rfl, _, hc26, hm26, hr26, _⟩ := own_out hoL
          have x0 := hbk.cell (j := 0) rfl
          have x10 := hbk.cell (j := 10) rfl; have x11 := hbk.cell (j := 11) rfl
          have HG4 := hide (cgroup_any eGroupEpoch eGroupMembersA eGroupMembersn eGroupMembersc eGroupMembers X4 HLM.out hc_eGroupMembers (HM.out X4 hbw) HGO.out)
          have hgl : (grpB eGroupEpoch eGroupMembers).length ≤ 18 := by rw [grpB_len]; have := HLM.out; omega
          have HbW := hide (And.intro hbw hoL)
          have hLMn := HLM.out
          clear ho26 hS4 hbw hS0 HS hbk hoL hr26
          go_wp2_with fail
          go_fit HG4.out
          rintro e' X5 ⟨v38, rfl, ho38, hst⟩
          obtain ⟨A38, c38, rfl, _, hc38, hm38, hr38, _⟩ := own_out ho38
          have hoL5 := own_below HbW.out.2 hst
          have hw5 := hst.size
          have hb5 := HbW.out.1.trans (hst.mono hwz)
          clear hst ho38 x0 x10 x11
          go_wp2_with (first | (with_reducible refine stop_append rfl ?_) | (with_reducible refine stop_copy rfl ?_) | (with_reducible refine stop_make rfl ?_))
          refine go_append rfl rfl tBytes (by rfl) hoL5 (A := A38) (m := (grpB eGroupEpoch eGroupMembers).length) (c := c38) (by rfl) (by rw [bys_length, Nat.mul_one]) hr38 (bys_one _) (by omega) (by omega) (by omega) ?_
          intro v43 X6 ho43 hg43 _
          have hb6 := own_grow hoL5 hb5 (Nat.le_refl _) (by omega) hg43
          have ho43' : X6.ownsRow w.heap.size 5 1 v43 RES.length (bys RES) := by
            rw [← HR.out, bys_append, List.length_append, hLl]
            exact ho43
          clear ho43 hoL5 hg43
          go_wp2
          go_ret2
          exact ⟨_, rfl, ho43', hb6⟩
        · go_simp
          refine (HI.out X1 g24 hr24).mono ?_
          rintro e' X2 ⟨v25, rfl, ho25, hst⟩
          obtain ⟨A25, c25, rfl, _, hc25, hm25, hr25, _⟩ := own_out ho25
          have hB2 := hB1.trans (hst.mono hB1.size)
          have hz2 := hst.size
          have hw2 := hB2.size
          have hS2 := HS.out X2 hB2
          replace hr24 := hr24.below hst
          clear hst
          refine hK _ _ ⟨hS2, ?_⟩
          clear hK Kk
          refine all_one (fuel := 2) (i := 2) (by kernel_rfl) rfl rfl (fun Kk hK => ?_)
          obtain ⟨X3, hY⟩ : ∃ y, X2.alloc (.cells #[.int .u8 (eKind : Int)] 5) = y := ⟨_, rfl⟩
          obtain ⟨g15, hg⟩ : ∃ y, X2.heap.size = y := ⟨_, rfl⟩
          have hr15 : Rd X3 (some ⟨g15, 0, none⟩) [.int .u8 (eKind : Int)] := by rw [← hY, ← hg]; exact Rd.newN X2 [.int .u8 (eKind : Int)] 5 (0, 0)
          have ho15 : X3.ownsRow X2.heap.size 5 1 (.slice (some ⟨g15, 0, none⟩) 1 1) 1 [.int .u8 (eKind : Int)] := by rw [← hY, ← hg]; exact own_made #[.int .u8 (eKind : Int)] 1 1 (Nat.le_refl _) (Nat.le_refl _) (by unfold maxLen; omega) rfl
          have hst : Below X2.heap.size X2 X3 := by rw [← hY]; exact (Below.refl _ _).alloc (Nat.le_refl _) _
          have HY := hide hY
          have Hg := hide hg
          clear hY hg
          go_simp
          rw [HY.out, Hg.out]
          have hB3 := hB2.trans (hst.mono hB2.size)
          have hz3 := hst.size
          have hw3 := hB3.size
          have hS3 := HS.out X3 hB3
          replace hr24 := hr24.below hst
          replace hr25 := hr25.below hst
          clear hst
          refine hK _ _ ⟨hS3, ?_⟩
          clear hK Kk
          refine all_one (fuel := 1) (i := 13) (by kernel_rfl) rfl rfl (fun Kk hK => ?_)
          refine oper_own rfl tBytes (by rfl) ho15 (A := A25) (m := 32) (c := c25) (by rfl) (by rw [bys_length]; simpa using Hfl.out) hr25 (bys_one _) (by omega) (by omega) (by omega) ?_
          intro v26 X4 ho26 hgr hkr
          have hB4 := own_grow ho15 hB3 (by omega) (by omega) hgr
          have hS4 := HS.out X4 hB4
          clear hgr hkr
          refine hK _ _ ⟨hS4, ?_⟩
          clear hK Kk
          refine wpAnyH_take (fuel := 0) (i := 14) (v := v26) rfl (by kernel_rfl) (by kernel_rfl) (by kernel_rfl) (fun _ _ _ h => h) (Or.inl ⟨by rfl, fun Z hZ => ?_⟩) hS4 ?_
          · obtain ⟨z1, z2, z3, z4, z5⟩ := hZ
            go_simp
          refine wpAnyH_done (by kernel_rfl) ?_ _
          try simp only [Act.put, List.setIfInBounds_toArray, List.set_cons_zero, List.set_cons_succ, List.getElem_toArray, List.getElem_cons_zero, List.getElem_cons_succ]
          have hoL := own_weak ho26 (show w.heap.size ≤ _ by omega)
          rw [← Hu8.out, ← bys_append] at hoL
          have hLe : [UInt8.ofNat eKind] ++ flatB (8 : Int).toNat [N1, N2, N3, N4] = L := HL.out
          rw [hLe] at hoL
          clear hLe
          have hbk := HB1.out.1.below hB4
          have hbw := HB1.out.2.trans (hB4.mono (by omega))
          have hwz := hbw.size
          obtain ⟨A26, c26, rfl, _, hc26, hm26, hr26, _⟩ := own_out hoL
          have x0 := hbk.cell (j := 0) rfl
          have x10 := hbk.cell (j := 10) rfl; have x11 := hbk.cell (j := 11) rfl
          have HG4 := hide (cgroup_any eGroupEpoch eGroupMembersA eGroupMembersn eGroupMembersc eGroupMembers X4 HLM.out hc_eGroupMembers (HM.out X4 hbw) HGO.out)
          have hgl : (grpB eGroupEpoch eGroupMembers).length ≤ 18 := by rw [grpB_len]; have := HLM.out; omega
          have HbW := hide (And.intro hbw hoL)
          have hLMn := HLM.out
          clear ho26 hS4 hbw hS0 HS hbk hoL hr26
          go_wp2_with fail
          go_fit HG4.out
          rintro e' X5 ⟨v38, rfl, ho38, hst⟩
          obtain ⟨A38, c38, rfl, _, hc38, hm38, hr38, _⟩ := own_out ho38
          have hoL5 := own_below HbW.out.2 hst
          have hw5 := hst.size
          have hb5 := HbW.out.1.trans (hst.mono hwz)
          clear hst ho38 x0 x10 x11
          go_wp2_with (first | (with_reducible refine stop_append rfl ?_) | (with_reducible refine stop_copy rfl ?_) | (with_reducible refine stop_make rfl ?_))
          refine go_append rfl rfl tBytes (by rfl) hoL5 (A := A38) (m := (grpB eGroupEpoch eGroupMembers).length) (c := c38) (by rfl) (by rw [bys_length, Nat.mul_one]) hr38 (bys_one _) (by omega) (by omega) (by omega) ?_
          intro v43 X6 ho43 hg43 _
          have hb6 := own_grow hoL5 hb5 (Nat.le_refl _) (by omega) hg43
          have ho43' : X6.ownsRow w.heap.size 5 1 v43 RES.length (bys RES) := by
            rw [← HR.out, bys_append, List.length_append, hLl]
            exact ho43
          clear ho43 hoL5 hg43
          go_wp2
          go_ret2
          exact ⟨_, rfl, ho43', hb6⟩
end Go.Proofs.YtkknkdjdneldlaaGreat
namespace Go.Proofs.YtkknkdjdneldlaaGreat
set_option maxRecDepth 20000
open Go.RowKit Go.Px Go.Maps
set_option linter.unusedVariables false
set_option linter.unusedSimpArgs false

set_option maxRecDepth 20000 in
set_option maxHeartbeats 6400000 in
theorem rencE_any {w : World} {Q : Nat → Prop} {x : EntryD} {cs : List Value} (h : tyEntry.Is w Q x cs) : Calls Tryz.prog 25 #[.agg cs.toArray] w fun e w' => ∃ v, e = .returned (.tuple #[v, .int .i64 (enE x)]) ∧ w'.ownsRow w.heap.size 5 1 v (entB x).length (bys (entB x)) ∧ Below w.heap.size w w' := by
  have h' := h
  obtain ⟨eKind, eNum, eView, eClient, eSerial, eOpKind, eOpAt, eOpN, eOpData, eOpDataA, eOpDatan, eOpDatac, eOpOld, eOpOldA, eOpOldn, eOpOldc, eGroupEpoch, eGroupMembers, eGroupMembersA, eGroupMembersn, eGroupMembersc, eGroupMembersv, rfl, rfl, hu_eKind, h1_eNum, h2_eNum, h1_eView, h2_eView, h1_eClient, h2_eClient, h1_eSerial, h2_eSerial, hu_eOpKind, h1_eOpAt, h2_eOpAt, h1_eOpN, h2_eOpN, hl_eOpData, hc_eOpData, hm_eOpData, hr_eOpData, hq_eOpData, hl_eOpOld, hc_eOpOld, hm_eOpOld, hr_eOpOld, hq_eOpOld, h1_eGroupEpoch, h2_eGroupEpoch, hl_eGroupMembers, hc_eGroupMembers, hm_eGroupMembers, hr_eGroupMembers, hq_eGroupMembers, he_eGroupMembers⟩ := Entry_out h'
  obtain ⟨hmi, _⟩ := i64rows he_eGroupMembers
  subst hmi
  obtain ⟨w0, hw0⟩ : ∃ x, w.alloc (.cells #[.int .u8 eKind, .int .i64 eNum, .int .i64 eView, .int .i64 eClient, .int .i64 eSerial, .int .u8 eOpKind, .int .i64 eOpAt, .int .i64 eOpN, .slice eOpDataA eOpDatan eOpDatac, .slice eOpOldA eOpOldn eOpOldc, .int .i64 eGroupEpoch, .slice eGroupMembersA eGroupMembersn eGroupMembersc] 49) = x := ⟨_, rfl⟩; have hBw0 : Blk w0 w.heap.size [.int .u8 eKind, .int .i64 eNum, .int .i64 eView, .int .i64 eClient, .int .i64 eSerial, .int .u8 eOpKind, .int .i64 eOpAt, .int .i64 eOpN, .slice eOpDataA eOpDatan eOpDatac, .slice eOpOldA eOpOldn eOpOldc, .int .i64 eGroupEpoch, .slice eGroupMembersA eGroupMembersn eGroupMembersc] 49 := (by rw [← hw0]; exact Blk.new w [.int .u8 eKind, .int .i64 eNum, .int .i64 eView, .int .i64 eClient, .int .i64 eSerial, .int .u8 eOpKind, .int .i64 eOpAt, .int .i64 eOpN, .slice eOpDataA eOpDatan eOpDatac, .slice eOpOldA eOpOldn eOpOldc, .int .i64 eGroupEpoch, .slice eGroupMembersA eGroupMembersn eGroupMembersc] _); have hbw0 : Below w.heap.size w w0 := (by rw [← hw0]; exact (Below.refl _ _).alloc (Nat.le_refl _) _); have Hw0 := hide hw0; clear hw0
  have h0 := h.below hbw0
  have s0 := hbw0.size
  cases hx : entryB (eKind, eNum, eView, eClient, eSerial, (eOpKind, eOpAt, eOpN, eOpData, eOpOld), (eGroupEpoch, eGroupMembers)) with
  | false =>
    have hB0 : entB (eKind, eNum, eView, eClient, eSerial, (eOpKind, eOpAt, eOpN, eOpData, eOpOld), (eGroupEpoch, eGroupMembers)) = [] := by unfold entB; rw [if_neg (by rw [hx]; decide)]
    have hE0 : enE (eKind, eNum, eView, eClient, eSerial, (eOpKind, eOpAt, eOpN, eOpData, eOpOld), (eGroupEpoch, eGroupMembers)) = 71 := enE_no hx
    have HE := rentry_any h0
    rw [hE0] at HE ⊢
    rw [hB0]
    have HE := hide HE
    have HbW := hide hbw0
    have y0 := Blk.cell hBw0 (j := 0) rfl; have y1 := Blk.cell hBw0 (j := 1) rfl; have y2 := Blk.cell hBw0 (j := 2) rfl; have y3 := Blk.cell hBw0 (j := 3) rfl; have y4 := Blk.cell hBw0 (j := 4) rfl; have y5 := Blk.cell hBw0 (j := 5) rfl; have y6 := Blk.cell hBw0 (j := 6) rfl; have y7 := Blk.cell hBw0 (j := 7) rfl; have y8 := Blk.cell hBw0 (j := 8) rfl; have y9 := Blk.cell hBw0 (j := 9) rfl; have y10 := Blk.cell hBw0 (j := 10) rfl; have y11 := Blk.cell hBw0 (j := 11) rfl
    clear hx hE0 hB0 h h0 h' hBw0 hbw0 hl_eOpData hl_eOpOld hl_eGroupMembers hq_eOpData hq_eOpOld hq_eGroupMembers he_eGroupMembers
    go_enter Tryz.func25, Tryz.ntmps25
    go_wp2_with fail
    rw [Hw0.out]
    go_fit HE.out
    rintro xx w1 ⟨rfl, hb1⟩
    have HX := hide (HbW.out.trans (hb1.mono s0))
    clear hb1 HE y0 y1 y2 y3 y4 y5 y6 y7 y8 y9 y10 y11
    go_wp2
    go_ret2
    exact ⟨.slice none 0 0, rfl, World.ownsRow_nil _ _ _ _, HX.out⟩
  | true =>
    obtain ⟨b1, b2, b3, b4, hkb⟩ := entB_bd hx
    simp only at b1 b2 b3 b4
    have hE0 : enE (eKind, eNum, eView, eClient, eSerial, (eOpKind, eOpAt, eOpN, eOpData, eOpOld), (eGroupEpoch, eGroupMembers)) = 0 := enE_ok hx
    have HE := rentry_any h0
    rw [hE0] at HE ⊢
    have hH0 : entHead (eKind, eNum, eView, eClient, eSerial, (eOpKind, eOpAt, eOpN, eOpData, eOpOld), (eGroupEpoch, eGroupMembers)) = [UInt8.ofNat eKind] ++ flatB 8 [eNum.toNat, eView.toNat, eClient.toNat, eSerial.toNat] := rfl
    have hB0 : entB (eKind, eNum, eView, eClient, eSerial, (eOpKind, eOpAt, eOpN, eOpData, eOpOld), (eGroupEpoch, eGroupMembers)) = entHead (eKind, eNum, eView, eClient, eSerial, (eOpKind, eOpAt, eOpN, eOpData, eOpOld), (eGroupEpoch, eGroupMembers)) ++ (if eKind = 2 then grpB eGroupEpoch eGroupMembers else encL eOpKind eOpAt eOpN eOpData eOpOld) := by unfold entB; rw [if_pos hx]
    have hk1 : eKind = 1 → fmE eOpKind eOpAt eOpN eOpData.length eOpOld.length = 0 := fun hk => kindB_op hkb hk
    have hk2 : eKind ≠ 1 → eKind = 2 ∧ grpOk eGroupEpoch eGroupMembers = true := fun hk => kindB_conf hkb hk
    obtain ⟨RES, hRES⟩ : ∃ y, entB (eKind, eNum, eView, eClient, eSerial, (eOpKind, eOpAt, eOpN, eOpData, eOpOld), (eGroupEpoch, eGroupMembers)) = y := ⟨_, rfl⟩
    rw [hRES] at hB0 ⊢
    rw [hH0] at hB0
    obtain ⟨N1, rfl⟩ := Int.eq_ofNat_of_zero_le (show 0 ≤ eNum by omega)
    obtain ⟨N2, rfl⟩ := Int.eq_ofNat_of_zero_le (show 0 ≤ eView by omega)
    obtain ⟨N3, rfl⟩ := Int.eq_ofNat_of_zero_le (show 0 ≤ eClient by omega)
    obtain ⟨N4, rfl⟩ := Int.eq_ofNat_of_zero_le (show 0 ≤ eSerial by omega)
    simp only [Int.toNat_natCast] at hB0
    obtain ⟨L, hL⟩ : ∃ y, [UInt8.ofNat eKind] ++ flatB 8 [N1, N2, N3, N4] = y := ⟨_, rfl⟩
    have hLl : L.length = 33 := by rw [← hL, List.length_append, flatB_len]; rfl
    rw [hL] at hB0
    have hfl : (flatB (8 : Int).toNat [N1, N2, N3, N4]).length = 32 := by rw [flatB_len]; rfl
    have Hfl := hide hfl
    have HI := hide (fun X d (hd : Rd X (some ⟨d, 0, none⟩) [.int .i64 (N1 : Int), .int .i64 (N2 : Int), .int .i64 (N3 : Int), .int .i64 (N4 : Int)]) => hfl ▸ ints_fit 8 (some ⟨d, 0, none⟩) 4 4 [N1, N2, N3, N4] X rfl (by omega) hd (by intro v hv; simp at hv; omega) (by omega) (by intro v hv; show v < 256 ^ 8; simp at hv; omega))
    have hu8 : bys [UInt8.ofNat eKind] = [.int .u8 (eKind : Int)] := by simp [bys, Nat.mod_eq_of_lt hu_eKind]
    have Hu8 := hide hu8
    have HO := hide (fun W (hW : Below w.heap.size w W) => renc_any eOpKind eOpAt eOpN eOpDataA eOpDatan eOpDatac eOpData eOpOldA eOpOldn eOpOldc eOpOld W hu_eOpKind hl_eOpData hl_eOpOld (hr_eOpData.below hW) (hr_eOpOld.below hW))
    have HM := hide (fun W (hW : Below w.heap.size w W) => hr_eGroupMembers.below hW)
    have HLM := hide hl_eGroupMembers
    have HL := hide hL
    have HBB := hide (And.intro hBw0 hbw0)
    have HRES := hide hB0
    have HE := hide HE
    have y0 := Blk.cell hBw0 (j := 0) rfl; have y1 := Blk.cell hBw0 (j := 1) rfl; have y2 := Blk.cell hBw0 (j := 2) rfl; have y3 := Blk.cell hBw0 (j := 3) rfl; have y4 := Blk.cell hBw0 (j := 4) rfl; have y5 := Blk.cell hBw0 (j := 5) rfl; have y6 := Blk.cell hBw0 (j := 6) rfl; have y7 := Blk.cell hBw0 (j := 7) rfl; have y8 := Blk.cell hBw0 (j := 8) rfl; have y9 := Blk.cell hBw0 (j := 9) rfl; have y10 := Blk.cell hBw0 (j := 10) rfl; have y11 := Blk.cell hBw0 (j := 11) rfl
    by_cases hkk : eKind = 1
    · have hf := hk1 hkk
      have hlen := encL_le hf
      have hR : L ++ encL eOpKind eOpAt eOpN eOpData eOpOld = RES := by rw [HRES.out, if_neg (by omega)]
      have hq2 : ((eKind : Int) == 2) = false := by rw [hkk]; decide
      have HF := hide hf
      have HR := hide hR
      clear hf hR hx hkb hE0 hH0 hk1 hk2 hB0 hRES hL hfl hu8 h h0 h' hBw0 hbw0 hl_eOpData hl_eOpOld hl_eGroupMembers hq_eOpData hq_eOpOld hq_eGroupMembers he_eGroupMembers hr_eOpData hr_eOpOld hr_eGroupMembers hkk
      go_enter Tryz.func25, Tryz.ntmps25
      go_wp2_with fail
      rw [Hw0.out]
      go_fit HE.out
      rintro xx w1 ⟨rfl, hb1⟩
      have hB1 := HBB.out.1.below hb1
      have hb01 := HBB.out.2.trans (hb1.mono s0)
      have s1 := hb01.size
      clear HE y0 y1 y2 y3 y4 y5 y6 y7 y8 y9 y10 y11
      obtain ⟨w2, hw2⟩ : ∃ y, w1.alloc (.cells #[.int .u8 (eKind : Int)] 5) = y := ⟨_, rfl⟩
      obtain ⟨g12, hg12⟩ : ∃ y, w1.heap.size = y := ⟨_, rfl⟩
      have hr12 : Rd w2 (some ⟨g12, 0, none⟩) (bys [UInt8.ofNat eKind]) := by rw [Hu8.out, ← hw2, ← hg12]; exact Rd.new1 w1 _ _
      have hb12 : Below w1.heap.size w1 w2 := by rw [← hw2]; exact (Below.refl _ _).alloc (Nat.le_refl _) _
      have hB2 := hB1.below hb12
      have hb02 := hb01.trans (hb12.mono s1)
      have s2 := hb02.size
      have HS := hide (show ∀ Z, Below w2.heap.size w2 Z → (Z.cell? ⟨w.heap.size, 0, none⟩ = some (.int .u8 (eKind : Int)) ∧ Z.cell? ⟨w.heap.size, 1, none⟩ = some (.int .i64 (N1 : Int)) ∧ Z.cell? ⟨w.heap.size, 2, none⟩ = some (.int .i64 (N2 : Int)) ∧ Z.cell? ⟨w.heap.size, 3, none⟩ = some (.int .i64 (N3 : Int)) ∧ Z.cell? ⟨w.heap.size, 4, none⟩ = some (.int .i64 (N4 : Int))) from fun Z hZ => ⟨(hB2.below hZ).cell (j := 0) rfl, (hB2.below hZ).cell (j := 1) rfl, (hB2.below hZ).cell (j := 2) rfl, (hB2.below hZ).cell (j := 3) rfl, (hB2.below hZ).cell (j := 4) rfl⟩)
      have HB1 := hide (And.intro hB2 hb02)
      have y0 := hB1.cell (j := 0) rfl
      have HP1 := hide (fun X (h : Rd X (some ⟨g12, 0, none⟩) (bys [UInt8.ofNat eKind])) => rput7_any (some ⟨g12, 0, none⟩) 1 1 [UInt8.ofNat eKind] N1 8 X rfl (by omega) h (by omega) (by omega) (by omega))
      obtain ⟨L1, hL1⟩ : ∃ y, [UInt8.ofNat eKind] ++ leB 8 N1 = y := ⟨_, rfl⟩
      have hL1l : L1.length = 1 + 8 := by rw [← hL1, List.length_append, leB_length]; rfl
      rw [hL1] at HP1
      have HP2 := hide (fun X A c (h : Rd X A (bys L1)) => rput7_any A (1 + 8) c L1 N2 8 X hL1l (by omega) h (by omega) (by omega) (by omega))
      obtain ⟨L2, hL2⟩ : ∃ y, L1 ++ leB 8 N2 = y := ⟨_, rfl⟩
      have hL2l : L2.length = 1 + 8 + 8 := by rw [← hL2, List.length_append, leB_length, hL1l]
      rw [hL2] at HP2
      have HP3 := hide (fun X A c (h : Rd X A (bys L2)) => rput7_any A (1 + 8 + 8) c L2 N3 8 X hL2l (by omega) h (by omega) (by omega) (by omega))
      obtain ⟨L3, hL3⟩ : ∃ y, L2 ++ leB 8 N3 = y := ⟨_, rfl⟩
      have hL3l : L3.length = 1 + 8 + 8 + 8 := by rw [← hL3, List.length_append, leB_length, hL2l]
      rw [hL3] at HP3
      have HP4 := hide (fun X A c (h : Rd X A (bys L3)) => rput7_any A (1 + 8 + 8 + 8) c L3 N4 8 X hL3l (by omega) h (by omega) (by omega) (by omega))
      have hL4 : L3 ++ leB 8 N4 = L := by rw [← HL.out, ← hL3, ← hL2, ← hL1]; simp [flatB, List.append_assoc]
      rw [hL4] at HP4
      have Hw2 := hide hw2
      have Hg12 := hide hg12
      clear hB1 hb01 hb1 hB2 hb02 hw2 hg12 hL1 hL2 hL3 hL4 hb12
      go_wp2_with fail
      rw [Hw2.out, Hg12.out]
      clear y0
      refine wp_region_held_drew (S := fun Z => Z.cell? ⟨w.heap.size, 0, none⟩ = some (.int .u8 (eKind : Int)) ∧ Z.cell? ⟨w.heap.size, 1, none⟩ = some (.int .i64 (N1 : Int)) ∧ Z.cell? ⟨w.heap.size, 2, none⟩ = some (.int .i64 (N2 : Int)) ∧ Z.cell? ⟨w.heap.size, 3, none⟩ = some (.int .i64 (N3 : Int)) ∧ Z.cell? ⟨w.heap.size, 4, none⟩ = some (.int .i64 (N4 : Int))) (by kernel_rfl) (HS.out w2.drew (Below.refl _ _).drew) (fun hS0 => ?_)
      refine wpAnyH_take (fuel := 13) (i := 0) (v := .slice (some ⟨g12, 0, none⟩) 1 1) rfl (by kernel_rfl) (by kernel_rfl) (by kernel_rfl) (fun _ _ _ h => h) (Or.inl ⟨by rfl, fun Z hZ => ?_⟩) hS0 ?_
      · obtain ⟨z1, z2, z3, z4, z5⟩ := hZ
        go_simp
      refine wpAnyH_take (fuel := 12) (i := 1) (v := .pointer (some ⟨w.heap.size, 1, none⟩)) rfl (by kernel_rfl) (by kernel_rfl) (by kernel_rfl) (fun _ _ _ h => h) (Or.inl ⟨by rfl, fun Z hZ => ?_⟩) hS0 ?_
      · obtain ⟨z1, z2, z3, z4, z5⟩ := hZ
        go_simp
      refine wpAnyH_take (fuel := 11) (i := 2) (v := .int .i64 (N1 : Int)) rfl (by kernel_rfl) (by kernel_rfl) (by kernel_rfl) (fun _ _ _ h => h) (Or.inl ⟨by rfl, fun Z hZ => ?_⟩) hS0 ?_
      · obtain ⟨z1, z2, z3, z4, z5⟩ := hZ
        go_simp
      refine wpAnyH_take (fuel := 10) (i := 4) (v := .pointer (some ⟨w.heap.size, 2, none⟩)) rfl (by kernel_rfl) (by kernel_rfl) (by kernel_rfl) (fun _ _ _ h => h) (Or.inl ⟨by rfl, fun Z hZ => ?_⟩) hS0 ?_
      · obtain ⟨z1, z2, z3, z4, z5⟩ := hZ
        go_simp
      refine wpAnyH_take (fuel := 9) (i := 5) (v := .int .i64 (N2 : Int)) rfl (by kernel_rfl) (by kernel_rfl) (by kernel_rfl) (fun _ _ _ h => h) (Or.inl ⟨by rfl, fun Z hZ => ?_⟩) hS0 ?_
      · obtain ⟨z1, z2, z3, z4, z5⟩ := hZ
        go_simp
      refine wpAnyH_take (fuel := 8) (i := 7) (v := .pointer (some ⟨w.heap.size, 3, none⟩)) rfl (by kernel_rfl) (by kernel_rfl) (by kernel_rfl) (fun _ _ _ h => h) (Or.inl ⟨by rfl, fun Z hZ => ?_⟩) hS0 ?_
      · obtain ⟨z1, z2, z3, z4, z5⟩ := hZ
        go_simp
      refine wpAnyH_take (fuel := 7) (i := 8) (v := .int .i64 (N3 : Int)) rfl (by kernel_rfl) (by kernel_rfl) (by kernel_rfl) (fun _ _ _ h => h) (Or.inl ⟨by rfl, fun Z hZ => ?_⟩) hS0 ?_
      · obtain ⟨z1, z2, z3, z4, z5⟩ := hZ
        go_simp
      refine wpAnyH_take (fuel := 6) (i := 10) (v := .pointer (some ⟨w.heap.size, 4, none⟩)) rfl (by kernel_rfl) (by kernel_rfl) (by kernel_rfl) (fun _ _ _ h => h) (Or.inl ⟨by rfl, fun Z hZ => ?_⟩) hS0 ?_
      · obtain ⟨z1, z2, z3, z4, z5⟩ := hZ
        go_simp
      refine wpAnyH_take (fuel := 5) (i := 11) (v := .int .i64 (N4 : Int)) rfl (by kernel_rfl) (by kernel_rfl) (by kernel_rfl) (fun _ _ _ h => h) (Or.inl ⟨by rfl, fun Z hZ => ?_⟩) hS0 ?_
      · obtain ⟨z1, z2, z3, z4, z5⟩ := hZ
        go_simp
      obtain ⟨X0, hX0⟩ : ∃ y, w2.drew = y := ⟨_, rfl⟩
      have hB0 : Below w2.heap.size w2 X0 := by rw [← hX0]; exact (Below.refl _ _).drew
      rw [hX0] at hS0
      have hw0' := hB0.size
      have HX0 := hide hX0
      rw [hX0]
      clear hX0
      refine all_one (fuel := 4) (i := 3) (by kernel_rfl) rfl rfl (fun Kk hK => ?_)
      go_simp
      refine (HP1.out X0 (by have := hB0; exact hr12.below hB0)).mono ?_
      rintro e' X1 ⟨v1, rfl, ho1, hst⟩
      obtain ⟨A1, c1, rfl, _, hc1, hm1, hr1, _⟩ := own_out ho1
      have hB1 := hB0.trans (hst.mono hB0.size)
      have hz1 := hst.size
      have hw1 := hB1.size
      have hS1 := HS.out X1 hB1
      clear hst
      refine hK _ _ ⟨hS1, ?_⟩
      clear hK Kk
      refine all_one (fuel := 3) (i := 6) (by kernel_rfl) rfl rfl (fun Kk hK => ?_)
      go_simp
      refine (HP2.out X1 A1 c1 hr1).mono ?_
      rintro e' X2 ⟨v2, rfl, ho2, hst⟩
      obtain ⟨A2, c2, rfl, _, hc2, hm2, hr2, _⟩ := own_out ho2
      have hB2 := hB1.trans (hst.mono hB1.size)
      have hz2 := hst.size
      have hw2 := hB2.size
      have hS2 := HS.out X2 hB2
      replace hr1 := hr1.below hst
      clear hst
      refine hK _ _ ⟨hS2, ?_⟩
      clear hK Kk
      refine all_one (fuel := 2) (i := 9) (by kernel_rfl) rfl rfl (fun Kk hK => ?_)
      go_simp
      refine (HP3.out X2 A2 c2 hr2).mono ?_
      rintro e' X3 ⟨v3, rfl, ho3, hst⟩
      obtain ⟨A3, c3, rfl, _, hc3, hm3, hr3, _⟩ := own_out ho3
      have hB3 := hB2.trans (hst.mono hB2.size)
      have hz3 := hst.size
      have hw3 := hB3.size
      have hS3 := HS.out X3 hB3
      replace hr1 := hr1.below hst
      replace hr2 := hr2.below hst
      clear hst
      refine hK _ _ ⟨hS3, ?_⟩
      clear hK Kk
      refine all_one (fuel := 1) (i := 12) (by kernel_rfl) rfl rfl (fun Kk hK => ?_)
      go_simp
      refine (HP4.out X3 A3 c3 hr3).mono ?_
      rintro e' X4 ⟨v4, rfl, ho4, hst⟩
      obtain ⟨A4, c4, rfl, _, hc4, hm4, hr4, _⟩ := own_out ho4
      have ho26 := own_weak ho4 (show w.heap.size ≤ _ by omega)
      have hB4 := hB3.trans (hst.mono hB3.size)
      have hz4 := hst.size
      have hw4 := hB4.size
      have hS4 := HS.out X4 hB4
      replace hr1 := hr1.below hst
      replace hr2 := hr2.below hst
      replace hr3 := hr3.below hst
      clear hst
      refine hK _ _ ⟨hS4, ?_⟩
      clear hK Kk
      refine wpAnyH_take (fuel := 0) (i := 13) (v := .slice A4 (1 + 8 + 8 + 8 + 8) c4) rfl (by kernel_rfl) (by kernel_rfl) (by kernel_rfl) (fun _ _ _ h => h) (Or.inl ⟨by rfl, fun Z hZ => ?_⟩) hS4 ?_
      · obtain ⟨z1, z2, z3, z4, z5⟩ := hZ
        go_simp
      refine wpAnyH_done (by kernel_rfl) ?_ _
      try simp only [Act.put, List.setIfInBounds_toArray, List.set_cons_zero, List.set_cons_succ, List.getElem_toArray, List.getElem_cons_zero, List.getElem_cons_succ]
      have hoL := own_weak ho26 (show w.heap.size ≤ _ by omega)
      have hoL : X4.ownsRow w.heap.size 5 1 (.slice A4 33 c4) 33 (bys L) := hoL
      have hbk := HB1.out.1.below hB4
      have hbw := HB1.out.2.trans (hB4.mono (by omega))
      have hwz := hbw.size
      obtain ⟨_, _, hvv, _, hc26, hm26, hr26, _⟩ := own_out hoL
      injection hvv with e1 e2 e3
      subst e1 e3
      have x0 := hbk.cell (j := 0) rfl
      have x5 := hbk.cell (j := 5) rfl; have x6 := hbk.cell (j := 6) rfl; have x7 := hbk.cell (j := 7) rfl; have x8 := hbk.cell (j := 8) rfl; have x9 := hbk.cell (j := 9) rfl
      have HO4 := hide (HO.out X4 hbw)
      have HbW := hide (And.intro hbw hoL)
      clear ho26 hS4 hbw hS0 HS hbk hoL hr26
      go_wp2_with fail
      go_fit HO4.out
      rintro e' X5 ⟨v38, rfl, ho38, hst⟩
      rw [HF.out]
      obtain ⟨A38, c38, rfl, _, hc38, hm38, hr38, _⟩ := own_out ho38
      have hoL5 := own_below HbW.out.2 hst
      have hw5 := hst.size
      have hb5 := HbW.out.1.trans (hst.mono hwz)
      clear hst ho38 x0 x5 x6 x7 x8 x9
      go_wp2_with (first | (with_reducible refine stop_append rfl ?_) | (with_reducible refine stop_copy rfl ?_) | (with_reducible refine stop_make rfl ?_))
      refine go_append rfl rfl tBytes (by rfl) hoL5 (A := A38) (m := (encL eOpKind eOpAt eOpN eOpData eOpOld).length) (c := c38) (by rfl) (by rw [bys_length, Nat.mul_one]) hr38 (bys_one _) (by omega) (by omega) (by omega) ?_
      intro v43 X6 ho43 hg43 _
      have hb6 := own_grow hoL5 hb5 (Nat.le_refl _) (by omega) hg43
      have ho43' : X6.ownsRow w.heap.size 5 1 v43 RES.length (bys RES) := by
        rw [← HR.out, bys_append, List.length_append, hLl]
        exact ho43
      clear ho43 hoL5 hg43
      go_wp2
      go_ret2
      exact ⟨_, rfl, ho43', hb6⟩
    · obtain ⟨hk2', hg⟩ := hk2 hkk
      have hR : L ++ grpB eGroupEpoch eGroupMembers = RES := by rw [HRES.out, if_pos hk2']
      have hq2 : ((eKind : Int) == 2) = true := by rw [hk2']; decide
      have HGO := hide hg
      have HR := hide hR
      have h9g : eGroupMembersn ≤ 9 := by have := (grpOk_bd hg).2.2.1; omega
      clear hg hR hx hkb hE0 hH0 hk1 hk2 hB0 hRES hL hfl hu8 h h0 h' hBw0 hbw0 hl_eOpData hl_eOpOld hl_eGroupMembers hq_eOpData hq_eOpOld hq_eGroupMembers he_eGroupMembers hr_eOpData hr_eOpOld hr_eGroupMembers hkk hk2'
      go_enter Tryz.func25, Tryz.ntmps25
      go_wp2_with fail
      rw [Hw0.out]
      go_fit HE.out
      rintro xx w1 ⟨rfl, hb1⟩
      have hB1 := HBB.out.1.below hb1
      have hb01 := HBB.out.2.trans (hb1.mono s0)
      have s1 := hb01.size
      clear HE y0 y1 y2 y3 y4 y5 y6 y7 y8 y9 y10 y11
      obtain ⟨w2, hw2⟩ : ∃ y, w1.alloc (.cells #[.int .u8 (eKind : Int)] 5) = y := ⟨_, rfl⟩
      obtain ⟨g12, hg12⟩ : ∃ y, w1.heap.size = y := ⟨_, rfl⟩
      have hr12 : Rd w2 (some ⟨g12, 0, none⟩) (bys [UInt8.ofNat eKind]) := by rw [Hu8.out, ← hw2, ← hg12]; exact Rd.new1 w1 _ _
      have hb12 : Below w1.heap.size w1 w2 := by rw [← hw2]; exact (Below.refl _ _).alloc (Nat.le_refl _) _
      have hB2 := hB1.below hb12
      have hb02 := hb01.trans (hb12.mono s1)
      have s2 := hb02.size
      have HS := hide (show ∀ Z, Below w2.heap.size w2 Z → (Z.cell? ⟨w.heap.size, 0, none⟩ = some (.int .u8 (eKind : Int)) ∧ Z.cell? ⟨w.heap.size, 1, none⟩ = some (.int .i64 (N1 : Int)) ∧ Z.cell? ⟨w.heap.size, 2, none⟩ = some (.int .i64 (N2 : Int)) ∧ Z.cell? ⟨w.heap.size, 3, none⟩ = some (.int .i64 (N3 : Int)) ∧ Z.cell? ⟨w.heap.size, 4, none⟩ = some (.int .i64 (N4 : Int))) from fun Z hZ => ⟨(hB2.below hZ).cell (j := 0) rfl, (hB2.below hZ).cell (j := 1) rfl, (hB2.below hZ).cell (j := 2) rfl, (hB2.below hZ).cell (j := 3) rfl, (hB2.below hZ).cell (j := 4) rfl⟩)
      have HB1 := hide (And.intro hB2 hb02)
      have y0 := hB1.cell (j := 0) rfl
      have HP1 := hide (fun X (h : Rd X (some ⟨g12, 0, none⟩) (bys [UInt8.ofNat eKind])) => rput7_any (some ⟨g12, 0, none⟩) 1 1 [UInt8.ofNat eKind] N1 8 X rfl (by omega) h (by omega) (by omega) (by omega))
      obtain ⟨L1, hL1⟩ : ∃ y, [UInt8.ofNat eKind] ++ leB 8 N1 = y := ⟨_, rfl⟩
      have hL1l : L1.length = 1 + 8 := by rw [← hL1, List.length_append, leB_length]; rfl
      rw [hL1] at HP1
      have HP2 := hide (fun X A c (h : Rd X A (bys L1)) => rput7_any A (1 + 8) c L1 N2 8 X hL1l (by omega) h (by omega) (by omega) (by omega))
      obtain ⟨L2, hL2⟩ : ∃ y, L1 ++ leB 8 N2 = y := ⟨_, rfl⟩
      have hL2l : L2.length = 1 + 8 + 8 := by rw [← hL2, List.length_append, leB_length, hL1l]
      rw [hL2] at HP2
      have HP3 := hide (fun X A c (h : Rd X A (bys L2)) => rput7_any A (1 + 8 + 8) c L2 N3 8 X hL2l (by omega) h (by omega) (by omega) (by omega))
      obtain ⟨L3, hL3⟩ : ∃ y, L2 ++ leB 8 N3 = y := ⟨_, rfl⟩
      have hL3l : L3.length = 1 + 8 + 8 + 8 := by rw [← hL3, List.length_append, leB_length, hL2l]
      rw [hL3] at HP3
      have HP4 := hide (fun X A c (h : Rd X A (bys L3)) => rput7_any A (1 + 8 + 8 + 8) c L3 N4 8 X hL3l (by omega) h (by omega) (by omega) (by omega))
      have hL4 : L3 ++ leB 8 N4 = L := by rw [← HL.out, ← hL3, ← hL2, ← hL1]; simp [flatB, List.append_assoc]
      rw [hL4] at HP4
      have Hw2 := hide hw2
      have Hg12 := hide hg12
      clear hB1 hb01 hb1 hB2 hb02 hw2 hg12 hL1 hL2 hL3 hL4 hb12
      go_wp2_with fail
      rw [Hw2.out, Hg12.out]
      clear y0
      refine wp_region_held_drew (S := fun Z => Z.cell? ⟨w.heap.size, 0, none⟩ = some (.int .u8 (eKind : Int)) ∧ Z.cell? ⟨w.heap.size, 1, none⟩ = some (.int .i64 (N1 : Int)) ∧ Z.cell? ⟨w.heap.size, 2, none⟩ = some (.int .i64 (N2 : Int)) ∧ Z.cell? ⟨w.heap.size, 3, none⟩ = some (.int .i64 (N3 : Int)) ∧ Z.cell? ⟨w.heap.size, 4, none⟩ = some (.int .i64 (N4 : Int))) (by kernel_rfl) (HS.out w2.drew (Below.refl _ _).drew) (fun hS0 => ?_)
      refine wpAnyH_take (fuel := 13) (i := 0) (v := .slice (some ⟨g12, 0, none⟩) 1 1) rfl (by kernel_rfl) (by kernel_rfl) (by kernel_rfl) (fun _ _ _ h => h) (Or.inl ⟨by rfl, fun Z hZ => ?_⟩) hS0 ?_
      · obtain ⟨z1, z2, z3, z4, z5⟩ := hZ
        go_simp
      refine wpAnyH_take (fuel := 12) (i := 1) (v := .pointer (some ⟨w.heap.size, 1, none⟩)) rfl (by kernel_rfl) (by kernel_rfl) (by kernel_rfl) (fun _ _ _ h => h) (Or.inl ⟨by rfl, fun Z hZ => ?_⟩) hS0 ?_
      · obtain ⟨z1, z2, z3, z4, z5⟩ := hZ
        go_simp
      refine wpAnyH_take (fuel := 11) (i := 2) (v := .int .i64 (N1 : Int)) rfl (by kernel_rfl) (by kernel_rfl) (by kernel_rfl) (fun _ _ _ h => h) (Or.inl ⟨by rfl, fun Z hZ => ?_⟩) hS0 ?_
      · obtain ⟨z1, z2, z3, z4, z5⟩ := hZ
        go_simp
      refine wpAnyH_take (fuel := 10) (i := 4) (v := .pointer (some ⟨w.heap.size, 2, none⟩)) rfl (by kernel_rfl) (by kernel_rfl) (by kernel_rfl) (fun _ _ _ h => h) (Or.inl ⟨by rfl, fun Z hZ => ?_⟩) hS0 ?_
      · obtain ⟨z1, z2, z3, z4, z5⟩ := hZ
        go_simp
      refine wpAnyH_take (fuel := 9) (i := 5) (v := .int .i64 (N2 : Int)) rfl (by kernel_rfl) (by kernel_rfl) (by kernel_rfl) (fun _ _ _ h => h) (Or.inl ⟨by rfl, fun Z hZ => ?_⟩) hS0 ?_
      · obtain ⟨z1, z2, z3, z4, z5⟩ := hZ
        go_simp
      refine wpAnyH_take (fuel := 8) (i := 7) (v := .pointer (some ⟨w.heap.size, 3, none⟩)) rfl (by kernel_rfl) (by kernel_rfl) (by kernel_rfl) (fun _ _ _ h => h) (Or.inl ⟨by rfl, fun Z hZ => ?_⟩) hS0 ?_
      · obtain ⟨z1, z2, z3, z4, z5⟩ := hZ
        go_simp
      refine wpAnyH_take (fuel := 7) (i := 8) (v := .int .i64 (N3 : Int)) rfl (by kernel_rfl) (by kernel_rfl) (by kernel_rfl) (fun _ _ _ h => h) (Or.inl ⟨by rfl, fun Z hZ => ?_⟩) hS0 ?_
      · obtain ⟨z1, z2, z3, z4, z5⟩ := hZ
        go_simp
      refine wpAnyH_take (fuel := 6) (i := 10) (v := .pointer (some ⟨w.heap.size, 4, none⟩)) rfl (by kernel_rfl) (by kernel_rfl) (by kernel_rfl) (fun _ _ _ h => h) (Or.inl ⟨by rfl, fun Z hZ => ?_⟩) hS0 ?_
      · obtain ⟨z1, z2, z3, z4, z5⟩ := hZ
        go_simp
      refine wpAnyH_take (fuel := 5) (i := 11) (v := .int .i64 (N4 : Int)) rfl (by kernel_rfl) (by kernel_rfl) (by kernel_rfl) (fun _ _ _ h => h) (Or.inl ⟨by rfl, fun Z hZ => ?_⟩) hS0 ?_
      · obtain ⟨z1, z2, z3, z4, z5⟩ := hZ
        go_simp
      obtain ⟨X0, hX0⟩ : ∃ y, w2.drew = y := ⟨_, rfl⟩
      have hB0 : Below w2.heap.size w2 X0 := by rw [← hX0]; exact (Below.refl _ _).drew
      rw [hX0] at hS0
      have hw0' := hB0.size
      have HX0 := hide hX0
      rw [hX0]
      clear hX0
      refine all_one (fuel := 4) (i := 3) (by kernel_rfl) rfl rfl (fun Kk hK => ?_)
      go_simp
      refine (HP1.out X0 (by have := hB0; exact hr12.below hB0)).mono ?_
      rintro e' X1 ⟨v1, rfl, ho1, hst⟩
      obtain ⟨A1, c1, rfl, _, hc1, hm1, hr1, _⟩ := own_out ho1
      have hB1 := hB0.trans (hst.mono hB0.size)
      have hz1 := hst.size
      have hw1 := hB1.size
      have hS1 := HS.out X1 hB1
      clear hst
      refine hK _ _ ⟨hS1, ?_⟩
      clear hK Kk
      refine all_one (fuel := 3) (i := 6) (by kernel_rfl) rfl rfl (fun Kk hK => ?_)
      go_simp
      refine (HP2.out X1 A1 c1 hr1).mono ?_
      rintro e' X2 ⟨v2, rfl, ho2, hst⟩
      obtain ⟨A2, c2, rfl, _, hc2, hm2, hr2, _⟩ := own_out ho2
      have hB2 := hB1.trans (hst.mono hB1.size)
      have hz2 := hst.size
      have hw2 := hB2.size
      have hS2 := HS.out X2 hB2
      replace hr1 := hr1.below hst
      clear hst
      refine hK _ _ ⟨hS2, ?_⟩
      clear hK Kk
      refine all_one (fuel := 2) (i := 9) (by kernel_rfl) rfl rfl (fun Kk hK => ?_)
      go_simp
      refine (HP3.out X2 A2 c2 hr2).mono ?_
      rintro e' X3 ⟨v3, rfl, ho3, hst⟩
      obtain ⟨A3, c3, rfl, _, hc3, hm3, hr3, _⟩ := own_out ho3
      have hB3 := hB2.trans (hst.mono hB2.size)
      have hz3 := hst.size
      have hw3 := hB3.size
      have hS3 := HS.out X3 hB3
      replace hr1 := hr1.below hst
      replace hr2 := hr2.below hst
      clear hst
      refine hK _ _ ⟨hS3, ?_⟩
      clear hK Kk
      refine all_one (fuel := 1) (i := 12) (by kernel_rfl) rfl rfl (fun Kk hK => ?_)
      go_simp
      refine (HP4.out X3 A3 c3 hr3).mono ?_
      rintro e' X4 ⟨v4, rfl, ho4, hst⟩
      obtain ⟨A4, c4, rfl, _, hc4, hm4, hr4, _⟩ := own_out ho4
      have ho26 := own_weak ho4 (show w.heap.size ≤ _ by omega)
      have hB4 := hB3.trans (hst.mono hB3.size)
      have hz4 := hst.size
      have hw4 := hB4.size
      have hS4 := HS.out X4 hB4
      replace hr1 := hr1.below hst
      replace hr2 := hr2.below hst
      replace hr3 := hr3.below hst
      clear hst
      refine hK _ _ ⟨hS4, ?_⟩
      clear hK Kk
      refine wpAnyH_take (fuel := 0) (i := 13) (v := .slice A4 (1 + 8 + 8 + 8 + 8) c4) rfl (by kernel_rfl) (by kernel_rfl) (by kernel_rfl) (fun _ _ _ h => h) (Or.inl ⟨by rfl, fun Z hZ => ?_⟩) hS4 ?_
      · obtain ⟨z1, z2, z3, z4, z5⟩ := hZ
        go_simp
      refine wpAnyH_done (by kernel_rfl) ?_ _
      try simp only [Act.put, List.setIfInBounds_toArray, List.set_cons_zero, List.set_cons_succ, List.getElem_toArray, List.getElem_cons_zero, List.getElem_cons_succ]
      have hoL := own_weak ho26 (show w.heap.size ≤ _ by omega)
      have hoL : X4.ownsRow w.heap.size 5 1 (.slice A4 33 c4) 33 (bys L) := hoL
      have hbk := HB1.out.1.below hB4
      have hbw := HB1.out.2.trans (hB4.mono (by omega))
      have hwz := hbw.size
      obtain ⟨_, _, hvv, _, hc26, hm26, hr26, _⟩ := own_out hoL
      injection hvv with e1 e2 e3
      subst e1 e3
      have x0 := hbk.cell (j := 0) rfl
      have x10 := hbk.cell (j := 10) rfl; have x11 := hbk.cell (j := 11) rfl
      have HG4 := hide (rgroup7_any A4 33 c4 L eGroupEpoch eGroupMembersA eGroupMembersn eGroupMembersc eGroupMembers X4 hLl (by omega) hr26 HLM.out hc_eGroupMembers (HM.out X4 hbw) HGO.out)
      have HbW := hide hbw
      clear ho26 hS4 hbw hS0 HS hbk hoL hr26
      go_wp2_with fail
      go_fit HG4.out
      rintro e' X5 ⟨v38, rfl, ho38, hst⟩
      have hb5 := HbW.out.trans (hst.mono hwz)
      have ho43' : X5.ownsRow w.heap.size 5 1 v38 RES.length (bys RES) := by
        have := own_weak ho38 hwz
        rw [← HR.out, List.length_append, hLl]
        exact this
      obtain ⟨A38, c38, rfl, _⟩ := own_out ho38
      clear hst ho38 x0 x10 x11
      go_wp2
      go_ret2
      exact ⟨_, rfl, ho43', hb5⟩
end Go.Proofs.YtkknkdjdneldlaaGreat
namespace Go.Proofs.YtkknkdjdneldlaaGreat
set_option maxRecDepth 20000
open Go.RowKit Go.Px Go.Maps
set_option linter.unusedVariables false
set_option linter.unusedSimpArgs false
/-- The fault of reading an entry. -/
def rdE7 (bs : List UInt8) : Int :=
  if bs.length < 33 then 10 else if getV bs 0 1 = 1 then opE (bs.drop 33) else if getV bs 0 1 = 2 then (if 42 + getV bs 41 1 ≤ bs.length then 0 else 10) else 0
/-- The entry that is read, numbers taken as 'num' says. -/
def rdV7 (num : Nat → Int) (bs : List UInt8) : EntryD :=
  (getV bs 0 1, num (getV bs 1 8), num (getV bs 9 8), num (getV bs 17 8), num (getV bs 25 8),
    (if getV bs 0 1 = 1 then (opK (bs.drop 33), (opP (bs.drop 33) : Int), (opN (bs.drop 33) : Int), opD (bs.drop 33), opO (bs.drop 33)) else (0, 0, 0, [], [])),
    (if getV bs 0 1 = 2 then (num (getV bs 33 8), memB bs 42 (getV bs 41 1)) else (0, [])))
def rdT7 (bs : List UInt8) : Int := if getV bs 0 1 = 1 then 33 + opT (bs.drop 33) else if getV bs 0 1 = 2 then 42 + (getV bs 41 1 : Int) else 33
theorem drop_rd {w : World} {A : Option Addr} {m c a : Nat} {bs : List UInt8} (h : Rd w A (bys bs)) (hm : bs.length = m) (hmc : m ≤ c) (ha : a ≤ m) : Rd w (cutA A c a 1) (bys (bs.drop a)) := by
  have := h.cutA (n := m) (k := a) (cap := c) (by rw [bys_length]; omega) ha hmc
  rwa [show (bys bs).drop a = bys (bs.drop a) from by unfold bys; rw [List.map_drop]] at this
theorem cut_block {A : Option Addr} {c k s : Nat} {P : Nat → Prop} (h : ∀ a, A = some a → P a.block) : ∀ a, cutA A c k s = some a → P a.block := by
  intro a ha
  unfold cutA at ha
  split at ha
  · exact h a ha
  · cases A with
    | none => cases ha
    | some p => simp only [Option.map_some, Option.some.injEq] at ha; subst ha; rw [add_block]; exact h p rfl
set_option maxHeartbeats 800000 in
theorem lrest_any (b : Nat) (T : TypeId) (A : Option Addr) (m c a : Nat) (w : World) (hB : Blk w b [.slice A m c, .int .i64 (a : Int)] T) (ha : a ≤ m) (hmc : m ≤ c) :
    Calls Tryz.prog 132 #[.pointer (some ⟨b, 0, none⟩)] w fun e w' => e = .returned (.slice (cutA A c a 1) (m - a) (c - a)) ∧ Below w.heap.size w w' := by
  have x0 := hB.cell (j := 0) rfl
  have x1 := hB.cell (j := 1) rfl
  go_enter Tryz.func132, Tryz.ntmps132
  go_wp2
  go_quiet (fail)
  go_wp2
  go_ret
  exact ⟨rfl, by first | exact below_drewN (Below.refl _ _) _ | exact (Below.refl _ _).drew | exact Below.refl _ _⟩
set_option maxHeartbeats 800000 in
theorem lpass_any (b : Nat) (T : TypeId) (A : Option Addr) (m c a : Nat) (n : Nat) (w : World) (hB : Blk w b [.slice A m c, .int .i64 (a : Int)] T) (hn : a + n ≤ 9223372036854775807) :
    Calls Tryz.prog 133 #[.pointer (some ⟨b, 0, none⟩), .int .i64 (n : Int)] w fun e w' => e = .returned (.tuple #[]) ∧ Blk w' b [.slice A m c, .int .i64 ((a + n : Nat) : Int)] T ∧ Fr (fun k => k = b) w w' := by
  have x1 := hB.cell (j := 1) rfl
  have f1 := hB.frozen 1
  have hB2 := hide (hB.set 1 (.int .i64 ((a : Int) + (n : Int))))
  have hF := hide (Fr.set (X := fun k => k = b) w ⟨b, 1, none⟩ (.int .i64 ((a : Int) + (n : Int))) rfl)
  go_enter Tryz.func133, Tryz.ntmps133
  go_wp2
  go_end0
  exact ⟨rfl, by have := hB2.out; rw [show ((a + n : Nat) : Int) = (a : Int) + (n : Int) by omega]; exact this, hF.out⟩
end Go.Proofs.YtkknkdjdneldlaaGreat
namespace Go.Proofs.YtkknkdjdneldlaaGreat
set_option maxRecDepth 20000
open Go.RowKit Go.Px
set_option linter.unusedVariables false
set_option linter.unusedSimpArgs false
theorem rop_off (b : Nat) (A : Option Addr) (m c : Nat) (at_ E : Int) (w : World) (hB : Blk w b [.slice A m c, .int .i64 at_, .int .i64 E] 131) (hE : E ≠ 0) :
    Calls Tryz.prog 78 #[.pointer (some ⟨b, 0, none⟩)] w fun e w' => e = .returned (opv 0 0 0 none 0 0 none 0 0) ∧ Blk w' b [.slice A m c, .int .i64 at_, .int .i64 E] 131 ∧ Fr (fun k => k = b) w w' := by
  have q : (E != 0) = true := by simpa using hE
  have hG := Blk.new w [.int .u8 0, .int .i64 0, .int .i64 0, .slice none 0 0, .slice none 0 0] 47
  have hB2 := hB.alloc (.cells #[.int .u8 0, .int .i64 0, .int .i64 0, .slice none 0 0, .slice none 0 0] 47)
  have x2 := hB2.cell (j := 2) rfl
  have hF : Fr (fun k => k = b) w (w.alloc (.cells #[.int .u8 0, .int .i64 0, .int .i64 0, .slice none 0 0, .slice none 0 0] 47)) := Fr.of_below ((Below.refl _ _).alloc (Nat.le_refl _) _)
  have HX := hide (And.intro hG (And.intro hB2 hF))
  clear hB hE hG hB2 hF
  go_enter Tryz.func78, Tryz.ntmps78
  go_wp2
  refine bodyPost_ret (results_cell rfl rfl HX.out.1 Tryz.underlying47 rfl (by kernel_rfl)) rfl ?_
  exact ⟨rfl, HX.out.2.1, HX.out.2.2⟩
/-- What reading a request says, where all was well so far. -/
def ROpRd (b : Nat) (A : Option Addr) (m c : Nat) (bs : List UInt8) (a : Nat) (w : World) (e : Ending) (w' : World) : Prop :=
  ∃ D dc O oc, e = .returned (opv (opK (bs.drop a)) (opP (bs.drop a)) (opN (bs.drop a)) D (opD (bs.drop a)).length dc O (opO (bs.drop a)).length oc) ∧ Rd w' D (bys (opD (bs.drop a))) ∧ Rd w' O (bys (opO (bs.drop a))) ∧ ((opD (bs.drop a)).length ≤ dc ∧ dc ≤ 9223372036854775807 ∧ (opO (bs.drop a)).length ≤ oc ∧ oc ≤ 9223372036854775807) ∧
    Blk w' b [.slice A m c, .int .i64 ((a : Int) + opT (bs.drop a)), .int .i64 (opE (bs.drop a))] 131 ∧ Fr (fun k => k = b) w w' ∧ (∀ p, D = some p → w.heap.size ≤ p.block) ∧ (∀ p, O = some p → w.heap.size ≤ p.block)
set_option maxRecDepth 20000 in
set_option maxHeartbeats 3200000 in
theorem rop_any (b : Nat) (A : Option Addr) (m c : Nat) (bs : List UInt8) (a : Nat) (w : World) (hB : Blk w b [.slice A m c, .int .i64 (a : Int), .int .i64 0] 131) (hm : bs.length = m) (hmc : m ≤ c) (hm8 : m ≤ 140737488355328) (hc : c ≤ 9223372036854775807) (hr : Rd w A (bys bs)) (ha : a ≤ m) :
    Calls Tryz.prog 78 #[.pointer (some ⟨b, 0, none⟩)] w (ROpRd b A m c bs a w) := by
  have hbl := hB.lt
  obtain ⟨g, hg⟩ : ∃ g, w.heap.size = g := ⟨_, rfl⟩
  obtain ⟨w0, hw0⟩ : ∃ y, w.alloc (.cells #[.int .u8 0, .int .i64 0, .int .i64 0, .slice none 0 0, .slice none 0 0] 47) = y := ⟨_, rfl⟩
  have hR0 : Blk w0 g [.int .u8 0, .int .i64 0, .int .i64 0, .slice none 0 0, .slice none 0 0] 47 := by rw [← hw0, ← hg]; exact Blk.new w _ _
  have hb0 : Below w.heap.size w w0 := by rw [← hw0]; exact (Below.refl _ _).alloc (Nat.le_refl _) _
  have hz0 : w0.heap.size = g + 1 := by rw [← hw0, ← hg]; simp
  have hbg : b < g := by omega
  have hB0 := hB.below hb0
  have hr0 := hr.below hb0
  have x2 := hB0.cell (j := 2) rfl
  have HF0 := hide (Fr.of_below (X := fun k => k = b) hb0)
  have hdl : (bs.drop a).length = m - a := by rw [List.length_drop, hm]
  have HD := hide (fun W (hW : Below w0.heap.size w0 W) => rdec_anyC (cutA A c a 1) (m - a) (c - a) (bs.drop a) W hdl (by omega) (by omega) (by omega) (drop_rd (hr0.below hW) hm hmc ha))
  obtain ⟨r, hrr⟩ : ∃ y, bs.drop a = y := ⟨_, rfl⟩
  unfold ROpRd
  simp only [hrr] at HD ⊢
  have hTb : 0 ≤ opT r ∧ opT r ≤ 140737488355328 := by
    unfold opT
    split
    · rename_i h0
      obtain ⟨_, h3, h4, _⟩ := opE_ok h0
      have := textI_bd h4
      have hl : r.length = m - a := by rw [← hrr]; exact hdl
      omega
    · omega
  obtain ⟨K, hK⟩ : ∃ y, opK r = y := ⟨_, rfl⟩
  obtain ⟨P, hP⟩ : ∃ y, opP r = y := ⟨_, rfl⟩
  obtain ⟨N, hN⟩ : ∃ y, opN r = y := ⟨_, rfl⟩
  obtain ⟨ds, hds⟩ : ∃ y, opD r = y := ⟨_, rfl⟩
  obtain ⟨os, hos⟩ : ∃ y, opO r = y := ⟨_, rfl⟩
  obtain ⟨t, ht⟩ : ∃ y, opT r = y := ⟨_, rfl⟩
  obtain ⟨e0, he0⟩ : ∃ y, opE r = y := ⟨_, rfl⟩
  unfold RDecIsC at HD
  simp only [hK, hP, hN, hds, hos, ht, he0] at HD ⊢
  rw [ht] at hTb
  have HS := hide (show ∀ Z, Below w0.heap.size w0 Z → (Z.cell? ⟨b, 0, none⟩ = some (.slice A m c) ∧ Z.cell? ⟨b, 1, none⟩ = some (.int .i64 (a : Int))) from fun Z hZ => ⟨(hB0.below hZ).cell (j := 0) rfl, (hB0.below hZ).cell (j := 1) rfl⟩)
  rw [← hw0] at x2
  have HB0 := hide (And.intro hB0 hR0)
  have Hw0 := hide hw0
  have Hg := hide hg
  obtain ⟨dl, hdl2⟩ : ∃ y, ds.length = y := ⟨_, rfl⟩
  obtain ⟨ol, hol2⟩ : ∃ y, os.length = y := ⟨_, rfl⟩
  simp only [hdl2, hol2] at HD ⊢
  have Hm := hide hm
  clear hB hr hB0 hr0 hb0 hR0 hw0 hg hrr hK hP hN hds hos ht he0 hdl hdl2 hol2 hm
  go_enter Tryz.func78, Tryz.ntmps78
  go_wp2_with fail
  rw [Hw0.out]
  try rw [Hg.out]
  clear x2
  refine wp_region_held_drew (S := fun Z => Z.cell? ⟨b, 0, none⟩ = some (.slice A m c) ∧ Z.cell? ⟨b, 1, none⟩ = some (.int .i64 (a : Int))) (by kernel_rfl) (HS.out w0.drew (Below.refl _ _).drew) (fun hS0 => ?_)
  refine wpAnyH_take (fuel := 17) (i := 0) (v := .pointer (some ⟨b, 0, none⟩)) rfl (by kernel_rfl) (by kernel_rfl) (by kernel_rfl) (fun _ _ _ h => h) (Or.inl ⟨by rfl, fun Z hZ => ?_⟩) hS0 ?_
  · obtain ⟨z1, z2⟩ := hZ
    go_simp
  refine wpAnyH_take (fuel := 16) (i := 1) (v := .pointer (some ⟨b, 0, none⟩)) rfl (by kernel_rfl) (by kernel_rfl) (by kernel_rfl) (fun _ _ _ h => h) (Or.inl ⟨by rfl, fun Z hZ => ?_⟩) hS0 ?_
  · obtain ⟨z1, z2⟩ := hZ
    go_simp
  refine wpAnyH_take (fuel := 15) (i := 2) (v := .pointer (some ⟨b, 0, none⟩)) rfl (by kernel_rfl) (by kernel_rfl) (by kernel_rfl) (fun _ _ _ h => h) (Or.inl ⟨by rfl, fun Z hZ => ?_⟩) hS0 ?_
  · obtain ⟨z1, z2⟩ := hZ
    go_simp
  refine wpAnyH_take (fuel := 14) (i := 3) (v := .slice A m c) rfl (by kernel_rfl) (by kernel_rfl) (by kernel_rfl) (fun _ _ _ h => h) (Or.inl ⟨by rfl, fun Z hZ => ?_⟩) hS0 ?_
  · obtain ⟨z1, z2⟩ := hZ
    go_simp
  refine wpAnyH_take (fuel := 13) (i := 4) (v := .pointer (some ⟨b, 0, none⟩)) rfl (by kernel_rfl) (by kernel_rfl) (by kernel_rfl) (fun _ _ _ h => h) (Or.inl ⟨by rfl, fun Z hZ => ?_⟩) hS0 ?_
  · obtain ⟨z1, z2⟩ := hZ
    go_simp
  refine wpAnyH_take (fuel := 12) (i := 5) (v := .pointer (some ⟨b, 0, none⟩)) rfl (by kernel_rfl) (by kernel_rfl) (by kernel_rfl) (fun _ _ _ h => h) (Or.inl ⟨by rfl, fun Z hZ => ?_⟩) hS0 ?_
  · obtain ⟨z1, z2⟩ := hZ
    go_simp
  refine wpAnyH_take (fuel := 11) (i := 6) (v := .pointer (some ⟨b, 1, none⟩)) rfl (by kernel_rfl) (by kernel_rfl) (by kernel_rfl) (fun _ _ _ h => h) (Or.inl ⟨by rfl, fun Z hZ => ?_⟩) hS0 ?_
  · obtain ⟨z1, z2⟩ := hZ
    go_simp
  refine wpAnyH_take (fuel := 10) (i := 7) (v := .int .i64 (a : Int)) rfl (by kernel_rfl) (by kernel_rfl) (by kernel_rfl) (fun _ _ _ h => h) (Or.inl ⟨by rfl, fun Z hZ => ?_⟩) hS0 ?_
  · obtain ⟨z1, z2⟩ := hZ
    go_simp
  refine wpAnyH_take (fuel := 9) (i := 8) (v := .slice (cutA A c a 1) (m - a) (c - a)) rfl (by kernel_rfl) (by kernel_rfl) (by kernel_rfl) (fun _ _ _ h => h) (Or.inl ⟨by rfl, fun Z hZ => ?_⟩) hS0 ?_
  · obtain ⟨z1, z2⟩ := hZ
    go_simp
  obtain ⟨X0, hX0⟩ : ∃ y, w0.drew = y := ⟨_, rfl⟩
  have hB0 : Below w0.heap.size w0 X0 := by rw [← hX0]; exact (Below.refl _ _).drew
  rw [hX0] at hS0
  have hw0' := hB0.size
  have HX0 := hide hX0
  rw [hX0]
  clear hX0
  refine all_two (fuel := 8) (i := 9) (j := 14) (by kernel_rfl) rfl rfl rfl rfl (fun Kk hK => ?_) (fun Kk hK => ?_)
  · go_simp
    refine (HD.out X0 hB0).mono ?_
    rintro e' X1 ⟨D, dc, O, oc, rfl, hDr, hOr, hst, hcap1, hcap2, hcap3, hcap4, uD, uO⟩
    have hB1 := hB0.trans (hst.mono hB0.size)
    have hz1 := hst.size
    have hw1 := hB1.size
    have hS1 := HS.out X1 hB1
    have hcap := And.intro hcap1 (And.intro hcap2 (And.intro hcap3 hcap4))
    clear hst hcap1 hcap2 hcap3 hcap4
    refine hK _ _ ⟨hS1, ?_⟩
    clear hK Kk
    refine wpAnyH_take (fuel := 7) (i := 10) (v := .tuple #[.agg #[.int .u8 (K : Int), .int .i64 (P : Int), .int .i64 (N : Int), .slice D dl dc, .slice O ol oc], .int .i64 t, .int .i64 e0]) rfl (by kernel_rfl) (by kernel_rfl) (by kernel_rfl) (fun _ _ _ h => h) (Or.inl ⟨by rfl, fun Z hZ => ?_⟩) hS1 ?_
    · obtain ⟨z1, z2⟩ := hZ
      go_simp
    refine wpAnyH_take (fuel := 6) (i := 11) (v := .agg #[.int .u8 (K : Int), .int .i64 (P : Int), .int .i64 (N : Int), .slice D dl dc, .slice O ol oc]) rfl (by kernel_rfl) (by kernel_rfl) (by kernel_rfl) (fun _ _ _ h => h) (Or.inl ⟨by rfl, fun Z hZ => ?_⟩) hS1 ?_
    · obtain ⟨z1, z2⟩ := hZ
      go_simp
    refine wpAnyH_take (fuel := 5) (i := 12) (v := .int .i64 t) rfl (by kernel_rfl) (by kernel_rfl) (by kernel_rfl) (fun _ _ _ h => h) (Or.inl ⟨by rfl, fun Z hZ => ?_⟩) hS1 ?_
    · obtain ⟨z1, z2⟩ := hZ
      go_simp
    refine wpAnyH_take (fuel := 4) (i := 13) (v := .int .i64 e0) rfl (by kernel_rfl) (by kernel_rfl) (by kernel_rfl) (fun _ _ _ h => h) (Or.inl ⟨by rfl, fun Z hZ => ?_⟩) hS1 ?_
    · obtain ⟨z1, z2⟩ := hZ
      go_simp
    refine all_one (fuel := 3) (i := 14) (by kernel_rfl) rfl rfl (fun Kk hK => ?_)
    obtain ⟨X2, hY⟩ : ∃ y, X1.alloc (.cells #[.int .u8 0, .int .i64 0, .int .i64 0, .slice none 0 0, .slice none 0 0] 47) = y := ⟨_, rfl⟩
    obtain ⟨g3, hg3⟩ : ∃ y, X1.heap.size = y := ⟨_, rfl⟩
    have hZ : Blk X2 g3 [.int .u8 0, .int .i64 0, .int .i64 0, .slice none 0 0, .slice none 0 0] 47 := by rw [← hY, ← hg3]; exact Blk.new X1 _ _
    have hst : Below X1.heap.size X1 X2 := by rw [← hY]; exact (Below.refl _ _).alloc (Nat.le_refl _) _
    have hg3w : w0.heap.size ≤ g3 := by rw [← hg3]; exact hB1.size
    have hg3z : X2.heap.size = g3 + 1 := by rw [← hY, ← hg3]; simp
    have hB2 := hB1.trans (hst.mono hB1.size)
    have hz2 := hst.size
    have hw2 := hB2.size
    have hS2 := HS.out X2 hB2
    have uDg : ∀ p, D = some p → w0.heap.size ≤ p.block ∧ (ds ≠ [] → p.block ≠ g3) := fun p hp => ⟨by have := uD p hp; omega, fun hne => by have := rd_block hDr (fun e => hne (by simpa [bys] using e)) p hp; omega⟩
    have uOg : ∀ p, O = some p → w0.heap.size ≤ p.block ∧ (os ≠ [] → p.block ≠ g3) := fun p hp => ⟨by have := uO p hp; omega, fun hne => by have := rd_block hOr (fun e => hne (by simpa [bys] using e)) p hp; omega⟩
    replace hDr := hDr.below hst
    replace hOr := hOr.below hst
    have HY := hide hY
    have Hg3 := hide hg3
    clear hY hg3 hst
    go_simp
    rw [HY.out, Hg3.out]
    refine hK _ _ ⟨hS2, ?_⟩
    clear hK Kk
    refine all_one (fuel := 2) (i := 15) (by kernel_rfl) rfl rfl (fun Kk hK => ?_)
    obtain ⟨X3, hY⟩ : ∃ y, (((((X2.setCell ⟨g3, 0, none⟩ (.int .u8 (K : Int))).setCell ⟨g3, 1, none⟩ (.int .i64 (P : Int))).setCell ⟨g3, 2, none⟩ (.int .i64 (N : Int))).setCell ⟨g3, 3, none⟩ (.slice D dl dc)).setCell ⟨g3, 4, none⟩ (.slice O ol oc)) = y := ⟨_, rfl⟩
    have hG : Blk X3 g3 [.int .u8 (K : Int), .int .i64 (P : Int), .int .i64 (N : Int), .slice D dl dc, .slice O ol oc] 47 := by rw [← hY]; exact (((((hZ.set 0 (.int .u8 (K : Int))).set 1 (.int .i64 (P : Int))).set 2 (.int .i64 (N : Int))).set 3 (.slice D dl dc)).set 4 (.slice O ol oc))
    have hfS : Fr (fun x => x = g3) X2 X3 := by rw [← hY]; exact (((((Fr.set (X := fun x => x = g3) X2 ⟨g3, 0, none⟩ _ rfl).trans (Fr.set (X := fun x => x = g3) _ ⟨g3, 1, none⟩ _ rfl)).trans (Fr.set (X := fun x => x = g3) _ ⟨g3, 2, none⟩ _ rfl)).trans (Fr.set (X := fun x => x = g3) _ ⟨g3, 3, none⟩ _ rfl)).trans (Fr.set (X := fun x => x = g3) _ ⟨g3, 4, none⟩ _ rfl))
    have y0 := hZ.cell (j := 0) rfl; have y1 := hZ.cell (j := 1) rfl; have y2 := hZ.cell (j := 2) rfl; have y3 := hZ.cell (j := 3) rfl; have y4 := hZ.cell (j := 4) rfl
    have f0 := hZ.frozen 0; have f1 := hZ.frozen 1; have f2 := hZ.frozen 2; have f3 := hZ.frozen 3; have f4 := hZ.frozen 4
    have hB3 := hfS.below hB2 hB2.size (fun x hx => by have hx : x = g3 := hx; omega)
    have hS3 := HS.out X3 hB3
    have hw3 := hB3.size
    have hDy := hDr.fr hfS (fun hne p hp h => by have h : p.block = g3 := h; exact (uDg p hp).2 (fun e => hne (by rw [e]; rfl)) h)
    have hOy := hOr.fr hfS (fun hne p hp h => by have h : p.block = g3 := h; exact (uOg p hp).2 (fun e => hne (by rw [e]; rfl)) h)
    have vD : ∀ p, D = some p → w0.heap.size ≤ p.block := fun p hp => (uDg p hp).1
    have vO : ∀ p, O = some p → w0.heap.size ≤ p.block := fun p hp => (uOg p hp).1
    have HY := hide hY
    clear hY hfS
    go_simp
    rw [HY.out]
    clear y0 f0 y1 f1 y2 f2 y3 f3 y4 f4
    refine hK _ _ ⟨hS3, ?_⟩
    clear hK Kk
    refine wpAnyH_take (fuel := 1) (i := 16) (v := .int .i64 t) rfl (by kernel_rfl) (by kernel_rfl) (by kernel_rfl) (fun _ _ _ h => h) (Or.inl ⟨by rfl, fun Z hZ => ?_⟩) hS3 ?_
    · obtain ⟨z1, z2⟩ := hZ
      go_simp
    refine wpAnyH_take (fuel := 0) (i := 17) (v := .int .i64 e0) rfl (by kernel_rfl) (by kernel_rfl) (by kernel_rfl) (fun _ _ _ h => h) (Or.inl ⟨by rfl, fun Z hZ => ?_⟩) hS3 ?_
    · obtain ⟨z1, z2⟩ := hZ
      go_simp
    refine wpAnyH_done (by kernel_rfl) ?_ _
    try simp only [Act.put, List.setIfInBounds_toArray, List.set_cons_zero, List.set_cons_succ, List.getElem_toArray, List.getElem_cons_zero, List.getElem_cons_succ]
    have hbb := HB0.out.1.below hB3
    have hrr := HB0.out.2.below hB3
    have y1 := hbb.cell (j := 1) rfl
    have y2 := hbb.cell (j := 2) rfl
    have f1 := hbb.frozen 1
    have f2 := hbb.frozen 2
    have hb2 := (hbb.set 1 (.int .i64 ((a : Int) + t))).set 2 (.int .i64 e0)
    obtain ⟨X4, hX4⟩ : ∃ y, (X3.setCell ⟨b, 1, none⟩ (.int .i64 ((a : Int) + t))).setCell ⟨b, 2, none⟩ (.int .i64 e0) = y := ⟨_, rfl⟩
    have hf4 : Fr (fun x => x = b) X3 X4 := by rw [← hX4]; exact (Fr.set (X := fun x => x = b) X3 ⟨b, 1, none⟩ _ rfl).trans (Fr.set (X := fun x => x = b) _ ⟨b, 2, none⟩ _ rfl)
    have hB4 : Blk X4 b [.slice A m c, .int .i64 ((a : Int) + t), .int .i64 e0] 131 := by rw [← hX4]; exact hb2
    have hG4 := hG.fr hf4 (fun h => by have h : g3 = b := h; omega)
    have hR4 := hrr.fr hf4 (fun h => by have h : g = b := h; omega)
    have hD4 := hDy.fr hf4 (fun _ p hp h => by have h : p.block = b := h; have := vD p hp; omega)
    have hO4 := hOy.fr hf4 (fun _ p hp h => by have h : p.block = b := h; have := vO p hp; omega)
    have hF4 := (HF0.out.trans (Fr.of_below hB3)).trans hf4
    have HX4 := hide hX4
    have y3 := hG4.cell (j := 0) rfl; have y4 := hG4.cell (j := 1) rfl; have y5 := hG4.cell (j := 2) rfl; have y6 := hG4.cell (j := 3) rfl; have y7 := hG4.cell (j := 4) rfl
    have q0 := hR4.frozen 0; have q1 := hR4.frozen 1; have q2 := hR4.frozen 2; have q3 := hR4.frozen 3; have q4 := hR4.frozen 4
    have r0 := hR4.cell (j := 0) rfl; have r1 := hR4.cell (j := 1) rfl; have r2 := hR4.cell (j := 2) rfl; have r3 := hR4.cell (j := 3) rfl; have r4 := hR4.cell (j := 4) rfl
    obtain ⟨X5, hX5⟩ : ∃ y, (((((X4.setCell ⟨g, 0, none⟩ (.int .u8 (K : Int))).setCell ⟨g, 1, none⟩ (.int .i64 (P : Int))).setCell ⟨g, 2, none⟩ (.int .i64 (N : Int))).setCell ⟨g, 3, none⟩ (.slice D dl dc)).setCell ⟨g, 4, none⟩ (.slice O ol oc)) = y := ⟨_, rfl⟩
    have hR5 : Blk X5 g [.int .u8 (K : Int), .int .i64 (P : Int), .int .i64 (N : Int), .slice D dl dc, .slice O ol oc] 47 := by rw [← hX5]; exact (((((hR4.set 0 (.int .u8 (K : Int))).set 1 (.int .i64 (P : Int))).set 2 (.int .i64 (N : Int))).set 3 (.slice D dl dc)).set 4 (.slice O ol oc))
    have hf5 : Fr (fun x => x = g) X4 X5 := by rw [← hX5]; exact (((((Fr.set (X := fun x => x = g) X4 ⟨g, 0, none⟩ _ rfl).trans (Fr.set (X := fun x => x = g) _ ⟨g, 1, none⟩ _ rfl)).trans (Fr.set (X := fun x => x = g) _ ⟨g, 2, none⟩ _ rfl)).trans (Fr.set (X := fun x => x = g) _ ⟨g, 3, none⟩ _ rfl)).trans (Fr.set (X := fun x => x = g) _ ⟨g, 4, none⟩ _ rfl))
    have hB5 := hB4.fr hf5 (fun h => by have h : b = g := h; omega)
    have hD5 := hD4.fr hf5 (fun _ p hp h => by have h : p.block = g := h; have := vD p hp; omega)
    have hO5 := hO4.fr hf5 (fun _ p hp h => by have h : p.block = g := h; have := vO p hp; omega)
    have hF5 := hF4.trans' hf5 (fun x hx => .inr (by have hx : x = g := hx; have := Hg.out; omega))
    rw [← hX4] at y3 y4 y5 y6 y7 q0 q1 q2 q3 q4 r0 r1 r2 r3 r4
    have HX5 := hide (And.intro hR5 (And.intro hB5 (And.intro hD5 (And.intro hO5 (And.intro hF5 (And.intro vD (And.intro vO hcap)))))))
    have HE5 := hide hX5
    have htw : IntKind.i64.wrap ((a : Int) + t) = (a : Int) + t := by rw [IntKind.wrap_i64]; omega
    clear hX4 hX5 hf4 hf5 hR4 hR5 hB4 hB5 hD4 hD5 hO4 hO5 hF4 hF5 hG hG4 hDy hOy hb2 hbb hrr vD vO uD uO uDg uOg hcap hDr hOr hS3 hZ
    go_wp2
    rw [HX4.out, HE5.out]
    refine bodyPost_ret (results_cell rfl rfl HX5.out.1 Tryz.underlying47 rfl (by kernel_rfl)) rfl ?_
    exact ⟨D, dc, O, oc, rfl, HX5.out.2.2.1, HX5.out.2.2.2.1, HX5.out.2.2.2.2.2.2.2, HX5.out.2.1, HX5.out.2.2.2.2.1, fun p hp => by have := HX5.out.2.2.2.2.2.1 p hp; have := Hg.out; omega, fun p hp => by have := HX5.out.2.2.2.2.2.2.1 p hp; have := Hg.out; omega⟩
  · obtain ⟨X1, hY⟩ : ∃ y, X0.alloc (.cells #[.int .u8 0, .int .i64 0, .int .i64 0, .slice none 0 0, .slice none 0 0] 47) = y := ⟨_, rfl⟩
    obtain ⟨g3, hg3⟩ : ∃ y, X0.heap.size = y := ⟨_, rfl⟩
    have hZ : Blk X1 g3 [.int .u8 0, .int .i64 0, .int .i64 0, .slice none 0 0, .slice none 0 0] 47 := by rw [← hY, ← hg3]; exact Blk.new X0 _ _
    have hst : Below X0.heap.size X0 X1 := by rw [← hY]; exact (Below.refl _ _).alloc (Nat.le_refl _) _
    have hg3w : w0.heap.size ≤ g3 := by rw [← hg3]; exact hB0.size
    have hg3z : X1.heap.size = g3 + 1 := by rw [← hY, ← hg3]; simp
    have hB1 := hB0.trans (hst.mono hB0.size)
    have hz1 := hst.size
    have hw1 := hB1.size
    have hS1 := HS.out X1 hB1
    have HY := hide hY
    have Hg3 := hide hg3
    clear hY hg3 hst
    go_simp
    rw [HY.out, Hg3.out]
    refine hK _ _ ⟨hS1, ?_⟩
    clear hK Kk
    refine all_one (fuel := 7) (i := 9) (by kernel_rfl) rfl rfl (fun Kk hK => ?_)
    go_simp
    refine (HD.out X1 hB1).mono ?_
    rintro e' X2 ⟨D, dc, O, oc, rfl, hDr, hOr, hst, hcap1, hcap2, hcap3, hcap4, uD, uO⟩
    have hB2 := hB1.trans (hst.mono hB1.size)
    have hz2 := hst.size
    have hw2 := hB2.size
    have hS2 := HS.out X2 hB2
    have hcap := And.intro hcap1 (And.intro hcap2 (And.intro hcap3 hcap4))
    replace hZ := hZ.below hst
    have uDg : ∀ p, D = some p → w0.heap.size ≤ p.block ∧ p.block ≠ g3 := fun p hp => by have := uD p hp; omega
    have uOg : ∀ p, O = some p → w0.heap.size ≤ p.block ∧ p.block ≠ g3 := fun p hp => by have := uO p hp; omega
    clear hst hcap1 hcap2 hcap3 hcap4
    refine hK _ _ ⟨hS2, ?_⟩
    clear hK Kk
    refine wpAnyH_take (fuel := 6) (i := 10) (v := .tuple #[.agg #[.int .u8 (K : Int), .int .i64 (P : Int), .int .i64 (N : Int), .slice D dl dc, .slice O ol oc], .int .i64 t, .int .i64 e0]) rfl (by kernel_rfl) (by kernel_rfl) (by kernel_rfl) (fun _ _ _ h => h) (Or.inl ⟨by rfl, fun Z hZ => ?_⟩) hS2 ?_
    · obtain ⟨z1, z2⟩ := hZ
      go_simp
    refine wpAnyH_take (fuel := 5) (i := 11) (v := .agg #[.int .u8 (K : Int), .int .i64 (P : Int), .int .i64 (N : Int), .slice D dl dc, .slice O ol oc]) rfl (by kernel_rfl) (by kernel_rfl) (by kernel_rfl) (fun _ _ _ h => h) (Or.inl ⟨by rfl, fun Z hZ => ?_⟩) hS2 ?_
    · obtain ⟨z1, z2⟩ := hZ
      go_simp
    refine wpAnyH_take (fuel := 4) (i := 12) (v := .int .i64 t) rfl (by kernel_rfl) (by kernel_rfl) (by kernel_rfl) (fun _ _ _ h => h) (Or.inl ⟨by rfl, fun Z hZ => ?_⟩) hS2 ?_
    · obtain ⟨z1, z2⟩ := hZ
      go_simp
    refine wpAnyH_take (fuel := 3) (i := 13) (v := .int .i64 e0) rfl (by kernel_rfl) (by kernel_rfl) (by kernel_rfl) (fun _ _ _ h => h) (Or.inl ⟨by rfl, fun Z hZ => ?_⟩) hS2 ?_
    · obtain ⟨z1, z2⟩ := hZ
      go_simp
    refine all_one (fuel := 2) (i := 15) (by kernel_rfl) rfl rfl (fun Kk hK => ?_)
    obtain ⟨X3, hY⟩ : ∃ y, (((((X2.setCell ⟨g3, 0, none⟩ (.int .u8 (K : Int))).setCell ⟨g3, 1, none⟩ (.int .i64 (P : Int))).setCell ⟨g3, 2, none⟩ (.int .i64 (N : Int))).setCell ⟨g3, 3, none⟩ (.slice D dl dc)).setCell ⟨g3, 4, none⟩ (.slice O ol oc)) = y := ⟨_, rfl⟩
    have hG : Blk X3 g3 [.int .u8 (K : Int), .int .i64 (P : Int), .int .i64 (N : Int), .slice D dl dc, .slice O ol oc] 47 := by rw [← hY]; exact (((((hZ.set 0 (.int .u8 (K : Int))).set 1 (.int .i64 (P : Int))).set 2 (.int .i64 (N : Int))).set 3 (.slice D dl dc)).set 4 (.slice O ol oc))
    have hfS : Fr (fun x => x = g3) X2 X3 := by rw [← hY]; exact (((((Fr.set (X := fun x => x = g3) X2 ⟨g3, 0, none⟩ _ rfl).trans (Fr.set (X := fun x => x = g3) _ ⟨g3, 1, none⟩ _ rfl)).trans (Fr.set (X := fun x => x = g3) _ ⟨g3, 2, none⟩ _ rfl)).trans (Fr.set (X := fun x => x = g3) _ ⟨g3, 3, none⟩ _ rfl)).trans (Fr.set (X := fun x => x = g3) _ ⟨g3, 4, none⟩ _ rfl))
    have y0 := hZ.cell (j := 0) rfl; have y1 := hZ.cell (j := 1) rfl; have y2 := hZ.cell (j := 2) rfl; have y3 := hZ.cell (j := 3) rfl; have y4 := hZ.cell (j := 4) rfl
    have f0 := hZ.frozen 0; have f1 := hZ.frozen 1; have f2 := hZ.frozen 2; have f3 := hZ.frozen 3; have f4 := hZ.frozen 4
    have hB3 := hfS.below hB2 hB2.size (fun x hx => by have hx : x = g3 := hx; omega)
    have hS3 := HS.out X3 hB3
    have hw3 := hB3.size
    have hDy := hDr.fr hfS (fun _ p hp h => by have h : p.block = g3 := h; exact (uDg p hp).2 h)
    have hOy := hOr.fr hfS (fun _ p hp h => by have h : p.block = g3 := h; exact (uOg p hp).2 h)
    have vD : ∀ p, D = some p → w0.heap.size ≤ p.block := fun p hp => (uDg p hp).1
    have vO : ∀ p, O = some p → w0.heap.size ≤ p.block := fun p hp => (uOg p hp).1
    have HY := hide hY
    clear hY hfS
    go_simp
    rw [HY.out]
    clear y0 f0 y1 f1 y2 f2 y3 f3 y4 f4
    refine hK _ _ ⟨hS3, ?_⟩
    clear hK Kk
    refine wpAnyH_take (fuel := 1) (i := 16) (v := .int .i64 t) rfl (by kernel_rfl) (by kernel_rfl) (by kernel_rfl) (fun _ _ _ h => h) (Or.inl ⟨by rfl, fun Z hZ => ?_⟩) hS3 ?_
    · obtain ⟨z1, z2⟩ := hZ
      go_simp
    refine wpAnyH_take (fuel := 0) (i := 17) (v := .int .i64 e0) rfl (by kernel_rfl) (by kernel_rfl) (by kernel_rfl) (fun _ _ _ h => h) (Or.inl ⟨by rfl, fun Z hZ => ?_⟩) hS3 ?_
    · obtain ⟨z1, z2⟩ := hZ
      go_simp
    refine wpAnyH_done (by kernel_rfl) ?_ _
    try simp only [Act.put, List.setIfInBounds_toArray, List.set_cons_zero, List.set_cons_succ, List.getElem_toArray, List.getElem_cons_zero, List.getElem_cons_succ]
    have hbb := HB0.out.1.below hB3
    have hrr := HB0.out.2.below hB3
    have y1 := hbb.cell (j := 1) rfl
    have y2 := hbb.cell (j := 2) rfl
    have f1 := hbb.frozen 1
    have f2 := hbb.frozen 2
    have hb2 := (hbb.set 1 (.int .i64 ((a : Int) + t))).set 2 (.int .i64 e0)
    obtain ⟨X4, hX4⟩ : ∃ y, (X3.setCell ⟨b, 1, none⟩ (.int .i64 ((a : Int) + t))).setCell ⟨b, 2, none⟩ (.int .i64 e0) = y := ⟨_, rfl⟩
    have hf4 : Fr (fun x => x = b) X3 X4 := by rw [← hX4]; exact (Fr.set (X := fun x => x = b) X3 ⟨b, 1, none⟩ _ rfl).trans (Fr.set (X := fun x => x = b) _ ⟨b, 2, none⟩ _ rfl)
    have hB4 : Blk X4 b [.slice A m c, .int .i64 ((a : Int) + t), .int .i64 e0] 131 := by rw [← hX4]; exact hb2
    have hG4 := hG.fr hf4 (fun h => by have h : g3 = b := h; omega)
    have hR4 := hrr.fr hf4 (fun h => by have h : g = b := h; omega)
    have hD4 := hDy.fr hf4 (fun _ p hp h => by have h : p.block = b := h; have := vD p hp; omega)
    have hO4 := hOy.fr hf4 (fun _ p hp h => by have h : p.block = b := h; have := vO p hp; omega)
    have hF4 := (HF0.out.trans (Fr.of_below hB3)).trans hf4
    have HX4 := hide hX4
    have y3 := hG4.cell (j := 0) rfl; have y4 := hG4.cell (j := 1) rfl; have y5 := hG4.cell (j := 2) rfl; have y6 := hG4.cell (j := 3) rfl; have y7 := hG4.cell (j := 4) rfl
    have q0 := hR4.frozen 0; have q1 := hR4.frozen 1; have q2 := hR4.frozen 2; have q3 := hR4.frozen 3; have q4 := hR4.frozen 4
    have r0 := hR4.cell (j := 0) rfl; have r1 := hR4.cell (j := 1) rfl; have r2 := hR4.cell (j := 2) rfl; have r3 := hR4.cell (j := 3) rfl; have r4 := hR4.cell (j := 4) rfl
    obtain ⟨X5, hX5⟩ : ∃ y, (((((X4.setCell ⟨g, 0, none⟩ (.int .u8 (K : Int))).setCell ⟨g, 1, none⟩ (.int .i64 (P : Int))).setCell ⟨g, 2, none⟩ (.int .i64 (N : Int))).setCell ⟨g, 3, none⟩ (.slice D dl dc)).setCell ⟨g, 4, none⟩ (.slice O ol oc)) = y := ⟨_, rfl⟩
    have hR5 : Blk X5 g [.int .u8 (K : Int), .int .i64 (P : Int), .int .i64 (N : Int), .slice D dl dc, .slice O ol oc] 47 := by rw [← hX5]; exact (((((hR4.set 0 (.int .u8 (K : Int))).set 1 (.int .i64 (P : Int))).set 2 (.int .i64 (N : Int))).set 3 (.slice D dl dc)).set 4 (.slice O ol oc))
    have hf5 : Fr (fun x => x = g) X4 X5 := by rw [← hX5]; exact (((((Fr.set (X := fun x => x = g) X4 ⟨g, 0, none⟩ _ rfl).trans (Fr.set (X := fun x => x = g) _ ⟨g, 1, none⟩ _ rfl)).trans (Fr.set (X := fun x => x = g) _ ⟨g, 2, none⟩ _ rfl)).trans (Fr.set (X := fun x => x = g) _ ⟨g, 3, none⟩ _ rfl)).trans (Fr.set (X := fun x => x = g) _ ⟨g, 4, none⟩ _ rfl))
    have hB5 := hB4.fr hf5 (fun h => by have h : b = g := h; omega)
    have hD5 := hD4.fr hf5 (fun _ p hp h => by have h : p.block = g := h; have := vD p hp; omega)
    have hO5 := hO4.fr hf5 (fun _ p hp h => by have h : p.block = g := h; have := vO p hp; omega)
    have hF5 := hF4.trans' hf5 (fun x hx => .inr (by have hx : x = g := hx; have := Hg.out; omega))
    rw [← hX4] at y3 y4 y5 y6 y7 q0 q1 q2 q3 q4 r0 r1 r2 r3 r4
    have HX5 := hide (And.intro hR5 (And.intro hB5 (And.intro hD5 (And.intro hO5 (And.intro hF5 (And.intro vD (And.intro vO hcap)))))))
    have HE5 := hide hX5
    have htw : IntKind.i64.wrap ((a : Int) + t) = (a : Int) + t := by rw [IntKind.wrap_i64]; omega
    clear hX4 hX5 hf4 hf5 hR4 hR5 hB4 hB5 hD4 hD5 hO4 hO5 hF4 hF5 hG hG4 hDy hOy hb2 hbb hrr vD vO uD uO uDg uOg hcap hDr hOr hS3 hZ
    go_wp2
    rw [HX4.out, HE5.out]
    refine bodyPost_ret (results_cell rfl rfl HX5.out.1 Tryz.underlying47 rfl (by kernel_rfl)) rfl ?_
    exact ⟨D, dc, O, oc, rfl, HX5.out.2.2.1, HX5.out.2.2.2.1, HX5.out.2.2.2.2.2.2.2, HX5.out.2.1, HX5.out.2.2.2.2.1, fun p hp => by have := HX5.out.2.2.2.2.2.1 p hp; have := Hg.out; omega, fun p hp => by have := HX5.out.2.2.2.2.2.2.1 p hp; have := Hg.out; omega⟩
end Go.Proofs.YtkknkdjdneldlaaGreat
namespace Go.Proofs.YtkknkdjdneldlaaGreat
set_option maxRecDepth 20000
open Go.RowKit Go.Px Go.Maps
set_option linter.unusedVariables false
set_option linter.unusedSimpArgs false
def StepR (m : Nat) (bs : List UInt8) (a : Nat) (E : Int) (n : Nat) (v : Int) (a' : Nat) (E' : Int) : Prop :=
  a' ≤ m ∧ (-1 ≤ v ∧ v ≤ 4611686018427387904) ∧ (n = 1 → 0 ≤ v ∧ v < 256) ∧ ((E = 0 ∧ a + n ≤ m ∧ E' = 0 ∧ a' = a + n ∧ v = rI7 (getV bs (a : Int) (n : Int))) ∨ ((E = 10 ∨ m < a + n) ∧ E' = 10))
theorem StepR.er {m : Nat} {bs : List UInt8} {a : Nat} {E : Int} {n : Nat} {v : Int} {a' : Nat} {E' : Int} (h : StepR m bs a E n v a' E') : E' = 0 ∨ E' = 10 := by
  rcases h.2.2.2 with ⟨_, _, h, _⟩ | ⟨_, h⟩
  · exact .inl h
  · exact .inr h
theorem rnumber_st (b : Nat) (A : Option Addr) (m c : Nat) (bs : List UInt8) (a n : Nat) (w : World) (E : Int) (hE : E = 0 ∨ E = 10) (hB : Blk w b [.slice A m c, .int .i64 (a : Int), .int .i64 E] 131) (hm : bs.length = m) (hmc : m ≤ c) (hm8 : m ≤ 140737488355328) (hc : c ≤ 9223372036854775807) (hr : Rd w A (bys bs)) (ha : a ≤ m) (hn : 1 ≤ n ∧ n ≤ 8) :
    Calls Tryz.prog 77 #[.pointer (some ⟨b, 0, none⟩), .int .i64 (n : Int)] w fun e w' => ∃ (v : Int) (a' : Nat) (E' : Int), e = .returned (.int .i64 v) ∧ Blk w' b [.slice A m c, .int .i64 (a' : Int), .int .i64 E'] 131 ∧ Fr (fun k => k = b) w w' ∧ StepR m bs a E n v a' E' := by
  rcases hE with rfl | rfl
  · by_cases hle : a + n ≤ m
    · refine (rnumber_any b A m c bs a n w hB hm hmc hm8 hc hr ha hn hle).mono ?_
      rintro e w' ⟨rfl, hB', hF⟩
      refine ⟨_, a + n, 0, rfl, hB', hF, hle, ?_, ?_, .inl ⟨rfl, hle, rfl, rfl, rfl⟩⟩
      · unfold rI7; split <;> omega
      · intro h1
        subst h1
        have hv : getV bs (a : Int) ((1 : Nat) : Int) < 256 := getV_1 bs (a : Int)
        rw [rI7_in (by omega)]
        omega
    · refine (rnumber_bad b A m c bs a n w hB hm hmc hm8 hc hr ha hn (by omega)).mono ?_
      rintro e w' ⟨rfl, hB', hF⟩
      exact ⟨_, a, 10, rfl, hB', hF, ha, by omega, by omega, .inr ⟨.inr (by omega), rfl⟩⟩
  · refine (rnumber_off b A m c a n w 10 hB (by decide)).mono ?_
    rintro e w' ⟨rfl, hB', hF⟩
    exact ⟨_, a, 10, rfl, hB', hF, ha, by omega, by omega, .inr ⟨.inl rfl, rfl⟩⟩
set_option maxRecDepth 20000 in
set_option maxHeartbeats 3200000 in
theorem rgroup_off (b : Nat) (A : Option Addr) (m c a : Nat) (E : Int) (w : World) (hB : Blk w b [.slice A m c, .int .i64 (a : Int), .int .i64 E] 131) (hE : E ≠ 0) :
    Calls Tryz.prog 79 #[.pointer (some ⟨b, 0, none⟩)] w fun e w' => Blk w' b [.slice A m c, .int .i64 (a : Int), .int .i64 E] 131 ∧ Fr (fun k => k = b) w w' ∧ e = .returned (grp 0 none 0 0) := by
  have hbl := hB.lt
  obtain ⟨g, hg⟩ : ∃ g, w.heap.size = g := ⟨_, rfl⟩
  obtain ⟨w0, hw0⟩ : ∃ y, w.alloc (.cells #[.int .i64 0, .slice none 0 0] 28) = y := ⟨_, rfl⟩
  have hR0 : Blk w0 g [.int .i64 0, .slice none 0 0] 28 := by rw [← hw0, ← hg]; exact Blk.new w _ _
  have hb0 : Below w.heap.size w w0 := by rw [← hw0]; exact (Below.refl _ _).alloc (Nat.le_refl _) _
  have hz0 : w0.heap.size = g + 1 := by rw [← hw0, ← hg]; simp
  have hB0 := hB.below hb0
  have hF0 : Fr (fun k => k = b) w w0 := Fr.of_below hb0
  rw [hg] at hbl
  have Hw0 := hide hw0
  have Hg := hide hg
  have HI := hide (rnumber_off b A m c a 8 w0 E hB0 hE)
  have HX := hide (And.intro hR0 hF0)
  clear hw0 hg hB hb0 hB0 hR0 hF0
  go_enter Tryz.func79, Tryz.ntmps79
  go_wp2_with fail
  rw [Hw0.out]
  try rw [Hg.out]
  go_fit HI.out
  rintro e w1 ⟨rfl, hB1, hF1⟩
  have hz1 := hF1.size
  obtain ⟨g3, hg3⟩ : ∃ y, w1.heap.size = y := ⟨_, rfl⟩
  obtain ⟨w2, hw2⟩ : ∃ y, w1.alloc (.cells #[.int .i64 0, .slice none 0 0] 28) = y := ⟨_, rfl⟩
  have hG2 : Blk w2 g3 [.int .i64 0, .slice none 0 0] 28 := by rw [← hw2, ← hg3]; exact Blk.new w1 _ _
  have hb12 : Below w1.heap.size w1 w2 := by rw [← hw2]; exact (Below.refl _ _).alloc (Nat.le_refl _) _
  have hgg3 : g < g3 := by omega
  have hR2 := (HX.out.1.fr hF1 (fun h => by have h : g = b := h; omega)).below hb12
  have hF2 := (HX.out.2.trans hF1).trans (Fr.of_below hb12)
  have HI2 := hide (rnumber_off b A m c a 1 w2 E (hB1.below hb12) hE)
  have Hw2 := hide hw2
  have Hg3 := hide hg3
  clear HX HI hB1 hF1 hw2 hg3 hb12
  go_wp2_with fail
  rw [Hw2.out]
  try rw [Hg3.out]
  go_fit HI2.out
  rintro e w3 ⟨rfl, hB3, hF3⟩
  have hR3 := hR2.fr hF3 (fun h => by have h : g = b := h; omega)
  have hG3 := hG2.fr hF3 (fun h => by have h : g3 = b := h; omega)
  have hF03 := hF2.trans hF3
  clear HI2 hF3 hR2 hG2 hF2
  go_wp2_with fail
  go_loopw [5] (fun v W => ∃ (k : Nat) (M : Option Addr) (mc : Nat), v = .int .i64 (k : Int) ∧ k = 0 ∧ M = none ∧ mc = 0 ∧ W.ownsRow (g3 + 1) 3 1 (.slice M k mc) k [] ∧ Blk W g [.int .i64 0, .slice none 0 0] 28 ∧ Blk W g3 [.int .i64 0, .slice M k mc] 28 ∧ Blk W b [.slice A m c, .int .i64 (a : Int), .int .i64 E] 131 ∧ Fr (fun k => k = b) w W) (fun _ _ => 0)
  case atStart => exact ⟨0, none, 0, rfl, rfl, rfl, rfl, World.ownsRow_nil _ _ _ _, hR3, hG3, hB3, hF03⟩
  case round =>
    clear hR3 hG3 hF03 hB3
    obtain ⟨k, M, mc, rfl, hk0, hM0, hmc0, hO, hRw, hGw, hBw, hFw⟩ := hrel
    have hMb : ∀ x, (Value.slice M k mc).ownBlock = some x → g3 + 1 ≤ x ∧ x < wr.heap.size := fun x hx => by
      obtain ⟨_, _, hv, _, _, _, _, hlo⟩ := own_out hO
      injection hv with h1 h2 h3
      subst h1
      cases M with
      | none => simp [Value.ownBlock] at hx
      | some p => simp only [Value.ownBlock, Option.some.injEq] at hx; have := hlo p rfl; omega
    subst hk0 hM0 hmc0
    have hq : decide ((0 : Int) < 0) = false := by decide
    have x0 := hGw.cell (j := 0) rfl
    have x1 := hGw.cell (j := 1) rfl
    have z0 := hRw.frozen 0
    have z1 := hRw.frozen 1
    have y0 := hRw.cell (j := 0) rfl
    have y1 := hRw.cell (j := 1) rfl
    have y2 := hBw.cell (j := 2) rfl
    have hR := (hRw.set 0 (.int .i64 0)).set 1 (.slice none 0 0)
    have hFz : Fr (fun k => k = b) w ((wr.setCell ⟨g, 0, none⟩ (.int .i64 0)).setCell ⟨g, 1, none⟩ (.slice none 0 0)) := (hFw.trans' (Fr.set (X := fun k => k = g) wr ⟨g, 0, none⟩ _ rfl) (fun k hk => .inr (by have hk : k = g := hk; have := Hg.out; omega))).trans' (Fr.set (X := fun k => k = g) _ ⟨g, 1, none⟩ _ rfl) (fun k hk => .inr (by have hk : k = g := hk; have := Hg.out; omega))
    have hOz := own_frX (own_frX hO (Fr.set (X := fun k => k = g) wr ⟨g, 0, none⟩ (.int .i64 0) rfl) (fun x hx h => by have h : x = g := h; have := hMb x hx; omega)) (Fr.set (X := fun k => k = g) _ ⟨g, 1, none⟩ (.slice none 0 0) rfl) (fun x hx h => by have h : x = g := h; have := hMb x hx; omega)
    have hBz := (hBw.apart (k := g) (by omega) 0 (.int .i64 0)).apart (k := g) (by omega) 1 (.slice none 0 0)
    have HZ := hide (And.intro hR (And.intro hFz (And.intro (own_weak hOz (show g ≤ g3 + 1 by omega)) hBz)))
    clear hR hFz hOz hBz hO hGw hRw hBw hFw hMb
    go_wp2
    refine bodyPost_ret (results_cell rfl rfl HZ.out.1 Tryz.underlying28 rfl (by kernel_rfl)) rfl ?_
    exact ⟨HZ.out.2.2.2, HZ.out.2.1, rfl⟩
/-- Where five numbers have been read: all was well, or the bytes were too few. -/
theorem hdrR {m : Nat} {bs : List UInt8} {v0 v1 v2 v3 v4 : Int} {a1 a2 a3 a4 a5 : Nat} {E1 E2 E3 E4 E5 : Int} (h1 : StepR m bs 0 0 1 v0 a1 E1) (h2 : StepR m bs a1 E1 8 v1 a2 E2) (h3 : StepR m bs a2 E2 8 v2 a3 E3) (h4 : StepR m bs a3 E3 8 v3 a4 E4) (h5 : StepR m bs a4 E4 8 v4 a5 E5) :
    (E5 = 0 ∧ 33 ≤ m ∧ a5 = 33 ∧ v0 = (getV bs 0 1 : Int) ∧ v1 = rI7 (getV bs 1 8) ∧ v2 = rI7 (getV bs 9 8) ∧ v3 = rI7 (getV bs 17 8) ∧ v4 = rI7 (getV bs 25 8)) ∨ (E5 = 10 ∧ m < 33) := by
  have hk : rI7 (getV bs ((0 : Nat) : Int) ((1 : Nat) : Int)) = (getV bs 0 1 : Int) := rI7_in (by have := getV_1 bs ((0 : Nat) : Int); have e : getV bs ((0 : Nat) : Int) ((1 : Nat) : Int) < 256 := this; omega)
  rcases h1.2.2.2 with ⟨_, q1, rfl, rfl, r1⟩ | ⟨q1, rfl⟩
  · rcases h2.2.2.2 with ⟨_, q2, rfl, rfl, r2⟩ | ⟨q2, rfl⟩
    · rcases h3.2.2.2 with ⟨_, q3, rfl, rfl, r3⟩ | ⟨q3, rfl⟩
      · rcases h4.2.2.2 with ⟨_, q4, rfl, rfl, r4⟩ | ⟨q4, rfl⟩
        · rcases h5.2.2.2 with ⟨_, q5, rfl, rfl, r5⟩ | ⟨q5, rfl⟩
          · exact .inl ⟨rfl, by omega, rfl, r1.trans hk, r2, r3, r4, r5⟩
          · exact .inr ⟨rfl, by omega⟩
        · rcases h5.2.2.2 with ⟨q, _⟩ | ⟨q5, rfl⟩
          · exact absurd q (by decide)
          · exact .inr ⟨rfl, by omega⟩
      · rcases h4.2.2.2 with ⟨q, _⟩ | ⟨q4, rfl⟩
        · exact absurd q (by decide)
        rcases h5.2.2.2 with ⟨q, _⟩ | ⟨q5, rfl⟩
        · exact absurd q (by decide)
        · exact .inr ⟨rfl, by omega⟩
    · rcases h3.2.2.2 with ⟨q, _⟩ | ⟨q3, rfl⟩
      · exact absurd q (by decide)
      rcases h4.2.2.2 with ⟨q, _⟩ | ⟨q4, rfl⟩
      · exact absurd q (by decide)
      rcases h5.2.2.2 with ⟨q, _⟩ | ⟨q5, rfl⟩
      · exact absurd q (by decide)
      · exact .inr ⟨rfl, by omega⟩
  · rcases h2.2.2.2 with ⟨q, _⟩ | ⟨q2, rfl⟩
    · exact absurd q (by decide)
    rcases h3.2.2.2 with ⟨q, _⟩ | ⟨q3, rfl⟩
    · exact absurd q (by decide)
    rcases h4.2.2.2 with ⟨q, _⟩ | ⟨q4, rfl⟩
    · exact absurd q (by decide)
    rcases h5.2.2.2 with ⟨q, _⟩ | ⟨q5, rfl⟩
    · exact absurd q (by decide)
    · exact .inr ⟨rfl, by omega⟩
end Go.Proofs.YtkknkdjdneldlaaGreat
