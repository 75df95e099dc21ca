/- Texts joined (shake.py). -/
import Derived.Test.YtkknkdjdneldlaaGreatK61
import Derived.Test.YtkknkdjdneldlaaGreatK68
import Derived.Test.YtkknkdjdneldlaaGreatK69
import Derived.Test.YtkknkdjdneldlaaGreatK615
import Derived.Test.YtkknkdjdneldlaaGreatK618
namespace Go.Proofs.YtkknkdjdneldlaaGreat
set_option maxRecDepth 20000
open Go.RowKit Go.Px Go.Maps
set_option linter.unusedVariables false
set_option linter.unusedSimpArgs false
set_option maxRecDepth 20000 in
set_option maxHeartbeats 12800000 in
theorem machineEntries_walk {w : World} {Q Q' : Nat → Prop} {x y : EntryD} {cs ds : List Value} (A : Option Addr) (m c : Nat) (bs : List UInt8) (h : tyEntry.Is w Q x cs) (h' : tyEntry.Is w Q' y ds) (hm : bs.length = m) (hmc : m ≤ c) (hm8 : m ≤ 140737488355328) (hc : c ≤ 9223372036854775807) (hr : Rd w A (bys bs)) (hlo : Lo w.heap.size A) :
    Calls Tryz.prog 5 #[.agg cs.toArray, .agg ds.toArray, .slice A m c] w fun e w' => e = .returned (.bool true) ∧ Below w.heap.size w w' := by
  have hI := h
  have hJ := h'
  obtain ⟨eKind, eNum, eView, eClient, eSerial, eOpKind, eOpAt, eOpN, eOpData, eOpDataA, eOpDatan, eOpDatac, eOpOld, eOpOldA, eOpOldn, eOpOldc, eGroupEpoch, eGroupMembers, eGroupMembersA, eGroupMembersn, eGroupMembersc, eGroupMembersv, rfl, rfl, hu_eKind, h1_eNum, h2_eNum, h1_eView, h2_eView, h1_eClient, h2_eClient, h1_eSerial, h2_eSerial, hu_eOpKind, h1_eOpAt, h2_eOpAt, h1_eOpN, h2_eOpN, hl_eOpData, hc_eOpData, hm_eOpData, hr_eOpData, hq_eOpData, hl_eOpOld, hc_eOpOld, hm_eOpOld, hr_eOpOld, hq_eOpOld, h1_eGroupEpoch, h2_eGroupEpoch, hl_eGroupMembers, hc_eGroupMembers, hm_eGroupMembers, hr_eGroupMembers, hq_eGroupMembers, he_eGroupMembers⟩ := Entry_out h
  obtain ⟨fKind, fNum, fView, fClient, fSerial, fOpKind, fOpAt, fOpN, fOpData, fOpDataA, fOpDatan, fOpDatac, fOpOld, fOpOldA, fOpOldn, fOpOldc, fGroupEpoch, fGroupMembers, fGroupMembersA, fGroupMembersn, fGroupMembersc, fGroupMembersv, rfl, rfl, hu_fKind, h1_fNum, h2_fNum, h1_fView, h2_fView, h1_fClient, h2_fClient, h1_fSerial, h2_fSerial, hu_fOpKind, h1_fOpAt, h2_fOpAt, h1_fOpN, h2_fOpN, hl_fOpData, hc_fOpData, hm_fOpData, hr_fOpData, hq_fOpData, hl_fOpOld, hc_fOpOld, hm_fOpOld, hr_fOpOld, hq_fOpOld, h1_fGroupEpoch, h2_fGroupEpoch, hl_fGroupMembers, hc_fGroupMembers, hm_fGroupMembers, hr_fGroupMembers, hq_fGroupMembers, he_fGroupMembers⟩ := Entry_out h'
  obtain ⟨g, hg⟩ : ∃ g, w.heap.size = g := ⟨_, rfl⟩
  obtain ⟨w0, hw0⟩ : ∃ x, (w.alloc (.cells #[.int .u8 eKind, .int .i64 eNum, .int .i64 eView, .int .i64 eClient, .int .i64 eSerial, .int .u8 eOpKind, .int .i64 eOpAt, .int .i64 eOpN, .slice eOpDataA eOpDatan eOpDatac, .slice eOpOldA eOpOldn eOpOldc, .int .i64 eGroupEpoch, .slice eGroupMembersA eGroupMembersn eGroupMembersc] 49)).alloc (.cells #[.int .u8 fKind, .int .i64 fNum, .int .i64 fView, .int .i64 fClient, .int .i64 fSerial, .int .u8 fOpKind, .int .i64 fOpAt, .int .i64 fOpN, .slice fOpDataA fOpDatan fOpDatac, .slice fOpOldA fOpOldn fOpOldc, .int .i64 fGroupEpoch, .slice fGroupMembersA fGroupMembersn fGroupMembersc] 49) = x := ⟨_, rfl⟩
  have hS : Blk w0 g [.int .u8 eKind, .int .i64 eNum, .int .i64 eView, .int .i64 eClient, .int .i64 eSerial, .int .u8 eOpKind, .int .i64 eOpAt, .int .i64 eOpN, .slice eOpDataA eOpDatan eOpDatac, .slice eOpOldA eOpOldn eOpOldc, .int .i64 eGroupEpoch, .slice eGroupMembersA eGroupMembersn eGroupMembersc] 49 := by rw [← hw0, ← hg]; exact (Blk.new w [.int .u8 eKind, .int .i64 eNum, .int .i64 eView, .int .i64 eClient, .int .i64 eSerial, .int .u8 eOpKind, .int .i64 eOpAt, .int .i64 eOpN, .slice eOpDataA eOpDatan eOpDatac, .slice eOpOldA eOpOldn eOpOldc, .int .i64 eGroupEpoch, .slice eGroupMembersA eGroupMembersn eGroupMembersc] _).alloc _
  have hT : Blk w0 (g + 1) [.int .u8 fKind, .int .i64 fNum, .int .i64 fView, .int .i64 fClient, .int .i64 fSerial, .int .u8 fOpKind, .int .i64 fOpAt, .int .i64 fOpN, .slice fOpDataA fOpDatan fOpDatac, .slice fOpOldA fOpOldn fOpOldc, .int .i64 fGroupEpoch, .slice fGroupMembersA fGroupMembersn fGroupMembersc] 49 := by
    rw [← hw0, ← hg]
    have := Blk.new (w.alloc (.cells #[.int .u8 eKind, .int .i64 eNum, .int .i64 eView, .int .i64 eClient, .int .i64 eSerial, .int .u8 eOpKind, .int .i64 eOpAt, .int .i64 eOpN, .slice eOpDataA eOpDatan eOpDatac, .slice eOpOldA eOpOldn eOpOldc, .int .i64 eGroupEpoch, .slice eGroupMembersA eGroupMembersn eGroupMembersc] 49)) [.int .u8 fKind, .int .i64 fNum, .int .i64 fView, .int .i64 fClient, .int .i64 fSerial, .int .u8 fOpKind, .int .i64 fOpAt, .int .i64 fOpN, .slice fOpDataA fOpDatan fOpDatac, .slice fOpOldA fOpOldn fOpOldc, .int .i64 fGroupEpoch, .slice fGroupMembersA fGroupMembersn fGroupMembersc] 49
    rwa [World.size_alloc] at this
  have hb0 : Below w.heap.size w w0 := by rw [← hw0]; exact ((Below.refl _ _).alloc (Nat.le_refl _) _).alloc (by simp) _
  have hI0 := hI.below hb0
  have hJ0 := hJ.below hb0
  have hr0 := hr.below hb0
  have hz0 := hb0.size
  obtain ⟨L, hL⟩ : ∃ y, entB (eKind, eNum, eView, eClient, eSerial, (eOpKind, eOpAt, eOpN, eOpData, eOpOld), (eGroupEpoch, eGroupMembers)) = y := ⟨_, rfl⟩
  obtain ⟨EE, hEE⟩ : ∃ y, enE (eKind, eNum, eView, eClient, eSerial, (eOpKind, eOpAt, eOpN, eOpData, eOpOld), (eGroupEpoch, eGroupMembers)) = y := ⟨_, rfl⟩
  have HM := mencE_any hI0
  rw [hL, hEE] at HM
  have HM := hide HM
  have HR := hide (fun W (hW : Below w0.heap.size w0 W) => rencE_any (hI0.below hW))
  simp only [hL, hEE] at HR
  have HLo := hide hlo
  have Hm := hide hm
  have Hw0 := hide hw0
  have Hmm := hide (fun W (hW : Below w0.heap.size w0 W) => mEntry_any (hI0.below hW))
  have Hrr := hide (fun W (hW : Below w0.heap.size w0 W) => rentry_any (hI0.below hW))
  simp only [hEE] at Hmm Hrr
  clear hw0 hI hJ hr hlo hm hL hEE
  have y0 := hS.cell (j := 0) rfl; have y1 := hS.cell (j := 1) rfl; have y2 := hS.cell (j := 2) rfl; have y3 := hS.cell (j := 3) rfl; have y4 := hS.cell (j := 4) rfl; have y5 := hS.cell (j := 5) rfl; have y6 := hS.cell (j := 6) rfl; have y7 := hS.cell (j := 7) rfl; have y8 := hS.cell (j := 8) rfl; have y9 := hS.cell (j := 9) rfl; have y10 := hS.cell (j := 10) rfl; have y11 := hS.cell (j := 11) rfl
  go_enter Tryz.func5, Tryz.ntmps5
  go_wp2_with fail
  rw [Hw0.out]
  go_fit HM.out
  rintro e w1 ⟨v1, rfl, ho1, hb1⟩
  obtain ⟨B1, c1, rfl, _, _, _, hs1, _⟩ := own_out ho1
  have HR1 := hide (HR.out w1 hb1)
  have hz1 := hb1.size
  clear HM HR ho1
  clear y0 y1 y2 y3 y4 y5 y6 y7 y8 y9 y10 y11
  have hS1 := hS.below hb1
  have y0 := hS1.cell (j := 0) rfl; have y1 := hS1.cell (j := 1) rfl; have y2 := hS1.cell (j := 2) rfl; have y3 := hS1.cell (j := 3) rfl; have y4 := hS1.cell (j := 4) rfl; have y5 := hS1.cell (j := 5) rfl; have y6 := hS1.cell (j := 6) rfl; have y7 := hS1.cell (j := 7) rfl; have y8 := hS1.cell (j := 8) rfl; have y9 := hS1.cell (j := 9) rfl; have y10 := hS1.cell (j := 10) rfl; have y11 := hS1.cell (j := 11) rfl
  go_wp2_with fail
  go_fit HR1.out
  rintro e w2 ⟨v2, rfl, ho2, hb2⟩
  obtain ⟨B2, c2, rfl, _, _, _, hs2, _⟩ := own_out ho2
  have hb02 := hb1.trans (hb2.mono hb1.size)
  have hz2 := hb2.size
  clear HR1 ho2 hS1
  clear y0 y1 y2 y3 y4 y5 y6 y7 y8 y9 y10 y11
  obtain ⟨D, hD⟩ : ∃ y, deE7 rI7 bs = y := ⟨_, rfl⟩
  obtain ⟨N, hN⟩ : ∃ y, deT7 rI7 bs = y := ⟨_, rfl⟩
  obtain ⟨V3, hV3⟩ : ∃ y, deV7 rI7 bs = y := ⟨_, rfl⟩
  obtain ⟨V4, hV4⟩ : ∃ y, deV7 rI7 bs = y := ⟨_, rfl⟩
  have hVV : V3 = V4 := hV3.symm.trans hV4
  have H3 := mdecE_any A m c bs w2 Hm.out hmc hm8 hc (hr0.below hb02) (fun a ha => by have := HLo.out a ha; omega)
  unfold DecE at H3
  simp only [deE7_two, deT7_two, deV7_two, hD, hN, hV3] at H3
  have H4 := fun W (hW : Below w2.heap.size w2 W) => rdecE_any A m c bs W Hm.out hmc hm8 hc ((hr0.below hb02).below hW) (fun a ha => by have := HLo.out a ha; have := hW.size; omega)
  unfold DecE at H4
  simp only [hD, hN, hV4] at H4
  have H3 := hide H3
  have H4 := hide H4
  clear hD hN hV3 hV4 hr0 Hm
  go_wp2_with fail
  go_fit H3.out
  rintro e w3 ⟨ps, rfl, hP3, hb3⟩
  have hP3' := hP3
  obtain ⟨pKind, pNum, pView, pClient, pSerial, pOpKind, pOpAt, pOpN, pOpData, pOpDataA, pOpDatan, pOpDatac, pOpOld, pOpOldA, pOpOldn, pOpOldc, pGroupEpoch, pGroupMembers, pGroupMembersA, pGroupMembersn, pGroupMembersc, pGroupMembersv, rfl, rfl, hu_pKind, h1_pNum, h2_pNum, h1_pView, h2_pView, h1_pClient, h2_pClient, h1_pSerial, h2_pSerial, hu_pOpKind, h1_pOpAt, h2_pOpAt, h1_pOpN, h2_pOpN, hl_pOpData, hc_pOpData, hm_pOpData, hr_pOpData, hq_pOpData, hl_pOpOld, hc_pOpOld, hm_pOpOld, hr_pOpOld, hq_pOpOld, h1_pGroupEpoch, h2_pGroupEpoch, hl_pGroupMembers, hc_pGroupMembers, hm_pGroupMembers, hr_pGroupMembers, hq_pGroupMembers, he_pGroupMembers⟩ := Entry_out hP3
  obtain ⟨g4, hg4⟩ : ∃ y, w3.heap.size = y := ⟨_, rfl⟩
  obtain ⟨w4, hw4⟩ : ∃ y, w3.alloc (.cells #[.int .u8 pKind, .int .i64 pNum, .int .i64 pView, .int .i64 pClient, .int .i64 pSerial, .int .u8 pOpKind, .int .i64 pOpAt, .int .i64 pOpN, .slice pOpDataA pOpDatan pOpDatac, .slice pOpOldA pOpOldn pOpOldc, .int .i64 pGroupEpoch, .slice pGroupMembersA pGroupMembersn pGroupMembersc] 49) = y := ⟨_, rfl⟩
  have hX4 : Blk w4 g4 [.int .u8 pKind, .int .i64 pNum, .int .i64 pView, .int .i64 pClient, .int .i64 pSerial, .int .u8 pOpKind, .int .i64 pOpAt, .int .i64 pOpN, .slice pOpDataA pOpDatan pOpDatac, .slice pOpOldA pOpOldn pOpOldc, .int .i64 pGroupEpoch, .slice pGroupMembersA pGroupMembersn pGroupMembersc] 49 := by rw [← hw4, ← hg4]; exact Blk.new w3 _ _
  have hst : Below w3.heap.size w3 w4 := by rw [← hw4]; exact (Below.refl _ _).alloc (Nat.le_refl _) _
  have hb24 := hb3.trans (hst.mono hb3.size)
  have hP4 := hP3'.below hst
  have H44 := hide (H4.out w4 hb24)
  have Hw4 := hide hw4
  have Hg4 := hide hg4
  have hz4 := hb24.size
  clear H3 H4 hP3' hw4 hg4 hst hb3
  go_wp2_with fail
  rw [Hw4.out]
  try rw [Hg4.out]
  go_fit H44.out
  rintro e w5 ⟨qs, rfl, hQ5, hb5⟩
  have hQ5' := hQ5
  obtain ⟨qKind, qNum, qView, qClient, qSerial, qOpKind, qOpAt, qOpN, qOpData, qOpDataA, qOpDatan, qOpDatac, qOpOld, qOpOldA, qOpOldn, qOpOldc, qGroupEpoch, qGroupMembers, qGroupMembersA, qGroupMembersn, qGroupMembersc, qGroupMembersv, rfl, rfl, hu_qKind, h1_qNum, h2_qNum, h1_qView, h2_qView, h1_qClient, h2_qClient, h1_qSerial, h2_qSerial, hu_qOpKind, h1_qOpAt, h2_qOpAt, h1_qOpN, h2_qOpN, hl_qOpData, hc_qOpData, hm_qOpData, hr_qOpData, hq_qOpData, hl_qOpOld, hc_qOpOld, hm_qOpOld, hr_qOpOld, hq_qOpOld, h1_qGroupEpoch, h2_qGroupEpoch, hl_qGroupMembers, hc_qGroupMembers, hm_qGroupMembers, hr_qGroupMembers, hq_qGroupMembers, he_qGroupMembers⟩ := Entry_out hQ5
  obtain ⟨g5, hg5⟩ : ∃ y, w5.heap.size = y := ⟨_, rfl⟩
  obtain ⟨WQ, hw6⟩ : ∃ y, w5.alloc (.cells #[.int .u8 qKind, .int .i64 qNum, .int .i64 qView, .int .i64 qClient, .int .i64 qSerial, .int .u8 qOpKind, .int .i64 qOpAt, .int .i64 qOpN, .slice qOpDataA qOpDatan qOpDatac, .slice qOpOldA qOpOldn qOpOldc, .int .i64 qGroupEpoch, .slice qGroupMembersA qGroupMembersn qGroupMembersc] 49) = y := ⟨_, rfl⟩
  have hY6 : Blk WQ g5 [.int .u8 qKind, .int .i64 qNum, .int .i64 qView, .int .i64 qClient, .int .i64 qSerial, .int .u8 qOpKind, .int .i64 qOpAt, .int .i64 qOpN, .slice qOpDataA qOpDatan qOpDatac, .slice qOpOldA qOpOldn qOpOldc, .int .i64 qGroupEpoch, .slice qGroupMembersA qGroupMembersn qGroupMembersc] 49 := by rw [← hw6, ← hg5]; exact Blk.new w5 _ _
  have hst : Below w5.heap.size w5 WQ := by rw [← hw6]; exact (Below.refl _ _).alloc (Nat.le_refl _) _
  have hb46 := hb5.trans (hst.mono hb5.size)
  have hb26 := hb24.trans (hb46.mono hb24.size)
  have hb06 := hb02.trans (hb26.mono hb02.size)
  have hQ6 := hQ5'.below hst
  have hP6 := hP4.below hb46
  have hX6 := hX4.below hb46
  have hS6 := hS.below hb06
  have hT6 := hT.below hb06
  have hI6 := hI0.below hb06
  have hJ6 := hJ0.below hb06
  have hs16 := (hs1.below hb2).below hb26
  have hs26 := hs2.below hb26
  have HB := hide (hb0.trans (hb06.mono hz0))
  have Hw6 := hide hw6
  have Hg5 := hide hg5
  have HSm : Hid (∀ x : InC (fun W => Below WQ.heap.size WQ W), Calls Tryz.prog 28 #[.agg #[.int .u8 pKind, .int .i64 pNum, .int .i64 pView, .int .i64 pClient, .int .i64 pSerial, .int .u8 pOpKind, .int .i64 pOpAt, .int .i64 pOpN, .slice pOpDataA pOpDatan pOpDatac, .slice pOpOldA pOpOldn pOpOldc, .int .i64 pGroupEpoch, .slice pGroupMembersA pGroupMembersn pGroupMembersc], .agg #[.int .u8 qKind, .int .i64 qNum, .int .i64 qView, .int .i64 qClient, .int .i64 qSerial, .int .u8 qOpKind, .int .i64 qOpAt, .int .i64 qOpN, .slice qOpDataA qOpDatan qOpDatac, .slice qOpOldA qOpOldn qOpOldc, .int .i64 qGroupEpoch, .slice qGroupMembersA qGroupMembersn qGroupMembersc]] x.W fun e' w' => e' = .returned (.bool true) ∧ Below x.W.heap.size x.W w') := hide (fun x => by
    have := rsameE_any (hP6.below x.h) (hQ6.below x.h)
    rw [hVV, eqE_self] at this
    exact this)
  have HE1 : Hid (∀ x : InC (fun W => Below WQ.heap.size WQ W), Calls Tryz.prog 29 #[.agg #[.int .u8 eKind, .int .i64 eNum, .int .i64 eView, .int .i64 eClient, .int .i64 eSerial, .int .u8 eOpKind, .int .i64 eOpAt, .int .i64 eOpN, .slice eOpDataA eOpDatan eOpDatac, .slice eOpOldA eOpOldn eOpOldc, .int .i64 eGroupEpoch, .slice eGroupMembersA eGroupMembersn eGroupMembersc]] x.W fun e' w' => e' = .returned (.int .i64 EE) ∧ Below x.W.heap.size x.W w') := hide (fun x => Hmm.out x.W (hb06.trans (x.h.mono hb06.size)))
  have HE2 : Hid (∀ x : InC (fun W => Below WQ.heap.size WQ W), Calls Tryz.prog 30 #[.agg #[.int .u8 eKind, .int .i64 eNum, .int .i64 eView, .int .i64 eClient, .int .i64 eSerial, .int .u8 eOpKind, .int .i64 eOpAt, .int .i64 eOpN, .slice eOpDataA eOpDatan eOpDatac, .slice eOpOldA eOpOldn eOpOldc, .int .i64 eGroupEpoch, .slice eGroupMembersA eGroupMembersn eGroupMembersc]] x.W fun e' w' => e' = .returned (.int .i64 EE) ∧ Below x.W.heap.size x.W w') := hide (fun x => Hrr.out x.W (hb06.trans (x.h.mono hb06.size)))
  obtain ⟨EQ, hEQ⟩ : ∃ y, eqE (eKind, eNum, eView, eClient, eSerial, (eOpKind, eOpAt, eOpN, eOpData, eOpOld), (eGroupEpoch, eGroupMembers)) (fKind, fNum, fView, fClient, fSerial, (fOpKind, fOpAt, fOpN, fOpData, fOpOld), (fGroupEpoch, fGroupMembers)) = y := ⟨_, rfl⟩
  have qQ : (EQ == EQ) = true := by simp
  have qD : (D != D) = false := by simp
  have qN : (N != N) = false := by simp
  have qE : (EE != EE) = false := by simp
  obtain ⟨STR, hSTR⟩ : ∃ y, strOf L = y := ⟨_, rfl⟩
  have k1 : ∀ x : InC (fun W => Below WQ.heap.size WQ W), (convert 38 9 (.slice B1 L.length c1)).run Tryz.prog x.W = .ok (.string STR) x.W := fun x => by rw [← hSTR]; exact convB c1 rfl (hs16.below x.h)
  have k2 : ∀ x : InC (fun W => Below WQ.heap.size WQ W), (convert 38 9 (.slice B2 L.length c2)).run Tryz.prog x.W = .ok (.string STR) x.W := fun x => by rw [← hSTR]; exact convB c2 rfl (hs26.below x.h)
  obtain ⟨n, hn⟩ : ∃ y, L.length = y := ⟨_, rfl⟩
  rw [hn] at k1 k2
  have Hn := hide hn
  have xp0 : ∀ x : InC (fun W => Below WQ.heap.size WQ W), x.W.cell? ⟨g4, 0, none⟩ = some (.int .u8 pKind) := fun x => (hX6.below x.h).cell (j := 0) rfl
  have xp1 : ∀ x : InC (fun W => Below WQ.heap.size WQ W), x.W.cell? ⟨g4, 1, none⟩ = some (.int .i64 pNum) := fun x => (hX6.below x.h).cell (j := 1) rfl
  have xp2 : ∀ x : InC (fun W => Below WQ.heap.size WQ W), x.W.cell? ⟨g4, 2, none⟩ = some (.int .i64 pView) := fun x => (hX6.below x.h).cell (j := 2) rfl
  have xp3 : ∀ x : InC (fun W => Below WQ.heap.size WQ W), x.W.cell? ⟨g4, 3, none⟩ = some (.int .i64 pClient) := fun x => (hX6.below x.h).cell (j := 3) rfl
  have xp4 : ∀ x : InC (fun W => Below WQ.heap.size WQ W), x.W.cell? ⟨g4, 4, none⟩ = some (.int .i64 pSerial) := fun x => (hX6.below x.h).cell (j := 4) rfl
  have xp5 : ∀ x : InC (fun W => Below WQ.heap.size WQ W), x.W.cell? ⟨g4, 5, none⟩ = some (.int .u8 pOpKind) := fun x => (hX6.below x.h).cell (j := 5) rfl
  have xp6 : ∀ x : InC (fun W => Below WQ.heap.size WQ W), x.W.cell? ⟨g4, 6, none⟩ = some (.int .i64 pOpAt) := fun x => (hX6.below x.h).cell (j := 6) rfl
  have xp7 : ∀ x : InC (fun W => Below WQ.heap.size WQ W), x.W.cell? ⟨g4, 7, none⟩ = some (.int .i64 pOpN) := fun x => (hX6.below x.h).cell (j := 7) rfl
  have xp8 : ∀ x : InC (fun W => Below WQ.heap.size WQ W), x.W.cell? ⟨g4, 8, none⟩ = some (.slice pOpDataA pOpDatan pOpDatac) := fun x => (hX6.below x.h).cell (j := 8) rfl
  have xp9 : ∀ x : InC (fun W => Below WQ.heap.size WQ W), x.W.cell? ⟨g4, 9, none⟩ = some (.slice pOpOldA pOpOldn pOpOldc) := fun x => (hX6.below x.h).cell (j := 9) rfl
  have xp10 : ∀ x : InC (fun W => Below WQ.heap.size WQ W), x.W.cell? ⟨g4, 10, none⟩ = some (.int .i64 pGroupEpoch) := fun x => (hX6.below x.h).cell (j := 10) rfl
  have xp11 : ∀ x : InC (fun W => Below WQ.heap.size WQ W), x.W.cell? ⟨g4, 11, none⟩ = some (.slice pGroupMembersA pGroupMembersn pGroupMembersc) := fun x => (hX6.below x.h).cell (j := 11) rfl
  have xq0 : ∀ x : InC (fun W => Below WQ.heap.size WQ W), x.W.cell? ⟨g5, 0, none⟩ = some (.int .u8 qKind) := fun x => (hY6.below x.h).cell (j := 0) rfl
  have xq1 : ∀ x : InC (fun W => Below WQ.heap.size WQ W), x.W.cell? ⟨g5, 1, none⟩ = some (.int .i64 qNum) := fun x => (hY6.below x.h).cell (j := 1) rfl
  have xq2 : ∀ x : InC (fun W => Below WQ.heap.size WQ W), x.W.cell? ⟨g5, 2, none⟩ = some (.int .i64 qView) := fun x => (hY6.below x.h).cell (j := 2) rfl
  have xq3 : ∀ x : InC (fun W => Below WQ.heap.size WQ W), x.W.cell? ⟨g5, 3, none⟩ = some (.int .i64 qClient) := fun x => (hY6.below x.h).cell (j := 3) rfl
  have xq4 : ∀ x : InC (fun W => Below WQ.heap.size WQ W), x.W.cell? ⟨g5, 4, none⟩ = some (.int .i64 qSerial) := fun x => (hY6.below x.h).cell (j := 4) rfl
  have xq5 : ∀ x : InC (fun W => Below WQ.heap.size WQ W), x.W.cell? ⟨g5, 5, none⟩ = some (.int .u8 qOpKind) := fun x => (hY6.below x.h).cell (j := 5) rfl
  have xq6 : ∀ x : InC (fun W => Below WQ.heap.size WQ W), x.W.cell? ⟨g5, 6, none⟩ = some (.int .i64 qOpAt) := fun x => (hY6.below x.h).cell (j := 6) rfl
  have xq7 : ∀ x : InC (fun W => Below WQ.heap.size WQ W), x.W.cell? ⟨g5, 7, none⟩ = some (.int .i64 qOpN) := fun x => (hY6.below x.h).cell (j := 7) rfl
  have xq8 : ∀ x : InC (fun W => Below WQ.heap.size WQ W), x.W.cell? ⟨g5, 8, none⟩ = some (.slice qOpDataA qOpDatan qOpDatac) := fun x => (hY6.below x.h).cell (j := 8) rfl
  have xq9 : ∀ x : InC (fun W => Below WQ.heap.size WQ W), x.W.cell? ⟨g5, 9, none⟩ = some (.slice qOpOldA qOpOldn qOpOldc) := fun x => (hY6.below x.h).cell (j := 9) rfl
  have xq10 : ∀ x : InC (fun W => Below WQ.heap.size WQ W), x.W.cell? ⟨g5, 10, none⟩ = some (.int .i64 qGroupEpoch) := fun x => (hY6.below x.h).cell (j := 10) rfl
  have xq11 : ∀ x : InC (fun W => Below WQ.heap.size WQ W), x.W.cell? ⟨g5, 11, none⟩ = some (.slice qGroupMembersA qGroupMembersn qGroupMembersc) := fun x => (hY6.below x.h).cell (j := 11) rfl
  have xe0 : ∀ x : InC (fun W => Below WQ.heap.size WQ W), x.W.cell? ⟨g, 0, none⟩ = some (.int .u8 eKind) := fun x => (hS6.below x.h).cell (j := 0) rfl
  have xe1 : ∀ x : InC (fun W => Below WQ.heap.size WQ W), x.W.cell? ⟨g, 1, none⟩ = some (.int .i64 eNum) := fun x => (hS6.below x.h).cell (j := 1) rfl
  have xe2 : ∀ x : InC (fun W => Below WQ.heap.size WQ W), x.W.cell? ⟨g, 2, none⟩ = some (.int .i64 eView) := fun x => (hS6.below x.h).cell (j := 2) rfl
  have xe3 : ∀ x : InC (fun W => Below WQ.heap.size WQ W), x.W.cell? ⟨g, 3, none⟩ = some (.int .i64 eClient) := fun x => (hS6.below x.h).cell (j := 3) rfl
  have xe4 : ∀ x : InC (fun W => Below WQ.heap.size WQ W), x.W.cell? ⟨g, 4, none⟩ = some (.int .i64 eSerial) := fun x => (hS6.below x.h).cell (j := 4) rfl
  have xe5 : ∀ x : InC (fun W => Below WQ.heap.size WQ W), x.W.cell? ⟨g, 5, none⟩ = some (.int .u8 eOpKind) := fun x => (hS6.below x.h).cell (j := 5) rfl
  have xe6 : ∀ x : InC (fun W => Below WQ.heap.size WQ W), x.W.cell? ⟨g, 6, none⟩ = some (.int .i64 eOpAt) := fun x => (hS6.below x.h).cell (j := 6) rfl
  have xe7 : ∀ x : InC (fun W => Below WQ.heap.size WQ W), x.W.cell? ⟨g, 7, none⟩ = some (.int .i64 eOpN) := fun x => (hS6.below x.h).cell (j := 7) rfl
  have xe8 : ∀ x : InC (fun W => Below WQ.heap.size WQ W), x.W.cell? ⟨g, 8, none⟩ = some (.slice eOpDataA eOpDatan eOpDatac) := fun x => (hS6.below x.h).cell (j := 8) rfl
  have xe9 : ∀ x : InC (fun W => Below WQ.heap.size WQ W), x.W.cell? ⟨g, 9, none⟩ = some (.slice eOpOldA eOpOldn eOpOldc) := fun x => (hS6.below x.h).cell (j := 9) rfl
  have xe10 : ∀ x : InC (fun W => Below WQ.heap.size WQ W), x.W.cell? ⟨g, 10, none⟩ = some (.int .i64 eGroupEpoch) := fun x => (hS6.below x.h).cell (j := 10) rfl
  have xe11 : ∀ x : InC (fun W => Below WQ.heap.size WQ W), x.W.cell? ⟨g, 11, none⟩ = some (.slice eGroupMembersA eGroupMembersn eGroupMembersc) := fun x => (hS6.below x.h).cell (j := 11) rfl
  have HK := hide (And.intro hS6 (And.intro hT6 (And.intro hI6 hJ6)))
  clear hT6 hI6 hJ6
  clear hw6 hg5 hn hSTR hS6 hX6 hY6 hP4 hP6 hQ5' hQ6 hs1 hs2 hs16 hs26 hX4 hS HLo Hmm Hrr
  go_wp2_with fail
  rw [Hw6.out]
  try rw [Hg5.out]
  rw [Hn.out]
  refine wp_region_in (fun W => Below WQ.heap.size WQ W) (Below.refl _ _).drew (by kernel_rfl) (by kernel_rfl) ?_
  repeat (go_big_quiet_step (first
    | (go_at_call 28; exact Calls.in_below (HSm.out _))
    | (go_at_call 29; exact Calls.in_below (HE1.out _))
    | (go_at_call 30; exact Calls.in_below (HE2.out _))))
  refine wpQuiet_nil ?_
  intro _ hw'
  obtain ⟨nq, hw''⟩ := hw'
  subst hw''
  have hbq := nq.h
  obtain ⟨w7, hw7⟩ : ∃ y, nq.W = y := ⟨_, rfl⟩
  rw [hw7] at hbq ⊢
  clear xp0 xq0 xe0 xp1 xq1 xe1 xp2 xq2 xe2 xp3 xq3 xe3 xp4 xq4 xe4 xp5 xq5 xe5 xp6 xq6 xe6 xp7 xq7 xe7 xp8 xq8 xe8 xp9 xq9 xe9 xp10 xq10 xe10 xp11 xq11 xe11 k1 k2 HSm HE1 HE2 hw7
  have hS7 := HK.out.1.below hbq
  have hT7 := HK.out.2.1.below hbq
  have hI7 := HK.out.2.2.1.below hbq
  have hJ7 := HK.out.2.2.2.below hbq
  have HM1 : Hid (∀ x : InC (fun W => Below w7.heap.size w7 W), Calls Tryz.prog 31 #[.agg #[.int .u8 eKind, .int .i64 eNum, .int .i64 eView, .int .i64 eClient, .int .i64 eSerial, .int .u8 eOpKind, .int .i64 eOpAt, .int .i64 eOpN, .slice eOpDataA eOpDatan eOpDatac, .slice eOpOldA eOpOldn eOpOldc, .int .i64 eGroupEpoch, .slice eGroupMembersA eGroupMembersn eGroupMembersc], .agg #[.int .u8 fKind, .int .i64 fNum, .int .i64 fView, .int .i64 fClient, .int .i64 fSerial, .int .u8 fOpKind, .int .i64 fOpAt, .int .i64 fOpN, .slice fOpDataA fOpDatan fOpDatac, .slice fOpOldA fOpOldn fOpOldc, .int .i64 fGroupEpoch, .slice fGroupMembersA fGroupMembersn fGroupMembersc]] x.W fun e' w' => e' = .returned (.bool EQ) ∧ Below x.W.heap.size x.W w') := hide (fun x => by
    have := msameE_any (hI7.below x.h) (hJ7.below x.h)
    rwa [hEQ] at this)
  have HM2 : Hid (∀ x : InC (fun W => Below w7.heap.size w7 W), Calls Tryz.prog 28 #[.agg #[.int .u8 eKind, .int .i64 eNum, .int .i64 eView, .int .i64 eClient, .int .i64 eSerial, .int .u8 eOpKind, .int .i64 eOpAt, .int .i64 eOpN, .slice eOpDataA eOpDatan eOpDatac, .slice eOpOldA eOpOldn eOpOldc, .int .i64 eGroupEpoch, .slice eGroupMembersA eGroupMembersn eGroupMembersc], .agg #[.int .u8 fKind, .int .i64 fNum, .int .i64 fView, .int .i64 fClient, .int .i64 fSerial, .int .u8 fOpKind, .int .i64 fOpAt, .int .i64 fOpN, .slice fOpDataA fOpDatan fOpDatac, .slice fOpOldA fOpOldn fOpOldc, .int .i64 fGroupEpoch, .slice fGroupMembersA fGroupMembersn fGroupMembersc]] x.W fun e' w' => e' = .returned (.bool EQ) ∧ Below x.W.heap.size x.W w') := hide (fun x => by
    have := rsameE_any (hI7.below x.h) (hJ7.below x.h)
    rwa [hEQ] at this)
  have HM3 : Hid (∀ x : InC (fun W => Below w7.heap.size w7 W), Calls Tryz.prog 31 #[.agg #[.int .u8 eKind, .int .i64 eNum, .int .i64 eView, .int .i64 eClient, .int .i64 eSerial, .int .u8 eOpKind, .int .i64 eOpAt, .int .i64 eOpN, .slice eOpDataA eOpDatan eOpDatac, .slice eOpOldA eOpOldn eOpOldc, .int .i64 eGroupEpoch, .slice eGroupMembersA eGroupMembersn eGroupMembersc], .agg #[.int .u8 eKind, .int .i64 eNum, .int .i64 eView, .int .i64 eClient, .int .i64 eSerial, .int .u8 eOpKind, .int .i64 eOpAt, .int .i64 eOpN, .slice eOpDataA eOpDatan eOpDatac, .slice eOpOldA eOpOldn eOpOldc, .int .i64 eGroupEpoch, .slice eGroupMembersA eGroupMembersn eGroupMembersc]] x.W fun e' w' => e' = .returned (.bool true) ∧ Below x.W.heap.size x.W w') := hide (fun x => by
    have := msameE_any (hI7.below x.h) (hI7.below x.h)
    rwa [eqE_self] at this)
  have ve0 : ∀ x : InC (fun W => Below w7.heap.size w7 W), x.W.cell? ⟨g, 0, none⟩ = some (.int .u8 eKind) := fun x => (hS7.below x.h).cell (j := 0) rfl
  have ve1 : ∀ x : InC (fun W => Below w7.heap.size w7 W), x.W.cell? ⟨g, 1, none⟩ = some (.int .i64 eNum) := fun x => (hS7.below x.h).cell (j := 1) rfl
  have ve2 : ∀ x : InC (fun W => Below w7.heap.size w7 W), x.W.cell? ⟨g, 2, none⟩ = some (.int .i64 eView) := fun x => (hS7.below x.h).cell (j := 2) rfl
  have ve3 : ∀ x : InC (fun W => Below w7.heap.size w7 W), x.W.cell? ⟨g, 3, none⟩ = some (.int .i64 eClient) := fun x => (hS7.below x.h).cell (j := 3) rfl
  have ve4 : ∀ x : InC (fun W => Below w7.heap.size w7 W), x.W.cell? ⟨g, 4, none⟩ = some (.int .i64 eSerial) := fun x => (hS7.below x.h).cell (j := 4) rfl
  have ve5 : ∀ x : InC (fun W => Below w7.heap.size w7 W), x.W.cell? ⟨g, 5, none⟩ = some (.int .u8 eOpKind) := fun x => (hS7.below x.h).cell (j := 5) rfl
  have ve6 : ∀ x : InC (fun W => Below w7.heap.size w7 W), x.W.cell? ⟨g, 6, none⟩ = some (.int .i64 eOpAt) := fun x => (hS7.below x.h).cell (j := 6) rfl
  have ve7 : ∀ x : InC (fun W => Below w7.heap.size w7 W), x.W.cell? ⟨g, 7, none⟩ = some (.int .i64 eOpN) := fun x => (hS7.below x.h).cell (j := 7) rfl
  have ve8 : ∀ x : InC (fun W => Below w7.heap.size w7 W), x.W.cell? ⟨g, 8, none⟩ = some (.slice eOpDataA eOpDatan eOpDatac) := fun x => (hS7.below x.h).cell (j := 8) rfl
  have ve9 : ∀ x : InC (fun W => Below w7.heap.size w7 W), x.W.cell? ⟨g, 9, none⟩ = some (.slice eOpOldA eOpOldn eOpOldc) := fun x => (hS7.below x.h).cell (j := 9) rfl
  have ve10 : ∀ x : InC (fun W => Below w7.heap.size w7 W), x.W.cell? ⟨g, 10, none⟩ = some (.int .i64 eGroupEpoch) := fun x => (hS7.below x.h).cell (j := 10) rfl
  have ve11 : ∀ x : InC (fun W => Below w7.heap.size w7 W), x.W.cell? ⟨g, 11, none⟩ = some (.slice eGroupMembersA eGroupMembersn eGroupMembersc) := fun x => (hS7.below x.h).cell (j := 11) rfl
  have vf0 : ∀ x : InC (fun W => Below w7.heap.size w7 W), x.W.cell? ⟨(g + 1), 0, none⟩ = some (.int .u8 fKind) := fun x => (hT7.below x.h).cell (j := 0) rfl
  have vf1 : ∀ x : InC (fun W => Below w7.heap.size w7 W), x.W.cell? ⟨(g + 1), 1, none⟩ = some (.int .i64 fNum) := fun x => (hT7.below x.h).cell (j := 1) rfl
  have vf2 : ∀ x : InC (fun W => Below w7.heap.size w7 W), x.W.cell? ⟨(g + 1), 2, none⟩ = some (.int .i64 fView) := fun x => (hT7.below x.h).cell (j := 2) rfl
  have vf3 : ∀ x : InC (fun W => Below w7.heap.size w7 W), x.W.cell? ⟨(g + 1), 3, none⟩ = some (.int .i64 fClient) := fun x => (hT7.below x.h).cell (j := 3) rfl
  have vf4 : ∀ x : InC (fun W => Below w7.heap.size w7 W), x.W.cell? ⟨(g + 1), 4, none⟩ = some (.int .i64 fSerial) := fun x => (hT7.below x.h).cell (j := 4) rfl
  have vf5 : ∀ x : InC (fun W => Below w7.heap.size w7 W), x.W.cell? ⟨(g + 1), 5, none⟩ = some (.int .u8 fOpKind) := fun x => (hT7.below x.h).cell (j := 5) rfl
  have vf6 : ∀ x : InC (fun W => Below w7.heap.size w7 W), x.W.cell? ⟨(g + 1), 6, none⟩ = some (.int .i64 fOpAt) := fun x => (hT7.below x.h).cell (j := 6) rfl
  have vf7 : ∀ x : InC (fun W => Below w7.heap.size w7 W), x.W.cell? ⟨(g + 1), 7, none⟩ = some (.int .i64 fOpN) := fun x => (hT7.below x.h).cell (j := 7) rfl
  have vf8 : ∀ x : InC (fun W => Below w7.heap.size w7 W), x.W.cell? ⟨(g + 1), 8, none⟩ = some (.slice fOpDataA fOpDatan fOpDatac) := fun x => (hT7.below x.h).cell (j := 8) rfl
  have vf9 : ∀ x : InC (fun W => Below w7.heap.size w7 W), x.W.cell? ⟨(g + 1), 9, none⟩ = some (.slice fOpOldA fOpOldn fOpOldc) := fun x => (hT7.below x.h).cell (j := 9) rfl
  have vf10 : ∀ x : InC (fun W => Below w7.heap.size w7 W), x.W.cell? ⟨(g + 1), 10, none⟩ = some (.int .i64 fGroupEpoch) := fun x => (hT7.below x.h).cell (j := 10) rfl
  have vf11 : ∀ x : InC (fun W => Below w7.heap.size w7 W), x.W.cell? ⟨(g + 1), 11, none⟩ = some (.slice fGroupMembersA fGroupMembersn fGroupMembersc) := fun x => (hT7.below x.h).cell (j := 11) rfl
  have HB7 := hide (HB.out.trans (hbq.mono HB.out.size))
  clear hS7 hT7 hI7 hJ7 HK hbq hEQ HB
  go_wp2_with fail
  refine wp_region_in (fun W => Below w7.heap.size w7 W) (Below.refl _ _).drew (by kernel_rfl) (by kernel_rfl) ?_
  iterate 8 (go_big_quiet_step (first
    | (go_at_call 31; exact Calls.in_below (HM1.out _))
    | (go_at_call 28; exact Calls.in_below (HM2.out _))))
  clear HM1 HM2
  repeat (go_big_quiet_step (first
    | (go_at_call 31; exact Calls.in_below (HM3.out _))
    | (go_at_call 8; exact Calls.in_below (awake07_any _))))
  refine wpQuiet_nil ?_
  intro _ hw'
  obtain ⟨nq, hw''⟩ := hw'
  subst hw''
  have hbq := nq.h
  obtain ⟨w8, hw8⟩ : ∃ y, nq.W = y := ⟨_, rfl⟩
  rw [hw8] at hbq ⊢
  clear hw8 ve0 vf0 ve1 vf1 ve2 vf2 ve3 vf3 ve4 vf4 ve5 vf5 ve6 vf6 ve7 vf7 ve8 vf8 ve9 vf9 ve10 vf10 ve11 vf11
  go_wp2
  go_ret
  exact ⟨rfl, HB7.out.trans (hbq.mono HB7.out.size)⟩
end Go.Proofs.YtkknkdjdneldlaaGreat
