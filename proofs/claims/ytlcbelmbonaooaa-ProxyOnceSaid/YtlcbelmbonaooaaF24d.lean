/- Stage 24: which clients may be, as the document says (written by gen_24a.py). -/
import Derived.Test.YtlcbelmbonaooaaF24a
namespace Go.Proofs.Ytlcbelmbonaooaa
set_option maxRecDepth 20000
open Go.RowKit Go.Px Go.Maps
set_option linter.unusedVariables false
set_option linter.unusedSimpArgs false
set_option maxHeartbeats 800000 in
theorem none24_any (e : Int) (A : Option Addr) (n c : Nat) (w : World) : Calls Try.prog 36 #[grp e A n c] w fun x w' => x = .returned (.bool (ngB e n)) ∧ Below w.heap.size w w' := by
  have hb0 : Below w.heap.size w (w.alloc (.cells #[.int .i64 e, .slice A n c] 24)) := (Below.refl _ _).alloc (Nat.le_refl _) _
  rcases bool_two (e == 0) with q1 | q1
  · rcases bool_two ((n : Int) == 0) with q2 | q2
    all_goals
      have HF := hide (show ngB e n = ((n : Int) == 0) by unfold ngB; rw [q1]; rfl)
      rw [q2] at HF
      go_enter Try.func36, Try.ntmps36
      go_wp2
      go_ret
      exact ⟨by rw [HF.out]; rfl, hb0⟩
  · have HF := hide (show ngB e n = false by unfold ngB; rw [q1]; rfl)
    go_enter Try.func36, Try.ntmps36
    go_wp2
    go_ret
    exact ⟨by rw [HF.out]; rfl, hb0⟩
set_option maxRecDepth 20000 in
set_option maxHeartbeats 51200000 in
theorem rprC_any {w : World} {Q : Nat → Prop} {x : ProxyD} {cs : List Value} (h : tyProxy.Is w Q x cs) : Calls Try.prog 13 #[.agg cs.toArray] w fun e w' => e = .returned (.int .i64 (prE x)) ∧ Below w.heap.size w w' := by
  obtain ⟨pID, pGroupEpoch, pGroupMembers, pGroupMembersA, pGroupMembersn, pGroupMembersc, pGroupMembersv, pView, pSerial, pBusy, pOpKind, pOpAt, pOpN, pOpData, pOpDataA, pOpDatan, pOpDatac, pOpOld, pOpOldA, pOpOldn, pOpOldc, pNextEpoch, pNextMembers, pNextMembersA, pNextMembersn, pNextMembersc, pNextMembersv, pQuiet, rfl, rfl, h1_pID, h2_pID, h1_pGroupEpoch, h2_pGroupEpoch, hl_pGroupMembers, hc_pGroupMembers, hm_pGroupMembers, hr_pGroupMembers, hq_pGroupMembers, he_pGroupMembers, h1_pView, h2_pView, h1_pSerial, h2_pSerial, hu_pOpKind, h1_pOpAt, h2_pOpAt, h1_pOpN, h2_pOpN, hl_pOpData, hc_pOpData, hm_pOpData, hr_pOpData, hq_pOpData, hl_pOpOld, hc_pOpOld, hm_pOpOld, hr_pOpOld, hq_pOpOld, h1_pNextEpoch, h2_pNextEpoch, hl_pNextMembers, hc_pNextMembers, hm_pNextMembers, hr_pNextMembers, hq_pNextMembers, he_pNextMembers, h1_pQuiet, h2_pQuiet⟩ := Proxy_out h
  obtain ⟨hmi, _⟩ := i64rows he_pGroupMembers
  subst hmi
  obtain ⟨hmi', _⟩ := i64rows he_pNextMembers
  subst hmi'
  obtain ⟨g, hg⟩ : ∃ g, w.heap.size = g := ⟨_, rfl⟩
  obtain ⟨w0, hw0⟩ : ∃ x, (w.alloc (.cells #[.int .i64 pID, .int .i64 pGroupEpoch, .slice pGroupMembersA pGroupMembersn pGroupMembersc, .int .i64 pView, .int .i64 pSerial, .bool pBusy, .int .u8 pOpKind, .int .i64 pOpAt, .int .i64 pOpN, .slice pOpDataA pOpDatan pOpDatac, .slice pOpOldA pOpOldn pOpOldc, .int .i64 pNextEpoch, .slice pNextMembersA pNextMembersn pNextMembersc, .int .i64 pQuiet] 30)).alloc (.cells #[.int .i64 pView, .int .i64 pSerial, .int .i64 pQuiet] 3) = x := ⟨_, rfl⟩
  have hB0 : Blk w0 g [.int .i64 pID, .int .i64 pGroupEpoch, .slice pGroupMembersA pGroupMembersn pGroupMembersc, .int .i64 pView, .int .i64 pSerial, .bool pBusy, .int .u8 pOpKind, .int .i64 pOpAt, .int .i64 pOpN, .slice pOpDataA pOpDatan pOpDatac, .slice pOpOldA pOpOldn pOpOldc, .int .i64 pNextEpoch, .slice pNextMembersA pNextMembersn pNextMembersc, .int .i64 pQuiet] 30 := by rw [← hw0, ← hg]; exact (Blk.new w [.int .i64 pID, .int .i64 pGroupEpoch, .slice pGroupMembersA pGroupMembersn pGroupMembersc, .int .i64 pView, .int .i64 pSerial, .bool pBusy, .int .u8 pOpKind, .int .i64 pOpAt, .int .i64 pOpN, .slice pOpDataA pOpDatan pOpDatac, .slice pOpOldA pOpOldn pOpOldc, .int .i64 pNextEpoch, .slice pNextMembersA pNextMembersn pNextMembersc, .int .i64 pQuiet] _).alloc _
  have hI0 : Blk w0 (g + 1) [.int .i64 pView, .int .i64 pSerial, .int .i64 pQuiet] 3 := by
    rw [← hw0, ← hg]
    have := Blk.new (w.alloc (.cells #[.int .i64 pID, .int .i64 pGroupEpoch, .slice pGroupMembersA pGroupMembersn pGroupMembersc, .int .i64 pView, .int .i64 pSerial, .bool pBusy, .int .u8 pOpKind, .int .i64 pOpAt, .int .i64 pOpN, .slice pOpDataA pOpDatan pOpDatac, .slice pOpOldA pOpOldn pOpOldc, .int .i64 pNextEpoch, .slice pNextMembersA pNextMembersn pNextMembersc, .int .i64 pQuiet] 30)) [.int .i64 pView, .int .i64 pSerial, .int .i64 pQuiet] 3
    rwa [World.size_alloc] at this
  have hbw : Below w.heap.size w w0 := by rw [← hw0]; exact ((Below.refl _ _).alloc (Nat.le_refl _) _).alloc (by simp) _
  have HSm := hide (fun W (hW : Below w0.heap.size w0 W) => rosame_any pOpKind pOpAt pOpN pOpDataA pOpDatan pOpDatac pOpData pOpOldA pOpOldn pOpOldc pOpOld 0 0 0 none 0 0 [] none 0 0 [] W hl_pOpData hl_pOpOld rfl rfl ((hr_pOpData.below hbw).below hW) ((hr_pOpOld.below hbw).below hW) Rd.nil Rd.nil)
  have HFo := hide (fun W => rform_any pOpKind pOpAt pOpN pOpDataA pOpDatan pOpDatac pOpOldA pOpOldn pOpOldc W hu_pOpKind)
  have HCn := hide (fun W (hW : Below w0.heap.size w0 W) => rcheck_any pNextEpoch pNextMembersA pNextMembersn pNextMembersc pNextMembers W hl_pNextMembers ((hr_pNextMembers.below hbw).below hW))
  have HCg := hide (fun W (hW : Below w0.heap.size w0 W) => rcheck_any pGroupEpoch pGroupMembersA pGroupMembersn pGroupMembersc pGroupMembers W hl_pGroupMembers ((hr_pGroupMembers.below hbw).below hW))
  obtain ⟨g1, hg1⟩ : ∃ f, ngB pNextEpoch pNextMembersn = f := ⟨_, rfl⟩
  obtain ⟨n1, hn1⟩ : ∃ f, eqO pOpKind pOpAt pOpN pOpData pOpOld 0 0 0 [] [] = f := ⟨_, rfl⟩
  obtain ⟨ff, hff⟩ : ∃ f, fmE pOpKind pOpAt pOpN pOpDatan pOpOldn = f := ⟨_, rfl⟩
  obtain ⟨kn, hkn⟩ : ∃ b, grpOk pNextEpoch pNextMembers = b := ⟨_, rfl⟩
  obtain ⟨kg, hkg⟩ : ∃ b, grpOk pGroupEpoch pGroupMembers = b := ⟨_, rfl⟩
  have Hng := hide hg1
  have Hno := hide hn1
  have Hff := hide hff
  have Hkn := hide hkn
  have Hkg := hide hkg
  have Hnl := hide hl_pNextMembers
  have Hdl := hide hl_pOpData
  have Hol := hide hl_pOpOld
  have HV := hide (show prB (pID, (pGroupEpoch, pGroupMembers), pView, pSerial, pBusy, (pOpKind, pOpAt, pOpN, pOpData, pOpOld), (pNextEpoch, pNextMembers), pQuiet) = (serB pID && (kg && (numB pView && (numB pSerial && (numB pQuiet && restB (pID, (pGroupEpoch, pGroupMembers), pView, pSerial, pBusy, (pOpKind, pOpAt, pOpN, pOpData, pOpOld), (pNextEpoch, pNextMembers), pQuiet)))))) by rw [← hkg]; rfl)
  clear hl_pGroupMembers hr_pGroupMembers hq_pGroupMembers he_pGroupMembers hl_pOpData hr_pOpData hq_pOpData hl_pOpOld hr_pOpOld hq_pOpOld hl_pNextMembers hr_pNextMembers hq_pNextMembers he_pNextMembers
  have Hw0 := hide hw0
  have Hg := hide hg
  clear hw0 hg1 hn1 hff hkn hkg
  have y0 := Blk.cell hB0 (j := 0) rfl; have y1 := Blk.cell hB0 (j := 1) rfl; have y2 := Blk.cell hB0 (j := 2) rfl; have y3 := Blk.cell hB0 (j := 3) rfl; have y4 := Blk.cell hB0 (j := 4) rfl; have y5 := Blk.cell hB0 (j := 5) rfl; have y6 := Blk.cell hB0 (j := 6) rfl; have y7 := Blk.cell hB0 (j := 7) rfl; have y8 := Blk.cell hB0 (j := 8) rfl; have y9 := Blk.cell hB0 (j := 9) rfl; have y10 := Blk.cell hB0 (j := 10) rfl; have y11 := Blk.cell hB0 (j := 11) rfl; have y12 := Blk.cell hB0 (j := 12) rfl; have y13 := Blk.cell hB0 (j := 13) rfl
  go_enter Try.func13, Try.ntmps13
  go_wp2_with fail
  rw [Hw0.out]
  go_loopw [15] (fun iv wr => ∃ k : Nat, k ≤ 3 ∧ iv = .int .i64 k ∧ Below w0.heap.size w0 wr ∧ Hid (1 ≤ k → numB pView = true) ∧ Hid (2 ≤ k → numB pSerial = true) ∧ Hid (3 ≤ k → numB pQuiet = true)) (fun iv _ => 3 - (intOf iv).toNat)
  case atStart => exact ⟨0, by omega, rfl, Below.refl _ _, hide (by omega), hide (by omega), hide (by omega)⟩
  case round =>
    obtain ⟨k, hk, rfl, he0, s1, s2, s3⟩ := hrel
    have hI1 := hI0.below he0
    have x0 := hI1.cell (j := 0) rfl
    have x1 := hI1.cell (j := 1) rfl
    have x2 := hI1.cell (j := 2) rfl
    rcases (show k = 0 ∨ k = 1 ∨ k = 2 ∨ k = 3 by omega) with rfl | rfl | rfl | rfl
    · rcases bool_two (decide (pView < 0)) with d1 | d1
      · have HR := hide (prE_no (show prB (pID, (pGroupEpoch, pGroupMembers), pView, pSerial, pBusy, (pOpKind, pOpAt, pOpN, pOpData, pOpOld), (pNextEpoch, pNextMembers), pQuiet) = false by rw [HV.out]; simp [show numB pView = false from decide_eq_false (by have := of_decide_eq_true d1; omega)]))
        go_wp2
        go_ret
        exact ⟨by rw [HR.out]; rfl, hbw.trans (he0.mono hbw.size)⟩
      rcases bool_two (decide (4611686018427387904 < pView)) with d2 | d2
      · have HR := hide (prE_no (show prB (pID, (pGroupEpoch, pGroupMembers), pView, pSerial, pBusy, (pOpKind, pOpAt, pOpN, pOpData, pOpOld), (pNextEpoch, pNextMembers), pQuiet) = false by rw [HV.out]; simp [show numB pView = false from decide_eq_false (by have := of_decide_eq_true d2; omega)]))
        go_wp2
        go_ret
        exact ⟨by rw [HR.out]; rfl, hbw.trans (he0.mono hbw.size)⟩
      have Hn := hide (show numB pView = true from decide_eq_true (by have := of_decide_eq_false d1; have := of_decide_eq_false d2; omega))
      go_wp2
      go_roundw
      case rel => exact ⟨1, by omega, rfl, he0, hide (fun _ => Hn.out), hide (by omega), hide (by omega)⟩
      case measure => simp [intOf]
    · rcases bool_two (decide (pSerial < 0)) with d1 | d1
      · have HR := hide (prE_no (show prB (pID, (pGroupEpoch, pGroupMembers), pView, pSerial, pBusy, (pOpKind, pOpAt, pOpN, pOpData, pOpOld), (pNextEpoch, pNextMembers), pQuiet) = false by rw [HV.out]; simp [show numB pSerial = false from decide_eq_false (by have := of_decide_eq_true d1; omega)]))
        go_wp2
        go_ret
        exact ⟨by rw [HR.out]; rfl, hbw.trans (he0.mono hbw.size)⟩
      rcases bool_two (decide (4611686018427387904 < pSerial)) with d2 | d2
      · have HR := hide (prE_no (show prB (pID, (pGroupEpoch, pGroupMembers), pView, pSerial, pBusy, (pOpKind, pOpAt, pOpN, pOpData, pOpOld), (pNextEpoch, pNextMembers), pQuiet) = false by rw [HV.out]; simp [show numB pSerial = false from decide_eq_false (by have := of_decide_eq_true d2; omega)]))
        go_wp2
        go_ret
        exact ⟨by rw [HR.out]; rfl, hbw.trans (he0.mono hbw.size)⟩
      have Hn := hide (show numB pSerial = true from decide_eq_true (by have := of_decide_eq_false d1; have := of_decide_eq_false d2; omega))
      go_wp2
      go_roundw
      case rel => exact ⟨2, by omega, rfl, he0, hide (fun _ => s1.out (by omega)), hide (fun _ => Hn.out), hide (by omega)⟩
      case measure => simp [intOf]
    · rcases bool_two (decide (pQuiet < 0)) with d1 | d1
      · have HR := hide (prE_no (show prB (pID, (pGroupEpoch, pGroupMembers), pView, pSerial, pBusy, (pOpKind, pOpAt, pOpN, pOpData, pOpOld), (pNextEpoch, pNextMembers), pQuiet) = false by rw [HV.out]; simp [show numB pQuiet = false from decide_eq_false (by have := of_decide_eq_true d1; omega)]))
        go_wp2
        go_ret
        exact ⟨by rw [HR.out]; rfl, hbw.trans (he0.mono hbw.size)⟩
      rcases bool_two (decide (4611686018427387904 < pQuiet)) with d2 | d2
      · have HR := hide (prE_no (show prB (pID, (pGroupEpoch, pGroupMembers), pView, pSerial, pBusy, (pOpKind, pOpAt, pOpN, pOpData, pOpOld), (pNextEpoch, pNextMembers), pQuiet) = false by rw [HV.out]; simp [show numB pQuiet = false from decide_eq_false (by have := of_decide_eq_true d2; omega)]))
        go_wp2
        go_ret
        exact ⟨by rw [HR.out]; rfl, hbw.trans (he0.mono hbw.size)⟩
      have Hn := hide (show numB pQuiet = true from decide_eq_true (by have := of_decide_eq_false d1; have := of_decide_eq_false d2; omega))
      go_wp2
      go_roundw
      case rel => exact ⟨3, by omega, rfl, he0, hide (fun _ => s1.out (by omega)), hide (fun _ => s2.out (by omega)), hide (fun _ => Hn.out)⟩
      case measure => simp [intOf]
    · have Hc3 := hide (s1.out (by omega))
      have Hc4 := hide (s2.out (by omega))
      have Hc5 := hide (s3.out (by omega))
      have hBx := hB0.below he0
      clear y0 y1 y2 y3 y4 y5 y6 y7 y8 y9 y10 y11 y12 y13 x0 x1 x2 s1 s2 s3 hI1
      have y0 := Blk.cell hBx (j := 0) rfl; have y1 := Blk.cell hBx (j := 1) rfl; have y2 := Blk.cell hBx (j := 2) rfl; have y3 := Blk.cell hBx (j := 3) rfl; have y4 := Blk.cell hBx (j := 4) rfl; have y5 := Blk.cell hBx (j := 5) rfl; have y6 := Blk.cell hBx (j := 6) rfl; have y7 := Blk.cell hBx (j := 7) rfl; have y8 := Blk.cell hBx (j := 8) rfl; have y9 := Blk.cell hBx (j := 9) rfl; have y10 := Blk.cell hBx (j := 10) rfl; have y11 := Blk.cell hBx (j := 11) rfl; have y12 := Blk.cell hBx (j := 12) rfl; have y13 := Blk.cell hBx (j := 13) rfl
      cases pBusy with
      | false =>
        have Hrb := hide (show restB (pID, (pGroupEpoch, pGroupMembers), pView, pSerial, false, (pOpKind, pOpAt, pOpN, pOpData, pOpOld), (pNextEpoch, pNextMembers), pQuiet) = (n1 && g1) by rw [← Hno.out, ← Hng.out, ← Hnl.out]; rfl)
        cases n1 with
        | false =>
          have HR := hide (prE_no (show prB (pID, (pGroupEpoch, pGroupMembers), pView, pSerial, false, (pOpKind, pOpAt, pOpN, pOpData, pOpOld), (pNextEpoch, pNextMembers), pQuiet) = false by rw [HV.out]; simp [Hrb.out, ]))
          go_wp2_with fail
          go_fit (HSm.out wr he0)
          rw [Hno.out]
          rintro xx v0 ⟨rfl, hd0⟩
          have he0 := he0.trans (hd0.mono he0.size)
          replace hBx := hBx.below hd0
          clear y0 y1 y2 y3 y4 y5 y6 y7 y8 y9 y10 y11 y12 y13
          have y0 := Blk.cell hBx (j := 0) rfl; have y1 := Blk.cell hBx (j := 1) rfl; have y2 := Blk.cell hBx (j := 2) rfl; have y3 := Blk.cell hBx (j := 3) rfl; have y4 := Blk.cell hBx (j := 4) rfl; have y5 := Blk.cell hBx (j := 5) rfl; have y6 := Blk.cell hBx (j := 6) rfl; have y7 := Blk.cell hBx (j := 7) rfl; have y8 := Blk.cell hBx (j := 8) rfl; have y9 := Blk.cell hBx (j := 9) rfl; have y10 := Blk.cell hBx (j := 10) rfl; have y11 := Blk.cell hBx (j := 11) rfl; have y12 := Blk.cell hBx (j := 12) rfl; have y13 := Blk.cell hBx (j := 13) rfl
          go_wp2
          go_ret
          exact ⟨by rw [HR.out]; rfl, hbw.trans (he0.mono hbw.size)⟩

        | true =>
          cases g1 with
          | false =>
            have HR := hide (prE_no (show prB (pID, (pGroupEpoch, pGroupMembers), pView, pSerial, false, (pOpKind, pOpAt, pOpN, pOpData, pOpOld), (pNextEpoch, pNextMembers), pQuiet) = false by rw [HV.out]; simp [Hrb.out, ]))
            go_wp2_with fail
            go_fit (HSm.out wr he0)
            rw [Hno.out]
            rintro xx v0 ⟨rfl, hd0⟩
            have he0 := he0.trans (hd0.mono he0.size)
            replace hBx := hBx.below hd0
            clear y0 y1 y2 y3 y4 y5 y6 y7 y8 y9 y10 y11 y12 y13
            have y0 := Blk.cell hBx (j := 0) rfl; have y1 := Blk.cell hBx (j := 1) rfl; have y2 := Blk.cell hBx (j := 2) rfl; have y3 := Blk.cell hBx (j := 3) rfl; have y4 := Blk.cell hBx (j := 4) rfl; have y5 := Blk.cell hBx (j := 5) rfl; have y6 := Blk.cell hBx (j := 6) rfl; have y7 := Blk.cell hBx (j := 7) rfl; have y8 := Blk.cell hBx (j := 8) rfl; have y9 := Blk.cell hBx (j := 9) rfl; have y10 := Blk.cell hBx (j := 10) rfl; have y11 := Blk.cell hBx (j := 11) rfl; have y12 := Blk.cell hBx (j := 12) rfl; have y13 := Blk.cell hBx (j := 13) rfl
            go_wp2_with fail
            go_fit (none24_any pNextEpoch pNextMembersA pNextMembersn pNextMembersc v0)
            rw [Hng.out]
            rintro xx v1 ⟨rfl, hd1⟩
            have he1 := he0.trans (hd1.mono he0.size)
            replace hBx := hBx.below hd1
            clear y0 y1 y2 y3 y4 y5 y6 y7 y8 y9 y10 y11 y12 y13
            have y0 := Blk.cell hBx (j := 0) rfl; have y1 := Blk.cell hBx (j := 1) rfl; have y2 := Blk.cell hBx (j := 2) rfl; have y3 := Blk.cell hBx (j := 3) rfl; have y4 := Blk.cell hBx (j := 4) rfl; have y5 := Blk.cell hBx (j := 5) rfl; have y6 := Blk.cell hBx (j := 6) rfl; have y7 := Blk.cell hBx (j := 7) rfl; have y8 := Blk.cell hBx (j := 8) rfl; have y9 := Blk.cell hBx (j := 9) rfl; have y10 := Blk.cell hBx (j := 10) rfl; have y11 := Blk.cell hBx (j := 11) rfl; have y12 := Blk.cell hBx (j := 12) rfl; have y13 := Blk.cell hBx (j := 13) rfl
            go_wp2
            go_ret
            exact ⟨by rw [HR.out]; rfl, hbw.trans (he1.mono hbw.size)⟩

          | true =>
            rcases bool_two (decide (pID < 1)) with d2 | d2
            · have HcI := hide (show serB pID = false from decide_eq_false (by have := of_decide_eq_true d2; omega))
              have HR := hide (prE_no (show prB (pID, (pGroupEpoch, pGroupMembers), pView, pSerial, false, (pOpKind, pOpAt, pOpN, pOpData, pOpOld), (pNextEpoch, pNextMembers), pQuiet) = false by rw [HV.out]; simp [HcI.out]))
              go_wp2_with fail
              go_fit (HSm.out wr he0)
              rw [Hno.out]
              rintro xx v0 ⟨rfl, hd0⟩
              have he0 := he0.trans (hd0.mono he0.size)
              replace hBx := hBx.below hd0
              clear y0 y1 y2 y3 y4 y5 y6 y7 y8 y9 y10 y11 y12 y13
              have y0 := Blk.cell hBx (j := 0) rfl; have y1 := Blk.cell hBx (j := 1) rfl; have y2 := Blk.cell hBx (j := 2) rfl; have y3 := Blk.cell hBx (j := 3) rfl; have y4 := Blk.cell hBx (j := 4) rfl; have y5 := Blk.cell hBx (j := 5) rfl; have y6 := Blk.cell hBx (j := 6) rfl; have y7 := Blk.cell hBx (j := 7) rfl; have y8 := Blk.cell hBx (j := 8) rfl; have y9 := Blk.cell hBx (j := 9) rfl; have y10 := Blk.cell hBx (j := 10) rfl; have y11 := Blk.cell hBx (j := 11) rfl; have y12 := Blk.cell hBx (j := 12) rfl; have y13 := Blk.cell hBx (j := 13) rfl
              go_wp2_with fail
              go_fit (none24_any pNextEpoch pNextMembersA pNextMembersn pNextMembersc v0)
              rw [Hng.out]
              rintro xx v1 ⟨rfl, hd1⟩
              have he1 := he0.trans (hd1.mono he0.size)
              replace hBx := hBx.below hd1
              clear y0 y1 y2 y3 y4 y5 y6 y7 y8 y9 y10 y11 y12 y13
              have y0 := Blk.cell hBx (j := 0) rfl; have y1 := Blk.cell hBx (j := 1) rfl; have y2 := Blk.cell hBx (j := 2) rfl; have y3 := Blk.cell hBx (j := 3) rfl; have y4 := Blk.cell hBx (j := 4) rfl; have y5 := Blk.cell hBx (j := 5) rfl; have y6 := Blk.cell hBx (j := 6) rfl; have y7 := Blk.cell hBx (j := 7) rfl; have y8 := Blk.cell hBx (j := 8) rfl; have y9 := Blk.cell hBx (j := 9) rfl; have y10 := Blk.cell hBx (j := 10) rfl; have y11 := Blk.cell hBx (j := 11) rfl; have y12 := Blk.cell hBx (j := 12) rfl; have y13 := Blk.cell hBx (j := 13) rfl
              go_wp2
              go_ret
              exact ⟨by rw [HR.out]; rfl, hbw.trans (he1.mono hbw.size)⟩

            rcases bool_two (decide (4611686018427387904 < pID)) with d3 | d3
            · have HcI := hide (show serB pID = false from decide_eq_false (by have := of_decide_eq_true d3; omega))
              have HR := hide (prE_no (show prB (pID, (pGroupEpoch, pGroupMembers), pView, pSerial, false, (pOpKind, pOpAt, pOpN, pOpData, pOpOld), (pNextEpoch, pNextMembers), pQuiet) = false by rw [HV.out]; simp [HcI.out]))
              go_wp2_with fail
              go_fit (HSm.out wr he0)
              rw [Hno.out]
              rintro xx v0 ⟨rfl, hd0⟩
              have he0 := he0.trans (hd0.mono he0.size)
              replace hBx := hBx.below hd0
              clear y0 y1 y2 y3 y4 y5 y6 y7 y8 y9 y10 y11 y12 y13
              have y0 := Blk.cell hBx (j := 0) rfl; have y1 := Blk.cell hBx (j := 1) rfl; have y2 := Blk.cell hBx (j := 2) rfl; have y3 := Blk.cell hBx (j := 3) rfl; have y4 := Blk.cell hBx (j := 4) rfl; have y5 := Blk.cell hBx (j := 5) rfl; have y6 := Blk.cell hBx (j := 6) rfl; have y7 := Blk.cell hBx (j := 7) rfl; have y8 := Blk.cell hBx (j := 8) rfl; have y9 := Blk.cell hBx (j := 9) rfl; have y10 := Blk.cell hBx (j := 10) rfl; have y11 := Blk.cell hBx (j := 11) rfl; have y12 := Blk.cell hBx (j := 12) rfl; have y13 := Blk.cell hBx (j := 13) rfl
              go_wp2_with fail
              go_fit (none24_any pNextEpoch pNextMembersA pNextMembersn pNextMembersc v0)
              rw [Hng.out]
              rintro xx v1 ⟨rfl, hd1⟩
              have he1 := he0.trans (hd1.mono he0.size)
              replace hBx := hBx.below hd1
              clear y0 y1 y2 y3 y4 y5 y6 y7 y8 y9 y10 y11 y12 y13
              have y0 := Blk.cell hBx (j := 0) rfl; have y1 := Blk.cell hBx (j := 1) rfl; have y2 := Blk.cell hBx (j := 2) rfl; have y3 := Blk.cell hBx (j := 3) rfl; have y4 := Blk.cell hBx (j := 4) rfl; have y5 := Blk.cell hBx (j := 5) rfl; have y6 := Blk.cell hBx (j := 6) rfl; have y7 := Blk.cell hBx (j := 7) rfl; have y8 := Blk.cell hBx (j := 8) rfl; have y9 := Blk.cell hBx (j := 9) rfl; have y10 := Blk.cell hBx (j := 10) rfl; have y11 := Blk.cell hBx (j := 11) rfl; have y12 := Blk.cell hBx (j := 12) rfl; have y13 := Blk.cell hBx (j := 13) rfl
              go_wp2
              go_ret
              exact ⟨by rw [HR.out]; rfl, hbw.trans (he1.mono hbw.size)⟩

            have HcI := hide (show serB pID = true from decide_eq_true (by have := of_decide_eq_false d2; have := of_decide_eq_false d3; omega))
            cases kg with
            | true =>
              have HcgR := hide (chk_ok Hkg.out)
              have HR := hide (prE_ok (show prB (pID, (pGroupEpoch, pGroupMembers), pView, pSerial, false, (pOpKind, pOpAt, pOpN, pOpData, pOpOld), (pNextEpoch, pNextMembers), pQuiet) = true by rw [HV.out]; simp [HcI.out, Hc3.out, Hc4.out, Hc5.out, Hrb.out, ]))
              go_wp2_with fail
              go_fit (HSm.out wr he0)
              rw [Hno.out]
              rintro xx v0 ⟨rfl, hd0⟩
              have he0 := he0.trans (hd0.mono he0.size)
              replace hBx := hBx.below hd0
              clear y0 y1 y2 y3 y4 y5 y6 y7 y8 y9 y10 y11 y12 y13
              have y0 := Blk.cell hBx (j := 0) rfl; have y1 := Blk.cell hBx (j := 1) rfl; have y2 := Blk.cell hBx (j := 2) rfl; have y3 := Blk.cell hBx (j := 3) rfl; have y4 := Blk.cell hBx (j := 4) rfl; have y5 := Blk.cell hBx (j := 5) rfl; have y6 := Blk.cell hBx (j := 6) rfl; have y7 := Blk.cell hBx (j := 7) rfl; have y8 := Blk.cell hBx (j := 8) rfl; have y9 := Blk.cell hBx (j := 9) rfl; have y10 := Blk.cell hBx (j := 10) rfl; have y11 := Blk.cell hBx (j := 11) rfl; have y12 := Blk.cell hBx (j := 12) rfl; have y13 := Blk.cell hBx (j := 13) rfl
              go_wp2_with fail
              go_fit (none24_any pNextEpoch pNextMembersA pNextMembersn pNextMembersc v0)
              rw [Hng.out]
              rintro xx v1 ⟨rfl, hd1⟩
              have he1 := he0.trans (hd1.mono he0.size)
              replace hBx := hBx.below hd1
              clear y0 y1 y2 y3 y4 y5 y6 y7 y8 y9 y10 y11 y12 y13
              have y0 := Blk.cell hBx (j := 0) rfl; have y1 := Blk.cell hBx (j := 1) rfl; have y2 := Blk.cell hBx (j := 2) rfl; have y3 := Blk.cell hBx (j := 3) rfl; have y4 := Blk.cell hBx (j := 4) rfl; have y5 := Blk.cell hBx (j := 5) rfl; have y6 := Blk.cell hBx (j := 6) rfl; have y7 := Blk.cell hBx (j := 7) rfl; have y8 := Blk.cell hBx (j := 8) rfl; have y9 := Blk.cell hBx (j := 9) rfl; have y10 := Blk.cell hBx (j := 10) rfl; have y11 := Blk.cell hBx (j := 11) rfl; have y12 := Blk.cell hBx (j := 12) rfl; have y13 := Blk.cell hBx (j := 13) rfl
              go_wp2_with fail
              go_fit (HCg.out v1 he1)
              rw [HcgR.out]
              rintro xx v2 ⟨rfl, hd2⟩
              have he2 := he1.trans (hd2.mono he1.size)
              replace hBx := hBx.below hd2
              clear y0 y1 y2 y3 y4 y5 y6 y7 y8 y9 y10 y11 y12 y13
              have y0 := Blk.cell hBx (j := 0) rfl; have y1 := Blk.cell hBx (j := 1) rfl; have y2 := Blk.cell hBx (j := 2) rfl; have y3 := Blk.cell hBx (j := 3) rfl; have y4 := Blk.cell hBx (j := 4) rfl; have y5 := Blk.cell hBx (j := 5) rfl; have y6 := Blk.cell hBx (j := 6) rfl; have y7 := Blk.cell hBx (j := 7) rfl; have y8 := Blk.cell hBx (j := 8) rfl; have y9 := Blk.cell hBx (j := 9) rfl; have y10 := Blk.cell hBx (j := 10) rfl; have y11 := Blk.cell hBx (j := 11) rfl; have y12 := Blk.cell hBx (j := 12) rfl; have y13 := Blk.cell hBx (j := 13) rfl
              go_wp2
              go_ret
              exact ⟨by rw [HR.out]; rfl, hbw.trans (he2.mono hbw.size)⟩

            | false =>
              have HcgR := hide (chk_bad Hkg.out)
              have HR := hide (prE_no (show prB (pID, (pGroupEpoch, pGroupMembers), pView, pSerial, false, (pOpKind, pOpAt, pOpN, pOpData, pOpOld), (pNextEpoch, pNextMembers), pQuiet) = false by rw [HV.out]; simp [HcI.out]))
              go_wp2_with fail
              go_fit (HSm.out wr he0)
              rw [Hno.out]
              rintro xx v0 ⟨rfl, hd0⟩
              have he0 := he0.trans (hd0.mono he0.size)
              replace hBx := hBx.below hd0
              clear y0 y1 y2 y3 y4 y5 y6 y7 y8 y9 y10 y11 y12 y13
              have y0 := Blk.cell hBx (j := 0) rfl; have y1 := Blk.cell hBx (j := 1) rfl; have y2 := Blk.cell hBx (j := 2) rfl; have y3 := Blk.cell hBx (j := 3) rfl; have y4 := Blk.cell hBx (j := 4) rfl; have y5 := Blk.cell hBx (j := 5) rfl; have y6 := Blk.cell hBx (j := 6) rfl; have y7 := Blk.cell hBx (j := 7) rfl; have y8 := Blk.cell hBx (j := 8) rfl; have y9 := Blk.cell hBx (j := 9) rfl; have y10 := Blk.cell hBx (j := 10) rfl; have y11 := Blk.cell hBx (j := 11) rfl; have y12 := Blk.cell hBx (j := 12) rfl; have y13 := Blk.cell hBx (j := 13) rfl
              go_wp2_with fail
              go_fit (none24_any pNextEpoch pNextMembersA pNextMembersn pNextMembersc v0)
              rw [Hng.out]
              rintro xx v1 ⟨rfl, hd1⟩
              have he1 := he0.trans (hd1.mono he0.size)
              replace hBx := hBx.below hd1
              clear y0 y1 y2 y3 y4 y5 y6 y7 y8 y9 y10 y11 y12 y13
              have y0 := Blk.cell hBx (j := 0) rfl; have y1 := Blk.cell hBx (j := 1) rfl; have y2 := Blk.cell hBx (j := 2) rfl; have y3 := Blk.cell hBx (j := 3) rfl; have y4 := Blk.cell hBx (j := 4) rfl; have y5 := Blk.cell hBx (j := 5) rfl; have y6 := Blk.cell hBx (j := 6) rfl; have y7 := Blk.cell hBx (j := 7) rfl; have y8 := Blk.cell hBx (j := 8) rfl; have y9 := Blk.cell hBx (j := 9) rfl; have y10 := Blk.cell hBx (j := 10) rfl; have y11 := Blk.cell hBx (j := 11) rfl; have y12 := Blk.cell hBx (j := 12) rfl; have y13 := Blk.cell hBx (j := 13) rfl
              go_wp2_with fail
              go_fit (HCg.out v1 he1)
              rw [HcgR.out]
              rintro xx v2 ⟨rfl, hd2⟩
              have he2 := he1.trans (hd2.mono he1.size)
              replace hBx := hBx.below hd2
              clear y0 y1 y2 y3 y4 y5 y6 y7 y8 y9 y10 y11 y12 y13
              have y0 := Blk.cell hBx (j := 0) rfl; have y1 := Blk.cell hBx (j := 1) rfl; have y2 := Blk.cell hBx (j := 2) rfl; have y3 := Blk.cell hBx (j := 3) rfl; have y4 := Blk.cell hBx (j := 4) rfl; have y5 := Blk.cell hBx (j := 5) rfl; have y6 := Blk.cell hBx (j := 6) rfl; have y7 := Blk.cell hBx (j := 7) rfl; have y8 := Blk.cell hBx (j := 8) rfl; have y9 := Blk.cell hBx (j := 9) rfl; have y10 := Blk.cell hBx (j := 10) rfl; have y11 := Blk.cell hBx (j := 11) rfl; have y12 := Blk.cell hBx (j := 12) rfl; have y13 := Blk.cell hBx (j := 13) rfl
              go_wp2
              go_ret
              exact ⟨by rw [HR.out]; rfl, hbw.trans (he2.mono hbw.size)⟩

      | true =>
        have Hrb := hide (show restB (pID, (pGroupEpoch, pGroupMembers), pView, pSerial, true, (pOpKind, pOpAt, pOpN, pOpData, pOpOld), (pNextEpoch, pNextMembers), pQuiet) = (decide (1 ≤ pSerial) && (((ff == 0) && g1) || (n1 && kn))) by
          rw [← Hff.out, ← Hng.out, ← Hno.out, ← Hkn.out, ← Hnl.out, ← Hdl.out, ← Hol.out]; rfl)
        rcases bool_two (decide (1 ≤ pSerial)) with d1 | d1
        rotate_left
        · have Hd1 := hide d1
          cases n1 with
          | false =>
            have HR := hide (prE_no (show prB (pID, (pGroupEpoch, pGroupMembers), pView, pSerial, true, (pOpKind, pOpAt, pOpN, pOpData, pOpOld), (pNextEpoch, pNextMembers), pQuiet) = false by rw [HV.out]; simp [Hrb.out, Hd1.out]))
            go_wp2_with fail
            go_fit (HSm.out wr he0)
            rw [Hno.out]
            rintro xx v0 ⟨rfl, hd0⟩
            have he0 := he0.trans (hd0.mono he0.size)
            replace hBx := hBx.below hd0
            clear y0 y1 y2 y3 y4 y5 y6 y7 y8 y9 y10 y11 y12 y13
            have y0 := Blk.cell hBx (j := 0) rfl; have y1 := Blk.cell hBx (j := 1) rfl; have y2 := Blk.cell hBx (j := 2) rfl; have y3 := Blk.cell hBx (j := 3) rfl; have y4 := Blk.cell hBx (j := 4) rfl; have y5 := Blk.cell hBx (j := 5) rfl; have y6 := Blk.cell hBx (j := 6) rfl; have y7 := Blk.cell hBx (j := 7) rfl; have y8 := Blk.cell hBx (j := 8) rfl; have y9 := Blk.cell hBx (j := 9) rfl; have y10 := Blk.cell hBx (j := 10) rfl; have y11 := Blk.cell hBx (j := 11) rfl; have y12 := Blk.cell hBx (j := 12) rfl; have y13 := Blk.cell hBx (j := 13) rfl
            go_wp2
            go_ret
            exact ⟨by rw [HR.out]; rfl, hbw.trans (he0.mono hbw.size)⟩

          | true =>
            have HR := hide (prE_no (show prB (pID, (pGroupEpoch, pGroupMembers), pView, pSerial, true, (pOpKind, pOpAt, pOpN, pOpData, pOpOld), (pNextEpoch, pNextMembers), pQuiet) = false by rw [HV.out]; simp [Hrb.out, Hd1.out]))
            go_wp2_with fail
            go_fit (HSm.out wr he0)
            rw [Hno.out]
            rintro xx v0 ⟨rfl, hd0⟩
            have he0 := he0.trans (hd0.mono he0.size)
            replace hBx := hBx.below hd0
            clear y0 y1 y2 y3 y4 y5 y6 y7 y8 y9 y10 y11 y12 y13
            have y0 := Blk.cell hBx (j := 0) rfl; have y1 := Blk.cell hBx (j := 1) rfl; have y2 := Blk.cell hBx (j := 2) rfl; have y3 := Blk.cell hBx (j := 3) rfl; have y4 := Blk.cell hBx (j := 4) rfl; have y5 := Blk.cell hBx (j := 5) rfl; have y6 := Blk.cell hBx (j := 6) rfl; have y7 := Blk.cell hBx (j := 7) rfl; have y8 := Blk.cell hBx (j := 8) rfl; have y9 := Blk.cell hBx (j := 9) rfl; have y10 := Blk.cell hBx (j := 10) rfl; have y11 := Blk.cell hBx (j := 11) rfl; have y12 := Blk.cell hBx (j := 12) rfl; have y13 := Blk.cell hBx (j := 13) rfl
            go_wp2_with fail
            go_fit (none24_any pNextEpoch pNextMembersA pNextMembersn pNextMembersc v0)
            rw [Hng.out]
            rintro xx v1 ⟨rfl, hd1⟩
            have he1 := he0.trans (hd1.mono he0.size)
            replace hBx := hBx.below hd1
            clear y0 y1 y2 y3 y4 y5 y6 y7 y8 y9 y10 y11 y12 y13
            have y0 := Blk.cell hBx (j := 0) rfl; have y1 := Blk.cell hBx (j := 1) rfl; have y2 := Blk.cell hBx (j := 2) rfl; have y3 := Blk.cell hBx (j := 3) rfl; have y4 := Blk.cell hBx (j := 4) rfl; have y5 := Blk.cell hBx (j := 5) rfl; have y6 := Blk.cell hBx (j := 6) rfl; have y7 := Blk.cell hBx (j := 7) rfl; have y8 := Blk.cell hBx (j := 8) rfl; have y9 := Blk.cell hBx (j := 9) rfl; have y10 := Blk.cell hBx (j := 10) rfl; have y11 := Blk.cell hBx (j := 11) rfl; have y12 := Blk.cell hBx (j := 12) rfl; have y13 := Blk.cell hBx (j := 13) rfl
            go_wp2
            go_ret
            exact ⟨by rw [HR.out]; rfl, hbw.trans (he1.mono hbw.size)⟩

        have Hd1 := hide d1
        rcases bool_two (ff == 0) with q | q
        · have Hq := hide q
          cases n1 with
          | false =>
            cases g1 with
            | false =>
              have HR := hide (prE_no (show prB (pID, (pGroupEpoch, pGroupMembers), pView, pSerial, true, (pOpKind, pOpAt, pOpN, pOpData, pOpOld), (pNextEpoch, pNextMembers), pQuiet) = false by rw [HV.out]; simp [Hrb.out, Hd1.out, Hq.out]))
              go_wp2_with fail
              go_fit (HSm.out wr he0)
              rw [Hno.out]
              rintro xx v0 ⟨rfl, hd0⟩
              have he0 := he0.trans (hd0.mono he0.size)
              replace hBx := hBx.below hd0
              clear y0 y1 y2 y3 y4 y5 y6 y7 y8 y9 y10 y11 y12 y13
              have y0 := Blk.cell hBx (j := 0) rfl; have y1 := Blk.cell hBx (j := 1) rfl; have y2 := Blk.cell hBx (j := 2) rfl; have y3 := Blk.cell hBx (j := 3) rfl; have y4 := Blk.cell hBx (j := 4) rfl; have y5 := Blk.cell hBx (j := 5) rfl; have y6 := Blk.cell hBx (j := 6) rfl; have y7 := Blk.cell hBx (j := 7) rfl; have y8 := Blk.cell hBx (j := 8) rfl; have y9 := Blk.cell hBx (j := 9) rfl; have y10 := Blk.cell hBx (j := 10) rfl; have y11 := Blk.cell hBx (j := 11) rfl; have y12 := Blk.cell hBx (j := 12) rfl; have y13 := Blk.cell hBx (j := 13) rfl
              go_wp2_with fail
              go_fit (HFo.out v0)
              rw [Hff.out]
              rintro xx v1 ⟨rfl, hd1⟩
              have he1 := he0.trans (hd1.mono he0.size)
              replace hBx := hBx.below hd1
              clear y0 y1 y2 y3 y4 y5 y6 y7 y8 y9 y10 y11 y12 y13
              have y0 := Blk.cell hBx (j := 0) rfl; have y1 := Blk.cell hBx (j := 1) rfl; have y2 := Blk.cell hBx (j := 2) rfl; have y3 := Blk.cell hBx (j := 3) rfl; have y4 := Blk.cell hBx (j := 4) rfl; have y5 := Blk.cell hBx (j := 5) rfl; have y6 := Blk.cell hBx (j := 6) rfl; have y7 := Blk.cell hBx (j := 7) rfl; have y8 := Blk.cell hBx (j := 8) rfl; have y9 := Blk.cell hBx (j := 9) rfl; have y10 := Blk.cell hBx (j := 10) rfl; have y11 := Blk.cell hBx (j := 11) rfl; have y12 := Blk.cell hBx (j := 12) rfl; have y13 := Blk.cell hBx (j := 13) rfl
              go_wp2_with fail
              go_fit (none24_any pNextEpoch pNextMembersA pNextMembersn pNextMembersc v1)
              rw [Hng.out]
              rintro xx v2 ⟨rfl, hd2⟩
              have he2 := he1.trans (hd2.mono he1.size)
              replace hBx := hBx.below hd2
              clear y0 y1 y2 y3 y4 y5 y6 y7 y8 y9 y10 y11 y12 y13
              have y0 := Blk.cell hBx (j := 0) rfl; have y1 := Blk.cell hBx (j := 1) rfl; have y2 := Blk.cell hBx (j := 2) rfl; have y3 := Blk.cell hBx (j := 3) rfl; have y4 := Blk.cell hBx (j := 4) rfl; have y5 := Blk.cell hBx (j := 5) rfl; have y6 := Blk.cell hBx (j := 6) rfl; have y7 := Blk.cell hBx (j := 7) rfl; have y8 := Blk.cell hBx (j := 8) rfl; have y9 := Blk.cell hBx (j := 9) rfl; have y10 := Blk.cell hBx (j := 10) rfl; have y11 := Blk.cell hBx (j := 11) rfl; have y12 := Blk.cell hBx (j := 12) rfl; have y13 := Blk.cell hBx (j := 13) rfl
              go_wp2
              go_ret
              exact ⟨by rw [HR.out]; rfl, hbw.trans (he2.mono hbw.size)⟩

            | true =>
              rcases bool_two (decide (pID < 1)) with d2 | d2
              · have HcI := hide (show serB pID = false from decide_eq_false (by have := of_decide_eq_true d2; omega))
                have HR := hide (prE_no (show prB (pID, (pGroupEpoch, pGroupMembers), pView, pSerial, true, (pOpKind, pOpAt, pOpN, pOpData, pOpOld), (pNextEpoch, pNextMembers), pQuiet) = false by rw [HV.out]; simp [HcI.out]))
                go_wp2_with fail
                go_fit (HSm.out wr he0)
                rw [Hno.out]
                rintro xx v0 ⟨rfl, hd0⟩
                have he0 := he0.trans (hd0.mono he0.size)
                replace hBx := hBx.below hd0
                clear y0 y1 y2 y3 y4 y5 y6 y7 y8 y9 y10 y11 y12 y13
                have y0 := Blk.cell hBx (j := 0) rfl; have y1 := Blk.cell hBx (j := 1) rfl; have y2 := Blk.cell hBx (j := 2) rfl; have y3 := Blk.cell hBx (j := 3) rfl; have y4 := Blk.cell hBx (j := 4) rfl; have y5 := Blk.cell hBx (j := 5) rfl; have y6 := Blk.cell hBx (j := 6) rfl; have y7 := Blk.cell hBx (j := 7) rfl; have y8 := Blk.cell hBx (j := 8) rfl; have y9 := Blk.cell hBx (j := 9) rfl; have y10 := Blk.cell hBx (j := 10) rfl; have y11 := Blk.cell hBx (j := 11) rfl; have y12 := Blk.cell hBx (j := 12) rfl; have y13 := Blk.cell hBx (j := 13) rfl
                go_wp2_with fail
                go_fit (HFo.out v0)
                rw [Hff.out]
                rintro xx v1 ⟨rfl, hd1⟩
                have he1 := he0.trans (hd1.mono he0.size)
                replace hBx := hBx.below hd1
                clear y0 y1 y2 y3 y4 y5 y6 y7 y8 y9 y10 y11 y12 y13
                have y0 := Blk.cell hBx (j := 0) rfl; have y1 := Blk.cell hBx (j := 1) rfl; have y2 := Blk.cell hBx (j := 2) rfl; have y3 := Blk.cell hBx (j := 3) rfl; have y4 := Blk.cell hBx (j := 4) rfl; have y5 := Blk.cell hBx (j := 5) rfl; have y6 := Blk.cell hBx (j := 6) rfl; have y7 := Blk.cell hBx (j := 7) rfl; have y8 := Blk.cell hBx (j := 8) rfl; have y9 := Blk.cell hBx (j := 9) rfl; have y10 := Blk.cell hBx (j := 10) rfl; have y11 := Blk.cell hBx (j := 11) rfl; have y12 := Blk.cell hBx (j := 12) rfl; have y13 := Blk.cell hBx (j := 13) rfl
                go_wp2_with fail
                go_fit (none24_any pNextEpoch pNextMembersA pNextMembersn pNextMembersc v1)
                rw [Hng.out]
                rintro xx v2 ⟨rfl, hd2⟩
                have he2 := he1.trans (hd2.mono he1.size)
                replace hBx := hBx.below hd2
                clear y0 y1 y2 y3 y4 y5 y6 y7 y8 y9 y10 y11 y12 y13
                have y0 := Blk.cell hBx (j := 0) rfl; have y1 := Blk.cell hBx (j := 1) rfl; have y2 := Blk.cell hBx (j := 2) rfl; have y3 := Blk.cell hBx (j := 3) rfl; have y4 := Blk.cell hBx (j := 4) rfl; have y5 := Blk.cell hBx (j := 5) rfl; have y6 := Blk.cell hBx (j := 6) rfl; have y7 := Blk.cell hBx (j := 7) rfl; have y8 := Blk.cell hBx (j := 8) rfl; have y9 := Blk.cell hBx (j := 9) rfl; have y10 := Blk.cell hBx (j := 10) rfl; have y11 := Blk.cell hBx (j := 11) rfl; have y12 := Blk.cell hBx (j := 12) rfl; have y13 := Blk.cell hBx (j := 13) rfl
                go_wp2
                go_ret
                exact ⟨by rw [HR.out]; rfl, hbw.trans (he2.mono hbw.size)⟩

              rcases bool_two (decide (4611686018427387904 < pID)) with d3 | d3
              · have HcI := hide (show serB pID = false from decide_eq_false (by have := of_decide_eq_true d3; omega))
                have HR := hide (prE_no (show prB (pID, (pGroupEpoch, pGroupMembers), pView, pSerial, true, (pOpKind, pOpAt, pOpN, pOpData, pOpOld), (pNextEpoch, pNextMembers), pQuiet) = false by rw [HV.out]; simp [HcI.out]))
                go_wp2_with fail
                go_fit (HSm.out wr he0)
                rw [Hno.out]
                rintro xx v0 ⟨rfl, hd0⟩
                have he0 := he0.trans (hd0.mono he0.size)
                replace hBx := hBx.below hd0
                clear y0 y1 y2 y3 y4 y5 y6 y7 y8 y9 y10 y11 y12 y13
                have y0 := Blk.cell hBx (j := 0) rfl; have y1 := Blk.cell hBx (j := 1) rfl; have y2 := Blk.cell hBx (j := 2) rfl; have y3 := Blk.cell hBx (j := 3) rfl; have y4 := Blk.cell hBx (j := 4) rfl; have y5 := Blk.cell hBx (j := 5) rfl; have y6 := Blk.cell hBx (j := 6) rfl; have y7 := Blk.cell hBx (j := 7) rfl; have y8 := Blk.cell hBx (j := 8) rfl; have y9 := Blk.cell hBx (j := 9) rfl; have y10 := Blk.cell hBx (j := 10) rfl; have y11 := Blk.cell hBx (j := 11) rfl; have y12 := Blk.cell hBx (j := 12) rfl; have y13 := Blk.cell hBx (j := 13) rfl
                go_wp2_with fail
                go_fit (HFo.out v0)
                rw [Hff.out]
                rintro xx v1 ⟨rfl, hd1⟩
                have he1 := he0.trans (hd1.mono he0.size)
                replace hBx := hBx.below hd1
                clear y0 y1 y2 y3 y4 y5 y6 y7 y8 y9 y10 y11 y12 y13
                have y0 := Blk.cell hBx (j := 0) rfl; have y1 := Blk.cell hBx (j := 1) rfl; have y2 := Blk.cell hBx (j := 2) rfl; have y3 := Blk.cell hBx (j := 3) rfl; have y4 := Blk.cell hBx (j := 4) rfl; have y5 := Blk.cell hBx (j := 5) rfl; have y6 := Blk.cell hBx (j := 6) rfl; have y7 := Blk.cell hBx (j := 7) rfl; have y8 := Blk.cell hBx (j := 8) rfl; have y9 := Blk.cell hBx (j := 9) rfl; have y10 := Blk.cell hBx (j := 10) rfl; have y11 := Blk.cell hBx (j := 11) rfl; have y12 := Blk.cell hBx (j := 12) rfl; have y13 := Blk.cell hBx (j := 13) rfl
                go_wp2_with fail
                go_fit (none24_any pNextEpoch pNextMembersA pNextMembersn pNextMembersc v1)
                rw [Hng.out]
                rintro xx v2 ⟨rfl, hd2⟩
                have he2 := he1.trans (hd2.mono he1.size)
                replace hBx := hBx.below hd2
                clear y0 y1 y2 y3 y4 y5 y6 y7 y8 y9 y10 y11 y12 y13
                have y0 := Blk.cell hBx (j := 0) rfl; have y1 := Blk.cell hBx (j := 1) rfl; have y2 := Blk.cell hBx (j := 2) rfl; have y3 := Blk.cell hBx (j := 3) rfl; have y4 := Blk.cell hBx (j := 4) rfl; have y5 := Blk.cell hBx (j := 5) rfl; have y6 := Blk.cell hBx (j := 6) rfl; have y7 := Blk.cell hBx (j := 7) rfl; have y8 := Blk.cell hBx (j := 8) rfl; have y9 := Blk.cell hBx (j := 9) rfl; have y10 := Blk.cell hBx (j := 10) rfl; have y11 := Blk.cell hBx (j := 11) rfl; have y12 := Blk.cell hBx (j := 12) rfl; have y13 := Blk.cell hBx (j := 13) rfl
                go_wp2
                go_ret
                exact ⟨by rw [HR.out]; rfl, hbw.trans (he2.mono hbw.size)⟩

              have HcI := hide (show serB pID = true from decide_eq_true (by have := of_decide_eq_false d2; have := of_decide_eq_false d3; omega))
              cases kg with
              | true =>
                have HcgR := hide (chk_ok Hkg.out)
                have HR := hide (prE_ok (show prB (pID, (pGroupEpoch, pGroupMembers), pView, pSerial, true, (pOpKind, pOpAt, pOpN, pOpData, pOpOld), (pNextEpoch, pNextMembers), pQuiet) = true by rw [HV.out]; simp [HcI.out, Hc3.out, Hc4.out, Hc5.out, Hrb.out, Hd1.out, Hq.out]))
                go_wp2_with fail
                go_fit (HSm.out wr he0)
                rw [Hno.out]
                rintro xx v0 ⟨rfl, hd0⟩
                have he0 := he0.trans (hd0.mono he0.size)
                replace hBx := hBx.below hd0
                clear y0 y1 y2 y3 y4 y5 y6 y7 y8 y9 y10 y11 y12 y13
                have y0 := Blk.cell hBx (j := 0) rfl; have y1 := Blk.cell hBx (j := 1) rfl; have y2 := Blk.cell hBx (j := 2) rfl; have y3 := Blk.cell hBx (j := 3) rfl; have y4 := Blk.cell hBx (j := 4) rfl; have y5 := Blk.cell hBx (j := 5) rfl; have y6 := Blk.cell hBx (j := 6) rfl; have y7 := Blk.cell hBx (j := 7) rfl; have y8 := Blk.cell hBx (j := 8) rfl; have y9 := Blk.cell hBx (j := 9) rfl; have y10 := Blk.cell hBx (j := 10) rfl; have y11 := Blk.cell hBx (j := 11) rfl; have y12 := Blk.cell hBx (j := 12) rfl; have y13 := Blk.cell hBx (j := 13) rfl
                go_wp2_with fail
                go_fit (HFo.out v0)
                rw [Hff.out]
                rintro xx v1 ⟨rfl, hd1⟩
                have he1 := he0.trans (hd1.mono he0.size)
                replace hBx := hBx.below hd1
                clear y0 y1 y2 y3 y4 y5 y6 y7 y8 y9 y10 y11 y12 y13
                have y0 := Blk.cell hBx (j := 0) rfl; have y1 := Blk.cell hBx (j := 1) rfl; have y2 := Blk.cell hBx (j := 2) rfl; have y3 := Blk.cell hBx (j := 3) rfl; have y4 := Blk.cell hBx (j := 4) rfl; have y5 := Blk.cell hBx (j := 5) rfl; have y6 := Blk.cell hBx (j := 6) rfl; have y7 := Blk.cell hBx (j := 7) rfl; have y8 := Blk.cell hBx (j := 8) rfl; have y9 := Blk.cell hBx (j := 9) rfl; have y10 := Blk.cell hBx (j := 10) rfl; have y11 := Blk.cell hBx (j := 11) rfl; have y12 := Blk.cell hBx (j := 12) rfl; have y13 := Blk.cell hBx (j := 13) rfl
                go_wp2_with fail
                go_fit (none24_any pNextEpoch pNextMembersA pNextMembersn pNextMembersc v1)
                rw [Hng.out]
                rintro xx v2 ⟨rfl, hd2⟩
                have he2 := he1.trans (hd2.mono he1.size)
                replace hBx := hBx.below hd2
                clear y0 y1 y2 y3 y4 y5 y6 y7 y8 y9 y10 y11 y12 y13
                have y0 := Blk.cell hBx (j := 0) rfl; have y1 := Blk.cell hBx (j := 1) rfl; have y2 := Blk.cell hBx (j := 2) rfl; have y3 := Blk.cell hBx (j := 3) rfl; have y4 := Blk.cell hBx (j := 4) rfl; have y5 := Blk.cell hBx (j := 5) rfl; have y6 := Blk.cell hBx (j := 6) rfl; have y7 := Blk.cell hBx (j := 7) rfl; have y8 := Blk.cell hBx (j := 8) rfl; have y9 := Blk.cell hBx (j := 9) rfl; have y10 := Blk.cell hBx (j := 10) rfl; have y11 := Blk.cell hBx (j := 11) rfl; have y12 := Blk.cell hBx (j := 12) rfl; have y13 := Blk.cell hBx (j := 13) rfl
                go_wp2_with fail
                go_fit (HCg.out v2 he2)
                rw [HcgR.out]
                rintro xx v3 ⟨rfl, hd3⟩
                have he3 := he2.trans (hd3.mono he2.size)
                replace hBx := hBx.below hd3
                clear y0 y1 y2 y3 y4 y5 y6 y7 y8 y9 y10 y11 y12 y13
                have y0 := Blk.cell hBx (j := 0) rfl; have y1 := Blk.cell hBx (j := 1) rfl; have y2 := Blk.cell hBx (j := 2) rfl; have y3 := Blk.cell hBx (j := 3) rfl; have y4 := Blk.cell hBx (j := 4) rfl; have y5 := Blk.cell hBx (j := 5) rfl; have y6 := Blk.cell hBx (j := 6) rfl; have y7 := Blk.cell hBx (j := 7) rfl; have y8 := Blk.cell hBx (j := 8) rfl; have y9 := Blk.cell hBx (j := 9) rfl; have y10 := Blk.cell hBx (j := 10) rfl; have y11 := Blk.cell hBx (j := 11) rfl; have y12 := Blk.cell hBx (j := 12) rfl; have y13 := Blk.cell hBx (j := 13) rfl
                go_wp2
                go_ret
                exact ⟨by rw [HR.out]; rfl, hbw.trans (he3.mono hbw.size)⟩

              | false =>
                have HcgR := hide (chk_bad Hkg.out)
                have HR := hide (prE_no (show prB (pID, (pGroupEpoch, pGroupMembers), pView, pSerial, true, (pOpKind, pOpAt, pOpN, pOpData, pOpOld), (pNextEpoch, pNextMembers), pQuiet) = false by rw [HV.out]; simp [HcI.out]))
                go_wp2_with fail
                go_fit (HSm.out wr he0)
                rw [Hno.out]
                rintro xx v0 ⟨rfl, hd0⟩
                have he0 := he0.trans (hd0.mono he0.size)
                replace hBx := hBx.below hd0
                clear y0 y1 y2 y3 y4 y5 y6 y7 y8 y9 y10 y11 y12 y13
                have y0 := Blk.cell hBx (j := 0) rfl; have y1 := Blk.cell hBx (j := 1) rfl; have y2 := Blk.cell hBx (j := 2) rfl; have y3 := Blk.cell hBx (j := 3) rfl; have y4 := Blk.cell hBx (j := 4) rfl; have y5 := Blk.cell hBx (j := 5) rfl; have y6 := Blk.cell hBx (j := 6) rfl; have y7 := Blk.cell hBx (j := 7) rfl; have y8 := Blk.cell hBx (j := 8) rfl; have y9 := Blk.cell hBx (j := 9) rfl; have y10 := Blk.cell hBx (j := 10) rfl; have y11 := Blk.cell hBx (j := 11) rfl; have y12 := Blk.cell hBx (j := 12) rfl; have y13 := Blk.cell hBx (j := 13) rfl
                go_wp2_with fail
                go_fit (HFo.out v0)
                rw [Hff.out]
                rintro xx v1 ⟨rfl, hd1⟩
                have he1 := he0.trans (hd1.mono he0.size)
                replace hBx := hBx.below hd1
                clear y0 y1 y2 y3 y4 y5 y6 y7 y8 y9 y10 y11 y12 y13
                have y0 := Blk.cell hBx (j := 0) rfl; have y1 := Blk.cell hBx (j := 1) rfl; have y2 := Blk.cell hBx (j := 2) rfl; have y3 := Blk.cell hBx (j := 3) rfl; have y4 := Blk.cell hBx (j := 4) rfl; have y5 := Blk.cell hBx (j := 5) rfl; have y6 := Blk.cell hBx (j := 6) rfl; have y7 := Blk.cell hBx (j := 7) rfl; have y8 := Blk.cell hBx (j := 8) rfl; have y9 := Blk.cell hBx (j := 9) rfl; have y10 := Blk.cell hBx (j := 10) rfl; have y11 := Blk.cell hBx (j := 11) rfl; have y12 := Blk.cell hBx (j := 12) rfl; have y13 := Blk.cell hBx (j := 13) rfl
                go_wp2_with fail
                go_fit (none24_any pNextEpoch pNextMembersA pNextMembersn pNextMembersc v1)
                rw [Hng.out]
                rintro xx v2 ⟨rfl, hd2⟩
                have he2 := he1.trans (hd2.mono he1.size)
                replace hBx := hBx.below hd2
                clear y0 y1 y2 y3 y4 y5 y6 y7 y8 y9 y10 y11 y12 y13
                have y0 := Blk.cell hBx (j := 0) rfl; have y1 := Blk.cell hBx (j := 1) rfl; have y2 := Blk.cell hBx (j := 2) rfl; have y3 := Blk.cell hBx (j := 3) rfl; have y4 := Blk.cell hBx (j := 4) rfl; have y5 := Blk.cell hBx (j := 5) rfl; have y6 := Blk.cell hBx (j := 6) rfl; have y7 := Blk.cell hBx (j := 7) rfl; have y8 := Blk.cell hBx (j := 8) rfl; have y9 := Blk.cell hBx (j := 9) rfl; have y10 := Blk.cell hBx (j := 10) rfl; have y11 := Blk.cell hBx (j := 11) rfl; have y12 := Blk.cell hBx (j := 12) rfl; have y13 := Blk.cell hBx (j := 13) rfl
                go_wp2_with fail
                go_fit (HCg.out v2 he2)
                rw [HcgR.out]
                rintro xx v3 ⟨rfl, hd3⟩
                have he3 := he2.trans (hd3.mono he2.size)
                replace hBx := hBx.below hd3
                clear y0 y1 y2 y3 y4 y5 y6 y7 y8 y9 y10 y11 y12 y13
                have y0 := Blk.cell hBx (j := 0) rfl; have y1 := Blk.cell hBx (j := 1) rfl; have y2 := Blk.cell hBx (j := 2) rfl; have y3 := Blk.cell hBx (j := 3) rfl; have y4 := Blk.cell hBx (j := 4) rfl; have y5 := Blk.cell hBx (j := 5) rfl; have y6 := Blk.cell hBx (j := 6) rfl; have y7 := Blk.cell hBx (j := 7) rfl; have y8 := Blk.cell hBx (j := 8) rfl; have y9 := Blk.cell hBx (j := 9) rfl; have y10 := Blk.cell hBx (j := 10) rfl; have y11 := Blk.cell hBx (j := 11) rfl; have y12 := Blk.cell hBx (j := 12) rfl; have y13 := Blk.cell hBx (j := 13) rfl
                go_wp2
                go_ret
                exact ⟨by rw [HR.out]; rfl, hbw.trans (he3.mono hbw.size)⟩

          | true =>
            cases g1 with
            | true =>
              rcases bool_two (decide (pID < 1)) with d2 | d2
              · have HcI := hide (show serB pID = false from decide_eq_false (by have := of_decide_eq_true d2; omega))
                have HR := hide (prE_no (show prB (pID, (pGroupEpoch, pGroupMembers), pView, pSerial, true, (pOpKind, pOpAt, pOpN, pOpData, pOpOld), (pNextEpoch, pNextMembers), pQuiet) = false by rw [HV.out]; simp [HcI.out]))
                go_wp2_with fail
                go_fit (HSm.out wr he0)
                rw [Hno.out]
                rintro xx v0 ⟨rfl, hd0⟩
                have he0 := he0.trans (hd0.mono he0.size)
                replace hBx := hBx.below hd0
                clear y0 y1 y2 y3 y4 y5 y6 y7 y8 y9 y10 y11 y12 y13
                have y0 := Blk.cell hBx (j := 0) rfl; have y1 := Blk.cell hBx (j := 1) rfl; have y2 := Blk.cell hBx (j := 2) rfl; have y3 := Blk.cell hBx (j := 3) rfl; have y4 := Blk.cell hBx (j := 4) rfl; have y5 := Blk.cell hBx (j := 5) rfl; have y6 := Blk.cell hBx (j := 6) rfl; have y7 := Blk.cell hBx (j := 7) rfl; have y8 := Blk.cell hBx (j := 8) rfl; have y9 := Blk.cell hBx (j := 9) rfl; have y10 := Blk.cell hBx (j := 10) rfl; have y11 := Blk.cell hBx (j := 11) rfl; have y12 := Blk.cell hBx (j := 12) rfl; have y13 := Blk.cell hBx (j := 13) rfl
                go_wp2_with fail
                go_fit (none24_any pNextEpoch pNextMembersA pNextMembersn pNextMembersc v0)
                rw [Hng.out]
                rintro xx v1 ⟨rfl, hd1⟩
                have he1 := he0.trans (hd1.mono he0.size)
                replace hBx := hBx.below hd1
                clear y0 y1 y2 y3 y4 y5 y6 y7 y8 y9 y10 y11 y12 y13
                have y0 := Blk.cell hBx (j := 0) rfl; have y1 := Blk.cell hBx (j := 1) rfl; have y2 := Blk.cell hBx (j := 2) rfl; have y3 := Blk.cell hBx (j := 3) rfl; have y4 := Blk.cell hBx (j := 4) rfl; have y5 := Blk.cell hBx (j := 5) rfl; have y6 := Blk.cell hBx (j := 6) rfl; have y7 := Blk.cell hBx (j := 7) rfl; have y8 := Blk.cell hBx (j := 8) rfl; have y9 := Blk.cell hBx (j := 9) rfl; have y10 := Blk.cell hBx (j := 10) rfl; have y11 := Blk.cell hBx (j := 11) rfl; have y12 := Blk.cell hBx (j := 12) rfl; have y13 := Blk.cell hBx (j := 13) rfl
                go_wp2_with fail
                go_fit (HFo.out v1)
                rw [Hff.out]
                rintro xx v2 ⟨rfl, hd2⟩
                have he2 := he1.trans (hd2.mono he1.size)
                replace hBx := hBx.below hd2
                clear y0 y1 y2 y3 y4 y5 y6 y7 y8 y9 y10 y11 y12 y13
                have y0 := Blk.cell hBx (j := 0) rfl; have y1 := Blk.cell hBx (j := 1) rfl; have y2 := Blk.cell hBx (j := 2) rfl; have y3 := Blk.cell hBx (j := 3) rfl; have y4 := Blk.cell hBx (j := 4) rfl; have y5 := Blk.cell hBx (j := 5) rfl; have y6 := Blk.cell hBx (j := 6) rfl; have y7 := Blk.cell hBx (j := 7) rfl; have y8 := Blk.cell hBx (j := 8) rfl; have y9 := Blk.cell hBx (j := 9) rfl; have y10 := Blk.cell hBx (j := 10) rfl; have y11 := Blk.cell hBx (j := 11) rfl; have y12 := Blk.cell hBx (j := 12) rfl; have y13 := Blk.cell hBx (j := 13) rfl
                go_wp2_with fail
                go_fit (none24_any pNextEpoch pNextMembersA pNextMembersn pNextMembersc v2)
                rw [Hng.out]
                rintro xx v3 ⟨rfl, hd3⟩
                have he3 := he2.trans (hd3.mono he2.size)
                replace hBx := hBx.below hd3
                clear y0 y1 y2 y3 y4 y5 y6 y7 y8 y9 y10 y11 y12 y13
                have y0 := Blk.cell hBx (j := 0) rfl; have y1 := Blk.cell hBx (j := 1) rfl; have y2 := Blk.cell hBx (j := 2) rfl; have y3 := Blk.cell hBx (j := 3) rfl; have y4 := Blk.cell hBx (j := 4) rfl; have y5 := Blk.cell hBx (j := 5) rfl; have y6 := Blk.cell hBx (j := 6) rfl; have y7 := Blk.cell hBx (j := 7) rfl; have y8 := Blk.cell hBx (j := 8) rfl; have y9 := Blk.cell hBx (j := 9) rfl; have y10 := Blk.cell hBx (j := 10) rfl; have y11 := Blk.cell hBx (j := 11) rfl; have y12 := Blk.cell hBx (j := 12) rfl; have y13 := Blk.cell hBx (j := 13) rfl
                go_wp2
                go_ret
                exact ⟨by rw [HR.out]; rfl, hbw.trans (he3.mono hbw.size)⟩

              rcases bool_two (decide (4611686018427387904 < pID)) with d3 | d3
              · have HcI := hide (show serB pID = false from decide_eq_false (by have := of_decide_eq_true d3; omega))
                have HR := hide (prE_no (show prB (pID, (pGroupEpoch, pGroupMembers), pView, pSerial, true, (pOpKind, pOpAt, pOpN, pOpData, pOpOld), (pNextEpoch, pNextMembers), pQuiet) = false by rw [HV.out]; simp [HcI.out]))
                go_wp2_with fail
                go_fit (HSm.out wr he0)
                rw [Hno.out]
                rintro xx v0 ⟨rfl, hd0⟩
                have he0 := he0.trans (hd0.mono he0.size)
                replace hBx := hBx.below hd0
                clear y0 y1 y2 y3 y4 y5 y6 y7 y8 y9 y10 y11 y12 y13
                have y0 := Blk.cell hBx (j := 0) rfl; have y1 := Blk.cell hBx (j := 1) rfl; have y2 := Blk.cell hBx (j := 2) rfl; have y3 := Blk.cell hBx (j := 3) rfl; have y4 := Blk.cell hBx (j := 4) rfl; have y5 := Blk.cell hBx (j := 5) rfl; have y6 := Blk.cell hBx (j := 6) rfl; have y7 := Blk.cell hBx (j := 7) rfl; have y8 := Blk.cell hBx (j := 8) rfl; have y9 := Blk.cell hBx (j := 9) rfl; have y10 := Blk.cell hBx (j := 10) rfl; have y11 := Blk.cell hBx (j := 11) rfl; have y12 := Blk.cell hBx (j := 12) rfl; have y13 := Blk.cell hBx (j := 13) rfl
                go_wp2_with fail
                go_fit (none24_any pNextEpoch pNextMembersA pNextMembersn pNextMembersc v0)
                rw [Hng.out]
                rintro xx v1 ⟨rfl, hd1⟩
                have he1 := he0.trans (hd1.mono he0.size)
                replace hBx := hBx.below hd1
                clear y0 y1 y2 y3 y4 y5 y6 y7 y8 y9 y10 y11 y12 y13
                have y0 := Blk.cell hBx (j := 0) rfl; have y1 := Blk.cell hBx (j := 1) rfl; have y2 := Blk.cell hBx (j := 2) rfl; have y3 := Blk.cell hBx (j := 3) rfl; have y4 := Blk.cell hBx (j := 4) rfl; have y5 := Blk.cell hBx (j := 5) rfl; have y6 := Blk.cell hBx (j := 6) rfl; have y7 := Blk.cell hBx (j := 7) rfl; have y8 := Blk.cell hBx (j := 8) rfl; have y9 := Blk.cell hBx (j := 9) rfl; have y10 := Blk.cell hBx (j := 10) rfl; have y11 := Blk.cell hBx (j := 11) rfl; have y12 := Blk.cell hBx (j := 12) rfl; have y13 := Blk.cell hBx (j := 13) rfl
                go_wp2_with fail
                go_fit (HFo.out v1)
                rw [Hff.out]
                rintro xx v2 ⟨rfl, hd2⟩
                have he2 := he1.trans (hd2.mono he1.size)
                replace hBx := hBx.below hd2
                clear y0 y1 y2 y3 y4 y5 y6 y7 y8 y9 y10 y11 y12 y13
                have y0 := Blk.cell hBx (j := 0) rfl; have y1 := Blk.cell hBx (j := 1) rfl; have y2 := Blk.cell hBx (j := 2) rfl; have y3 := Blk.cell hBx (j := 3) rfl; have y4 := Blk.cell hBx (j := 4) rfl; have y5 := Blk.cell hBx (j := 5) rfl; have y6 := Blk.cell hBx (j := 6) rfl; have y7 := Blk.cell hBx (j := 7) rfl; have y8 := Blk.cell hBx (j := 8) rfl; have y9 := Blk.cell hBx (j := 9) rfl; have y10 := Blk.cell hBx (j := 10) rfl; have y11 := Blk.cell hBx (j := 11) rfl; have y12 := Blk.cell hBx (j := 12) rfl; have y13 := Blk.cell hBx (j := 13) rfl
                go_wp2_with fail
                go_fit (none24_any pNextEpoch pNextMembersA pNextMembersn pNextMembersc v2)
                rw [Hng.out]
                rintro xx v3 ⟨rfl, hd3⟩
                have he3 := he2.trans (hd3.mono he2.size)
                replace hBx := hBx.below hd3
                clear y0 y1 y2 y3 y4 y5 y6 y7 y8 y9 y10 y11 y12 y13
                have y0 := Blk.cell hBx (j := 0) rfl; have y1 := Blk.cell hBx (j := 1) rfl; have y2 := Blk.cell hBx (j := 2) rfl; have y3 := Blk.cell hBx (j := 3) rfl; have y4 := Blk.cell hBx (j := 4) rfl; have y5 := Blk.cell hBx (j := 5) rfl; have y6 := Blk.cell hBx (j := 6) rfl; have y7 := Blk.cell hBx (j := 7) rfl; have y8 := Blk.cell hBx (j := 8) rfl; have y9 := Blk.cell hBx (j := 9) rfl; have y10 := Blk.cell hBx (j := 10) rfl; have y11 := Blk.cell hBx (j := 11) rfl; have y12 := Blk.cell hBx (j := 12) rfl; have y13 := Blk.cell hBx (j := 13) rfl
                go_wp2
                go_ret
                exact ⟨by rw [HR.out]; rfl, hbw.trans (he3.mono hbw.size)⟩

              have HcI := hide (show serB pID = true from decide_eq_true (by have := of_decide_eq_false d2; have := of_decide_eq_false d3; omega))
              cases kg with
              | true =>
                have HcgR := hide (chk_ok Hkg.out)
                have HR := hide (prE_ok (show prB (pID, (pGroupEpoch, pGroupMembers), pView, pSerial, true, (pOpKind, pOpAt, pOpN, pOpData, pOpOld), (pNextEpoch, pNextMembers), pQuiet) = true by rw [HV.out]; simp [HcI.out, Hc3.out, Hc4.out, Hc5.out, Hrb.out, Hd1.out, Hq.out]))
                go_wp2_with fail
                go_fit (HSm.out wr he0)
                rw [Hno.out]
                rintro xx v0 ⟨rfl, hd0⟩
                have he0 := he0.trans (hd0.mono he0.size)
                replace hBx := hBx.below hd0
                clear y0 y1 y2 y3 y4 y5 y6 y7 y8 y9 y10 y11 y12 y13
                have y0 := Blk.cell hBx (j := 0) rfl; have y1 := Blk.cell hBx (j := 1) rfl; have y2 := Blk.cell hBx (j := 2) rfl; have y3 := Blk.cell hBx (j := 3) rfl; have y4 := Blk.cell hBx (j := 4) rfl; have y5 := Blk.cell hBx (j := 5) rfl; have y6 := Blk.cell hBx (j := 6) rfl; have y7 := Blk.cell hBx (j := 7) rfl; have y8 := Blk.cell hBx (j := 8) rfl; have y9 := Blk.cell hBx (j := 9) rfl; have y10 := Blk.cell hBx (j := 10) rfl; have y11 := Blk.cell hBx (j := 11) rfl; have y12 := Blk.cell hBx (j := 12) rfl; have y13 := Blk.cell hBx (j := 13) rfl
                go_wp2_with fail
                go_fit (none24_any pNextEpoch pNextMembersA pNextMembersn pNextMembersc v0)
                rw [Hng.out]
                rintro xx v1 ⟨rfl, hd1⟩
                have he1 := he0.trans (hd1.mono he0.size)
                replace hBx := hBx.below hd1
                clear y0 y1 y2 y3 y4 y5 y6 y7 y8 y9 y10 y11 y12 y13
                have y0 := Blk.cell hBx (j := 0) rfl; have y1 := Blk.cell hBx (j := 1) rfl; have y2 := Blk.cell hBx (j := 2) rfl; have y3 := Blk.cell hBx (j := 3) rfl; have y4 := Blk.cell hBx (j := 4) rfl; have y5 := Blk.cell hBx (j := 5) rfl; have y6 := Blk.cell hBx (j := 6) rfl; have y7 := Blk.cell hBx (j := 7) rfl; have y8 := Blk.cell hBx (j := 8) rfl; have y9 := Blk.cell hBx (j := 9) rfl; have y10 := Blk.cell hBx (j := 10) rfl; have y11 := Blk.cell hBx (j := 11) rfl; have y12 := Blk.cell hBx (j := 12) rfl; have y13 := Blk.cell hBx (j := 13) rfl
                go_wp2_with fail
                go_fit (HFo.out v1)
                rw [Hff.out]
                rintro xx v2 ⟨rfl, hd2⟩
                have he2 := he1.trans (hd2.mono he1.size)
                replace hBx := hBx.below hd2
                clear y0 y1 y2 y3 y4 y5 y6 y7 y8 y9 y10 y11 y12 y13
                have y0 := Blk.cell hBx (j := 0) rfl; have y1 := Blk.cell hBx (j := 1) rfl; have y2 := Blk.cell hBx (j := 2) rfl; have y3 := Blk.cell hBx (j := 3) rfl; have y4 := Blk.cell hBx (j := 4) rfl; have y5 := Blk.cell hBx (j := 5) rfl; have y6 := Blk.cell hBx (j := 6) rfl; have y7 := Blk.cell hBx (j := 7) rfl; have y8 := Blk.cell hBx (j := 8) rfl; have y9 := Blk.cell hBx (j := 9) rfl; have y10 := Blk.cell hBx (j := 10) rfl; have y11 := Blk.cell hBx (j := 11) rfl; have y12 := Blk.cell hBx (j := 12) rfl; have y13 := Blk.cell hBx (j := 13) rfl
                go_wp2_with fail
                go_fit (none24_any pNextEpoch pNextMembersA pNextMembersn pNextMembersc v2)
                rw [Hng.out]
                rintro xx v3 ⟨rfl, hd3⟩
                have he3 := he2.trans (hd3.mono he2.size)
                replace hBx := hBx.below hd3
                clear y0 y1 y2 y3 y4 y5 y6 y7 y8 y9 y10 y11 y12 y13
                have y0 := Blk.cell hBx (j := 0) rfl; have y1 := Blk.cell hBx (j := 1) rfl; have y2 := Blk.cell hBx (j := 2) rfl; have y3 := Blk.cell hBx (j := 3) rfl; have y4 := Blk.cell hBx (j := 4) rfl; have y5 := Blk.cell hBx (j := 5) rfl; have y6 := Blk.cell hBx (j := 6) rfl; have y7 := Blk.cell hBx (j := 7) rfl; have y8 := Blk.cell hBx (j := 8) rfl; have y9 := Blk.cell hBx (j := 9) rfl; have y10 := Blk.cell hBx (j := 10) rfl; have y11 := Blk.cell hBx (j := 11) rfl; have y12 := Blk.cell hBx (j := 12) rfl; have y13 := Blk.cell hBx (j := 13) rfl
                go_wp2_with fail
                go_fit (HCg.out v3 he3)
                rw [HcgR.out]
                rintro xx v4 ⟨rfl, hd4⟩
                have he4 := he3.trans (hd4.mono he3.size)
                replace hBx := hBx.below hd4
                clear y0 y1 y2 y3 y4 y5 y6 y7 y8 y9 y10 y11 y12 y13
                have y0 := Blk.cell hBx (j := 0) rfl; have y1 := Blk.cell hBx (j := 1) rfl; have y2 := Blk.cell hBx (j := 2) rfl; have y3 := Blk.cell hBx (j := 3) rfl; have y4 := Blk.cell hBx (j := 4) rfl; have y5 := Blk.cell hBx (j := 5) rfl; have y6 := Blk.cell hBx (j := 6) rfl; have y7 := Blk.cell hBx (j := 7) rfl; have y8 := Blk.cell hBx (j := 8) rfl; have y9 := Blk.cell hBx (j := 9) rfl; have y10 := Blk.cell hBx (j := 10) rfl; have y11 := Blk.cell hBx (j := 11) rfl; have y12 := Blk.cell hBx (j := 12) rfl; have y13 := Blk.cell hBx (j := 13) rfl
                go_wp2
                go_ret
                exact ⟨by rw [HR.out]; rfl, hbw.trans (he4.mono hbw.size)⟩

              | false =>
                have HcgR := hide (chk_bad Hkg.out)
                have HR := hide (prE_no (show prB (pID, (pGroupEpoch, pGroupMembers), pView, pSerial, true, (pOpKind, pOpAt, pOpN, pOpData, pOpOld), (pNextEpoch, pNextMembers), pQuiet) = false by rw [HV.out]; simp [HcI.out]))
                go_wp2_with fail
                go_fit (HSm.out wr he0)
                rw [Hno.out]
                rintro xx v0 ⟨rfl, hd0⟩
                have he0 := he0.trans (hd0.mono he0.size)
                replace hBx := hBx.below hd0
                clear y0 y1 y2 y3 y4 y5 y6 y7 y8 y9 y10 y11 y12 y13
                have y0 := Blk.cell hBx (j := 0) rfl; have y1 := Blk.cell hBx (j := 1) rfl; have y2 := Blk.cell hBx (j := 2) rfl; have y3 := Blk.cell hBx (j := 3) rfl; have y4 := Blk.cell hBx (j := 4) rfl; have y5 := Blk.cell hBx (j := 5) rfl; have y6 := Blk.cell hBx (j := 6) rfl; have y7 := Blk.cell hBx (j := 7) rfl; have y8 := Blk.cell hBx (j := 8) rfl; have y9 := Blk.cell hBx (j := 9) rfl; have y10 := Blk.cell hBx (j := 10) rfl; have y11 := Blk.cell hBx (j := 11) rfl; have y12 := Blk.cell hBx (j := 12) rfl; have y13 := Blk.cell hBx (j := 13) rfl
                go_wp2_with fail
                go_fit (none24_any pNextEpoch pNextMembersA pNextMembersn pNextMembersc v0)
                rw [Hng.out]
                rintro xx v1 ⟨rfl, hd1⟩
                have he1 := he0.trans (hd1.mono he0.size)
                replace hBx := hBx.below hd1
                clear y0 y1 y2 y3 y4 y5 y6 y7 y8 y9 y10 y11 y12 y13
                have y0 := Blk.cell hBx (j := 0) rfl; have y1 := Blk.cell hBx (j := 1) rfl; have y2 := Blk.cell hBx (j := 2) rfl; have y3 := Blk.cell hBx (j := 3) rfl; have y4 := Blk.cell hBx (j := 4) rfl; have y5 := Blk.cell hBx (j := 5) rfl; have y6 := Blk.cell hBx (j := 6) rfl; have y7 := Blk.cell hBx (j := 7) rfl; have y8 := Blk.cell hBx (j := 8) rfl; have y9 := Blk.cell hBx (j := 9) rfl; have y10 := Blk.cell hBx (j := 10) rfl; have y11 := Blk.cell hBx (j := 11) rfl; have y12 := Blk.cell hBx (j := 12) rfl; have y13 := Blk.cell hBx (j := 13) rfl
                go_wp2_with fail
                go_fit (HFo.out v1)
                rw [Hff.out]
                rintro xx v2 ⟨rfl, hd2⟩
                have he2 := he1.trans (hd2.mono he1.size)
                replace hBx := hBx.below hd2
                clear y0 y1 y2 y3 y4 y5 y6 y7 y8 y9 y10 y11 y12 y13
                have y0 := Blk.cell hBx (j := 0) rfl; have y1 := Blk.cell hBx (j := 1) rfl; have y2 := Blk.cell hBx (j := 2) rfl; have y3 := Blk.cell hBx (j := 3) rfl; have y4 := Blk.cell hBx (j := 4) rfl; have y5 := Blk.cell hBx (j := 5) rfl; have y6 := Blk.cell hBx (j := 6) rfl; have y7 := Blk.cell hBx (j := 7) rfl; have y8 := Blk.cell hBx (j := 8) rfl; have y9 := Blk.cell hBx (j := 9) rfl; have y10 := Blk.cell hBx (j := 10) rfl; have y11 := Blk.cell hBx (j := 11) rfl; have y12 := Blk.cell hBx (j := 12) rfl; have y13 := Blk.cell hBx (j := 13) rfl
                go_wp2_with fail
                go_fit (none24_any pNextEpoch pNextMembersA pNextMembersn pNextMembersc v2)
                rw [Hng.out]
                rintro xx v3 ⟨rfl, hd3⟩
                have he3 := he2.trans (hd3.mono he2.size)
                replace hBx := hBx.below hd3
                clear y0 y1 y2 y3 y4 y5 y6 y7 y8 y9 y10 y11 y12 y13
                have y0 := Blk.cell hBx (j := 0) rfl; have y1 := Blk.cell hBx (j := 1) rfl; have y2 := Blk.cell hBx (j := 2) rfl; have y3 := Blk.cell hBx (j := 3) rfl; have y4 := Blk.cell hBx (j := 4) rfl; have y5 := Blk.cell hBx (j := 5) rfl; have y6 := Blk.cell hBx (j := 6) rfl; have y7 := Blk.cell hBx (j := 7) rfl; have y8 := Blk.cell hBx (j := 8) rfl; have y9 := Blk.cell hBx (j := 9) rfl; have y10 := Blk.cell hBx (j := 10) rfl; have y11 := Blk.cell hBx (j := 11) rfl; have y12 := Blk.cell hBx (j := 12) rfl; have y13 := Blk.cell hBx (j := 13) rfl
                go_wp2_with fail
                go_fit (HCg.out v3 he3)
                rw [HcgR.out]
                rintro xx v4 ⟨rfl, hd4⟩
                have he4 := he3.trans (hd4.mono he3.size)
                replace hBx := hBx.below hd4
                clear y0 y1 y2 y3 y4 y5 y6 y7 y8 y9 y10 y11 y12 y13
                have y0 := Blk.cell hBx (j := 0) rfl; have y1 := Blk.cell hBx (j := 1) rfl; have y2 := Blk.cell hBx (j := 2) rfl; have y3 := Blk.cell hBx (j := 3) rfl; have y4 := Blk.cell hBx (j := 4) rfl; have y5 := Blk.cell hBx (j := 5) rfl; have y6 := Blk.cell hBx (j := 6) rfl; have y7 := Blk.cell hBx (j := 7) rfl; have y8 := Blk.cell hBx (j := 8) rfl; have y9 := Blk.cell hBx (j := 9) rfl; have y10 := Blk.cell hBx (j := 10) rfl; have y11 := Blk.cell hBx (j := 11) rfl; have y12 := Blk.cell hBx (j := 12) rfl; have y13 := Blk.cell hBx (j := 13) rfl
                go_wp2
                go_ret
                exact ⟨by rw [HR.out]; rfl, hbw.trans (he4.mono hbw.size)⟩

            | false =>
              cases kn with
              | true =>
                have HcnR := hide (chk_ok Hkn.out)
                rcases bool_two (decide (pID < 1)) with d2 | d2
                · have HcI := hide (show serB pID = false from decide_eq_false (by have := of_decide_eq_true d2; omega))
                  have HR := hide (prE_no (show prB (pID, (pGroupEpoch, pGroupMembers), pView, pSerial, true, (pOpKind, pOpAt, pOpN, pOpData, pOpOld), (pNextEpoch, pNextMembers), pQuiet) = false by rw [HV.out]; simp [HcI.out]))
                  go_wp2_with fail
                  go_fit (HSm.out wr he0)
                  rw [Hno.out]
                  rintro xx v0 ⟨rfl, hd0⟩
                  have he0 := he0.trans (hd0.mono he0.size)
                  replace hBx := hBx.below hd0
                  clear y0 y1 y2 y3 y4 y5 y6 y7 y8 y9 y10 y11 y12 y13
                  have y0 := Blk.cell hBx (j := 0) rfl; have y1 := Blk.cell hBx (j := 1) rfl; have y2 := Blk.cell hBx (j := 2) rfl; have y3 := Blk.cell hBx (j := 3) rfl; have y4 := Blk.cell hBx (j := 4) rfl; have y5 := Blk.cell hBx (j := 5) rfl; have y6 := Blk.cell hBx (j := 6) rfl; have y7 := Blk.cell hBx (j := 7) rfl; have y8 := Blk.cell hBx (j := 8) rfl; have y9 := Blk.cell hBx (j := 9) rfl; have y10 := Blk.cell hBx (j := 10) rfl; have y11 := Blk.cell hBx (j := 11) rfl; have y12 := Blk.cell hBx (j := 12) rfl; have y13 := Blk.cell hBx (j := 13) rfl
                  go_wp2_with fail
                  go_fit (none24_any pNextEpoch pNextMembersA pNextMembersn pNextMembersc v0)
                  rw [Hng.out]
                  rintro xx v1 ⟨rfl, hd1⟩
                  have he1 := he0.trans (hd1.mono he0.size)
                  replace hBx := hBx.below hd1
                  clear y0 y1 y2 y3 y4 y5 y6 y7 y8 y9 y10 y11 y12 y13
                  have y0 := Blk.cell hBx (j := 0) rfl; have y1 := Blk.cell hBx (j := 1) rfl; have y2 := Blk.cell hBx (j := 2) rfl; have y3 := Blk.cell hBx (j := 3) rfl; have y4 := Blk.cell hBx (j := 4) rfl; have y5 := Blk.cell hBx (j := 5) rfl; have y6 := Blk.cell hBx (j := 6) rfl; have y7 := Blk.cell hBx (j := 7) rfl; have y8 := Blk.cell hBx (j := 8) rfl; have y9 := Blk.cell hBx (j := 9) rfl; have y10 := Blk.cell hBx (j := 10) rfl; have y11 := Blk.cell hBx (j := 11) rfl; have y12 := Blk.cell hBx (j := 12) rfl; have y13 := Blk.cell hBx (j := 13) rfl
                  go_wp2_with fail
                  go_fit (HFo.out v1)
                  rw [Hff.out]
                  rintro xx v2 ⟨rfl, hd2⟩
                  have he2 := he1.trans (hd2.mono he1.size)
                  replace hBx := hBx.below hd2
                  clear y0 y1 y2 y3 y4 y5 y6 y7 y8 y9 y10 y11 y12 y13
                  have y0 := Blk.cell hBx (j := 0) rfl; have y1 := Blk.cell hBx (j := 1) rfl; have y2 := Blk.cell hBx (j := 2) rfl; have y3 := Blk.cell hBx (j := 3) rfl; have y4 := Blk.cell hBx (j := 4) rfl; have y5 := Blk.cell hBx (j := 5) rfl; have y6 := Blk.cell hBx (j := 6) rfl; have y7 := Blk.cell hBx (j := 7) rfl; have y8 := Blk.cell hBx (j := 8) rfl; have y9 := Blk.cell hBx (j := 9) rfl; have y10 := Blk.cell hBx (j := 10) rfl; have y11 := Blk.cell hBx (j := 11) rfl; have y12 := Blk.cell hBx (j := 12) rfl; have y13 := Blk.cell hBx (j := 13) rfl
                  go_wp2_with fail
                  go_fit (none24_any pNextEpoch pNextMembersA pNextMembersn pNextMembersc v2)
                  rw [Hng.out]
                  rintro xx v3 ⟨rfl, hd3⟩
                  have he3 := he2.trans (hd3.mono he2.size)
                  replace hBx := hBx.below hd3
                  clear y0 y1 y2 y3 y4 y5 y6 y7 y8 y9 y10 y11 y12 y13
                  have y0 := Blk.cell hBx (j := 0) rfl; have y1 := Blk.cell hBx (j := 1) rfl; have y2 := Blk.cell hBx (j := 2) rfl; have y3 := Blk.cell hBx (j := 3) rfl; have y4 := Blk.cell hBx (j := 4) rfl; have y5 := Blk.cell hBx (j := 5) rfl; have y6 := Blk.cell hBx (j := 6) rfl; have y7 := Blk.cell hBx (j := 7) rfl; have y8 := Blk.cell hBx (j := 8) rfl; have y9 := Blk.cell hBx (j := 9) rfl; have y10 := Blk.cell hBx (j := 10) rfl; have y11 := Blk.cell hBx (j := 11) rfl; have y12 := Blk.cell hBx (j := 12) rfl; have y13 := Blk.cell hBx (j := 13) rfl
                  go_wp2_with fail
                  go_fit (HCn.out v3 he3)
                  rw [HcnR.out]
                  rintro xx v4 ⟨rfl, hd4⟩
                  have he4 := he3.trans (hd4.mono he3.size)
                  replace hBx := hBx.below hd4
                  clear y0 y1 y2 y3 y4 y5 y6 y7 y8 y9 y10 y11 y12 y13
                  have y0 := Blk.cell hBx (j := 0) rfl; have y1 := Blk.cell hBx (j := 1) rfl; have y2 := Blk.cell hBx (j := 2) rfl; have y3 := Blk.cell hBx (j := 3) rfl; have y4 := Blk.cell hBx (j := 4) rfl; have y5 := Blk.cell hBx (j := 5) rfl; have y6 := Blk.cell hBx (j := 6) rfl; have y7 := Blk.cell hBx (j := 7) rfl; have y8 := Blk.cell hBx (j := 8) rfl; have y9 := Blk.cell hBx (j := 9) rfl; have y10 := Blk.cell hBx (j := 10) rfl; have y11 := Blk.cell hBx (j := 11) rfl; have y12 := Blk.cell hBx (j := 12) rfl; have y13 := Blk.cell hBx (j := 13) rfl
                  go_wp2
                  go_ret
                  exact ⟨by rw [HR.out]; rfl, hbw.trans (he4.mono hbw.size)⟩

                rcases bool_two (decide (4611686018427387904 < pID)) with d3 | d3
                · have HcI := hide (show serB pID = false from decide_eq_false (by have := of_decide_eq_true d3; omega))
                  have HR := hide (prE_no (show prB (pID, (pGroupEpoch, pGroupMembers), pView, pSerial, true, (pOpKind, pOpAt, pOpN, pOpData, pOpOld), (pNextEpoch, pNextMembers), pQuiet) = false by rw [HV.out]; simp [HcI.out]))
                  go_wp2_with fail
                  go_fit (HSm.out wr he0)
                  rw [Hno.out]
                  rintro xx v0 ⟨rfl, hd0⟩
                  have he0 := he0.trans (hd0.mono he0.size)
                  replace hBx := hBx.below hd0
                  clear y0 y1 y2 y3 y4 y5 y6 y7 y8 y9 y10 y11 y12 y13
                  have y0 := Blk.cell hBx (j := 0) rfl; have y1 := Blk.cell hBx (j := 1) rfl; have y2 := Blk.cell hBx (j := 2) rfl; have y3 := Blk.cell hBx (j := 3) rfl; have y4 := Blk.cell hBx (j := 4) rfl; have y5 := Blk.cell hBx (j := 5) rfl; have y6 := Blk.cell hBx (j := 6) rfl; have y7 := Blk.cell hBx (j := 7) rfl; have y8 := Blk.cell hBx (j := 8) rfl; have y9 := Blk.cell hBx (j := 9) rfl; have y10 := Blk.cell hBx (j := 10) rfl; have y11 := Blk.cell hBx (j := 11) rfl; have y12 := Blk.cell hBx (j := 12) rfl; have y13 := Blk.cell hBx (j := 13) rfl
                  go_wp2_with fail
                  go_fit (none24_any pNextEpoch pNextMembersA pNextMembersn pNextMembersc v0)
                  rw [Hng.out]
                  rintro xx v1 ⟨rfl, hd1⟩
                  have he1 := he0.trans (hd1.mono he0.size)
                  replace hBx := hBx.below hd1
                  clear y0 y1 y2 y3 y4 y5 y6 y7 y8 y9 y10 y11 y12 y13
                  have y0 := Blk.cell hBx (j := 0) rfl; have y1 := Blk.cell hBx (j := 1) rfl; have y2 := Blk.cell hBx (j := 2) rfl; have y3 := Blk.cell hBx (j := 3) rfl; have y4 := Blk.cell hBx (j := 4) rfl; have y5 := Blk.cell hBx (j := 5) rfl; have y6 := Blk.cell hBx (j := 6) rfl; have y7 := Blk.cell hBx (j := 7) rfl; have y8 := Blk.cell hBx (j := 8) rfl; have y9 := Blk.cell hBx (j := 9) rfl; have y10 := Blk.cell hBx (j := 10) rfl; have y11 := Blk.cell hBx (j := 11) rfl; have y12 := Blk.cell hBx (j := 12) rfl; have y13 := Blk.cell hBx (j := 13) rfl
                  go_wp2_with fail
                  go_fit (HFo.out v1)
                  rw [Hff.out]
                  rintro xx v2 ⟨rfl, hd2⟩
                  have he2 := he1.trans (hd2.mono he1.size)
                  replace hBx := hBx.below hd2
                  clear y0 y1 y2 y3 y4 y5 y6 y7 y8 y9 y10 y11 y12 y13
                  have y0 := Blk.cell hBx (j := 0) rfl; have y1 := Blk.cell hBx (j := 1) rfl; have y2 := Blk.cell hBx (j := 2) rfl; have y3 := Blk.cell hBx (j := 3) rfl; have y4 := Blk.cell hBx (j := 4) rfl; have y5 := Blk.cell hBx (j := 5) rfl; have y6 := Blk.cell hBx (j := 6) rfl; have y7 := Blk.cell hBx (j := 7) rfl; have y8 := Blk.cell hBx (j := 8) rfl; have y9 := Blk.cell hBx (j := 9) rfl; have y10 := Blk.cell hBx (j := 10) rfl; have y11 := Blk.cell hBx (j := 11) rfl; have y12 := Blk.cell hBx (j := 12) rfl; have y13 := Blk.cell hBx (j := 13) rfl
                  go_wp2_with fail
                  go_fit (none24_any pNextEpoch pNextMembersA pNextMembersn pNextMembersc v2)
                  rw [Hng.out]
                  rintro xx v3 ⟨rfl, hd3⟩
                  have he3 := he2.trans (hd3.mono he2.size)
                  replace hBx := hBx.below hd3
                  clear y0 y1 y2 y3 y4 y5 y6 y7 y8 y9 y10 y11 y12 y13
                  have y0 := Blk.cell hBx (j := 0) rfl; have y1 := Blk.cell hBx (j := 1) rfl; have y2 := Blk.cell hBx (j := 2) rfl; have y3 := Blk.cell hBx (j := 3) rfl; have y4 := Blk.cell hBx (j := 4) rfl; have y5 := Blk.cell hBx (j := 5) rfl; have y6 := Blk.cell hBx (j := 6) rfl; have y7 := Blk.cell hBx (j := 7) rfl; have y8 := Blk.cell hBx (j := 8) rfl; have y9 := Blk.cell hBx (j := 9) rfl; have y10 := Blk.cell hBx (j := 10) rfl; have y11 := Blk.cell hBx (j := 11) rfl; have y12 := Blk.cell hBx (j := 12) rfl; have y13 := Blk.cell hBx (j := 13) rfl
                  go_wp2_with fail
                  go_fit (HCn.out v3 he3)
                  rw [HcnR.out]
                  rintro xx v4 ⟨rfl, hd4⟩
                  have he4 := he3.trans (hd4.mono he3.size)
                  replace hBx := hBx.below hd4
                  clear y0 y1 y2 y3 y4 y5 y6 y7 y8 y9 y10 y11 y12 y13
                  have y0 := Blk.cell hBx (j := 0) rfl; have y1 := Blk.cell hBx (j := 1) rfl; have y2 := Blk.cell hBx (j := 2) rfl; have y3 := Blk.cell hBx (j := 3) rfl; have y4 := Blk.cell hBx (j := 4) rfl; have y5 := Blk.cell hBx (j := 5) rfl; have y6 := Blk.cell hBx (j := 6) rfl; have y7 := Blk.cell hBx (j := 7) rfl; have y8 := Blk.cell hBx (j := 8) rfl; have y9 := Blk.cell hBx (j := 9) rfl; have y10 := Blk.cell hBx (j := 10) rfl; have y11 := Blk.cell hBx (j := 11) rfl; have y12 := Blk.cell hBx (j := 12) rfl; have y13 := Blk.cell hBx (j := 13) rfl
                  go_wp2
                  go_ret
                  exact ⟨by rw [HR.out]; rfl, hbw.trans (he4.mono hbw.size)⟩

                have HcI := hide (show serB pID = true from decide_eq_true (by have := of_decide_eq_false d2; have := of_decide_eq_false d3; omega))
                cases kg with
                | true =>
                  have HcgR := hide (chk_ok Hkg.out)
                  have HR := hide (prE_ok (show prB (pID, (pGroupEpoch, pGroupMembers), pView, pSerial, true, (pOpKind, pOpAt, pOpN, pOpData, pOpOld), (pNextEpoch, pNextMembers), pQuiet) = true by rw [HV.out]; simp [HcI.out, Hc3.out, Hc4.out, Hc5.out, Hrb.out, Hd1.out, Hq.out]))
                  go_wp2_with fail
                  go_fit (HSm.out wr he0)
                  rw [Hno.out]
                  rintro xx v0 ⟨rfl, hd0⟩
                  have he0 := he0.trans (hd0.mono he0.size)
                  replace hBx := hBx.below hd0
                  clear y0 y1 y2 y3 y4 y5 y6 y7 y8 y9 y10 y11 y12 y13
                  have y0 := Blk.cell hBx (j := 0) rfl; have y1 := Blk.cell hBx (j := 1) rfl; have y2 := Blk.cell hBx (j := 2) rfl; have y3 := Blk.cell hBx (j := 3) rfl; have y4 := Blk.cell hBx (j := 4) rfl; have y5 := Blk.cell hBx (j := 5) rfl; have y6 := Blk.cell hBx (j := 6) rfl; have y7 := Blk.cell hBx (j := 7) rfl; have y8 := Blk.cell hBx (j := 8) rfl; have y9 := Blk.cell hBx (j := 9) rfl; have y10 := Blk.cell hBx (j := 10) rfl; have y11 := Blk.cell hBx (j := 11) rfl; have y12 := Blk.cell hBx (j := 12) rfl; have y13 := Blk.cell hBx (j := 13) rfl
                  go_wp2_with fail
                  go_fit (none24_any pNextEpoch pNextMembersA pNextMembersn pNextMembersc v0)
                  rw [Hng.out]
                  rintro xx v1 ⟨rfl, hd1⟩
                  have he1 := he0.trans (hd1.mono he0.size)
                  replace hBx := hBx.below hd1
                  clear y0 y1 y2 y3 y4 y5 y6 y7 y8 y9 y10 y11 y12 y13
                  have y0 := Blk.cell hBx (j := 0) rfl; have y1 := Blk.cell hBx (j := 1) rfl; have y2 := Blk.cell hBx (j := 2) rfl; have y3 := Blk.cell hBx (j := 3) rfl; have y4 := Blk.cell hBx (j := 4) rfl; have y5 := Blk.cell hBx (j := 5) rfl; have y6 := Blk.cell hBx (j := 6) rfl; have y7 := Blk.cell hBx (j := 7) rfl; have y8 := Blk.cell hBx (j := 8) rfl; have y9 := Blk.cell hBx (j := 9) rfl; have y10 := Blk.cell hBx (j := 10) rfl; have y11 := Blk.cell hBx (j := 11) rfl; have y12 := Blk.cell hBx (j := 12) rfl; have y13 := Blk.cell hBx (j := 13) rfl
                  go_wp2_with fail
                  go_fit (HFo.out v1)
                  rw [Hff.out]
                  rintro xx v2 ⟨rfl, hd2⟩
                  have he2 := he1.trans (hd2.mono he1.size)
                  replace hBx := hBx.below hd2
                  clear y0 y1 y2 y3 y4 y5 y6 y7 y8 y9 y10 y11 y12 y13
                  have y0 := Blk.cell hBx (j := 0) rfl; have y1 := Blk.cell hBx (j := 1) rfl; have y2 := Blk.cell hBx (j := 2) rfl; have y3 := Blk.cell hBx (j := 3) rfl; have y4 := Blk.cell hBx (j := 4) rfl; have y5 := Blk.cell hBx (j := 5) rfl; have y6 := Blk.cell hBx (j := 6) rfl; have y7 := Blk.cell hBx (j := 7) rfl; have y8 := Blk.cell hBx (j := 8) rfl; have y9 := Blk.cell hBx (j := 9) rfl; have y10 := Blk.cell hBx (j := 10) rfl; have y11 := Blk.cell hBx (j := 11) rfl; have y12 := Blk.cell hBx (j := 12) rfl; have y13 := Blk.cell hBx (j := 13) rfl
                  go_wp2_with fail
                  go_fit (none24_any pNextEpoch pNextMembersA pNextMembersn pNextMembersc v2)
                  rw [Hng.out]
                  rintro xx v3 ⟨rfl, hd3⟩
                  have he3 := he2.trans (hd3.mono he2.size)
                  replace hBx := hBx.below hd3
                  clear y0 y1 y2 y3 y4 y5 y6 y7 y8 y9 y10 y11 y12 y13
                  have y0 := Blk.cell hBx (j := 0) rfl; have y1 := Blk.cell hBx (j := 1) rfl; have y2 := Blk.cell hBx (j := 2) rfl; have y3 := Blk.cell hBx (j := 3) rfl; have y4 := Blk.cell hBx (j := 4) rfl; have y5 := Blk.cell hBx (j := 5) rfl; have y6 := Blk.cell hBx (j := 6) rfl; have y7 := Blk.cell hBx (j := 7) rfl; have y8 := Blk.cell hBx (j := 8) rfl; have y9 := Blk.cell hBx (j := 9) rfl; have y10 := Blk.cell hBx (j := 10) rfl; have y11 := Blk.cell hBx (j := 11) rfl; have y12 := Blk.cell hBx (j := 12) rfl; have y13 := Blk.cell hBx (j := 13) rfl
                  go_wp2_with fail
                  go_fit (HCn.out v3 he3)
                  rw [HcnR.out]
                  rintro xx v4 ⟨rfl, hd4⟩
                  have he4 := he3.trans (hd4.mono he3.size)
                  replace hBx := hBx.below hd4
                  clear y0 y1 y2 y3 y4 y5 y6 y7 y8 y9 y10 y11 y12 y13
                  have y0 := Blk.cell hBx (j := 0) rfl; have y1 := Blk.cell hBx (j := 1) rfl; have y2 := Blk.cell hBx (j := 2) rfl; have y3 := Blk.cell hBx (j := 3) rfl; have y4 := Blk.cell hBx (j := 4) rfl; have y5 := Blk.cell hBx (j := 5) rfl; have y6 := Blk.cell hBx (j := 6) rfl; have y7 := Blk.cell hBx (j := 7) rfl; have y8 := Blk.cell hBx (j := 8) rfl; have y9 := Blk.cell hBx (j := 9) rfl; have y10 := Blk.cell hBx (j := 10) rfl; have y11 := Blk.cell hBx (j := 11) rfl; have y12 := Blk.cell hBx (j := 12) rfl; have y13 := Blk.cell hBx (j := 13) rfl
                  go_wp2_with fail
                  go_fit (HCg.out v4 he4)
                  rw [HcgR.out]
                  rintro xx v5 ⟨rfl, hd5⟩
                  have he5 := he4.trans (hd5.mono he4.size)
                  replace hBx := hBx.below hd5
                  clear y0 y1 y2 y3 y4 y5 y6 y7 y8 y9 y10 y11 y12 y13
                  have y0 := Blk.cell hBx (j := 0) rfl; have y1 := Blk.cell hBx (j := 1) rfl; have y2 := Blk.cell hBx (j := 2) rfl; have y3 := Blk.cell hBx (j := 3) rfl; have y4 := Blk.cell hBx (j := 4) rfl; have y5 := Blk.cell hBx (j := 5) rfl; have y6 := Blk.cell hBx (j := 6) rfl; have y7 := Blk.cell hBx (j := 7) rfl; have y8 := Blk.cell hBx (j := 8) rfl; have y9 := Blk.cell hBx (j := 9) rfl; have y10 := Blk.cell hBx (j := 10) rfl; have y11 := Blk.cell hBx (j := 11) rfl; have y12 := Blk.cell hBx (j := 12) rfl; have y13 := Blk.cell hBx (j := 13) rfl
                  go_wp2
                  go_ret
                  exact ⟨by rw [HR.out]; rfl, hbw.trans (he5.mono hbw.size)⟩

                | false =>
                  have HcgR := hide (chk_bad Hkg.out)
                  have HR := hide (prE_no (show prB (pID, (pGroupEpoch, pGroupMembers), pView, pSerial, true, (pOpKind, pOpAt, pOpN, pOpData, pOpOld), (pNextEpoch, pNextMembers), pQuiet) = false by rw [HV.out]; simp [HcI.out]))
                  go_wp2_with fail
                  go_fit (HSm.out wr he0)
                  rw [Hno.out]
                  rintro xx v0 ⟨rfl, hd0⟩
                  have he0 := he0.trans (hd0.mono he0.size)
                  replace hBx := hBx.below hd0
                  clear y0 y1 y2 y3 y4 y5 y6 y7 y8 y9 y10 y11 y12 y13
                  have y0 := Blk.cell hBx (j := 0) rfl; have y1 := Blk.cell hBx (j := 1) rfl; have y2 := Blk.cell hBx (j := 2) rfl; have y3 := Blk.cell hBx (j := 3) rfl; have y4 := Blk.cell hBx (j := 4) rfl; have y5 := Blk.cell hBx (j := 5) rfl; have y6 := Blk.cell hBx (j := 6) rfl; have y7 := Blk.cell hBx (j := 7) rfl; have y8 := Blk.cell hBx (j := 8) rfl; have y9 := Blk.cell hBx (j := 9) rfl; have y10 := Blk.cell hBx (j := 10) rfl; have y11 := Blk.cell hBx (j := 11) rfl; have y12 := Blk.cell hBx (j := 12) rfl; have y13 := Blk.cell hBx (j := 13) rfl
                  go_wp2_with fail
                  go_fit (none24_any pNextEpoch pNextMembersA pNextMembersn pNextMembersc v0)
                  rw [Hng.out]
                  rintro xx v1 ⟨rfl, hd1⟩
                  have he1 := he0.trans (hd1.mono he0.size)
                  replace hBx := hBx.below hd1
                  clear y0 y1 y2 y3 y4 y5 y6 y7 y8 y9 y10 y11 y12 y13
                  have y0 := Blk.cell hBx (j := 0) rfl; have y1 := Blk.cell hBx (j := 1) rfl; have y2 := Blk.cell hBx (j := 2) rfl; have y3 := Blk.cell hBx (j := 3) rfl; have y4 := Blk.cell hBx (j := 4) rfl; have y5 := Blk.cell hBx (j := 5) rfl; have y6 := Blk.cell hBx (j := 6) rfl; have y7 := Blk.cell hBx (j := 7) rfl; have y8 := Blk.cell hBx (j := 8) rfl; have y9 := Blk.cell hBx (j := 9) rfl; have y10 := Blk.cell hBx (j := 10) rfl; have y11 := Blk.cell hBx (j := 11) rfl; have y12 := Blk.cell hBx (j := 12) rfl; have y13 := Blk.cell hBx (j := 13) rfl
                  go_wp2_with fail
                  go_fit (HFo.out v1)
                  rw [Hff.out]
                  rintro xx v2 ⟨rfl, hd2⟩
                  have he2 := he1.trans (hd2.mono he1.size)
                  replace hBx := hBx.below hd2
                  clear y0 y1 y2 y3 y4 y5 y6 y7 y8 y9 y10 y11 y12 y13
                  have y0 := Blk.cell hBx (j := 0) rfl; have y1 := Blk.cell hBx (j := 1) rfl; have y2 := Blk.cell hBx (j := 2) rfl; have y3 := Blk.cell hBx (j := 3) rfl; have y4 := Blk.cell hBx (j := 4) rfl; have y5 := Blk.cell hBx (j := 5) rfl; have y6 := Blk.cell hBx (j := 6) rfl; have y7 := Blk.cell hBx (j := 7) rfl; have y8 := Blk.cell hBx (j := 8) rfl; have y9 := Blk.cell hBx (j := 9) rfl; have y10 := Blk.cell hBx (j := 10) rfl; have y11 := Blk.cell hBx (j := 11) rfl; have y12 := Blk.cell hBx (j := 12) rfl; have y13 := Blk.cell hBx (j := 13) rfl
                  go_wp2_with fail
                  go_fit (none24_any pNextEpoch pNextMembersA pNextMembersn pNextMembersc v2)
                  rw [Hng.out]
                  rintro xx v3 ⟨rfl, hd3⟩
                  have he3 := he2.trans (hd3.mono he2.size)
                  replace hBx := hBx.below hd3
                  clear y0 y1 y2 y3 y4 y5 y6 y7 y8 y9 y10 y11 y12 y13
                  have y0 := Blk.cell hBx (j := 0) rfl; have y1 := Blk.cell hBx (j := 1) rfl; have y2 := Blk.cell hBx (j := 2) rfl; have y3 := Blk.cell hBx (j := 3) rfl; have y4 := Blk.cell hBx (j := 4) rfl; have y5 := Blk.cell hBx (j := 5) rfl; have y6 := Blk.cell hBx (j := 6) rfl; have y7 := Blk.cell hBx (j := 7) rfl; have y8 := Blk.cell hBx (j := 8) rfl; have y9 := Blk.cell hBx (j := 9) rfl; have y10 := Blk.cell hBx (j := 10) rfl; have y11 := Blk.cell hBx (j := 11) rfl; have y12 := Blk.cell hBx (j := 12) rfl; have y13 := Blk.cell hBx (j := 13) rfl
                  go_wp2_with fail
                  go_fit (HCn.out v3 he3)
                  rw [HcnR.out]
                  rintro xx v4 ⟨rfl, hd4⟩
                  have he4 := he3.trans (hd4.mono he3.size)
                  replace hBx := hBx.below hd4
                  clear y0 y1 y2 y3 y4 y5 y6 y7 y8 y9 y10 y11 y12 y13
                  have y0 := Blk.cell hBx (j := 0) rfl; have y1 := Blk.cell hBx (j := 1) rfl; have y2 := Blk.cell hBx (j := 2) rfl; have y3 := Blk.cell hBx (j := 3) rfl; have y4 := Blk.cell hBx (j := 4) rfl; have y5 := Blk.cell hBx (j := 5) rfl; have y6 := Blk.cell hBx (j := 6) rfl; have y7 := Blk.cell hBx (j := 7) rfl; have y8 := Blk.cell hBx (j := 8) rfl; have y9 := Blk.cell hBx (j := 9) rfl; have y10 := Blk.cell hBx (j := 10) rfl; have y11 := Blk.cell hBx (j := 11) rfl; have y12 := Blk.cell hBx (j := 12) rfl; have y13 := Blk.cell hBx (j := 13) rfl
                  go_wp2_with fail
                  go_fit (HCg.out v4 he4)
                  rw [HcgR.out]
                  rintro xx v5 ⟨rfl, hd5⟩
                  have he5 := he4.trans (hd5.mono he4.size)
                  replace hBx := hBx.below hd5
                  clear y0 y1 y2 y3 y4 y5 y6 y7 y8 y9 y10 y11 y12 y13
                  have y0 := Blk.cell hBx (j := 0) rfl; have y1 := Blk.cell hBx (j := 1) rfl; have y2 := Blk.cell hBx (j := 2) rfl; have y3 := Blk.cell hBx (j := 3) rfl; have y4 := Blk.cell hBx (j := 4) rfl; have y5 := Blk.cell hBx (j := 5) rfl; have y6 := Blk.cell hBx (j := 6) rfl; have y7 := Blk.cell hBx (j := 7) rfl; have y8 := Blk.cell hBx (j := 8) rfl; have y9 := Blk.cell hBx (j := 9) rfl; have y10 := Blk.cell hBx (j := 10) rfl; have y11 := Blk.cell hBx (j := 11) rfl; have y12 := Blk.cell hBx (j := 12) rfl; have y13 := Blk.cell hBx (j := 13) rfl
                  go_wp2
                  go_ret
                  exact ⟨by rw [HR.out]; rfl, hbw.trans (he5.mono hbw.size)⟩

              | false =>
                have HcnR := hide (chk_bad Hkn.out)
                have HR := hide (prE_no (show prB (pID, (pGroupEpoch, pGroupMembers), pView, pSerial, true, (pOpKind, pOpAt, pOpN, pOpData, pOpOld), (pNextEpoch, pNextMembers), pQuiet) = false by rw [HV.out]; simp [Hrb.out, Hd1.out, Hq.out]))
                go_wp2_with fail
                go_fit (HSm.out wr he0)
                rw [Hno.out]
                rintro xx v0 ⟨rfl, hd0⟩
                have he0 := he0.trans (hd0.mono he0.size)
                replace hBx := hBx.below hd0
                clear y0 y1 y2 y3 y4 y5 y6 y7 y8 y9 y10 y11 y12 y13
                have y0 := Blk.cell hBx (j := 0) rfl; have y1 := Blk.cell hBx (j := 1) rfl; have y2 := Blk.cell hBx (j := 2) rfl; have y3 := Blk.cell hBx (j := 3) rfl; have y4 := Blk.cell hBx (j := 4) rfl; have y5 := Blk.cell hBx (j := 5) rfl; have y6 := Blk.cell hBx (j := 6) rfl; have y7 := Blk.cell hBx (j := 7) rfl; have y8 := Blk.cell hBx (j := 8) rfl; have y9 := Blk.cell hBx (j := 9) rfl; have y10 := Blk.cell hBx (j := 10) rfl; have y11 := Blk.cell hBx (j := 11) rfl; have y12 := Blk.cell hBx (j := 12) rfl; have y13 := Blk.cell hBx (j := 13) rfl
                go_wp2_with fail
                go_fit (none24_any pNextEpoch pNextMembersA pNextMembersn pNextMembersc v0)
                rw [Hng.out]
                rintro xx v1 ⟨rfl, hd1⟩
                have he1 := he0.trans (hd1.mono he0.size)
                replace hBx := hBx.below hd1
                clear y0 y1 y2 y3 y4 y5 y6 y7 y8 y9 y10 y11 y12 y13
                have y0 := Blk.cell hBx (j := 0) rfl; have y1 := Blk.cell hBx (j := 1) rfl; have y2 := Blk.cell hBx (j := 2) rfl; have y3 := Blk.cell hBx (j := 3) rfl; have y4 := Blk.cell hBx (j := 4) rfl; have y5 := Blk.cell hBx (j := 5) rfl; have y6 := Blk.cell hBx (j := 6) rfl; have y7 := Blk.cell hBx (j := 7) rfl; have y8 := Blk.cell hBx (j := 8) rfl; have y9 := Blk.cell hBx (j := 9) rfl; have y10 := Blk.cell hBx (j := 10) rfl; have y11 := Blk.cell hBx (j := 11) rfl; have y12 := Blk.cell hBx (j := 12) rfl; have y13 := Blk.cell hBx (j := 13) rfl
                go_wp2_with fail
                go_fit (HFo.out v1)
                rw [Hff.out]
                rintro xx v2 ⟨rfl, hd2⟩
                have he2 := he1.trans (hd2.mono he1.size)
                replace hBx := hBx.below hd2
                clear y0 y1 y2 y3 y4 y5 y6 y7 y8 y9 y10 y11 y12 y13
                have y0 := Blk.cell hBx (j := 0) rfl; have y1 := Blk.cell hBx (j := 1) rfl; have y2 := Blk.cell hBx (j := 2) rfl; have y3 := Blk.cell hBx (j := 3) rfl; have y4 := Blk.cell hBx (j := 4) rfl; have y5 := Blk.cell hBx (j := 5) rfl; have y6 := Blk.cell hBx (j := 6) rfl; have y7 := Blk.cell hBx (j := 7) rfl; have y8 := Blk.cell hBx (j := 8) rfl; have y9 := Blk.cell hBx (j := 9) rfl; have y10 := Blk.cell hBx (j := 10) rfl; have y11 := Blk.cell hBx (j := 11) rfl; have y12 := Blk.cell hBx (j := 12) rfl; have y13 := Blk.cell hBx (j := 13) rfl
                go_wp2_with fail
                go_fit (none24_any pNextEpoch pNextMembersA pNextMembersn pNextMembersc v2)
                rw [Hng.out]
                rintro xx v3 ⟨rfl, hd3⟩
                have he3 := he2.trans (hd3.mono he2.size)
                replace hBx := hBx.below hd3
                clear y0 y1 y2 y3 y4 y5 y6 y7 y8 y9 y10 y11 y12 y13
                have y0 := Blk.cell hBx (j := 0) rfl; have y1 := Blk.cell hBx (j := 1) rfl; have y2 := Blk.cell hBx (j := 2) rfl; have y3 := Blk.cell hBx (j := 3) rfl; have y4 := Blk.cell hBx (j := 4) rfl; have y5 := Blk.cell hBx (j := 5) rfl; have y6 := Blk.cell hBx (j := 6) rfl; have y7 := Blk.cell hBx (j := 7) rfl; have y8 := Blk.cell hBx (j := 8) rfl; have y9 := Blk.cell hBx (j := 9) rfl; have y10 := Blk.cell hBx (j := 10) rfl; have y11 := Blk.cell hBx (j := 11) rfl; have y12 := Blk.cell hBx (j := 12) rfl; have y13 := Blk.cell hBx (j := 13) rfl
                go_wp2_with fail
                go_fit (HCn.out v3 he3)
                rw [HcnR.out]
                rintro xx v4 ⟨rfl, hd4⟩
                have he4 := he3.trans (hd4.mono he3.size)
                replace hBx := hBx.below hd4
                clear y0 y1 y2 y3 y4 y5 y6 y7 y8 y9 y10 y11 y12 y13
                have y0 := Blk.cell hBx (j := 0) rfl; have y1 := Blk.cell hBx (j := 1) rfl; have y2 := Blk.cell hBx (j := 2) rfl; have y3 := Blk.cell hBx (j := 3) rfl; have y4 := Blk.cell hBx (j := 4) rfl; have y5 := Blk.cell hBx (j := 5) rfl; have y6 := Blk.cell hBx (j := 6) rfl; have y7 := Blk.cell hBx (j := 7) rfl; have y8 := Blk.cell hBx (j := 8) rfl; have y9 := Blk.cell hBx (j := 9) rfl; have y10 := Blk.cell hBx (j := 10) rfl; have y11 := Blk.cell hBx (j := 11) rfl; have y12 := Blk.cell hBx (j := 12) rfl; have y13 := Blk.cell hBx (j := 13) rfl
                go_wp2
                go_ret
                exact ⟨by rw [HR.out]; rfl, hbw.trans (he4.mono hbw.size)⟩

        · have Hq := hide q
          cases n1 with
          | false =>
            have HR := hide (prE_no (show prB (pID, (pGroupEpoch, pGroupMembers), pView, pSerial, true, (pOpKind, pOpAt, pOpN, pOpData, pOpOld), (pNextEpoch, pNextMembers), pQuiet) = false by rw [HV.out]; simp [Hrb.out, Hd1.out, Hq.out]))
            go_wp2_with fail
            go_fit (HSm.out wr he0)
            rw [Hno.out]
            rintro xx v0 ⟨rfl, hd0⟩
            have he0 := he0.trans (hd0.mono he0.size)
            replace hBx := hBx.below hd0
            clear y0 y1 y2 y3 y4 y5 y6 y7 y8 y9 y10 y11 y12 y13
            have y0 := Blk.cell hBx (j := 0) rfl; have y1 := Blk.cell hBx (j := 1) rfl; have y2 := Blk.cell hBx (j := 2) rfl; have y3 := Blk.cell hBx (j := 3) rfl; have y4 := Blk.cell hBx (j := 4) rfl; have y5 := Blk.cell hBx (j := 5) rfl; have y6 := Blk.cell hBx (j := 6) rfl; have y7 := Blk.cell hBx (j := 7) rfl; have y8 := Blk.cell hBx (j := 8) rfl; have y9 := Blk.cell hBx (j := 9) rfl; have y10 := Blk.cell hBx (j := 10) rfl; have y11 := Blk.cell hBx (j := 11) rfl; have y12 := Blk.cell hBx (j := 12) rfl; have y13 := Blk.cell hBx (j := 13) rfl
            go_wp2_with fail
            go_fit (HFo.out v0)
            rw [Hff.out]
            rintro xx v1 ⟨rfl, hd1⟩
            have he1 := he0.trans (hd1.mono he0.size)
            replace hBx := hBx.below hd1
            clear y0 y1 y2 y3 y4 y5 y6 y7 y8 y9 y10 y11 y12 y13
            have y0 := Blk.cell hBx (j := 0) rfl; have y1 := Blk.cell hBx (j := 1) rfl; have y2 := Blk.cell hBx (j := 2) rfl; have y3 := Blk.cell hBx (j := 3) rfl; have y4 := Blk.cell hBx (j := 4) rfl; have y5 := Blk.cell hBx (j := 5) rfl; have y6 := Blk.cell hBx (j := 6) rfl; have y7 := Blk.cell hBx (j := 7) rfl; have y8 := Blk.cell hBx (j := 8) rfl; have y9 := Blk.cell hBx (j := 9) rfl; have y10 := Blk.cell hBx (j := 10) rfl; have y11 := Blk.cell hBx (j := 11) rfl; have y12 := Blk.cell hBx (j := 12) rfl; have y13 := Blk.cell hBx (j := 13) rfl
            go_wp2
            go_ret
            exact ⟨by rw [HR.out]; rfl, hbw.trans (he1.mono hbw.size)⟩

          | true =>
            cases kn with
            | true =>
              have HcnR := hide (chk_ok Hkn.out)
              rcases bool_two (decide (pID < 1)) with d2 | d2
              · have HcI := hide (show serB pID = false from decide_eq_false (by have := of_decide_eq_true d2; omega))
                have HR := hide (prE_no (show prB (pID, (pGroupEpoch, pGroupMembers), pView, pSerial, true, (pOpKind, pOpAt, pOpN, pOpData, pOpOld), (pNextEpoch, pNextMembers), pQuiet) = false by rw [HV.out]; simp [HcI.out]))
                go_wp2_with fail
                go_fit (HSm.out wr he0)
                rw [Hno.out]
                rintro xx v0 ⟨rfl, hd0⟩
                have he0 := he0.trans (hd0.mono he0.size)
                replace hBx := hBx.below hd0
                clear y0 y1 y2 y3 y4 y5 y6 y7 y8 y9 y10 y11 y12 y13
                have y0 := Blk.cell hBx (j := 0) rfl; have y1 := Blk.cell hBx (j := 1) rfl; have y2 := Blk.cell hBx (j := 2) rfl; have y3 := Blk.cell hBx (j := 3) rfl; have y4 := Blk.cell hBx (j := 4) rfl; have y5 := Blk.cell hBx (j := 5) rfl; have y6 := Blk.cell hBx (j := 6) rfl; have y7 := Blk.cell hBx (j := 7) rfl; have y8 := Blk.cell hBx (j := 8) rfl; have y9 := Blk.cell hBx (j := 9) rfl; have y10 := Blk.cell hBx (j := 10) rfl; have y11 := Blk.cell hBx (j := 11) rfl; have y12 := Blk.cell hBx (j := 12) rfl; have y13 := Blk.cell hBx (j := 13) rfl
                go_wp2_with fail
                go_fit (none24_any pNextEpoch pNextMembersA pNextMembersn pNextMembersc v0)
                rw [Hng.out]
                rintro xx v1 ⟨rfl, hd1⟩
                have he1 := he0.trans (hd1.mono he0.size)
                replace hBx := hBx.below hd1
                clear y0 y1 y2 y3 y4 y5 y6 y7 y8 y9 y10 y11 y12 y13
                have y0 := Blk.cell hBx (j := 0) rfl; have y1 := Blk.cell hBx (j := 1) rfl; have y2 := Blk.cell hBx (j := 2) rfl; have y3 := Blk.cell hBx (j := 3) rfl; have y4 := Blk.cell hBx (j := 4) rfl; have y5 := Blk.cell hBx (j := 5) rfl; have y6 := Blk.cell hBx (j := 6) rfl; have y7 := Blk.cell hBx (j := 7) rfl; have y8 := Blk.cell hBx (j := 8) rfl; have y9 := Blk.cell hBx (j := 9) rfl; have y10 := Blk.cell hBx (j := 10) rfl; have y11 := Blk.cell hBx (j := 11) rfl; have y12 := Blk.cell hBx (j := 12) rfl; have y13 := Blk.cell hBx (j := 13) rfl
                go_wp2_with fail
                go_fit (HFo.out v1)
                rw [Hff.out]
                rintro xx v2 ⟨rfl, hd2⟩
                have he2 := he1.trans (hd2.mono he1.size)
                replace hBx := hBx.below hd2
                clear y0 y1 y2 y3 y4 y5 y6 y7 y8 y9 y10 y11 y12 y13
                have y0 := Blk.cell hBx (j := 0) rfl; have y1 := Blk.cell hBx (j := 1) rfl; have y2 := Blk.cell hBx (j := 2) rfl; have y3 := Blk.cell hBx (j := 3) rfl; have y4 := Blk.cell hBx (j := 4) rfl; have y5 := Blk.cell hBx (j := 5) rfl; have y6 := Blk.cell hBx (j := 6) rfl; have y7 := Blk.cell hBx (j := 7) rfl; have y8 := Blk.cell hBx (j := 8) rfl; have y9 := Blk.cell hBx (j := 9) rfl; have y10 := Blk.cell hBx (j := 10) rfl; have y11 := Blk.cell hBx (j := 11) rfl; have y12 := Blk.cell hBx (j := 12) rfl; have y13 := Blk.cell hBx (j := 13) rfl
                go_wp2_with fail
                go_fit (HCn.out v2 he2)
                rw [HcnR.out]
                rintro xx v3 ⟨rfl, hd3⟩
                have he3 := he2.trans (hd3.mono he2.size)
                replace hBx := hBx.below hd3
                clear y0 y1 y2 y3 y4 y5 y6 y7 y8 y9 y10 y11 y12 y13
                have y0 := Blk.cell hBx (j := 0) rfl; have y1 := Blk.cell hBx (j := 1) rfl; have y2 := Blk.cell hBx (j := 2) rfl; have y3 := Blk.cell hBx (j := 3) rfl; have y4 := Blk.cell hBx (j := 4) rfl; have y5 := Blk.cell hBx (j := 5) rfl; have y6 := Blk.cell hBx (j := 6) rfl; have y7 := Blk.cell hBx (j := 7) rfl; have y8 := Blk.cell hBx (j := 8) rfl; have y9 := Blk.cell hBx (j := 9) rfl; have y10 := Blk.cell hBx (j := 10) rfl; have y11 := Blk.cell hBx (j := 11) rfl; have y12 := Blk.cell hBx (j := 12) rfl; have y13 := Blk.cell hBx (j := 13) rfl
                go_wp2
                go_ret
                exact ⟨by rw [HR.out]; rfl, hbw.trans (he3.mono hbw.size)⟩

              rcases bool_two (decide (4611686018427387904 < pID)) with d3 | d3
              · have HcI := hide (show serB pID = false from decide_eq_false (by have := of_decide_eq_true d3; omega))
                have HR := hide (prE_no (show prB (pID, (pGroupEpoch, pGroupMembers), pView, pSerial, true, (pOpKind, pOpAt, pOpN, pOpData, pOpOld), (pNextEpoch, pNextMembers), pQuiet) = false by rw [HV.out]; simp [HcI.out]))
                go_wp2_with fail
                go_fit (HSm.out wr he0)
                rw [Hno.out]
                rintro xx v0 ⟨rfl, hd0⟩
                have he0 := he0.trans (hd0.mono he0.size)
                replace hBx := hBx.below hd0
                clear y0 y1 y2 y3 y4 y5 y6 y7 y8 y9 y10 y11 y12 y13
                have y0 := Blk.cell hBx (j := 0) rfl; have y1 := Blk.cell hBx (j := 1) rfl; have y2 := Blk.cell hBx (j := 2) rfl; have y3 := Blk.cell hBx (j := 3) rfl; have y4 := Blk.cell hBx (j := 4) rfl; have y5 := Blk.cell hBx (j := 5) rfl; have y6 := Blk.cell hBx (j := 6) rfl; have y7 := Blk.cell hBx (j := 7) rfl; have y8 := Blk.cell hBx (j := 8) rfl; have y9 := Blk.cell hBx (j := 9) rfl; have y10 := Blk.cell hBx (j := 10) rfl; have y11 := Blk.cell hBx (j := 11) rfl; have y12 := Blk.cell hBx (j := 12) rfl; have y13 := Blk.cell hBx (j := 13) rfl
                go_wp2_with fail
                go_fit (none24_any pNextEpoch pNextMembersA pNextMembersn pNextMembersc v0)
                rw [Hng.out]
                rintro xx v1 ⟨rfl, hd1⟩
                have he1 := he0.trans (hd1.mono he0.size)
                replace hBx := hBx.below hd1
                clear y0 y1 y2 y3 y4 y5 y6 y7 y8 y9 y10 y11 y12 y13
                have y0 := Blk.cell hBx (j := 0) rfl; have y1 := Blk.cell hBx (j := 1) rfl; have y2 := Blk.cell hBx (j := 2) rfl; have y3 := Blk.cell hBx (j := 3) rfl; have y4 := Blk.cell hBx (j := 4) rfl; have y5 := Blk.cell hBx (j := 5) rfl; have y6 := Blk.cell hBx (j := 6) rfl; have y7 := Blk.cell hBx (j := 7) rfl; have y8 := Blk.cell hBx (j := 8) rfl; have y9 := Blk.cell hBx (j := 9) rfl; have y10 := Blk.cell hBx (j := 10) rfl; have y11 := Blk.cell hBx (j := 11) rfl; have y12 := Blk.cell hBx (j := 12) rfl; have y13 := Blk.cell hBx (j := 13) rfl
                go_wp2_with fail
                go_fit (HFo.out v1)
                rw [Hff.out]
                rintro xx v2 ⟨rfl, hd2⟩
                have he2 := he1.trans (hd2.mono he1.size)
                replace hBx := hBx.below hd2
                clear y0 y1 y2 y3 y4 y5 y6 y7 y8 y9 y10 y11 y12 y13
                have y0 := Blk.cell hBx (j := 0) rfl; have y1 := Blk.cell hBx (j := 1) rfl; have y2 := Blk.cell hBx (j := 2) rfl; have y3 := Blk.cell hBx (j := 3) rfl; have y4 := Blk.cell hBx (j := 4) rfl; have y5 := Blk.cell hBx (j := 5) rfl; have y6 := Blk.cell hBx (j := 6) rfl; have y7 := Blk.cell hBx (j := 7) rfl; have y8 := Blk.cell hBx (j := 8) rfl; have y9 := Blk.cell hBx (j := 9) rfl; have y10 := Blk.cell hBx (j := 10) rfl; have y11 := Blk.cell hBx (j := 11) rfl; have y12 := Blk.cell hBx (j := 12) rfl; have y13 := Blk.cell hBx (j := 13) rfl
                go_wp2_with fail
                go_fit (HCn.out v2 he2)
                rw [HcnR.out]
                rintro xx v3 ⟨rfl, hd3⟩
                have he3 := he2.trans (hd3.mono he2.size)
                replace hBx := hBx.below hd3
                clear y0 y1 y2 y3 y4 y5 y6 y7 y8 y9 y10 y11 y12 y13
                have y0 := Blk.cell hBx (j := 0) rfl; have y1 := Blk.cell hBx (j := 1) rfl; have y2 := Blk.cell hBx (j := 2) rfl; have y3 := Blk.cell hBx (j := 3) rfl; have y4 := Blk.cell hBx (j := 4) rfl; have y5 := Blk.cell hBx (j := 5) rfl; have y6 := Blk.cell hBx (j := 6) rfl; have y7 := Blk.cell hBx (j := 7) rfl; have y8 := Blk.cell hBx (j := 8) rfl; have y9 := Blk.cell hBx (j := 9) rfl; have y10 := Blk.cell hBx (j := 10) rfl; have y11 := Blk.cell hBx (j := 11) rfl; have y12 := Blk.cell hBx (j := 12) rfl; have y13 := Blk.cell hBx (j := 13) rfl
                go_wp2
                go_ret
                exact ⟨by rw [HR.out]; rfl, hbw.trans (he3.mono hbw.size)⟩

              have HcI := hide (show serB pID = true from decide_eq_true (by have := of_decide_eq_false d2; have := of_decide_eq_false d3; omega))
              cases kg with
              | true =>
                have HcgR := hide (chk_ok Hkg.out)
                have HR := hide (prE_ok (show prB (pID, (pGroupEpoch, pGroupMembers), pView, pSerial, true, (pOpKind, pOpAt, pOpN, pOpData, pOpOld), (pNextEpoch, pNextMembers), pQuiet) = true by rw [HV.out]; simp [HcI.out, Hc3.out, Hc4.out, Hc5.out, Hrb.out, Hd1.out, Hq.out]))
                go_wp2_with fail
                go_fit (HSm.out wr he0)
                rw [Hno.out]
                rintro xx v0 ⟨rfl, hd0⟩
                have he0 := he0.trans (hd0.mono he0.size)
                replace hBx := hBx.below hd0
                clear y0 y1 y2 y3 y4 y5 y6 y7 y8 y9 y10 y11 y12 y13
                have y0 := Blk.cell hBx (j := 0) rfl; have y1 := Blk.cell hBx (j := 1) rfl; have y2 := Blk.cell hBx (j := 2) rfl; have y3 := Blk.cell hBx (j := 3) rfl; have y4 := Blk.cell hBx (j := 4) rfl; have y5 := Blk.cell hBx (j := 5) rfl; have y6 := Blk.cell hBx (j := 6) rfl; have y7 := Blk.cell hBx (j := 7) rfl; have y8 := Blk.cell hBx (j := 8) rfl; have y9 := Blk.cell hBx (j := 9) rfl; have y10 := Blk.cell hBx (j := 10) rfl; have y11 := Blk.cell hBx (j := 11) rfl; have y12 := Blk.cell hBx (j := 12) rfl; have y13 := Blk.cell hBx (j := 13) rfl
                go_wp2_with fail
                go_fit (none24_any pNextEpoch pNextMembersA pNextMembersn pNextMembersc v0)
                rw [Hng.out]
                rintro xx v1 ⟨rfl, hd1⟩
                have he1 := he0.trans (hd1.mono he0.size)
                replace hBx := hBx.below hd1
                clear y0 y1 y2 y3 y4 y5 y6 y7 y8 y9 y10 y11 y12 y13
                have y0 := Blk.cell hBx (j := 0) rfl; have y1 := Blk.cell hBx (j := 1) rfl; have y2 := Blk.cell hBx (j := 2) rfl; have y3 := Blk.cell hBx (j := 3) rfl; have y4 := Blk.cell hBx (j := 4) rfl; have y5 := Blk.cell hBx (j := 5) rfl; have y6 := Blk.cell hBx (j := 6) rfl; have y7 := Blk.cell hBx (j := 7) rfl; have y8 := Blk.cell hBx (j := 8) rfl; have y9 := Blk.cell hBx (j := 9) rfl; have y10 := Blk.cell hBx (j := 10) rfl; have y11 := Blk.cell hBx (j := 11) rfl; have y12 := Blk.cell hBx (j := 12) rfl; have y13 := Blk.cell hBx (j := 13) rfl
                go_wp2_with fail
                go_fit (HFo.out v1)
                rw [Hff.out]
                rintro xx v2 ⟨rfl, hd2⟩
                have he2 := he1.trans (hd2.mono he1.size)
                replace hBx := hBx.below hd2
                clear y0 y1 y2 y3 y4 y5 y6 y7 y8 y9 y10 y11 y12 y13
                have y0 := Blk.cell hBx (j := 0) rfl; have y1 := Blk.cell hBx (j := 1) rfl; have y2 := Blk.cell hBx (j := 2) rfl; have y3 := Blk.cell hBx (j := 3) rfl; have y4 := Blk.cell hBx (j := 4) rfl; have y5 := Blk.cell hBx (j := 5) rfl; have y6 := Blk.cell hBx (j := 6) rfl; have y7 := Blk.cell hBx (j := 7) rfl; have y8 := Blk.cell hBx (j := 8) rfl; have y9 := Blk.cell hBx (j := 9) rfl; have y10 := Blk.cell hBx (j := 10) rfl; have y11 := Blk.cell hBx (j := 11) rfl; have y12 := Blk.cell hBx (j := 12) rfl; have y13 := Blk.cell hBx (j := 13) rfl
                go_wp2_with fail
                go_fit (HCn.out v2 he2)
                rw [HcnR.out]
                rintro xx v3 ⟨rfl, hd3⟩
                have he3 := he2.trans (hd3.mono he2.size)
                replace hBx := hBx.below hd3
                clear y0 y1 y2 y3 y4 y5 y6 y7 y8 y9 y10 y11 y12 y13
                have y0 := Blk.cell hBx (j := 0) rfl; have y1 := Blk.cell hBx (j := 1) rfl; have y2 := Blk.cell hBx (j := 2) rfl; have y3 := Blk.cell hBx (j := 3) rfl; have y4 := Blk.cell hBx (j := 4) rfl; have y5 := Blk.cell hBx (j := 5) rfl; have y6 := Blk.cell hBx (j := 6) rfl; have y7 := Blk.cell hBx (j := 7) rfl; have y8 := Blk.cell hBx (j := 8) rfl; have y9 := Blk.cell hBx (j := 9) rfl; have y10 := Blk.cell hBx (j := 10) rfl; have y11 := Blk.cell hBx (j := 11) rfl; have y12 := Blk.cell hBx (j := 12) rfl; have y13 := Blk.cell hBx (j := 13) rfl
                go_wp2_with fail
                go_fit (HCg.out v3 he3)
                rw [HcgR.out]
                rintro xx v4 ⟨rfl, hd4⟩
                have he4 := he3.trans (hd4.mono he3.size)
                replace hBx := hBx.below hd4
                clear y0 y1 y2 y3 y4 y5 y6 y7 y8 y9 y10 y11 y12 y13
                have y0 := Blk.cell hBx (j := 0) rfl; have y1 := Blk.cell hBx (j := 1) rfl; have y2 := Blk.cell hBx (j := 2) rfl; have y3 := Blk.cell hBx (j := 3) rfl; have y4 := Blk.cell hBx (j := 4) rfl; have y5 := Blk.cell hBx (j := 5) rfl; have y6 := Blk.cell hBx (j := 6) rfl; have y7 := Blk.cell hBx (j := 7) rfl; have y8 := Blk.cell hBx (j := 8) rfl; have y9 := Blk.cell hBx (j := 9) rfl; have y10 := Blk.cell hBx (j := 10) rfl; have y11 := Blk.cell hBx (j := 11) rfl; have y12 := Blk.cell hBx (j := 12) rfl; have y13 := Blk.cell hBx (j := 13) rfl
                go_wp2
                go_ret
                exact ⟨by rw [HR.out]; rfl, hbw.trans (he4.mono hbw.size)⟩

              | false =>
                have HcgR := hide (chk_bad Hkg.out)
                have HR := hide (prE_no (show prB (pID, (pGroupEpoch, pGroupMembers), pView, pSerial, true, (pOpKind, pOpAt, pOpN, pOpData, pOpOld), (pNextEpoch, pNextMembers), pQuiet) = false by rw [HV.out]; simp [HcI.out]))
                go_wp2_with fail
                go_fit (HSm.out wr he0)
                rw [Hno.out]
                rintro xx v0 ⟨rfl, hd0⟩
                have he0 := he0.trans (hd0.mono he0.size)
                replace hBx := hBx.below hd0
                clear y0 y1 y2 y3 y4 y5 y6 y7 y8 y9 y10 y11 y12 y13
                have y0 := Blk.cell hBx (j := 0) rfl; have y1 := Blk.cell hBx (j := 1) rfl; have y2 := Blk.cell hBx (j := 2) rfl; have y3 := Blk.cell hBx (j := 3) rfl; have y4 := Blk.cell hBx (j := 4) rfl; have y5 := Blk.cell hBx (j := 5) rfl; have y6 := Blk.cell hBx (j := 6) rfl; have y7 := Blk.cell hBx (j := 7) rfl; have y8 := Blk.cell hBx (j := 8) rfl; have y9 := Blk.cell hBx (j := 9) rfl; have y10 := Blk.cell hBx (j := 10) rfl; have y11 := Blk.cell hBx (j := 11) rfl; have y12 := Blk.cell hBx (j := 12) rfl; have y13 := Blk.cell hBx (j := 13) rfl
                go_wp2_with fail
                go_fit (none24_any pNextEpoch pNextMembersA pNextMembersn pNextMembersc v0)
                rw [Hng.out]
                rintro xx v1 ⟨rfl, hd1⟩
                have he1 := he0.trans (hd1.mono he0.size)
                replace hBx := hBx.below hd1
                clear y0 y1 y2 y3 y4 y5 y6 y7 y8 y9 y10 y11 y12 y13
                have y0 := Blk.cell hBx (j := 0) rfl; have y1 := Blk.cell hBx (j := 1) rfl; have y2 := Blk.cell hBx (j := 2) rfl; have y3 := Blk.cell hBx (j := 3) rfl; have y4 := Blk.cell hBx (j := 4) rfl; have y5 := Blk.cell hBx (j := 5) rfl; have y6 := Blk.cell hBx (j := 6) rfl; have y7 := Blk.cell hBx (j := 7) rfl; have y8 := Blk.cell hBx (j := 8) rfl; have y9 := Blk.cell hBx (j := 9) rfl; have y10 := Blk.cell hBx (j := 10) rfl; have y11 := Blk.cell hBx (j := 11) rfl; have y12 := Blk.cell hBx (j := 12) rfl; have y13 := Blk.cell hBx (j := 13) rfl
                go_wp2_with fail
                go_fit (HFo.out v1)
                rw [Hff.out]
                rintro xx v2 ⟨rfl, hd2⟩
                have he2 := he1.trans (hd2.mono he1.size)
                replace hBx := hBx.below hd2
                clear y0 y1 y2 y3 y4 y5 y6 y7 y8 y9 y10 y11 y12 y13
                have y0 := Blk.cell hBx (j := 0) rfl; have y1 := Blk.cell hBx (j := 1) rfl; have y2 := Blk.cell hBx (j := 2) rfl; have y3 := Blk.cell hBx (j := 3) rfl; have y4 := Blk.cell hBx (j := 4) rfl; have y5 := Blk.cell hBx (j := 5) rfl; have y6 := Blk.cell hBx (j := 6) rfl; have y7 := Blk.cell hBx (j := 7) rfl; have y8 := Blk.cell hBx (j := 8) rfl; have y9 := Blk.cell hBx (j := 9) rfl; have y10 := Blk.cell hBx (j := 10) rfl; have y11 := Blk.cell hBx (j := 11) rfl; have y12 := Blk.cell hBx (j := 12) rfl; have y13 := Blk.cell hBx (j := 13) rfl
                go_wp2_with fail
                go_fit (HCn.out v2 he2)
                rw [HcnR.out]
                rintro xx v3 ⟨rfl, hd3⟩
                have he3 := he2.trans (hd3.mono he2.size)
                replace hBx := hBx.below hd3
                clear y0 y1 y2 y3 y4 y5 y6 y7 y8 y9 y10 y11 y12 y13
                have y0 := Blk.cell hBx (j := 0) rfl; have y1 := Blk.cell hBx (j := 1) rfl; have y2 := Blk.cell hBx (j := 2) rfl; have y3 := Blk.cell hBx (j := 3) rfl; have y4 := Blk.cell hBx (j := 4) rfl; have y5 := Blk.cell hBx (j := 5) rfl; have y6 := Blk.cell hBx (j := 6) rfl; have y7 := Blk.cell hBx (j := 7) rfl; have y8 := Blk.cell hBx (j := 8) rfl; have y9 := Blk.cell hBx (j := 9) rfl; have y10 := Blk.cell hBx (j := 10) rfl; have y11 := Blk.cell hBx (j := 11) rfl; have y12 := Blk.cell hBx (j := 12) rfl; have y13 := Blk.cell hBx (j := 13) rfl
                go_wp2_with fail
                go_fit (HCg.out v3 he3)
                rw [HcgR.out]
                rintro xx v4 ⟨rfl, hd4⟩
                have he4 := he3.trans (hd4.mono he3.size)
                replace hBx := hBx.below hd4
                clear y0 y1 y2 y3 y4 y5 y6 y7 y8 y9 y10 y11 y12 y13
                have y0 := Blk.cell hBx (j := 0) rfl; have y1 := Blk.cell hBx (j := 1) rfl; have y2 := Blk.cell hBx (j := 2) rfl; have y3 := Blk.cell hBx (j := 3) rfl; have y4 := Blk.cell hBx (j := 4) rfl; have y5 := Blk.cell hBx (j := 5) rfl; have y6 := Blk.cell hBx (j := 6) rfl; have y7 := Blk.cell hBx (j := 7) rfl; have y8 := Blk.cell hBx (j := 8) rfl; have y9 := Blk.cell hBx (j := 9) rfl; have y10 := Blk.cell hBx (j := 10) rfl; have y11 := Blk.cell hBx (j := 11) rfl; have y12 := Blk.cell hBx (j := 12) rfl; have y13 := Blk.cell hBx (j := 13) rfl
                go_wp2
                go_ret
                exact ⟨by rw [HR.out]; rfl, hbw.trans (he4.mono hbw.size)⟩

            | false =>
              have HcnR := hide (chk_bad Hkn.out)
              have HR := hide (prE_no (show prB (pID, (pGroupEpoch, pGroupMembers), pView, pSerial, true, (pOpKind, pOpAt, pOpN, pOpData, pOpOld), (pNextEpoch, pNextMembers), pQuiet) = false by rw [HV.out]; simp [Hrb.out, Hd1.out, Hq.out]))
              go_wp2_with fail
              go_fit (HSm.out wr he0)
              rw [Hno.out]
              rintro xx v0 ⟨rfl, hd0⟩
              have he0 := he0.trans (hd0.mono he0.size)
              replace hBx := hBx.below hd0
              clear y0 y1 y2 y3 y4 y5 y6 y7 y8 y9 y10 y11 y12 y13
              have y0 := Blk.cell hBx (j := 0) rfl; have y1 := Blk.cell hBx (j := 1) rfl; have y2 := Blk.cell hBx (j := 2) rfl; have y3 := Blk.cell hBx (j := 3) rfl; have y4 := Blk.cell hBx (j := 4) rfl; have y5 := Blk.cell hBx (j := 5) rfl; have y6 := Blk.cell hBx (j := 6) rfl; have y7 := Blk.cell hBx (j := 7) rfl; have y8 := Blk.cell hBx (j := 8) rfl; have y9 := Blk.cell hBx (j := 9) rfl; have y10 := Blk.cell hBx (j := 10) rfl; have y11 := Blk.cell hBx (j := 11) rfl; have y12 := Blk.cell hBx (j := 12) rfl; have y13 := Blk.cell hBx (j := 13) rfl
              go_wp2_with fail
              go_fit (none24_any pNextEpoch pNextMembersA pNextMembersn pNextMembersc v0)
              rw [Hng.out]
              rintro xx v1 ⟨rfl, hd1⟩
              have he1 := he0.trans (hd1.mono he0.size)
              replace hBx := hBx.below hd1
              clear y0 y1 y2 y3 y4 y5 y6 y7 y8 y9 y10 y11 y12 y13
              have y0 := Blk.cell hBx (j := 0) rfl; have y1 := Blk.cell hBx (j := 1) rfl; have y2 := Blk.cell hBx (j := 2) rfl; have y3 := Blk.cell hBx (j := 3) rfl; have y4 := Blk.cell hBx (j := 4) rfl; have y5 := Blk.cell hBx (j := 5) rfl; have y6 := Blk.cell hBx (j := 6) rfl; have y7 := Blk.cell hBx (j := 7) rfl; have y8 := Blk.cell hBx (j := 8) rfl; have y9 := Blk.cell hBx (j := 9) rfl; have y10 := Blk.cell hBx (j := 10) rfl; have y11 := Blk.cell hBx (j := 11) rfl; have y12 := Blk.cell hBx (j := 12) rfl; have y13 := Blk.cell hBx (j := 13) rfl
              go_wp2_with fail
              go_fit (HFo.out v1)
              rw [Hff.out]
              rintro xx v2 ⟨rfl, hd2⟩
              have he2 := he1.trans (hd2.mono he1.size)
              replace hBx := hBx.below hd2
              clear y0 y1 y2 y3 y4 y5 y6 y7 y8 y9 y10 y11 y12 y13
              have y0 := Blk.cell hBx (j := 0) rfl; have y1 := Blk.cell hBx (j := 1) rfl; have y2 := Blk.cell hBx (j := 2) rfl; have y3 := Blk.cell hBx (j := 3) rfl; have y4 := Blk.cell hBx (j := 4) rfl; have y5 := Blk.cell hBx (j := 5) rfl; have y6 := Blk.cell hBx (j := 6) rfl; have y7 := Blk.cell hBx (j := 7) rfl; have y8 := Blk.cell hBx (j := 8) rfl; have y9 := Blk.cell hBx (j := 9) rfl; have y10 := Blk.cell hBx (j := 10) rfl; have y11 := Blk.cell hBx (j := 11) rfl; have y12 := Blk.cell hBx (j := 12) rfl; have y13 := Blk.cell hBx (j := 13) rfl
              go_wp2_with fail
              go_fit (HCn.out v2 he2)
              rw [HcnR.out]
              rintro xx v3 ⟨rfl, hd3⟩
              have he3 := he2.trans (hd3.mono he2.size)
              replace hBx := hBx.below hd3
              clear y0 y1 y2 y3 y4 y5 y6 y7 y8 y9 y10 y11 y12 y13
              have y0 := Blk.cell hBx (j := 0) rfl; have y1 := Blk.cell hBx (j := 1) rfl; have y2 := Blk.cell hBx (j := 2) rfl; have y3 := Blk.cell hBx (j := 3) rfl; have y4 := Blk.cell hBx (j := 4) rfl; have y5 := Blk.cell hBx (j := 5) rfl; have y6 := Blk.cell hBx (j := 6) rfl; have y7 := Blk.cell hBx (j := 7) rfl; have y8 := Blk.cell hBx (j := 8) rfl; have y9 := Blk.cell hBx (j := 9) rfl; have y10 := Blk.cell hBx (j := 10) rfl; have y11 := Blk.cell hBx (j := 11) rfl; have y12 := Blk.cell hBx (j := 12) rfl; have y13 := Blk.cell hBx (j := 13) rfl
              go_wp2
              go_ret
              exact ⟨by rw [HR.out]; rfl, hbw.trans (he3.mono hbw.size)⟩


end Go.Proofs.Ytlcbelmbonaooaa
