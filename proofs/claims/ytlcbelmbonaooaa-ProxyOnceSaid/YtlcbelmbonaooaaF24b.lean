/- Stage 24: which clients may be (written by gen_24a.py). -/
import Derived.Test.YtlcbelmbonaooaaF24a
namespace Go.Proofs.Ytlcbelmbonaooaa
set_option maxRecDepth 20000
open Go.RowKit Go.Px Go.Maps
set_option linter.unusedVariables false
set_option linter.unusedSimpArgs false
set_option maxRecDepth 20000 in
set_option maxHeartbeats 25600000 in
theorem mprC_any {w : World} {Q : Nat → Prop} {x : ProxyD} {cs : List Value} (h : tyProxy.Is w Q x cs) : Calls Try.prog 12 #[.agg cs.toArray] w fun e w' => e = .returned (.int .i64 (prE x)) ∧ Below w.heap.size w w' := by
  have h9 := h
  obtain ⟨pID, pGroupEpoch, pGroupMembers, pGroupMembersA, pGroupMembersn, pGroupMembersc, pGroupMembersv, pView, pSerial, pBusy, pOpKind, pOpAt, pOpN, pOpData, pOpDataA, pOpDatan, pOpDatac, pOpOld, pOpOldA, pOpOldn, pOpOldc, pNextEpoch, pNextMembers, pNextMembersA, pNextMembersn, pNextMembersc, pNextMembersv, pQuiet, rfl, rfl, h1_pID, h2_pID, h1_pGroupEpoch, h2_pGroupEpoch, hl_pGroupMembers, hc_pGroupMembers, hm_pGroupMembers, hr_pGroupMembers, hq_pGroupMembers, he_pGroupMembers, h1_pView, h2_pView, h1_pSerial, h2_pSerial, hu_pOpKind, h1_pOpAt, h2_pOpAt, h1_pOpN, h2_pOpN, hl_pOpData, hc_pOpData, hm_pOpData, hr_pOpData, hq_pOpData, hl_pOpOld, hc_pOpOld, hm_pOpOld, hr_pOpOld, hq_pOpOld, h1_pNextEpoch, h2_pNextEpoch, hl_pNextMembers, hc_pNextMembers, hm_pNextMembers, hr_pNextMembers, hq_pNextMembers, he_pNextMembers, h1_pQuiet, h2_pQuiet⟩ := Proxy_out h
  obtain ⟨hmi, _⟩ := i64rows he_pGroupMembers
  subst hmi
  obtain ⟨hmi', _⟩ := i64rows he_pNextMembers
  subst hmi'
  have hO : tyOp.Is w Q (pOpKind, pOpAt, pOpN, pOpData, pOpOld) [.int .u8 pOpKind, .int .i64 pOpAt, .int .i64 pOpN, .slice pOpDataA pOpDatan pOpDatac, .slice pOpOldA pOpOldn pOpOldc] := Op_mk hu_pOpKind h1_pOpAt h2_pOpAt h1_pOpN h2_pOpN hl_pOpData hc_pOpData hm_pOpData hr_pOpData hq_pOpData hl_pOpOld hc_pOpOld hm_pOpOld hr_pOpOld hq_pOpOld
  have hN : tyGroup.Is w Q (pNextEpoch, pNextMembers) [.int .i64 pNextEpoch, .slice pNextMembersA pNextMembersn pNextMembersc] := Group_mk h1_pNextEpoch h2_pNextEpoch hl_pNextMembers hc_pNextMembers hm_pNextMembers hr_pNextMembers hq_pNextMembers he_pNextMembers
  have HAs := hide (fun W (hW : Below w.heap.size w W) => asks_any (hO.below hW) (hN.below hW))
  have HNo := hide (fun W (hW : Below w.heap.size w W) => noOp_any pOpKind pOpAt pOpN pOpDataA pOpDatan pOpDatac pOpData pOpOldA pOpOldn pOpOldc pOpOld W hl_pOpData hl_pOpOld (hr_pOpData.below hW) (hr_pOpOld.below hW))
  have HGr := hide (fun W (hW : Below w.heap.size w W) => mgroup_any pGroupEpoch pGroupMembersA pGroupMembersn pGroupMembersc pGroupMembers W hl_pGroupMembers (hr_pGroupMembers.below hW))
  obtain ⟨a1, ha1⟩ : ∃ b, asksB (pOpKind, pOpAt, pOpN, pOpData, pOpOld) (pNextEpoch, pNextMembers) = b := ⟨_, rfl⟩
  obtain ⟨g1, hg1⟩ : ∃ f, ngB pNextEpoch pNextMembersn = f := ⟨_, rfl⟩
  obtain ⟨n1, hn1⟩ : ∃ f, noB pOpKind pOpAt pOpN pOpData pOpOld = f := ⟨_, rfl⟩
  have Has := hide ha1
  have Hng := hide hg1
  have Hno := hide hn1
  have Hnl := hide hl_pNextMembers
  have HV := hide (show prB (pID, (pGroupEpoch, pGroupMembers), pView, pSerial, pBusy, (pOpKind, pOpAt, pOpN, pOpData, pOpOld), (pNextEpoch, pNextMembers), pQuiet) = (serB pID && (grpOk pGroupEpoch pGroupMembers && (numB pView && (numB pSerial && (numB pQuiet && restB (pID, (pGroupEpoch, pGroupMembers), pView, pSerial, pBusy, (pOpKind, pOpAt, pOpN, pOpData, pOpOld), (pNextEpoch, pNextMembers), pQuiet)))))) from rfl)
  clear hl_pGroupMembers hr_pGroupMembers hq_pGroupMembers he_pGroupMembers hl_pOpData hr_pOpData hq_pOpData hl_pOpOld hr_pOpOld hq_pOpOld hl_pNextMembers hr_pNextMembers hq_pNextMembers he_pNextMembers
  clear ha1 hg1 hn1 hO hN
  obtain ⟨w0, hw0⟩ : ∃ x, w.alloc (.cells #[.int .i64 pID, .int .i64 pGroupEpoch, .slice pGroupMembersA pGroupMembersn pGroupMembersc, .int .i64 pView, .int .i64 pSerial, .bool pBusy, .int .u8 pOpKind, .int .i64 pOpAt, .int .i64 pOpN, .slice pOpDataA pOpDatan pOpDatac, .slice pOpOldA pOpOldn pOpOldc, .int .i64 pNextEpoch, .slice pNextMembersA pNextMembersn pNextMembersc, .int .i64 pQuiet] 30) = x := ⟨_, rfl⟩
  have hBw0 : Blk w0 w.heap.size [.int .i64 pID, .int .i64 pGroupEpoch, .slice pGroupMembersA pGroupMembersn pGroupMembersc, .int .i64 pView, .int .i64 pSerial, .bool pBusy, .int .u8 pOpKind, .int .i64 pOpAt, .int .i64 pOpN, .slice pOpDataA pOpDatan pOpDatac, .slice pOpOldA pOpOldn pOpOldc, .int .i64 pNextEpoch, .slice pNextMembersA pNextMembersn pNextMembersc, .int .i64 pQuiet] 30 := by rw [← hw0]; exact Blk.new w [.int .i64 pID, .int .i64 pGroupEpoch, .slice pGroupMembersA pGroupMembersn pGroupMembersc, .int .i64 pView, .int .i64 pSerial, .bool pBusy, .int .u8 pOpKind, .int .i64 pOpAt, .int .i64 pOpN, .slice pOpDataA pOpDatan pOpDatac, .slice pOpOldA pOpOldn pOpOldc, .int .i64 pNextEpoch, .slice pNextMembersA pNextMembersn pNextMembersc, .int .i64 pQuiet] _
  have hbw0 : Below w.heap.size w w0 := by rw [← hw0]; exact (Below.refl _ _).alloc (Nat.le_refl _) _
  have Hw0 := hide hw0
  clear hw0
  have y0 := Blk.cell hBw0 (j := 0) rfl; have y1 := Blk.cell hBw0 (j := 1) rfl; have y2 := Blk.cell hBw0 (j := 2) rfl; have y3 := Blk.cell hBw0 (j := 3) rfl; have y4 := Blk.cell hBw0 (j := 4) rfl; have y5 := Blk.cell hBw0 (j := 5) rfl; have y6 := Blk.cell hBw0 (j := 6) rfl; have y7 := Blk.cell hBw0 (j := 7) rfl; have y8 := Blk.cell hBw0 (j := 8) rfl; have y9 := Blk.cell hBw0 (j := 9) rfl; have y10 := Blk.cell hBw0 (j := 10) rfl; have y11 := Blk.cell hBw0 (j := 11) rfl; have y12 := Blk.cell hBw0 (j := 12) rfl; have y13 := Blk.cell hBw0 (j := 13) rfl
  rcases bool_two (serB pID) with c1 | c1
  rotate_left
  · have Hc1 := hide c1
    have HR := hide (prE_no (show prB (pID, (pGroupEpoch, pGroupMembers), pView, pSerial, pBusy, (pOpKind, pOpAt, pOpN, pOpData, pOpOld), (pNextEpoch, pNextMembers), pQuiet) = false by rw [HV.out]; simp only [Hc1.out, Bool.true_and, Bool.false_and]))
    clear c1
    cases pBusy with
    | true =>
      go_enter Try.func12, Try.ntmps12
      go_wp2_with fail
      try rw [Hw0.out]
      go_fit (serial_any pID w0)
      rw [Hc1.out]
      rintro xx wz ⟨rfl, rfl⟩
      go_wp2
      go_ret
      exact ⟨by rw [HR.out]; rfl, hbw0⟩

    | false =>
      go_enter Try.func12, Try.ntmps12
      go_wp2_with fail
      try rw [Hw0.out]
      go_fit (serial_any pID w0)
      rw [Hc1.out]
      rintro xx wz ⟨rfl, rfl⟩
      go_wp2
      go_ret
      exact ⟨by rw [HR.out]; rfl, hbw0⟩

  have Hc1 := hide c1
  clear c1
  rcases bool_two (grpOk pGroupEpoch pGroupMembers) with c2 | c2
  rotate_left
  · have Hc2 := hide c2
    have HR := hide (prE_no (show prB (pID, (pGroupEpoch, pGroupMembers), pView, pSerial, pBusy, (pOpKind, pOpAt, pOpN, pOpData, pOpOld), (pNextEpoch, pNextMembers), pQuiet) = false by rw [HV.out]; simp only [Hc1.out, Hc2.out, Bool.true_and, Bool.false_and]))
    clear c2
    cases pBusy with
    | true =>
      go_enter Try.func12, Try.ntmps12
      go_wp2_with fail
      try rw [Hw0.out]
      go_fit (serial_any pID w0)
      rw [Hc1.out]
      rintro xx wz ⟨rfl, rfl⟩
      go_wp2_with fail
      go_fit (HGr.out w0 hbw0)
      rw [Hc2.out]
      rintro xx v1 ⟨rfl, hd1⟩
      have he1 := hbw0.trans (hd1.mono hbw0.size)
      replace hBw0 := hBw0.below hd1
      clear y0 y1 y2 y3 y4 y5 y6 y7 y8 y9 y10 y11 y12 y13
      have y0 := Blk.cell hBw0 (j := 0) rfl; have y1 := Blk.cell hBw0 (j := 1) rfl; have y2 := Blk.cell hBw0 (j := 2) rfl; have y3 := Blk.cell hBw0 (j := 3) rfl; have y4 := Blk.cell hBw0 (j := 4) rfl; have y5 := Blk.cell hBw0 (j := 5) rfl; have y6 := Blk.cell hBw0 (j := 6) rfl; have y7 := Blk.cell hBw0 (j := 7) rfl; have y8 := Blk.cell hBw0 (j := 8) rfl; have y9 := Blk.cell hBw0 (j := 9) rfl; have y10 := Blk.cell hBw0 (j := 10) rfl; have y11 := Blk.cell hBw0 (j := 11) rfl; have y12 := Blk.cell hBw0 (j := 12) rfl; have y13 := Blk.cell hBw0 (j := 13) rfl
      go_wp2
      go_ret
      exact ⟨by rw [HR.out]; rfl, he1⟩

    | false =>
      go_enter Try.func12, Try.ntmps12
      go_wp2_with fail
      try rw [Hw0.out]
      go_fit (serial_any pID w0)
      rw [Hc1.out]
      rintro xx wz ⟨rfl, rfl⟩
      go_wp2_with fail
      go_fit (HGr.out w0 hbw0)
      rw [Hc2.out]
      rintro xx v1 ⟨rfl, hd1⟩
      have he1 := hbw0.trans (hd1.mono hbw0.size)
      replace hBw0 := hBw0.below hd1
      clear y0 y1 y2 y3 y4 y5 y6 y7 y8 y9 y10 y11 y12 y13
      have y0 := Blk.cell hBw0 (j := 0) rfl; have y1 := Blk.cell hBw0 (j := 1) rfl; have y2 := Blk.cell hBw0 (j := 2) rfl; have y3 := Blk.cell hBw0 (j := 3) rfl; have y4 := Blk.cell hBw0 (j := 4) rfl; have y5 := Blk.cell hBw0 (j := 5) rfl; have y6 := Blk.cell hBw0 (j := 6) rfl; have y7 := Blk.cell hBw0 (j := 7) rfl; have y8 := Blk.cell hBw0 (j := 8) rfl; have y9 := Blk.cell hBw0 (j := 9) rfl; have y10 := Blk.cell hBw0 (j := 10) rfl; have y11 := Blk.cell hBw0 (j := 11) rfl; have y12 := Blk.cell hBw0 (j := 12) rfl; have y13 := Blk.cell hBw0 (j := 13) rfl
      go_wp2
      go_ret
      exact ⟨by rw [HR.out]; rfl, he1⟩

  have Hc2 := hide c2
  clear c2
  rcases bool_two (numB pView) with c3 | c3
  rotate_left
  · have Hc3 := hide c3
    have HR := hide (prE_no (show prB (pID, (pGroupEpoch, pGroupMembers), pView, pSerial, pBusy, (pOpKind, pOpAt, pOpN, pOpData, pOpOld), (pNextEpoch, pNextMembers), pQuiet) = false by rw [HV.out]; simp only [Hc1.out, Hc2.out, Hc3.out, Bool.true_and, Bool.false_and]))
    clear c3
    cases pBusy with
    | true =>
      go_enter Try.func12, Try.ntmps12
      go_wp2_with fail
      try rw [Hw0.out]
      go_fit (serial_any pID w0)
      rw [Hc1.out]
      rintro xx wz ⟨rfl, rfl⟩
      go_wp2_with fail
      go_fit (HGr.out w0 hbw0)
      rw [Hc2.out]
      rintro xx v1 ⟨rfl, hd1⟩
      have he1 := hbw0.trans (hd1.mono hbw0.size)
      replace hBw0 := hBw0.below hd1
      clear y0 y1 y2 y3 y4 y5 y6 y7 y8 y9 y10 y11 y12 y13
      have y0 := Blk.cell hBw0 (j := 0) rfl; have y1 := Blk.cell hBw0 (j := 1) rfl; have y2 := Blk.cell hBw0 (j := 2) rfl; have y3 := Blk.cell hBw0 (j := 3) rfl; have y4 := Blk.cell hBw0 (j := 4) rfl; have y5 := Blk.cell hBw0 (j := 5) rfl; have y6 := Blk.cell hBw0 (j := 6) rfl; have y7 := Blk.cell hBw0 (j := 7) rfl; have y8 := Blk.cell hBw0 (j := 8) rfl; have y9 := Blk.cell hBw0 (j := 9) rfl; have y10 := Blk.cell hBw0 (j := 10) rfl; have y11 := Blk.cell hBw0 (j := 11) rfl; have y12 := Blk.cell hBw0 (j := 12) rfl; have y13 := Blk.cell hBw0 (j := 13) rfl
      go_wp2_with fail
      go_fit (number_any pView v1)
      rw [Hc3.out]
      rintro xx wz ⟨rfl, rfl⟩
      go_wp2
      go_ret
      exact ⟨by rw [HR.out]; rfl, he1⟩

    | false =>
      go_enter Try.func12, Try.ntmps12
      go_wp2_with fail
      try rw [Hw0.out]
      go_fit (serial_any pID w0)
      rw [Hc1.out]
      rintro xx wz ⟨rfl, rfl⟩
      go_wp2_with fail
      go_fit (HGr.out w0 hbw0)
      rw [Hc2.out]
      rintro xx v1 ⟨rfl, hd1⟩
      have he1 := hbw0.trans (hd1.mono hbw0.size)
      replace hBw0 := hBw0.below hd1
      clear y0 y1 y2 y3 y4 y5 y6 y7 y8 y9 y10 y11 y12 y13
      have y0 := Blk.cell hBw0 (j := 0) rfl; have y1 := Blk.cell hBw0 (j := 1) rfl; have y2 := Blk.cell hBw0 (j := 2) rfl; have y3 := Blk.cell hBw0 (j := 3) rfl; have y4 := Blk.cell hBw0 (j := 4) rfl; have y5 := Blk.cell hBw0 (j := 5) rfl; have y6 := Blk.cell hBw0 (j := 6) rfl; have y7 := Blk.cell hBw0 (j := 7) rfl; have y8 := Blk.cell hBw0 (j := 8) rfl; have y9 := Blk.cell hBw0 (j := 9) rfl; have y10 := Blk.cell hBw0 (j := 10) rfl; have y11 := Blk.cell hBw0 (j := 11) rfl; have y12 := Blk.cell hBw0 (j := 12) rfl; have y13 := Blk.cell hBw0 (j := 13) rfl
      go_wp2_with fail
      go_fit (number_any pView v1)
      rw [Hc3.out]
      rintro xx wz ⟨rfl, rfl⟩
      go_wp2
      go_ret
      exact ⟨by rw [HR.out]; rfl, he1⟩

  have Hc3 := hide c3
  clear c3
  rcases bool_two (numB pSerial) with c4 | c4
  rotate_left
  · have Hc4 := hide c4
    have HR := hide (prE_no (show prB (pID, (pGroupEpoch, pGroupMembers), pView, pSerial, pBusy, (pOpKind, pOpAt, pOpN, pOpData, pOpOld), (pNextEpoch, pNextMembers), pQuiet) = false by rw [HV.out]; simp only [Hc1.out, Hc2.out, Hc3.out, Hc4.out, Bool.true_and, Bool.false_and]))
    clear c4
    cases pBusy with
    | true =>
      go_enter Try.func12, Try.ntmps12
      go_wp2_with fail
      try rw [Hw0.out]
      go_fit (serial_any pID w0)
      rw [Hc1.out]
      rintro xx wz ⟨rfl, rfl⟩
      go_wp2_with fail
      go_fit (HGr.out w0 hbw0)
      rw [Hc2.out]
      rintro xx v1 ⟨rfl, hd1⟩
      have he1 := hbw0.trans (hd1.mono hbw0.size)
      replace hBw0 := hBw0.below hd1
      clear y0 y1 y2 y3 y4 y5 y6 y7 y8 y9 y10 y11 y12 y13
      have y0 := Blk.cell hBw0 (j := 0) rfl; have y1 := Blk.cell hBw0 (j := 1) rfl; have y2 := Blk.cell hBw0 (j := 2) rfl; have y3 := Blk.cell hBw0 (j := 3) rfl; have y4 := Blk.cell hBw0 (j := 4) rfl; have y5 := Blk.cell hBw0 (j := 5) rfl; have y6 := Blk.cell hBw0 (j := 6) rfl; have y7 := Blk.cell hBw0 (j := 7) rfl; have y8 := Blk.cell hBw0 (j := 8) rfl; have y9 := Blk.cell hBw0 (j := 9) rfl; have y10 := Blk.cell hBw0 (j := 10) rfl; have y11 := Blk.cell hBw0 (j := 11) rfl; have y12 := Blk.cell hBw0 (j := 12) rfl; have y13 := Blk.cell hBw0 (j := 13) rfl
      go_wp2_with fail
      go_fit (number_any pView v1)
      rw [Hc3.out]
      rintro xx wz ⟨rfl, rfl⟩
      go_wp2_with fail
      go_fit (number_any pSerial v1)
      rw [Hc4.out]
      rintro xx wz ⟨rfl, rfl⟩
      go_wp2
      go_ret
      exact ⟨by rw [HR.out]; rfl, he1⟩

    | false =>
      go_enter Try.func12, Try.ntmps12
      go_wp2_with fail
      try rw [Hw0.out]
      go_fit (serial_any pID w0)
      rw [Hc1.out]
      rintro xx wz ⟨rfl, rfl⟩
      go_wp2_with fail
      go_fit (HGr.out w0 hbw0)
      rw [Hc2.out]
      rintro xx v1 ⟨rfl, hd1⟩
      have he1 := hbw0.trans (hd1.mono hbw0.size)
      replace hBw0 := hBw0.below hd1
      clear y0 y1 y2 y3 y4 y5 y6 y7 y8 y9 y10 y11 y12 y13
      have y0 := Blk.cell hBw0 (j := 0) rfl; have y1 := Blk.cell hBw0 (j := 1) rfl; have y2 := Blk.cell hBw0 (j := 2) rfl; have y3 := Blk.cell hBw0 (j := 3) rfl; have y4 := Blk.cell hBw0 (j := 4) rfl; have y5 := Blk.cell hBw0 (j := 5) rfl; have y6 := Blk.cell hBw0 (j := 6) rfl; have y7 := Blk.cell hBw0 (j := 7) rfl; have y8 := Blk.cell hBw0 (j := 8) rfl; have y9 := Blk.cell hBw0 (j := 9) rfl; have y10 := Blk.cell hBw0 (j := 10) rfl; have y11 := Blk.cell hBw0 (j := 11) rfl; have y12 := Blk.cell hBw0 (j := 12) rfl; have y13 := Blk.cell hBw0 (j := 13) rfl
      go_wp2_with fail
      go_fit (number_any pView v1)
      rw [Hc3.out]
      rintro xx wz ⟨rfl, rfl⟩
      go_wp2_with fail
      go_fit (number_any pSerial v1)
      rw [Hc4.out]
      rintro xx wz ⟨rfl, rfl⟩
      go_wp2
      go_ret
      exact ⟨by rw [HR.out]; rfl, he1⟩

  have Hc4 := hide c4
  clear c4
  rcases bool_two (numB pQuiet) with c5 | c5
  rotate_left
  · have Hc5 := hide c5
    have HR := hide (prE_no (show prB (pID, (pGroupEpoch, pGroupMembers), pView, pSerial, pBusy, (pOpKind, pOpAt, pOpN, pOpData, pOpOld), (pNextEpoch, pNextMembers), pQuiet) = false by rw [HV.out]; simp only [Hc1.out, Hc2.out, Hc3.out, Hc4.out, Hc5.out, Bool.true_and, Bool.false_and]))
    clear c5
    cases pBusy with
    | true =>
      go_enter Try.func12, Try.ntmps12
      go_wp2_with fail
      try rw [Hw0.out]
      go_fit (serial_any pID w0)
      rw [Hc1.out]
      rintro xx wz ⟨rfl, rfl⟩
      go_wp2_with fail
      go_fit (HGr.out w0 hbw0)
      rw [Hc2.out]
      rintro xx v1 ⟨rfl, hd1⟩
      have he1 := hbw0.trans (hd1.mono hbw0.size)
      replace hBw0 := hBw0.below hd1
      clear y0 y1 y2 y3 y4 y5 y6 y7 y8 y9 y10 y11 y12 y13
      have y0 := Blk.cell hBw0 (j := 0) rfl; have y1 := Blk.cell hBw0 (j := 1) rfl; have y2 := Blk.cell hBw0 (j := 2) rfl; have y3 := Blk.cell hBw0 (j := 3) rfl; have y4 := Blk.cell hBw0 (j := 4) rfl; have y5 := Blk.cell hBw0 (j := 5) rfl; have y6 := Blk.cell hBw0 (j := 6) rfl; have y7 := Blk.cell hBw0 (j := 7) rfl; have y8 := Blk.cell hBw0 (j := 8) rfl; have y9 := Blk.cell hBw0 (j := 9) rfl; have y10 := Blk.cell hBw0 (j := 10) rfl; have y11 := Blk.cell hBw0 (j := 11) rfl; have y12 := Blk.cell hBw0 (j := 12) rfl; have y13 := Blk.cell hBw0 (j := 13) rfl
      go_wp2_with fail
      go_fit (number_any pView v1)
      rw [Hc3.out]
      rintro xx wz ⟨rfl, rfl⟩
      go_wp2_with fail
      go_fit (number_any pSerial v1)
      rw [Hc4.out]
      rintro xx wz ⟨rfl, rfl⟩
      go_wp2_with fail
      go_fit (number_any pQuiet v1)
      rw [Hc5.out]
      rintro xx wz ⟨rfl, rfl⟩
      go_wp2
      go_ret
      exact ⟨by rw [HR.out]; rfl, he1⟩

    | false =>
      go_enter Try.func12, Try.ntmps12
      go_wp2_with fail
      try rw [Hw0.out]
      go_fit (serial_any pID w0)
      rw [Hc1.out]
      rintro xx wz ⟨rfl, rfl⟩
      go_wp2_with fail
      go_fit (HGr.out w0 hbw0)
      rw [Hc2.out]
      rintro xx v1 ⟨rfl, hd1⟩
      have he1 := hbw0.trans (hd1.mono hbw0.size)
      replace hBw0 := hBw0.below hd1
      clear y0 y1 y2 y3 y4 y5 y6 y7 y8 y9 y10 y11 y12 y13
      have y0 := Blk.cell hBw0 (j := 0) rfl; have y1 := Blk.cell hBw0 (j := 1) rfl; have y2 := Blk.cell hBw0 (j := 2) rfl; have y3 := Blk.cell hBw0 (j := 3) rfl; have y4 := Blk.cell hBw0 (j := 4) rfl; have y5 := Blk.cell hBw0 (j := 5) rfl; have y6 := Blk.cell hBw0 (j := 6) rfl; have y7 := Blk.cell hBw0 (j := 7) rfl; have y8 := Blk.cell hBw0 (j := 8) rfl; have y9 := Blk.cell hBw0 (j := 9) rfl; have y10 := Blk.cell hBw0 (j := 10) rfl; have y11 := Blk.cell hBw0 (j := 11) rfl; have y12 := Blk.cell hBw0 (j := 12) rfl; have y13 := Blk.cell hBw0 (j := 13) rfl
      go_wp2_with fail
      go_fit (number_any pView v1)
      rw [Hc3.out]
      rintro xx wz ⟨rfl, rfl⟩
      go_wp2_with fail
      go_fit (number_any pSerial v1)
      rw [Hc4.out]
      rintro xx wz ⟨rfl, rfl⟩
      go_wp2_with fail
      go_fit (number_any pQuiet v1)
      rw [Hc5.out]
      rintro xx wz ⟨rfl, rfl⟩
      go_wp2
      go_ret
      exact ⟨by rw [HR.out]; rfl, he1⟩

  have Hc5 := hide c5
  clear c5
  cases pBusy with
  | true =>
    have hrest : restB (pID, (pGroupEpoch, pGroupMembers), pView, pSerial, true, (pOpKind, pOpAt, pOpN, pOpData, pOpOld), (pNextEpoch, pNextMembers), pQuiet) = (decide (1 ≤ pSerial) && a1) := by rw [← Has.out]; rfl
    rcases bool_two (decide (1 ≤ pSerial)) with d1 | d1
    · have Hr := hide hrest
      cases a1 with
      | true =>
        have HR := hide (prE_ok (show prB (pID, (pGroupEpoch, pGroupMembers), pView, pSerial, true, (pOpKind, pOpAt, pOpN, pOpData, pOpOld), (pNextEpoch, pNextMembers), pQuiet) = true by rw [HV.out]; simp only [Hc1.out, Hc2.out, Hc3.out, Hc4.out, Hc5.out, Bool.true_and]; rw [Hr.out, d1]; rfl))
        go_enter Try.func12, Try.ntmps12
        go_wp2_with fail
        try rw [Hw0.out]
        go_fit (serial_any pID w0)
        rw [Hc1.out]
        rintro xx wz ⟨rfl, rfl⟩
        go_wp2_with fail
        go_fit (HGr.out w0 hbw0)
        rw [Hc2.out]
        rintro xx v1 ⟨rfl, hd1⟩
        have he1 := hbw0.trans (hd1.mono hbw0.size)
        replace hBw0 := hBw0.below hd1
        clear y0 y1 y2 y3 y4 y5 y6 y7 y8 y9 y10 y11 y12 y13
        have y0 := Blk.cell hBw0 (j := 0) rfl; have y1 := Blk.cell hBw0 (j := 1) rfl; have y2 := Blk.cell hBw0 (j := 2) rfl; have y3 := Blk.cell hBw0 (j := 3) rfl; have y4 := Blk.cell hBw0 (j := 4) rfl; have y5 := Blk.cell hBw0 (j := 5) rfl; have y6 := Blk.cell hBw0 (j := 6) rfl; have y7 := Blk.cell hBw0 (j := 7) rfl; have y8 := Blk.cell hBw0 (j := 8) rfl; have y9 := Blk.cell hBw0 (j := 9) rfl; have y10 := Blk.cell hBw0 (j := 10) rfl; have y11 := Blk.cell hBw0 (j := 11) rfl; have y12 := Blk.cell hBw0 (j := 12) rfl; have y13 := Blk.cell hBw0 (j := 13) rfl
        go_wp2_with fail
        go_fit (number_any pView v1)
        rw [Hc3.out]
        rintro xx wz ⟨rfl, rfl⟩
        go_wp2_with fail
        go_fit (number_any pSerial v1)
        rw [Hc4.out]
        rintro xx wz ⟨rfl, rfl⟩
        go_wp2_with fail
        go_fit (number_any pQuiet v1)
        rw [Hc5.out]
        rintro xx wz ⟨rfl, rfl⟩
        go_wp2_with fail
        go_fit (HAs.out v1 he1)
        rw [Has.out]
        rintro xx v5 ⟨rfl, hd5⟩
        have he5 := he1.trans (hd5.mono he1.size)
        replace hBw0 := hBw0.below hd5
        clear y0 y1 y2 y3 y4 y5 y6 y7 y8 y9 y10 y11 y12 y13
        have y0 := Blk.cell hBw0 (j := 0) rfl; have y1 := Blk.cell hBw0 (j := 1) rfl; have y2 := Blk.cell hBw0 (j := 2) rfl; have y3 := Blk.cell hBw0 (j := 3) rfl; have y4 := Blk.cell hBw0 (j := 4) rfl; have y5 := Blk.cell hBw0 (j := 5) rfl; have y6 := Blk.cell hBw0 (j := 6) rfl; have y7 := Blk.cell hBw0 (j := 7) rfl; have y8 := Blk.cell hBw0 (j := 8) rfl; have y9 := Blk.cell hBw0 (j := 9) rfl; have y10 := Blk.cell hBw0 (j := 10) rfl; have y11 := Blk.cell hBw0 (j := 11) rfl; have y12 := Blk.cell hBw0 (j := 12) rfl; have y13 := Blk.cell hBw0 (j := 13) rfl
        go_wp2
        go_ret
        exact ⟨by rw [HR.out]; rfl, he5⟩

      | false =>
        have HR := hide (prE_no (show prB (pID, (pGroupEpoch, pGroupMembers), pView, pSerial, true, (pOpKind, pOpAt, pOpN, pOpData, pOpOld), (pNextEpoch, pNextMembers), pQuiet) = false by rw [HV.out]; simp only [Hc1.out, Hc2.out, Hc3.out, Hc4.out, Hc5.out, Bool.true_and]; rw [Hr.out, d1]; rfl))
        go_enter Try.func12, Try.ntmps12
        go_wp2_with fail
        try rw [Hw0.out]
        go_fit (serial_any pID w0)
        rw [Hc1.out]
        rintro xx wz ⟨rfl, rfl⟩
        go_wp2_with fail
        go_fit (HGr.out w0 hbw0)
        rw [Hc2.out]
        rintro xx v1 ⟨rfl, hd1⟩
        have he1 := hbw0.trans (hd1.mono hbw0.size)
        replace hBw0 := hBw0.below hd1
        clear y0 y1 y2 y3 y4 y5 y6 y7 y8 y9 y10 y11 y12 y13
        have y0 := Blk.cell hBw0 (j := 0) rfl; have y1 := Blk.cell hBw0 (j := 1) rfl; have y2 := Blk.cell hBw0 (j := 2) rfl; have y3 := Blk.cell hBw0 (j := 3) rfl; have y4 := Blk.cell hBw0 (j := 4) rfl; have y5 := Blk.cell hBw0 (j := 5) rfl; have y6 := Blk.cell hBw0 (j := 6) rfl; have y7 := Blk.cell hBw0 (j := 7) rfl; have y8 := Blk.cell hBw0 (j := 8) rfl; have y9 := Blk.cell hBw0 (j := 9) rfl; have y10 := Blk.cell hBw0 (j := 10) rfl; have y11 := Blk.cell hBw0 (j := 11) rfl; have y12 := Blk.cell hBw0 (j := 12) rfl; have y13 := Blk.cell hBw0 (j := 13) rfl
        go_wp2_with fail
        go_fit (number_any pView v1)
        rw [Hc3.out]
        rintro xx wz ⟨rfl, rfl⟩
        go_wp2_with fail
        go_fit (number_any pSerial v1)
        rw [Hc4.out]
        rintro xx wz ⟨rfl, rfl⟩
        go_wp2_with fail
        go_fit (number_any pQuiet v1)
        rw [Hc5.out]
        rintro xx wz ⟨rfl, rfl⟩
        go_wp2_with fail
        go_fit (HAs.out v1 he1)
        rw [Has.out]
        rintro xx v5 ⟨rfl, hd5⟩
        have he5 := he1.trans (hd5.mono he1.size)
        replace hBw0 := hBw0.below hd5
        clear y0 y1 y2 y3 y4 y5 y6 y7 y8 y9 y10 y11 y12 y13
        have y0 := Blk.cell hBw0 (j := 0) rfl; have y1 := Blk.cell hBw0 (j := 1) rfl; have y2 := Blk.cell hBw0 (j := 2) rfl; have y3 := Blk.cell hBw0 (j := 3) rfl; have y4 := Blk.cell hBw0 (j := 4) rfl; have y5 := Blk.cell hBw0 (j := 5) rfl; have y6 := Blk.cell hBw0 (j := 6) rfl; have y7 := Blk.cell hBw0 (j := 7) rfl; have y8 := Blk.cell hBw0 (j := 8) rfl; have y9 := Blk.cell hBw0 (j := 9) rfl; have y10 := Blk.cell hBw0 (j := 10) rfl; have y11 := Blk.cell hBw0 (j := 11) rfl; have y12 := Blk.cell hBw0 (j := 12) rfl; have y13 := Blk.cell hBw0 (j := 13) rfl
        go_wp2
        go_ret
        exact ⟨by rw [HR.out]; rfl, he5⟩

    · have Hr := hide hrest
      have HR := hide (prE_no (show prB (pID, (pGroupEpoch, pGroupMembers), pView, pSerial, true, (pOpKind, pOpAt, pOpN, pOpData, pOpOld), (pNextEpoch, pNextMembers), pQuiet) = false by rw [HV.out]; simp only [Hc1.out, Hc2.out, Hc3.out, Hc4.out, Hc5.out, Bool.true_and]; rw [Hr.out, d1]; rfl))
      go_enter Try.func12, Try.ntmps12
      go_wp2_with fail
      try rw [Hw0.out]
      go_fit (serial_any pID w0)
      rw [Hc1.out]
      rintro xx wz ⟨rfl, rfl⟩
      go_wp2_with fail
      go_fit (HGr.out w0 hbw0)
      rw [Hc2.out]
      rintro xx v1 ⟨rfl, hd1⟩
      have he1 := hbw0.trans (hd1.mono hbw0.size)
      replace hBw0 := hBw0.below hd1
      clear y0 y1 y2 y3 y4 y5 y6 y7 y8 y9 y10 y11 y12 y13
      have y0 := Blk.cell hBw0 (j := 0) rfl; have y1 := Blk.cell hBw0 (j := 1) rfl; have y2 := Blk.cell hBw0 (j := 2) rfl; have y3 := Blk.cell hBw0 (j := 3) rfl; have y4 := Blk.cell hBw0 (j := 4) rfl; have y5 := Blk.cell hBw0 (j := 5) rfl; have y6 := Blk.cell hBw0 (j := 6) rfl; have y7 := Blk.cell hBw0 (j := 7) rfl; have y8 := Blk.cell hBw0 (j := 8) rfl; have y9 := Blk.cell hBw0 (j := 9) rfl; have y10 := Blk.cell hBw0 (j := 10) rfl; have y11 := Blk.cell hBw0 (j := 11) rfl; have y12 := Blk.cell hBw0 (j := 12) rfl; have y13 := Blk.cell hBw0 (j := 13) rfl
      go_wp2_with fail
      go_fit (number_any pView v1)
      rw [Hc3.out]
      rintro xx wz ⟨rfl, rfl⟩
      go_wp2_with fail
      go_fit (number_any pSerial v1)
      rw [Hc4.out]
      rintro xx wz ⟨rfl, rfl⟩
      go_wp2_with fail
      go_fit (number_any pQuiet v1)
      rw [Hc5.out]
      rintro xx wz ⟨rfl, rfl⟩
      go_wp2
      go_ret
      exact ⟨by rw [HR.out]; rfl, he1⟩

  | false =>
    have hrest : restB (pID, (pGroupEpoch, pGroupMembers), pView, pSerial, false, (pOpKind, pOpAt, pOpN, pOpData, pOpOld), (pNextEpoch, pNextMembers), pQuiet) = (n1 && g1) := by rw [← Hno.out, ← Hng.out, ← Hnl.out]; rfl
    have Hr := hide hrest
    clear hrest
    cases n1 with
    | false =>
      have HR := hide (prE_no (show prB (pID, (pGroupEpoch, pGroupMembers), pView, pSerial, false, (pOpKind, pOpAt, pOpN, pOpData, pOpOld), (pNextEpoch, pNextMembers), pQuiet) = false by rw [HV.out]; simp only [Hc1.out, Hc2.out, Hc3.out, Hc4.out, Hc5.out, Bool.true_and]; rw [Hr.out]; rfl))
      go_enter Try.func12, Try.ntmps12
      go_wp2_with fail
      try rw [Hw0.out]
      go_fit (serial_any pID w0)
      rw [Hc1.out]
      rintro xx wz ⟨rfl, rfl⟩
      go_wp2_with fail
      go_fit (HGr.out w0 hbw0)
      rw [Hc2.out]
      rintro xx v1 ⟨rfl, hd1⟩
      have he1 := hbw0.trans (hd1.mono hbw0.size)
      replace hBw0 := hBw0.below hd1
      clear y0 y1 y2 y3 y4 y5 y6 y7 y8 y9 y10 y11 y12 y13
      have y0 := Blk.cell hBw0 (j := 0) rfl; have y1 := Blk.cell hBw0 (j := 1) rfl; have y2 := Blk.cell hBw0 (j := 2) rfl; have y3 := Blk.cell hBw0 (j := 3) rfl; have y4 := Blk.cell hBw0 (j := 4) rfl; have y5 := Blk.cell hBw0 (j := 5) rfl; have y6 := Blk.cell hBw0 (j := 6) rfl; have y7 := Blk.cell hBw0 (j := 7) rfl; have y8 := Blk.cell hBw0 (j := 8) rfl; have y9 := Blk.cell hBw0 (j := 9) rfl; have y10 := Blk.cell hBw0 (j := 10) rfl; have y11 := Blk.cell hBw0 (j := 11) rfl; have y12 := Blk.cell hBw0 (j := 12) rfl; have y13 := Blk.cell hBw0 (j := 13) rfl
      go_wp2_with fail
      go_fit (number_any pView v1)
      rw [Hc3.out]
      rintro xx wz ⟨rfl, rfl⟩
      go_wp2_with fail
      go_fit (number_any pSerial v1)
      rw [Hc4.out]
      rintro xx wz ⟨rfl, rfl⟩
      go_wp2_with fail
      go_fit (number_any pQuiet v1)
      rw [Hc5.out]
      rintro xx wz ⟨rfl, rfl⟩
      go_wp2_with fail
      go_fit (HNo.out v1 he1)
      rw [Hno.out]
      rintro xx v5 ⟨rfl, hd5⟩
      have he5 := he1.trans (hd5.mono he1.size)
      replace hBw0 := hBw0.below hd5
      clear y0 y1 y2 y3 y4 y5 y6 y7 y8 y9 y10 y11 y12 y13
      have y0 := Blk.cell hBw0 (j := 0) rfl; have y1 := Blk.cell hBw0 (j := 1) rfl; have y2 := Blk.cell hBw0 (j := 2) rfl; have y3 := Blk.cell hBw0 (j := 3) rfl; have y4 := Blk.cell hBw0 (j := 4) rfl; have y5 := Blk.cell hBw0 (j := 5) rfl; have y6 := Blk.cell hBw0 (j := 6) rfl; have y7 := Blk.cell hBw0 (j := 7) rfl; have y8 := Blk.cell hBw0 (j := 8) rfl; have y9 := Blk.cell hBw0 (j := 9) rfl; have y10 := Blk.cell hBw0 (j := 10) rfl; have y11 := Blk.cell hBw0 (j := 11) rfl; have y12 := Blk.cell hBw0 (j := 12) rfl; have y13 := Blk.cell hBw0 (j := 13) rfl
      go_wp2
      go_ret
      exact ⟨by rw [HR.out]; rfl, he5⟩

    | true =>
      cases g1 with
      | true =>
        have HR := hide (prE_ok (show prB (pID, (pGroupEpoch, pGroupMembers), pView, pSerial, false, (pOpKind, pOpAt, pOpN, pOpData, pOpOld), (pNextEpoch, pNextMembers), pQuiet) = true by rw [HV.out]; simp only [Hc1.out, Hc2.out, Hc3.out, Hc4.out, Hc5.out, Bool.true_and]; rw [Hr.out]; rfl))
        go_enter Try.func12, Try.ntmps12
        go_wp2_with fail
        try rw [Hw0.out]
        go_fit (serial_any pID w0)
        rw [Hc1.out]
        rintro xx wz ⟨rfl, rfl⟩
        go_wp2_with fail
        go_fit (HGr.out w0 hbw0)
        rw [Hc2.out]
        rintro xx v1 ⟨rfl, hd1⟩
        have he1 := hbw0.trans (hd1.mono hbw0.size)
        replace hBw0 := hBw0.below hd1
        clear y0 y1 y2 y3 y4 y5 y6 y7 y8 y9 y10 y11 y12 y13
        have y0 := Blk.cell hBw0 (j := 0) rfl; have y1 := Blk.cell hBw0 (j := 1) rfl; have y2 := Blk.cell hBw0 (j := 2) rfl; have y3 := Blk.cell hBw0 (j := 3) rfl; have y4 := Blk.cell hBw0 (j := 4) rfl; have y5 := Blk.cell hBw0 (j := 5) rfl; have y6 := Blk.cell hBw0 (j := 6) rfl; have y7 := Blk.cell hBw0 (j := 7) rfl; have y8 := Blk.cell hBw0 (j := 8) rfl; have y9 := Blk.cell hBw0 (j := 9) rfl; have y10 := Blk.cell hBw0 (j := 10) rfl; have y11 := Blk.cell hBw0 (j := 11) rfl; have y12 := Blk.cell hBw0 (j := 12) rfl; have y13 := Blk.cell hBw0 (j := 13) rfl
        go_wp2_with fail
        go_fit (number_any pView v1)
        rw [Hc3.out]
        rintro xx wz ⟨rfl, rfl⟩
        go_wp2_with fail
        go_fit (number_any pSerial v1)
        rw [Hc4.out]
        rintro xx wz ⟨rfl, rfl⟩
        go_wp2_with fail
        go_fit (number_any pQuiet v1)
        rw [Hc5.out]
        rintro xx wz ⟨rfl, rfl⟩
        go_wp2_with fail
        go_fit (HNo.out v1 he1)
        rw [Hno.out]
        rintro xx v5 ⟨rfl, hd5⟩
        have he5 := he1.trans (hd5.mono he1.size)
        replace hBw0 := hBw0.below hd5
        clear y0 y1 y2 y3 y4 y5 y6 y7 y8 y9 y10 y11 y12 y13
        have y0 := Blk.cell hBw0 (j := 0) rfl; have y1 := Blk.cell hBw0 (j := 1) rfl; have y2 := Blk.cell hBw0 (j := 2) rfl; have y3 := Blk.cell hBw0 (j := 3) rfl; have y4 := Blk.cell hBw0 (j := 4) rfl; have y5 := Blk.cell hBw0 (j := 5) rfl; have y6 := Blk.cell hBw0 (j := 6) rfl; have y7 := Blk.cell hBw0 (j := 7) rfl; have y8 := Blk.cell hBw0 (j := 8) rfl; have y9 := Blk.cell hBw0 (j := 9) rfl; have y10 := Blk.cell hBw0 (j := 10) rfl; have y11 := Blk.cell hBw0 (j := 11) rfl; have y12 := Blk.cell hBw0 (j := 12) rfl; have y13 := Blk.cell hBw0 (j := 13) rfl
        go_wp2_with fail
        go_fit (noGroup_any pNextEpoch pNextMembersA pNextMembersn pNextMembersc v5)
        rw [Hng.out]
        rintro xx v6 ⟨rfl, hd6⟩
        have he6 := he5.trans (hd6.mono he5.size)
        replace hBw0 := hBw0.below hd6
        clear y0 y1 y2 y3 y4 y5 y6 y7 y8 y9 y10 y11 y12 y13
        have y0 := Blk.cell hBw0 (j := 0) rfl; have y1 := Blk.cell hBw0 (j := 1) rfl; have y2 := Blk.cell hBw0 (j := 2) rfl; have y3 := Blk.cell hBw0 (j := 3) rfl; have y4 := Blk.cell hBw0 (j := 4) rfl; have y5 := Blk.cell hBw0 (j := 5) rfl; have y6 := Blk.cell hBw0 (j := 6) rfl; have y7 := Blk.cell hBw0 (j := 7) rfl; have y8 := Blk.cell hBw0 (j := 8) rfl; have y9 := Blk.cell hBw0 (j := 9) rfl; have y10 := Blk.cell hBw0 (j := 10) rfl; have y11 := Blk.cell hBw0 (j := 11) rfl; have y12 := Blk.cell hBw0 (j := 12) rfl; have y13 := Blk.cell hBw0 (j := 13) rfl
        go_wp2
        go_ret
        exact ⟨by rw [HR.out]; rfl, he6⟩

      | false =>
        have HR := hide (prE_no (show prB (pID, (pGroupEpoch, pGroupMembers), pView, pSerial, false, (pOpKind, pOpAt, pOpN, pOpData, pOpOld), (pNextEpoch, pNextMembers), pQuiet) = false by rw [HV.out]; simp only [Hc1.out, Hc2.out, Hc3.out, Hc4.out, Hc5.out, Bool.true_and]; rw [Hr.out]; rfl))
        go_enter Try.func12, Try.ntmps12
        go_wp2_with fail
        try rw [Hw0.out]
        go_fit (serial_any pID w0)
        rw [Hc1.out]
        rintro xx wz ⟨rfl, rfl⟩
        go_wp2_with fail
        go_fit (HGr.out w0 hbw0)
        rw [Hc2.out]
        rintro xx v1 ⟨rfl, hd1⟩
        have he1 := hbw0.trans (hd1.mono hbw0.size)
        replace hBw0 := hBw0.below hd1
        clear y0 y1 y2 y3 y4 y5 y6 y7 y8 y9 y10 y11 y12 y13
        have y0 := Blk.cell hBw0 (j := 0) rfl; have y1 := Blk.cell hBw0 (j := 1) rfl; have y2 := Blk.cell hBw0 (j := 2) rfl; have y3 := Blk.cell hBw0 (j := 3) rfl; have y4 := Blk.cell hBw0 (j := 4) rfl; have y5 := Blk.cell hBw0 (j := 5) rfl; have y6 := Blk.cell hBw0 (j := 6) rfl; have y7 := Blk.cell hBw0 (j := 7) rfl; have y8 := Blk.cell hBw0 (j := 8) rfl; have y9 := Blk.cell hBw0 (j := 9) rfl; have y10 := Blk.cell hBw0 (j := 10) rfl; have y11 := Blk.cell hBw0 (j := 11) rfl; have y12 := Blk.cell hBw0 (j := 12) rfl; have y13 := Blk.cell hBw0 (j := 13) rfl
        go_wp2_with fail
        go_fit (number_any pView v1)
        rw [Hc3.out]
        rintro xx wz ⟨rfl, rfl⟩
        go_wp2_with fail
        go_fit (number_any pSerial v1)
        rw [Hc4.out]
        rintro xx wz ⟨rfl, rfl⟩
        go_wp2_with fail
        go_fit (number_any pQuiet v1)
        rw [Hc5.out]
        rintro xx wz ⟨rfl, rfl⟩
        go_wp2_with fail
        go_fit (HNo.out v1 he1)
        rw [Hno.out]
        rintro xx v5 ⟨rfl, hd5⟩
        have he5 := he1.trans (hd5.mono he1.size)
        replace hBw0 := hBw0.below hd5
        clear y0 y1 y2 y3 y4 y5 y6 y7 y8 y9 y10 y11 y12 y13
        have y0 := Blk.cell hBw0 (j := 0) rfl; have y1 := Blk.cell hBw0 (j := 1) rfl; have y2 := Blk.cell hBw0 (j := 2) rfl; have y3 := Blk.cell hBw0 (j := 3) rfl; have y4 := Blk.cell hBw0 (j := 4) rfl; have y5 := Blk.cell hBw0 (j := 5) rfl; have y6 := Blk.cell hBw0 (j := 6) rfl; have y7 := Blk.cell hBw0 (j := 7) rfl; have y8 := Blk.cell hBw0 (j := 8) rfl; have y9 := Blk.cell hBw0 (j := 9) rfl; have y10 := Blk.cell hBw0 (j := 10) rfl; have y11 := Blk.cell hBw0 (j := 11) rfl; have y12 := Blk.cell hBw0 (j := 12) rfl; have y13 := Blk.cell hBw0 (j := 13) rfl
        go_wp2_with fail
        go_fit (noGroup_any pNextEpoch pNextMembersA pNextMembersn pNextMembersc v5)
        rw [Hng.out]
        rintro xx v6 ⟨rfl, hd6⟩
        have he6 := he5.trans (hd6.mono he5.size)
        replace hBw0 := hBw0.below hd6
        clear y0 y1 y2 y3 y4 y5 y6 y7 y8 y9 y10 y11 y12 y13
        have y0 := Blk.cell hBw0 (j := 0) rfl; have y1 := Blk.cell hBw0 (j := 1) rfl; have y2 := Blk.cell hBw0 (j := 2) rfl; have y3 := Blk.cell hBw0 (j := 3) rfl; have y4 := Blk.cell hBw0 (j := 4) rfl; have y5 := Blk.cell hBw0 (j := 5) rfl; have y6 := Blk.cell hBw0 (j := 6) rfl; have y7 := Blk.cell hBw0 (j := 7) rfl; have y8 := Blk.cell hBw0 (j := 8) rfl; have y9 := Blk.cell hBw0 (j := 9) rfl; have y10 := Blk.cell hBw0 (j := 10) rfl; have y11 := Blk.cell hBw0 (j := 11) rfl; have y12 := Blk.cell hBw0 (j := 12) rfl; have y13 := Blk.cell hBw0 (j := 13) rfl
        go_wp2
        go_ret
        exact ⟨by rw [HR.out]; rfl, he6⟩


end Go.Proofs.Ytlcbelmbonaooaa
