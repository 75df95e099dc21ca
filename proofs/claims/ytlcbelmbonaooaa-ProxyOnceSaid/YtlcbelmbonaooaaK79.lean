/- Texts joined (shake.py). -/
import Derived.Test.YtlcbelmbonaooaaK73
import Derived.Test.YtlcbelmbonaooaaK76
import Derived.Test.YtlcbelmbonaooaaK77
import Derived.Test.YtlcbelmbonaooaaK78
namespace Go.Proofs.Ytlcbelmbonaooaa
set_option maxRecDepth 20000
open Go.RowKit Go.Px Go.Maps
set_option linter.unusedVariables false
theorem pg_of {w : World} {Q : Nat → Prop} {ps : List PageD} {vs : List Value} (h : tyPage.Rows w Q ps vs) : PgRows w (fun _ => True) vs ps := by
  refine ⟨h.1, fun j p hp => ?_⟩
  obtain ⟨cs, hI, hc⟩ := h.get hp
  obtain ⟨pAt, pVersion, pData, pDataA, pDatan, pDatac, rfl, rfl, h1_pAt, h2_pAt, h1_pVersion, h2_pVersion, hl_pData, hc_pData, hm_pData, hr_pData, hq_pData⟩ := Page_out hI
  exact ⟨pDataA, pDatan, pDatac, hc 0 _ rfl, hc 1 _ rfl, hc 2 _ rfl, hl_pData, hc_pData, hm_pData, hr_pData, fun _ _ => trivial⟩
theorem rw_of {w : World} {Q : Nat → Prop} {es : List RowD} {vs : List Value} (h : tyRow.Rows w Q es vs) : RwRows w Q vs es := by
  refine ⟨h.1, fun j e he => ?_⟩
  obtain ⟨cs, hI, hc⟩ := h.get he
  obtain ⟨pClient, pSerial, pResultCode, pResultData, pResultDataA, pResultDatan, pResultDatac, rfl, rfl, h1_pClient, h2_pClient, h1_pSerial, h2_pSerial, hu_pResultCode, hl_pResultData, hc_pResultData, hm_pResultData, hr_pResultData, hq_pResultData⟩ := Row_out hI
  exact ⟨pResultDataA, pResultDatan, pResultDatac, hc 0 _ rfl, hc 1 _ rfl, hc 2 _ rfl, hc 3 _ rfl, hu_pResultCode, hl_pResultData, hc_pResultData, hm_pResultData, hr_pResultData, hq_pResultData⟩
/-- May a state be? -/
def versB (num : Int) (ps : List PageD) : Bool := ps.all fun p => decide (p.2.1 ≤ num)
def stateB (x : StateD) : Bool := numB x.1 && ((shE x.2.1.1 x.2.1.2 == 0) && (mpA x.2.1.1 x.2.1.2 (-1) x.2.2.1 && (rowsB x.2.2.2.1 && (grpOk x.2.2.2.2.1 x.2.2.2.2.2 && versB x.1 x.2.2.1))))
def stE (x : StateD) : Int := if stateB x = true then 0 else 72
theorem stE_ok {x : StateD} (h : stateB x = true) : stE x = 0 := if_pos h
theorem stE_no {x : StateD} (h : stateB x = false) : stE x = 72 := if_neg (by rw [h]; decide)
theorem vers_step {num : Int} {ps : List PageD} {k : Nat} {p : PageD} (h : ps[k]? = some p) (hv : p.2.1 ≤ num) : versB num (ps.drop k) = versB num (ps.drop (k + 1)) := by
  rw [drop_cons h]; unfold versB; rw [List.all_cons, decide_eq_true hv, Bool.true_and]
theorem vers_bad {num : Int} {ps : List PageD} {k : Nat} {p : PageD} (h : ps[k]? = some p) (hv : num < p.2.1) : versB num ps = false := by
  unfold versB
  rw [List.all_eq_false]
  exact ⟨p, List.mem_of_getElem? h, by simpa using hv⟩

theorem numB_out {v : Int} (h : numB v = true) : 0 ≤ v ∧ v ≤ 4611686018427387904 := of_decide_eq_true h
theorem numB_no {v : Int} (h : numB v = false) : v < 0 ∨ 4611686018427387904 < v := by
  have := of_decide_eq_false h
  omega
theorem shE_ne {b z : Int} (h : (shE b z == 0) = false) : (shE b z != 0) = true := by simp only [bne, h]; rfl
theorem shE_eq {b z : Int} (h : (shE b z == 0) = true) : shE b z = 0 := by simpa using h

set_option maxRecDepth 20000 in
set_option maxHeartbeats 3200000 in
theorem mayState_any {w : World} {Q : Nat → Prop} {x : StateD} {cs : List Value} (h : tyState.Is w Q x cs) : Calls Try.prog 67 #[.agg cs.toArray] w fun e w' => e = .returned (.bool (stateB x)) ∧ Below w.heap.size w w' := by
  obtain ⟨sNum, sShapeBlocks, sShapeSize, sPages, sPagesA, sPagesn, sPagesc, sPagesv, sRows, sRowsA, sRowsn, sRowsc, sRowsv, sGroupEpoch, sGroupMembers, sGroupMembersA, sGroupMembersn, sGroupMembersc, sGroupMembersv, rfl, rfl, h1_sNum, h2_sNum, h1_sShapeBlocks, h2_sShapeBlocks, h1_sShapeSize, h2_sShapeSize, hl_sPages, hc_sPages, hm_sPages, hr_sPages, hq_sPages, he_sPages, hl_sRows, hc_sRows, hm_sRows, hr_sRows, hq_sRows, he_sRows, h1_sGroupEpoch, h2_sGroupEpoch, hl_sGroupMembers, hc_sGroupMembers, hm_sGroupMembers, hr_sGroupMembers, hq_sGroupMembers, he_sGroupMembers⟩ := State_out h
  have hP := pg_of he_sPages
  have hE := rw_of he_sRows
  obtain ⟨hmi, _⟩ := i64rows he_sGroupMembers
  subst hmi
  obtain ⟨w0, hw0⟩ : ∃ x, w.alloc (.cells #[.int .i64 sNum, .int .i64 sShapeBlocks, .int .i64 sShapeSize, .slice sPagesA sPagesn sPagesc, .slice sRowsA sRowsn sRowsc, .int .i64 sGroupEpoch, .slice sGroupMembersA sGroupMembersn sGroupMembersc] 55) = x := ⟨_, rfl⟩; have hBw0 : Blk w0 w.heap.size [.int .i64 sNum, .int .i64 sShapeBlocks, .int .i64 sShapeSize, .slice sPagesA sPagesn sPagesc, .slice sRowsA sRowsn sRowsc, .int .i64 sGroupEpoch, .slice sGroupMembersA sGroupMembersn sGroupMembersc] 55 := (by rw [← hw0]; exact Blk.new w [.int .i64 sNum, .int .i64 sShapeBlocks, .int .i64 sShapeSize, .slice sPagesA sPagesn sPagesc, .slice sRowsA sRowsn sRowsc, .int .i64 sGroupEpoch, .slice sGroupMembersA sGroupMembersn sGroupMembersc] _); have hbw0 : Below w.heap.size w w0 := (by rw [← hw0]; exact (Below.refl _ _).alloc (Nat.le_refl _) _); have Hw0 := hide hw0; clear hw0
  have hP0 := hP.below hbw0
  have hE0 := hE.below hbw0
  have hrP := hr_sPages.below hbw0
  have hrE := hr_sRows.below hbw0
  have hrM := hr_sGroupMembers.below hbw0
  have HlP := hide hl_sPages
  have HlE := hide hl_sRows
  have HlM := hide hl_sGroupMembers
  clear hl_sPages hl_sRows hl_sGroupMembers hq_sPages hq_sRows hq_sGroupMembers he_sPages he_sRows he_sGroupMembers hP hE hr_sPages hr_sRows hr_sGroupMembers
  have y0 := Blk.cell hBw0 (j := 0) rfl; have y1 := Blk.cell hBw0 (j := 1) rfl; have y2 := Blk.cell hBw0 (j := 2) rfl; have y3 := Blk.cell hBw0 (j := 3) rfl; have y4 := Blk.cell hBw0 (j := 4) rfl; have y5 := Blk.cell hBw0 (j := 5) rfl; have y6 := Blk.cell hBw0 (j := 6) rfl
  cases h0 : numB sNum with
  | false =>
    have HF := hide (show stateB (sNum, (sShapeBlocks, sShapeSize), sPages, sRows, (sGroupEpoch, sGroupMembers)) = false by simp [stateB, h0])
    have H0 := hide h0
    clear h0
    have h0w10 := Below.refl w0.heap.size w0
    go_enter Try.func67, Try.ntmps67
    go_wp2_with fail
    rw [Hw0.out]
    go_fit (number_any sNum w0)
    rw [H0.out]
    rintro xx wz ⟨rfl, rfl⟩
    go_wp2
    go_ret
    exact ⟨by rw [HF.out]; rfl, hbw0.trans (h0w10.mono hbw0.size)⟩
  | true =>
    cases h1 : (shE sShapeBlocks sShapeSize == 0) with
    | false =>
      have HF := hide (show stateB (sNum, (sShapeBlocks, sShapeSize), sPages, sRows, (sGroupEpoch, sGroupMembers)) = false by simp [stateB, h0, h1])
      have H0 := hide h0
      have H1 := hide h1
      clear h0 h1
      have h0w10 := Below.refl w0.heap.size w0
      go_enter Try.func67, Try.ntmps67
      go_wp2_with fail
      rw [Hw0.out]
      go_fit (number_any sNum w0)
      rw [H0.out]
      rintro xx wz ⟨rfl, rfl⟩
      go_wp2_with fail
      go_fit (shape_any sShapeBlocks sShapeSize w0)
      have q1 := shE_ne H1.out; generalize shE sShapeBlocks sShapeSize = E at q1 ⊢
      rintro xx w11 ⟨rfl, hbw11⟩
      have h0w11 := h0w10.trans (hbw11.mono h0w10.size)
      have hBw11 := hBw0.below h0w11
      clear y0 y1 y2 y3 y4 y5 y6
      have y0 := Blk.cell hBw11 (j := 0) rfl; have y1 := Blk.cell hBw11 (j := 1) rfl; have y2 := Blk.cell hBw11 (j := 2) rfl; have y3 := Blk.cell hBw11 (j := 3) rfl; have y4 := Blk.cell hBw11 (j := 4) rfl; have y5 := Blk.cell hBw11 (j := 5) rfl; have y6 := Blk.cell hBw11 (j := 6) rfl
      go_wp2
      go_ret
      exact ⟨by rw [HF.out]; rfl, hbw0.trans (h0w11.mono hbw0.size)⟩
    | true =>
      cases h2 : mpA sShapeBlocks sShapeSize (-1) sPages with
      | false =>
        have HF := hide (show stateB (sNum, (sShapeBlocks, sShapeSize), sPages, sRows, (sGroupEpoch, sGroupMembers)) = false by simp [stateB, h0, h1, h2])
        have H0 := hide h0
        have H1 := hide h1
        have H2 := hide h2
        clear h0 h1 h2
        have h0w10 := Below.refl w0.heap.size w0
        go_enter Try.func67, Try.ntmps67
        go_wp2_with fail
        rw [Hw0.out]
        go_fit (number_any sNum w0)
        rw [H0.out]
        rintro xx wz ⟨rfl, rfl⟩
        go_wp2_with fail
        go_fit (shape_any sShapeBlocks sShapeSize w0)
        rw [shE_eq H1.out]
        rintro xx w11 ⟨rfl, hbw11⟩
        have h0w11 := h0w10.trans (hbw11.mono h0w10.size)
        have hBw11 := hBw0.below h0w11
        clear y0 y1 y2 y3 y4 y5 y6
        have y0 := Blk.cell hBw11 (j := 0) rfl; have y1 := Blk.cell hBw11 (j := 1) rfl; have y2 := Blk.cell hBw11 (j := 2) rfl; have y3 := Blk.cell hBw11 (j := 3) rfl; have y4 := Blk.cell hBw11 (j := 4) rfl; have y5 := Blk.cell hBw11 (j := 5) rfl; have y6 := Blk.cell hBw11 (j := 6) rfl
        go_wp2_with fail
        go_fit (mayPages_any sShapeBlocks sShapeSize sPagesA sPagesn sPagesc sPagesv sPages (fun _ => True) w11 HlP.out hc_sPages hm_sPages (hrP.below h0w11) (hP0.below h0w11))
        rw [H2.out]
        rintro xx w12 ⟨rfl, hbw12⟩
        have h0w12 := h0w11.trans (hbw12.mono h0w11.size)
        have hBw12 := hBw0.below h0w12
        clear y0 y1 y2 y3 y4 y5 y6
        have y0 := Blk.cell hBw12 (j := 0) rfl; have y1 := Blk.cell hBw12 (j := 1) rfl; have y2 := Blk.cell hBw12 (j := 2) rfl; have y3 := Blk.cell hBw12 (j := 3) rfl; have y4 := Blk.cell hBw12 (j := 4) rfl; have y5 := Blk.cell hBw12 (j := 5) rfl; have y6 := Blk.cell hBw12 (j := 6) rfl
        go_wp2
        go_ret
        exact ⟨by rw [HF.out]; rfl, hbw0.trans (h0w12.mono hbw0.size)⟩
      | true =>
        cases h3 : rowsB sRows with
        | false =>
          have HF := hide (show stateB (sNum, (sShapeBlocks, sShapeSize), sPages, sRows, (sGroupEpoch, sGroupMembers)) = false by simp [stateB, h0, h1, h2, h3])
          have H0 := hide h0
          have H1 := hide h1
          have H2 := hide h2
          have H3 := hide h3
          clear h0 h1 h2 h3
          have h0w10 := Below.refl w0.heap.size w0
          go_enter Try.func67, Try.ntmps67
          go_wp2_with fail
          rw [Hw0.out]
          go_fit (number_any sNum w0)
          rw [H0.out]
          rintro xx wz ⟨rfl, rfl⟩
          go_wp2_with fail
          go_fit (shape_any sShapeBlocks sShapeSize w0)
          rw [shE_eq H1.out]
          rintro xx w11 ⟨rfl, hbw11⟩
          have h0w11 := h0w10.trans (hbw11.mono h0w10.size)
          have hBw11 := hBw0.below h0w11
          clear y0 y1 y2 y3 y4 y5 y6
          have y0 := Blk.cell hBw11 (j := 0) rfl; have y1 := Blk.cell hBw11 (j := 1) rfl; have y2 := Blk.cell hBw11 (j := 2) rfl; have y3 := Blk.cell hBw11 (j := 3) rfl; have y4 := Blk.cell hBw11 (j := 4) rfl; have y5 := Blk.cell hBw11 (j := 5) rfl; have y6 := Blk.cell hBw11 (j := 6) rfl
          go_wp2_with fail
          go_fit (mayPages_any sShapeBlocks sShapeSize sPagesA sPagesn sPagesc sPagesv sPages (fun _ => True) w11 HlP.out hc_sPages hm_sPages (hrP.below h0w11) (hP0.below h0w11))
          rw [H2.out]
          rintro xx w12 ⟨rfl, hbw12⟩
          have h0w12 := h0w11.trans (hbw12.mono h0w11.size)
          have hBw12 := hBw0.below h0w12
          clear y0 y1 y2 y3 y4 y5 y6
          have y0 := Blk.cell hBw12 (j := 0) rfl; have y1 := Blk.cell hBw12 (j := 1) rfl; have y2 := Blk.cell hBw12 (j := 2) rfl; have y3 := Blk.cell hBw12 (j := 3) rfl; have y4 := Blk.cell hBw12 (j := 4) rfl; have y5 := Blk.cell hBw12 (j := 5) rfl; have y6 := Blk.cell hBw12 (j := 6) rfl
          go_wp2_with fail
          go_fit (mayRows_any sRowsA sRowsn sRowsc sRowsv sRows Q w12 HlE.out (hrE.below h0w12) (hE0.below h0w12))
          rw [H3.out]
          rintro xx w13 ⟨rfl, hbw13⟩
          have h0w13 := h0w12.trans (hbw13.mono h0w12.size)
          have hBw13 := hBw0.below h0w13
          clear y0 y1 y2 y3 y4 y5 y6
          have y0 := Blk.cell hBw13 (j := 0) rfl; have y1 := Blk.cell hBw13 (j := 1) rfl; have y2 := Blk.cell hBw13 (j := 2) rfl; have y3 := Blk.cell hBw13 (j := 3) rfl; have y4 := Blk.cell hBw13 (j := 4) rfl; have y5 := Blk.cell hBw13 (j := 5) rfl; have y6 := Blk.cell hBw13 (j := 6) rfl
          go_wp2
          go_ret
          exact ⟨by rw [HF.out]; rfl, hbw0.trans (h0w13.mono hbw0.size)⟩
        | true =>
          cases h4 : grpOk sGroupEpoch sGroupMembers with
          | false =>
            have HF := hide (show stateB (sNum, (sShapeBlocks, sShapeSize), sPages, sRows, (sGroupEpoch, sGroupMembers)) = false by simp [stateB, h0, h1, h2, h3, h4])
            have H0 := hide h0
            have H1 := hide h1
            have H2 := hide h2
            have H3 := hide h3
            have H4 := hide h4
            clear h0 h1 h2 h3 h4
            have h0w10 := Below.refl w0.heap.size w0
            go_enter Try.func67, Try.ntmps67
            go_wp2_with fail
            rw [Hw0.out]
            go_fit (number_any sNum w0)
            rw [H0.out]
            rintro xx wz ⟨rfl, rfl⟩
            go_wp2_with fail
            go_fit (shape_any sShapeBlocks sShapeSize w0)
            rw [shE_eq H1.out]
            rintro xx w11 ⟨rfl, hbw11⟩
            have h0w11 := h0w10.trans (hbw11.mono h0w10.size)
            have hBw11 := hBw0.below h0w11
            clear y0 y1 y2 y3 y4 y5 y6
            have y0 := Blk.cell hBw11 (j := 0) rfl; have y1 := Blk.cell hBw11 (j := 1) rfl; have y2 := Blk.cell hBw11 (j := 2) rfl; have y3 := Blk.cell hBw11 (j := 3) rfl; have y4 := Blk.cell hBw11 (j := 4) rfl; have y5 := Blk.cell hBw11 (j := 5) rfl; have y6 := Blk.cell hBw11 (j := 6) rfl
            go_wp2_with fail
            go_fit (mayPages_any sShapeBlocks sShapeSize sPagesA sPagesn sPagesc sPagesv sPages (fun _ => True) w11 HlP.out hc_sPages hm_sPages (hrP.below h0w11) (hP0.below h0w11))
            rw [H2.out]
            rintro xx w12 ⟨rfl, hbw12⟩
            have h0w12 := h0w11.trans (hbw12.mono h0w11.size)
            have hBw12 := hBw0.below h0w12
            clear y0 y1 y2 y3 y4 y5 y6
            have y0 := Blk.cell hBw12 (j := 0) rfl; have y1 := Blk.cell hBw12 (j := 1) rfl; have y2 := Blk.cell hBw12 (j := 2) rfl; have y3 := Blk.cell hBw12 (j := 3) rfl; have y4 := Blk.cell hBw12 (j := 4) rfl; have y5 := Blk.cell hBw12 (j := 5) rfl; have y6 := Blk.cell hBw12 (j := 6) rfl
            go_wp2_with fail
            go_fit (mayRows_any sRowsA sRowsn sRowsc sRowsv sRows Q w12 HlE.out (hrE.below h0w12) (hE0.below h0w12))
            rw [H3.out]
            rintro xx w13 ⟨rfl, hbw13⟩
            have h0w13 := h0w12.trans (hbw13.mono h0w12.size)
            have hBw13 := hBw0.below h0w13
            clear y0 y1 y2 y3 y4 y5 y6
            have y0 := Blk.cell hBw13 (j := 0) rfl; have y1 := Blk.cell hBw13 (j := 1) rfl; have y2 := Blk.cell hBw13 (j := 2) rfl; have y3 := Blk.cell hBw13 (j := 3) rfl; have y4 := Blk.cell hBw13 (j := 4) rfl; have y5 := Blk.cell hBw13 (j := 5) rfl; have y6 := Blk.cell hBw13 (j := 6) rfl
            go_wp2_with fail
            go_fit (mgroup_any sGroupEpoch sGroupMembersA sGroupMembersn sGroupMembersc sGroupMembers w13 HlM.out (hrM.below h0w13))
            rw [H4.out]
            rintro xx w14 ⟨rfl, hbw14⟩
            have h0w14 := h0w13.trans (hbw14.mono h0w13.size)
            have hBw14 := hBw0.below h0w14
            clear y0 y1 y2 y3 y4 y5 y6
            have y0 := Blk.cell hBw14 (j := 0) rfl; have y1 := Blk.cell hBw14 (j := 1) rfl; have y2 := Blk.cell hBw14 (j := 2) rfl; have y3 := Blk.cell hBw14 (j := 3) rfl; have y4 := Blk.cell hBw14 (j := 4) rfl; have y5 := Blk.cell hBw14 (j := 5) rfl; have y6 := Blk.cell hBw14 (j := 6) rfl
            go_wp2
            go_ret
            exact ⟨by rw [HF.out]; rfl, hbw0.trans (h0w14.mono hbw0.size)⟩
          | true =>
            have HT := hide (show stateB (sNum, (sShapeBlocks, sShapeSize), sPages, sRows, (sGroupEpoch, sGroupMembers)) = versB sNum sPages by simp [stateB, h0, h1, h2, h3, h4])
            have H0 := hide h0
            have H1 := hide h1
            have H2 := hide h2
            have H3 := hide h3
            have H4 := hide h4
            clear h0 h1 h2 h3 h4
            have h0w10 := Below.refl w0.heap.size w0
            go_enter Try.func67, Try.ntmps67
            go_wp2_with fail
            rw [Hw0.out]
            go_fit (number_any sNum w0)
            rw [H0.out]
            rintro xx wz ⟨rfl, rfl⟩
            go_wp2_with fail
            go_fit (shape_any sShapeBlocks sShapeSize w0)
            rw [shE_eq H1.out]
            rintro xx w11 ⟨rfl, hbw11⟩
            have h0w11 := h0w10.trans (hbw11.mono h0w10.size)
            have hBw11 := hBw0.below h0w11
            clear y0 y1 y2 y3 y4 y5 y6
            have y0 := Blk.cell hBw11 (j := 0) rfl; have y1 := Blk.cell hBw11 (j := 1) rfl; have y2 := Blk.cell hBw11 (j := 2) rfl; have y3 := Blk.cell hBw11 (j := 3) rfl; have y4 := Blk.cell hBw11 (j := 4) rfl; have y5 := Blk.cell hBw11 (j := 5) rfl; have y6 := Blk.cell hBw11 (j := 6) rfl
            go_wp2_with fail
            go_fit (mayPages_any sShapeBlocks sShapeSize sPagesA sPagesn sPagesc sPagesv sPages (fun _ => True) w11 HlP.out hc_sPages hm_sPages (hrP.below h0w11) (hP0.below h0w11))
            rw [H2.out]
            rintro xx w12 ⟨rfl, hbw12⟩
            have h0w12 := h0w11.trans (hbw12.mono h0w11.size)
            have hBw12 := hBw0.below h0w12
            clear y0 y1 y2 y3 y4 y5 y6
            have y0 := Blk.cell hBw12 (j := 0) rfl; have y1 := Blk.cell hBw12 (j := 1) rfl; have y2 := Blk.cell hBw12 (j := 2) rfl; have y3 := Blk.cell hBw12 (j := 3) rfl; have y4 := Blk.cell hBw12 (j := 4) rfl; have y5 := Blk.cell hBw12 (j := 5) rfl; have y6 := Blk.cell hBw12 (j := 6) rfl
            go_wp2_with fail
            go_fit (mayRows_any sRowsA sRowsn sRowsc sRowsv sRows Q w12 HlE.out (hrE.below h0w12) (hE0.below h0w12))
            rw [H3.out]
            rintro xx w13 ⟨rfl, hbw13⟩
            have h0w13 := h0w12.trans (hbw13.mono h0w12.size)
            have hBw13 := hBw0.below h0w13
            clear y0 y1 y2 y3 y4 y5 y6
            have y0 := Blk.cell hBw13 (j := 0) rfl; have y1 := Blk.cell hBw13 (j := 1) rfl; have y2 := Blk.cell hBw13 (j := 2) rfl; have y3 := Blk.cell hBw13 (j := 3) rfl; have y4 := Blk.cell hBw13 (j := 4) rfl; have y5 := Blk.cell hBw13 (j := 5) rfl; have y6 := Blk.cell hBw13 (j := 6) rfl
            go_wp2_with fail
            go_fit (mgroup_any sGroupEpoch sGroupMembersA sGroupMembersn sGroupMembersc sGroupMembers w13 HlM.out (hrM.below h0w13))
            rw [H4.out]
            rintro xx w14 ⟨rfl, hbw14⟩
            have h0w14 := h0w13.trans (hbw14.mono h0w13.size)
            have hBw14 := hBw0.below h0w14
            clear y0 y1 y2 y3 y4 y5 y6
            have y0 := Blk.cell hBw14 (j := 0) rfl; have y1 := Blk.cell hBw14 (j := 1) rfl; have y2 := Blk.cell hBw14 (j := 2) rfl; have y3 := Blk.cell hBw14 (j := 3) rfl; have y4 := Blk.cell hBw14 (j := 4) rfl; have y5 := Blk.cell hBw14 (j := 5) rfl; have y6 := Blk.cell hBw14 (j := 6) rfl
            go_wp2
            go_loopw [38] (fun iv wr => ∃ k : Nat, k ≤ sPagesn ∧ iv = .int .i64 k ∧ versB sNum sPages = versB sNum (sPages.drop k) ∧ Below w0.heap.size w0 wr) (fun iv _ => sPagesn - (intOf iv).toNat)
            case atStart => exact ⟨0, by omega, rfl, by rw [List.drop_zero], h0w14⟩
            case round =>
              obtain ⟨k, hk, rfl, hv, hbw⟩ := hrel
              have hBr := hBw0.below hbw
              clear y0 y1 y2 y3 y4 y5 y6
              have HV := hide hv
              clear hv
              by_cases hlt : k < sPagesn
              · obtain ⟨p, hp⟩ : ∃ p, sPages[k]? = some p := ⟨_, List.getElem?_eq_getElem (by rw [HlP.out]; exact hlt)⟩
                obtain ⟨a, rfl, hat⟩ := (hrP.below hbw).some_of (xs := sPagesv) (by have := hP0.1; rw [this, HlP.out]; omega)
                obtain ⟨D, d, dc, e0, e1, e2, _⟩ := hP0.2 k p hp
                have z0 := rd3_0 hat e0
                have z1 := rd3_S (i := 0) hat e1
                have z2 := rd3_S (i := 1) hat e2
                obtain ⟨wa, hwa⟩ : ∃ y, wr.alloc (.cells #[.int .i64 p.1, .int .i64 p.2.1, .slice D d dc] 119) = y := ⟨_, rfl⟩
                have hba : Below wr.heap.size wr (wr.alloc (.cells #[.int .i64 p.1, .int .i64 p.2.1, .slice D d dc] 119)) := (Below.refl _ _).alloc (Nat.le_refl _) _
                have y0 := (hBr.below hba).cell (j := 0) rfl
                have hb0a := hbw.trans (hba.mono hbw.size)
                clear hat e0 e1 e2
                by_cases hver : p.2.1 ≤ sNum
                · have HS := hide (HV.out.trans (vers_step hp hver))
                  clear hp hwa
                  go_wp2
                  go_roundw
                  case rel => exact ⟨k + 1, by omega, by go_num, HS.out, hb0a⟩
                  case measure => simp [intOf]; omega
                · have HF := hide (HT.out.trans (vers_bad hp (by omega)))
                  clear hp hwa
                  go_wp2
                  go_ret
                  exact ⟨by rw [HF.out]; rfl, hbw0.trans (hb0a.mono hbw0.size)⟩
              · obtain rfl : k = sPagesn := by omega
                have HF := hide (HT.out.trans (HV.out.trans (show versB sNum (sPages.drop k) = true by rw [List.drop_eq_nil_of_le (by rw [HlP.out]; exact Nat.le_refl _)]; rfl)))
                go_wp2
                go_ret
                exact ⟨by rw [HF.out]; rfl, hbw0.trans (hbw.mono hbw0.size)⟩

set_option maxRecDepth 20000 in
set_option maxHeartbeats 3200000 in
theorem rstate_any {w : World} {Q : Nat → Prop} {x : StateD} {cs : List Value} (h : tyState.Is w Q x cs) : Calls Try.prog 79 #[.agg cs.toArray] w fun e w' => e = .returned (.int .i64 (stE x)) ∧ Below w.heap.size w w' := by
  obtain ⟨sNum, sShapeBlocks, sShapeSize, sPages, sPagesA, sPagesn, sPagesc, sPagesv, sRows, sRowsA, sRowsn, sRowsc, sRowsv, sGroupEpoch, sGroupMembers, sGroupMembersA, sGroupMembersn, sGroupMembersc, sGroupMembersv, rfl, rfl, h1_sNum, h2_sNum, h1_sShapeBlocks, h2_sShapeBlocks, h1_sShapeSize, h2_sShapeSize, hl_sPages, hc_sPages, hm_sPages, hr_sPages, hq_sPages, he_sPages, hl_sRows, hc_sRows, hm_sRows, hr_sRows, hq_sRows, he_sRows, h1_sGroupEpoch, h2_sGroupEpoch, hl_sGroupMembers, hc_sGroupMembers, hm_sGroupMembers, hr_sGroupMembers, hq_sGroupMembers, he_sGroupMembers⟩ := State_out h
  have hP := pg_of he_sPages
  have hE := rw_of he_sRows
  obtain ⟨hmi, _⟩ := i64rows he_sGroupMembers
  subst hmi
  obtain ⟨w0, hw0⟩ : ∃ x, w.alloc (.cells #[.int .i64 sNum, .int .i64 sShapeBlocks, .int .i64 sShapeSize, .slice sPagesA sPagesn sPagesc, .slice sRowsA sRowsn sRowsc, .int .i64 sGroupEpoch, .slice sGroupMembersA sGroupMembersn sGroupMembersc] 55) = x := ⟨_, rfl⟩; have hBw0 : Blk w0 w.heap.size [.int .i64 sNum, .int .i64 sShapeBlocks, .int .i64 sShapeSize, .slice sPagesA sPagesn sPagesc, .slice sRowsA sRowsn sRowsc, .int .i64 sGroupEpoch, .slice sGroupMembersA sGroupMembersn sGroupMembersc] 55 := (by rw [← hw0]; exact Blk.new w [.int .i64 sNum, .int .i64 sShapeBlocks, .int .i64 sShapeSize, .slice sPagesA sPagesn sPagesc, .slice sRowsA sRowsn sRowsc, .int .i64 sGroupEpoch, .slice sGroupMembersA sGroupMembersn sGroupMembersc] _); have hbw0 : Below w.heap.size w w0 := (by rw [← hw0]; exact (Below.refl _ _).alloc (Nat.le_refl _) _); have Hw0 := hide hw0; clear hw0
  have hP0 := hP.below hbw0
  have hE0 := hE.below hbw0
  have hrP := hr_sPages.below hbw0
  have hrE := hr_sRows.below hbw0
  have hrM := hr_sGroupMembers.below hbw0
  have HlP := hide hl_sPages
  have HlE := hide hl_sRows
  have HlM := hide hl_sGroupMembers
  clear hl_sPages hl_sRows hl_sGroupMembers hq_sPages hq_sRows hq_sGroupMembers he_sPages he_sRows he_sGroupMembers hP hE hr_sPages hr_sRows hr_sGroupMembers
  have y0 := Blk.cell hBw0 (j := 0) rfl; have y1 := Blk.cell hBw0 (j := 1) rfl; have y2 := Blk.cell hBw0 (j := 2) rfl; have y3 := Blk.cell hBw0 (j := 3) rfl; have y4 := Blk.cell hBw0 (j := 4) rfl; have y5 := Blk.cell hBw0 (j := 5) rfl; have y6 := Blk.cell hBw0 (j := 6) rfl
  cases h0 : numB sNum with
  | false =>
    have HF := hide (show stateB (sNum, (sShapeBlocks, sShapeSize), sPages, sRows, (sGroupEpoch, sGroupMembers)) = false by simp [stateB, h0])
    have H0 := hide h0
    clear h0
    have h0w10 := Below.refl w0.heap.size w0
    have r1 := numB_no H0.out
    rcases r1 with r1 | r1
    all_goals
      go_enter Try.func79, Try.ntmps79
      go_wp2
      go_ret
      exact ⟨by first | (rw [stE_no HF.out]; rfl) | (rw [stE_ok HF.out]; rfl), by rw [Hw0.out]; exact hbw0⟩
  | true =>
    cases h1 : (shE sShapeBlocks sShapeSize == 0) with
    | false =>
      have HF := hide (show stateB (sNum, (sShapeBlocks, sShapeSize), sPages, sRows, (sGroupEpoch, sGroupMembers)) = false by simp [stateB, h0, h1])
      have H0 := hide h0
      have H1 := hide h1
      clear h0 h1
      have h0w10 := Below.refl w0.heap.size w0
      obtain ⟨r1, r2⟩ := numB_out H0.out
      go_enter Try.func79, Try.ntmps79
      go_wp2_with fail
      rw [Hw0.out]
      go_fit (rshape_any sShapeBlocks sShapeSize w0)
      have q1 := shE_ne H1.out; generalize shE sShapeBlocks sShapeSize = E at q1 ⊢
      rintro xx w11 ⟨rfl, hbw11⟩
      have h0w11 := h0w10.trans (hbw11.mono h0w10.size)
      have hBw11 := hBw0.below h0w11
      clear y0 y1 y2 y3 y4 y5 y6
      have y0 := Blk.cell hBw11 (j := 0) rfl; have y1 := Blk.cell hBw11 (j := 1) rfl; have y2 := Blk.cell hBw11 (j := 2) rfl; have y3 := Blk.cell hBw11 (j := 3) rfl; have y4 := Blk.cell hBw11 (j := 4) rfl; have y5 := Blk.cell hBw11 (j := 5) rfl; have y6 := Blk.cell hBw11 (j := 6) rfl
      go_wp2
      go_ret
      exact ⟨by first | (rw [stE_no HF.out]; rfl) | (rw [stE_ok HF.out]; rfl), hbw0.trans (h0w11.mono hbw0.size)⟩
    | true =>
      cases h2 : mpA sShapeBlocks sShapeSize (-1) sPages with
      | false =>
        have HF := hide (show stateB (sNum, (sShapeBlocks, sShapeSize), sPages, sRows, (sGroupEpoch, sGroupMembers)) = false by simp [stateB, h0, h1, h2])
        have H0 := hide h0
        have H1 := hide h1
        have H2 := hide h2
        clear h0 h1 h2
        have h0w10 := Below.refl w0.heap.size w0
        obtain ⟨r1, r2⟩ := numB_out H0.out
        go_enter Try.func79, Try.ntmps79
        go_wp2_with fail
        rw [Hw0.out]
        go_fit (rshape_any sShapeBlocks sShapeSize w0)
        rw [shE_eq H1.out]
        rintro xx w11 ⟨rfl, hbw11⟩
        have h0w11 := h0w10.trans (hbw11.mono h0w10.size)
        have hBw11 := hBw0.below h0w11
        clear y0 y1 y2 y3 y4 y5 y6
        have y0 := Blk.cell hBw11 (j := 0) rfl; have y1 := Blk.cell hBw11 (j := 1) rfl; have y2 := Blk.cell hBw11 (j := 2) rfl; have y3 := Blk.cell hBw11 (j := 3) rfl; have y4 := Blk.cell hBw11 (j := 4) rfl; have y5 := Blk.cell hBw11 (j := 5) rfl; have y6 := Blk.cell hBw11 (j := 6) rfl
        go_wp2_with fail
        go_fit (rlaid_any sShapeBlocks sShapeSize sPagesA sPagesn sPagesc sPagesv sPages (fun _ => True) w11 HlP.out hc_sPages hm_sPages (hrP.below h0w11) (hP0.below h0w11))
        rw [H2.out]
        rintro xx w12 ⟨rfl, hbw12⟩
        have h0w12 := h0w11.trans (hbw12.mono h0w11.size)
        have hBw12 := hBw0.below h0w12
        clear y0 y1 y2 y3 y4 y5 y6
        have y0 := Blk.cell hBw12 (j := 0) rfl; have y1 := Blk.cell hBw12 (j := 1) rfl; have y2 := Blk.cell hBw12 (j := 2) rfl; have y3 := Blk.cell hBw12 (j := 3) rfl; have y4 := Blk.cell hBw12 (j := 4) rfl; have y5 := Blk.cell hBw12 (j := 5) rfl; have y6 := Blk.cell hBw12 (j := 6) rfl
        go_wp2
        go_ret
        exact ⟨by first | (rw [stE_no HF.out]; rfl) | (rw [stE_ok HF.out]; rfl), hbw0.trans (h0w12.mono hbw0.size)⟩
      | true =>
        cases h3 : rowsB sRows with
        | false =>
          have HF := hide (show stateB (sNum, (sShapeBlocks, sShapeSize), sPages, sRows, (sGroupEpoch, sGroupMembers)) = false by simp [stateB, h0, h1, h2, h3])
          have H0 := hide h0
          have H1 := hide h1
          have H2 := hide h2
          have H3 := hide h3
          clear h0 h1 h2 h3
          have h0w10 := Below.refl w0.heap.size w0
          obtain ⟨r1, r2⟩ := numB_out H0.out
          go_enter Try.func79, Try.ntmps79
          go_wp2_with fail
          rw [Hw0.out]
          go_fit (rshape_any sShapeBlocks sShapeSize w0)
          rw [shE_eq H1.out]
          rintro xx w11 ⟨rfl, hbw11⟩
          have h0w11 := h0w10.trans (hbw11.mono h0w10.size)
          have hBw11 := hBw0.below h0w11
          clear y0 y1 y2 y3 y4 y5 y6
          have y0 := Blk.cell hBw11 (j := 0) rfl; have y1 := Blk.cell hBw11 (j := 1) rfl; have y2 := Blk.cell hBw11 (j := 2) rfl; have y3 := Blk.cell hBw11 (j := 3) rfl; have y4 := Blk.cell hBw11 (j := 4) rfl; have y5 := Blk.cell hBw11 (j := 5) rfl; have y6 := Blk.cell hBw11 (j := 6) rfl
          go_wp2_with fail
          go_fit (rlaid_any sShapeBlocks sShapeSize sPagesA sPagesn sPagesc sPagesv sPages (fun _ => True) w11 HlP.out hc_sPages hm_sPages (hrP.below h0w11) (hP0.below h0w11))
          rw [H2.out]
          rintro xx w12 ⟨rfl, hbw12⟩
          have h0w12 := h0w11.trans (hbw12.mono h0w11.size)
          have hBw12 := hBw0.below h0w12
          clear y0 y1 y2 y3 y4 y5 y6
          have y0 := Blk.cell hBw12 (j := 0) rfl; have y1 := Blk.cell hBw12 (j := 1) rfl; have y2 := Blk.cell hBw12 (j := 2) rfl; have y3 := Blk.cell hBw12 (j := 3) rfl; have y4 := Blk.cell hBw12 (j := 4) rfl; have y5 := Blk.cell hBw12 (j := 5) rfl; have y6 := Blk.cell hBw12 (j := 6) rfl
          go_wp2_with fail
          go_fit (right_any sRowsA sRowsn sRowsc sRowsv sRows Q w12 HlE.out (hrE.below h0w12) (hE0.below h0w12))
          rw [H3.out]
          rintro xx w13 ⟨rfl, hbw13⟩
          have h0w13 := h0w12.trans (hbw13.mono h0w12.size)
          have hBw13 := hBw0.below h0w13
          clear y0 y1 y2 y3 y4 y5 y6
          have y0 := Blk.cell hBw13 (j := 0) rfl; have y1 := Blk.cell hBw13 (j := 1) rfl; have y2 := Blk.cell hBw13 (j := 2) rfl; have y3 := Blk.cell hBw13 (j := 3) rfl; have y4 := Blk.cell hBw13 (j := 4) rfl; have y5 := Blk.cell hBw13 (j := 5) rfl; have y6 := Blk.cell hBw13 (j := 6) rfl
          go_wp2
          go_ret
          exact ⟨by first | (rw [stE_no HF.out]; rfl) | (rw [stE_ok HF.out]; rfl), hbw0.trans (h0w13.mono hbw0.size)⟩
        | true =>
          cases h4 : grpOk sGroupEpoch sGroupMembers with
          | false =>
            have HF := hide (show stateB (sNum, (sShapeBlocks, sShapeSize), sPages, sRows, (sGroupEpoch, sGroupMembers)) = false by simp [stateB, h0, h1, h2, h3, h4])
            have H0 := hide h0
            have H1 := hide h1
            have H2 := hide h2
            have H3 := hide h3
            have H4 := hide h4
            clear h0 h1 h2 h3 h4
            have h0w10 := Below.refl w0.heap.size w0
            obtain ⟨r1, r2⟩ := numB_out H0.out
            go_enter Try.func79, Try.ntmps79
            go_wp2_with fail
            rw [Hw0.out]
            go_fit (rshape_any sShapeBlocks sShapeSize w0)
            rw [shE_eq H1.out]
            rintro xx w11 ⟨rfl, hbw11⟩
            have h0w11 := h0w10.trans (hbw11.mono h0w10.size)
            have hBw11 := hBw0.below h0w11
            clear y0 y1 y2 y3 y4 y5 y6
            have y0 := Blk.cell hBw11 (j := 0) rfl; have y1 := Blk.cell hBw11 (j := 1) rfl; have y2 := Blk.cell hBw11 (j := 2) rfl; have y3 := Blk.cell hBw11 (j := 3) rfl; have y4 := Blk.cell hBw11 (j := 4) rfl; have y5 := Blk.cell hBw11 (j := 5) rfl; have y6 := Blk.cell hBw11 (j := 6) rfl
            go_wp2_with fail
            go_fit (rlaid_any sShapeBlocks sShapeSize sPagesA sPagesn sPagesc sPagesv sPages (fun _ => True) w11 HlP.out hc_sPages hm_sPages (hrP.below h0w11) (hP0.below h0w11))
            rw [H2.out]
            rintro xx w12 ⟨rfl, hbw12⟩
            have h0w12 := h0w11.trans (hbw12.mono h0w11.size)
            have hBw12 := hBw0.below h0w12
            clear y0 y1 y2 y3 y4 y5 y6
            have y0 := Blk.cell hBw12 (j := 0) rfl; have y1 := Blk.cell hBw12 (j := 1) rfl; have y2 := Blk.cell hBw12 (j := 2) rfl; have y3 := Blk.cell hBw12 (j := 3) rfl; have y4 := Blk.cell hBw12 (j := 4) rfl; have y5 := Blk.cell hBw12 (j := 5) rfl; have y6 := Blk.cell hBw12 (j := 6) rfl
            go_wp2_with fail
            go_fit (right_any sRowsA sRowsn sRowsc sRowsv sRows Q w12 HlE.out (hrE.below h0w12) (hE0.below h0w12))
            rw [H3.out]
            rintro xx w13 ⟨rfl, hbw13⟩
            have h0w13 := h0w12.trans (hbw13.mono h0w12.size)
            have hBw13 := hBw0.below h0w13
            clear y0 y1 y2 y3 y4 y5 y6
            have y0 := Blk.cell hBw13 (j := 0) rfl; have y1 := Blk.cell hBw13 (j := 1) rfl; have y2 := Blk.cell hBw13 (j := 2) rfl; have y3 := Blk.cell hBw13 (j := 3) rfl; have y4 := Blk.cell hBw13 (j := 4) rfl; have y5 := Blk.cell hBw13 (j := 5) rfl; have y6 := Blk.cell hBw13 (j := 6) rfl
            go_wp2_with fail
            go_fit (rgroup_any sGroupEpoch sGroupMembersA sGroupMembersn sGroupMembersc sGroupMembers w13 HlM.out (hrM.below h0w13))
            rw [gE_bad H4.out]
            rintro xx w14 ⟨rfl, hbw14⟩
            have h0w14 := h0w13.trans (hbw14.mono h0w13.size)
            have hBw14 := hBw0.below h0w14
            clear y0 y1 y2 y3 y4 y5 y6
            have y0 := Blk.cell hBw14 (j := 0) rfl; have y1 := Blk.cell hBw14 (j := 1) rfl; have y2 := Blk.cell hBw14 (j := 2) rfl; have y3 := Blk.cell hBw14 (j := 3) rfl; have y4 := Blk.cell hBw14 (j := 4) rfl; have y5 := Blk.cell hBw14 (j := 5) rfl; have y6 := Blk.cell hBw14 (j := 6) rfl
            go_wp2
            go_ret
            exact ⟨by first | (rw [stE_no HF.out]; rfl) | (rw [stE_ok HF.out]; rfl), hbw0.trans (h0w14.mono hbw0.size)⟩
          | true =>
            have HT := hide (show stateB (sNum, (sShapeBlocks, sShapeSize), sPages, sRows, (sGroupEpoch, sGroupMembers)) = versB sNum sPages by simp [stateB, h0, h1, h2, h3, h4])
            have H0 := hide h0
            have H1 := hide h1
            have H2 := hide h2
            have H3 := hide h3
            have H4 := hide h4
            clear h0 h1 h2 h3 h4
            have h0w10 := Below.refl w0.heap.size w0
            obtain ⟨r1, r2⟩ := numB_out H0.out
            go_enter Try.func79, Try.ntmps79
            go_wp2_with fail
            rw [Hw0.out]
            go_fit (rshape_any sShapeBlocks sShapeSize w0)
            rw [shE_eq H1.out]
            rintro xx w11 ⟨rfl, hbw11⟩
            have h0w11 := h0w10.trans (hbw11.mono h0w10.size)
            have hBw11 := hBw0.below h0w11
            clear y0 y1 y2 y3 y4 y5 y6
            have y0 := Blk.cell hBw11 (j := 0) rfl; have y1 := Blk.cell hBw11 (j := 1) rfl; have y2 := Blk.cell hBw11 (j := 2) rfl; have y3 := Blk.cell hBw11 (j := 3) rfl; have y4 := Blk.cell hBw11 (j := 4) rfl; have y5 := Blk.cell hBw11 (j := 5) rfl; have y6 := Blk.cell hBw11 (j := 6) rfl
            go_wp2_with fail
            go_fit (rlaid_any sShapeBlocks sShapeSize sPagesA sPagesn sPagesc sPagesv sPages (fun _ => True) w11 HlP.out hc_sPages hm_sPages (hrP.below h0w11) (hP0.below h0w11))
            rw [H2.out]
            rintro xx w12 ⟨rfl, hbw12⟩
            have h0w12 := h0w11.trans (hbw12.mono h0w11.size)
            have hBw12 := hBw0.below h0w12
            clear y0 y1 y2 y3 y4 y5 y6
            have y0 := Blk.cell hBw12 (j := 0) rfl; have y1 := Blk.cell hBw12 (j := 1) rfl; have y2 := Blk.cell hBw12 (j := 2) rfl; have y3 := Blk.cell hBw12 (j := 3) rfl; have y4 := Blk.cell hBw12 (j := 4) rfl; have y5 := Blk.cell hBw12 (j := 5) rfl; have y6 := Blk.cell hBw12 (j := 6) rfl
            go_wp2_with fail
            go_fit (right_any sRowsA sRowsn sRowsc sRowsv sRows Q w12 HlE.out (hrE.below h0w12) (hE0.below h0w12))
            rw [H3.out]
            rintro xx w13 ⟨rfl, hbw13⟩
            have h0w13 := h0w12.trans (hbw13.mono h0w12.size)
            have hBw13 := hBw0.below h0w13
            clear y0 y1 y2 y3 y4 y5 y6
            have y0 := Blk.cell hBw13 (j := 0) rfl; have y1 := Blk.cell hBw13 (j := 1) rfl; have y2 := Blk.cell hBw13 (j := 2) rfl; have y3 := Blk.cell hBw13 (j := 3) rfl; have y4 := Blk.cell hBw13 (j := 4) rfl; have y5 := Blk.cell hBw13 (j := 5) rfl; have y6 := Blk.cell hBw13 (j := 6) rfl
            go_wp2_with fail
            go_fit (rgroup_any sGroupEpoch sGroupMembersA sGroupMembersn sGroupMembersc sGroupMembers w13 HlM.out (hrM.below h0w13))
            rw [gE_ok H4.out]
            rintro xx w14 ⟨rfl, hbw14⟩
            have h0w14 := h0w13.trans (hbw14.mono h0w13.size)
            have hBw14 := hBw0.below h0w14
            clear y0 y1 y2 y3 y4 y5 y6
            have y0 := Blk.cell hBw14 (j := 0) rfl; have y1 := Blk.cell hBw14 (j := 1) rfl; have y2 := Blk.cell hBw14 (j := 2) rfl; have y3 := Blk.cell hBw14 (j := 3) rfl; have y4 := Blk.cell hBw14 (j := 4) rfl; have y5 := Blk.cell hBw14 (j := 5) rfl; have y6 := Blk.cell hBw14 (j := 6) rfl
            go_wp2
            go_loopw [3] (fun iv wr => ∃ k : Nat, k ≤ sPagesn ∧ iv = .int .i64 k ∧ versB sNum sPages = versB sNum (sPages.drop k) ∧ Below w0.heap.size w0 wr) (fun iv _ => sPagesn - (intOf iv).toNat)
            case atStart => exact ⟨0, by omega, rfl, by rw [List.drop_zero], h0w14⟩
            case round =>
              obtain ⟨k, hk, rfl, hv, hbw⟩ := hrel
              have hBr := hBw0.below hbw
              clear y0 y1 y2 y3 y4 y5 y6
              have y0 := hBr.cell (j := 0) rfl
              have y3 := hBr.cell (j := 3) rfl
              have HV := hide hv
              clear hv
              by_cases hlt : k < sPagesn
              · obtain ⟨p, hp⟩ : ∃ p, sPages[k]? = some p := ⟨_, List.getElem?_eq_getElem (by rw [HlP.out]; exact hlt)⟩
                obtain ⟨a, rfl, hat⟩ := (hrP.below hbw).some_of (xs := sPagesv) (by have := hP0.1; rw [this, HlP.out]; omega)
                obtain ⟨D, d, dc, e0, e1, e2, _⟩ := hP0.2 k p hp
                have z1 := rd3_S (i := 0) hat e1
                clear hat e0 e1 e2
                by_cases hver : p.2.1 ≤ sNum
                · have HS := hide (HV.out.trans (vers_step hp hver))
                  have q : decide (sNum < p.2.1) = false := decide_eq_false (by omega)
                  clear hp hver
                  go_wp2
                  go_region
                  all_goals
                    go_wp2
                    go_roundw
                    case rel => exact ⟨k + 1, by omega, by go_num, HS.out, hbw.drew⟩
                    case measure => simp [intOf]; omega
                · have HF := hide (HT.out.trans (vers_bad hp (by omega)))
                  have q : decide (sNum < p.2.1) = true := decide_eq_true (by omega)
                  clear hp hver
                  go_wp2
                  go_region
                  all_goals
                    go_wp2
                    go_ret
                    exact ⟨by first | (rw [stE_no HF.out]; rfl) | (rw [stE_ok HF.out]; rfl), hbw0.trans (hbw.drew.mono hbw0.size)⟩
              · obtain rfl : k = sPagesn := by omega
                have HF := hide (HT.out.trans (HV.out.trans (show versB sNum (sPages.drop k) = true by rw [List.drop_eq_nil_of_le (by rw [HlP.out]; exact Nat.le_refl _)]; rfl)))
                go_wp2
                go_ret
                exact ⟨by first | (rw [stE_no HF.out]; rfl) | (rw [stE_ok HF.out]; rfl), hbw0.trans (hbw.mono hbw0.size)⟩

end Go.Proofs.Ytlcbelmbonaooaa
namespace Go.Proofs.Ytlcbelmbonaooaa
set_option maxRecDepth 20000
open Go.RowKit Go.Px Go.Maps
set_option linter.unusedVariables false
def ngB (ep : Int) (n : Nat) : Bool := (ep == 0) && ((n : Int) == 0)
def noB (k : Nat) (p n : Int) (ds os : List UInt8) : Bool := eqO k p n ds os 0 0 0 [] []
def kindB (e : EntryD) : Bool :=
  if e.1 = 1 then (fmE e.2.2.2.2.2.1.1 e.2.2.2.2.2.1.2.1 e.2.2.2.2.2.1.2.2.1 e.2.2.2.2.2.1.2.2.2.1.length e.2.2.2.2.2.1.2.2.2.2.length == 0) && ngB e.2.2.2.2.2.2.1 e.2.2.2.2.2.2.2.length
  else if e.1 = 2 then grpOk e.2.2.2.2.2.2.1 e.2.2.2.2.2.2.2 && noB e.2.2.2.2.2.1.1 e.2.2.2.2.2.1.2.1 e.2.2.2.2.2.1.2.2.1 e.2.2.2.2.2.1.2.2.2.1 e.2.2.2.2.2.1.2.2.2.2
  else false
/-- May an entry be? -/
def entryB (e : EntryD) : Bool := serB e.2.1 && (numB e.2.2.1 && (serB e.2.2.2.1 && (serB e.2.2.2.2.1 && kindB e)))
def enE (e : EntryD) : Int := if entryB e = true then 0 else 71
theorem enE_ok {e : EntryD} (h : entryB e = true) : enE e = 0 := if_pos h
theorem enE_no {e : EntryD} (h : entryB e = false) : enE e = 71 := if_neg (by rw [h]; decide)
set_option maxHeartbeats 800000 in
theorem noGroup_any (e : Int) (A : Option Addr) (n c : Nat) (w : World) : Calls Try.prog 34 #[grp e A n c] w fun x w' => x = .returned (.bool (ngB e n)) ∧ Below w.heap.size w w' := by
  have hb0 : Below w.heap.size w (w.alloc (.cells #[.int .i64 e, .slice A n c] 24)) := (Below.refl _ _).alloc (Nat.le_refl _) _
  rcases bool_two (e == 0) with q1 | q1
  · rcases bool_two ((n : Int) == 0) with q2 | q2
    all_goals
      have HF := hide (show ngB e n = ((n : Int) == 0) by unfold ngB; rw [q1]; rfl)
      rw [q2] at HF
      go_enter Try.func34, Try.ntmps34
      go_wp2
      go_ret
      exact ⟨by rw [HF.out]; rfl, hb0⟩
  · have HF := hide (show ngB e n = false by unfold ngB; rw [q1]; rfl)
    go_enter Try.func34, Try.ntmps34
    go_wp2
    go_ret
    exact ⟨by rw [HF.out]; rfl, hb0⟩
set_option maxHeartbeats 800000 in
theorem noOp_any (k : Nat) (p n : Int) (D : Option Addr) (d dc : Nat) (ds : List UInt8) (O : Option Addr) (o oc : Nat) (os : List UInt8) (w : World) (hd : ds.length = d) (ho : os.length = o) (hD : Rd w D (bys ds)) (hO : Rd w O (bys os)) :
    Calls Try.prog 33 #[opv k p n D d dc O o oc] w fun x w' => x = .returned (.bool (noB k p n ds os)) ∧ Below w.heap.size w w' := by
  have Hd := hide hd
  have Ho := hide ho
  clear hd ho
  obtain ⟨w0, hw0⟩ : ∃ x, w.alloc (.cells #[.int .u8 k, .int .i64 p, .int .i64 n, .slice D d dc, .slice O o oc] 28) = x := ⟨_, rfl⟩
  have hb0 : Below w.heap.size w w0 := by rw [← hw0]; exact (Below.refl _ _).alloc (Nat.le_refl _) _
  have Hw0 := hide hw0
  clear hw0
  go_enter Try.func33, Try.ntmps33
  go_wp2_with fail
  rw [Hw0.out]
  go_fit (osame_any k p n D d dc ds O o oc os 0 0 0 none 0 0 [] none 0 0 [] w0 Hd.out Ho.out rfl rfl (hD.below hb0) (hO.below hb0) Rd.nil Rd.nil)
  rintro xx w1 ⟨rfl, hb1⟩
  go_wp2
  go_ret
  exact ⟨rfl, hb0.trans (hb1.mono hb0.size)⟩

set_option maxRecDepth 20000 in
set_option maxHeartbeats 3200000 in
theorem mayEntry_any {w : World} {Q : Nat → Prop} {x : EntryD} {cs : List Value} (h : tyEntry.Is w Q x cs) : Calls Try.prog 90 #[.agg cs.toArray] w fun e w' => e = .returned (.bool (entryB x)) ∧ Below w.heap.size w w' := by
  obtain ⟨eKind, eNum, eView, eClient, eSerial, eOpKind, eOpAt, eOpN, eOpData, eOpDataA, eOpDatan, eOpDatac, eOpOld, eOpOldA, eOpOldn, eOpOldc, eGroupEpoch, eGroupMembers, eGroupMembersA, eGroupMembersn, eGroupMembersc, eGroupMembersv, rfl, rfl, hu_eKind, h1_eNum, h2_eNum, h1_eView, h2_eView, h1_eClient, h2_eClient, h1_eSerial, h2_eSerial, hu_eOpKind, h1_eOpAt, h2_eOpAt, h1_eOpN, h2_eOpN, hl_eOpData, hc_eOpData, hm_eOpData, hr_eOpData, hq_eOpData, hl_eOpOld, hc_eOpOld, hm_eOpOld, hr_eOpOld, hq_eOpOld, h1_eGroupEpoch, h2_eGroupEpoch, hl_eGroupMembers, hc_eGroupMembers, hm_eGroupMembers, hr_eGroupMembers, hq_eGroupMembers, he_eGroupMembers⟩ := Entry_out h
  obtain ⟨hmi, _⟩ := i64rows he_eGroupMembers
  subst hmi
  obtain ⟨w0, hw0⟩ : ∃ x, w.alloc (.cells #[.int .u8 eKind, .int .i64 eNum, .int .i64 eView, .int .i64 eClient, .int .i64 eSerial, .int .u8 eOpKind, .int .i64 eOpAt, .int .i64 eOpN, .slice eOpDataA eOpDatan eOpDatac, .slice eOpOldA eOpOldn eOpOldc, .int .i64 eGroupEpoch, .slice eGroupMembersA eGroupMembersn eGroupMembersc] 114) = x := ⟨_, rfl⟩; have hBw0 : Blk w0 w.heap.size [.int .u8 eKind, .int .i64 eNum, .int .i64 eView, .int .i64 eClient, .int .i64 eSerial, .int .u8 eOpKind, .int .i64 eOpAt, .int .i64 eOpN, .slice eOpDataA eOpDatan eOpDatac, .slice eOpOldA eOpOldn eOpOldc, .int .i64 eGroupEpoch, .slice eGroupMembersA eGroupMembersn eGroupMembersc] 114 := (by rw [← hw0]; exact Blk.new w [.int .u8 eKind, .int .i64 eNum, .int .i64 eView, .int .i64 eClient, .int .i64 eSerial, .int .u8 eOpKind, .int .i64 eOpAt, .int .i64 eOpN, .slice eOpDataA eOpDatan eOpDatac, .slice eOpOldA eOpOldn eOpOldc, .int .i64 eGroupEpoch, .slice eGroupMembersA eGroupMembersn eGroupMembersc] _); have hbw0 : Below w.heap.size w w0 := (by rw [← hw0]; exact (Below.refl _ _).alloc (Nat.le_refl _) _); have Hw0 := hide hw0; clear hw0
  have hrD := hr_eOpData.below hbw0
  have hrO := hr_eOpOld.below hbw0
  have hrM := hr_eGroupMembers.below hbw0
  have HlD := hide hl_eOpData
  have HlO := hide hl_eOpOld
  have HlM := hide hl_eGroupMembers
  clear hl_eOpData hl_eOpOld hl_eGroupMembers hq_eOpData hq_eOpOld hq_eGroupMembers he_eGroupMembers hr_eOpData hr_eOpOld hr_eGroupMembers
  have y0 := Blk.cell hBw0 (j := 0) rfl; have y1 := Blk.cell hBw0 (j := 1) rfl; have y2 := Blk.cell hBw0 (j := 2) rfl; have y3 := Blk.cell hBw0 (j := 3) rfl; have y4 := Blk.cell hBw0 (j := 4) rfl; have y5 := Blk.cell hBw0 (j := 5) rfl; have y6 := Blk.cell hBw0 (j := 6) rfl; have y7 := Blk.cell hBw0 (j := 7) rfl; have y8 := Blk.cell hBw0 (j := 8) rfl; have y9 := Blk.cell hBw0 (j := 9) rfl; have y10 := Blk.cell hBw0 (j := 10) rfl; have y11 := Blk.cell hBw0 (j := 11) rfl

  cases h0 : serB eNum with
  | false =>
    have HF := hide (show entryB (eKind, eNum, eView, eClient, eSerial, (eOpKind, eOpAt, eOpN, eOpData, eOpOld), (eGroupEpoch, eGroupMembers)) = false by simp [entryB, h0])
    have H0 := hide h0
    clear h0
    go_enter Try.func90, Try.ntmps90
    go_wp2_with fail
    rw [Hw0.out]
    go_fit (serial_any eNum w0)
    rw [H0.out]
    rintro xx wz ⟨rfl, rfl⟩
    go_wp2
    go_ret
    exact ⟨by rw [HF.out]; rfl, hbw0⟩
  | true =>
    cases h1 : numB eView with
    | false =>
      have HF := hide (show entryB (eKind, eNum, eView, eClient, eSerial, (eOpKind, eOpAt, eOpN, eOpData, eOpOld), (eGroupEpoch, eGroupMembers)) = false by simp [entryB, h0, h1])
      have H0 := hide h0
      have H1 := hide h1
      clear h0 h1
      go_enter Try.func90, Try.ntmps90
      go_wp2_with fail
      rw [Hw0.out]
      go_fit (serial_any eNum w0)
      rw [H0.out]
      rintro xx wz ⟨rfl, rfl⟩
      go_wp2_with fail
      go_fit (number_any eView w0)
      rw [H1.out]
      rintro xx wz ⟨rfl, rfl⟩
      go_wp2
      go_ret
      exact ⟨by rw [HF.out]; rfl, hbw0⟩
    | true =>
      cases h2 : serB eClient with
      | false =>
        have HF := hide (show entryB (eKind, eNum, eView, eClient, eSerial, (eOpKind, eOpAt, eOpN, eOpData, eOpOld), (eGroupEpoch, eGroupMembers)) = false by simp [entryB, h0, h1, h2])
        have H0 := hide h0
        have H1 := hide h1
        have H2 := hide h2
        clear h0 h1 h2
        go_enter Try.func90, Try.ntmps90
        go_wp2_with fail
        rw [Hw0.out]
        go_fit (serial_any eNum w0)
        rw [H0.out]
        rintro xx wz ⟨rfl, rfl⟩
        go_wp2_with fail
        go_fit (number_any eView w0)
        rw [H1.out]
        rintro xx wz ⟨rfl, rfl⟩
        go_wp2_with fail
        go_fit (serial_any eClient w0)
        rw [H2.out]
        rintro xx wz ⟨rfl, rfl⟩
        go_wp2
        go_ret
        exact ⟨by rw [HF.out]; rfl, hbw0⟩
      | true =>
        cases h3 : serB eSerial with
        | false =>
          have HF := hide (show entryB (eKind, eNum, eView, eClient, eSerial, (eOpKind, eOpAt, eOpN, eOpData, eOpOld), (eGroupEpoch, eGroupMembers)) = false by simp [entryB, h0, h1, h2, h3])
          have H0 := hide h0
          have H1 := hide h1
          have H2 := hide h2
          have H3 := hide h3
          clear h0 h1 h2 h3
          go_enter Try.func90, Try.ntmps90
          go_wp2_with fail
          rw [Hw0.out]
          go_fit (serial_any eNum w0)
          rw [H0.out]
          rintro xx wz ⟨rfl, rfl⟩
          go_wp2_with fail
          go_fit (number_any eView w0)
          rw [H1.out]
          rintro xx wz ⟨rfl, rfl⟩
          go_wp2_with fail
          go_fit (serial_any eClient w0)
          rw [H2.out]
          rintro xx wz ⟨rfl, rfl⟩
          go_wp2_with fail
          go_fit (serial_any eSerial w0)
          rw [H3.out]
          rintro xx wz ⟨rfl, rfl⟩
          go_wp2
          go_ret
          exact ⟨by rw [HF.out]; rfl, hbw0⟩
        | true =>
          have HT := hide (show entryB (eKind, eNum, eView, eClient, eSerial, (eOpKind, eOpAt, eOpN, eOpData, eOpOld), (eGroupEpoch, eGroupMembers)) = kindB (eKind, eNum, eView, eClient, eSerial, (eOpKind, eOpAt, eOpN, eOpData, eOpOld), (eGroupEpoch, eGroupMembers)) by simp [entryB, h0, h1, h2, h3])
          have H0 := hide h0
          have H1 := hide h1
          have H2 := hide h2
          have H3 := hide h3
          clear h0 h1 h2 h3
          by_cases hk1 : eKind = 1
          · have p1 : ((eKind : Int) == 1) = true := by simp [hk1]
            have HK := hide hk1
            clear hk1
            cases hf : (fmE eOpKind eOpAt eOpN eOpDatan eOpOldn == 0) with
            | false =>
              have HF := hide (show kindB (eKind, eNum, eView, eClient, eSerial, (eOpKind, eOpAt, eOpN, eOpData, eOpOld), (eGroupEpoch, eGroupMembers)) = false by unfold kindB; rw [if_pos HK.out, HlD.out, HlO.out, hf]; rfl)
              have q := hf
              clear hf
              go_enter Try.func90, Try.ntmps90
              go_wp2_with fail
              rw [Hw0.out]
              go_fit (serial_any eNum w0)
              rw [H0.out]
              rintro xx wz ⟨rfl, rfl⟩
              go_wp2_with fail
              go_fit (number_any eView w0)
              rw [H1.out]
              rintro xx wz ⟨rfl, rfl⟩
              go_wp2_with fail
              go_fit (serial_any eClient w0)
              rw [H2.out]
              rintro xx wz ⟨rfl, rfl⟩
              go_wp2_with fail
              go_fit (serial_any eSerial w0)
              rw [H3.out]
              rintro xx wz ⟨rfl, rfl⟩
              go_wp2_with fail
              go_fit (form_any eOpKind eOpAt eOpN eOpDataA eOpDatan eOpDatac eOpOldA eOpOldn eOpOldc w0 hu_eOpKind)
              rintro xx w1 ⟨rfl, hb1⟩
              go_wp2
              go_ret
              exact ⟨by rw [HT.out, HF.out]; rfl, hbw0.trans (hb1.mono hbw0.size)⟩
            | true =>
              have HF := hide (show kindB (eKind, eNum, eView, eClient, eSerial, (eOpKind, eOpAt, eOpN, eOpData, eOpOld), (eGroupEpoch, eGroupMembers)) = ngB eGroupEpoch eGroupMembersn by unfold kindB; rw [if_pos HK.out, HlD.out, HlO.out, hf, HlM.out]; rfl)
              have q := hf
              clear hf
              go_enter Try.func90, Try.ntmps90
              go_wp2_with fail
              rw [Hw0.out]
              go_fit (serial_any eNum w0)
              rw [H0.out]
              rintro xx wz ⟨rfl, rfl⟩
              go_wp2_with fail
              go_fit (number_any eView w0)
              rw [H1.out]
              rintro xx wz ⟨rfl, rfl⟩
              go_wp2_with fail
              go_fit (serial_any eClient w0)
              rw [H2.out]
              rintro xx wz ⟨rfl, rfl⟩
              go_wp2_with fail
              go_fit (serial_any eSerial w0)
              rw [H3.out]
              rintro xx wz ⟨rfl, rfl⟩
              go_wp2_with fail
              go_fit (form_any eOpKind eOpAt eOpN eOpDataA eOpDatan eOpDatac eOpOldA eOpOldn eOpOldc w0 hu_eOpKind)
              rintro xx w1 ⟨rfl, hb1⟩
              have hB1 := hBw0.below hb1
              clear y0 y1 y2 y3 y4 y5 y6 y7 y8 y9 y10 y11
              have y0 := Blk.cell hB1 (j := 0) rfl; have y1 := Blk.cell hB1 (j := 1) rfl; have y2 := Blk.cell hB1 (j := 2) rfl; have y3 := Blk.cell hB1 (j := 3) rfl; have y4 := Blk.cell hB1 (j := 4) rfl; have y5 := Blk.cell hB1 (j := 5) rfl; have y6 := Blk.cell hB1 (j := 6) rfl; have y7 := Blk.cell hB1 (j := 7) rfl; have y8 := Blk.cell hB1 (j := 8) rfl; have y9 := Blk.cell hB1 (j := 9) rfl; have y10 := Blk.cell hB1 (j := 10) rfl; have y11 := Blk.cell hB1 (j := 11) rfl
              go_wp2_with fail
              go_fit (noGroup_any eGroupEpoch eGroupMembersA eGroupMembersn eGroupMembersc w1)
              rintro xx w2 ⟨rfl, hb2⟩
              go_wp2
              go_ret
              exact ⟨by rw [HT.out, HF.out]; rfl, hbw0.trans ((hb1.trans (hb2.mono hb1.size)).mono hbw0.size)⟩
          · have p1 : ((eKind : Int) == 1) = false := by simpa using (by omega : ¬ (eKind : Int) = 1)
            by_cases hk2 : eKind = 2
            · have p2 : ((eKind : Int) == 2) = true := by simp [hk2]
              have HK := hide hk2
              have HK1 := hide hk1
              clear hk2 hk1
              cases hg : grpOk eGroupEpoch eGroupMembers with
              | false =>
                have HF := hide (show kindB (eKind, eNum, eView, eClient, eSerial, (eOpKind, eOpAt, eOpN, eOpData, eOpOld), (eGroupEpoch, eGroupMembers)) = false by unfold kindB; rw [if_neg HK1.out, if_pos HK.out]; simp only; rw [hg]; rfl)
                have HG := hide hg
                clear hg
                go_enter Try.func90, Try.ntmps90
                go_wp2_with fail
                rw [Hw0.out]
                go_fit (serial_any eNum w0)
                rw [H0.out]
                rintro xx wz ⟨rfl, rfl⟩
                go_wp2_with fail
                go_fit (number_any eView w0)
                rw [H1.out]
                rintro xx wz ⟨rfl, rfl⟩
                go_wp2_with fail
                go_fit (serial_any eClient w0)
                rw [H2.out]
                rintro xx wz ⟨rfl, rfl⟩
                go_wp2_with fail
                go_fit (serial_any eSerial w0)
                rw [H3.out]
                rintro xx wz ⟨rfl, rfl⟩
                go_wp2_with fail
                go_fit (mgroup_any eGroupEpoch eGroupMembersA eGroupMembersn eGroupMembersc eGroupMembers w0 HlM.out hrM)
                rw [HG.out]
                rintro xx w1 ⟨rfl, hb1⟩
                go_wp2
                go_ret
                exact ⟨by rw [HT.out, HF.out]; rfl, hbw0.trans (hb1.mono hbw0.size)⟩
              | true =>
                have HF := hide (show kindB (eKind, eNum, eView, eClient, eSerial, (eOpKind, eOpAt, eOpN, eOpData, eOpOld), (eGroupEpoch, eGroupMembers)) = noB eOpKind eOpAt eOpN eOpData eOpOld by unfold kindB; rw [if_neg HK1.out, if_pos HK.out]; simp only; rw [hg]; rfl)
                have HG := hide hg
                clear hg
                go_enter Try.func90, Try.ntmps90
                go_wp2_with fail
                rw [Hw0.out]
                go_fit (serial_any eNum w0)
                rw [H0.out]
                rintro xx wz ⟨rfl, rfl⟩
                go_wp2_with fail
                go_fit (number_any eView w0)
                rw [H1.out]
                rintro xx wz ⟨rfl, rfl⟩
                go_wp2_with fail
                go_fit (serial_any eClient w0)
                rw [H2.out]
                rintro xx wz ⟨rfl, rfl⟩
                go_wp2_with fail
                go_fit (serial_any eSerial w0)
                rw [H3.out]
                rintro xx wz ⟨rfl, rfl⟩
                go_wp2_with fail
                go_fit (mgroup_any eGroupEpoch eGroupMembersA eGroupMembersn eGroupMembersc eGroupMembers w0 HlM.out hrM)
                rw [HG.out]
                rintro xx w1 ⟨rfl, hb1⟩
                have hB1 := hBw0.below hb1
                clear y0 y1 y2 y3 y4 y5 y6 y7 y8 y9 y10 y11
                have y0 := Blk.cell hB1 (j := 0) rfl; have y1 := Blk.cell hB1 (j := 1) rfl; have y2 := Blk.cell hB1 (j := 2) rfl; have y3 := Blk.cell hB1 (j := 3) rfl; have y4 := Blk.cell hB1 (j := 4) rfl; have y5 := Blk.cell hB1 (j := 5) rfl; have y6 := Blk.cell hB1 (j := 6) rfl; have y7 := Blk.cell hB1 (j := 7) rfl; have y8 := Blk.cell hB1 (j := 8) rfl; have y9 := Blk.cell hB1 (j := 9) rfl; have y10 := Blk.cell hB1 (j := 10) rfl; have y11 := Blk.cell hB1 (j := 11) rfl
                go_wp2_with fail
                go_fit (noOp_any eOpKind eOpAt eOpN eOpDataA eOpDatan eOpDatac eOpData eOpOldA eOpOldn eOpOldc eOpOld w1 HlD.out HlO.out (hrD.below hb1) (hrO.below hb1))
                rintro xx w2 ⟨rfl, hb2⟩
                go_wp2
                go_ret
                exact ⟨by rw [HT.out, HF.out]; rfl, hbw0.trans ((hb1.trans (hb2.mono hb1.size)).mono hbw0.size)⟩
            · have p2 : ((eKind : Int) == 2) = false := by simpa using (by omega : ¬ (eKind : Int) = 2)
              have HF := hide (show kindB (eKind, eNum, eView, eClient, eSerial, (eOpKind, eOpAt, eOpN, eOpData, eOpOld), (eGroupEpoch, eGroupMembers)) = false by unfold kindB; rw [if_neg hk1, if_neg hk2])
              clear hk1 hk2
              go_enter Try.func90, Try.ntmps90
              go_wp2_with fail
              rw [Hw0.out]
              go_fit (serial_any eNum w0)
              rw [H0.out]
              rintro xx wz ⟨rfl, rfl⟩
              go_wp2_with fail
              go_fit (number_any eView w0)
              rw [H1.out]
              rintro xx wz ⟨rfl, rfl⟩
              go_wp2_with fail
              go_fit (serial_any eClient w0)
              rw [H2.out]
              rintro xx wz ⟨rfl, rfl⟩
              go_wp2_with fail
              go_fit (serial_any eSerial w0)
              rw [H3.out]
              rintro xx wz ⟨rfl, rfl⟩
              go_wp2
              go_ret
              exact ⟨by rw [HT.out, HF.out]; rfl, hbw0⟩

end Go.Proofs.Ytlcbelmbonaooaa
