/- Texts joined (shake.py). -/
import Derived.Test.YtkknkdjdneldlaaGreatK61
import Derived.Test.YtkknkdjdneldlaaGreatK62
import Derived.Test.YtkknkdjdneldlaaGreatK64
import Derived.Test.YtkknkdjdneldlaaGreatK66
import Derived.Test.YtkknkdjdneldlaaGreatK67
namespace Go.Proofs.YtkknkdjdneldlaaGreat
set_option maxRecDepth 20000
open Go.RowKit Go.Px Go.Maps
set_option linter.unusedVariables false
theorem pg_of {w : World} {Q : Nat → Prop} {ps : List PageD} {vs : List Value} (h : tyPage.Rows w Q ps vs) : PgRows w (fun _ => True) vs ps := by
  refine ⟨h.1, fun j p hp => ?_⟩
  obtain ⟨cs, hI, hc⟩ := h.get hp
  obtain ⟨pAt, pVersion, pData, pDataA, pDatan, pDatac, rfl, rfl, h1_pAt, h2_pAt, h1_pVersion, h2_pVersion, hl_pData, hc_pData, hm_pData, hr_pData, hq_pData⟩ := Page_out hI
  exact ⟨pDataA, pDatan, pDatac, hc 0 _ rfl, hc 1 _ rfl, hc 2 _ rfl, hl_pData, hc_pData, hm_pData, hr_pData, fun _ _ => trivial⟩
theorem rw_of {w : World} {Q : Nat → Prop} {es : List RowD} {vs : List Value} (h : tyRow.Rows w Q es vs) : RwRows w Q vs es := by
  refine ⟨h.1, fun j e he => ?_⟩
  obtain ⟨cs, hI, hc⟩ := h.get he
  obtain ⟨pClient, pSerial, pResultCode, pResultData, pResultDataA, pResultDatan, pResultDatac, rfl, rfl, h1_pClient, h2_pClient, h1_pSerial, h2_pSerial, hu_pResultCode, hl_pResultData, hc_pResultData, hm_pResultData, hr_pResultData, hq_pResultData⟩ := Row_out hI
  exact ⟨pResultDataA, pResultDatan, pResultDatac, hc 0 _ rfl, hc 1 _ rfl, hc 2 _ rfl, hc 3 _ rfl, hu_pResultCode, hl_pResultData, hc_pResultData, hm_pResultData, hr_pResultData, hq_pResultData⟩
/-- May a state be? -/
def versB (num : Int) (ps : List PageD) : Bool := ps.all fun p => decide (p.2.1 ≤ num)
def stateB (x : StateD) : Bool := numB x.1 && ((shE x.2.1.1 x.2.1.2 == 0) && (mpA x.2.1.1 x.2.1.2 (-1) x.2.2.1 && (rowsB x.2.2.2.1 && (grpOk x.2.2.2.2.1 x.2.2.2.2.2 && versB x.1 x.2.2.1))))
theorem vers_step {num : Int} {ps : List PageD} {k : Nat} {p : PageD} (h : ps[k]? = some p) (hv : p.2.1 ≤ num) : versB num (ps.drop k) = versB num (ps.drop (k + 1)) := by
  rw [drop_cons h]; unfold versB; rw [List.all_cons, decide_eq_true hv, Bool.true_and]
theorem vers_bad {num : Int} {ps : List PageD} {k : Nat} {p : PageD} (h : ps[k]? = some p) (hv : num < p.2.1) : versB num ps = false := by
  unfold versB
  rw [List.all_eq_false]
  exact ⟨p, List.mem_of_getElem? h, by simpa using hv⟩

theorem numB_out {v : Int} (h : numB v = true) : 0 ≤ v ∧ v ≤ 4611686018427387904 := of_decide_eq_true h
theorem shE_ne {b z : Int} (h : (shE b z == 0) = false) : (shE b z != 0) = true := by simp only [bne, h]; rfl
theorem shE_eq {b z : Int} (h : (shE b z == 0) = true) : shE b z = 0 := by simpa using h

set_option maxRecDepth 20000 in
set_option maxHeartbeats 3200000 in
theorem mayState_any {w : World} {Q : Nat → Prop} {x : StateD} {cs : List Value} (h : tyState.Is w Q x cs) : Calls Tryz.prog 58 #[.agg cs.toArray] w fun e w' => e = .returned (.bool (stateB x)) ∧ Below w.heap.size w w' := by
  obtain ⟨sNum, sShapeBlocks, sShapeSize, sPages, sPagesA, sPagesn, sPagesc, sPagesv, sRows, sRowsA, sRowsn, sRowsc, sRowsv, sGroupEpoch, sGroupMembers, sGroupMembersA, sGroupMembersn, sGroupMembersc, sGroupMembersv, rfl, rfl, h1_sNum, h2_sNum, h1_sShapeBlocks, h2_sShapeBlocks, h1_sShapeSize, h2_sShapeSize, hl_sPages, hc_sPages, hm_sPages, hr_sPages, hq_sPages, he_sPages, hl_sRows, hc_sRows, hm_sRows, hr_sRows, hq_sRows, he_sRows, h1_sGroupEpoch, h2_sGroupEpoch, hl_sGroupMembers, hc_sGroupMembers, hm_sGroupMembers, hr_sGroupMembers, hq_sGroupMembers, he_sGroupMembers⟩ := State_out h
  have hP := pg_of he_sPages
  have hE := rw_of he_sRows
  obtain ⟨hmi, _⟩ := i64rows he_sGroupMembers
  subst hmi
  obtain ⟨w0, hw0⟩ : ∃ x, w.alloc (.cells #[.int .i64 sNum, .int .i64 sShapeBlocks, .int .i64 sShapeSize, .slice sPagesA sPagesn sPagesc, .slice sRowsA sRowsn sRowsc, .int .i64 sGroupEpoch, .slice sGroupMembersA sGroupMembersn sGroupMembersc] 30) = x := ⟨_, rfl⟩; have hBw0 : Blk w0 w.heap.size [.int .i64 sNum, .int .i64 sShapeBlocks, .int .i64 sShapeSize, .slice sPagesA sPagesn sPagesc, .slice sRowsA sRowsn sRowsc, .int .i64 sGroupEpoch, .slice sGroupMembersA sGroupMembersn sGroupMembersc] 30 := (by rw [← hw0]; exact Blk.new w [.int .i64 sNum, .int .i64 sShapeBlocks, .int .i64 sShapeSize, .slice sPagesA sPagesn sPagesc, .slice sRowsA sRowsn sRowsc, .int .i64 sGroupEpoch, .slice sGroupMembersA sGroupMembersn sGroupMembersc] _); have hbw0 : Below w.heap.size w w0 := (by rw [← hw0]; exact (Below.refl _ _).alloc (Nat.le_refl _) _); have Hw0 := hide hw0; clear hw0
  have hP0 := hP.below hbw0
  have hE0 := hE.below hbw0
  have hrP := hr_sPages.below hbw0
  have hrE := hr_sRows.below hbw0
  have hrM := hr_sGroupMembers.below hbw0
  have HlP := hide hl_sPages
  have HlE := hide hl_sRows
  have HlM := hide hl_sGroupMembers
  clear hl_sPages hl_sRows hl_sGroupMembers hq_sPages hq_sRows hq_sGroupMembers he_sPages he_sRows he_sGroupMembers hP hE hr_sPages hr_sRows hr_sGroupMembers
  have y0 := Blk.cell hBw0 (j := 0) rfl; have y1 := Blk.cell hBw0 (j := 1) rfl; have y2 := Blk.cell hBw0 (j := 2) rfl; have y3 := Blk.cell hBw0 (j := 3) rfl; have y4 := Blk.cell hBw0 (j := 4) rfl; have y5 := Blk.cell hBw0 (j := 5) rfl; have y6 := Blk.cell hBw0 (j := 6) rfl
  cases h0 : numB sNum with
  | false =>
    have HF := hide (show stateB (sNum, (sShapeBlocks, sShapeSize), sPages, sRows, (sGroupEpoch, sGroupMembers)) = false by simp [stateB, h0])
    have H0 := hide h0
    clear h0
    have h0w10 := Below.refl w0.heap.size w0
    go_enter Tryz.func58, Tryz.ntmps58
    go_wp2_with fail
    rw [Hw0.out]
    go_fit (number_any sNum w0)
    rw [H0.out]
    rintro xx wz ⟨rfl, rfl⟩
    go_wp2
    go_ret
    exact ⟨by rw [HF.out]; rfl, hbw0.trans (h0w10.mono hbw0.size)⟩
  | true =>
    cases h1 : (shE sShapeBlocks sShapeSize == 0) with
    | false =>
      have HF := hide (show stateB (sNum, (sShapeBlocks, sShapeSize), sPages, sRows, (sGroupEpoch, sGroupMembers)) = false by simp [stateB, h0, h1])
      have H0 := hide h0
      have H1 := hide h1
      clear h0 h1
      have h0w10 := Below.refl w0.heap.size w0
      go_enter Tryz.func58, Tryz.ntmps58
      go_wp2_with fail
      rw [Hw0.out]
      go_fit (number_any sNum w0)
      rw [H0.out]
      rintro xx wz ⟨rfl, rfl⟩
      go_wp2_with fail
      go_fit (shape_any sShapeBlocks sShapeSize w0)
      have q1 := shE_ne H1.out; generalize shE sShapeBlocks sShapeSize = E at q1 ⊢
      rintro xx w11 ⟨rfl, hbw11⟩
      have h0w11 := h0w10.trans (hbw11.mono h0w10.size)
      have hBw11 := hBw0.below h0w11
      clear y0 y1 y2 y3 y4 y5 y6
      have y0 := Blk.cell hBw11 (j := 0) rfl; have y1 := Blk.cell hBw11 (j := 1) rfl; have y2 := Blk.cell hBw11 (j := 2) rfl; have y3 := Blk.cell hBw11 (j := 3) rfl; have y4 := Blk.cell hBw11 (j := 4) rfl; have y5 := Blk.cell hBw11 (j := 5) rfl; have y6 := Blk.cell hBw11 (j := 6) rfl
      go_wp2
      go_ret
      exact ⟨by rw [HF.out]; rfl, hbw0.trans (h0w11.mono hbw0.size)⟩
    | true =>
      cases h2 : mpA sShapeBlocks sShapeSize (-1) sPages with
      | false =>
        have HF := hide (show stateB (sNum, (sShapeBlocks, sShapeSize), sPages, sRows, (sGroupEpoch, sGroupMembers)) = false by simp [stateB, h0, h1, h2])
        have H0 := hide h0
        have H1 := hide h1
        have H2 := hide h2
        clear h0 h1 h2
        have h0w10 := Below.refl w0.heap.size w0
        go_enter Tryz.func58, Tryz.ntmps58
        go_wp2_with fail
        rw [Hw0.out]
        go_fit (number_any sNum w0)
        rw [H0.out]
        rintro xx wz ⟨rfl, rfl⟩
        go_wp2_with fail
        go_fit (shape_any sShapeBlocks sShapeSize w0)
        rw [shE_eq H1.out]
        rintro xx w11 ⟨rfl, hbw11⟩
        have h0w11 := h0w10.trans (hbw11.mono h0w10.size)
        have hBw11 := hBw0.below h0w11
        clear y0 y1 y2 y3 y4 y5 y6
        have y0 := Blk.cell hBw11 (j := 0) rfl; have y1 := Blk.cell hBw11 (j := 1) rfl; have y2 := Blk.cell hBw11 (j := 2) rfl; have y3 := Blk.cell hBw11 (j := 3) rfl; have y4 := Blk.cell hBw11 (j := 4) rfl; have y5 := Blk.cell hBw11 (j := 5) rfl; have y6 := Blk.cell hBw11 (j := 6) rfl
        go_wp2_with fail
        go_fit (mayPages_any sShapeBlocks sShapeSize sPagesA sPagesn sPagesc sPagesv sPages (fun _ => True) w11 HlP.out hc_sPages hm_sPages (hrP.below h0w11) (hP0.below h0w11))
        rw [H2.out]
        rintro xx w12 ⟨rfl, hbw12⟩
        have h0w12 := h0w11.trans (hbw12.mono h0w11.size)
        have hBw12 := hBw0.below h0w12
        clear y0 y1 y2 y3 y4 y5 y6
        have y0 := Blk.cell hBw12 (j := 0) rfl; have y1 := Blk.cell hBw12 (j := 1) rfl; have y2 := Blk.cell hBw12 (j := 2) rfl; have y3 := Blk.cell hBw12 (j := 3) rfl; have y4 := Blk.cell hBw12 (j := 4) rfl; have y5 := Blk.cell hBw12 (j := 5) rfl; have y6 := Blk.cell hBw12 (j := 6) rfl
        go_wp2
        go_ret
        exact ⟨by rw [HF.out]; rfl, hbw0.trans (h0w12.mono hbw0.size)⟩
      | true =>
        cases h3 : rowsB sRows with
        | false =>
          have HF := hide (show stateB (sNum, (sShapeBlocks, sShapeSize), sPages, sRows, (sGroupEpoch, sGroupMembers)) = false by simp [stateB, h0, h1, h2, h3])
          have H0 := hide h0
          have H1 := hide h1
          have H2 := hide h2
          have H3 := hide h3
          clear h0 h1 h2 h3
          have h0w10 := Below.refl w0.heap.size w0
          go_enter Tryz.func58, Tryz.ntmps58
          go_wp2_with fail
          rw [Hw0.out]
          go_fit (number_any sNum w0)
          rw [H0.out]
          rintro xx wz ⟨rfl, rfl⟩
          go_wp2_with fail
          go_fit (shape_any sShapeBlocks sShapeSize w0)
          rw [shE_eq H1.out]
          rintro xx w11 ⟨rfl, hbw11⟩
          have h0w11 := h0w10.trans (hbw11.mono h0w10.size)
          have hBw11 := hBw0.below h0w11
          clear y0 y1 y2 y3 y4 y5 y6
          have y0 := Blk.cell hBw11 (j := 0) rfl; have y1 := Blk.cell hBw11 (j := 1) rfl; have y2 := Blk.cell hBw11 (j := 2) rfl; have y3 := Blk.cell hBw11 (j := 3) rfl; have y4 := Blk.cell hBw11 (j := 4) rfl; have y5 := Blk.cell hBw11 (j := 5) rfl; have y6 := Blk.cell hBw11 (j := 6) rfl
          go_wp2_with fail
          go_fit (mayPages_any sShapeBlocks sShapeSize sPagesA sPagesn sPagesc sPagesv sPages (fun _ => True) w11 HlP.out hc_sPages hm_sPages (hrP.below h0w11) (hP0.below h0w11))
          rw [H2.out]
          rintro xx w12 ⟨rfl, hbw12⟩
          have h0w12 := h0w11.trans (hbw12.mono h0w11.size)
          have hBw12 := hBw0.below h0w12
          clear y0 y1 y2 y3 y4 y5 y6
          have y0 := Blk.cell hBw12 (j := 0) rfl; have y1 := Blk.cell hBw12 (j := 1) rfl; have y2 := Blk.cell hBw12 (j := 2) rfl; have y3 := Blk.cell hBw12 (j := 3) rfl; have y4 := Blk.cell hBw12 (j := 4) rfl; have y5 := Blk.cell hBw12 (j := 5) rfl; have y6 := Blk.cell hBw12 (j := 6) rfl
          go_wp2_with fail
          go_fit (mayRows_any sRowsA sRowsn sRowsc sRowsv sRows Q w12 HlE.out (hrE.below h0w12) (hE0.below h0w12))
          rw [H3.out]
          rintro xx w13 ⟨rfl, hbw13⟩
          have h0w13 := h0w12.trans (hbw13.mono h0w12.size)
          have hBw13 := hBw0.below h0w13
          clear y0 y1 y2 y3 y4 y5 y6
          have y0 := Blk.cell hBw13 (j := 0) rfl; have y1 := Blk.cell hBw13 (j := 1) rfl; have y2 := Blk.cell hBw13 (j := 2) rfl; have y3 := Blk.cell hBw13 (j := 3) rfl; have y4 := Blk.cell hBw13 (j := 4) rfl; have y5 := Blk.cell hBw13 (j := 5) rfl; have y6 := Blk.cell hBw13 (j := 6) rfl
          go_wp2
          go_ret
          exact ⟨by rw [HF.out]; rfl, hbw0.trans (h0w13.mono hbw0.size)⟩
        | true =>
          cases h4 : grpOk sGroupEpoch sGroupMembers with
          | false =>
            have HF := hide (show stateB (sNum, (sShapeBlocks, sShapeSize), sPages, sRows, (sGroupEpoch, sGroupMembers)) = false by simp [stateB, h0, h1, h2, h3, h4])
            have H0 := hide h0
            have H1 := hide h1
            have H2 := hide h2
            have H3 := hide h3
            have H4 := hide h4
            clear h0 h1 h2 h3 h4
            have h0w10 := Below.refl w0.heap.size w0
            go_enter Tryz.func58, Tryz.ntmps58
            go_wp2_with fail
            rw [Hw0.out]
            go_fit (number_any sNum w0)
            rw [H0.out]
            rintro xx wz ⟨rfl, rfl⟩
            go_wp2_with fail
            go_fit (shape_any sShapeBlocks sShapeSize w0)
            rw [shE_eq H1.out]
            rintro xx w11 ⟨rfl, hbw11⟩
            have h0w11 := h0w10.trans (hbw11.mono h0w10.size)
            have hBw11 := hBw0.below h0w11
            clear y0 y1 y2 y3 y4 y5 y6
            have y0 := Blk.cell hBw11 (j := 0) rfl; have y1 := Blk.cell hBw11 (j := 1) rfl; have y2 := Blk.cell hBw11 (j := 2) rfl; have y3 := Blk.cell hBw11 (j := 3) rfl; have y4 := Blk.cell hBw11 (j := 4) rfl; have y5 := Blk.cell hBw11 (j := 5) rfl; have y6 := Blk.cell hBw11 (j := 6) rfl
            go_wp2_with fail
            go_fit (mayPages_any sShapeBlocks sShapeSize sPagesA sPagesn sPagesc sPagesv sPages (fun _ => True) w11 HlP.out hc_sPages hm_sPages (hrP.below h0w11) (hP0.below h0w11))
            rw [H2.out]
            rintro xx w12 ⟨rfl, hbw12⟩
            have h0w12 := h0w11.trans (hbw12.mono h0w11.size)
            have hBw12 := hBw0.below h0w12
            clear y0 y1 y2 y3 y4 y5 y6
            have y0 := Blk.cell hBw12 (j := 0) rfl; have y1 := Blk.cell hBw12 (j := 1) rfl; have y2 := Blk.cell hBw12 (j := 2) rfl; have y3 := Blk.cell hBw12 (j := 3) rfl; have y4 := Blk.cell hBw12 (j := 4) rfl; have y5 := Blk.cell hBw12 (j := 5) rfl; have y6 := Blk.cell hBw12 (j := 6) rfl
            go_wp2_with fail
            go_fit (mayRows_any sRowsA sRowsn sRowsc sRowsv sRows Q w12 HlE.out (hrE.below h0w12) (hE0.below h0w12))
            rw [H3.out]
            rintro xx w13 ⟨rfl, hbw13⟩
            have h0w13 := h0w12.trans (hbw13.mono h0w12.size)
            have hBw13 := hBw0.below h0w13
            clear y0 y1 y2 y3 y4 y5 y6
            have y0 := Blk.cell hBw13 (j := 0) rfl; have y1 := Blk.cell hBw13 (j := 1) rfl; have y2 := Blk.cell hBw13 (j := 2) rfl; have y3 := Blk.cell hBw13 (j := 3) rfl; have y4 := Blk.cell hBw13 (j := 4) rfl; have y5 := Blk.cell hBw13 (j := 5) rfl; have y6 := Blk.cell hBw13 (j := 6) rfl
            go_wp2_with fail
            go_fit (mgroup_any sGroupEpoch sGroupMembersA sGroupMembersn sGroupMembersc sGroupMembers w13 HlM.out (hrM.below h0w13))
            rw [H4.out]
            rintro xx w14 ⟨rfl, hbw14⟩
            have h0w14 := h0w13.trans (hbw14.mono h0w13.size)
            have hBw14 := hBw0.below h0w14
            clear y0 y1 y2 y3 y4 y5 y6
            have y0 := Blk.cell hBw14 (j := 0) rfl; have y1 := Blk.cell hBw14 (j := 1) rfl; have y2 := Blk.cell hBw14 (j := 2) rfl; have y3 := Blk.cell hBw14 (j := 3) rfl; have y4 := Blk.cell hBw14 (j := 4) rfl; have y5 := Blk.cell hBw14 (j := 5) rfl; have y6 := Blk.cell hBw14 (j := 6) rfl
            go_wp2
            go_ret
            exact ⟨by rw [HF.out]; rfl, hbw0.trans (h0w14.mono hbw0.size)⟩
          | true =>
            have HT := hide (show stateB (sNum, (sShapeBlocks, sShapeSize), sPages, sRows, (sGroupEpoch, sGroupMembers)) = versB sNum sPages by simp [stateB, h0, h1, h2, h3, h4])
            have H0 := hide h0
            have H1 := hide h1
            have H2 := hide h2
            have H3 := hide h3
            have H4 := hide h4
            clear h0 h1 h2 h3 h4
            have h0w10 := Below.refl w0.heap.size w0
            go_enter Tryz.func58, Tryz.ntmps58
            go_wp2_with fail
            rw [Hw0.out]
            go_fit (number_any sNum w0)
            rw [H0.out]
            rintro xx wz ⟨rfl, rfl⟩
            go_wp2_with fail
            go_fit (shape_any sShapeBlocks sShapeSize w0)
            rw [shE_eq H1.out]
            rintro xx w11 ⟨rfl, hbw11⟩
            have h0w11 := h0w10.trans (hbw11.mono h0w10.size)
            have hBw11 := hBw0.below h0w11
            clear y0 y1 y2 y3 y4 y5 y6
            have y0 := Blk.cell hBw11 (j := 0) rfl; have y1 := Blk.cell hBw11 (j := 1) rfl; have y2 := Blk.cell hBw11 (j := 2) rfl; have y3 := Blk.cell hBw11 (j := 3) rfl; have y4 := Blk.cell hBw11 (j := 4) rfl; have y5 := Blk.cell hBw11 (j := 5) rfl; have y6 := Blk.cell hBw11 (j := 6) rfl
            go_wp2_with fail
            go_fit (mayPages_any sShapeBlocks sShapeSize sPagesA sPagesn sPagesc sPagesv sPages (fun _ => True) w11 HlP.out hc_sPages hm_sPages (hrP.below h0w11) (hP0.below h0w11))
            rw [H2.out]
            rintro xx w12 ⟨rfl, hbw12⟩
            have h0w12 := h0w11.trans (hbw12.mono h0w11.size)
            have hBw12 := hBw0.below h0w12
            clear y0 y1 y2 y3 y4 y5 y6
            have y0 := Blk.cell hBw12 (j := 0) rfl; have y1 := Blk.cell hBw12 (j := 1) rfl; have y2 := Blk.cell hBw12 (j := 2) rfl; have y3 := Blk.cell hBw12 (j := 3) rfl; have y4 := Blk.cell hBw12 (j := 4) rfl; have y5 := Blk.cell hBw12 (j := 5) rfl; have y6 := Blk.cell hBw12 (j := 6) rfl
            go_wp2_with fail
            go_fit (mayRows_any sRowsA sRowsn sRowsc sRowsv sRows Q w12 HlE.out (hrE.below h0w12) (hE0.below h0w12))
            rw [H3.out]
            rintro xx w13 ⟨rfl, hbw13⟩
            have h0w13 := h0w12.trans (hbw13.mono h0w12.size)
            have hBw13 := hBw0.below h0w13
            clear y0 y1 y2 y3 y4 y5 y6
            have y0 := Blk.cell hBw13 (j := 0) rfl; have y1 := Blk.cell hBw13 (j := 1) rfl; have y2 := Blk.cell hBw13 (j := 2) rfl; have y3 := Blk.cell hBw13 (j := 3) rfl; have y4 := Blk.cell hBw13 (j := 4) rfl; have y5 := Blk.cell hBw13 (j := 5) rfl; have y6 := Blk.cell hBw13 (j := 6) rfl
            go_wp2_with fail
            go_fit (mgroup_any sGroupEpoch sGroupMembersA sGroupMembersn sGroupMembersc sGroupMembers w13 HlM.out (hrM.below h0w13))
            rw [H4.out]
            rintro xx w14 ⟨rfl, hbw14⟩
            have h0w14 := h0w13.trans (hbw14.mono h0w13.size)
            have hBw14 := hBw0.below h0w14
            clear y0 y1 y2 y3 y4 y5 y6
            have y0 := Blk.cell hBw14 (j := 0) rfl; have y1 := Blk.cell hBw14 (j := 1) rfl; have y2 := Blk.cell hBw14 (j := 2) rfl; have y3 := Blk.cell hBw14 (j := 3) rfl; have y4 := Blk.cell hBw14 (j := 4) rfl; have y5 := Blk.cell hBw14 (j := 5) rfl; have y6 := Blk.cell hBw14 (j := 6) rfl
            go_wp2
            go_loopw [38] (fun iv wr => ∃ k : Nat, k ≤ sPagesn ∧ iv = .int .i64 k ∧ versB sNum sPages = versB sNum (sPages.drop k) ∧ Below w0.heap.size w0 wr) (fun iv _ => sPagesn - (intOf iv).toNat)
            case atStart => exact ⟨0, by omega, rfl, by rw [List.drop_zero], h0w14⟩
            case round =>
              obtain ⟨k, hk, rfl, hv, hbw⟩ := hrel
              have hBr := hBw0.below hbw
              clear y0 y1 y2 y3 y4 y5 y6
              have HV := hide hv
              clear hv
              by_cases hlt : k < sPagesn
              · obtain ⟨p, hp⟩ : ∃ p, sPages[k]? = some p := ⟨_, List.getElem?_eq_getElem (by rw [HlP.out]; exact hlt)⟩
                obtain ⟨a, rfl, hat⟩ := (hrP.below hbw).some_of (xs := sPagesv) (by have := hP0.1; rw [this, HlP.out]; omega)
                obtain ⟨D, d, dc, e0, e1, e2, _⟩ := hP0.2 k p hp
                have z0 := rd3_0 hat e0
                have z1 := rd3_S (i := 0) hat e1
                have z2 := rd3_S (i := 1) hat e2
                obtain ⟨wa, hwa⟩ : ∃ y, wr.alloc (.cells #[.int .i64 p.1, .int .i64 p.2.1, .slice D d dc] 83) = y := ⟨_, rfl⟩
                have hba : Below wr.heap.size wr (wr.alloc (.cells #[.int .i64 p.1, .int .i64 p.2.1, .slice D d dc] 83)) := (Below.refl _ _).alloc (Nat.le_refl _) _
                have y0 := (hBr.below hba).cell (j := 0) rfl
                have hb0a := hbw.trans (hba.mono hbw.size)
                clear hat e0 e1 e2
                by_cases hver : p.2.1 ≤ sNum
                · have HS := hide (HV.out.trans (vers_step hp hver))
                  clear hp hwa
                  go_wp2
                  go_roundw
                  case rel => exact ⟨k + 1, by omega, by go_num, HS.out, hb0a⟩
                  case measure => simp [intOf]; omega
                · have HF := hide (HT.out.trans (vers_bad hp (by omega)))
                  clear hp hwa
                  go_wp2
                  go_ret
                  exact ⟨by rw [HF.out]; rfl, hbw0.trans (hb0a.mono hbw0.size)⟩
              · obtain rfl : k = sPagesn := by omega
                have HF := hide (HT.out.trans (HV.out.trans (show versB sNum (sPages.drop k) = true by rw [List.drop_eq_nil_of_le (by rw [HlP.out]; exact Nat.le_refl _)]; rfl)))
                go_wp2
                go_ret
                exact ⟨by rw [HF.out]; rfl, hbw0.trans (hbw.mono hbw0.size)⟩

end Go.Proofs.YtkknkdjdneldlaaGreat
namespace Go.Proofs.YtkknkdjdneldlaaGreat
set_option maxRecDepth 20000
open Go.RowKit Go.Px Go.Maps
set_option linter.unusedVariables false
set_option linter.unusedSimpArgs false
def eqE (x y : EntryD) : Bool := ((x.1 : Int) == (y.1 : Int)) && ((x.2.1 == y.2.1) && ((x.2.2.1 == y.2.2.1) && ((x.2.2.2.1 == y.2.2.2.1) && ((x.2.2.2.2.1 == y.2.2.2.2.1) &&
  (eqO x.2.2.2.2.2.1.1 x.2.2.2.2.2.1.2.1 x.2.2.2.2.2.1.2.2.1 x.2.2.2.2.2.1.2.2.2.1 x.2.2.2.2.2.1.2.2.2.2 y.2.2.2.2.2.1.1 y.2.2.2.2.2.1.2.1 y.2.2.2.2.2.1.2.2.1 y.2.2.2.2.2.1.2.2.2.1 y.2.2.2.2.2.1.2.2.2.2 && eqG x.2.2.2.2.2.2.1 x.2.2.2.2.2.2.2 y.2.2.2.2.2.2.1 y.2.2.2.2.2.2.2)))))
theorem eqE_self (x : EntryD) : eqE x x = true := by unfold eqE; simp [eqO, eqG, eqB]
set_option maxHeartbeats 400000 in
theorem msameg_any (e : Int) (A : Option Addr) (n c : Nat) (xs : List Int) (e' : Int) (B : Option Addr) (m d : Nat) (ys : List Int) (w : World) (hn : xs.length = n) (hm : ys.length = m) (h63 : n ≤ 9223372036854775807) (h63' : m ≤ 9223372036854775807) (hr : Rd w A (ints xs)) (hs : Rd w B (ints ys)) :
    Calls Tryz.prog 85 #[grp e A n c, grp e' B m d] w fun x w' => x = .returned (.bool (eqG e xs e' ys)) ∧ Below w.heap.size w w' := by
  have hb0 : Below w.heap.size w ((w.alloc (.cells #[.int .i64 e, .slice A n c] 28)).alloc (.cells #[.int .i64 e', .slice B m d] 28)) := ((Below.refl _ _).alloc (Nat.le_refl _) _).alloc (by simp) _
  have HE := hide (equal_any A n c xs B m d ys _ hn hm h63 h63' (hr.below hb0) (hs.below hb0))
  clear hn hm
  rcases bool_two (e == e') with q | q
  · have HQ := hide (show eqG e xs e' ys = eqB xs ys by unfold eqG; rw [q]; rfl)
    go_enter Tryz.func85, Tryz.ntmps85
    go_wp2_with fail
    refine HE.out.mono ?_
    rintro x w' ⟨rfl, hb⟩
    go_wp2
    go_ret
    exact ⟨by rw [HQ.out]; rfl, hb0.trans (hb.mono hb0.size)⟩
  · have HQ := hide (show eqG e xs e' ys = false by unfold eqG; rw [q]; rfl)
    go_enter Tryz.func85, Tryz.ntmps85
    go_wp2
    go_ret
    exact ⟨by rw [HQ.out]; rfl, hb0⟩

set_option maxRecDepth 20000 in
set_option maxHeartbeats 3200000 in
theorem msameE_any {w : World} {Q Q' : Nat → Prop} {x y : EntryD} {cs ds : List Value} (h : tyEntry.Is w Q x cs) (h' : tyEntry.Is w Q' y ds) : Calls Tryz.prog 31 #[.agg cs.toArray, .agg ds.toArray] w fun e w' => e = .returned (.bool (eqE x y)) ∧ Below w.heap.size w w' := by
  obtain ⟨eKind, eNum, eView, eClient, eSerial, eOpKind, eOpAt, eOpN, eOpData, eOpDataA, eOpDatan, eOpDatac, eOpOld, eOpOldA, eOpOldn, eOpOldc, eGroupEpoch, eGroupMembers, eGroupMembersA, eGroupMembersn, eGroupMembersc, eGroupMembersv, rfl, rfl, hu_eKind, h1_eNum, h2_eNum, h1_eView, h2_eView, h1_eClient, h2_eClient, h1_eSerial, h2_eSerial, hu_eOpKind, h1_eOpAt, h2_eOpAt, h1_eOpN, h2_eOpN, hl_eOpData, hc_eOpData, hm_eOpData, hr_eOpData, hq_eOpData, hl_eOpOld, hc_eOpOld, hm_eOpOld, hr_eOpOld, hq_eOpOld, h1_eGroupEpoch, h2_eGroupEpoch, hl_eGroupMembers, hc_eGroupMembers, hm_eGroupMembers, hr_eGroupMembers, hq_eGroupMembers, he_eGroupMembers⟩ := Entry_out h
  obtain ⟨fKind, fNum, fView, fClient, fSerial, fOpKind, fOpAt, fOpN, fOpData, fOpDataA, fOpDatan, fOpDatac, fOpOld, fOpOldA, fOpOldn, fOpOldc, fGroupEpoch, fGroupMembers, fGroupMembersA, fGroupMembersn, fGroupMembersc, fGroupMembersv, rfl, rfl, hu_fKind, h1_fNum, h2_fNum, h1_fView, h2_fView, h1_fClient, h2_fClient, h1_fSerial, h2_fSerial, hu_fOpKind, h1_fOpAt, h2_fOpAt, h1_fOpN, h2_fOpN, hl_fOpData, hc_fOpData, hm_fOpData, hr_fOpData, hq_fOpData, hl_fOpOld, hc_fOpOld, hm_fOpOld, hr_fOpOld, hq_fOpOld, h1_fGroupEpoch, h2_fGroupEpoch, hl_fGroupMembers, hc_fGroupMembers, hm_fGroupMembers, hr_fGroupMembers, hq_fGroupMembers, he_fGroupMembers⟩ := Entry_out h'
  obtain ⟨hmi, _⟩ := i64rows he_eGroupMembers
  subst hmi
  obtain ⟨hmi', _⟩ := i64rows he_fGroupMembers
  subst hmi'
  obtain ⟨g, hg⟩ : ∃ g, w.heap.size = g := ⟨_, rfl⟩
  obtain ⟨w0, hw0⟩ : ∃ x, (w.alloc (.cells #[.int .u8 eKind, .int .i64 eNum, .int .i64 eView, .int .i64 eClient, .int .i64 eSerial, .int .u8 eOpKind, .int .i64 eOpAt, .int .i64 eOpN, .slice eOpDataA eOpDatan eOpDatac, .slice eOpOldA eOpOldn eOpOldc, .int .i64 eGroupEpoch, .slice eGroupMembersA eGroupMembersn eGroupMembersc] 49)).alloc (.cells #[.int .u8 fKind, .int .i64 fNum, .int .i64 fView, .int .i64 fClient, .int .i64 fSerial, .int .u8 fOpKind, .int .i64 fOpAt, .int .i64 fOpN, .slice fOpDataA fOpDatan fOpDatac, .slice fOpOldA fOpOldn fOpOldc, .int .i64 fGroupEpoch, .slice fGroupMembersA fGroupMembersn fGroupMembersc] 49) = x := ⟨_, rfl⟩
  have hS : Blk w0 g [.int .u8 eKind, .int .i64 eNum, .int .i64 eView, .int .i64 eClient, .int .i64 eSerial, .int .u8 eOpKind, .int .i64 eOpAt, .int .i64 eOpN, .slice eOpDataA eOpDatan eOpDatac, .slice eOpOldA eOpOldn eOpOldc, .int .i64 eGroupEpoch, .slice eGroupMembersA eGroupMembersn eGroupMembersc] 49 := by rw [← hw0, ← hg]; exact (Blk.new w [.int .u8 eKind, .int .i64 eNum, .int .i64 eView, .int .i64 eClient, .int .i64 eSerial, .int .u8 eOpKind, .int .i64 eOpAt, .int .i64 eOpN, .slice eOpDataA eOpDatan eOpDatac, .slice eOpOldA eOpOldn eOpOldc, .int .i64 eGroupEpoch, .slice eGroupMembersA eGroupMembersn eGroupMembersc] _).alloc _
  have hT : Blk w0 (g + 1) [.int .u8 fKind, .int .i64 fNum, .int .i64 fView, .int .i64 fClient, .int .i64 fSerial, .int .u8 fOpKind, .int .i64 fOpAt, .int .i64 fOpN, .slice fOpDataA fOpDatan fOpDatac, .slice fOpOldA fOpOldn fOpOldc, .int .i64 fGroupEpoch, .slice fGroupMembersA fGroupMembersn fGroupMembersc] 49 := by
    rw [← hw0, ← hg]
    have := Blk.new (w.alloc (.cells #[.int .u8 eKind, .int .i64 eNum, .int .i64 eView, .int .i64 eClient, .int .i64 eSerial, .int .u8 eOpKind, .int .i64 eOpAt, .int .i64 eOpN, .slice eOpDataA eOpDatan eOpDatac, .slice eOpOldA eOpOldn eOpOldc, .int .i64 eGroupEpoch, .slice eGroupMembersA eGroupMembersn eGroupMembersc] 49)) [.int .u8 fKind, .int .i64 fNum, .int .i64 fView, .int .i64 fClient, .int .i64 fSerial, .int .u8 fOpKind, .int .i64 fOpAt, .int .i64 fOpN, .slice fOpDataA fOpDatan fOpDatac, .slice fOpOldA fOpOldn fOpOldc, .int .i64 fGroupEpoch, .slice fGroupMembersA fGroupMembersn fGroupMembersc] 49
    rwa [World.size_alloc] at this
  have hb0 : Below w.heap.size w w0 := by rw [← hw0]; exact ((Below.refl _ _).alloc (Nat.le_refl _) _).alloc (by simp) _
  have HO := hide (fun W (hW : Below w.heap.size w W) => osame_any eOpKind eOpAt eOpN eOpDataA eOpDatan eOpDatac eOpData eOpOldA eOpOldn eOpOldc eOpOld fOpKind fOpAt fOpN fOpDataA fOpDatan fOpDatac fOpData fOpOldA fOpOldn fOpOldc fOpOld W hl_eOpData hl_eOpOld hl_fOpData hl_fOpOld (hr_eOpData.below hW) (hr_eOpOld.below hW) (hr_fOpData.below hW) (hr_fOpOld.below hW))
  have HG := hide (fun W (hW : Below w.heap.size w W) => msameg_any eGroupEpoch eGroupMembersA eGroupMembersn eGroupMembersc eGroupMembers fGroupEpoch fGroupMembersA fGroupMembersn fGroupMembersc fGroupMembers W hl_eGroupMembers hl_fGroupMembers (by omega) (by omega) (hr_eGroupMembers.below hW) (hr_fGroupMembers.below hW))
  have Hw0 := hide hw0
  have Hg := hide hg
  clear hw0 hl_eOpData hl_eOpOld hl_fOpData hl_fOpOld hl_eGroupMembers hl_fGroupMembers
  have y0 := Blk.cell hS (j := 0) rfl; have y1 := Blk.cell hS (j := 1) rfl; have y2 := Blk.cell hS (j := 2) rfl; have y3 := Blk.cell hS (j := 3) rfl; have y4 := Blk.cell hS (j := 4) rfl; have y5 := Blk.cell hS (j := 5) rfl; have y6 := Blk.cell hS (j := 6) rfl; have y7 := Blk.cell hS (j := 7) rfl; have y8 := Blk.cell hS (j := 8) rfl; have y9 := Blk.cell hS (j := 9) rfl; have y10 := Blk.cell hS (j := 10) rfl; have y11 := Blk.cell hS (j := 11) rfl
  have z0 := Blk.cell hT (j := 0) rfl; have z1 := Blk.cell hT (j := 1) rfl; have z2 := Blk.cell hT (j := 2) rfl; have z3 := Blk.cell hT (j := 3) rfl; have z4 := Blk.cell hT (j := 4) rfl; have z5 := Blk.cell hT (j := 5) rfl; have z6 := Blk.cell hT (j := 6) rfl; have z7 := Blk.cell hT (j := 7) rfl; have z8 := Blk.cell hT (j := 8) rfl; have z9 := Blk.cell hT (j := 9) rfl; have z10 := Blk.cell hT (j := 10) rfl; have z11 := Blk.cell hT (j := 11) rfl
  rcases bool_two ((eKind : Int) == (fKind : Int)) with q0 | q0
  rotate_left
  · have HF := hide (show eqE (eKind, eNum, eView, eClient, eSerial, (eOpKind, eOpAt, eOpN, eOpData, eOpOld), (eGroupEpoch, eGroupMembers)) (fKind, fNum, fView, fClient, fSerial, (fOpKind, fOpAt, fOpN, fOpData, fOpOld), (fGroupEpoch, fGroupMembers)) = false by unfold eqE; simp only [q0, Bool.false_and, Bool.and_false, Bool.true_and])
    go_enter Tryz.func31, Tryz.ntmps31
    go_wp2
    go_ret
    exact ⟨by rw [HF.out]; first | rfl | trivial, by rw [Hw0.out]; exact hb0⟩
  rcases bool_two (eNum == fNum) with q1 | q1
  rotate_left
  · have HF := hide (show eqE (eKind, eNum, eView, eClient, eSerial, (eOpKind, eOpAt, eOpN, eOpData, eOpOld), (eGroupEpoch, eGroupMembers)) (fKind, fNum, fView, fClient, fSerial, (fOpKind, fOpAt, fOpN, fOpData, fOpOld), (fGroupEpoch, fGroupMembers)) = false by unfold eqE; simp only [q0, q1, Bool.false_and, Bool.and_false, Bool.true_and])
    go_enter Tryz.func31, Tryz.ntmps31
    go_wp2
    go_ret
    exact ⟨by rw [HF.out]; first | rfl | trivial, by rw [Hw0.out]; exact hb0⟩
  rcases bool_two (eView == fView) with q2 | q2
  rotate_left
  · have HF := hide (show eqE (eKind, eNum, eView, eClient, eSerial, (eOpKind, eOpAt, eOpN, eOpData, eOpOld), (eGroupEpoch, eGroupMembers)) (fKind, fNum, fView, fClient, fSerial, (fOpKind, fOpAt, fOpN, fOpData, fOpOld), (fGroupEpoch, fGroupMembers)) = false by unfold eqE; simp only [q0, q1, q2, Bool.false_and, Bool.and_false, Bool.true_and])
    go_enter Tryz.func31, Tryz.ntmps31
    go_wp2
    go_ret
    exact ⟨by rw [HF.out]; first | rfl | trivial, by rw [Hw0.out]; exact hb0⟩
  rcases bool_two (eClient == fClient) with q3 | q3
  rotate_left
  · have HF := hide (show eqE (eKind, eNum, eView, eClient, eSerial, (eOpKind, eOpAt, eOpN, eOpData, eOpOld), (eGroupEpoch, eGroupMembers)) (fKind, fNum, fView, fClient, fSerial, (fOpKind, fOpAt, fOpN, fOpData, fOpOld), (fGroupEpoch, fGroupMembers)) = false by unfold eqE; simp only [q0, q1, q2, q3, Bool.false_and, Bool.and_false, Bool.true_and])
    go_enter Tryz.func31, Tryz.ntmps31
    go_wp2
    go_ret
    exact ⟨by rw [HF.out]; first | rfl | trivial, by rw [Hw0.out]; exact hb0⟩
  rcases bool_two (eSerial == fSerial) with q4 | q4
  rotate_left
  · have HF := hide (show eqE (eKind, eNum, eView, eClient, eSerial, (eOpKind, eOpAt, eOpN, eOpData, eOpOld), (eGroupEpoch, eGroupMembers)) (fKind, fNum, fView, fClient, fSerial, (fOpKind, fOpAt, fOpN, fOpData, fOpOld), (fGroupEpoch, fGroupMembers)) = false by unfold eqE; simp only [q0, q1, q2, q3, q4, Bool.false_and, Bool.and_false, Bool.true_and])
    go_enter Tryz.func31, Tryz.ntmps31
    go_wp2
    go_ret
    exact ⟨by rw [HF.out]; first | rfl | trivial, by rw [Hw0.out]; exact hb0⟩
  cases hq : eqO eOpKind eOpAt eOpN eOpData eOpOld fOpKind fOpAt fOpN fOpData fOpOld with
  | false =>
    have HF := hide (show eqE (eKind, eNum, eView, eClient, eSerial, (eOpKind, eOpAt, eOpN, eOpData, eOpOld), (eGroupEpoch, eGroupMembers)) (fKind, fNum, fView, fClient, fSerial, (fOpKind, fOpAt, fOpN, fOpData, fOpOld), (fGroupEpoch, fGroupMembers)) = false by unfold eqE; simp only [q0, q1, q2, q3, q4, hq, Bool.false_and, Bool.and_false, Bool.true_and])
    have HQ := hide hq
    clear hq
    go_enter Tryz.func31, Tryz.ntmps31
    go_wp2_with fail
    rw [Hw0.out]
    go_fit (HO.out w0 hb0)
    rw [HQ.out]
    rintro xx w1 ⟨rfl, hb1⟩
    have hb01 := hb0.trans (hb1.mono hb0.size)
    go_wp2
    go_ret
    exact ⟨by rw [HF.out]; first | rfl | trivial, hb01⟩
  | true =>
    have HF := hide (show eqE (eKind, eNum, eView, eClient, eSerial, (eOpKind, eOpAt, eOpN, eOpData, eOpOld), (eGroupEpoch, eGroupMembers)) (fKind, fNum, fView, fClient, fSerial, (fOpKind, fOpAt, fOpN, fOpData, fOpOld), (fGroupEpoch, fGroupMembers)) = eqG eGroupEpoch eGroupMembers fGroupEpoch fGroupMembers by unfold eqE; simp only [q0, q1, q2, q3, q4, hq, Bool.true_and])
    have HQ := hide hq
    clear hq
    go_enter Tryz.func31, Tryz.ntmps31
    go_wp2_with fail
    rw [Hw0.out]
    go_fit (HO.out w0 hb0)
    rw [HQ.out]
    rintro xx w1 ⟨rfl, hb1⟩
    have hb01 := hb0.trans (hb1.mono hb0.size)
    have hS1 := hS.below hb1
    have hT1 := hT.below hb1
    clear y0 y1 y2 y3 y4 y5 y6 y7 y8 y9 y10 y11 z0 z1 z2 z3 z4 z5 z6 z7 z8 z9 z10 z11
    have y0 := Blk.cell hS1 (j := 0) rfl; have y1 := Blk.cell hS1 (j := 1) rfl; have y2 := Blk.cell hS1 (j := 2) rfl; have y3 := Blk.cell hS1 (j := 3) rfl; have y4 := Blk.cell hS1 (j := 4) rfl; have y5 := Blk.cell hS1 (j := 5) rfl; have y6 := Blk.cell hS1 (j := 6) rfl; have y7 := Blk.cell hS1 (j := 7) rfl; have y8 := Blk.cell hS1 (j := 8) rfl; have y9 := Blk.cell hS1 (j := 9) rfl; have y10 := Blk.cell hS1 (j := 10) rfl; have y11 := Blk.cell hS1 (j := 11) rfl
    have z0 := Blk.cell hT1 (j := 0) rfl; have z1 := Blk.cell hT1 (j := 1) rfl; have z2 := Blk.cell hT1 (j := 2) rfl; have z3 := Blk.cell hT1 (j := 3) rfl; have z4 := Blk.cell hT1 (j := 4) rfl; have z5 := Blk.cell hT1 (j := 5) rfl; have z6 := Blk.cell hT1 (j := 6) rfl; have z7 := Blk.cell hT1 (j := 7) rfl; have z8 := Blk.cell hT1 (j := 8) rfl; have z9 := Blk.cell hT1 (j := 9) rfl; have z10 := Blk.cell hT1 (j := 10) rfl; have z11 := Blk.cell hT1 (j := 11) rfl
    go_wp2_with fail
    go_fit (HG.out w1 hb01)
    rintro xx w2 ⟨rfl, hb2⟩
    go_wp2
    go_ret
    exact ⟨by rw [HF.out]; rfl, hb01.trans (hb2.mono hb01.size)⟩

set_option maxRecDepth 20000 in
set_option maxHeartbeats 3200000 in
theorem rsameE_any {w : World} {Q Q' : Nat → Prop} {x y : EntryD} {cs ds : List Value} (h : tyEntry.Is w Q x cs) (h' : tyEntry.Is w Q' y ds) : Calls Tryz.prog 28 #[.agg cs.toArray, .agg ds.toArray] w fun e w' => e = .returned (.bool (eqE x y)) ∧ Below w.heap.size w w' := by
  obtain ⟨eKind, eNum, eView, eClient, eSerial, eOpKind, eOpAt, eOpN, eOpData, eOpDataA, eOpDatan, eOpDatac, eOpOld, eOpOldA, eOpOldn, eOpOldc, eGroupEpoch, eGroupMembers, eGroupMembersA, eGroupMembersn, eGroupMembersc, eGroupMembersv, rfl, rfl, hu_eKind, h1_eNum, h2_eNum, h1_eView, h2_eView, h1_eClient, h2_eClient, h1_eSerial, h2_eSerial, hu_eOpKind, h1_eOpAt, h2_eOpAt, h1_eOpN, h2_eOpN, hl_eOpData, hc_eOpData, hm_eOpData, hr_eOpData, hq_eOpData, hl_eOpOld, hc_eOpOld, hm_eOpOld, hr_eOpOld, hq_eOpOld, h1_eGroupEpoch, h2_eGroupEpoch, hl_eGroupMembers, hc_eGroupMembers, hm_eGroupMembers, hr_eGroupMembers, hq_eGroupMembers, he_eGroupMembers⟩ := Entry_out h
  obtain ⟨fKind, fNum, fView, fClient, fSerial, fOpKind, fOpAt, fOpN, fOpData, fOpDataA, fOpDatan, fOpDatac, fOpOld, fOpOldA, fOpOldn, fOpOldc, fGroupEpoch, fGroupMembers, fGroupMembersA, fGroupMembersn, fGroupMembersc, fGroupMembersv, rfl, rfl, hu_fKind, h1_fNum, h2_fNum, h1_fView, h2_fView, h1_fClient, h2_fClient, h1_fSerial, h2_fSerial, hu_fOpKind, h1_fOpAt, h2_fOpAt, h1_fOpN, h2_fOpN, hl_fOpData, hc_fOpData, hm_fOpData, hr_fOpData, hq_fOpData, hl_fOpOld, hc_fOpOld, hm_fOpOld, hr_fOpOld, hq_fOpOld, h1_fGroupEpoch, h2_fGroupEpoch, hl_fGroupMembers, hc_fGroupMembers, hm_fGroupMembers, hr_fGroupMembers, hq_fGroupMembers, he_fGroupMembers⟩ := Entry_out h'
  obtain ⟨hmi, _⟩ := i64rows he_eGroupMembers
  subst hmi
  obtain ⟨hmi', _⟩ := i64rows he_fGroupMembers
  subst hmi'
  obtain ⟨g, hg⟩ : ∃ g, w.heap.size = g := ⟨_, rfl⟩
  obtain ⟨w0, hw0⟩ : ∃ x, (w.alloc (.cells #[.int .u8 eKind, .int .i64 eNum, .int .i64 eView, .int .i64 eClient, .int .i64 eSerial, .int .u8 eOpKind, .int .i64 eOpAt, .int .i64 eOpN, .slice eOpDataA eOpDatan eOpDatac, .slice eOpOldA eOpOldn eOpOldc, .int .i64 eGroupEpoch, .slice eGroupMembersA eGroupMembersn eGroupMembersc] 49)).alloc (.cells #[.int .u8 fKind, .int .i64 fNum, .int .i64 fView, .int .i64 fClient, .int .i64 fSerial, .int .u8 fOpKind, .int .i64 fOpAt, .int .i64 fOpN, .slice fOpDataA fOpDatan fOpDatac, .slice fOpOldA fOpOldn fOpOldc, .int .i64 fGroupEpoch, .slice fGroupMembersA fGroupMembersn fGroupMembersc] 49) = x := ⟨_, rfl⟩
  have hS : Blk w0 g [.int .u8 eKind, .int .i64 eNum, .int .i64 eView, .int .i64 eClient, .int .i64 eSerial, .int .u8 eOpKind, .int .i64 eOpAt, .int .i64 eOpN, .slice eOpDataA eOpDatan eOpDatac, .slice eOpOldA eOpOldn eOpOldc, .int .i64 eGroupEpoch, .slice eGroupMembersA eGroupMembersn eGroupMembersc] 49 := by rw [← hw0, ← hg]; exact (Blk.new w [.int .u8 eKind, .int .i64 eNum, .int .i64 eView, .int .i64 eClient, .int .i64 eSerial, .int .u8 eOpKind, .int .i64 eOpAt, .int .i64 eOpN, .slice eOpDataA eOpDatan eOpDatac, .slice eOpOldA eOpOldn eOpOldc, .int .i64 eGroupEpoch, .slice eGroupMembersA eGroupMembersn eGroupMembersc] _).alloc _
  have hT : Blk w0 (g + 1) [.int .u8 fKind, .int .i64 fNum, .int .i64 fView, .int .i64 fClient, .int .i64 fSerial, .int .u8 fOpKind, .int .i64 fOpAt, .int .i64 fOpN, .slice fOpDataA fOpDatan fOpDatac, .slice fOpOldA fOpOldn fOpOldc, .int .i64 fGroupEpoch, .slice fGroupMembersA fGroupMembersn fGroupMembersc] 49 := by
    rw [← hw0, ← hg]
    have := Blk.new (w.alloc (.cells #[.int .u8 eKind, .int .i64 eNum, .int .i64 eView, .int .i64 eClient, .int .i64 eSerial, .int .u8 eOpKind, .int .i64 eOpAt, .int .i64 eOpN, .slice eOpDataA eOpDatan eOpDatac, .slice eOpOldA eOpOldn eOpOldc, .int .i64 eGroupEpoch, .slice eGroupMembersA eGroupMembersn eGroupMembersc] 49)) [.int .u8 fKind, .int .i64 fNum, .int .i64 fView, .int .i64 fClient, .int .i64 fSerial, .int .u8 fOpKind, .int .i64 fOpAt, .int .i64 fOpN, .slice fOpDataA fOpDatan fOpDatac, .slice fOpOldA fOpOldn fOpOldc, .int .i64 fGroupEpoch, .slice fGroupMembersA fGroupMembersn fGroupMembersc] 49
    rwa [World.size_alloc] at this
  have hb0 : Below w.heap.size w w0 := by rw [← hw0]; exact ((Below.refl _ _).alloc (Nat.le_refl _) _).alloc (by simp) _
  have HO := hide (fun W (hW : Below w.heap.size w W) => rosame_any eOpKind eOpAt eOpN eOpDataA eOpDatan eOpDatac eOpData eOpOldA eOpOldn eOpOldc eOpOld fOpKind fOpAt fOpN fOpDataA fOpDatan fOpDatac fOpData fOpOldA fOpOldn fOpOldc fOpOld W hl_eOpData hl_eOpOld hl_fOpData hl_fOpOld (hr_eOpData.below hW) (hr_eOpOld.below hW) (hr_fOpData.below hW) (hr_fOpOld.below hW))
  have HG := hide (fun W (hW : Below w.heap.size w W) => rsameg_any eGroupEpoch eGroupMembersA eGroupMembersn eGroupMembersc eGroupMembers fGroupEpoch fGroupMembersA fGroupMembersn fGroupMembersc fGroupMembers W hl_eGroupMembers hl_fGroupMembers (by omega) (by omega) (hr_eGroupMembers.below hW) (hr_fGroupMembers.below hW))
  have Hw0 := hide hw0
  have Hg := hide hg
  clear hw0 hl_eOpData hl_eOpOld hl_fOpData hl_fOpOld hl_eGroupMembers hl_fGroupMembers
  have y0 := Blk.cell hS (j := 0) rfl; have y1 := Blk.cell hS (j := 1) rfl; have y2 := Blk.cell hS (j := 2) rfl; have y3 := Blk.cell hS (j := 3) rfl; have y4 := Blk.cell hS (j := 4) rfl; have y5 := Blk.cell hS (j := 5) rfl; have y6 := Blk.cell hS (j := 6) rfl; have y7 := Blk.cell hS (j := 7) rfl; have y8 := Blk.cell hS (j := 8) rfl; have y9 := Blk.cell hS (j := 9) rfl; have y10 := Blk.cell hS (j := 10) rfl; have y11 := Blk.cell hS (j := 11) rfl
  have z0 := Blk.cell hT (j := 0) rfl; have z1 := Blk.cell hT (j := 1) rfl; have z2 := Blk.cell hT (j := 2) rfl; have z3 := Blk.cell hT (j := 3) rfl; have z4 := Blk.cell hT (j := 4) rfl; have z5 := Blk.cell hT (j := 5) rfl; have z6 := Blk.cell hT (j := 6) rfl; have z7 := Blk.cell hT (j := 7) rfl; have z8 := Blk.cell hT (j := 8) rfl; have z9 := Blk.cell hT (j := 9) rfl; have z10 := Blk.cell hT (j := 10) rfl; have z11 := Blk.cell hT (j := 11) rfl
  rcases bool_two ((eKind : Int) == (fKind : Int)) with q0 | q0
  rotate_left
  · have HF := hide (show eqE (eKind, eNum, eView, eClient, eSerial, (eOpKind, eOpAt, eOpN, eOpData, eOpOld), (eGroupEpoch, eGroupMembers)) (fKind, fNum, fView, fClient, fSerial, (fOpKind, fOpAt, fOpN, fOpData, fOpOld), (fGroupEpoch, fGroupMembers)) = false by unfold eqE; simp only [q0, Bool.false_and, Bool.and_false, Bool.true_and])
    go_enter Tryz.func28, Tryz.ntmps28
    go_wp2
    go_ret
    exact ⟨by rw [HF.out]; first | rfl | trivial, by rw [Hw0.out]; exact hb0⟩
  rcases bool_two (eNum == fNum) with q1 | q1
  rotate_left
  · have HF := hide (show eqE (eKind, eNum, eView, eClient, eSerial, (eOpKind, eOpAt, eOpN, eOpData, eOpOld), (eGroupEpoch, eGroupMembers)) (fKind, fNum, fView, fClient, fSerial, (fOpKind, fOpAt, fOpN, fOpData, fOpOld), (fGroupEpoch, fGroupMembers)) = false by unfold eqE; simp only [q0, q1, Bool.false_and, Bool.and_false, Bool.true_and])
    go_enter Tryz.func28, Tryz.ntmps28
    go_wp2
    go_ret
    exact ⟨by rw [HF.out]; first | rfl | trivial, by rw [Hw0.out]; exact hb0⟩
  rcases bool_two (eView == fView) with q2 | q2
  rotate_left
  · have HF := hide (show eqE (eKind, eNum, eView, eClient, eSerial, (eOpKind, eOpAt, eOpN, eOpData, eOpOld), (eGroupEpoch, eGroupMembers)) (fKind, fNum, fView, fClient, fSerial, (fOpKind, fOpAt, fOpN, fOpData, fOpOld), (fGroupEpoch, fGroupMembers)) = false by unfold eqE; simp only [q0, q1, q2, Bool.false_and, Bool.and_false, Bool.true_and])
    go_enter Tryz.func28, Tryz.ntmps28
    go_wp2
    go_ret
    exact ⟨by rw [HF.out]; first | rfl | trivial, by rw [Hw0.out]; exact hb0⟩
  rcases bool_two (eClient == fClient) with q3 | q3
  rotate_left
  · have HF := hide (show eqE (eKind, eNum, eView, eClient, eSerial, (eOpKind, eOpAt, eOpN, eOpData, eOpOld), (eGroupEpoch, eGroupMembers)) (fKind, fNum, fView, fClient, fSerial, (fOpKind, fOpAt, fOpN, fOpData, fOpOld), (fGroupEpoch, fGroupMembers)) = false by unfold eqE; simp only [q0, q1, q2, q3, Bool.false_and, Bool.and_false, Bool.true_and])
    go_enter Tryz.func28, Tryz.ntmps28
    go_wp2
    go_ret
    exact ⟨by rw [HF.out]; first | rfl | trivial, by rw [Hw0.out]; exact hb0⟩
  rcases bool_two (eSerial == fSerial) with q4 | q4
  rotate_left
  · have HF := hide (show eqE (eKind, eNum, eView, eClient, eSerial, (eOpKind, eOpAt, eOpN, eOpData, eOpOld), (eGroupEpoch, eGroupMembers)) (fKind, fNum, fView, fClient, fSerial, (fOpKind, fOpAt, fOpN, fOpData, fOpOld), (fGroupEpoch, fGroupMembers)) = false by unfold eqE; simp only [q0, q1, q2, q3, q4, Bool.false_and, Bool.and_false, Bool.true_and])
    go_enter Tryz.func28, Tryz.ntmps28
    go_wp2
    go_ret
    exact ⟨by rw [HF.out]; first | rfl | trivial, by rw [Hw0.out]; exact hb0⟩
  cases hq : eqO eOpKind eOpAt eOpN eOpData eOpOld fOpKind fOpAt fOpN fOpData fOpOld with
  | false =>
    have HF := hide (show eqE (eKind, eNum, eView, eClient, eSerial, (eOpKind, eOpAt, eOpN, eOpData, eOpOld), (eGroupEpoch, eGroupMembers)) (fKind, fNum, fView, fClient, fSerial, (fOpKind, fOpAt, fOpN, fOpData, fOpOld), (fGroupEpoch, fGroupMembers)) = false by unfold eqE; simp only [q0, q1, q2, q3, q4, hq, Bool.false_and, Bool.and_false, Bool.true_and])
    have HQ := hide hq
    clear hq
    go_enter Tryz.func28, Tryz.ntmps28
    go_wp2_with fail
    rw [Hw0.out]
    go_fit (HO.out w0 hb0)
    rw [HQ.out]
    rintro xx w1 ⟨rfl, hb1⟩
    have hb01 := hb0.trans (hb1.mono hb0.size)
    go_wp2
    go_ret
    exact ⟨by rw [HF.out]; first | rfl | trivial, hb01⟩
  | true =>
    have HF := hide (show eqE (eKind, eNum, eView, eClient, eSerial, (eOpKind, eOpAt, eOpN, eOpData, eOpOld), (eGroupEpoch, eGroupMembers)) (fKind, fNum, fView, fClient, fSerial, (fOpKind, fOpAt, fOpN, fOpData, fOpOld), (fGroupEpoch, fGroupMembers)) = eqG eGroupEpoch eGroupMembers fGroupEpoch fGroupMembers by unfold eqE; simp only [q0, q1, q2, q3, q4, hq, Bool.true_and])
    have HQ := hide hq
    clear hq
    go_enter Tryz.func28, Tryz.ntmps28
    go_wp2_with fail
    rw [Hw0.out]
    go_fit (HO.out w0 hb0)
    rw [HQ.out]
    rintro xx w1 ⟨rfl, hb1⟩
    have hb01 := hb0.trans (hb1.mono hb0.size)
    have hS1 := hS.below hb1
    have hT1 := hT.below hb1
    clear y0 y1 y2 y3 y4 y5 y6 y7 y8 y9 y10 y11 z0 z1 z2 z3 z4 z5 z6 z7 z8 z9 z10 z11
    have y0 := Blk.cell hS1 (j := 0) rfl; have y1 := Blk.cell hS1 (j := 1) rfl; have y2 := Blk.cell hS1 (j := 2) rfl; have y3 := Blk.cell hS1 (j := 3) rfl; have y4 := Blk.cell hS1 (j := 4) rfl; have y5 := Blk.cell hS1 (j := 5) rfl; have y6 := Blk.cell hS1 (j := 6) rfl; have y7 := Blk.cell hS1 (j := 7) rfl; have y8 := Blk.cell hS1 (j := 8) rfl; have y9 := Blk.cell hS1 (j := 9) rfl; have y10 := Blk.cell hS1 (j := 10) rfl; have y11 := Blk.cell hS1 (j := 11) rfl
    have z0 := Blk.cell hT1 (j := 0) rfl; have z1 := Blk.cell hT1 (j := 1) rfl; have z2 := Blk.cell hT1 (j := 2) rfl; have z3 := Blk.cell hT1 (j := 3) rfl; have z4 := Blk.cell hT1 (j := 4) rfl; have z5 := Blk.cell hT1 (j := 5) rfl; have z6 := Blk.cell hT1 (j := 6) rfl; have z7 := Blk.cell hT1 (j := 7) rfl; have z8 := Blk.cell hT1 (j := 8) rfl; have z9 := Blk.cell hT1 (j := 9) rfl; have z10 := Blk.cell hT1 (j := 10) rfl; have z11 := Blk.cell hT1 (j := 11) rfl
    go_wp2_with fail
    go_fit (HG.out w1 hb01)
    rintro xx w2 ⟨rfl, hb2⟩
    go_wp2
    go_ret
    exact ⟨by rw [HF.out]; rfl, hb01.trans (hb2.mono hb01.size)⟩
end Go.Proofs.YtkknkdjdneldlaaGreat
namespace Go.Proofs.YtkknkdjdneldlaaGreat
set_option maxRecDepth 20000
open Go.RowKit Go.Px Go.Maps
set_option linter.unusedVariables false
def ngB (ep : Int) (n : Nat) : Bool := (ep == 0) && ((n : Int) == 0)
def noB (k : Nat) (p n : Int) (ds os : List UInt8) : Bool := eqO k p n ds os 0 0 0 [] []
def kindB (e : EntryD) : Bool :=
  if e.1 = 1 then (fmE e.2.2.2.2.2.1.1 e.2.2.2.2.2.1.2.1 e.2.2.2.2.2.1.2.2.1 e.2.2.2.2.2.1.2.2.2.1.length e.2.2.2.2.2.1.2.2.2.2.length == 0) && ngB e.2.2.2.2.2.2.1 e.2.2.2.2.2.2.2.length
  else if e.1 = 2 then grpOk e.2.2.2.2.2.2.1 e.2.2.2.2.2.2.2 && noB e.2.2.2.2.2.1.1 e.2.2.2.2.2.1.2.1 e.2.2.2.2.2.1.2.2.1 e.2.2.2.2.2.1.2.2.2.1 e.2.2.2.2.2.1.2.2.2.2
  else false
/-- May an entry be? -/
def entryB (e : EntryD) : Bool := serB e.2.1 && (numB e.2.2.1 && (serB e.2.2.2.1 && (serB e.2.2.2.2.1 && kindB e)))
def enE (e : EntryD) : Int := if entryB e = true then 0 else 71
theorem enE_ok {e : EntryD} (h : entryB e = true) : enE e = 0 := if_pos h
theorem enE_no {e : EntryD} (h : entryB e = false) : enE e = 71 := if_neg (by rw [h]; decide)
set_option maxHeartbeats 800000 in
theorem noGroup_any (e : Int) (A : Option Addr) (n c : Nat) (w : World) : Calls Tryz.prog 135 #[grp e A n c] w fun x w' => x = .returned (.bool (ngB e n)) ∧ Below w.heap.size w w' := by
  have hb0 : Below w.heap.size w (w.alloc (.cells #[.int .i64 e, .slice A n c] 28)) := (Below.refl _ _).alloc (Nat.le_refl _) _
  rcases bool_two (e == 0) with q1 | q1
  · rcases bool_two ((n : Int) == 0) with q2 | q2
    all_goals
      have HF := hide (show ngB e n = ((n : Int) == 0) by unfold ngB; rw [q1]; rfl)
      rw [q2] at HF
      go_enter Tryz.func135, Tryz.ntmps135
      go_wp2
      go_ret
      exact ⟨by rw [HF.out]; rfl, hb0⟩
  · have HF := hide (show ngB e n = false by unfold ngB; rw [q1]; rfl)
    go_enter Tryz.func135, Tryz.ntmps135
    go_wp2
    go_ret
    exact ⟨by rw [HF.out]; rfl, hb0⟩
set_option maxHeartbeats 800000 in
theorem noOp_any (k : Nat) (p n : Int) (D : Option Addr) (d dc : Nat) (ds : List UInt8) (O : Option Addr) (o oc : Nat) (os : List UInt8) (w : World) (hd : ds.length = d) (ho : os.length = o) (hD : Rd w D (bys ds)) (hO : Rd w O (bys os)) :
    Calls Tryz.prog 136 #[opv k p n D d dc O o oc] w fun x w' => x = .returned (.bool (noB k p n ds os)) ∧ Below w.heap.size w w' := by
  have Hd := hide hd
  have Ho := hide ho
  clear hd ho
  obtain ⟨w0, hw0⟩ : ∃ x, w.alloc (.cells #[.int .u8 k, .int .i64 p, .int .i64 n, .slice D d dc, .slice O o oc] 47) = x := ⟨_, rfl⟩
  have hb0 : Below w.heap.size w w0 := by rw [← hw0]; exact (Below.refl _ _).alloc (Nat.le_refl _) _
  have Hw0 := hide hw0
  clear hw0
  go_enter Tryz.func136, Tryz.ntmps136
  go_wp2_with fail
  rw [Hw0.out]
  go_fit (osame_any k p n D d dc ds O o oc os 0 0 0 none 0 0 [] none 0 0 [] w0 Hd.out Ho.out rfl rfl (hD.below hb0) (hO.below hb0) Rd.nil Rd.nil)
  rintro xx w1 ⟨rfl, hb1⟩
  go_wp2
  go_ret
  exact ⟨rfl, hb0.trans (hb1.mono hb0.size)⟩

set_option maxRecDepth 20000 in
set_option maxHeartbeats 3200000 in
theorem mayEntry_any {w : World} {Q : Nat → Prop} {x : EntryD} {cs : List Value} (h : tyEntry.Is w Q x cs) : Calls Tryz.prog 74 #[.agg cs.toArray] w fun e w' => e = .returned (.bool (entryB x)) ∧ Below w.heap.size w w' := by
  obtain ⟨eKind, eNum, eView, eClient, eSerial, eOpKind, eOpAt, eOpN, eOpData, eOpDataA, eOpDatan, eOpDatac, eOpOld, eOpOldA, eOpOldn, eOpOldc, eGroupEpoch, eGroupMembers, eGroupMembersA, eGroupMembersn, eGroupMembersc, eGroupMembersv, rfl, rfl, hu_eKind, h1_eNum, h2_eNum, h1_eView, h2_eView, h1_eClient, h2_eClient, h1_eSerial, h2_eSerial, hu_eOpKind, h1_eOpAt, h2_eOpAt, h1_eOpN, h2_eOpN, hl_eOpData, hc_eOpData, hm_eOpData, hr_eOpData, hq_eOpData, hl_eOpOld, hc_eOpOld, hm_eOpOld, hr_eOpOld, hq_eOpOld, h1_eGroupEpoch, h2_eGroupEpoch, hl_eGroupMembers, hc_eGroupMembers, hm_eGroupMembers, hr_eGroupMembers, hq_eGroupMembers, he_eGroupMembers⟩ := Entry_out h
  obtain ⟨hmi, _⟩ := i64rows he_eGroupMembers
  subst hmi
  obtain ⟨w0, hw0⟩ : ∃ x, w.alloc (.cells #[.int .u8 eKind, .int .i64 eNum, .int .i64 eView, .int .i64 eClient, .int .i64 eSerial, .int .u8 eOpKind, .int .i64 eOpAt, .int .i64 eOpN, .slice eOpDataA eOpDatan eOpDatac, .slice eOpOldA eOpOldn eOpOldc, .int .i64 eGroupEpoch, .slice eGroupMembersA eGroupMembersn eGroupMembersc] 49) = x := ⟨_, rfl⟩; have hBw0 : Blk w0 w.heap.size [.int .u8 eKind, .int .i64 eNum, .int .i64 eView, .int .i64 eClient, .int .i64 eSerial, .int .u8 eOpKind, .int .i64 eOpAt, .int .i64 eOpN, .slice eOpDataA eOpDatan eOpDatac, .slice eOpOldA eOpOldn eOpOldc, .int .i64 eGroupEpoch, .slice eGroupMembersA eGroupMembersn eGroupMembersc] 49 := (by rw [← hw0]; exact Blk.new w [.int .u8 eKind, .int .i64 eNum, .int .i64 eView, .int .i64 eClient, .int .i64 eSerial, .int .u8 eOpKind, .int .i64 eOpAt, .int .i64 eOpN, .slice eOpDataA eOpDatan eOpDatac, .slice eOpOldA eOpOldn eOpOldc, .int .i64 eGroupEpoch, .slice eGroupMembersA eGroupMembersn eGroupMembersc] _); have hbw0 : Below w.heap.size w w0 := (by rw [← hw0]; exact (Below.refl _ _).alloc (Nat.le_refl _) _); have Hw0 := hide hw0; clear hw0
  have hrD := hr_eOpData.below hbw0
  have hrO := hr_eOpOld.below hbw0
  have hrM := hr_eGroupMembers.below hbw0
  have HlD := hide hl_eOpData
  have HlO := hide hl_eOpOld
  have HlM := hide hl_eGroupMembers
  clear hl_eOpData hl_eOpOld hl_eGroupMembers hq_eOpData hq_eOpOld hq_eGroupMembers he_eGroupMembers hr_eOpData hr_eOpOld hr_eGroupMembers
  have y0 := Blk.cell hBw0 (j := 0) rfl; have y1 := Blk.cell hBw0 (j := 1) rfl; have y2 := Blk.cell hBw0 (j := 2) rfl; have y3 := Blk.cell hBw0 (j := 3) rfl; have y4 := Blk.cell hBw0 (j := 4) rfl; have y5 := Blk.cell hBw0 (j := 5) rfl; have y6 := Blk.cell hBw0 (j := 6) rfl; have y7 := Blk.cell hBw0 (j := 7) rfl; have y8 := Blk.cell hBw0 (j := 8) rfl; have y9 := Blk.cell hBw0 (j := 9) rfl; have y10 := Blk.cell hBw0 (j := 10) rfl; have y11 := Blk.cell hBw0 (j := 11) rfl

  cases h0 : serB eNum with
  | false =>
    have HF := hide (show entryB (eKind, eNum, eView, eClient, eSerial, (eOpKind, eOpAt, eOpN, eOpData, eOpOld), (eGroupEpoch, eGroupMembers)) = false by simp [entryB, h0])
    have H0 := hide h0
    clear h0
    go_enter Tryz.func74, Tryz.ntmps74
    go_wp2_with fail
    rw [Hw0.out]
    go_fit (serial_any eNum w0)
    rw [H0.out]
    rintro xx wz ⟨rfl, rfl⟩
    go_wp2
    go_ret
    exact ⟨by rw [HF.out]; rfl, hbw0⟩
  | true =>
    cases h1 : numB eView with
    | false =>
      have HF := hide (show entryB (eKind, eNum, eView, eClient, eSerial, (eOpKind, eOpAt, eOpN, eOpData, eOpOld), (eGroupEpoch, eGroupMembers)) = false by simp [entryB, h0, h1])
      have H0 := hide h0
      have H1 := hide h1
      clear h0 h1
      go_enter Tryz.func74, Tryz.ntmps74
      go_wp2_with fail
      rw [Hw0.out]
      go_fit (serial_any eNum w0)
      rw [H0.out]
      rintro xx wz ⟨rfl, rfl⟩
      go_wp2_with fail
      go_fit (number_any eView w0)
      rw [H1.out]
      rintro xx wz ⟨rfl, rfl⟩
      go_wp2
      go_ret
      exact ⟨by rw [HF.out]; rfl, hbw0⟩
    | true =>
      cases h2 : serB eClient with
      | false =>
        have HF := hide (show entryB (eKind, eNum, eView, eClient, eSerial, (eOpKind, eOpAt, eOpN, eOpData, eOpOld), (eGroupEpoch, eGroupMembers)) = false by simp [entryB, h0, h1, h2])
        have H0 := hide h0
        have H1 := hide h1
        have H2 := hide h2
        clear h0 h1 h2
        go_enter Tryz.func74, Tryz.ntmps74
        go_wp2_with fail
        rw [Hw0.out]
        go_fit (serial_any eNum w0)
        rw [H0.out]
        rintro xx wz ⟨rfl, rfl⟩
        go_wp2_with fail
        go_fit (number_any eView w0)
        rw [H1.out]
        rintro xx wz ⟨rfl, rfl⟩
        go_wp2_with fail
        go_fit (serial_any eClient w0)
        rw [H2.out]
        rintro xx wz ⟨rfl, rfl⟩
        go_wp2
        go_ret
        exact ⟨by rw [HF.out]; rfl, hbw0⟩
      | true =>
        cases h3 : serB eSerial with
        | false =>
          have HF := hide (show entryB (eKind, eNum, eView, eClient, eSerial, (eOpKind, eOpAt, eOpN, eOpData, eOpOld), (eGroupEpoch, eGroupMembers)) = false by simp [entryB, h0, h1, h2, h3])
          have H0 := hide h0
          have H1 := hide h1
          have H2 := hide h2
          have H3 := hide h3
          clear h0 h1 h2 h3
          go_enter Tryz.func74, Tryz.ntmps74
          go_wp2_with fail
          rw [Hw0.out]
          go_fit (serial_any eNum w0)
          rw [H0.out]
          rintro xx wz ⟨rfl, rfl⟩
          go_wp2_with fail
          go_fit (number_any eView w0)
          rw [H1.out]
          rintro xx wz ⟨rfl, rfl⟩
          go_wp2_with fail
          go_fit (serial_any eClient w0)
          rw [H2.out]
          rintro xx wz ⟨rfl, rfl⟩
          go_wp2_with fail
          go_fit (serial_any eSerial w0)
          rw [H3.out]
          rintro xx wz ⟨rfl, rfl⟩
          go_wp2
          go_ret
          exact ⟨by rw [HF.out]; rfl, hbw0⟩
        | true =>
          have HT := hide (show entryB (eKind, eNum, eView, eClient, eSerial, (eOpKind, eOpAt, eOpN, eOpData, eOpOld), (eGroupEpoch, eGroupMembers)) = kindB (eKind, eNum, eView, eClient, eSerial, (eOpKind, eOpAt, eOpN, eOpData, eOpOld), (eGroupEpoch, eGroupMembers)) by simp [entryB, h0, h1, h2, h3])
          have H0 := hide h0
          have H1 := hide h1
          have H2 := hide h2
          have H3 := hide h3
          clear h0 h1 h2 h3
          by_cases hk1 : eKind = 1
          · have p1 : ((eKind : Int) == 1) = true := by simp [hk1]
            have HK := hide hk1
            clear hk1
            cases hf : (fmE eOpKind eOpAt eOpN eOpDatan eOpOldn == 0) with
            | false =>
              have HF := hide (show kindB (eKind, eNum, eView, eClient, eSerial, (eOpKind, eOpAt, eOpN, eOpData, eOpOld), (eGroupEpoch, eGroupMembers)) = false by unfold kindB; rw [if_pos HK.out, HlD.out, HlO.out, hf]; rfl)
              have q := hf
              clear hf
              go_enter Tryz.func74, Tryz.ntmps74
              go_wp2_with fail
              rw [Hw0.out]
              go_fit (serial_any eNum w0)
              rw [H0.out]
              rintro xx wz ⟨rfl, rfl⟩
              go_wp2_with fail
              go_fit (number_any eView w0)
              rw [H1.out]
              rintro xx wz ⟨rfl, rfl⟩
              go_wp2_with fail
              go_fit (serial_any eClient w0)
              rw [H2.out]
              rintro xx wz ⟨rfl, rfl⟩
              go_wp2_with fail
              go_fit (serial_any eSerial w0)
              rw [H3.out]
              rintro xx wz ⟨rfl, rfl⟩
              go_wp2_with fail
              go_fit (form_any eOpKind eOpAt eOpN eOpDataA eOpDatan eOpDatac eOpOldA eOpOldn eOpOldc w0 hu_eOpKind)
              rintro xx w1 ⟨rfl, hb1⟩
              go_wp2
              go_ret
              exact ⟨by rw [HT.out, HF.out]; rfl, hbw0.trans (hb1.mono hbw0.size)⟩
            | true =>
              have HF := hide (show kindB (eKind, eNum, eView, eClient, eSerial, (eOpKind, eOpAt, eOpN, eOpData, eOpOld), (eGroupEpoch, eGroupMembers)) = ngB eGroupEpoch eGroupMembersn by unfold kindB; rw [if_pos HK.out, HlD.out, HlO.out, hf, HlM.out]; rfl)
              have q := hf
              clear hf
              go_enter Tryz.func74, Tryz.ntmps74
              go_wp2_with fail
              rw [Hw0.out]
              go_fit (serial_any eNum w0)
              rw [H0.out]
              rintro xx wz ⟨rfl, rfl⟩
              go_wp2_with fail
              go_fit (number_any eView w0)
              rw [H1.out]
              rintro xx wz ⟨rfl, rfl⟩
              go_wp2_with fail
              go_fit (serial_any eClient w0)
              rw [H2.out]
              rintro xx wz ⟨rfl, rfl⟩
              go_wp2_with fail
              go_fit (serial_any eSerial w0)
              rw [H3.out]
              rintro xx wz ⟨rfl, rfl⟩
              go_wp2_with fail
              go_fit (form_any eOpKind eOpAt eOpN eOpDataA eOpDatan eOpDatac eOpOldA eOpOldn eOpOldc w0 hu_eOpKind)
              rintro xx w1 ⟨rfl, hb1⟩
              have hB1 := hBw0.below hb1
              clear y0 y1 y2 y3 y4 y5 y6 y7 y8 y9 y10 y11
              have y0 := Blk.cell hB1 (j := 0) rfl; have y1 := Blk.cell hB1 (j := 1) rfl; have y2 := Blk.cell hB1 (j := 2) rfl; have y3 := Blk.cell hB1 (j := 3) rfl; have y4 := Blk.cell hB1 (j := 4) rfl; have y5 := Blk.cell hB1 (j := 5) rfl; have y6 := Blk.cell hB1 (j := 6) rfl; have y7 := Blk.cell hB1 (j := 7) rfl; have y8 := Blk.cell hB1 (j := 8) rfl; have y9 := Blk.cell hB1 (j := 9) rfl; have y10 := Blk.cell hB1 (j := 10) rfl; have y11 := Blk.cell hB1 (j := 11) rfl
              go_wp2_with fail
              go_fit (noGroup_any eGroupEpoch eGroupMembersA eGroupMembersn eGroupMembersc w1)
              rintro xx w2 ⟨rfl, hb2⟩
              go_wp2
              go_ret
              exact ⟨by rw [HT.out, HF.out]; rfl, hbw0.trans ((hb1.trans (hb2.mono hb1.size)).mono hbw0.size)⟩
          · have p1 : ((eKind : Int) == 1) = false := by simpa using (by omega : ¬ (eKind : Int) = 1)
            by_cases hk2 : eKind = 2
            · have p2 : ((eKind : Int) == 2) = true := by simp [hk2]
              have HK := hide hk2
              have HK1 := hide hk1
              clear hk2 hk1
              cases hg : grpOk eGroupEpoch eGroupMembers with
              | false =>
                have HF := hide (show kindB (eKind, eNum, eView, eClient, eSerial, (eOpKind, eOpAt, eOpN, eOpData, eOpOld), (eGroupEpoch, eGroupMembers)) = false by unfold kindB; rw [if_neg HK1.out, if_pos HK.out]; simp only; rw [hg]; rfl)
                have HG := hide hg
                clear hg
                go_enter Tryz.func74, Tryz.ntmps74
                go_wp2_with fail
                rw [Hw0.out]
                go_fit (serial_any eNum w0)
                rw [H0.out]
                rintro xx wz ⟨rfl, rfl⟩
                go_wp2_with fail
                go_fit (number_any eView w0)
                rw [H1.out]
                rintro xx wz ⟨rfl, rfl⟩
                go_wp2_with fail
                go_fit (serial_any eClient w0)
                rw [H2.out]
                rintro xx wz ⟨rfl, rfl⟩
                go_wp2_with fail
                go_fit (serial_any eSerial w0)
                rw [H3.out]
                rintro xx wz ⟨rfl, rfl⟩
                go_wp2_with fail
                go_fit (mgroup_any eGroupEpoch eGroupMembersA eGroupMembersn eGroupMembersc eGroupMembers w0 HlM.out hrM)
                rw [HG.out]
                rintro xx w1 ⟨rfl, hb1⟩
                go_wp2
                go_ret
                exact ⟨by rw [HT.out, HF.out]; rfl, hbw0.trans (hb1.mono hbw0.size)⟩
              | true =>
                have HF := hide (show kindB (eKind, eNum, eView, eClient, eSerial, (eOpKind, eOpAt, eOpN, eOpData, eOpOld), (eGroupEpoch, eGroupMembers)) = noB eOpKind eOpAt eOpN eOpData eOpOld by unfold kindB; rw [if_neg HK1.out, if_pos HK.out]; simp only; rw [hg]; rfl)
                have HG := hide hg
                clear hg
                go_enter Tryz.func74, Tryz.ntmps74
                go_wp2_with fail
                rw [Hw0.out]
                go_fit (serial_any eNum w0)
                rw [H0.out]
                rintro xx wz ⟨rfl, rfl⟩
                go_wp2_with fail
                go_fit (number_any eView w0)
                rw [H1.out]
                rintro xx wz ⟨rfl, rfl⟩
                go_wp2_with fail
                go_fit (serial_any eClient w0)
                rw [H2.out]
                rintro xx wz ⟨rfl, rfl⟩
                go_wp2_with fail
                go_fit (serial_any eSerial w0)
                rw [H3.out]
                rintro xx wz ⟨rfl, rfl⟩
                go_wp2_with fail
                go_fit (mgroup_any eGroupEpoch eGroupMembersA eGroupMembersn eGroupMembersc eGroupMembers w0 HlM.out hrM)
                rw [HG.out]
                rintro xx w1 ⟨rfl, hb1⟩
                have hB1 := hBw0.below hb1
                clear y0 y1 y2 y3 y4 y5 y6 y7 y8 y9 y10 y11
                have y0 := Blk.cell hB1 (j := 0) rfl; have y1 := Blk.cell hB1 (j := 1) rfl; have y2 := Blk.cell hB1 (j := 2) rfl; have y3 := Blk.cell hB1 (j := 3) rfl; have y4 := Blk.cell hB1 (j := 4) rfl; have y5 := Blk.cell hB1 (j := 5) rfl; have y6 := Blk.cell hB1 (j := 6) rfl; have y7 := Blk.cell hB1 (j := 7) rfl; have y8 := Blk.cell hB1 (j := 8) rfl; have y9 := Blk.cell hB1 (j := 9) rfl; have y10 := Blk.cell hB1 (j := 10) rfl; have y11 := Blk.cell hB1 (j := 11) rfl
                go_wp2_with fail
                go_fit (noOp_any eOpKind eOpAt eOpN eOpDataA eOpDatan eOpDatac eOpData eOpOldA eOpOldn eOpOldc eOpOld w1 HlD.out HlO.out (hrD.below hb1) (hrO.below hb1))
                rintro xx w2 ⟨rfl, hb2⟩
                go_wp2
                go_ret
                exact ⟨by rw [HT.out, HF.out]; rfl, hbw0.trans ((hb1.trans (hb2.mono hb1.size)).mono hbw0.size)⟩
            · have p2 : ((eKind : Int) == 2) = false := by simpa using (by omega : ¬ (eKind : Int) = 2)
              have HF := hide (show kindB (eKind, eNum, eView, eClient, eSerial, (eOpKind, eOpAt, eOpN, eOpData, eOpOld), (eGroupEpoch, eGroupMembers)) = false by unfold kindB; rw [if_neg hk1, if_neg hk2])
              clear hk1 hk2
              go_enter Tryz.func74, Tryz.ntmps74
              go_wp2_with fail
              rw [Hw0.out]
              go_fit (serial_any eNum w0)
              rw [H0.out]
              rintro xx wz ⟨rfl, rfl⟩
              go_wp2_with fail
              go_fit (number_any eView w0)
              rw [H1.out]
              rintro xx wz ⟨rfl, rfl⟩
              go_wp2_with fail
              go_fit (serial_any eClient w0)
              rw [H2.out]
              rintro xx wz ⟨rfl, rfl⟩
              go_wp2_with fail
              go_fit (serial_any eSerial w0)
              rw [H3.out]
              rintro xx wz ⟨rfl, rfl⟩
              go_wp2
              go_ret
              exact ⟨by rw [HT.out, HF.out]; rfl, hbw0⟩

set_option maxRecDepth 20000 in
set_option maxHeartbeats 3200000 in
theorem mEntry_any {w : World} {Q : Nat → Prop} {x : EntryD} {cs : List Value} (h : tyEntry.Is w Q x cs) : Calls Tryz.prog 29 #[.agg cs.toArray] w fun e w' => e = .returned (.int .i64 (enE x)) ∧ Below w.heap.size w w' := by
  have h' := h
  obtain ⟨eKind, eNum, eView, eClient, eSerial, eOpKind, eOpAt, eOpN, eOpData, eOpDataA, eOpDatan, eOpDatac, eOpOld, eOpOldA, eOpOldn, eOpOldc, eGroupEpoch, eGroupMembers, eGroupMembersA, eGroupMembersn, eGroupMembersc, eGroupMembersv, rfl, rfl, hu_eKind, h1_eNum, h2_eNum, h1_eView, h2_eView, h1_eClient, h2_eClient, h1_eSerial, h2_eSerial, hu_eOpKind, h1_eOpAt, h2_eOpAt, h1_eOpN, h2_eOpN, hl_eOpData, hc_eOpData, hm_eOpData, hr_eOpData, hq_eOpData, hl_eOpOld, hc_eOpOld, hm_eOpOld, hr_eOpOld, hq_eOpOld, h1_eGroupEpoch, h2_eGroupEpoch, hl_eGroupMembers, hc_eGroupMembers, hm_eGroupMembers, hr_eGroupMembers, hq_eGroupMembers, he_eGroupMembers⟩ := Entry_out h'
  obtain ⟨w0, hw0⟩ : ∃ x, w.alloc (.cells #[.int .u8 eKind, .int .i64 eNum, .int .i64 eView, .int .i64 eClient, .int .i64 eSerial, .int .u8 eOpKind, .int .i64 eOpAt, .int .i64 eOpN, .slice eOpDataA eOpDatan eOpDatac, .slice eOpOldA eOpOldn eOpOldc, .int .i64 eGroupEpoch, .slice eGroupMembersA eGroupMembersn eGroupMembersc] 49) = x := ⟨_, rfl⟩; have hBw0 : Blk w0 w.heap.size [.int .u8 eKind, .int .i64 eNum, .int .i64 eView, .int .i64 eClient, .int .i64 eSerial, .int .u8 eOpKind, .int .i64 eOpAt, .int .i64 eOpN, .slice eOpDataA eOpDatan eOpDatac, .slice eOpOldA eOpOldn eOpOldc, .int .i64 eGroupEpoch, .slice eGroupMembersA eGroupMembersn eGroupMembersc] 49 := (by rw [← hw0]; exact Blk.new w [.int .u8 eKind, .int .i64 eNum, .int .i64 eView, .int .i64 eClient, .int .i64 eSerial, .int .u8 eOpKind, .int .i64 eOpAt, .int .i64 eOpN, .slice eOpDataA eOpDatan eOpDatac, .slice eOpOldA eOpOldn eOpOldc, .int .i64 eGroupEpoch, .slice eGroupMembersA eGroupMembersn eGroupMembersc] _); have hbw0 : Below w.heap.size w w0 := (by rw [← hw0]; exact (Below.refl _ _).alloc (Nat.le_refl _) _); have Hw0 := hide hw0; clear hw0
  have h0 := h.below hbw0
  have y0 := Blk.cell hBw0 (j := 0) rfl; have y1 := Blk.cell hBw0 (j := 1) rfl; have y2 := Blk.cell hBw0 (j := 2) rfl; have y3 := Blk.cell hBw0 (j := 3) rfl; have y4 := Blk.cell hBw0 (j := 4) rfl; have y5 := Blk.cell hBw0 (j := 5) rfl; have y6 := Blk.cell hBw0 (j := 6) rfl; have y7 := Blk.cell hBw0 (j := 7) rfl; have y8 := Blk.cell hBw0 (j := 8) rfl; have y9 := Blk.cell hBw0 (j := 9) rfl; have y10 := Blk.cell hBw0 (j := 10) rfl; have y11 := Blk.cell hBw0 (j := 11) rfl
  cases hx : entryB (eKind, eNum, eView, eClient, eSerial, (eOpKind, eOpAt, eOpN, eOpData, eOpOld), (eGroupEpoch, eGroupMembers)) with
  | true =>
    have HX := hide hx
    clear hx
    go_enter Tryz.func29, Tryz.ntmps29
    go_wp2_with fail
    rw [Hw0.out]
    go_fit (mayEntry_any h0)
    rw [HX.out]
    rintro xx w1 ⟨rfl, hb1⟩
    go_wp2
    go_ret
    exact ⟨by rw [enE_ok HX.out]; rfl, hbw0.trans (hb1.mono hbw0.size)⟩
  | false =>
    have HX := hide hx
    clear hx
    go_enter Tryz.func29, Tryz.ntmps29
    go_wp2_with fail
    rw [Hw0.out]
    go_fit (mayEntry_any h0)
    rw [HX.out]
    rintro xx w1 ⟨rfl, hb1⟩
    go_wp2
    go_ret
    exact ⟨by rw [enE_no HX.out]; rfl, hbw0.trans (hb1.mono hbw0.size)⟩
end Go.Proofs.YtkknkdjdneldlaaGreat
namespace Go.Proofs.YtkknkdjdneldlaaGreat
set_option maxRecDepth 20000
open Go.RowKit Go.Px Go.Maps
set_option linter.unusedVariables false
theorem bare_any (k : Nat) (p n : Int) (D : Option Addr) (d dc : Nat) (ds : List UInt8) (O : Option Addr) (o oc : Nat) (os : List UInt8) (w : World) (hd : ds.length = d) (ho : os.length = o) (hD : Rd w D (bys ds)) (hO : Rd w O (bys os)) :
    Calls Tryz.prog 82 #[opv k p n D d dc O o oc] w fun x w' => x = .returned (.bool (noB k p n ds os)) ∧ Below w.heap.size w w' := by
  have Hd := hide hd
  have Ho := hide ho
  clear hd ho
  obtain ⟨w0, hw0⟩ : ∃ x, w.alloc (.cells #[.int .u8 k, .int .i64 p, .int .i64 n, .slice D d dc, .slice O o oc] 47) = x := ⟨_, rfl⟩
  have hB : Blk w0 w.heap.size [.int .u8 k, .int .i64 p, .int .i64 n, .slice D d dc, .slice O o oc] 47 := by rw [← hw0]; exact Blk.new w [.int .u8 k, .int .i64 p, .int .i64 n, .slice D d dc, .slice O o oc] _
  have hb0 : Below w.heap.size w w0 := by rw [← hw0]; exact (Below.refl _ _).alloc (Nat.le_refl _) _
  have Hw0 := hide hw0
  clear hw0
  have y0 := Blk.cell hB (j := 0) rfl; have y1 := Blk.cell hB (j := 1) rfl; have y2 := Blk.cell hB (j := 2) rfl; have y3 := Blk.cell hB (j := 3) rfl; have y4 := Blk.cell hB (j := 4) rfl
  go_enter Tryz.func82, Tryz.ntmps82
  go_wp2_with fail
  rw [Hw0.out]
  go_fit (rosame_any k p n D d dc ds O o oc os 0 0 0 none 0 0 [] none 0 0 [] w0 Hd.out Ho.out rfl rfl (hD.below hb0) (hO.below hb0) Rd.nil Rd.nil)
  rintro xx w1 ⟨rfl, hb1⟩
  go_wp2
  go_ret
  exact ⟨rfl, hb0.trans (hb1.mono hb0.size)⟩
set_option maxRecDepth 20000 in
set_option maxHeartbeats 6400000 in
theorem rentry_any {w : World} {Q : Nat → Prop} {x : EntryD} {cs : List Value} (h : tyEntry.Is w Q x cs) : Calls Tryz.prog 30 #[.agg cs.toArray] w fun e w' => e = .returned (.int .i64 (enE x)) ∧ Below w.heap.size w w' := by
  obtain ⟨eKind, eNum, eView, eClient, eSerial, eOpKind, eOpAt, eOpN, eOpData, eOpDataA, eOpDatan, eOpDatac, eOpOld, eOpOldA, eOpOldn, eOpOldc, eGroupEpoch, eGroupMembers, eGroupMembersA, eGroupMembersn, eGroupMembersc, eGroupMembersv, rfl, rfl, hu_eKind, h1_eNum, h2_eNum, h1_eView, h2_eView, h1_eClient, h2_eClient, h1_eSerial, h2_eSerial, hu_eOpKind, h1_eOpAt, h2_eOpAt, h1_eOpN, h2_eOpN, hl_eOpData, hc_eOpData, hm_eOpData, hr_eOpData, hq_eOpData, hl_eOpOld, hc_eOpOld, hm_eOpOld, hr_eOpOld, hq_eOpOld, h1_eGroupEpoch, h2_eGroupEpoch, hl_eGroupMembers, hc_eGroupMembers, hm_eGroupMembers, hr_eGroupMembers, hq_eGroupMembers, he_eGroupMembers⟩ := Entry_out h
  obtain ⟨hmi, _⟩ := i64rows he_eGroupMembers
  subst hmi
  obtain ⟨g, hg⟩ : ∃ g, w.heap.size = g := ⟨_, rfl⟩
  obtain ⟨w0, hw0⟩ : ∃ x, (w.alloc (.cells #[.int .u8 eKind, .int .i64 eNum, .int .i64 eView, .int .i64 eClient, .int .i64 eSerial, .int .u8 eOpKind, .int .i64 eOpAt, .int .i64 eOpN, .slice eOpDataA eOpDatan eOpDatac, .slice eOpOldA eOpOldn eOpOldc, .int .i64 eGroupEpoch, .slice eGroupMembersA eGroupMembersn eGroupMembersc] 49)).alloc (.cells #[.int .i64 eNum, .int .i64 eClient, .int .i64 eSerial] 3) = x := ⟨_, rfl⟩
  have hE0 : Blk w0 g [.int .u8 eKind, .int .i64 eNum, .int .i64 eView, .int .i64 eClient, .int .i64 eSerial, .int .u8 eOpKind, .int .i64 eOpAt, .int .i64 eOpN, .slice eOpDataA eOpDatan eOpDatac, .slice eOpOldA eOpOldn eOpOldc, .int .i64 eGroupEpoch, .slice eGroupMembersA eGroupMembersn eGroupMembersc] 49 := by rw [← hw0, ← hg]; exact (Blk.new w [.int .u8 eKind, .int .i64 eNum, .int .i64 eView, .int .i64 eClient, .int .i64 eSerial, .int .u8 eOpKind, .int .i64 eOpAt, .int .i64 eOpN, .slice eOpDataA eOpDatan eOpDatac, .slice eOpOldA eOpOldn eOpOldc, .int .i64 eGroupEpoch, .slice eGroupMembersA eGroupMembersn eGroupMembersc] _).alloc _
  have hI0 : Blk w0 (g + 1) [.int .i64 eNum, .int .i64 eClient, .int .i64 eSerial] 3 := by
    rw [← hw0, ← hg]
    have := Blk.new (w.alloc (.cells #[.int .u8 eKind, .int .i64 eNum, .int .i64 eView, .int .i64 eClient, .int .i64 eSerial, .int .u8 eOpKind, .int .i64 eOpAt, .int .i64 eOpN, .slice eOpDataA eOpDatan eOpDatac, .slice eOpOldA eOpOldn eOpOldc, .int .i64 eGroupEpoch, .slice eGroupMembersA eGroupMembersn eGroupMembersc] 49)) [.int .i64 eNum, .int .i64 eClient, .int .i64 eSerial] 3
    rwa [World.size_alloc] at this
  have hbw0 : Below w.heap.size w w0 := by rw [← hw0]; exact ((Below.refl _ _).alloc (Nat.le_refl _) _).alloc (by simp) _
  have Hw0 := hide hw0
  have hrD := hr_eOpData.below hbw0
  have hrO := hr_eOpOld.below hbw0
  have hrM := hr_eGroupMembers.below hbw0
  have HlD := hide hl_eOpData
  have HlO := hide hl_eOpOld
  have HlM := hide hl_eGroupMembers
  rw [hg] at hbw0
  clear hw0 hl_eOpData hl_eOpOld hl_eGroupMembers hq_eOpData hq_eOpOld hq_eGroupMembers he_eGroupMembers hr_eOpData hr_eOpOld hr_eGroupMembers
  go_enter Tryz.func30, Tryz.ntmps30
  go_wp2_with fail
  rw [Hw0.out]
  go_loopw [13] (fun iv wr => ∃ k : Nat, k ≤ 3 ∧ iv = .int .i64 k ∧ Below w0.heap.size w0 wr ∧ (1 ≤ k → serB eNum = true) ∧ (2 ≤ k → serB eClient = true) ∧ (3 ≤ k → serB eSerial = true)) (fun iv _ => 3 - (intOf iv).toNat)
  case atStart => exact ⟨0, by omega, rfl, Below.refl _ _, by omega, by omega, by omega⟩
  case round =>
    obtain ⟨k, hk, rfl, hB, s1, s2, s3⟩ := hrel
    have hE1 := hE0.below hB
    have hI1 := hI0.below hB
    have hBw := hbw0.trans (hB.mono (by have := hbw0.size; omega))
    have Hse := hide (And.intro s1 (And.intro s2 s3))
    clear s1 s2 s3
    obtain rfl | rfl | rfl | rfl : k = 0 ∨ k = 1 ∨ k = 2 ∨ k = 3 := by omega
    · have x1 := hI1.cell (j := 0) rfl
      by_cases v1 : 1 ≤ eNum
      · by_cases v2 : eNum ≤ 4611686018427387904
        · have hs : serB eNum = true := decide_eq_true ⟨v1, v2⟩
          have Hs := hide hs
          clear hs
          go_wp2
          go_roundw
          case rel => exact ⟨1, by omega, by go_num, hB, fun _ => Hs.out, fun hh => by omega, fun hh => by omega⟩
          case measure => simp [intOf]
        · have HV := hide (show enE (eKind, eNum, eView, eClient, eSerial, (eOpKind, eOpAt, eOpN, eOpData, eOpOld), (eGroupEpoch, eGroupMembers)) = 71 from enE_no (by simp [entryB, show serB eNum = false from decide_eq_false (by omega)]))
          go_wp2
          go_ret
          exact ⟨by rw [HV.out]; rfl, by first | exact hBw | (rw [hg]; exact hBw)⟩
      · have HV := hide (show enE (eKind, eNum, eView, eClient, eSerial, (eOpKind, eOpAt, eOpN, eOpData, eOpOld), (eGroupEpoch, eGroupMembers)) = 71 from enE_no (by simp [entryB, show serB eNum = false from decide_eq_false (by omega)]))
        go_wp2
        go_ret
        exact ⟨by rw [HV.out]; rfl, by first | exact hBw | (rw [hg]; exact hBw)⟩
    · have x1 := hI1.cell (j := 1) rfl
      by_cases v1 : 1 ≤ eClient
      · by_cases v2 : eClient ≤ 4611686018427387904
        · have hs : serB eClient = true := decide_eq_true ⟨v1, v2⟩
          have Hs := hide hs
          clear hs
          go_wp2
          go_roundw
          case rel => exact ⟨2, by omega, by go_num, hB, Hse.out.1 ∘ (fun _ => by omega), fun _ => Hs.out, fun hh => by omega⟩
          case measure => simp [intOf]
        · have HV := hide (show enE (eKind, eNum, eView, eClient, eSerial, (eOpKind, eOpAt, eOpN, eOpData, eOpOld), (eGroupEpoch, eGroupMembers)) = 71 from enE_no (by simp [entryB, show serB eClient = false from decide_eq_false (by omega)]))
          go_wp2
          go_ret
          exact ⟨by rw [HV.out]; rfl, by first | exact hBw | (rw [hg]; exact hBw)⟩
      · have HV := hide (show enE (eKind, eNum, eView, eClient, eSerial, (eOpKind, eOpAt, eOpN, eOpData, eOpOld), (eGroupEpoch, eGroupMembers)) = 71 from enE_no (by simp [entryB, show serB eClient = false from decide_eq_false (by omega)]))
        go_wp2
        go_ret
        exact ⟨by rw [HV.out]; rfl, by first | exact hBw | (rw [hg]; exact hBw)⟩
    · have x1 := hI1.cell (j := 2) rfl
      by_cases v1 : 1 ≤ eSerial
      · by_cases v2 : eSerial ≤ 4611686018427387904
        · have hs : serB eSerial = true := decide_eq_true ⟨v1, v2⟩
          have Hs := hide hs
          clear hs
          go_wp2
          go_roundw
          case rel => exact ⟨3, by omega, by go_num, hB, Hse.out.1 ∘ (fun _ => by omega), Hse.out.2.1 ∘ (fun _ => by omega), fun _ => Hs.out⟩
          case measure => simp [intOf]
        · have HV := hide (show enE (eKind, eNum, eView, eClient, eSerial, (eOpKind, eOpAt, eOpN, eOpData, eOpOld), (eGroupEpoch, eGroupMembers)) = 71 from enE_no (by simp [entryB, show serB eSerial = false from decide_eq_false (by omega)]))
          go_wp2
          go_ret
          exact ⟨by rw [HV.out]; rfl, by first | exact hBw | (rw [hg]; exact hBw)⟩
      · have HV := hide (show enE (eKind, eNum, eView, eClient, eSerial, (eOpKind, eOpAt, eOpN, eOpData, eOpOld), (eGroupEpoch, eGroupMembers)) = 71 from enE_no (by simp [entryB, show serB eSerial = false from decide_eq_false (by omega)]))
        go_wp2
        go_ret
        exact ⟨by rw [HV.out]; rfl, by first | exact hBw | (rw [hg]; exact hBw)⟩
    · obtain ⟨sa, sb, sc⟩ := Hse.out
      have h1 := sa (by omega)
      have h2 := sb (by omega)
      have h3 := sc (by omega)
      have H1 := hide h1
      have H2 := hide h2
      have H3 := hide h3
      clear sa sb sc h1 h2 h3 Hse
      have y0 := Blk.cell hE1 (j := 0) rfl; have y1 := Blk.cell hE1 (j := 1) rfl; have y2 := Blk.cell hE1 (j := 2) rfl; have y3 := Blk.cell hE1 (j := 3) rfl; have y4 := Blk.cell hE1 (j := 4) rfl; have y5 := Blk.cell hE1 (j := 5) rfl; have y6 := Blk.cell hE1 (j := 6) rfl; have y7 := Blk.cell hE1 (j := 7) rfl; have y8 := Blk.cell hE1 (j := 8) rfl; have y9 := Blk.cell hE1 (j := 9) rfl; have y10 := Blk.cell hE1 (j := 10) rfl; have y11 := Blk.cell hE1 (j := 11) rfl
      by_cases v1 : 0 ≤ eView
      case neg =>
        have HV := hide (show enE (eKind, eNum, eView, eClient, eSerial, (eOpKind, eOpAt, eOpN, eOpData, eOpOld), (eGroupEpoch, eGroupMembers)) = 71 from enE_no (by simp [entryB, show numB eView = false from decide_eq_false (by omega)]))
        go_wp2
        go_ret
        exact ⟨by rw [HV.out]; rfl, by first | exact hBw | (rw [hg]; exact hBw)⟩
      by_cases v2 : eView ≤ 4611686018427387904
      case neg =>
        have HV := hide (show enE (eKind, eNum, eView, eClient, eSerial, (eOpKind, eOpAt, eOpN, eOpData, eOpOld), (eGroupEpoch, eGroupMembers)) = 71 from enE_no (by simp [entryB, show numB eView = false from decide_eq_false (by omega)]))
        go_wp2
        go_ret
        exact ⟨by rw [HV.out]; rfl, by first | exact hBw | (rw [hg]; exact hBw)⟩
      have H4 := hide (show numB eView = true from decide_eq_true ⟨v1, v2⟩)
      have HK := hide (show entryB (eKind, eNum, eView, eClient, eSerial, (eOpKind, eOpAt, eOpN, eOpData, eOpOld), (eGroupEpoch, eGroupMembers)) = kindB (eKind, eNum, eView, eClient, eSerial, (eOpKind, eOpAt, eOpN, eOpData, eOpOld), (eGroupEpoch, eGroupMembers)) by simp [entryB, H1.out, H2.out, H3.out, H4.out])
      obtain rfl | rfl | ⟨k1, k2⟩ : eKind = 1 ∨ eKind = 2 ∨ (eKind ≠ 1 ∧ eKind ≠ 2) := by omega
      · obtain ⟨F, hF⟩ : ∃ y, fmE eOpKind eOpAt eOpN eOpDatan eOpOldn = y := ⟨_, rfl⟩
        have HKv := hide (show kindB (1, eNum, eView, eClient, eSerial, (eOpKind, eOpAt, eOpN, eOpData, eOpOld), eGroupEpoch, eGroupMembers) = ((F == 0) && ((eGroupEpoch == 0) && ((eGroupMembersn : Int) == 0))) by
          show ((fmE eOpKind eOpAt eOpN eOpData.length eOpOld.length == 0) && ngB eGroupEpoch eGroupMembers.length) = _
          rw [HlD.out, HlO.out, HlM.out, hF]; rfl)
        go_wp2_with fail
        go_fit (rform_any eOpKind eOpAt eOpN eOpDataA eOpDatan eOpDatac eOpOldA eOpOldn eOpOldc wr hu_eOpKind)
        rw [hF]
        rintro xx w1 ⟨rfl, hb1⟩
        have hBz := hBw.trans (hb1.mono (by have := hBw.size; omega))
        clear hF y0 y1 y2 y3 y4 y5 y6 y7 y8 y9 y10 y11
        have y0 := Blk.cell (hE1.below hb1) (j := 0) rfl; have y1 := Blk.cell (hE1.below hb1) (j := 1) rfl; have y2 := Blk.cell (hE1.below hb1) (j := 2) rfl; have y3 := Blk.cell (hE1.below hb1) (j := 3) rfl; have y4 := Blk.cell (hE1.below hb1) (j := 4) rfl; have y5 := Blk.cell (hE1.below hb1) (j := 5) rfl; have y6 := Blk.cell (hE1.below hb1) (j := 6) rfl; have y7 := Blk.cell (hE1.below hb1) (j := 7) rfl; have y8 := Blk.cell (hE1.below hb1) (j := 8) rfl; have y9 := Blk.cell (hE1.below hb1) (j := 9) rfl; have y10 := Blk.cell (hE1.below hb1) (j := 10) rfl; have y11 := Blk.cell (hE1.below hb1) (j := 11) rfl
        rcases bool_two (F == 0) with q1 | q1
        · rcases bool_two (eGroupEpoch == 0) with q2 | q2
          · rcases bool_two ((eGroupMembersn : Int) == 0) with q3 | q3
            · have HV := hide (show enE (1, eNum, eView, eClient, eSerial, (eOpKind, eOpAt, eOpN, eOpData, eOpOld), eGroupEpoch, eGroupMembers) = 0 from enE_ok (by rw [HK.out, HKv.out, q1, q2, q3]; rfl))
              go_wp2
              go_ret
              exact ⟨by rw [HV.out]; rfl, by first | exact hBz | (rw [hg]; exact hBz)⟩
            · have HV := hide (show enE (1, eNum, eView, eClient, eSerial, (eOpKind, eOpAt, eOpN, eOpData, eOpOld), eGroupEpoch, eGroupMembers) = 71 from enE_no (by rw [HK.out, HKv.out, q1, q2, q3]; rfl))
              go_wp2
              go_ret
              exact ⟨by rw [HV.out]; rfl, by first | exact hBz | (rw [hg]; exact hBz)⟩
          · have HV := hide (show enE (1, eNum, eView, eClient, eSerial, (eOpKind, eOpAt, eOpN, eOpData, eOpOld), eGroupEpoch, eGroupMembers) = 71 from enE_no (by rw [HK.out, HKv.out, q1, q2]; rfl))
            go_wp2
            go_ret
            exact ⟨by rw [HV.out]; rfl, by first | exact hBz | (rw [hg]; exact hBz)⟩
        · have HV := hide (show enE (1, eNum, eView, eClient, eSerial, (eOpKind, eOpAt, eOpN, eOpData, eOpOld), eGroupEpoch, eGroupMembers) = 71 from enE_no (by rw [HK.out, HKv.out, q1]; rfl))
          go_wp2
          go_ret
          exact ⟨by rw [HV.out]; rfl, by first | exact hBz | (rw [hg]; exact hBz)⟩
      · have HKv := hide (show kindB (2, eNum, eView, eClient, eSerial, (eOpKind, eOpAt, eOpN, eOpData, eOpOld), eGroupEpoch, eGroupMembers) = (grpOk eGroupEpoch eGroupMembers && noB eOpKind eOpAt eOpN eOpData eOpOld) from rfl)
        have hrD1 := hrD.below hB
        have hrO1 := hrO.below hB
        have hrM1 := hrM.below hB
        go_wp2_with fail
        go_fit (bare_any eOpKind eOpAt eOpN eOpDataA eOpDatan eOpDatac eOpData eOpOldA eOpOldn eOpOldc eOpOld wr HlD.out HlO.out hrD1 hrO1)
        rintro xx w1 ⟨rfl, hb1⟩
        have hBz := hBw.trans (hb1.mono (by have := hBw.size; omega))
        clear y0 y1 y2 y3 y4 y5 y6 y7 y8 y9 y10 y11
        have y0 := Blk.cell (hE1.below hb1) (j := 0) rfl; have y1 := Blk.cell (hE1.below hb1) (j := 1) rfl; have y2 := Blk.cell (hE1.below hb1) (j := 2) rfl; have y3 := Blk.cell (hE1.below hb1) (j := 3) rfl; have y4 := Blk.cell (hE1.below hb1) (j := 4) rfl; have y5 := Blk.cell (hE1.below hb1) (j := 5) rfl; have y6 := Blk.cell (hE1.below hb1) (j := 6) rfl; have y7 := Blk.cell (hE1.below hb1) (j := 7) rfl; have y8 := Blk.cell (hE1.below hb1) (j := 8) rfl; have y9 := Blk.cell (hE1.below hb1) (j := 9) rfl; have y10 := Blk.cell (hE1.below hb1) (j := 10) rfl; have y11 := Blk.cell (hE1.below hb1) (j := 11) rfl
        rcases bool_two (noB eOpKind eOpAt eOpN eOpData eOpOld) with q1 | q1
        · have Q1 := hide q1
          rw [q1]
          clear q1
          go_wp2_with fail
          go_fit (rgroup_any eGroupEpoch eGroupMembersA eGroupMembersn eGroupMembersc eGroupMembers w1 HlM.out (hrM1.below hb1))
          rintro xx w2 ⟨rfl, hb2⟩
          have hBy := hBz.trans (hb2.mono (by have := hBz.size; omega))
          cases hgo : grpOk eGroupEpoch eGroupMembers with
          | true =>
            have HV := hide (show enE (2, eNum, eView, eClient, eSerial, (eOpKind, eOpAt, eOpN, eOpData, eOpOld), eGroupEpoch, eGroupMembers) = 0 from enE_ok (by rw [HK.out, HKv.out, Q1.out, hgo]; rfl))
            rw [gE_ok hgo]
            clear hgo
            go_wp2
            go_ret
            exact ⟨by rw [HV.out]; rfl, by first | exact hBy | (rw [hg]; exact hBy)⟩
          | false =>
            have HV := hide (show enE (2, eNum, eView, eClient, eSerial, (eOpKind, eOpAt, eOpN, eOpData, eOpOld), eGroupEpoch, eGroupMembers) = 71 from enE_no (by rw [HK.out, HKv.out, Q1.out, hgo]; rfl))
            rw [gE_bad hgo]
            clear hgo
            go_wp2
            go_ret
            exact ⟨by rw [HV.out]; rfl, by first | exact hBy | (rw [hg]; exact hBy)⟩
        · have HV := hide (show enE (2, eNum, eView, eClient, eSerial, (eOpKind, eOpAt, eOpN, eOpData, eOpOld), eGroupEpoch, eGroupMembers) = 71 from enE_no (by rw [HK.out, HKv.out, q1, Bool.and_false]))
          rw [q1]
          clear q1
          go_wp2
          go_ret
          exact ⟨by rw [HV.out]; rfl, by first | exact hBz | (rw [hg]; exact hBz)⟩
      · have e1 : ((eKind : Int) == 1) = false := by simp; omega
        have e2 : ((eKind : Int) == 2) = false := by simp; omega
        have HV := hide (show enE (eKind, eNum, eView, eClient, eSerial, (eOpKind, eOpAt, eOpN, eOpData, eOpOld), (eGroupEpoch, eGroupMembers)) = 71 from enE_no (by rw [HK.out]; unfold kindB; rw [if_neg k1, if_neg k2]))
        clear k1 k2
        go_wp2
        go_ret
        exact ⟨by rw [HV.out]; rfl, by first | exact hBw | (rw [hg]; exact hBw)⟩
end Go.Proofs.YtkknkdjdneldlaaGreat
namespace Go.Proofs.YtkknkdjdneldlaaGreat
set_option maxRecDepth 20000
open Go.RowKit Go.Px Go.Maps
set_option linter.unusedVariables false
set_option linter.unusedSimpArgs false
/-- An entry's bytes. -/
def entHead (x : EntryD) : List UInt8 := [UInt8.ofNat x.1] ++ flatB 8 [x.2.1.toNat, x.2.2.1.toNat, x.2.2.2.1.toNat, x.2.2.2.2.1.toNat]
def entB (x : EntryD) : List UInt8 :=
  if entryB x = true then entHead x ++ (if x.1 = 2 then grpB x.2.2.2.2.2.2.1 x.2.2.2.2.2.2.2 else encL x.2.2.2.2.2.1.1 x.2.2.2.2.2.1.2.1 x.2.2.2.2.2.1.2.2.1 x.2.2.2.2.2.1.2.2.2.1 x.2.2.2.2.2.1.2.2.2.2) else []
theorem entB_bd {x : EntryD} (h : entryB x = true) : (1 ≤ x.2.1 ∧ x.2.1 ≤ 4611686018427387904) ∧ (0 ≤ x.2.2.1 ∧ x.2.2.1 ≤ 4611686018427387904) ∧ (1 ≤ x.2.2.2.1 ∧ x.2.2.2.1 ≤ 4611686018427387904) ∧ (1 ≤ x.2.2.2.2.1 ∧ x.2.2.2.2.1 ≤ 4611686018427387904) ∧ kindB x = true := by
  unfold entryB serB numB at h
  simp only [Bool.and_eq_true, decide_eq_true_eq] at h
  obtain ⟨h1, h2, h3, h4, h5⟩ := h
  refine ⟨?_, ?_, ?_, ?_, h5⟩ <;> omega
theorem kindB_op {x : EntryD} (h : kindB x = true) (hk : x.1 = 1) : fmE x.2.2.2.2.2.1.1 x.2.2.2.2.2.1.2.1 x.2.2.2.2.2.1.2.2.1 x.2.2.2.2.2.1.2.2.2.1.length x.2.2.2.2.2.1.2.2.2.2.length = 0 := by
  unfold kindB at h
  rw [if_pos hk, Bool.and_eq_true] at h
  simpa using h.1
theorem kindB_conf {x : EntryD} (h : kindB x = true) (hk : x.1 ≠ 1) : x.1 = 2 ∧ grpOk x.2.2.2.2.2.2.1 x.2.2.2.2.2.2.2 = true := by
  unfold kindB at h
  rw [if_neg hk] at h
  split at h
  · rename_i h2
    rw [Bool.and_eq_true] at h
    exact ⟨h2, h.1⟩
  · cases h
set_option maxHeartbeats 800000 in
theorem rput7_any (A : Option Addr) (m c : Nat) (L : List UInt8) (v : Nat) (k : Nat) (w : World) (hm : L.length = m) (hm8 : m ≤ 549755813888) (hr : Rd w A (bys L)) (hv : v < 9223372036854775808) (hk : 1 ≤ k ∧ k ≤ 8) (hf : v < 256 ^ k) :
    Calls Tryz.prog 67 #[.slice A m c, .int .i64 (v : Int), .int .i64 (k : Int)] w fun e w' => ∃ u, e = .returned u ∧ w'.ownsRow w.heap.size 5 1 u (m + k) (bys (L ++ leB k v)) ∧ Below w.heap.size w w' := by
  have hp := rput_any A m c L v (k : Int) w hm hm8 hr (by omega)
  have hfit : fitsE v (k : Int) = 0 := by unfold fitsE; rw [if_pos (by omega), if_pos (by simpa using hf)]
  rw [show putB L v (k : Int) = L ++ leB k v from by unfold putB; rw [if_pos hfit]; simp, List.length_append, leB_length, hm, hfit] at hp
  have HP := hide hp
  have h0 : IntKind.u64.wrap (v : Int) = (v : Int) % 18446744073709551616 := by unfold IntKind.wrap; simp [IntKind.signed, IntKind.bits]
  have hwr : IntKind.u64.wrap (v : Int) = (v : Int) := by rw [h0]; omega
  clear h0 hp hfit hm hf
  go_enter Tryz.func67, Tryz.ntmps67
  go_wp2_with fail
  go_fit HP.out
  rintro e w1 ⟨u, rfl, ho, hb⟩
  go_wp2
  go_ret
  exact ⟨_, rfl, ho, hb⟩
theorem encL_le {k : Nat} {p n : Int} {ds os : List UInt8} (h : fmE k p n ds.length os.length = 0) : (encL k p n ds os).length ≤ 1000000 := by
  unfold encL
  have hp : fmP k p n ds.length os.length := by
    unfold fmE at h
    split at h
    · assumption
    · cases h
  rw [if_pos hp]
  obtain ⟨⟨_, _, h1, h2⟩, _⟩ := hp
  unfold encB textB
  simp only [List.length_append, leB_length, List.length_cons, List.length_nil]
  omega

set_option maxHeartbeats 3200000 in
theorem rgroup7_any (A : Option Addr) (m c : Nat) (L : List UInt8) (e : Int) (B : Option Addr) (n d : Nat) (ms : List Int) (w : World) (hL : L.length = m) (hm8 : m ≤ 1099511627) (hr : Rd w A (bys L)) (hn : ms.length = n) (hnd : n ≤ d) (hrB : Rd w B (ints ms)) (hok : grpOk e ms = true) :
    Calls Tryz.prog 68 #[.slice A m c, grp e B n d] w fun x w' => ∃ v, x = .returned v ∧ w'.ownsRow w.heap.size 5 1 v (m + (grpB e ms).length) (bys (L ++ grpB e ms)) ∧ Below w.heap.size w w' := by
  obtain ⟨he0, he1, h9, hm⟩ := grpOk_bd hok
  obtain ⟨E, rfl⟩ := Int.eq_ofNat_of_zero_le he0
  obtain ⟨w0, hw0⟩ : ∃ x, w.alloc (.cells #[.int .i64 (E : Int), .slice B n d] 28) = x := ⟨_, rfl⟩
  have hZ : Blk w0 w.heap.size [.int .i64 (E : Int), .slice B n d] 28 := by rw [← hw0]; exact Blk.new w _ _
  have hb0 : Below w.heap.size w w0 := by rw [← hw0]; exact (Below.refl _ _).alloc (Nat.le_refl _) _
  have s0 := hb0.size
  obtain ⟨N8, hN8⟩ : ∃ l : List Nat, ms.map Int.toNat = l := ⟨_, rfl⟩
  have hms : ms = N8.map fun x : Nat => (x : Int) := by
    rw [← hN8, List.map_map]
    exact (List.map_id' ms).symm.trans (List.map_congr_left fun x hx => by have := hm x hx; show x = ((x.toNat : Nat) : Int); omega)
  have hN8l : N8.length = n := by rw [← hN8, List.length_map]; exact hn
  have hN8v : ∀ v ∈ N8, v < 64 := fun v hv => by
    rw [← hN8] at hv
    obtain ⟨x, hx, rfl⟩ := List.mem_map.1 hv
    have := hm x hx; omega
  have hn9 : n ≤ 9 := by omega
  have HS := hide (show ∀ X, Below w0.heap.size w0 X → (X.cell? ⟨w.heap.size, 0, none⟩ = some (.int .i64 (E : Int)) ∧ X.cell? ⟨w.heap.size, 1, none⟩ = some (.slice B n d)) from fun X hX => ⟨(hZ.below hX).cell (j := 0) rfl, (hZ.below hX).cell (j := 1) rfl⟩)
  have HP1 := hide (fun X (hX : Below w.heap.size w X) => rput7_any A m c L E 8 X hL (by omega) (hr.below hX) (by omega) (by omega) (by omega))
  have HP2 := hide (fun X A9 c9 (h : Rd X A9 (bys (L ++ leB 8 E))) => rput7_any A9 (m + 8) c9 (L ++ leB 8 E) n 1 X (by rw [List.length_append, leB_length, hL]) (by omega) h (by omega) (by omega) (by omega))
  obtain ⟨L2, hL2⟩ : ∃ y, L ++ leB 8 E ++ leB 1 n = y := ⟨_, rfl⟩
  rw [hL2] at HP2
  have hL2l : L2.length = m + 9 := by rw [← hL2, List.length_append, List.length_append, leB_length, leB_length, hL]
  have HRES := hide (show ∀ k, k = n → L2 ++ flatB 1 (N8.take k) = L ++ grpB (E : Int) ms ∧ m + 9 + k = m + (grpB (E : Int) ms).length from fun k hk => by
    subst hk
    refine ⟨?_, by rw [grpB_len, hn]; omega⟩
    rw [List.take_of_length_le (by omega), ← hL2]
    unfold grpB
    rw [hn, hN8]
    simp only [List.append_assoc]
    congr 1
    have e1 : flatB 8 [(E : Int).toNat] = leB 8 E := by simp [flatB]
    have e2 : leB 1 k = [UInt8.ofNat k] := by simp [leB, Nat.mod_eq_of_lt (show k < 256 by omega)]
    rw [e1, e2])
  have HP3 := hide (fun W A9 c9 (k v : Nat) (hk : k ≤ 9) (hv : v < 64) (K : List UInt8) (hK : K.length = m + 9 + k) (h : Rd W A9 (bys K)) => rput7_any A9 (m + 9 + k) c9 K v 1 W hK (by omega) h (by omega) (by omega) (by omega))
  have HN := hide (show ∀ k, k < n → ∃ v, N8[k]? = some v ∧ v < 64 ∧ ms[k]? = some (v : Int) from fun k hk => ⟨N8[k], List.getElem?_eq_getElem (by omega), hN8v _ (List.getElem_mem _), by rw [hms, List.getElem?_map, List.getElem?_eq_getElem (by omega)]; rfl⟩)
  have HB := hide (fun W (hW : Below w.heap.size w W) => hrB.below hW)
  have HZ := hide hZ
  have Hw0 := hide hw0
  have Hms := hide hms
  clear hw0 hZ hms hN8 hN8l hN8v hm hr hrB hL hn hL2 h9 hok
  go_enter Tryz.func68, Tryz.ntmps68
  go_wp2_with fail
  rw [Hw0.out]
  refine wp_region_held_drew (S := fun Z => Z.cell? ⟨w.heap.size, 0, none⟩ = some (.int .i64 (E : Int)) ∧ Z.cell? ⟨w.heap.size, 1, none⟩ = some (.slice B n d)) (by kernel_rfl) (HS.out w0.drew (Below.refl _ _).drew) (fun hS0 => ?_)
  refine wpAnyH_take (fuel := 8) (i := 0) (v := .slice A m c) rfl (by kernel_rfl) (by kernel_rfl) (by kernel_rfl) (fun _ _ _ h => h) (Or.inl ⟨by rfl, fun Z hZ => ?_⟩) hS0 ?_
  · obtain ⟨z1, z2⟩ := hZ
    go_simp
  refine wpAnyH_take (fuel := 7) (i := 1) (v := .pointer (some ⟨w.heap.size, 0, none⟩)) rfl (by kernel_rfl) (by kernel_rfl) (by kernel_rfl) (fun _ _ _ h => h) (Or.inl ⟨by rfl, fun Z hZ => ?_⟩) hS0 ?_
  · obtain ⟨z1, z2⟩ := hZ
    go_simp
  refine wpAnyH_take (fuel := 6) (i := 2) (v := .int .i64 (E : Int)) rfl (by kernel_rfl) (by kernel_rfl) (by kernel_rfl) (fun _ _ _ h => h) (Or.inl ⟨by rfl, fun Z hZ => ?_⟩) hS0 ?_
  · obtain ⟨z1, z2⟩ := hZ
    go_simp
  refine wpAnyH_take (fuel := 5) (i := 4) (v := .pointer (some ⟨w.heap.size, 1, none⟩)) rfl (by kernel_rfl) (by kernel_rfl) (by kernel_rfl) (fun _ _ _ h => h) (Or.inl ⟨by rfl, fun Z hZ => ?_⟩) hS0 ?_
  · obtain ⟨z1, z2⟩ := hZ
    go_simp
  refine wpAnyH_take (fuel := 4) (i := 5) (v := .slice B n d) rfl (by kernel_rfl) (by kernel_rfl) (by kernel_rfl) (fun _ _ _ h => h) (Or.inl ⟨by rfl, fun Z hZ => ?_⟩) hS0 ?_
  · obtain ⟨z1, z2⟩ := hZ
    go_simp
  refine wpAnyH_take (fuel := 3) (i := 6) (v := .int .i64 (n : Int)) rfl (by kernel_rfl) (by kernel_rfl) (by kernel_rfl) (fun _ _ _ h => h) (Or.inl ⟨by rfl, fun Z hZ => ?_⟩) hS0 ?_
  · obtain ⟨z1, z2⟩ := hZ
    go_simp
  obtain ⟨X0, hX0⟩ : ∃ y, w0.drew = y := ⟨_, rfl⟩
  have hB0 : Below w0.heap.size w0 X0 := by rw [← hX0]; exact (Below.refl _ _).drew
  rw [hX0] at hS0
  have hw0' := hB0.size
  have HX0 := hide hX0
  rw [hX0]
  clear hX0
  refine all_one (fuel := 2) (i := 3) (by kernel_rfl) rfl rfl (fun Kk hK => ?_)
  go_simp
  refine (HP1.out X0 (hb0.trans (hB0.mono s0))).mono ?_
  rintro e' X1 ⟨v9, rfl, ho9, hst⟩
  obtain ⟨A9, c9, rfl, _, hc9, hm9, hr9, _⟩ := own_out ho9
  have hB1 := hB0.trans (hst.mono hB0.size)
  have hz1 := hst.size
  have hw1 := hB1.size
  have hS1 := HS.out X1 hB1
  clear hst
  refine hK _ _ ⟨hS1, ?_⟩
  clear hK Kk
  refine all_one (fuel := 1) (i := 7) (by kernel_rfl) rfl rfl (fun Kk hK => ?_)
  go_simp
  refine (HP2.out X1 A9 c9 hr9).mono ?_
  rintro e' X2 ⟨v13, rfl, ho13, hst⟩
  obtain ⟨A13, c13, rfl, _, hc13, hm13, hr13, _⟩ := own_out ho13
  have ho13 := own_weak ho13 (show w.heap.size ≤ _ by omega)
  have hB2 := hB1.trans (hst.mono hB1.size)
  have hz2 := hst.size
  have hw2 := hB2.size
  have hS2 := HS.out X2 hB2
  replace hr9 := hr9.below hst
  clear hst
  refine hK _ _ ⟨hS2, ?_⟩
  clear hK Kk
  refine wpAnyH_take (fuel := 0) (i := 8) (v := .slice A13 (m + 8 + 1) c13) rfl (by kernel_rfl) (by kernel_rfl) (by kernel_rfl) (fun _ _ _ h => h) (Or.inl ⟨by rfl, fun Z hZ => ?_⟩) hS2 ?_
  · obtain ⟨z1, z2⟩ := hZ
    go_simp
  refine wpAnyH_done (by kernel_rfl) ?_ _
  try simp only [Act.put, List.setIfInBounds_toArray, List.set_cons_zero, List.set_cons_succ, List.getElem_toArray, List.getElem_cons_zero, List.getElem_cons_succ]
  have hbw := hb0.trans (hB2.mono s0)
  have hZ2 := HZ.out.below hB2
  have HZ2 := hide (And.intro hZ2 hbw)
  clear hS0 hS2 HP1 HP2 hbw hZ2 hr9 hB0 hB2 HX0
  go_wp2_with fail
  go_loopw [0, 5] (fun v z W => ∃ (k : Nat) (A' : Option Addr) (c' : Nat), z = .int .i64 (k : Int) ∧ k ≤ n ∧ v = .slice A' (m + 9 + k) c' ∧ W.ownsRow w.heap.size 5 1 (.slice A' (m + 9 + k) c') (m + 9 + k) (bys (L2 ++ flatB 1 (N8.take k))) ∧ Blk W w.heap.size [.int .i64 (E : Int), .slice B n d] 28 ∧ Below w.heap.size w W) (fun _ z _ => n - (intOf z).toNat)
  case atStart => exact ⟨0, A13, c13, rfl, by omega, rfl, by simpa [flatB] using ho13, HZ2.out.1, HZ2.out.2⟩
  case round =>
    clear HZ2 ho13 hr13
    obtain ⟨k, A', c', rfl, hkn, rfl, hO, hG, hbW⟩ := hrel
    by_cases hlt : k < n
    · obtain ⟨v, hNk, hv, hmk⟩ := HN.out k hlt
      obtain ⟨b, rfl, hcell⟩ := HB.out wr hbW k (.int .i64 (v : Int)) (by simp [ints, hmk])
      obtain ⟨_, _, hvv, hlO, hcO, hmO, hrO, _⟩ := own_out hO
      injection hvv with e1 e2 e3
      subst e1 e3
      have hP := HP3.out wr A' c' k v (by omega) hv (L2 ++ flatB 1 (N8.take k)) (by rw [List.length_append, hL2l, flatB_len, List.length_take]; have := (List.getElem?_eq_some_iff.1 hNk).1; omega) hrO
      have hnx : L2 ++ flatB 1 (N8.take k) ++ leB 1 v = L2 ++ flatB 1 (N8.take (k + 1)) := by
        rw [List.take_add_one, hNk, List.append_assoc]
        congr 1
        simp [flatB]
      rw [hnx] at hP
      have HP := hide hP
      have x1 := hG.cell (j := 1) rfl
      have HG := hide (And.intro hG hbW)
      have hzW := hbW.size
      clear hP hnx hO hrO hmk hNk hG hbW hlO
      go_wp2_with fail
      go_fit HP.out
      rintro e' W2 ⟨u, rfl, ho2, hst⟩
      obtain ⟨A2, c2, rfl, _⟩ := own_out ho2
      have hG2 := hide (And.intro (HG.out.1.below hst) (And.intro (HG.out.2.trans (hst.mono hzW)) (own_weak ho2 hzW)))
      clear ho2 hst HP HG x1 hcell
      go_wp2
      go_roundw
      case rel => exact ⟨k + 1, A2, c2, by go_num, by omega, rfl, hG2.out.2.2, hG2.out.1, hG2.out.2.1⟩
      case measure => simp [intOf]; omega
    · obtain rfl : k = n := by omega
      have x1 := hG.cell (j := 1) rfl
      have hR := HRES.out k rfl
      rw [hR.1] at hO
      have hO' := hide (show wr.ownsRow w.heap.size 5 1 (.slice A' (m + 9 + k) c') (m + (grpB (E : Int) ms).length) (bys (L ++ grpB (E : Int) ms)) from hR.2 ▸ hO)
      clear hO hR
      go_wp2
      go_ret
      exact ⟨_, rfl, hO'.out, hbW⟩
end Go.Proofs.YtkknkdjdneldlaaGreat
