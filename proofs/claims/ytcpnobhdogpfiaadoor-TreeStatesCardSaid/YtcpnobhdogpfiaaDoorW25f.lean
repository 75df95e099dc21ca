/- The law TreeStates walked. -/
import Derived.Test.YtcpnobhdogpfiaaDoorG25l
import Derived.Test.YtcpnobhdogpfiaaDoorF25m
import Derived.Test.YtcpnobhdogpfiaaDoorF25j
import Derived.Deep.DeepFit
namespace Go.Proofs.YtcpnobhdogpfiaaDoor
set_option maxRecDepth 20000
open Go.RowKit Go.Px
set_option linter.unusedVariables false
set_option maxHeartbeats 3200000 in
theorem small_any {w : World} {Q : Nat → Prop} {x : StateD} {cs : List Value} (h : tyState.Is w Q x cs) :
    Calls Tryd.prog 21 #[.agg cs.toArray] w fun e w' => ∃ r : Bool, e = .returned (.bool r) ∧ Below w.heap.size w w' := by
  obtain ⟨sNum, sShapeBlocks, sShapeSize, sPages, sPagesA, sPagesn, sPagesc, sPagesv, sRows, sRowsA, sRowsn, sRowsc, sRowsv, sGroupEpoch, sGroupMembers, sGroupMembersA, sGroupMembersn, sGroupMembersc, sGroupMembersv, rfl, rfl, h1_sNum, h2_sNum, h1_sShapeBlocks, h2_sShapeBlocks, h1_sShapeSize, h2_sShapeSize, hl_sPages, hc_sPages, hm_sPages, hr_sPages, hq_sPages, he_sPages, hl_sRows, hc_sRows, hm_sRows, hr_sRows, hq_sRows, he_sRows, h1_sGroupEpoch, h2_sGroupEpoch, hl_sGroupMembers, hc_sGroupMembers, hm_sGroupMembers, hr_sGroupMembers, hq_sGroupMembers, he_sGroupMembers⟩ := State_out h
  obtain ⟨w0, hw0⟩ : ∃ x, w.alloc (.cells #[.int .i64 sNum, .int .i64 sShapeBlocks, .int .i64 sShapeSize, .slice sPagesA sPagesn sPagesc, .slice sRowsA sRowsn sRowsc, .int .i64 sGroupEpoch, .slice sGroupMembersA sGroupMembersn sGroupMembersc] 48) = x := ⟨_, rfl⟩; have hBw0 : Blk w0 w.heap.size [.int .i64 sNum, .int .i64 sShapeBlocks, .int .i64 sShapeSize, .slice sPagesA sPagesn sPagesc, .slice sRowsA sRowsn sRowsc, .int .i64 sGroupEpoch, .slice sGroupMembersA sGroupMembersn sGroupMembersc] 48 := (by rw [← hw0]; exact Blk.new w [.int .i64 sNum, .int .i64 sShapeBlocks, .int .i64 sShapeSize, .slice sPagesA sPagesn sPagesc, .slice sRowsA sRowsn sRowsc, .int .i64 sGroupEpoch, .slice sGroupMembersA sGroupMembersn sGroupMembersc] _); have hbw0 : Below w.heap.size w w0 := (by rw [← hw0]; exact (Below.refl _ _).alloc (Nat.le_refl _) _); have Hw0 := hide hw0; clear hw0
  have y0 := Blk.cell hBw0 (j := 0) rfl; have y1 := Blk.cell hBw0 (j := 1) rfl; have y2 := Blk.cell hBw0 (j := 2) rfl; have y3 := Blk.cell hBw0 (j := 3) rfl; have y4 := Blk.cell hBw0 (j := 4) rfl; have y5 := Blk.cell hBw0 (j := 5) rfl; have y6 := Blk.cell hBw0 (j := 6) rfl
  clear h hq_sPages hq_sRows hq_sGroupMembers he_sPages he_sRows he_sGroupMembers hr_sPages hr_sRows hr_sGroupMembers hl_sPages hl_sRows hl_sGroupMembers hBw0
  by_cases q1 : sShapeBlocks ≤ 64
  · by_cases q2 : sShapeSize ≤ 64
    · by_cases q3 : sPagesn ≤ 70
      · by_cases q4 : sRowsn ≤ 70
        all_goals
          have r1 : decide (sShapeBlocks ≤ 64) = true := decide_eq_true q1
          have r2 : decide (sShapeSize ≤ 64) = true := decide_eq_true q2
          have r3 : decide ((sPagesn : Int) ≤ 70) = true := decide_eq_true (by omega)
          go_enter Tryd.func21, Tryd.ntmps21
          go_wp2_with fail
          rw [Hw0.out]
          go_ret
          first
          | exact ⟨.inl rfl, hbw0⟩
          | exact ⟨.inr rfl, hbw0⟩
          | exact ⟨⟨_, rfl⟩, hbw0⟩
          | exact ⟨_, rfl, hbw0⟩
      · have r1 : decide (sShapeBlocks ≤ 64) = true := decide_eq_true q1
        have r2 : decide (sShapeSize ≤ 64) = true := decide_eq_true q2
        have r3 : decide ((sPagesn : Int) ≤ 70) = false := decide_eq_false (by omega)
        go_enter Tryd.func21, Tryd.ntmps21
        go_wp2_with fail
        rw [Hw0.out]
        go_ret
        first
          | exact ⟨.inl rfl, hbw0⟩
          | exact ⟨.inr rfl, hbw0⟩
          | exact ⟨⟨_, rfl⟩, hbw0⟩
          | exact ⟨_, rfl, hbw0⟩
    · have r1 : decide (sShapeBlocks ≤ 64) = true := decide_eq_true q1
      have r2 : decide (sShapeSize ≤ 64) = false := decide_eq_false q2
      go_enter Tryd.func21, Tryd.ntmps21
      go_wp2_with fail
      rw [Hw0.out]
      go_ret
      first
          | exact ⟨.inl rfl, hbw0⟩
          | exact ⟨.inr rfl, hbw0⟩
          | exact ⟨⟨_, rfl⟩, hbw0⟩
          | exact ⟨_, rfl, hbw0⟩
  · have r1 : decide (sShapeBlocks ≤ 64) = false := decide_eq_false q1
    go_enter Tryd.func21, Tryd.ntmps21
    go_wp2_with fail
    rw [Hw0.out]
    go_ret
    first
          | exact ⟨.inl rfl, hbw0⟩
          | exact ⟨.inr rfl, hbw0⟩
          | exact ⟨⟨_, rfl⟩, hbw0⟩
          | exact ⟨_, rfl, hbw0⟩
set_option maxRecDepth 100000 in
set_option maxHeartbeats 6400000 in
theorem treeStates_walk {w : World} {Q : Nat → Prop} {x : StateD} {cs : List Value} (h : tyState.Is w Q x cs) (ht : Tab w) :
    Calls Tryd.prog 4 #[.agg cs.toArray] w fun e w' => e = .returned (.bool true) ∧ Below w.heap.size w w' := by
  have hI := h
  obtain ⟨sNum, sShapeBlocks, sShapeSize, sPages, sPagesA, sPagesn, sPagesc, sPagesv, sRows, sRowsA, sRowsn, sRowsc, sRowsv, sGroupEpoch, sGroupMembers, sGroupMembersA, sGroupMembersn, sGroupMembersc, sGroupMembersv, rfl, rfl, h1_sNum, h2_sNum, h1_sShapeBlocks, h2_sShapeBlocks, h1_sShapeSize, h2_sShapeSize, hl_sPages, hc_sPages, hm_sPages, hr_sPages, hq_sPages, he_sPages, hl_sRows, hc_sRows, hm_sRows, hr_sRows, hq_sRows, he_sRows, h1_sGroupEpoch, h2_sGroupEpoch, hl_sGroupMembers, hc_sGroupMembers, hm_sGroupMembers, hr_sGroupMembers, hq_sGroupMembers, he_sGroupMembers⟩ := State_out h
  obtain ⟨w0, hw0⟩ : ∃ x, w.alloc (.cells #[.int .i64 sNum, .int .i64 sShapeBlocks, .int .i64 sShapeSize, .slice sPagesA sPagesn sPagesc, .slice sRowsA sRowsn sRowsc, .int .i64 sGroupEpoch, .slice sGroupMembersA sGroupMembersn sGroupMembersc] 48) = x := ⟨_, rfl⟩; have hBw0 : Blk w0 w.heap.size [.int .i64 sNum, .int .i64 sShapeBlocks, .int .i64 sShapeSize, .slice sPagesA sPagesn sPagesc, .slice sRowsA sRowsn sRowsc, .int .i64 sGroupEpoch, .slice sGroupMembersA sGroupMembersn sGroupMembersc] 48 := (by rw [← hw0]; exact Blk.new w [.int .i64 sNum, .int .i64 sShapeBlocks, .int .i64 sShapeSize, .slice sPagesA sPagesn sPagesc, .slice sRowsA sRowsn sRowsc, .int .i64 sGroupEpoch, .slice sGroupMembersA sGroupMembersn sGroupMembersc] _); have hbw0 : Below w.heap.size w w0 := (by rw [← hw0]; exact (Below.refl _ _).alloc (Nat.le_refl _) _); have Hw0 := hide hw0; clear hw0
  have hI0 := hI.below hbw0
  have ht0 : Tab w0 := Rd.below ht hbw0
  have SM := hide (small_any hI0)
  have T1 := hide (fun (X : World) (hX : Below w0.heap.size w0 X) => tof_any (hI0.below hX) (Rd.below ht0 hX))
  have T2 := hide (fun (X : World) (hX : Below w0.heap.size w0 X) => rofS_any (hI0.below hX))
  have AW := hide (fun (X : World) (hX : Below w0.heap.size w0 X) => awake_any X (Rd.below ht0 hX))
  obtain ⟨E, hE⟩ : ∃ y, ofE (sNum, (sShapeBlocks, sShapeSize), sPages, sRows, (sGroupEpoch, sGroupMembers)) = y := ⟨_, rfl⟩
  obtain ⟨V, hV⟩ : ∃ y, ofT (sNum, (sShapeBlocks, sShapeSize), sPages, sRows, (sGroupEpoch, sGroupMembers)) = y := ⟨_, rfl⟩
  rw [hE, hV] at T1 T2
  have HB := hide hBw0
  have y0 := Blk.cell hBw0 (j := 0) rfl; have y1 := Blk.cell hBw0 (j := 1) rfl; have y2 := Blk.cell hBw0 (j := 2) rfl; have y3 := Blk.cell hBw0 (j := 3) rfl; have y4 := Blk.cell hBw0 (j := 4) rfl; have y5 := Blk.cell hBw0 (j := 5) rfl; have y6 := Blk.cell hBw0 (j := 6) rfl
  clear h hI hI0 ht ht0 hE hV hq_sPages hq_sRows hq_sGroupMembers he_sPages he_sRows he_sGroupMembers hr_sPages hr_sRows hr_sGroupMembers hl_sPages hl_sRows hl_sGroupMembers hBw0
  go_enter Tryd.func4, Tryd.ntmps4
  go_wp2_with fail
  rw [Hw0.out]
  go_fit SM.out
  rintro e w1 ⟨r, rfl, hb1⟩
  clear y0 y1 y2 y3 y4 y5 y6 SM
  cases r with
  | false =>
    go_wp2_with fail
    go_fit (AW.out w1 hb1)
    rintro e w2 ⟨rfl, hb2⟩
    go_wp2
    go_ret
    exact ⟨rfl, hbw0.trans ((hb1.trans (hb2.mono hb1.size)).mono hbw0.size)⟩
  | true =>
    have hB1 := HB.out.below hb1
    have y0 := Blk.cell hB1 (j := 0) rfl; have y1 := Blk.cell hB1 (j := 1) rfl; have y2 := Blk.cell hB1 (j := 2) rfl; have y3 := Blk.cell hB1 (j := 3) rfl; have y4 := Blk.cell hB1 (j := 4) rfl; have y5 := Blk.cell hB1 (j := 5) rfl; have y6 := Blk.cell hB1 (j := 6) rfl
    clear hB1
    go_wp2_with fail
    go_fit (T1.out w1 hb1)
    rintro e w2 ⟨P, p, pc, rfl, hP, hb2'⟩
    have hb2 := hb1.trans (hb2'.mono hb1.size)
    obtain ⟨w3, hw3⟩ : ∃ y, w2.alloc (.cells #[.slice P p pc] 29) = y := ⟨_, rfl⟩
    have hb23 : Below w2.heap.size w2 w3 := by rw [← hw3]; exact (Below.refl _ _).alloc (Nat.le_refl _) _
    have hb3 := hb2.trans (hb23.mono hb2.size)
    have B3 : Blk w3 w2.heap.size [.slice P p pc] 29 := by rw [← hw3]; exact Blk.new w2 [.slice P p pc] _
    have hB3 := HB.out.below hb3
    rw [← hw3] at hB3
    have Hw3 := hide hw3
    have HP := hide (hP.below hb23)
    clear hw3 hP y0 y1 y2 y3 y4 y5 y6
    have y0 := Blk.cell hB3 (j := 0) rfl; have y1 := Blk.cell hB3 (j := 1) rfl; have y2 := Blk.cell hB3 (j := 2) rfl; have y3 := Blk.cell hB3 (j := 3) rfl; have y4 := Blk.cell hB3 (j := 4) rfl; have y5 := Blk.cell hB3 (j := 5) rfl; have y6 := Blk.cell hB3 (j := 6) rfl
    clear hB3
    go_wp2_with fail
    rw [Hw3.out]
    go_fit (T2.out w3 hb3)
    rintro e w4 ⟨R, rn, rc, rfl, hR, hb4'⟩
    have hb4 := hb3.trans (hb4'.mono hb3.size)
    obtain ⟨w5, hw5⟩ : ∃ y, w4.alloc (.cells #[.slice R rn rc] 29) = y := ⟨_, rfl⟩
    have hb45 : Below w4.heap.size w4 w5 := by rw [← hw5]; exact (Below.refl _ _).alloc (Nat.le_refl _) _
    have hb5 := hb4.trans (hb45.mono hb4.size)
    have hb35 := hb4'.trans (hb45.mono hb4'.size)
    have B5 : Blk w5 w4.heap.size [.slice R rn rc] 29 := by rw [← hw5]; exact Blk.new w4 [.slice R rn rc] _
    have c3 := (B3.below hb35).cell (j := 0) rfl
    have c5 := B5.cell (j := 0) rfl
    rw [← hw5] at c3 c5
    have HS := rsame_any P p pc V R rn rc V w5 (HP.out.below hb35) (hR.below hb45)
    rw [eqL_self] at HS
    have HS' := hide HS
    have Hw5 := hide hw5
    clear hw5 hR HS y0 y1 y2 y3 y4 y5 y6
    go_wp2_with fail
    rw [Hw5.out]
    go_fit HS'.out
    rintro e w6 ⟨rfl, hb6'⟩
    have hb6 := hb5.trans (hb6'.mono hb5.size)
    have HA := hide (AW.out w6 hb6)
    clear c3 c5
    go_wp2_with fail
    go_fit HA.out
    rintro e w7 ⟨rfl, hb7⟩
    go_wp2
    go_ret
    exact ⟨by simp, hbw0.trans ((hb6.trans (hb7.mono hb6.size)).mono hbw0.size)⟩
end Go.Proofs.YtcpnobhdogpfiaaDoor
