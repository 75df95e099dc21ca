/- The document's Of, of any state. -/
import Derived.Test.YtcpnobhdogpfiaaDoorG25k
import Derived.Test.YtcpnobhdogpfiaaDoorF25o
import Derived.Deep.DeepFit
namespace Go.Proofs.YtcpnobhdogpfiaaDoor
set_option maxRecDepth 20000
open Go.RowKit Go.Px
set_option linter.unusedVariables false
/-- The page at hand, in the block g. -/
def PgBox (g : Nat) (L : Nat) (W : World) : Prop :=
  ∃ (p v : Int) (A : Option Addr) (n c : Nat) (bs : List UInt8), Blk W g [.int .i64 p, .int .i64 v, .slice A n c] 24 ∧ bs.length = n ∧ n ≤ c ∧ n ≤ 4096 ∧ c ≤ 9223372036854775807 ∧ Rd W A (bys bs) ∧ leafN p v bs = L ∧ ∀ ad, A = some ad → ad.block ≠ g
set_option maxRecDepth 100000 in
set_option maxHeartbeats 6400000 in
theorem rofS_yes {w : World} {Q : Nat → Prop} {x : StateD} {cs : List Value} (h : tyState.Is w Q x cs) (hs : stateB x = true) :
    Calls Tryd.prog 23 #[.agg cs.toArray] w fun e w' => ∃ B K C, e = .returned (.tuple #[.agg #[.slice B K C], .int .i64 0]) ∧ tyTree.Is w' (fun b => w.heap.size ≤ b) (treeD (ofL x)) [.slice B K C] ∧ Below w.heap.size w w' := by
  obtain ⟨⟨hb1, hb2⟩, ⟨hz1, hz2⟩, hpg, hasc⟩ := state_facts hs
  have hI := h
  obtain ⟨sNum, sShapeBlocks, sShapeSize, sPages, sPagesA, sPagesn, sPagesc, sPagesv, sRows, sRowsA, sRowsn, sRowsc, sRowsv, sGroupEpoch, sGroupMembers, sGroupMembersA, sGroupMembersn, sGroupMembersc, sGroupMembersv, rfl, rfl, h1_sNum, h2_sNum, h1_sShapeBlocks, h2_sShapeBlocks, h1_sShapeSize, h2_sShapeSize, hl_sPages, hc_sPages, hm_sPages, hr_sPages, hq_sPages, he_sPages, hl_sRows, hc_sRows, hm_sRows, hr_sRows, hq_sRows, he_sRows, h1_sGroupEpoch, h2_sGroupEpoch, hl_sGroupMembers, hc_sGroupMembers, hm_sGroupMembers, hr_sGroupMembers, hq_sGroupMembers, he_sGroupMembers⟩ := State_out h
  have hP := pg_of he_sPages
  obtain ⟨w0, hw0⟩ : ∃ y, (w.alloc (.cells #[.int .i64 sNum, .int .i64 sShapeBlocks, .int .i64 sShapeSize, .slice sPagesA sPagesn sPagesc, .slice sRowsA sRowsn sRowsc, .int .i64 sGroupEpoch, .slice sGroupMembersA sGroupMembersn sGroupMembersc] 48)).alloc (.cells #[.slice none 0 0] 29) = y := ⟨_, rfl⟩
  have hbw0 : Below w.heap.size w w0 := by rw [← hw0]; exact ((Below.refl _ _).alloc (Nat.le_refl _) _).alloc (by simp) _
  have hBw0 : Blk w0 w.heap.size [.int .i64 sNum, .int .i64 sShapeBlocks, .int .i64 sShapeSize, .slice sPagesA sPagesn sPagesc, .slice sRowsA sRowsn sRowsc, .int .i64 sGroupEpoch, .slice sGroupMembersA sGroupMembersn sGroupMembersc] 48 := by rw [← hw0]; exact (Blk.new w [.int .i64 sNum, .int .i64 sShapeBlocks, .int .i64 sShapeSize, .slice sPagesA sPagesn sPagesc, .slice sRowsA sRowsn sRowsc, .int .i64 sGroupEpoch, .slice sGroupMembersA sGroupMembersn sGroupMembersc] 48).alloc _
  have hB2 : Blk w0 (w.heap.size + 1) [.slice none 0 0] 29 := by
    rw [← hw0]
    have := Blk.new (w.alloc (.cells #[.int .i64 sNum, .int .i64 sShapeBlocks, .int .i64 sShapeSize, .slice sPagesA sPagesn sPagesc, .slice sRowsA sRowsn sRowsc, .int .i64 sGroupEpoch, .slice sGroupMembersA sGroupMembersn sGroupMembersc] 48)) [.slice none 0 0] 29
    rwa [World.size_alloc] at this
  have HM := hide (rstate_any (hI.below hbw0))
  rw [stE_ok hs] at HM
  have hP0 := hP.below hbw0
  have hrP := hr_sPages.below hbw0
  have Hw0 := hide hw0
  have HlP := hide hl_sPages
  dsimp only at hb1 hb2 hz1 hz2 hpg hasc
  have HOL := fun (i : Nat) (hi : i < sShapeBlocks.toNat) => ofL_snoc (x := (sNum, (sShapeBlocks, sShapeSize), sPages, sRows, (sGroupEpoch, sGroupMembers))) (i := i) hi
  have hOlen := ofL_length (sNum, (sShapeBlocks, sShapeSize), sPages, sRows, (sGroupEpoch, sGroupMembers))
  have hOlt := ofL_lt (sNum, (sShapeBlocks, sShapeSize), sPages, sRows, (sGroupEpoch, sGroupMembers))
  obtain ⟨OL, hOL⟩ : ∃ y, ofL (sNum, (sShapeBlocks, sShapeSize), sPages, sRows, (sGroupEpoch, sGroupMembers)) = y := ⟨_, rfl⟩
  rw [hOL] at HOL hOlen hOlt ⊢
  dsimp only at HOL hOlen
  clear hOL hs
  obtain ⟨N, rfl⟩ : ∃ N : Nat, sShapeBlocks = (N : Int) := ⟨sShapeBlocks.toNat, by omega⟩
  obtain ⟨Z, rfl⟩ : ∃ Z : Nat, sShapeSize = (Z : Int) := ⟨sShapeSize.toNat, by omega⟩
  rw [Int.toNat_natCast] at HOL hOlen
  replace HOL := hide HOL
  have HOlen := hide hOlen
  have K1 := hide (fun (X : World) (hX : Below w0.heap.size w0 X) => (hBw0.below hX).cell (j := 1) rfl)
  have K2 := hide (fun (X : World) (hX : Below w0.heap.size w0 X) => (hBw0.below hX).cell (j := 2) rfl)
  have K3 := hide (fun (X : World) (hX : Below w0.heap.size w0 X) => (hBw0.below hX).cell (j := 3) rfl)
  have HB2 := hide hB2
  have hAp := hide hasc
  have y0 := Blk.cell hBw0 (j := 0) rfl; have y1 := Blk.cell hBw0 (j := 1) rfl; have y2 := Blk.cell hBw0 (j := 2) rfl; have y3 := Blk.cell hBw0 (j := 3) rfl; have y4 := Blk.cell hBw0 (j := 4) rfl; have y5 := Blk.cell hBw0 (j := 5) rfl; have y6 := Blk.cell hBw0 (j := 6) rfl
  clear hw0 h hI hP hr_sPages hl_sPages he_sPages he_sRows hr_sRows hl_sRows he_sGroupMembers hr_sGroupMembers hl_sGroupMembers hq_sPages hq_sRows hq_sGroupMembers hOlen hasc hB2
  go_enter Tryd.func23, Tryd.ntmps23
  go_wp2_with fail
  rw [Hw0.out]
  go_fit HM.out
  rintro e w1 ⟨rfl, hb01⟩
  have hPd := hP0.below hb01
  have hrP1 := hrP.below hb01
  have hW1 := hBw0.below hb01
  have hz1w := hb01.size
  have hzw0 := hbw0.size
  clear y0 y1 y2 y3 y4 y5 y6 HM hrP hP0 K1 K2 K3 hBw0
  go_wp2_with fail
  go_loopw [4, 5] (fun sl si W => ∃ i : Nat, i ≤ N ∧ si = .int .i64 (i : Int) ∧ Grow w1 (.slice none 0 0) w1.heap.size 33 1 W sl i (u32s (OL.take i))) (fun _ si _ => N - (intOf si).toNat)
  case atStart => exact ⟨0, by omega, rfl, Grow.nil _ _ _⟩
  case round =>
    obtain ⟨i, hi, rfl, hG⟩ := hrel
    have e1 := (hW1.below hG.all).cell (j := 1) rfl
    by_cases hiN : i < N
    · have e2 := (hW1.below hG.all).cell (j := 2) rfl
      have HS := hide (HOL.out i hiN)
      have zG := hG.all.size
      obtain ⟨wR, rfl⟩ : ∃ y, y = wr := ⟨_, rfl⟩
      go_wp2_with (first | (with_reducible refine stop_append rfl ?_) | (with_reducible refine stop_copy rfl ?_) | (with_reducible refine stop_make rfl ?_))
      refine go_make rfl rfl tBytes rfl rfl (n := Z) (m := Z) rfl rfl (by omega) (by omega) (by omega) (Nat.le_refl _) ?_
      intro z w2 hz _ hw2 ho2 hg2
      obtain rfl := zero_u8 hz
      have hb2 : Below wR.heap.size wR w2 := grown_below (Below.refl _ _) hg2 (Nat.le_refl _) (fun g hg => by cases hg)
      have hr2 : Rd w2 (some ⟨wR.heap.size, 0, none⟩) (bys (List.replicate Z 0)) := by
        obtain ⟨A', c', hv, _, _, _, hr, _⟩ := own_out ho2
        injection hv with hv1 hv2 hv3
        subst hv1
        rwa [made_zeros] at hr
      have z2 : w2.heap.size = wR.heap.size + 1 := by rw [hw2]; exact World.size_alloc _ _
      obtain ⟨X, hX⟩ : ∃ y, w2.alloc (.cells #[.int .i64 (i : Int), .int .i64 0, .slice (some ⟨wR.heap.size, 0, none⟩) Z Z] 24) = y := ⟨_, rfl⟩
      have hb2X : Below w2.heap.size w2 X := by rw [← hX]; exact (Below.refl _ _).alloc (Nat.le_refl _) _
      have BX : Blk X w2.heap.size [.int .i64 (i : Int), .int .i64 0, .slice (some ⟨wR.heap.size, 0, none⟩) Z Z] 24 := by rw [← hX]; exact Blk.new w2 [.int .i64 (i : Int), .int .i64 0, .slice (some ⟨wR.heap.size, 0, none⟩) Z Z] _
      have hbX : Below wR.heap.size wR X := hb2.trans (hb2X.mono hb2.size)
      have HX := hide hX
      have hrX := hr2.below hb2X
      obtain ⟨g, hg⟩ : ∃ y, w2.heap.size = y := ⟨_, rfl⟩
      rw [hg] at BX z2
      have hgw : wR.heap.size + 1 ≤ g := by omega
      clear z2
      clear hw2 ho2 hg2 hz hX hr2 e1 e2
      go_wp2_with fail
      rw [HX.out]
      try rw [hg]
      go_loopw [7] (fun sk W => ∃ k : Nat, k ≤ sPagesn ∧ sk = .int .i64 (k : Int) ∧ PgBox g (leafS (Z : Int) (selS (i : Int) none (sPages.take k)) (i : Int)) W ∧ Fr (fun b => b = g) X W) (fun sk _ => sPagesn - (intOf sk).toNat)
      case atStart =>
        refine ⟨0, by omega, rfl, ⟨(i : Int), 0, some ⟨wR.heap.size, 0, none⟩, Z, Z, List.replicate Z 0, BX, by simp, Nat.le_refl _, by omega, by omega, hrX, rfl, fun ad ha => ?_⟩, Fr.refl _ _⟩
        injection ha with ha
        subst ha
        show wR.heap.size ≠ g
        omega
      case round =>
        obtain ⟨k, hk, rfl, hBox, hF⟩ := hrel
        have hbW : Below wR.heap.size wR wr := hF.below hbX (by have := hbX.size; omega) (fun b hb => by omega)
        have hbW1 : Below w1.heap.size w1 wr := hG.all.trans (hbW.mono hG.all.size)
        have e3 := (hW1.below hbW1).cell (j := 3) rfl
        by_cases hkn : k < sPagesn
        · have hkl : k < sPages.length := by rw [HlP.out]; exact hkn
          obtain ⟨pp, hpp⟩ : ∃ y, sPages[k] = y := ⟨_, rfl⟩
          have hpk : sPages[k]? = some pp := by rw [List.getElem?_eq_getElem hkl, hpp]
          obtain ⟨A', n', c', h1, h2, h3, h4, h5, h6, h7, _⟩ := hPd.2 k pp hpk
          have hvl : sPagesv.length = 3 * sPagesn := by rw [hPd.1, HlP.out]
          obtain ⟨a, ha, hat⟩ := (hrP1.below hbW1).some_of (xs := sPagesv) (by omega)
          subst ha
          have c0 := rd3_0 hat h1
          have c1 := rd3_S (i := 0) hat h2
          have c2 := rd3_S (i := 1) hat h3
          have hpl := (hpg pp (List.mem_of_getElem? hpk)).2.2
          rw [h4] at hpl
          have hSN := selS_snoc (i := (i : Int)) (acc := none) hpk
          by_cases hpe : pp.1 = (i : Int)
          · rw [if_pos hpe] at hSN
            obtain ⟨p0, v0, A0, n0, c0', bs0, hB0, _⟩ := hBox
            have f0 := hB0.frozen 0
            have f1 := hB0.frozen 1
            have f2 := hB0.frozen 2
            have d0 := hB0.cell (j := 0) rfl
            have d1 := hB0.cell (j := 1) rfl
            have d2 := hB0.cell (j := 2) rfl
            have hA' : ∀ ad, A' = some ad → ad.block < w1.heap.size := rd_block h7 (fun e => by
              have h0 : (bys pp.2.2).length = 0 := by rw [e]; rfl
              rw [bys_length] at h0
              omega)
            obtain ⟨p1, p2, pd⟩ := pp
            dsimp only at c0 c1 c2 hpe h4 h7 hSN
            have HN := hide (show PgBox g (leafS (Z : Int) (selS (i : Int) none (sPages.take (k + 1))) (i : Int)) (((wr.setCell ⟨g, 0, none⟩ (.int .i64 p1)).setCell ⟨g, 1, none⟩ (.int .i64 p2)).setCell ⟨g, 2, none⟩ (.slice A' n' c')) from by
              rw [hSN]
              refine ⟨p1, p2, A', n', c', pd, ((hB0.set 0 _).set 1 _).set 2 _, h4, h5, by omega, h6, ?_, rfl, fun ad ha => by have := hA' ad ha; omega⟩
              exact (((h7.below hbW1).fr (Fr.set (X := fun b => b = g) _ _ _ rfl) (fun _ ad ha hx => by have := hA' ad ha; omega)).fr (Fr.set (X := fun b => b = g) _ _ _ rfl) (fun _ ad ha hx => by have := hA' ad ha; omega)).fr (Fr.set (X := fun b => b = g) _ _ _ rfl) (fun _ ad ha hx => by have := hA' ad ha; omega))
            have HFn := hide (show Fr (fun b => b = g) X (((wr.setCell ⟨g, 0, none⟩ (.int .i64 p1)).setCell ⟨g, 1, none⟩ (.int .i64 p2)).setCell ⟨g, 2, none⟩ (.slice A' n' c')) from
              ((hF.trans (Fr.set (X := fun b => b = g) _ _ _ rfl)).trans (Fr.set (X := fun b => b = g) _ _ _ rfl)).trans (Fr.set (X := fun b => b = g) _ _ _ rfl))
            subst hpe
            clear hB0 hpp hpk h1 h2 h3 hat hSN hF h7 hvl
            go_wp2
            go_roundw
            case rel => exact ⟨k + 1, by omega, by go_num, HN.out, HFn.out⟩
            case measure => simp [intOf]; omega
          · rw [if_neg hpe] at hSN
            have q1 : (pp.1 == (i : Int)) = false := by rw [beq_eq_false_iff_ne]; exact hpe
            have HN := hide (show PgBox g (leafS (Z : Int) (selS (i : Int) none (sPages.take (k + 1))) (i : Int)) wr from by rw [hSN]; exact hBox)
            clear hBox hpp hpk h1 h2 h3 hat hSN h7 hvl
            go_wp2
            go_roundw
            case rel => exact ⟨k + 1, by omega, by go_num, HN.out, hF⟩
            case measure => simp [intOf]; omega
        · have hke : k = sPagesn := by omega
          subst hke
          rw [List.take_of_length_le (by rw [HlP.out]; exact Nat.le_refl _)] at hBox
          obtain ⟨p0, v0, A0, n0, c0, bs0, hB0, j1, j2, j3, j4, j5, j6, _⟩ := hBox
          have d0 := hB0.cell (j := 0) rfl
          have d1 := hB0.cell (j := 1) rfl
          have d2 := hB0.cell (j := 2) rfl
          have HL := hide (rleaf_any p0 v0 A0 n0 c0 bs0 wr j1 j2 (by omega) j4 j5)
          have hLt := leafN_lt p0 v0 bs0
          have hS2 := HS.out
          try dsimp only at hS2
          rw [← j6] at hS2
          have HS2 := hide hS2
          obtain ⟨LV, hLV⟩ : ∃ y, leafN p0 v0 bs0 = y := ⟨_, rfl⟩
          rw [hLV] at HL HS2 hLt
          clear hB0 j5 j6 hS2 hLV HS
          go_wp2_with fail
          go_fit HL.out
          rintro e' w3 ⟨rfl, hb3⟩
          have hG3 := hG.below (hbW.trans (hb3.mono hbW.size))
          go_wp2_with (first | (with_reducible refine stop_append rfl ?_) | (with_reducible refine stop_copy rfl ?_) | (with_reducible refine stop_make rfl ?_))
          refine hG3.push rfl rfl rfl tU32 rfl rfl rfl (by omega) (by omega) ?_
          intro u' w4 hG4 _
          go_wp2
          go_roundw
          case rel => exact ⟨i + 1, by omega, by go_num, by rw [HS2.out, u32s_append]; exact hG4⟩
          case measure => simp [intOf]; omega
    · obtain rfl : i = N := by omega
      have hb := hb01.trans (hG.all.mono hb01.size)
      rw [List.take_of_length_le (by rw [HOlen.out]; exact Nat.le_refl _)] at hG
      obtain ⟨A5, c5, rfl, _, hc5, hcm5, hr5, _⟩ := own_out hG.owns
      have HM := hide (rmakeA_any A5 i c5 OL wr HOlen.out hc5 (by unfold maxLen at hcm5; omega) hr5 hOlt)
      have hokn : okN i = true := by unfold okN; rw [decide_eq_true]; omega
      rw [show mkE i = 0 from by unfold mkE; rw [hokn]; rfl, show mkT OL = treeD OL from by unfold mkT; rw [HOlen.out, hokn]; rfl] at HM
      have hbz := hbw0.trans (hb.mono hbw0.size)
      have z0 := hb.size
      have zw := hbw0.size
      have B2' := HB2.out.below hb
      clear hG hr5
      go_wp2_with fail
      go_fit HM.out
      rintro e' w3 ⟨B, K, C, rfl, hT, hb3⟩
      have B3 := B2'.below hb3
      have b3 := B3.cell (j := 0) rfl
      have f3 := B3.frozen 0
      have hlt := HB2.out.lt
      have HT := hide (show tyTree.Is (w3.setCell ⟨w.heap.size + 1, 0, none⟩ (.slice B K C)) (fun b => w.heap.size ≤ b) (treeD OL) [.slice B K C] from
        ((hT.grown (setCell_grown _ _ _ _) (fun b hb e => by injection e with e; omega)).mono (fun b hb => by omega)))
      have HX := hide (B3.set 0 (.slice B K C))
      have Hbf := hide (show Below w.heap.size w (w3.setCell ⟨w.heap.size + 1, 0, none⟩ (.slice B K C)) from (hbz.trans (hb3.mono hbz.size)).setCell (by show w.heap.size ≤ w.heap.size + 1; omega) _)
      clear hT
      go_wp2
      refine bodyPost_ret (results_cell2 rfl rfl HX.out Tryd.underlying29 rfl (by kernel_rfl)) rfl ?_
      exact ⟨B, K, C, rfl, HT.out, Hbf.out⟩
set_option maxHeartbeats 1600000 in
theorem rofS_no {w : World} {Q : Nat → Prop} {x : StateD} {cs : List Value} (h : tyState.Is w Q x cs) (hs : stateB x = false) :
    Calls Tryd.prog 23 #[.agg cs.toArray] w fun e w' => e = .returned (.tuple #[.agg #[.slice none 0 0], .int .i64 72]) ∧ Below w.heap.size w w' := by
  have hI := h
  obtain ⟨sNum, sShapeBlocks, sShapeSize, sPages, sPagesA, sPagesn, sPagesc, sPagesv, sRows, sRowsA, sRowsn, sRowsc, sRowsv, sGroupEpoch, sGroupMembers, sGroupMembersA, sGroupMembersn, sGroupMembersc, sGroupMembersv, rfl, rfl, h1_sNum, h2_sNum, h1_sShapeBlocks, h2_sShapeBlocks, h1_sShapeSize, h2_sShapeSize, hl_sPages, hc_sPages, hm_sPages, hr_sPages, hq_sPages, he_sPages, hl_sRows, hc_sRows, hm_sRows, hr_sRows, hq_sRows, he_sRows, h1_sGroupEpoch, h2_sGroupEpoch, hl_sGroupMembers, hc_sGroupMembers, hm_sGroupMembers, hr_sGroupMembers, hq_sGroupMembers, he_sGroupMembers⟩ := State_out h
  obtain ⟨w0, hw0⟩ : ∃ y, (w.alloc (.cells #[.int .i64 sNum, .int .i64 sShapeBlocks, .int .i64 sShapeSize, .slice sPagesA sPagesn sPagesc, .slice sRowsA sRowsn sRowsc, .int .i64 sGroupEpoch, .slice sGroupMembersA sGroupMembersn sGroupMembersc] 48)).alloc (.cells #[.slice none 0 0] 29) = y := ⟨_, rfl⟩
  have hbw0 : Below w.heap.size w w0 := by rw [← hw0]; exact ((Below.refl _ _).alloc (Nat.le_refl _) _).alloc (by simp) _
  have hBw0 : Blk w0 w.heap.size [.int .i64 sNum, .int .i64 sShapeBlocks, .int .i64 sShapeSize, .slice sPagesA sPagesn sPagesc, .slice sRowsA sRowsn sRowsc, .int .i64 sGroupEpoch, .slice sGroupMembersA sGroupMembersn sGroupMembersc] 48 := by rw [← hw0]; exact (Blk.new w [.int .i64 sNum, .int .i64 sShapeBlocks, .int .i64 sShapeSize, .slice sPagesA sPagesn sPagesc, .slice sRowsA sRowsn sRowsc, .int .i64 sGroupEpoch, .slice sGroupMembersA sGroupMembersn sGroupMembersc] 48).alloc _
  have hB2 : Blk w0 (w.heap.size + 1) [.slice none 0 0] 29 := by
    rw [← hw0]
    have := Blk.new (w.alloc (.cells #[.int .i64 sNum, .int .i64 sShapeBlocks, .int .i64 sShapeSize, .slice sPagesA sPagesn sPagesc, .slice sRowsA sRowsn sRowsc, .int .i64 sGroupEpoch, .slice sGroupMembersA sGroupMembersn sGroupMembersc] 48)) [.slice none 0 0] 29
    rwa [World.size_alloc] at this
  have HM := hide (rstate_any (hI.below hbw0))
  rw [stE_no hs] at HM
  have Hw0 := hide hw0
  have y0 := Blk.cell hBw0 (j := 0) rfl; have y1 := Blk.cell hBw0 (j := 1) rfl; have y2 := Blk.cell hBw0 (j := 2) rfl; have y3 := Blk.cell hBw0 (j := 3) rfl; have y4 := Blk.cell hBw0 (j := 4) rfl; have y5 := Blk.cell hBw0 (j := 5) rfl; have y6 := Blk.cell hBw0 (j := 6) rfl
  clear hw0 h hI hs
  go_enter Tryd.func23, Tryd.ntmps23
  go_wp2_with fail
  rw [Hw0.out]
  go_fit HM.out
  rintro e w2 ⟨rfl, hb2⟩
  have C4 := hB2.below hb2
  have d0 := C4.cell (j := 0) rfl
  have f0 := C4.frozen 0
  have X4 : Blk (w2.setCell ⟨w.heap.size + 1, 0, none⟩ (.slice none 0 0)) (w.heap.size + 1) [.slice none 0 0] 29 := C4.set 0 _
  have hbf : Below w.heap.size w (w2.setCell ⟨w.heap.size + 1, 0, none⟩ (.slice none 0 0)) := (hbw0.trans (hb2.mono hbw0.size)).setCell (by show w.heap.size ≤ w.heap.size + 1; omega) _
  have HX4 := hide X4
  have Hbf := hide hbf
  clear X4 hbf
  go_wp2
  refine bodyPost_ret (results_cell2 rfl rfl HX4.out Tryd.underlying29 rfl (by kernel_rfl)) rfl ?_
  exact ⟨rfl, Hbf.out⟩
theorem rofS_any {w : World} {Q : Nat → Prop} {x : StateD} {cs : List Value} (h : tyState.Is w Q x cs) :
    Calls Tryd.prog 23 #[.agg cs.toArray] w fun e w' => ∃ B K C, e = .returned (.tuple #[.agg #[.slice B K C], .int .i64 (ofE x)]) ∧ tyTree.Is w' (fun b => w.heap.size ≤ b) (ofT x) [.slice B K C] ∧ Below w.heap.size w w' := by
  cases hs : stateB x with
  | true =>
    unfold ofE ofT
    rw [hs]
    exact rofS_yes h hs
  | false =>
    unfold ofE ofT
    rw [hs]
    refine (rofS_no h hs).mono ?_
    rintro e w' ⟨rfl, hb⟩
    exact ⟨none, 0, 0, rfl, tree_nil, hb⟩
end Go.Proofs.YtcpnobhdogpfiaaDoor
