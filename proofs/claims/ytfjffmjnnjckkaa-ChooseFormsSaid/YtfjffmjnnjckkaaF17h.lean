/- Stage 17: choose.Best (written by gen_17h.py). -/
import Derived.Test.YtfjffmjnnjckkaaF17g
namespace Go.Proofs.Ytfjffmjnnjckkaa
set_option maxRecDepth 20000
open Go.RowKit Go.Px Go.Maps
set_option linter.unusedVariables false
set_option linter.unusedSimpArgs false
theorem getD_at {l : List TailD} {k : Nat} {t : TailD} (h : l[k]? = some t) : l.getD k tl0 = t := by rw [List.getD_eq_getElem?_getD, h]; rfl
set_option maxRecDepth 20000 in
set_option maxHeartbeats 12800000 in
theorem best_any {w : World} {B : Nat} {A : Option Addr} {n c : Nat} {l : List TailD} {vs : List Value} (hA : RowAt tyTail w B A n l vs) (hB : B ≤ w.heap.size) (h63 : n ≤ 9223372036854775807) :
    Calls Try.prog 24 #[.slice A n c] w fun e w' => e = .returned (.tuple #[.int .i64 ((bestE l).1 : Nat), .int .i64 (bestE l).2]) ∧ Below w.heap.size w w' := by
  have Hl := hide hA.len
  rcases Nat.eq_zero_or_pos n with h0 | h0
  · subst h0
    have HF := hide (show bestE l = (0, 1) by rw [List.eq_nil_of_length_eq_zero Hl.out]; rfl)
    go_enter Try.func24, Try.ntmps24
    go_wp2
    go_ret2
    exact ⟨by rw [HF.out]; rfl, Below.refl _ _⟩
  have q0 : ((n : Int) == 0) = false := by simp; omega
  go_enter Try.func24, Try.ntmps24
  go_wp2
  go_loopw [4, 13] (fun bv iv wr => ∃ k : Nat, k ≤ n ∧ iv = .int .i64 k ∧ bv = .int .i64 (bestK l k : Nat) ∧ Below w.heap.size w wr ∧ Hid (∀ j t, j < k → l[j]? = some t → tailB t = true)) (fun _ iv _ => n - (intOf iv).toNat)
  case atStart => exact ⟨0, by omega, rfl, rfl, Below.refl _ _, hide (fun j t hj => by omega)⟩
  case round =>
    obtain ⟨k, hk, rfl, rfl, hb, HK⟩ := hrel
    by_cases hlt : k < n
    · have hkI : (k : Int) < (n : Int) := by omega
      obtain ⟨bb, hbb⟩ : ∃ b, bestK l k = b := ⟨_, rfl⟩
      have hbn : bb ≤ k ∧ bb < n := by
        rcases Nat.eq_zero_or_pos k with hk0 | hk0
        · subst hk0; have : bestK l 0 = 0 := rfl; omega
        · have := bestK_lt l k hk0; omega
      obtain ⟨t, p, cs, ht, hAp, hI, hat, hc⟩ := hA.at_ (by decide) (hb.mono hB) hlt
      obtain ⟨u, p0, ds, hu, hAp0, hJ, hat0, hc0⟩ := hA.at_ (by decide) (hb.mono hB) hbn.2
      subst hAp
      injection hAp0 with hAp0
      subst hAp0
      have hstep : bestK l (k + 1) = if betB t u = true then k else bb := by
        rw [bestK, hbb, getD_at ht, getD_at hu]
      have hI' := hI
      have hJ' := hJ
      obtain ⟨aNode, aNormal, aCommit, aStateNum, aStateShapeBlocks, aStateShapeSize, aStatePages, aStatePagesA, aStatePagesn, aStatePagesc, aStatePagesv, aStateRows, aStateRowsA, aStateRowsn, aStateRowsc, aStateRowsv, aStateGroupEpoch, aStateGroupMembers, aStateGroupMembersA, aStateGroupMembersn, aStateGroupMembersc, aStateGroupMembersv, aLog, aLogA, aLogn, aLogc, aLogv, rfl, rfl, h1_aNode, h2_aNode, h1_aNormal, h2_aNormal, h1_aCommit, h2_aCommit, h1_aStateNum, h2_aStateNum, h1_aStateShapeBlocks, h2_aStateShapeBlocks, h1_aStateShapeSize, h2_aStateShapeSize, hl_aStatePages, hc_aStatePages, hm_aStatePages, hr_aStatePages, hq_aStatePages, he_aStatePages, hl_aStateRows, hc_aStateRows, hm_aStateRows, hr_aStateRows, hq_aStateRows, he_aStateRows, h1_aStateGroupEpoch, h2_aStateGroupEpoch, hl_aStateGroupMembers, hc_aStateGroupMembers, hm_aStateGroupMembers, hr_aStateGroupMembers, hq_aStateGroupMembers, he_aStateGroupMembers, hl_aLog, hc_aLog, hm_aLog, hr_aLog, hq_aLog, he_aLog⟩ := Tail_out hI'
      obtain ⟨bNode, bNormal, bCommit, bStateNum, bStateShapeBlocks, bStateShapeSize, bStatePages, bStatePagesA, bStatePagesn, bStatePagesc, bStatePagesv, bStateRows, bStateRowsA, bStateRowsn, bStateRowsc, bStateRowsv, bStateGroupEpoch, bStateGroupMembers, bStateGroupMembersA, bStateGroupMembersn, bStateGroupMembersc, bStateGroupMembersv, bLog, bLogA, bLogn, bLogc, bLogv, rfl, rfl, h1_bNode, h2_bNode, h1_bNormal, h2_bNormal, h1_bCommit, h2_bCommit, h1_bStateNum, h2_bStateNum, h1_bStateShapeBlocks, h2_bStateShapeBlocks, h1_bStateShapeSize, h2_bStateShapeSize, hl_bStatePages, hc_bStatePages, hm_bStatePages, hr_bStatePages, hq_bStatePages, he_bStatePages, hl_bStateRows, hc_bStateRows, hm_bStateRows, hr_bStateRows, hq_bStateRows, he_bStateRows, h1_bStateGroupEpoch, h2_bStateGroupEpoch, hl_bStateGroupMembers, hc_bStateGroupMembers, hm_bStateGroupMembers, hr_bStateGroupMembers, hq_bStateGroupMembers, he_bStateGroupMembers, hl_bLog, hc_bLog, hm_bLog, hr_bLog, hq_bLog, he_bLog⟩ := Tail_out hJ'
      clear hl_aStatePages hr_aStatePages hq_aStatePages he_aStatePages hl_aStateRows hr_aStateRows hq_aStateRows he_aStateRows hl_aStateGroupMembers hr_aStateGroupMembers hq_aStateGroupMembers he_aStateGroupMembers hl_aLog hr_aLog hq_aLog he_aLog
      clear hl_bStatePages hr_bStatePages hq_bStatePages he_bStatePages hl_bStateRows hr_bStateRows hq_bStateRows he_bStateRows hl_bStateGroupMembers hr_bStateGroupMembers hq_bStateGroupMembers he_bStateGroupMembers hl_bLog hr_bLog hq_bLog he_bLog
      have y0 := el_0 (n := 11) hat (hc 0 _ rfl); have y1 := el_S (n := 11) (i := 0) hat (hc 1 _ rfl); have y2 := el_S (n := 11) (i := 1) hat (hc 2 _ rfl); have y3 := el_S (n := 11) (i := 2) hat (hc 3 _ rfl); have y4 := el_S (n := 11) (i := 3) hat (hc 4 _ rfl); have y5 := el_S (n := 11) (i := 4) hat (hc 5 _ rfl); have y6 := el_S (n := 11) (i := 5) hat (hc 6 _ rfl); have y7 := el_S (n := 11) (i := 6) hat (hc 7 _ rfl); have y8 := el_S (n := 11) (i := 7) hat (hc 8 _ rfl); have y9 := el_S (n := 11) (i := 8) hat (hc 9 _ rfl); have y10 := el_S (n := 11) (i := 9) hat (hc 10 _ rfl)
      have z0 := el_0 (n := 11) hat0 (hc0 0 _ rfl); have z1 := el_S (n := 11) (i := 0) hat0 (hc0 1 _ rfl); have z2 := el_S (n := 11) (i := 1) hat0 (hc0 2 _ rfl); have z3 := el_S (n := 11) (i := 2) hat0 (hc0 3 _ rfl); have z4 := el_S (n := 11) (i := 3) hat0 (hc0 4 _ rfl); have z5 := el_S (n := 11) (i := 4) hat0 (hc0 5 _ rfl); have z6 := el_S (n := 11) (i := 5) hat0 (hc0 6 _ rfl); have z7 := el_S (n := 11) (i := 6) hat0 (hc0 7 _ rfl); have z8 := el_S (n := 11) (i := 7) hat0 (hc0 8 _ rfl); have z9 := el_S (n := 11) (i := 8) hat0 (hc0 9 _ rfl); have z10 := el_S (n := 11) (i := 9) hat0 (hc0 10 _ rfl)
      rw [hbb]
      obtain ⟨gE, hgE⟩ : ∃ x, wr.heap.size = x := ⟨_, rfl⟩
      obtain ⟨wA, hwA⟩ : ∃ x, wr.alloc (.cells #[.int .i64 aNode, .int .i64 aNormal, .int .i64 aCommit, .int .i64 aStateNum, .int .i64 aStateShapeBlocks, .int .i64 aStateShapeSize, .slice aStatePagesA aStatePagesn aStatePagesc, .slice aStateRowsA aStateRowsn aStateRowsc, .int .i64 aStateGroupEpoch, .slice aStateGroupMembersA aStateGroupMembersn aStateGroupMembersc, .slice aLogA aLogn aLogc] 33) = x := ⟨_, rfl⟩
      have hX : Blk wA gE [.int .i64 aNode, .int .i64 aNormal, .int .i64 aCommit, .int .i64 aStateNum, .int .i64 aStateShapeBlocks, .int .i64 aStateShapeSize, .slice aStatePagesA aStatePagesn aStatePagesc, .slice aStateRowsA aStateRowsn aStateRowsc, .int .i64 aStateGroupEpoch, .slice aStateGroupMembersA aStateGroupMembersn aStateGroupMembersc, .slice aLogA aLogn aLogc] 33 := by rw [← hwA, ← hgE]; exact Blk.new wr [.int .i64 aNode, .int .i64 aNormal, .int .i64 aCommit, .int .i64 aStateNum, .int .i64 aStateShapeBlocks, .int .i64 aStateShapeSize, .slice aStatePagesA aStatePagesn aStatePagesc, .slice aStateRowsA aStateRowsn aStateRowsc, .int .i64 aStateGroupEpoch, .slice aStateGroupMembersA aStateGroupMembersn aStateGroupMembersc, .slice aLogA aLogn aLogc] _
      have hbA : Below wr.heap.size wr wA := by rw [← hwA]; exact (Below.refl _ _).alloc (Nat.le_refl _) _
      have HCk := hide (mtail_any (hI.below hbA))
      have hIA := hI.below hbA
      have hJA := hJ.below hbA
      have HT := hide ht
      have Hst := hide hstep
      have HwA := hide hwA
      have HgE := hide hgE
      have hbwA := hb.trans (hbA.mono hb.size)
      have z0 := below_cell hbA z0
      have z1 := below_cell hbA z1
      have z2 := below_cell hbA z2
      have z3 := below_cell hbA z3
      have z4 := below_cell hbA z4
      have z5 := below_cell hbA z5
      have z6 := below_cell hbA z6
      have z7 := below_cell hbA z7
      have z8 := below_cell hbA z8
      have z9 := below_cell hbA z9
      have z10 := below_cell hbA z10
      clear hwA hgE hI hJ hat hat0 hc hc0 ht hu hstep hbb
      go_wp2_with fail
      rw [HwA.out]
      try rw [HgE.out]
      go_fit HCk.out
      rcases bool_two (tailB (aNode, aNormal, aCommit, (aStateNum, (aStateShapeBlocks, aStateShapeSize), aStatePages, aStateRows, (aStateGroupEpoch, aStateGroupMembers)), aLog)) with q | q
      rotate_left
      · have HF := hide (bestE_bad HT.out q)
        rw [tailE_no q]
        clear q HCk hIA hJA
        rintro xx wB ⟨rfl, hbB⟩
        go_wp2
        go_ret2
        exact ⟨by rw [HF.out]; rfl, hbwA.trans (hbB.mono hbwA.size)⟩
      · rw [tailE_ok q]
        have HN := hide (show ∀ j t, j < k + 1 → l[j]? = some t → tailB t = true from fun j t hj ht => by
          rcases Nat.lt_or_ge j k with h' | h'
          · exact HK.out j t h' ht
          · rw [show j = k by omega, HT.out] at ht
            injection ht with ht
            rw [← ht]; exact q)
        clear q HCk
        rintro xx wB ⟨rfl, hbB⟩
        have hXB := hX.below hbB
        have hIB := hIA.below hbB
        have hJB := hJA.below hbB
        have hbwB := hbwA.trans (hbB.mono hbwA.size)
        have z0 := below_cell hbB z0
        have z1 := below_cell hbB z1
        have z2 := below_cell hbB z2
        have z3 := below_cell hbB z3
        have z4 := below_cell hbB z4
        have z5 := below_cell hbB z5
        have z6 := below_cell hbB z6
        have z7 := below_cell hbB z7
        have z8 := below_cell hbB z8
        have z9 := below_cell hbB z9
        have z10 := below_cell hbB z10
        clear y0 y1 y2 y3 y4 y5 y6 y7 y8 y9 y10 hX hIA hJA hbA hbB
        have y0 := Blk.cell hXB (j := 0) rfl; have y1 := Blk.cell hXB (j := 1) rfl; have y2 := Blk.cell hXB (j := 2) rfl; have y3 := Blk.cell hXB (j := 3) rfl; have y4 := Blk.cell hXB (j := 4) rfl; have y5 := Blk.cell hXB (j := 5) rfl; have y6 := Blk.cell hXB (j := 6) rfl; have y7 := Blk.cell hXB (j := 7) rfl; have y8 := Blk.cell hXB (j := 8) rfl; have y9 := Blk.cell hXB (j := 9) rfl; have y10 := Blk.cell hXB (j := 10) rfl
        have k0 := fun (x : InC (fun W' => Below wB.heap.size wB W')) => below_cell x.h y0
        have k1 := fun (x : InC (fun W' => Below wB.heap.size wB W')) => below_cell x.h y1
        have k2 := fun (x : InC (fun W' => Below wB.heap.size wB W')) => below_cell x.h y2
        have k3 := fun (x : InC (fun W' => Below wB.heap.size wB W')) => below_cell x.h y3
        have k4 := fun (x : InC (fun W' => Below wB.heap.size wB W')) => below_cell x.h y4
        have k5 := fun (x : InC (fun W' => Below wB.heap.size wB W')) => below_cell x.h y5
        have k6 := fun (x : InC (fun W' => Below wB.heap.size wB W')) => below_cell x.h y6
        have k7 := fun (x : InC (fun W' => Below wB.heap.size wB W')) => below_cell x.h y7
        have k8 := fun (x : InC (fun W' => Below wB.heap.size wB W')) => below_cell x.h y8
        have k9 := fun (x : InC (fun W' => Below wB.heap.size wB W')) => below_cell x.h y9
        have k10 := fun (x : InC (fun W' => Below wB.heap.size wB W')) => below_cell x.h y10
        have m0 := fun (x : InC (fun W' => Below wB.heap.size wB W')) => below_cell x.h z0
        have m1 := fun (x : InC (fun W' => Below wB.heap.size wB W')) => below_cell x.h z1
        have m2 := fun (x : InC (fun W' => Below wB.heap.size wB W')) => below_cell x.h z2
        have m3 := fun (x : InC (fun W' => Below wB.heap.size wB W')) => below_cell x.h z3
        have m4 := fun (x : InC (fun W' => Below wB.heap.size wB W')) => below_cell x.h z4
        have m5 := fun (x : InC (fun W' => Below wB.heap.size wB W')) => below_cell x.h z5
        have m6 := fun (x : InC (fun W' => Below wB.heap.size wB W')) => below_cell x.h z6
        have m7 := fun (x : InC (fun W' => Below wB.heap.size wB W')) => below_cell x.h z7
        have m8 := fun (x : InC (fun W' => Below wB.heap.size wB W')) => below_cell x.h z8
        have m9 := fun (x : InC (fun W' => Below wB.heap.size wB W')) => below_cell x.h z9
        have m10 := fun (x : InC (fun W' => Below wB.heap.size wB W')) => below_cell x.h z10
        obtain ⟨hbk, hbN⟩ := hbn
        have hbI : (bb : Int) < (n : Int) := by omega
        have hb0I : (0 : Int) ≤ (bb : Int) := by omega
        have Hfin := hide (show (betB (aNode, aNormal, aCommit, (aStateNum, (aStateShapeBlocks, aStateShapeSize), aStatePages, aStateRows, (aStateGroupEpoch, aStateGroupMembers)), aLog) (bNode, bNormal, bCommit, (bStateNum, (bStateShapeBlocks, bStateShapeSize), bStatePages, bStateRows, (bStateGroupEpoch, bStateGroupMembers)), bLog) = true → bestK l (k + 1) = k) ∧ (betB (aNode, aNormal, aCommit, (aStateNum, (aStateShapeBlocks, aStateShapeSize), aStatePages, aStateRows, (aStateGroupEpoch, aStateGroupMembers)), aLog) (bNode, bNormal, bCommit, (bStateNum, (bStateShapeBlocks, bStateShapeSize), bStatePages, bStateRows, (bStateGroupEpoch, bStateGroupMembers)), bLog) = false → bestK l (k + 1) = bb) from ⟨fun e => by rw [Hst.out, e]; rfl, fun e => by rw [Hst.out, e]; rfl⟩)
        rcases bool_two (betB (aNode, aNormal, aCommit, (aStateNum, (aStateShapeBlocks, aStateShapeSize), aStatePages, aStateRows, (aStateGroupEpoch, aStateGroupMembers)), aLog) (bNode, bNormal, bCommit, (bStateNum, (bStateShapeBlocks, bStateShapeSize), bStatePages, bStateRows, (bStateGroupEpoch, bStateGroupMembers)), bLog)) with q | q
        · have HBt := hide q
          have HS := hide (Hfin.out.1 q)
          clear q Hfin Hst
          go_wp2_with fail
          refine wp_region_in (fun W' => Below wB.heap.size wB W') (Below.refl _ _).drew (by kernel_rfl) (by kernel_rfl) ?_
          repeat (go_big_quiet_step (first
            | (go_at_call 12; have hh := fun (x : InC (fun W' => Below wB.heap.size wB W')) => mbetter_any (hIB.below x.h) (hJB.below x.h); rw [HBt.out] at hh; exact Calls.in_below (hh _))))
          refine wpQuiet_nil ?_
          intro _ hw'
          obtain ⟨nq, hw''⟩ := hw'
          subst hw''
          have hbq := nq.h
          go_wp2
          go_roundw
          case rel => exact ⟨k + 1, by omega, by go_num, by rw [HS.out], hbwB.trans (hbq.mono hbwB.size), HN⟩
          case measure => simp [intOf]; omega
        · have HBt := hide q
          have HS := hide (Hfin.out.2 q)
          clear q Hfin Hst
          go_wp2_with fail
          refine wp_region_in (fun W' => Below wB.heap.size wB W') (Below.refl _ _).drew (by kernel_rfl) (by kernel_rfl) ?_
          repeat (go_big_quiet_step (first
            | (go_at_call 12; have hh := fun (x : InC (fun W' => Below wB.heap.size wB W')) => mbetter_any (hIB.below x.h) (hJB.below x.h); rw [HBt.out] at hh; exact Calls.in_below (hh _))))
          refine wpQuiet_nil ?_
          intro _ hw'
          obtain ⟨nq, hw''⟩ := hw'
          subst hw''
          have hbq := nq.h
          go_wp2
          go_roundw
          case rel => exact ⟨k + 1, by omega, by go_num, by rw [HS.out], hbwB.trans (hbq.mono hbwB.size), HN⟩
          case measure => simp [intOf]; omega
    · obtain rfl : k = n := by omega
      have HF := hide (bestE_ok (fun e => by rw [e] at Hl; have := Hl.out; simp at this; omega) (fun j t ht => HK.out j t (by rw [← Hl.out]; exact (List.getElem?_eq_some_iff.1 ht).1) ht))
      go_wp2
      go_ret2
      exact ⟨by rw [HF.out, Hl.out]; rfl, hb⟩
end Go.Proofs.Ytfjffmjnnjckkaa
