/- Stage 17: kept (written by gen_17j.py). -/
import Derived.Test.YtfjffmjnnjckkaaF17k
import Derived.Test.YtfjffmjnnjckkaaOrd
import Derived.Test.YtfjffmjnnjckkaaSup18
import Derived.Deep.CutRange
namespace Go.Proofs.Ytfjffmjnnjckkaa
set_option maxRecDepth 20000
open Go.RowKit Go.Px Go.Maps
set_option linter.unusedVariables false
set_option linter.unusedSimpArgs false
set_option maxHeartbeats 1600000 in
theorem rreached17_any (e : Int) (A : Option Addr) (n c : Nat) (ms : List Int) (B : Option Addr) (m d : Nat) (l : List Int) (w : World) (hn : ms.length = n) (hm : l.length = m) (h63 : n ≤ 1000000) (h64 : m ≤ 9223372036854775807) (hr : Rd w A (ints ms)) (hs : Rd w B (ints l)) :
    Calls Try.prog 20 #[grp e A n c, .slice B m d] w fun x w' => x = .returned (.bool (reachB ms l)) ∧ Below w.heap.size w w' := by
  have Hn := hide hn
  have Hm := hide hm
  clear hn hm
  obtain ⟨w0, hw0⟩ : ∃ y, w.alloc (.cells #[.int .i64 e, .slice A n c] 28) = y := ⟨_, rfl⟩
  have hb0 : Below w.heap.size w w0 := by rw [← hw0]; exact (Below.refl _ _).alloc (Nat.le_refl _) _
  have B0 : Blk w0 w.heap.size [.int .i64 e, .slice A n c] 28 := by rw [← hw0]; exact Blk.new w [.int .i64 e, .slice A n c] _
  have Hw0 := hide hw0
  have z0 := B0.cell (j := 0) rfl
  have z1 := B0.cell (j := 1) rfl
  have hr0 := hr.below hb0
  have hs0 := hs.below hb0
  clear hw0 B0
  go_enter Try.func20, Try.ntmps20
  go_wp2_with fail
  rw [Hw0.out]
  go_loop [5, 6] (fun s5 s6 => ∃ (k q : Nat), s6 = .int .i64 (k : Int) ∧ s5 = .int .i64 (q : Int) ∧ k ≤ n ∧ q ≤ k ∧ Hid (reachN (ms.take k) l = q)) (fun _ s => n - (intOf s).toNat)
  case atStart => exact ⟨0, 0, rfl, rfl, Nat.zero_le _, Nat.le_refl _, hide rfl⟩
  case round =>
    obtain ⟨k, q, rfl, rfl, hk, hq, HR⟩ := hrel
    by_cases hlt : k < n
    · have hkl : k < ms.length := by rw [Hn.out]; exact hlt
      obtain ⟨a, rfl, hc⟩ := hr0 k _ (ints_get hkl)
      obtain ⟨x, hx⟩ : ∃ x, ms[k] = x := ⟨_, rfl⟩
      have hst := reachN_step hkl l
      rw [hx] at hc hst
      rw [HR.out] at hst
      have HST := hide hst
      have HI := hide (rin_any B m d l x w0 Hm.out (by omega) hs0)
      clear hx hst HR hkl
      go_wp2_with fail
      go_fit HI.out
      rintro y w1 ⟨rfl, rfl⟩
      cases hb : inB l x with
      | true =>
        have HB := hide (show reachN (ms.take (k + 1)) l = q + 1 by rw [HST.out, hb]; rfl)
        clear hb HST
        go_wp2
        go_round
        case rel => exact ⟨k + 1, q + 1, by go_num, by go_num, by omega, by omega, HB⟩
        case measure => simp [intOf]; omega
      | false =>
        have HB := hide (show reachN (ms.take (k + 1)) l = q by rw [HST.out, hb]; rfl)
        clear hb HST
        go_wp2
        go_round
        case rel => exact ⟨k + 1, q, by go_num, by go_num, by omega, by omega, HB⟩
        case measure => simp [intOf]; omega
    · have hR : reachN ms l = q := by
        have h0 := HR.out
        rwa [List.take_of_length_le (by rw [Hn.out]; omega)] at h0
      have hQ := rquorum_any e A n c w0 (by omega)
      obtain ⟨N, hN⟩ : ∃ y, n / 2 + 1 = y := ⟨_, rfl⟩
      have hB : reachB ms l = decide (N ≤ q) := by unfold reachB; rw [hR, Hn.out, hN]
      rw [hN] at hQ
      have HQ := hide hQ
      have HB := hide hB
      clear hR HR hQ hB hN
      go_wp2_with fail
      go_fit HQ.out
      rintro y w1 ⟨rfl, hb1⟩
      go_wp2
      go_ret
      exact ⟨by rw [HB.out]; rfl, hb0.trans (hb1.mono hb0.size)⟩
theorem tail_normal {w : World} {Q : Nat → Prop} {t : TailD} {cs : List Value} (h : tyTail.Is w Q t cs) : cs[1]? = some (.int .i64 t.2.1) := by
  obtain ⟨tNode, tNormal, tCommit, tStateNum, tStateShapeBlocks, tStateShapeSize, tStatePages, tStatePagesA, tStatePagesn, tStatePagesc, tStatePagesv, tStateRows, tStateRowsA, tStateRowsn, tStateRowsc, tStateRowsv, tStateGroupEpoch, tStateGroupMembers, tStateGroupMembersA, tStateGroupMembersn, tStateGroupMembersc, tStateGroupMembersv, tLog, tLogA, tLogn, tLogc, tLogv, rfl, rfl, h1_tNode, h2_tNode, h1_tNormal, h2_tNormal, h1_tCommit, h2_tCommit, h1_tStateNum, h2_tStateNum, h1_tStateShapeBlocks, h2_tStateShapeBlocks, h1_tStateShapeSize, h2_tStateShapeSize, hl_tStatePages, hc_tStatePages, hm_tStatePages, hr_tStatePages, hq_tStatePages, he_tStatePages, hl_tStateRows, hc_tStateRows, hm_tStateRows, hr_tStateRows, hq_tStateRows, he_tStateRows, h1_tStateGroupEpoch, h2_tStateGroupEpoch, hl_tStateGroupMembers, hc_tStateGroupMembers, hm_tStateGroupMembers, hr_tStateGroupMembers, hq_tStateGroupMembers, he_tStateGroupMembers, hl_tLog, hc_tLog, hm_tLog, hr_tLog, hq_tLog, he_tLog⟩ := Tail_out h
  rfl
set_option maxRecDepth 20000 in
set_option maxHeartbeats 25600000 in
theorem kept_any {w : World} {B : Nat} {Q : Nat → Prop} (ge : Int) (gA : Option Addr) (gn gc : Nat) (ms : List Int) {A : Option Addr} {n c : Nat} {l : List TailD} {vs : List Value} {y : EntryD} {ds : List Value} (hgn : ms.length = gn) (hg6 : gn ≤ 1000000) (hgr : Rd w gA (ints ms)) (hA : RowAt tyTail w B A n l vs) (hB : B ≤ w.heap.size) (h8 : n ≤ 925904528626) (hE : tyEntry.Is w Q y ds) :
    Calls Try.prog 23 #[grp ge gA gn gc, .slice A n c, .agg ds.toArray] w fun x w' => ∃ b, x = .returned (.bool b) ∧ (b = true → ∃ nodes least, KeptR ms l y nodes least) ∧ Below w.heap.size w w' := by
  have Hl := hide hA.len
  have hE9 := hE
  obtain ⟨eKind, eNum, eView, eClient, eSerial, eOpKind, eOpAt, eOpN, eOpData, eOpDataA, eOpDatan, eOpDatac, eOpOld, eOpOldA, eOpOldn, eOpOldc, eGroupEpoch, eGroupMembers, eGroupMembersA, eGroupMembersn, eGroupMembersc, eGroupMembersv, rfl, rfl, hu_eKind, h1_eNum, h2_eNum, h1_eView, h2_eView, h1_eClient, h2_eClient, h1_eSerial, h2_eSerial, hu_eOpKind, h1_eOpAt, h2_eOpAt, h1_eOpN, h2_eOpN, hl_eOpData, hc_eOpData, hm_eOpData, hr_eOpData, hq_eOpData, hl_eOpOld, hc_eOpOld, hm_eOpOld, hr_eOpOld, hq_eOpOld, h1_eGroupEpoch, h2_eGroupEpoch, hl_eGroupMembers, hc_eGroupMembers, hm_eGroupMembers, hr_eGroupMembers, hq_eGroupMembers, he_eGroupMembers⟩ := Entry_out hE
  clear hl_eOpData hr_eOpData hq_eOpData hl_eOpOld hr_eOpOld hq_eOpOld hl_eGroupMembers hr_eGroupMembers hq_eGroupMembers he_eGroupMembers
  obtain ⟨g, hg⟩ : ∃ g, w.heap.size = g := ⟨_, rfl⟩
  obtain ⟨w0, hw0⟩ : ∃ x, (w.alloc (.cells #[.int .i64 ge, .slice gA gn gc] 28)).alloc (.cells #[.int .u8 eKind, .int .i64 eNum, .int .i64 eView, .int .i64 eClient, .int .i64 eSerial, .int .u8 eOpKind, .int .i64 eOpAt, .int .i64 eOpN, .slice eOpDataA eOpDatan eOpDatac, .slice eOpOldA eOpOldn eOpOldc, .int .i64 eGroupEpoch, .slice eGroupMembersA eGroupMembersn eGroupMembersc] 58) = x := ⟨_, rfl⟩
  have hP : Blk w0 g [.int .i64 ge, .slice gA gn gc] 28 := by rw [← hw0, ← hg]; exact (Blk.new w [.int .i64 ge, .slice gA gn gc] _).alloc _
  have hRb : Blk w0 (g + 1) [.int .u8 eKind, .int .i64 eNum, .int .i64 eView, .int .i64 eClient, .int .i64 eSerial, .int .u8 eOpKind, .int .i64 eOpAt, .int .i64 eOpN, .slice eOpDataA eOpDatan eOpDatac, .slice eOpOldA eOpOldn eOpOldc, .int .i64 eGroupEpoch, .slice eGroupMembersA eGroupMembersn eGroupMembersc] 58 := by
    rw [← hw0, ← hg]
    have := Blk.new (w.alloc (.cells #[.int .i64 ge, .slice gA gn gc] 28)) [.int .u8 eKind, .int .i64 eNum, .int .i64 eView, .int .i64 eClient, .int .i64 eSerial, .int .u8 eOpKind, .int .i64 eOpAt, .int .i64 eOpN, .slice eOpDataA eOpDatan eOpDatac, .slice eOpOldA eOpOldn eOpOldc, .int .i64 eGroupEpoch, .slice eGroupMembersA eGroupMembersn eGroupMembersc] 58
    rwa [World.size_alloc] at this
  have hb0 : Below w.heap.size w w0 := by rw [← hw0]; exact ((Below.refl _ _).alloc (Nat.le_refl _) _).alloc (by simp) _
  have hA0 := RowAt.go hA (hb0.mono hB)
  have hE0 := hE9.below hb0
  have hgr0 := hgr.below hb0
  have hz0 : B ≤ w0.heap.size := Nat.le_trans hB hb0.size
  have Hw0 := hide hw0
  have Hg := hide hg
  have Hgn := hide hgn
  clear hw0 hgr hA hE9 hgn
  go_enter Try.func23, Try.ntmps23
  go_wp2_with fail
  rw [Hw0.out]
  go_loopw [7, 8, 9] (fun v lv iv wr => ∃ (k q : Nat) (nodes : List Int) (L : Int), k ≤ n ∧ q ≤ k ∧ iv = .int .i64 k ∧ lv = .int .i64 L ∧ -9223372036854775808 ≤ L ∧ L ≤ 9223372036854775807 ∧ nodes.length = q ∧ Grow w0 (.slice none 0 0) w0.heap.size 3 1 wr v q (ints nodes) ∧ Hid (∀ v ∈ nodes, ∃ t ∈ l, hasB t (eKind, eNum, eView, eClient, eSerial, (eOpKind, eOpAt, eOpN, eOpData, eOpOld), (eGroupEpoch, eGroupMembers)) = true ∧ t.1 = v ∧ L ≤ t.2.1)) (fun _ _ iv _ => n - (intOf iv).toNat)
  case atStart => exact ⟨0, 0, [], 4611686018427387904, by omega, by omega, rfl, rfl, by omega, by omega, rfl, by first | exact Grow.nil _ _ _ | (rw [← Hw0.out]; exact Grow.nil _ _ _), hide (fun v hv => by cases hv)⟩
  case round =>
    obtain ⟨k, q, nodes, L, hk, hqk, rfl, rfl, hL1, hL2, hnl, hG, HN⟩ := hrel
    have hbM := hG.all
    by_cases hlt : k < n
    · obtain ⟨wM, hwM⟩ : ∃ x, x = wr := ⟨_, rfl⟩
      subst hwM
      have hkI : (k : Int) < (n : Int) := by omega
      obtain ⟨t, p, cs1, ht, hAp, hI, hat, hc⟩ := hA0.at_ (by decide) (hbM.mono hz0) hlt
      subst hAp
      have hI' := hI
      obtain ⟨aNode, aNormal, aCommit, aStateNum, aStateShapeBlocks, aStateShapeSize, aStatePages, aStatePagesA, aStatePagesn, aStatePagesc, aStatePagesv, aStateRows, aStateRowsA, aStateRowsn, aStateRowsc, aStateRowsv, aStateGroupEpoch, aStateGroupMembers, aStateGroupMembersA, aStateGroupMembersn, aStateGroupMembersc, aStateGroupMembersv, aLog, aLogA, aLogn, aLogc, aLogv, rfl, rfl, h1_aNode, h2_aNode, h1_aNormal, h2_aNormal, h1_aCommit, h2_aCommit, h1_aStateNum, h2_aStateNum, h1_aStateShapeBlocks, h2_aStateShapeBlocks, h1_aStateShapeSize, h2_aStateShapeSize, hl_aStatePages, hc_aStatePages, hm_aStatePages, hr_aStatePages, hq_aStatePages, he_aStatePages, hl_aStateRows, hc_aStateRows, hm_aStateRows, hr_aStateRows, hq_aStateRows, he_aStateRows, h1_aStateGroupEpoch, h2_aStateGroupEpoch, hl_aStateGroupMembers, hc_aStateGroupMembers, hm_aStateGroupMembers, hr_aStateGroupMembers, hq_aStateGroupMembers, he_aStateGroupMembers, hl_aLog, hc_aLog, hm_aLog, hr_aLog, hq_aLog, he_aLog⟩ := Tail_out hI'
      clear hl_aStatePages hr_aStatePages hq_aStatePages he_aStatePages hl_aStateRows hr_aStateRows hq_aStateRows he_aStateRows hl_aStateGroupMembers hr_aStateGroupMembers hq_aStateGroupMembers he_aStateGroupMembers hl_aLog hr_aLog hq_aLog he_aLog
      have y0 := el_0 (n := 11) hat (hc 0 _ rfl); have y1 := el_S (n := 11) (i := 0) hat (hc 1 _ rfl); have y2 := el_S (n := 11) (i := 1) hat (hc 2 _ rfl); have y3 := el_S (n := 11) (i := 2) hat (hc 3 _ rfl); have y4 := el_S (n := 11) (i := 3) hat (hc 4 _ rfl); have y5 := el_S (n := 11) (i := 4) hat (hc 5 _ rfl); have y6 := el_S (n := 11) (i := 5) hat (hc 6 _ rfl); have y7 := el_S (n := 11) (i := 6) hat (hc 7 _ rfl); have y8 := el_S (n := 11) (i := 7) hat (hc 8 _ rfl); have y9 := el_S (n := 11) (i := 8) hat (hc 9 _ rfl); have y10 := el_S (n := 11) (i := 9) hat (hc 10 _ rfl)
      have hEM := hE0.below hbM
      have z0 := Blk.cell (hRb.below hbM) (j := 0) rfl; have z1 := Blk.cell (hRb.below hbM) (j := 1) rfl; have z2 := Blk.cell (hRb.below hbM) (j := 2) rfl; have z3 := Blk.cell (hRb.below hbM) (j := 3) rfl; have z4 := Blk.cell (hRb.below hbM) (j := 4) rfl; have z5 := Blk.cell (hRb.below hbM) (j := 5) rfl; have z6 := Blk.cell (hRb.below hbM) (j := 6) rfl; have z7 := Blk.cell (hRb.below hbM) (j := 7) rfl; have z8 := Blk.cell (hRb.below hbM) (j := 8) rfl; have z9 := Blk.cell (hRb.below hbM) (j := 9) rfl; have z10 := Blk.cell (hRb.below hbM) (j := 10) rfl; have z11 := Blk.cell (hRb.below hbM) (j := 11) rfl
      have k0 := fun (x : InC (fun W' => Below wM.heap.size wM W')) => below_cell x.h y0
      have k1 := fun (x : InC (fun W' => Below wM.heap.size wM W')) => below_cell x.h y1
      have k2 := fun (x : InC (fun W' => Below wM.heap.size wM W')) => below_cell x.h y2
      have k3 := fun (x : InC (fun W' => Below wM.heap.size wM W')) => below_cell x.h y3
      have k4 := fun (x : InC (fun W' => Below wM.heap.size wM W')) => below_cell x.h y4
      have k5 := fun (x : InC (fun W' => Below wM.heap.size wM W')) => below_cell x.h y5
      have k6 := fun (x : InC (fun W' => Below wM.heap.size wM W')) => below_cell x.h y6
      have k7 := fun (x : InC (fun W' => Below wM.heap.size wM W')) => below_cell x.h y7
      have k8 := fun (x : InC (fun W' => Below wM.heap.size wM W')) => below_cell x.h y8
      have k9 := fun (x : InC (fun W' => Below wM.heap.size wM W')) => below_cell x.h y9
      have k10 := fun (x : InC (fun W' => Below wM.heap.size wM W')) => below_cell x.h y10
      have m0 := fun (x : InC (fun W' => Below wM.heap.size wM W')) => below_cell x.h z0
      have m1 := fun (x : InC (fun W' => Below wM.heap.size wM W')) => below_cell x.h z1
      have m2 := fun (x : InC (fun W' => Below wM.heap.size wM W')) => below_cell x.h z2
      have m3 := fun (x : InC (fun W' => Below wM.heap.size wM W')) => below_cell x.h z3
      have m4 := fun (x : InC (fun W' => Below wM.heap.size wM W')) => below_cell x.h z4
      have m5 := fun (x : InC (fun W' => Below wM.heap.size wM W')) => below_cell x.h z5
      have m6 := fun (x : InC (fun W' => Below wM.heap.size wM W')) => below_cell x.h z6
      have m7 := fun (x : InC (fun W' => Below wM.heap.size wM W')) => below_cell x.h z7
      have m8 := fun (x : InC (fun W' => Below wM.heap.size wM W')) => below_cell x.h z8
      have m9 := fun (x : InC (fun W' => Below wM.heap.size wM W')) => below_cell x.h z9
      have m10 := fun (x : InC (fun W' => Below wM.heap.size wM W')) => below_cell x.h z10
      have m11 := fun (x : InC (fun W' => Below wM.heap.size wM W')) => below_cell x.h z11
      have HT := hide ht
      clear hat hc ht
      have hnn : nodes.length = q := hnl
      rcases bool_two (hasB (aNode, aNormal, aCommit, (aStateNum, (aStateShapeBlocks, aStateShapeSize), aStatePages, aStateRows, (aStateGroupEpoch, aStateGroupMembers)), aLog) (eKind, eNum, eView, eClient, eSerial, (eOpKind, eOpAt, eOpN, eOpData, eOpOld), (eGroupEpoch, eGroupMembers))) with q1 | q1
      · have HH := hide q1
        have HN2 := hide (show ∀ L', L' ≤ L → L' ≤ aNormal → ∀ v ∈ nodes ++ [aNode], ∃ t ∈ l, hasB t (eKind, eNum, eView, eClient, eSerial, (eOpKind, eOpAt, eOpN, eOpData, eOpOld), (eGroupEpoch, eGroupMembers)) = true ∧ t.1 = v ∧ L' ≤ t.2.1 from fun L' h1 h2 v hv => by
          rcases List.mem_append.1 hv with hv | hv
          · obtain ⟨t, t1, t2, t3, t4⟩ := HN.out v hv
            exact ⟨t, t1, t2, t3, by omega⟩
          · rw [List.mem_singleton] at hv
            subst hv
            exact ⟨_, List.mem_of_getElem? HT.out, q1, rfl, h2⟩)
        clear q1 HN
        go_wp2_with fail
        refine wp_region_in (fun W' => Below wM.heap.size wM W') (Below.refl _ _).drew (by kernel_rfl) (by kernel_rfl) ?_
        repeat (go_big_quiet_step (first
          | (go_at_call 25; have hh := fun (x : InC (fun W' => Below wM.heap.size wM W')) => holds_any (hI.below x.h) (hEM.below x.h); rw [HH.out] at hh; exact Calls.in_below (hh _))))
        refine wpQuiet_nil ?_
        intro _ hw'
        obtain ⟨nq, hw''⟩ := hw'
        subst hw''
        have hbq := nq.h
        obtain ⟨wX, hwX⟩ : ∃ x, nq.W = x := ⟨_, rfl⟩
        rw [hwX] at hbq
        rw [hwX]
        clear hwX
        have hGX := hG.below hbq
        have y0 := below_cell hbq y0
        have y1 := below_cell hbq y1
        clear hG
        go_wp2_with (first | (with_reducible refine stop_append rfl ?_) | (with_reducible refine stop_copy rfl ?_) | (with_reducible refine stop_make rfl ?_))
        refine hGX.push rfl rfl rfl tInts rfl rfl rfl (by omega) (by omega) ?_
        intro u' w2 hG2 _
        have hb2 := hG2.all
        obtain ⟨t2, p2, cs2, ht2, hAp2, hI2, hat2, hc2⟩ := hA0.at_ (by decide) (hb2.mono hz0) hlt
        injection hAp2 with hAp2
        subst hAp2
        have yN := el_S (n := 11) (i := 0) hat2 (hc2 1 _ (tail_normal hI2))
        rw [HT.out] at ht2
        injection ht2 with ht2
        rw [← ht2] at yN
        simp only at yN
        clear hat2 hc2 hI2 ht2 hb2 y0 y1 hGX
        go_wp2
        go_roundw
        case rel => exact ⟨k + 1, q + 1, nodes ++ [aNode], _, by omega, by omega, by go_num, rfl, by omega, by omega, by simp [hnn], by rw [ints_append]; exact hG2, hide (HN2.out _ (by omega) (by omega))⟩
        case measure => simp [intOf]; omega
      · have HH := hide q1
        clear q1
        go_wp2_with fail
        refine wp_region_in (fun W' => Below wM.heap.size wM W') (Below.refl _ _).drew (by kernel_rfl) (by kernel_rfl) ?_
        repeat (go_big_quiet_step (first
          | (go_at_call 25; have hh := fun (x : InC (fun W' => Below wM.heap.size wM W')) => holds_any (hI.below x.h) (hEM.below x.h); rw [HH.out] at hh; exact Calls.in_below (hh _))))
        refine wpQuiet_nil ?_
        intro _ hw'
        obtain ⟨nq, hw''⟩ := hw'
        subst hw''
        have hbq := nq.h
        go_wp2
        go_roundw
        case rel => exact ⟨k + 1, q, nodes, L, by omega, by omega, by go_num, rfl, hL1, hL2, hnl, hG.below hbq, HN⟩
        case measure => simp [intOf]; omega
    · obtain rfl : k = n := by omega
      obtain ⟨vA, vc, rfl, _, hqc, hcm, hvr, _⟩ := own_out hG.owns
      have hqm : q ≤ 9223372036854775807 := by unfold maxLen at hcm; omega
      clear hG
      obtain ⟨wL, hwL⟩ : ∃ x, x = wr := ⟨_, rfl⟩
      subst hwL
      have hbL := hbM
      clear hbM
      go_wp2
      go_loopw [10] (fun iv wr => ∃ i : Nat, i ≤ k ∧ iv = .int .i64 i ∧ Below wL.heap.size wL wr ∧ Hid (∀ j t, j < i → l[j]? = some t → L < t.2.1 → hasB t (eKind, eNum, eView, eClient, eSerial, (eOpKind, eOpAt, eOpN, eOpData, eOpOld), (eGroupEpoch, eGroupMembers)) = true ∨ eNum ≤ t.2.2.2.1.1)) (fun iv _ => k - (intOf iv).toNat)
      case atStart => exact ⟨0, by omega, rfl, Below.refl _ _, hide (fun j t hj => by omega)⟩
      case round =>
        obtain ⟨i, hi, rfl, hbi, HM⟩ := hrel
        have hbM := hbL.trans (hbi.mono hbL.size)
        by_cases hlt : i < k
        · obtain ⟨wM, hwM⟩ : ∃ x, x = wr := ⟨_, rfl⟩
          subst hwM
          have hkI : (i : Int) < (k : Int) := by omega
          obtain ⟨t, p, cs1, ht, hAp, hI, hat, hc⟩ := hA0.at_ (by decide) (hbM.mono hz0) hlt
          subst hAp
          have hI' := hI
          obtain ⟨aNode, aNormal, aCommit, aStateNum, aStateShapeBlocks, aStateShapeSize, aStatePages, aStatePagesA, aStatePagesn, aStatePagesc, aStatePagesv, aStateRows, aStateRowsA, aStateRowsn, aStateRowsc, aStateRowsv, aStateGroupEpoch, aStateGroupMembers, aStateGroupMembersA, aStateGroupMembersn, aStateGroupMembersc, aStateGroupMembersv, aLog, aLogA, aLogn, aLogc, aLogv, rfl, rfl, h1_aNode, h2_aNode, h1_aNormal, h2_aNormal, h1_aCommit, h2_aCommit, h1_aStateNum, h2_aStateNum, h1_aStateShapeBlocks, h2_aStateShapeBlocks, h1_aStateShapeSize, h2_aStateShapeSize, hl_aStatePages, hc_aStatePages, hm_aStatePages, hr_aStatePages, hq_aStatePages, he_aStatePages, hl_aStateRows, hc_aStateRows, hm_aStateRows, hr_aStateRows, hq_aStateRows, he_aStateRows, h1_aStateGroupEpoch, h2_aStateGroupEpoch, hl_aStateGroupMembers, hc_aStateGroupMembers, hm_aStateGroupMembers, hr_aStateGroupMembers, hq_aStateGroupMembers, he_aStateGroupMembers, hl_aLog, hc_aLog, hm_aLog, hr_aLog, hq_aLog, he_aLog⟩ := Tail_out hI'
          clear hl_aStatePages hr_aStatePages hq_aStatePages he_aStatePages hl_aStateRows hr_aStateRows hq_aStateRows he_aStateRows hl_aStateGroupMembers hr_aStateGroupMembers hq_aStateGroupMembers he_aStateGroupMembers hl_aLog hr_aLog hq_aLog he_aLog
          have y0 := el_0 (n := 11) hat (hc 0 _ rfl); have y1 := el_S (n := 11) (i := 0) hat (hc 1 _ rfl); have y2 := el_S (n := 11) (i := 1) hat (hc 2 _ rfl); have y3 := el_S (n := 11) (i := 2) hat (hc 3 _ rfl); have y4 := el_S (n := 11) (i := 3) hat (hc 4 _ rfl); have y5 := el_S (n := 11) (i := 4) hat (hc 5 _ rfl); have y6 := el_S (n := 11) (i := 5) hat (hc 6 _ rfl); have y7 := el_S (n := 11) (i := 6) hat (hc 7 _ rfl); have y8 := el_S (n := 11) (i := 7) hat (hc 8 _ rfl); have y9 := el_S (n := 11) (i := 8) hat (hc 9 _ rfl); have y10 := el_S (n := 11) (i := 9) hat (hc 10 _ rfl)
          have hEM := hE0.below hbM
          have z0 := Blk.cell (hRb.below hbM) (j := 0) rfl; have z1 := Blk.cell (hRb.below hbM) (j := 1) rfl; have z2 := Blk.cell (hRb.below hbM) (j := 2) rfl; have z3 := Blk.cell (hRb.below hbM) (j := 3) rfl; have z4 := Blk.cell (hRb.below hbM) (j := 4) rfl; have z5 := Blk.cell (hRb.below hbM) (j := 5) rfl; have z6 := Blk.cell (hRb.below hbM) (j := 6) rfl; have z7 := Blk.cell (hRb.below hbM) (j := 7) rfl; have z8 := Blk.cell (hRb.below hbM) (j := 8) rfl; have z9 := Blk.cell (hRb.below hbM) (j := 9) rfl; have z10 := Blk.cell (hRb.below hbM) (j := 10) rfl; have z11 := Blk.cell (hRb.below hbM) (j := 11) rfl
          have k0 := fun (x : InC (fun W' => Below wM.heap.size wM W')) => below_cell x.h y0
          have k1 := fun (x : InC (fun W' => Below wM.heap.size wM W')) => below_cell x.h y1
          have k2 := fun (x : InC (fun W' => Below wM.heap.size wM W')) => below_cell x.h y2
          have k3 := fun (x : InC (fun W' => Below wM.heap.size wM W')) => below_cell x.h y3
          have k4 := fun (x : InC (fun W' => Below wM.heap.size wM W')) => below_cell x.h y4
          have k5 := fun (x : InC (fun W' => Below wM.heap.size wM W')) => below_cell x.h y5
          have k6 := fun (x : InC (fun W' => Below wM.heap.size wM W')) => below_cell x.h y6
          have k7 := fun (x : InC (fun W' => Below wM.heap.size wM W')) => below_cell x.h y7
          have k8 := fun (x : InC (fun W' => Below wM.heap.size wM W')) => below_cell x.h y8
          have k9 := fun (x : InC (fun W' => Below wM.heap.size wM W')) => below_cell x.h y9
          have k10 := fun (x : InC (fun W' => Below wM.heap.size wM W')) => below_cell x.h y10
          have m0 := fun (x : InC (fun W' => Below wM.heap.size wM W')) => below_cell x.h z0
          have m1 := fun (x : InC (fun W' => Below wM.heap.size wM W')) => below_cell x.h z1
          have m2 := fun (x : InC (fun W' => Below wM.heap.size wM W')) => below_cell x.h z2
          have m3 := fun (x : InC (fun W' => Below wM.heap.size wM W')) => below_cell x.h z3
          have m4 := fun (x : InC (fun W' => Below wM.heap.size wM W')) => below_cell x.h z4
          have m5 := fun (x : InC (fun W' => Below wM.heap.size wM W')) => below_cell x.h z5
          have m6 := fun (x : InC (fun W' => Below wM.heap.size wM W')) => below_cell x.h z6
          have m7 := fun (x : InC (fun W' => Below wM.heap.size wM W')) => below_cell x.h z7
          have m8 := fun (x : InC (fun W' => Below wM.heap.size wM W')) => below_cell x.h z8
          have m9 := fun (x : InC (fun W' => Below wM.heap.size wM W')) => below_cell x.h z9
          have m10 := fun (x : InC (fun W' => Below wM.heap.size wM W')) => below_cell x.h z10
          have m11 := fun (x : InC (fun W' => Below wM.heap.size wM W')) => below_cell x.h z11
          have HT := hide ht
          clear hat hc ht
          have hnx := hide (fun (h : L < aNormal → hasB (aNode, aNormal, aCommit, (aStateNum, (aStateShapeBlocks, aStateShapeSize), aStatePages, aStateRows, (aStateGroupEpoch, aStateGroupMembers)), aLog) (eKind, eNum, eView, eClient, eSerial, (eOpKind, eOpAt, eOpN, eOpData, eOpOld), (eGroupEpoch, eGroupMembers)) = true ∨ eNum ≤ aStateNum) => (show ∀ j t, j < i + 1 → l[j]? = some t → L < t.2.1 → hasB t (eKind, eNum, eView, eClient, eSerial, (eOpKind, eOpAt, eOpN, eOpData, eOpOld), (eGroupEpoch, eGroupMembers)) = true ∨ eNum ≤ t.2.2.2.1.1 from fun j t h1 h2 h3 => by
            rcases Nat.lt_or_ge j i with h' | h'
            · exact HM.out j t h' h2 h3
            · rw [show j = i by omega, HT.out] at h2
              injection h2 with h2
              rw [← h2] at h3 ⊢
              exact h h3))
          rcases bool_two (decide (L < aNormal)) with g1 | g1
          rotate_left
          · have HN3 := hide (hnx.out (fun h => absurd h (of_decide_eq_false g1)))
            clear hnx
            go_wp2_with fail
            refine wp_region_in (fun W' => Below wM.heap.size wM W') (Below.refl _ _).drew (by kernel_rfl) (by kernel_rfl) ?_
            repeat (go_big_quiet_step (first | fail))
            refine wpQuiet_nil ?_
            intro _ hw'
            obtain ⟨nq, hw''⟩ := hw'
            subst hw''
            have hbq := nq.h
            go_wp2
            go_roundw
            case rel => exact ⟨i + 1, by omega, by go_num, hbi.trans (hbq.mono hbi.size), HN3⟩
            case measure => simp [intOf]; omega
          · rcases bool_two (hasB (aNode, aNormal, aCommit, (aStateNum, (aStateShapeBlocks, aStateShapeSize), aStatePages, aStateRows, (aStateGroupEpoch, aStateGroupMembers)), aLog) (eKind, eNum, eView, eClient, eSerial, (eOpKind, eOpAt, eOpN, eOpData, eOpOld), (eGroupEpoch, eGroupMembers))) with q1 | q1
            · have HH := hide q1
              have HN3 := hide (hnx.out (fun _ => .inl q1))
              clear hnx q1
              go_wp2_with fail
              refine wp_region_in (fun W' => Below wM.heap.size wM W') (Below.refl _ _).drew (by kernel_rfl) (by kernel_rfl) ?_
              repeat (go_big_quiet_step (first
                | (go_at_call 25; have hh := fun (x : InC (fun W' => Below wM.heap.size wM W')) => holds_any (hI.below x.h) (hEM.below x.h); rw [HH.out] at hh; exact Calls.in_below (hh _))))
              refine wpQuiet_nil ?_
              intro _ hw'
              obtain ⟨nq, hw''⟩ := hw'
              subst hw''
              have hbq := nq.h
              go_wp2
              go_roundw
              case rel => exact ⟨i + 1, by omega, by go_num, hbi.trans (hbq.mono hbi.size), HN3⟩
              case measure => simp [intOf]; omega
            · have HH := hide q1
              clear q1
              rcases bool_two (decide (aStateNum < eNum)) with g2 | g2
              · clear hnx
                go_wp2_with fail
                refine wp_region_in (fun W' => Below wM.heap.size wM W') (Below.refl _ _).drew (by kernel_rfl) (by kernel_rfl) ?_
                repeat (go_big_quiet_step (first
                  | (go_at_call 25; have hh := fun (x : InC (fun W' => Below wM.heap.size wM W')) => holds_any (hI.below x.h) (hEM.below x.h); rw [HH.out] at hh; exact Calls.in_below (hh _))))
                refine wpQuiet_nil ?_
                intro _ hw'
                obtain ⟨nq, hw''⟩ := hw'
                subst hw''
                have hbq := nq.h
                go_wp2
                go_ret
                exact ⟨false, rfl, fun h => (by cases h), hb0.trans ((hbM.trans (hbq.mono hbM.size)).mono hb0.size)⟩
              · have HN3 := hide (hnx.out (fun _ => .inr (by have := of_decide_eq_false g2; omega)))
                clear hnx
                go_wp2_with fail
                refine wp_region_in (fun W' => Below wM.heap.size wM W') (Below.refl _ _).drew (by kernel_rfl) (by kernel_rfl) ?_
                repeat (go_big_quiet_step (first
                  | (go_at_call 25; have hh := fun (x : InC (fun W' => Below wM.heap.size wM W')) => holds_any (hI.below x.h) (hEM.below x.h); rw [HH.out] at hh; exact Calls.in_below (hh _))))
                refine wpQuiet_nil ?_
                intro _ hw'
                obtain ⟨nq, hw''⟩ := hw'
                subst hw''
                have hbq := nq.h
                go_wp2
                go_roundw
                case rel => exact ⟨i + 1, by omega, by go_num, hbi.trans (hbq.mono hbi.size), HN3⟩
                case measure => simp [intOf]; omega
        · obtain rfl : i = k := by omega
          have hPr := hP.below hbM
          have x0 := hPr.cell (j := 0) rfl
          have x1 := hPr.cell (j := 1) rfl
          have HRc := hide (rreached17_any ge gA gn gc ms vA q vc nodes wr Hgn.out hnl hg6 hqm (hgr0.below hbM) (hvr.below hbi))
          have HK := hide (show reachB ms nodes = true → ∃ nodes least, KeptR ms l (eKind, eNum, eView, eClient, eSerial, (eOpKind, eOpAt, eOpN, eOpData, eOpOld), (eGroupEpoch, eGroupMembers)) nodes least from fun h => ⟨nodes, L, h, HN.out, fun t ht h2 => by
            obtain ⟨j, hj, rfl⟩ := List.mem_iff_getElem.1 ht
            exact HM.out j _ (by rw [← Hl.out]; exact hj) (List.getElem?_eq_getElem hj) h2⟩)
          go_wp2_with fail
          go_fit HRc.out
          rintro xx w9 ⟨rfl, hb9⟩
          go_wp2
          go_ret
          exact ⟨_, rfl, HK.out, hb0.trans ((hbM.trans (hb9.mono hbM.size)).mono hb0.size)⟩
end Go.Proofs.Ytfjffmjnnjckkaa
