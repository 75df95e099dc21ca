/- Stage 17: plinthref15.Row (written by gen_17a.py). -/
import Derived.Test.YtlcbelmbonaooaaF17a
namespace Go.Proofs.Ytlcbelmbonaooaa
set_option maxRecDepth 20000
open Go.RowKit Go.Px Go.Maps
set_option linter.unusedVariables false
set_option linter.unusedSimpArgs false
set_option maxRecDepth 20000 in
set_option maxHeartbeats 3200000 in
theorem rrow15_any {w : World} {B : Nat} {A : Option Addr} {n c : Nat} {es : List EntryD} {vs : List Value} (hA : RowAt tyEntry w B A n es vs) (hB : B ≤ w.heap.size) (h63 : n ≤ 9223372036854775807) :
    Calls Try.prog 74 #[.slice A n c] w fun x w' => x = .returned (.bool (entsB es)) ∧ Below w.heap.size w w' := by
  have Hl := hide hA.len
  go_enter Try.func74, Try.ntmps74
  go_wp2
  go_loopw [3] (fun iv wr => ∃ k : Nat, k ≤ n ∧ iv = .int .i64 k ∧ Below w.heap.size w wr ∧ Hid (∀ j, j < k → okAt es j = true)) (fun iv _ => n - (intOf iv).toNat)
  case atStart => exact ⟨0, by omega, rfl, Below.refl _ _, hide (fun j hj => by omega)⟩
  case round =>
    obtain ⟨k, hk, rfl, hb, HK⟩ := hrel
    by_cases hlt : k < n
    · have hkI : (k : Int) < (n : Int) := by omega
      have hnI : (0 : Int) < (n : Int) := by omega
      obtain ⟨e, p, cs, he, hAp, hI, hat, hc⟩ := hA.at_ (by decide) (hb.mono hB) hlt
      obtain ⟨f, p0, ds, hf, hAp0, hJ, hat0, hc0⟩ := hA.at_ (by decide) (hb.mono hB) (show 0 < n by omega)
      subst hAp
      injection hAp0 with hAp0
      subst hAp0
      have hst := hide (fun (hb : entryB e = true) => okAt_step HK.out he hb)
      have hon := hide (fun (h : okAt es k = true) => (show ∀ j, j < k + 1 → okAt es j = true from fun j hj => by
        rcases Nat.lt_or_ge j k with h' | h'
        · exact HK.out j h'
        · rw [show j = k by omega]; exact h))
      have hbad := hide (fun (h : okAt es k = false) => entsB_bad (by rw [Hl.out]; exact hlt) h)
      have hok := hide (okAt_of he)
      have hf0 := hide (num0_of hf)
      have hI' := hI
      have hJ' := hJ
      obtain ⟨eKind, eNum, eView, eClient, eSerial, eOpKind, eOpAt, eOpN, eOpData, eOpDataA, eOpDatan, eOpDatac, eOpOld, eOpOldA, eOpOldn, eOpOldc, eGroupEpoch, eGroupMembers, eGroupMembersA, eGroupMembersn, eGroupMembersc, eGroupMembersv, rfl, rfl, hu_eKind, h1_eNum, h2_eNum, h1_eView, h2_eView, h1_eClient, h2_eClient, h1_eSerial, h2_eSerial, hu_eOpKind, h1_eOpAt, h2_eOpAt, h1_eOpN, h2_eOpN, hl_eOpData, hc_eOpData, hm_eOpData, hr_eOpData, hq_eOpData, hl_eOpOld, hc_eOpOld, hm_eOpOld, hr_eOpOld, hq_eOpOld, h1_eGroupEpoch, h2_eGroupEpoch, hl_eGroupMembers, hc_eGroupMembers, hm_eGroupMembers, hr_eGroupMembers, hq_eGroupMembers, he_eGroupMembers⟩ := Entry_out hI'
      have hfn : ∃ N : Int, f.2.1 = N ∧ ds[1]? = some (.int .i64 N) := by
        obtain ⟨fKind, fNum, fView, fClient, fSerial, fOpKind, fOpAt, fOpN, fOpData, fOpDataA, fOpDatan, fOpDatac, fOpOld, fOpOldA, fOpOldn, fOpOldc, fGroupEpoch, fGroupMembers, fGroupMembersA, fGroupMembersn, fGroupMembersc, fGroupMembersv, rfl, rfl, hu_fKind, h1_fNum, h2_fNum, h1_fView, h2_fView, h1_fClient, h2_fClient, h1_fSerial, h2_fSerial, hu_fOpKind, h1_fOpAt, h2_fOpAt, h1_fOpN, h2_fOpN, hl_fOpData, hc_fOpData, hm_fOpData, hr_fOpData, hq_fOpData, hl_fOpOld, hc_fOpOld, hm_fOpOld, hr_fOpOld, hq_fOpOld, h1_fGroupEpoch, h2_fGroupEpoch, hl_fGroupMembers, hc_fGroupMembers, hm_fGroupMembers, hr_fGroupMembers, hq_fGroupMembers, he_fGroupMembers⟩ := Entry_out hJ'
        exact ⟨_, rfl, rfl⟩
      obtain ⟨N, hN, hdN⟩ := hfn
      have yf := el_0S (n := 12) (i := 0) hat0 (hc0 1 _ hdN)
      have y0 := el_0 (n := 12) hat (hc 0 _ rfl); have y1 := el_S (n := 12) (i := 0) hat (hc 1 _ rfl); have y2 := el_S (n := 12) (i := 1) hat (hc 2 _ rfl); have y3 := el_S (n := 12) (i := 2) hat (hc 3 _ rfl); have y4 := el_S (n := 12) (i := 3) hat (hc 4 _ rfl); have y5 := el_S (n := 12) (i := 4) hat (hc 5 _ rfl); have y6 := el_S (n := 12) (i := 5) hat (hc 6 _ rfl); have y7 := el_S (n := 12) (i := 6) hat (hc 7 _ rfl); have y8 := el_S (n := 12) (i := 7) hat (hc 8 _ rfl); have y9 := el_S (n := 12) (i := 8) hat (hc 9 _ rfl); have y10 := el_S (n := 12) (i := 9) hat (hc 10 _ rfl); have y11 := el_S (n := 12) (i := 10) hat (hc 11 _ rfl)
      have hst := hide (fun hb => (by have := hst.out hb; rw [hf0.out, hN] at this; exact this : (N + (k : Int) ≤ 4611686018427387905 ∧ 0 ≤ N + (k : Int)) ∧ 1 ≤ N))
      have hok := hide (by have := hok.out; rw [hf0.out, hN] at this; exact this : okAt es k = (entryB (eKind, eNum, eView, eClient, eSerial, (eOpKind, eOpAt, eOpN, eOpData, eOpOld), (eGroupEpoch, eGroupMembers)) && (eNum == N + (k : Int))))
      have HIn := hide (fun W (hW : Below wr.heap.size wr W) => rentry_any (hI.below hW))
      have Hb := hide (fun X (hX : Below wr.heap.size wr X) => hb.trans (hX.mono hb.size))
      have z0 := fun (x : InC (fun W' => Below wr.heap.size wr W')) => below_cell x.h y0
      have z1 := fun (x : InC (fun W' => Below wr.heap.size wr W')) => below_cell x.h y1
      have z2 := fun (x : InC (fun W' => Below wr.heap.size wr W')) => below_cell x.h y2
      have z3 := fun (x : InC (fun W' => Below wr.heap.size wr W')) => below_cell x.h y3
      have z4 := fun (x : InC (fun W' => Below wr.heap.size wr W')) => below_cell x.h y4
      have z5 := fun (x : InC (fun W' => Below wr.heap.size wr W')) => below_cell x.h y5
      have z6 := fun (x : InC (fun W' => Below wr.heap.size wr W')) => below_cell x.h y6
      have z7 := fun (x : InC (fun W' => Below wr.heap.size wr W')) => below_cell x.h y7
      have z8 := fun (x : InC (fun W' => Below wr.heap.size wr W')) => below_cell x.h y8
      have z9 := fun (x : InC (fun W' => Below wr.heap.size wr W')) => below_cell x.h y9
      have z10 := fun (x : InC (fun W' => Below wr.heap.size wr W')) => below_cell x.h y10
      have z11 := fun (x : InC (fun W' => Below wr.heap.size wr W')) => below_cell x.h y11
      have hk0 : k = 0 → eNum = N := fun h0 => by
        subst h0
        rw [he] at hf
        injection hf with hf
        rw [← hN, ← hf]
      have hgp : 0 < k → ∃ G : Int, G = N + ((k - 1 : Nat) : Int) ∧ wr.cell? ⟨(p.add ((k - 1) * 12)).block, (p.add ((k - 1) * 12)).off + (0 + 1), none⟩ = some (.int .i64 G) := fun hkp => by
        obtain ⟨g, p1, gs, hg, hAp1, hG, hat1, hc1⟩ := hA.at_ (by decide) (hb.mono hB) (show k - 1 < n by omega)
        injection hAp1 with hAp1
        subst hAp1
        have hj := HK.out (k - 1) (by omega)
        rw [okAt_of hg, Bool.and_eq_true, beq_iff_eq, hf0.out, hN] at hj
        obtain ⟨gKind, gNum, gView, gClient, gSerial, gOpKind, gOpAt, gOpN, gOpData, gOpDataA, gOpDatan, gOpDatac, gOpOld, gOpOldA, gOpOldn, gOpOldc, gGroupEpoch, gGroupMembers, gGroupMembersA, gGroupMembersn, gGroupMembersc, gGroupMembersv, rfl, rfl, hu_gKind, h1_gNum, h2_gNum, h1_gView, h2_gView, h1_gClient, h2_gClient, h1_gSerial, h2_gSerial, hu_gOpKind, h1_gOpAt, h2_gOpAt, h1_gOpN, h2_gOpN, hl_gOpData, hc_gOpData, hm_gOpData, hr_gOpData, hq_gOpData, hl_gOpOld, hc_gOpOld, hm_gOpOld, hr_gOpOld, hq_gOpOld, h1_gGroupEpoch, h2_gGroupEpoch, hl_gGroupMembers, hc_gGroupMembers, hm_gGroupMembers, hr_gGroupMembers, hq_gGroupMembers, he_gGroupMembers⟩ := Entry_out hG
        exact ⟨gNum, hj.2, el_S (n := 12) (i := 0) hat1 (hc1 1 _ rfl)⟩
      clear hI hJ hat hat0 hc hc0 hf0 hf hdN hN hl_eOpData hl_eOpOld hl_eGroupMembers hq_eOpData hq_eOpOld hq_eGroupMembers he_eGroupMembers hr_eOpData hr_eOpOld hr_eGroupMembers
      cases hB1 : entryB (eKind, eNum, eView, eClient, eSerial, (eOpKind, eOpAt, eOpN, eOpData, eOpOld), (eGroupEpoch, eGroupMembers)) with
      | false =>
        have HF := hide (hbad.out (by rw [hok.out, hB1]; rfl))
        have HB1 := hide (enE_no hB1)
        clear hB1 hst hok hbad hon he hk0 hgp
        go_wp2_with fail
        refine wp_region_in (fun W' => Below wr.heap.size wr W') (Below.refl _ _).drew (by kernel_rfl) (by kernel_rfl) ?_
        repeat (go_big_quiet_step (first
          | (go_at_call 93; have hh := fun (x : InC (fun W' => Below wr.heap.size wr W')) => HIn.out x.W x.h; rw [HB1.out] at hh; exact Calls.in_below (hh _))))
        refine wpQuiet_nil ?_
        intro _ hw'
        obtain ⟨nq, hw''⟩ := hw'
        subst hw''
        have hbq := nq.h
        go_wp2
        go_ret
        exact ⟨by rw [HF.out]; rfl, Hb.out _ hbq⟩
      | true =>
        obtain ⟨⟨b1, b2⟩, b3⟩ := hst.out hB1
        have b4 := entryB_num hB1
        have hok := hide (by have := hok.out; rw [hB1, Bool.true_and] at this; exact this : okAt es k = (eNum == N + (k : Int)))
        have HB1 := hide (enE_ok hB1)
        simp only at b4
        clear hB1 hst he
        by_cases hkz : k = 0
        · have hn0 := hk0 hkz
          have HN := hide (hon.out (by rw [hok.out, hn0, hkz]; simp))
          have g1 : decide (0 < k) = false := decide_eq_false (by omega)
          clear hok hbad hon hk0 hgp hn0 hkz
          go_wp2_with fail
          refine wp_region_in (fun W' => Below wr.heap.size wr W') (Below.refl _ _).drew (by kernel_rfl) (by kernel_rfl) ?_
          repeat (go_big_quiet_step (first
            | (go_at_call 93; have hh := fun (x : InC (fun W' => Below wr.heap.size wr W')) => HIn.out x.W x.h; rw [HB1.out] at hh; exact Calls.in_below (hh _))))
          refine wpQuiet_nil ?_
          intro _ hw'
          obtain ⟨nq, hw''⟩ := hw'
          subst hw''
          have hbq := nq.h
          go_wp2
          go_roundw
          case rel => exact ⟨k + 1, by omega, by go_num, Hb.out _ hbq, HN⟩
          case measure => simp [intOf]; omega
        · obtain ⟨G, hG, yg⟩ := hgp (by omega)
          have g1 : decide (0 < k) = true := decide_eq_true (by omega)
          have g2 : (0 : Int) < (k : Int) := by omega
          have g3 : ((k : Int) - 1).toNat = k - 1 := by omega
          have g4 : IntKind.i64.wrap ((k : Int) - 1) = (k : Int) - 1 := IntWalk.i64_in _ (by omega)
          have g5 : (0 : Int) ≤ (k : Int) - 1 := by omega
          have g6 : (k : Int) - 1 < (n : Int) := by omega
          have g7 : IntKind.i64.wrap (eNum - 1) = eNum - 1 := IntWalk.i64_in _ (by omega)
          have zg := fun (x : InC (fun W' => Below wr.heap.size wr W')) => below_cell x.h yg
          obtain ⟨M, hM⟩ : ∃ M, eNum - 1 = M := ⟨_, rfl⟩
          have HQ := hide (show (eNum == N + (k : Int)) = (M == G) by
            rw [← hM, hG]
            by_cases e0 : eNum = N + (k : Int)
            · rw [e0]
              have : N + (k : Int) - 1 = N + ((k - 1 : Nat) : Int) := by omega
              rw [this]; simp
            · have : ¬ eNum - 1 = N + ((k - 1 : Nat) : Int) := by omega
              rw [beq_eq_false_iff_ne.2 e0, beq_eq_false_iff_ne.2 this])
          have HM := hide hM
          rw [hM] at g7
          clear hG yg hk0 hgp hkz b1 b2 b3 b4 hM
          rcases bool_two (M == G) with q | q
          · have HN := hide (hon.out (by rw [hok.out, HQ.out, q]))
            have q2 : (M != G) = false := by simp only [bne, q]; rfl
            rw [← HM.out] at g7 q2
            clear hok hbad hon q HQ
            go_wp2_with fail
            refine wp_region_in (fun W' => Below wr.heap.size wr W') (Below.refl _ _).drew (by kernel_rfl) (by kernel_rfl) ?_
            repeat (go_big_quiet_step (first
              | (go_at_call 93; have hh := fun (x : InC (fun W' => Below wr.heap.size wr W')) => HIn.out x.W x.h; rw [HB1.out] at hh; exact Calls.in_below (hh _))))
            refine wpQuiet_nil ?_
            intro _ hw'
            obtain ⟨nq, hw''⟩ := hw'
            subst hw''
            have hbq := nq.h
            go_wp2
            go_roundw
            case rel => exact ⟨k + 1, by omega, by go_num, Hb.out _ hbq, HN⟩
            case measure => simp [intOf]; omega
          · have HF := hide (hbad.out (by rw [hok.out, HQ.out, q]))
            have q2 : (M != G) = true := by simp only [bne, q]; rfl
            rw [← HM.out] at g7 q2
            clear hok hbad hon q HQ
            go_wp2_with fail
            refine wp_region_in (fun W' => Below wr.heap.size wr W') (Below.refl _ _).drew (by kernel_rfl) (by kernel_rfl) ?_
            repeat (go_big_quiet_step (first
              | (go_at_call 93; have hh := fun (x : InC (fun W' => Below wr.heap.size wr W')) => HIn.out x.W x.h; rw [HB1.out] at hh; exact Calls.in_below (hh _))))
            refine wpQuiet_nil ?_
            intro _ hw'
            obtain ⟨nq, hw''⟩ := hw'
            subst hw''
            have hbq := nq.h
            go_wp2
            go_ret
            exact ⟨by rw [HF.out]; rfl, Hb.out _ hbq⟩
    · obtain rfl : k = n := by omega
      have HF := hide (entsB_ok (fun j hj => HK.out j (by rw [← Hl.out]; exact hj)))
      go_wp2
      go_ret
      exact ⟨by rw [HF.out]; rfl, hb⟩
end Go.Proofs.Ytlcbelmbonaooaa
