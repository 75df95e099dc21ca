/- Stage 17: rows of entries: which may be. -/
import Derived.Test.YtlcbelmbonaooaaM17
namespace Go.Proofs.Ytlcbelmbonaooaa
set_option maxRecDepth 20000
open Go.RowKit Go.Px Go.Maps
set_option linter.unusedVariables false
set_option linter.unusedSimpArgs false
theorem RowAt.go {t : Ty} {w wr : World} {B : Nat} {A : Option Addr} {n : Nat} {xs : List t.Den} {vs : List Value} (h : RowAt t w B A n xs vs) (hb : Below B w wr) : RowAt t wr B A n xs vs :=
  ⟨h.len, by
    by_cases hne : xs = []
    · have h1 := h.rows.1
      rw [hne] at h1
      exact rd_empty (List.eq_nil_of_length_eq_zero (by simpa using h1))
    · exact h.rd.lo (fun a ha => h.lo hne a ha) hb, h.rows.lo hb, h.lo⟩
/-- The step of a loop over entries. -/
theorem okAt_step {es : List EntryD} {k : Nat} {e : EntryD} (h : ∀ j, j < k → okAt es j = true) (he : es[k]? = some e) (hb : entryB e = true) :
    (num0 es + (k : Int) ≤ 4611686018427387905 ∧ 0 ≤ num0 es + (k : Int)) ∧ 1 ≤ num0 es := by
  have hk := (List.getElem?_eq_some_iff.1 he).1
  obtain ⟨f, hf⟩ : ∃ f, es[0]? = some f := ⟨_, List.getElem?_eq_getElem (by omega)⟩
  have h0 := num0_of hf
  rcases Nat.eq_zero_or_pos k with rfl | hp
  · rw [he] at hf
    injection hf with hf
    subst hf
    have := entryB_num hb
    rw [h0]
    omega
  · have hj := h (k - 1) (by omega)
    rw [okAt_of (List.getElem?_eq_getElem (by omega : k - 1 < es.length)), Bool.and_eq_true, beq_iff_eq] at hj
    have h1 := entryB_num hj.1
    have hj0 := h 0 (by omega)
    rw [okAt_of hf, Bool.and_eq_true, beq_iff_eq] at hj0
    have h2 := entryB_num hj0.1
    rw [h0]
    have := hj.2
    rw [h0] at this
    omega
set_option maxRecDepth 20000 in
set_option maxHeartbeats 3200000 in
theorem mayEntries_any {w : World} {B : Nat} {A : Option Addr} {n c : Nat} {es : List EntryD} {vs : List Value} (hA : RowAt tyEntry w B A n es vs) (hB : B ≤ w.heap.size) (h63 : n ≤ 9223372036854775807) :
    Calls Try.prog 68 #[.slice A n c] w fun x w' => x = .returned (.bool (entsB es)) ∧ Below w.heap.size w w' := by
  have Hl := hide hA.len
  go_enter Try.func68, Try.ntmps68
  go_wp2
  go_loopw [7] (fun iv wr => ∃ k : Nat, k ≤ n ∧ iv = .int .i64 k ∧ Below w.heap.size w wr ∧ Hid (∀ j, j < k → okAt es j = true)) (fun iv _ => n - (intOf iv).toNat)
  case atStart => exact ⟨0, by omega, rfl, Below.refl _ _, hide (fun j hj => by omega)⟩
  case round =>
    obtain ⟨k, hk, rfl, hb, HK⟩ := hrel
    by_cases hlt : k < n
    · have hkI : (k : Int) < (n : Int) := by omega
      have hnI : (0 : Int) < (n : Int) := by omega
      obtain ⟨e, p, cs, he, hAp, hI, hat, hc⟩ := hA.at_ (by decide) (hb.mono hB) hlt
      obtain ⟨f, p0, ds, hf, hAp0, hJ, hat0, hc0⟩ := hA.at_ (by decide) (hb.mono hB) (show 0 < n by omega)
      subst hAp
      injection hAp0 with hAp0
      subst hAp0
      have hst := hide (fun (hb : entryB e = true) => okAt_step HK.out he hb)
      have hon := hide (fun (h : okAt es k = true) => (show ∀ j, j < k + 1 → okAt es j = true from fun j hj => by
        rcases Nat.lt_or_ge j k with h' | h'
        · exact HK.out j h'
        · rw [show j = k by omega]; exact h))
      have hbad := hide (fun (h : okAt es k = false) => entsB_bad (by rw [Hl.out]; exact hlt) h)
      have hok := hide (okAt_of he)
      have hf0 := hide (num0_of hf)
      have hI' := hI
      have hJ' := hJ
      obtain ⟨eKind, eNum, eView, eClient, eSerial, eOpKind, eOpAt, eOpN, eOpData, eOpDataA, eOpDatan, eOpDatac, eOpOld, eOpOldA, eOpOldn, eOpOldc, eGroupEpoch, eGroupMembers, eGroupMembersA, eGroupMembersn, eGroupMembersc, eGroupMembersv, rfl, rfl, hu_eKind, h1_eNum, h2_eNum, h1_eView, h2_eView, h1_eClient, h2_eClient, h1_eSerial, h2_eSerial, hu_eOpKind, h1_eOpAt, h2_eOpAt, h1_eOpN, h2_eOpN, hl_eOpData, hc_eOpData, hm_eOpData, hr_eOpData, hq_eOpData, hl_eOpOld, hc_eOpOld, hm_eOpOld, hr_eOpOld, hq_eOpOld, h1_eGroupEpoch, h2_eGroupEpoch, hl_eGroupMembers, hc_eGroupMembers, hm_eGroupMembers, hr_eGroupMembers, hq_eGroupMembers, he_eGroupMembers⟩ := Entry_out hI'
      have hfn : ∃ N : Int, f.2.1 = N ∧ ds[1]? = some (.int .i64 N) := by
        obtain ⟨fKind, fNum, fView, fClient, fSerial, fOpKind, fOpAt, fOpN, fOpData, fOpDataA, fOpDatan, fOpDatac, fOpOld, fOpOldA, fOpOldn, fOpOldc, fGroupEpoch, fGroupMembers, fGroupMembersA, fGroupMembersn, fGroupMembersc, fGroupMembersv, rfl, rfl, hu_fKind, h1_fNum, h2_fNum, h1_fView, h2_fView, h1_fClient, h2_fClient, h1_fSerial, h2_fSerial, hu_fOpKind, h1_fOpAt, h2_fOpAt, h1_fOpN, h2_fOpN, hl_fOpData, hc_fOpData, hm_fOpData, hr_fOpData, hq_fOpData, hl_fOpOld, hc_fOpOld, hm_fOpOld, hr_fOpOld, hq_fOpOld, h1_fGroupEpoch, h2_fGroupEpoch, hl_fGroupMembers, hc_fGroupMembers, hm_fGroupMembers, hr_fGroupMembers, hq_fGroupMembers, he_fGroupMembers⟩ := Entry_out hJ'
        exact ⟨_, rfl, rfl⟩
      obtain ⟨N, hN, hdN⟩ := hfn
      have yf := el_0S (n := 12) (i := 0) hat0 (hc0 1 _ hdN)
      have y0 := el_0 (n := 12) hat (hc 0 _ rfl); have y1 := el_S (n := 12) (i := 0) hat (hc 1 _ rfl); have y2 := el_S (n := 12) (i := 1) hat (hc 2 _ rfl); have y3 := el_S (n := 12) (i := 2) hat (hc 3 _ rfl); have y4 := el_S (n := 12) (i := 3) hat (hc 4 _ rfl); have y5 := el_S (n := 12) (i := 4) hat (hc 5 _ rfl); have y6 := el_S (n := 12) (i := 5) hat (hc 6 _ rfl); have y7 := el_S (n := 12) (i := 6) hat (hc 7 _ rfl); have y8 := el_S (n := 12) (i := 7) hat (hc 8 _ rfl); have y9 := el_S (n := 12) (i := 8) hat (hc 9 _ rfl); have y10 := el_S (n := 12) (i := 9) hat (hc 10 _ rfl); have y11 := el_S (n := 12) (i := 10) hat (hc 11 _ rfl)
      have hst := hide (fun hb => (by have := hst.out hb; rw [hf0.out, hN] at this; exact this : (N + (k : Int) ≤ 4611686018427387905 ∧ 0 ≤ N + (k : Int)) ∧ 1 ≤ N))
      have hok := hide (by have := hok.out; rw [hf0.out, hN] at this; exact this : okAt es k = (entryB (eKind, eNum, eView, eClient, eSerial, (eOpKind, eOpAt, eOpN, eOpData, eOpOld), (eGroupEpoch, eGroupMembers)) && (eNum == N + (k : Int))))
      obtain ⟨gE, hgE⟩ : ∃ x, wr.heap.size = x := ⟨_, rfl⟩
      obtain ⟨wA, hwA⟩ : ∃ x, wr.alloc (.cells #[.int .u8 eKind, .int .i64 eNum, .int .i64 eView, .int .i64 eClient, .int .i64 eSerial, .int .u8 eOpKind, .int .i64 eOpAt, .int .i64 eOpN, .slice eOpDataA eOpDatan eOpDatac, .slice eOpOldA eOpOldn eOpOldc, .int .i64 eGroupEpoch, .slice eGroupMembersA eGroupMembersn eGroupMembersc] 114) = x := ⟨_, rfl⟩
      have hX : Blk wA gE [.int .u8 eKind, .int .i64 eNum, .int .i64 eView, .int .i64 eClient, .int .i64 eSerial, .int .u8 eOpKind, .int .i64 eOpAt, .int .i64 eOpN, .slice eOpDataA eOpDatan eOpDatac, .slice eOpOldA eOpOldn eOpOldc, .int .i64 eGroupEpoch, .slice eGroupMembersA eGroupMembersn eGroupMembersc] 114 := by rw [← hwA, ← hgE]; exact Blk.new wr [.int .u8 eKind, .int .i64 eNum, .int .i64 eView, .int .i64 eClient, .int .i64 eSerial, .int .u8 eOpKind, .int .i64 eOpAt, .int .i64 eOpN, .slice eOpDataA eOpDatan eOpDatac, .slice eOpOldA eOpOldn eOpOldc, .int .i64 eGroupEpoch, .slice eGroupMembersA eGroupMembersn eGroupMembersc] _
      have hbA : Below wr.heap.size wr wA := by rw [← hwA]; exact (Below.refl _ _).alloc (Nat.le_refl _) _
      have HIn := hide (fun W (hW : Below wA.heap.size wA W) => mayEntry_any ((hI.below hbA).below hW))
      have Hb := hide (fun X (hX : Below wA.heap.size wA X) => hb.trans ((hbA.trans (hX.mono hbA.size)).mono hb.size))
      have yf' := below_cell hbA yf
      have zf := fun (x : InC (fun W' => Below wA.heap.size wA W')) => below_cell x.h yf'
      have z0 := fun (x : InC (fun W' => Below wA.heap.size wA W')) => below_cell x.h (hX.cell (j := 0) rfl)
      have z1 := fun (x : InC (fun W' => Below wA.heap.size wA W')) => below_cell x.h (hX.cell (j := 1) rfl)
      have z2 := fun (x : InC (fun W' => Below wA.heap.size wA W')) => below_cell x.h (hX.cell (j := 2) rfl)
      have z3 := fun (x : InC (fun W' => Below wA.heap.size wA W')) => below_cell x.h (hX.cell (j := 3) rfl)
      have z4 := fun (x : InC (fun W' => Below wA.heap.size wA W')) => below_cell x.h (hX.cell (j := 4) rfl)
      have z5 := fun (x : InC (fun W' => Below wA.heap.size wA W')) => below_cell x.h (hX.cell (j := 5) rfl)
      have z6 := fun (x : InC (fun W' => Below wA.heap.size wA W')) => below_cell x.h (hX.cell (j := 6) rfl)
      have z7 := fun (x : InC (fun W' => Below wA.heap.size wA W')) => below_cell x.h (hX.cell (j := 7) rfl)
      have z8 := fun (x : InC (fun W' => Below wA.heap.size wA W')) => below_cell x.h (hX.cell (j := 8) rfl)
      have z9 := fun (x : InC (fun W' => Below wA.heap.size wA W')) => below_cell x.h (hX.cell (j := 9) rfl)
      have z10 := fun (x : InC (fun W' => Below wA.heap.size wA W')) => below_cell x.h (hX.cell (j := 10) rfl)
      have z11 := fun (x : InC (fun W' => Below wA.heap.size wA W')) => below_cell x.h (hX.cell (j := 11) rfl)
      have HwA := hide hwA
      have HgE := hide hgE
      clear hwA hI hJ hat hat0 hc hc0 hX hgE hf0 hf hdN hN hl_eOpData hl_eOpOld hl_eGroupMembers hq_eOpData hq_eOpOld hq_eGroupMembers he_eGroupMembers hr_eOpData hr_eOpOld hr_eGroupMembers
      cases hB1 : entryB (eKind, eNum, eView, eClient, eSerial, (eOpKind, eOpAt, eOpN, eOpData, eOpOld), (eGroupEpoch, eGroupMembers)) with
      | false =>
        have HF := hide (hbad.out (by rw [hok.out, hB1]; rfl))
        have HB1 := hide hB1
        clear hB1 hst hok hbad hon he
        go_wp2_with fail
        rw [HwA.out, HgE.out]
        refine wp_region_in (fun W' => Below wA.heap.size wA W') (Below.refl _ _).drew (by kernel_rfl) (by kernel_rfl) ?_
        repeat (go_big_quiet_step (first
          | (go_at_call 90; have hh := fun (x : InC (fun W' => Below wA.heap.size wA W')) => HIn.out x.W x.h; rw [HB1.out] at hh; exact Calls.in_below (hh _))))
        refine wpQuiet_nil ?_
        intro _ hw'
        obtain ⟨nq, hw''⟩ := hw'
        subst hw''
        have hbq := nq.h
        go_wp2
        go_ret
        exact ⟨by rw [HF.out]; rfl, Hb.out _ hbq⟩
      | true =>
        obtain ⟨⟨b1, b2⟩, b3⟩ := hst.out hB1
        have g4 : IntKind.i64.wrap (N + (k : Int)) = N + (k : Int) := IntWalk.i64_in _ (by omega)
        obtain ⟨M, hM⟩ : ∃ M, N + (k : Int) = M := ⟨_, rfl⟩
        rw [hM] at g4
        have hok := hide (by have := hok.out; rw [hM, hB1, Bool.true_and] at this; exact this : okAt es k = (eNum == M))
        have HM := hide hM
        have HB1 := hide hB1
        clear hB1 hst b1 b2 b3 he hM
        rcases bool_two (eNum == M) with q | q
        · have HN := hide (hon.out (by rw [hok.out, q]))
          have q2 : (eNum != M) = false := by simp only [bne, q]; rfl
          clear hok hbad hon q
          go_wp2_with fail
          rw [HwA.out, HgE.out]
          rw [← HM.out] at g4 q2
          refine wp_region_in (fun W' => Below wA.heap.size wA W') (Below.refl _ _).drew (by kernel_rfl) (by kernel_rfl) ?_
          repeat (go_big_quiet_step (first
            | (go_at_call 90; have hh := fun (x : InC (fun W' => Below wA.heap.size wA W')) => HIn.out x.W x.h; rw [HB1.out] at hh; exact Calls.in_below (hh _))))
          refine wpQuiet_nil ?_
          intro _ hw'
          obtain ⟨nq, hw''⟩ := hw'
          subst hw''
          have hbq := nq.h
          go_wp2
          go_roundw
          case rel => exact ⟨k + 1, by omega, by go_num, Hb.out _ hbq, HN⟩
          case measure => simp [intOf]; omega
        · have HF := hide (hbad.out (by rw [hok.out, q]))
          have q2 : (eNum != M) = true := by simp only [bne, q]; rfl
          clear hok hbad hon q
          go_wp2_with fail
          rw [HwA.out, HgE.out]
          rw [← HM.out] at g4 q2
          refine wp_region_in (fun W' => Below wA.heap.size wA W') (Below.refl _ _).drew (by kernel_rfl) (by kernel_rfl) ?_
          repeat (go_big_quiet_step (first
            | (go_at_call 90; have hh := fun (x : InC (fun W' => Below wA.heap.size wA W')) => HIn.out x.W x.h; rw [HB1.out] at hh; exact Calls.in_below (hh _))))
          refine wpQuiet_nil ?_
          intro _ hw'
          obtain ⟨nq, hw''⟩ := hw'
          subst hw''
          have hbq := nq.h
          go_wp2
          go_ret
          exact ⟨by rw [HF.out]; rfl, Hb.out _ hbq⟩
    · obtain rfl : k = n := by omega
      have HF := hide (entsB_ok (fun j hj => HK.out j (by rw [← Hl.out]; exact hj)))
      go_wp2
      go_ret
      exact ⟨by rw [HF.out]; rfl, hb⟩
end Go.Proofs.Ytlcbelmbonaooaa
