/- Stage 17: the law ChooseKeeps (written by gen_17j.py). -/
import Derived.Test.YtfjffmjnnjckkaaF17n
import Derived.Test.YtfjffmjnnjckkaaF17l
import Derived.Deep.CutRange
namespace Go.Proofs.Ytfjffmjnnjckkaa
set_option maxRecDepth 20000
open Go.RowKit Go.Px Go.Maps
set_option linter.unusedVariables false
set_option linter.unusedSimpArgs false
theorem grp_len17 {e : Int} {ms : List Int} (h : grpOk e ms = true) : 1 ≤ ms.length ∧ ms.length ≤ 9 := by
  unfold grpOk at h
  simp only [Bool.and_eq_true, decide_eq_true_eq] at h
  exact h.2.1
theorem tTails : SlT Try.prog 35 33 11 152 := slT_mk Try.underlying35 (z := .agg #[.int .i64 0, .int .i64 0, .int .i64 0, .int .i64 0, .int .i64 0, .int .i64 0, .slice none 0 0, .slice none 0 0, .int .i64 0, .slice none 0 0, .slice none 0 0]) (by kernel_rfl) rfl (by decide)
set_option maxRecDepth 20000 in
set_option maxHeartbeats 51200000 in
theorem chooseKeeps_walk {w : World} {Q : Nat → Prop} (ge : Int) (gA : Option Addr) (gn gc : Nat) (ms : List Int) {A : Option Addr} {n c : Nat} {l : List TailD} {vs : List Value} (fA : Option Addr) (fn fc : Nat) (frm : List Int) {y : EntryD} {ds : List Value} (hgn : ms.length = gn) (hgr : Rd w gA (ints ms)) (hA : RowAt tyTail w w.heap.size A n l vs) (h8 : n ≤ 925904528626) (hfn : frm.length = fn) (hf63 : fn ≤ 9223372036854775807) (hfr : Rd w fA (ints frm)) (hE : tyEntry.Is w Q y ds) :
    Calls Try.prog 5 #[grp ge gA gn gc, .slice A n c, .slice fA fn fc, .agg ds.toArray] w fun x w' => x = .returned (.bool true) ∧ Below w.heap.size w w' := by
  obtain ⟨B, hBw⟩ : ∃ B, w.heap.size = B := ⟨_, rfl⟩
  rw [hBw] at hA
  have Hl := hide hA.len
  have hE9 := hE
  obtain ⟨eKind, eNum, eView, eClient, eSerial, eOpKind, eOpAt, eOpN, eOpData, eOpDataA, eOpDatan, eOpDatac, eOpOld, eOpOldA, eOpOldn, eOpOldc, eGroupEpoch, eGroupMembers, eGroupMembersA, eGroupMembersn, eGroupMembersc, eGroupMembersv, rfl, rfl, hu_eKind, h1_eNum, h2_eNum, h1_eView, h2_eView, h1_eClient, h2_eClient, h1_eSerial, h2_eSerial, hu_eOpKind, h1_eOpAt, h2_eOpAt, h1_eOpN, h2_eOpN, hl_eOpData, hc_eOpData, hm_eOpData, hr_eOpData, hq_eOpData, hl_eOpOld, hc_eOpOld, hm_eOpOld, hr_eOpOld, hq_eOpOld, h1_eGroupEpoch, h2_eGroupEpoch, hl_eGroupMembers, hc_eGroupMembers, hm_eGroupMembers, hr_eGroupMembers, hq_eGroupMembers, he_eGroupMembers⟩ := Entry_out hE
  clear hl_eOpData hr_eOpData hq_eOpData hl_eOpOld hr_eOpOld hq_eOpOld hl_eGroupMembers hr_eGroupMembers hq_eGroupMembers he_eGroupMembers
  obtain ⟨w0, hw0⟩ : ∃ x, (w.alloc (.cells #[.int .i64 ge, .slice gA gn gc] 28)).alloc (.cells #[.int .u8 eKind, .int .i64 eNum, .int .i64 eView, .int .i64 eClient, .int .i64 eSerial, .int .u8 eOpKind, .int .i64 eOpAt, .int .i64 eOpN, .slice eOpDataA eOpDatan eOpDatac, .slice eOpOldA eOpOldn eOpOldc, .int .i64 eGroupEpoch, .slice eGroupMembersA eGroupMembersn eGroupMembersc] 58) = x := ⟨_, rfl⟩
  have hP : Blk w0 B [.int .i64 ge, .slice gA gn gc] 28 := by rw [← hw0, ← hBw]; exact (Blk.new w [.int .i64 ge, .slice gA gn gc] _).alloc _
  have hRb : Blk w0 (B + 1) [.int .u8 eKind, .int .i64 eNum, .int .i64 eView, .int .i64 eClient, .int .i64 eSerial, .int .u8 eOpKind, .int .i64 eOpAt, .int .i64 eOpN, .slice eOpDataA eOpDatan eOpDatac, .slice eOpOldA eOpOldn eOpOldc, .int .i64 eGroupEpoch, .slice eGroupMembersA eGroupMembersn eGroupMembersc] 58 := by
    rw [← hw0, ← hBw]
    have := Blk.new (w.alloc (.cells #[.int .i64 ge, .slice gA gn gc] 28)) [.int .u8 eKind, .int .i64 eNum, .int .i64 eView, .int .i64 eClient, .int .i64 eSerial, .int .u8 eOpKind, .int .i64 eOpAt, .int .i64 eOpN, .slice eOpDataA eOpDatan eOpDatac, .slice eOpOldA eOpOldn eOpOldc, .int .i64 eGroupEpoch, .slice eGroupMembersA eGroupMembersn eGroupMembersc] 58
    rwa [World.size_alloc] at this
  have hb0 : Below w.heap.size w w0 := by rw [← hw0]; exact ((Below.refl _ _).alloc (Nat.le_refl _) _).alloc (by simp) _
  have Hw0 := hide hw0
  have Hgn := hide hgn
  have Hfn := hide hfn
  have HB := hide hBw
  clear hw0 hgn hfn
  go_enter Try.func5, Try.ntmps5
  go_wp2_with fail
  rw [Hw0.out]
  go_fit (awake17_any w0)
  rintro xx wa ⟨rfl, hba⟩
  have hb0a := hb0.trans (hba.mono hb0.size)
  have hAa := RowAt.go hA (hb0a.mono (Nat.le_of_eq HB.out.symm))
  go_wp2_with fail
  go_fit (small17_any (c := c) hAa (by have := hb0a.size; have := HB.out; omega) (by omega))
  rintro xx wb ⟨sb, rfl, hbb⟩
  have hb0b := hb0a.trans (hbb.mono hb0a.size)
  cases sb with
  | false =>
    go_wp2
    go_ret
    exact ⟨rfl, hb0b⟩
  | true =>
    rcases bool_two (decide (20 < fn)) with qf | qf
    · have qf2 : decide ((20 : Int) < (fn : Int)) = true := decide_eq_true (by have := of_decide_eq_true qf; omega)
      go_wp2
      go_ret
      exact ⟨rfl, hb0b⟩
    have hf20 : fn ≤ 20 := by have := of_decide_eq_false qf; omega
    have qf2 : decide ((20 : Int) < (fn : Int)) = false := decide_eq_false (by omega)
    have hPb := (hP.below hba).below hbb
    have x0 := hPb.cell (j := 0) rfl
    have x1 := hPb.cell (j := 1) rfl
    have HC := hide (rcheck_any ge gA gn gc ms wb Hgn.out (hgr.below hb0b))
    go_wp2_with fail
    go_fit HC.out
    rcases bool_two (grpOk ge ms) with qg | qg
    rotate_left
    · rw [chk_bad qg]
      rintro xx wc ⟨rfl, hbc⟩
      go_wp2
      go_ret
      exact ⟨rfl, hb0b.trans (hbc.mono hb0b.size)⟩
    rw [chk_ok qg]
    rintro xx wc ⟨rfl, hbc⟩
    have hb0c := hb0b.trans (hbc.mono hb0b.size)
    have hg9 : gn ≤ 9 := by have := (grp_len17 qg).2; rw [Hgn.out] at this; exact this
    have hPc := hPb.below hbc
    clear x0 x1 HC qf qg
    have x0 := hPc.cell (j := 0) rfl
    have x1 := hPc.cell (j := 1) rfl
    have HRr := hide (rreached17_any ge gA gn gc ms fA fn fc frm wc Hgn.out Hfn.out (by omega) hf63 (hgr.below hb0c) (hfr.below hb0c))
    go_wp2_with fail
    go_fit HRr.out
    rcases bool_two (reachB ms frm) with qr | qr
    rotate_left
    · rw [qr]
      rintro xx wd ⟨rfl, hbd⟩
      go_wp2
      go_ret
      exact ⟨rfl, hb0c.trans (hbd.mono hb0c.size)⟩
    rw [qr]
    have HRf := hide qr
    rintro xx w1 ⟨rfl, hbd⟩
    have hb01 := hb0c.trans (hbd.mono hb0c.size)
    have hP1 := hPc.below hbd
    have hRb1 := ((hRb.below hba).below hbb).below (hbc.trans (hbd.mono hbc.size))
    have hA1 := RowAt.go hA (hb01.mono (Nat.le_of_eq HB.out.symm))
    have hE1 := hE9.below hb01
    have hgr1 := hgr.below hb01
    have hfr := hfr.below hb01
    have hz1 : B ≤ w1.heap.size := by have := hb01.size; have := HB.out; omega
    clear hA hE9 hgr hP hRb hPb hPc hAa hba hbb hb0a hb0b hb0c hbc hbd hb0 qr x0 x1 HRr hBw
    go_wp2
    go_loopw [9, 10] (fun v iv wr => ∃ (i q : Nat) (sm : List TailD) (svs : List Value), i ≤ n ∧ q ≤ i ∧ iv = .int .i64 i ∧ sm.length = q ∧ Grow w1 (.slice none 0 0) w1.heap.size 33 11 wr v q svs ∧ tyTail.Rows w1 (fun b => b < B) sm svs ∧ Hid (sm = (l.take i).filter (fun t => inB frm t.1)) ∧ Hid (∀ j t, j < i → l[j]? = some t → tailB t = true)) (fun _ iv _ => n - (intOf iv).toNat)
    case atStart => exact ⟨0, 0, [], [], by omega, by omega, rfl, rfl, Grow.nil _ _ _, Ty.Rows.nil, hide (by simp), hide (fun j t hj => by omega)⟩
    case round =>
      obtain ⟨i, q, sm, svs, hi, hqi, rfl, hsm, hG, hRows, HS, HK⟩ := hrel
      obtain ⟨wO, hwO⟩ : ∃ x, x = wr := ⟨_, rfl⟩
      subst hwO
      have hbO := hG.all
      by_cases hlt : i < n
      · go_wp2
        go_loopw [11] (fun kv wr => ∃ k : Nat, k ≤ i ∧ kv = .int .i64 k ∧ Below wO.heap.size wO wr) (fun kv _ => i - (intOf kv).toNat)
        case atStart => exact ⟨0, by omega, rfl, Below.refl _ _⟩
        case round =>
          obtain ⟨k, hk, rfl, hbk⟩ := hrel
          have hbW := hbO.trans (hbk.mono hbO.size)
          by_cases hlt2 : k < i
          · have hkI : (k : Int) < (n : Int) := by omega
            have hiI : (i : Int) < (n : Int) := by omega
            obtain ⟨t, p, cs, ht, hAp, hI, hat, hc⟩ := hA1.at_ (by decide) (hbW.mono hz1) hlt
            obtain ⟨u, p0, ds, hu, hAp0, hU, hat0, hc0⟩ := hA1.at_ (by decide) (hbW.mono hz1) (show k < n by omega)
            have hAq := hide hA1
            clear hA1
            subst hAp
            injection hAp0 with hAp0
            subst hAp0
            obtain ⟨aNode, aNormal, aCommit, aStateNum, aStateShapeBlocks, aStateShapeSize, aStatePages, aStatePagesA, aStatePagesn, aStatePagesc, aStatePagesv, aStateRows, aStateRowsA, aStateRowsn, aStateRowsc, aStateRowsv, aStateGroupEpoch, aStateGroupMembers, aStateGroupMembersA, aStateGroupMembersn, aStateGroupMembersc, aStateGroupMembersv, aLog, aLogA, aLogn, aLogc, aLogv, rfl, rfl, h1_aNode, h2_aNode, h1_aNormal, h2_aNormal, h1_aCommit, h2_aCommit, h1_aStateNum, h2_aStateNum, h1_aStateShapeBlocks, h2_aStateShapeBlocks, h1_aStateShapeSize, h2_aStateShapeSize, hl_aStatePages, hc_aStatePages, hm_aStatePages, hr_aStatePages, hq_aStatePages, he_aStatePages, hl_aStateRows, hc_aStateRows, hm_aStateRows, hr_aStateRows, hq_aStateRows, he_aStateRows, h1_aStateGroupEpoch, h2_aStateGroupEpoch, hl_aStateGroupMembers, hc_aStateGroupMembers, hm_aStateGroupMembers, hr_aStateGroupMembers, hq_aStateGroupMembers, he_aStateGroupMembers, hl_aLog, hc_aLog, hm_aLog, hr_aLog, hq_aLog, he_aLog⟩ := Tail_out hI
            obtain ⟨bNode, bNormal, bCommit, bStateNum, bStateShapeBlocks, bStateShapeSize, bStatePages, bStatePagesA, bStatePagesn, bStatePagesc, bStatePagesv, bStateRows, bStateRowsA, bStateRowsn, bStateRowsc, bStateRowsv, bStateGroupEpoch, bStateGroupMembers, bStateGroupMembersA, bStateGroupMembersn, bStateGroupMembersc, bStateGroupMembersv, bLog, bLogA, bLogn, bLogc, bLogv, rfl, rfl, h1_bNode, h2_bNode, h1_bNormal, h2_bNormal, h1_bCommit, h2_bCommit, h1_bStateNum, h2_bStateNum, h1_bStateShapeBlocks, h2_bStateShapeBlocks, h1_bStateShapeSize, h2_bStateShapeSize, hl_bStatePages, hc_bStatePages, hm_bStatePages, hr_bStatePages, hq_bStatePages, he_bStatePages, hl_bStateRows, hc_bStateRows, hm_bStateRows, hr_bStateRows, hq_bStateRows, he_bStateRows, h1_bStateGroupEpoch, h2_bStateGroupEpoch, hl_bStateGroupMembers, hc_bStateGroupMembers, hm_bStateGroupMembers, hr_bStateGroupMembers, hq_bStateGroupMembers, he_bStateGroupMembers, hl_bLog, hc_bLog, hm_bLog, hr_bLog, hq_bLog, he_bLog⟩ := Tail_out hU
            clear hl_aStatePages hr_aStatePages hq_aStatePages he_aStatePages hl_aStateRows hr_aStateRows hq_aStateRows he_aStateRows hl_aStateGroupMembers hr_aStateGroupMembers hq_aStateGroupMembers he_aStateGroupMembers hl_aLog hr_aLog hq_aLog he_aLog
            clear hl_bStatePages hr_bStatePages hq_bStatePages he_bStatePages hl_bStateRows hr_bStateRows hq_bStateRows he_bStateRows hl_bStateGroupMembers hr_bStateGroupMembers hq_bStateGroupMembers he_bStateGroupMembers hl_bLog hr_bLog hq_bLog he_bLog
            have y0 := el_0 (n := 11) hat (hc 0 _ rfl)
            have z0 := el_0 (n := 11) hat0 (hc0 0 _ rfl)
            have uy := fun (x : InC (fun W' => Below wr.heap.size wr W')) => below_cell x.h y0
            have uz := fun (x : InC (fun W' => Below wr.heap.size wr W')) => below_cell x.h z0
            clear hat hat0 hc hc0 ht hu
            rcases bool_two (bNode == aNode) with q1 | q1
            · go_wp2_with fail
              refine wp_region_in (fun W' => Below wr.heap.size wr W') (Below.refl _ _).drew (by kernel_rfl) (by kernel_rfl) ?_
              repeat (go_big_quiet_step (first | fail))
              refine wpQuiet_nil ?_
              intro _ hw'
              obtain ⟨nq, hw''⟩ := hw'
              subst hw''
              have hbq := nq.h
              go_wp2
              go_ret
              exact ⟨rfl, hb01.trans ((hbW.trans (hbq.mono hbW.size)).mono hb01.size)⟩
            · go_wp2_with fail
              refine wp_region_in (fun W' => Below wr.heap.size wr W') (Below.refl _ _).drew (by kernel_rfl) (by kernel_rfl) ?_
              repeat (go_big_quiet_step (first | fail))
              refine wpQuiet_nil ?_
              intro _ hw'
              obtain ⟨nq, hw''⟩ := hw'
              subst hw''
              have hbq := nq.h
              go_wp2
              go_roundw
              case rel => exact ⟨k + 1, by omega, by go_num, hbk.trans (hbq.mono hbk.size)⟩
              case measure => simp [intOf]; omega
          · obtain rfl : k = i := by omega
            obtain ⟨t, p, cs, ht, hAp, hI, hat, hc⟩ := rowAt_at2 hA1 (by decide) (hbW.mono hz1) hlt
            have hA1' := hide hA1
            subst hAp
            have hI' := hI
            obtain ⟨aNode, aNormal, aCommit, aStateNum, aStateShapeBlocks, aStateShapeSize, aStatePages, aStatePagesA, aStatePagesn, aStatePagesc, aStatePagesv, aStateRows, aStateRowsA, aStateRowsn, aStateRowsc, aStateRowsv, aStateGroupEpoch, aStateGroupMembers, aStateGroupMembersA, aStateGroupMembersn, aStateGroupMembersc, aStateGroupMembersv, aLog, aLogA, aLogn, aLogc, aLogv, rfl, rfl, h1_aNode, h2_aNode, h1_aNormal, h2_aNormal, h1_aCommit, h2_aCommit, h1_aStateNum, h2_aStateNum, h1_aStateShapeBlocks, h2_aStateShapeBlocks, h1_aStateShapeSize, h2_aStateShapeSize, hl_aStatePages, hc_aStatePages, hm_aStatePages, hr_aStatePages, hq_aStatePages, he_aStatePages, hl_aStateRows, hc_aStateRows, hm_aStateRows, hr_aStateRows, hq_aStateRows, he_aStateRows, h1_aStateGroupEpoch, h2_aStateGroupEpoch, hl_aStateGroupMembers, hc_aStateGroupMembers, hm_aStateGroupMembers, hr_aStateGroupMembers, hq_aStateGroupMembers, he_aStateGroupMembers, hl_aLog, hc_aLog, hm_aLog, hr_aLog, hq_aLog, he_aLog⟩ := Tail_out hI'
            clear hl_aStatePages hr_aStatePages hq_aStatePages he_aStatePages hl_aStateRows hr_aStateRows hq_aStateRows he_aStateRows hl_aStateGroupMembers hr_aStateGroupMembers hq_aStateGroupMembers he_aStateGroupMembers hl_aLog hr_aLog hq_aLog he_aLog
            have y0 := el_0 (n := 11) hat (hc 0 _ rfl); have y1 := el_S (n := 11) (i := 0) hat (hc 1 _ rfl); have y2 := el_S (n := 11) (i := 1) hat (hc 2 _ rfl); have y3 := el_S (n := 11) (i := 2) hat (hc 3 _ rfl); have y4 := el_S (n := 11) (i := 3) hat (hc 4 _ rfl); have y5 := el_S (n := 11) (i := 4) hat (hc 5 _ rfl); have y6 := el_S (n := 11) (i := 5) hat (hc 6 _ rfl); have y7 := el_S (n := 11) (i := 6) hat (hc 7 _ rfl); have y8 := el_S (n := 11) (i := 7) hat (hc 8 _ rfl); have y9 := el_S (n := 11) (i := 8) hat (hc 9 _ rfl); have y10 := el_S (n := 11) (i := 9) hat (hc 10 _ rfl)
            have hIw := hI.below hbW
            have HT := hide ht
            have hiI : (k : Int) < (n : Int) := by omega
            clear hat hc ht
            have hone := hI.ones
            have HRT := hide (rtail_any hIw)
            clear hIw
            go_wp2_with fail
            go_fit HRT.out
            rcases bool_two (tailB (aNode, aNormal, aCommit, (aStateNum, (aStateShapeBlocks, aStateShapeSize), aStatePages, aStateRows, (aStateGroupEpoch, aStateGroupMembers)), aLog)) with q | q
            rotate_left
            · rw [tailE_no q]
              rintro xx w3 ⟨rfl, hb3⟩
              go_wp2
              go_ret
              exact ⟨rfl, hb01.trans ((hbW.trans (hb3.mono hbW.size)).mono hb01.size)⟩
            · rw [tailE_ok q]
              rintro xx w3 ⟨rfl, hb3⟩
              have hbW3 := hbW.trans (hb3.mono hbW.size)
              have hbO3 := hbk.trans (hb3.mono hbk.size)
              have y0 := below_cell hb3 y0
              have y1 := below_cell hb3 y1
              have y2 := below_cell hb3 y2
              have y3 := below_cell hb3 y3
              have y4 := below_cell hb3 y4
              have y5 := below_cell hb3 y5
              have y6 := below_cell hb3 y6
              have y7 := below_cell hb3 y7
              have y8 := below_cell hb3 y8
              have y9 := below_cell hb3 y9
              have y10 := below_cell hb3 y10
              have HN := hide (show ∀ j t, j < k + 1 → l[j]? = some t → tailB t = true from fun j t h1 h2 => by
                rcases Nat.lt_or_ge j k with h' | h'
                · exact HK.out j t h' h2
                · rw [show j = k by omega, HT.out] at h2
                  injection h2 with h2
                  rw [← h2]; exact q)
              have hG3 := hG.below hbO3
              have HIn := hide (rin_any fA fn fc frm aNode w3 Hfn.out (by omega) (hfr.below hbW3))
              have Htk := hide (show l.take (k + 1) = l.take k ++ [(aNode, aNormal, aCommit, (aStateNum, (aStateShapeBlocks, aStateShapeSize), aStatePages, aStateRows, (aStateGroupEpoch, aStateGroupMembers)), aLog)] by
                obtain ⟨h1, h2⟩ := List.getElem?_eq_some_iff.1 HT.out
                rw [List.take_succ_eq_append_getElem h1, h2])
              clear hG q HRT hb3
              go_wp2_with fail
              go_fit HIn.out
              rcases bool_two (inB frm aNode) with q1 | q1
              rotate_left
              · have HS2 := hide (show sm = (l.take (k + 1)).filter (fun t => inB frm t.1) by
                  rw [Htk.out, List.filter_append, ← HS.out]
                  simp [q1])
                rw [q1]
                clear HIn q1
                rintro xx w4 ⟨rfl, rfl⟩
                go_wp2
                go_roundw
                case rel => exact ⟨k + 1, q, sm, svs, by omega, by omega, by go_num, hsm, hG3, hRows, HS2, HN⟩
                case measure => simp [intOf]; omega
              · have HS2 := hide (show sm ++ [(aNode, aNormal, aCommit, (aStateNum, (aStateShapeBlocks, aStateShapeSize), aStatePages, aStateRows, (aStateGroupEpoch, aStateGroupMembers)), aLog)] = (l.take (k + 1)).filter (fun t => inB frm t.1) by
                  rw [Htk.out, List.filter_append, ← HS.out]
                  simp [q1])
                have hRows2 := hRows.snoc hI
                rw [q1]
                clear HIn q1
                rintro xx w4 ⟨rfl, rfl⟩
                go_wp2_with (first | (with_reducible refine stop_append rfl ?_) | (with_reducible refine stop_copy rfl ?_) | (with_reducible refine stop_make rfl ?_))
                refine (hG3.alloc _).append rfl rfl tTails rfl rfl (m := 1) (news := [.int .i64 aNode, .int .i64 aNormal, .int .i64 aCommit, .int .i64 aStateNum, .int .i64 aStateShapeBlocks, .int .i64 aStateShapeSize, .slice aStatePagesA aStatePagesn aStatePagesc, .slice aStateRowsA aStateRowsn aStateRowsc, .int .i64 aStateGroupEpoch, .slice aStateGroupMembersA aStateGroupMembersn aStateGroupMembersc, .slice aLogA aLogn aLogc]) rfl (Rd.newN w3 [.int .i64 aNode, .int .i64 aNormal, .int .i64 aCommit, .int .i64 aStateNum, .int .i64 aStateShapeBlocks, .int .i64 aStateShapeSize, .slice aStatePagesA aStatePagesn aStatePagesc, .slice aStateRowsA aStateRowsn aStateRowsc, .int .i64 aStateGroupEpoch, .slice aStateGroupMembersA aStateGroupMembersn aStateGroupMembersc, .slice aLogA aLogn aLogc] _ (0, 0)) hone (by omega) (by omega) ?_
                intro v' w5 hG5 _
                clear y0 y1 y2 y3 y4 y5 y6 y7 y8 y9 y10 hG3
                go_wp2
                go_roundw
                case rel => exact ⟨k + 1, q + 1, _, _, by omega, by omega, by go_num, by simp [hsm], hG5, hRows2, HS2, HN⟩
                case measure => simp [intOf]; omega
      · obtain rfl : n = i := by omega
        have HSf := hide (show sm = l.filter (fun t => inB frm t.1) by
          rw [HS.out, List.take_of_length_le (by rw [Hl.out]; exact Nat.le_refl _)])
        have hok : ∀ t ∈ l, tailB t = true := fun t ht => by
          obtain ⟨j, hj, rfl⟩ := List.mem_iff_getElem.1 ht
          exact HK.out j _ (by rw [← Hl.out]; exact hj) (List.getElem?_eq_getElem hj)
        obtain ⟨sA, sc, rfl, _, hqc, hcm, hSr, _⟩ := own_out hG.owns
        clear hG HS HK
        have x1 := (hP1.below hbO).cell (j := 1) rfl
        by_cases hgl : n < gn
        · go_wp2
          go_ret
          exact ⟨rfl, hb01.trans (hbO.mono hb01.size)⟩
        have HAg := hide (agree_any (c := c) (RowAt.go hA1 (hbO.mono hz1)) (Nat.le_trans hz1 hbO.size) (by omega))
        go_wp2_with fail
        go_fit HAg.out
        rintro xx w2 ⟨ba, rfl, hag, hb2⟩
        have hb12 := hbO.trans (hb2.mono hbO.size)
        cases ba with
        | false =>
          go_wp2
          go_ret
          exact ⟨rfl, hb01.trans (hb12.mono hb01.size)⟩
        | true =>
          have Hagr := hide (hag rfl)
          clear hag
          clear x1
          have hP2 := hP1.below hb12
          have hR2 := hRb1.below hb12
          have x0 := hP2.cell (j := 0) rfl
          have x1 := hP2.cell (j := 1) rfl
          have z0 := Blk.cell hR2 (j := 0) rfl; have z1 := Blk.cell hR2 (j := 1) rfl; have z2 := Blk.cell hR2 (j := 2) rfl; have z3 := Blk.cell hR2 (j := 3) rfl; have z4 := Blk.cell hR2 (j := 4) rfl; have z5 := Blk.cell hR2 (j := 5) rfl; have z6 := Blk.cell hR2 (j := 6) rfl; have z7 := Blk.cell hR2 (j := 7) rfl; have z8 := Blk.cell hR2 (j := 8) rfl; have z9 := Blk.cell hR2 (j := 9) rfl; have z10 := Blk.cell hR2 (j := 10) rfl; have z11 := Blk.cell hR2 (j := 11) rfl
          have HKp := hide (kept_any (c := c) ge gA gn gc ms Hgn.out (by omega) (hgr1.below hb12) (RowAt.go hA1 (hb12.mono hz1)) (Nat.le_trans hz1 hb12.size) h8 (hE1.below hb12))
          go_wp2_with fail
          go_fit HKp.out
          rintro xx wK ⟨bk, rfl, hkp, hbK⟩
          have hb1K := hb12.trans (hbK.mono hb12.size)
          cases bk with
          | false =>
            go_wp2
            go_ret
            exact ⟨rfl, hb01.trans (hb1K.mono hb01.size)⟩
          | true =>
            obtain ⟨nodes, least, hkpK⟩ := hkp rfl
            have Hkp := hide hkpK
            clear hkp hkpK
            have hbSK := hb2.trans (hbK.mono hb2.size)
            clear x0 x1 z0 z1 z2 z3 z4 z5 z6 z7 z8 z9 z10 z11 HKp HAg hP2 hR2
            go_wp2
            go_loopw [12] (fun jv wr => ∃ j : Nat, j ≤ gn ∧ jv = .int .i64 j ∧ Below wK.heap.size wK wr) (fun jv _ => gn - (intOf jv).toNat)
            case atStart => exact ⟨0, by omega, rfl, Below.refl _ _⟩
            case round =>
              obtain ⟨j, hj, rfl, hbj⟩ := hrel
              obtain ⟨wJ, hwJ⟩ : ∃ x, x = wr := ⟨_, rfl⟩
              subst hwJ
              have hb1j := hb1K.trans (hbj.mono hb1K.size)
              have x1 := (hP1.below hb1j).cell (j := 1) rfl
              by_cases hltj : j < gn
              · go_wp2
                go_loopw [13, 14] (fun bv kv wr => ∃ (b : Bool) (k : Nat), k ≤ n ∧ bv = .bool b ∧ kv = .int .i64 k ∧ Below wJ.heap.size wJ wr) (fun _ kv _ => n - (intOf kv).toNat)
                case atStart => exact ⟨false, 0, by omega, rfl, rfl, Below.refl _ _⟩
                case round =>
                  obtain ⟨b, k, hk, rfl, rfl, hbk⟩ := hrel
                  have hb1k := hb1j.trans (hbk.mono hb1j.size)
                  by_cases hlt : k < n
                  · have hkI : (k : Int) < (n : Int) := by omega
                    have hjI : (j : Int) < (gn : Int) := by omega
                    obtain ⟨t, p, cs, ht, hAp, hI, hat, hc⟩ := hA1.at_ (by decide) (hb1k.mono hz1) hlt
                    have hAq := hide hA1
                    clear hA1
                    subst hAp
                    obtain ⟨aNode, aNormal, aCommit, aStateNum, aStateShapeBlocks, aStateShapeSize, aStatePages, aStatePagesA, aStatePagesn, aStatePagesc, aStatePagesv, aStateRows, aStateRowsA, aStateRowsn, aStateRowsc, aStateRowsv, aStateGroupEpoch, aStateGroupMembers, aStateGroupMembersA, aStateGroupMembersn, aStateGroupMembersc, aStateGroupMembersv, aLog, aLogA, aLogn, aLogc, aLogv, rfl, rfl, h1_aNode, h2_aNode, h1_aNormal, h2_aNormal, h1_aCommit, h2_aCommit, h1_aStateNum, h2_aStateNum, h1_aStateShapeBlocks, h2_aStateShapeBlocks, h1_aStateShapeSize, h2_aStateShapeSize, hl_aStatePages, hc_aStatePages, hm_aStatePages, hr_aStatePages, hq_aStatePages, he_aStatePages, hl_aStateRows, hc_aStateRows, hm_aStateRows, hr_aStateRows, hq_aStateRows, he_aStateRows, h1_aStateGroupEpoch, h2_aStateGroupEpoch, hl_aStateGroupMembers, hc_aStateGroupMembers, hm_aStateGroupMembers, hr_aStateGroupMembers, hq_aStateGroupMembers, he_aStateGroupMembers, hl_aLog, hc_aLog, hm_aLog, hr_aLog, hq_aLog, he_aLog⟩ := Tail_out hI
                    clear hl_aStatePages hr_aStatePages hq_aStatePages he_aStatePages hl_aStateRows hr_aStateRows hq_aStateRows he_aStateRows hl_aStateGroupMembers hr_aStateGroupMembers hq_aStateGroupMembers he_aStateGroupMembers hl_aLog hr_aLog hq_aLog he_aLog
                    have y0 := el_0 (n := 11) hat (hc 0 _ rfl)
                    obtain ⟨ga, hga, hcg⟩ := (hgr1.below hb1k) j _ (ints_get (show j < ms.length by rw [Hgn.out]; exact hltj))
                    obtain ⟨mm, hmm⟩ : ∃ m, ms[j]'(by rw [Hgn.out]; exact hltj) = m := ⟨_, rfl⟩
                    rw [hmm] at hcg
                    have hGq := hide hgr1
                    have HPq := hide hP1
                    have x1k := (hP1.below hb1k).cell (j := 1) rfl
                    clear hgr1 hP1 hmm
                    have HKq := hide hga
                    rw [hga] at x1k
                    have uy := fun (x : InC (fun W' => Below wr.heap.size wr W')) => below_cell x.h y0
                    have ux := fun (x : InC (fun W' => Below wr.heap.size wr W')) => below_cell x.h x1k
                    have ug := fun (x : InC (fun W' => Below wr.heap.size wr W')) => below_cell x.h hcg
                    clear hat hc ht x1
                    cases b with
                    | true =>
                      go_wp2_with fail
                      refine wp_region_in (fun W' => Below wr.heap.size wr W') (Below.refl _ _).drew (by kernel_rfl) (by kernel_rfl) ?_
                      repeat (go_big_quiet_step (first | fail))
                      refine wpQuiet_nil ?_
                      intro _ hw'
                      obtain ⟨nq, hw''⟩ := hw'
                      subst hw''
                      have hbq := nq.h
                      go_wp2
                      go_roundw
                      case rel => exact ⟨true, k + 1, by omega, rfl, by go_num, hbk.trans (hbq.mono hbk.size)⟩
                      case measure => simp [intOf]; omega
                    | false =>
                      go_wp2_with fail
                      refine wp_region_in (fun W' => Below wr.heap.size wr W') (Below.refl _ _).drew (by kernel_rfl) (by kernel_rfl) ?_
                      repeat (go_big_quiet_step (first | fail))
                      refine wpQuiet_nil ?_
                      intro _ hw'
                      obtain ⟨nq, hw''⟩ := hw'
                      subst hw''
                      have hbq := nq.h
                      go_wp2
                      go_roundw
                      case rel => exact ⟨_, k + 1, by omega, rfl, by go_num, hbk.trans (hbq.mono hbk.size)⟩
                      case measure => simp [intOf]; omega
                  · obtain rfl : k = n := by omega
                    cases b with
                    | true =>
                      go_wp2
                      go_roundw
                      case rel => exact ⟨j + 1, by omega, by go_num, hbj.trans (hbk.mono hbj.size)⟩
                      case measure => simp [intOf]; omega
                    | false =>
                      go_wp2
                      go_ret
                      exact ⟨rfl, hb01.trans (hb1k.mono hb01.size)⟩
              · obtain rfl : j = gn := by omega
                have hbS := hbSK.trans (hbj.mono hbSK.size)
                have hb1f := hb1j
                obtain ⟨bb, hbl, hbE, hfin⟩ := keeps17 (sm := sm) HRf.out Hkp.out Hagr.out hok HSf.out
                have HBest := hide (best_any (c := sc) (rowAt_of (t := tyTail) (by decide) hsm (hSr.below hbS) (hRows.below (hb1f))) (Nat.le_refl _) (by omega))
                rw [hbE] at HBest
                have hbq2 : bb < q := by rw [← hsm]; exact hbl
                go_wp2_with fail
                go_fit HBest.out
                rintro xx wB ⟨rfl, hbB⟩
                have hbSB := hbS.trans (hbB.mono hbS.size)
                have hb1B := hb1f.trans (hbB.mono hb1f.size)
                obtain ⟨t, p, cs, ht, hAp, hI, hat, hc⟩ := (rowAt_of (t := tyTail) (by decide) hsm (hSr.below hbSB) (hRows.below hb1B)).at_ (by decide) (Below.refl _ _) hbq2
                have hgd := getD_at ht
                rw [hgd] at hfin
                subst hAp
                have hIB := hI
                obtain ⟨aNode, aNormal, aCommit, aStateNum, aStateShapeBlocks, aStateShapeSize, aStatePages, aStatePagesA, aStatePagesn, aStatePagesc, aStatePagesv, aStateRows, aStateRowsA, aStateRowsn, aStateRowsc, aStateRowsv, aStateGroupEpoch, aStateGroupMembers, aStateGroupMembersA, aStateGroupMembersn, aStateGroupMembersc, aStateGroupMembersv, aLog, aLogA, aLogn, aLogc, aLogv, rfl, rfl, h1_aNode, h2_aNode, h1_aNormal, h2_aNormal, h1_aCommit, h2_aCommit, h1_aStateNum, h2_aStateNum, h1_aStateShapeBlocks, h2_aStateShapeBlocks, h1_aStateShapeSize, h2_aStateShapeSize, hl_aStatePages, hc_aStatePages, hm_aStatePages, hr_aStatePages, hq_aStatePages, he_aStatePages, hl_aStateRows, hc_aStateRows, hm_aStateRows, hr_aStateRows, hq_aStateRows, he_aStateRows, h1_aStateGroupEpoch, h2_aStateGroupEpoch, hl_aStateGroupMembers, hc_aStateGroupMembers, hm_aStateGroupMembers, hr_aStateGroupMembers, hq_aStateGroupMembers, he_aStateGroupMembers, hl_aLog, hc_aLog, hm_aLog, hr_aLog, hq_aLog, he_aLog⟩ := Tail_out hI
                clear hl_aStatePages hr_aStatePages hq_aStatePages he_aStatePages hl_aStateRows hr_aStateRows hq_aStateRows he_aStateRows hl_aStateGroupMembers hr_aStateGroupMembers hq_aStateGroupMembers he_aStateGroupMembers hl_aLog hr_aLog hq_aLog he_aLog
                have y0 := el_0 (n := 11) hat (hc 0 _ rfl); have y1 := el_S (n := 11) (i := 0) hat (hc 1 _ rfl); have y2 := el_S (n := 11) (i := 1) hat (hc 2 _ rfl); have y3 := el_S (n := 11) (i := 2) hat (hc 3 _ rfl); have y4 := el_S (n := 11) (i := 3) hat (hc 4 _ rfl); have y5 := el_S (n := 11) (i := 4) hat (hc 5 _ rfl); have y6 := el_S (n := 11) (i := 5) hat (hc 6 _ rfl); have y7 := el_S (n := 11) (i := 6) hat (hc 7 _ rfl); have y8 := el_S (n := 11) (i := 7) hat (hc 8 _ rfl); have y9 := el_S (n := 11) (i := 8) hat (hc 9 _ rfl); have y10 := el_S (n := 11) (i := 9) hat (hc 10 _ rfl)
                have hEB := hE1.below hb1B
                have hR9 := hRb1.below hb1B
                have z0 := Blk.cell hR9 (j := 0) rfl; have z1 := Blk.cell hR9 (j := 1) rfl; have z2 := Blk.cell hR9 (j := 2) rfl; have z3 := Blk.cell hR9 (j := 3) rfl; have z4 := Blk.cell hR9 (j := 4) rfl; have z5 := Blk.cell hR9 (j := 5) rfl; have z6 := Blk.cell hR9 (j := 6) rfl; have z7 := Blk.cell hR9 (j := 7) rfl; have z8 := Blk.cell hR9 (j := 8) rfl; have z9 := Blk.cell hR9 (j := 9) rfl; have z10 := Blk.cell hR9 (j := 10) rfl; have z11 := Blk.cell hR9 (j := 11) rfl
                have k0 := fun (x : InC (fun W' => Below wB.heap.size wB W')) => below_cell x.h y0
                have k1 := fun (x : InC (fun W' => Below wB.heap.size wB W')) => below_cell x.h y1
                have k2 := fun (x : InC (fun W' => Below wB.heap.size wB W')) => below_cell x.h y2
                have k3 := fun (x : InC (fun W' => Below wB.heap.size wB W')) => below_cell x.h y3
                have k4 := fun (x : InC (fun W' => Below wB.heap.size wB W')) => below_cell x.h y4
                have k5 := fun (x : InC (fun W' => Below wB.heap.size wB W')) => below_cell x.h y5
                have k6 := fun (x : InC (fun W' => Below wB.heap.size wB W')) => below_cell x.h y6
                have k7 := fun (x : InC (fun W' => Below wB.heap.size wB W')) => below_cell x.h y7
                have k8 := fun (x : InC (fun W' => Below wB.heap.size wB W')) => below_cell x.h y8
                have k9 := fun (x : InC (fun W' => Below wB.heap.size wB W')) => below_cell x.h y9
                have k10 := fun (x : InC (fun W' => Below wB.heap.size wB W')) => below_cell x.h y10
                have m0 := fun (x : InC (fun W' => Below wB.heap.size wB W')) => below_cell x.h z0
                have m1 := fun (x : InC (fun W' => Below wB.heap.size wB W')) => below_cell x.h z1
                have m2 := fun (x : InC (fun W' => Below wB.heap.size wB W')) => below_cell x.h z2
                have m3 := fun (x : InC (fun W' => Below wB.heap.size wB W')) => below_cell x.h z3
                have m4 := fun (x : InC (fun W' => Below wB.heap.size wB W')) => below_cell x.h z4
                have m5 := fun (x : InC (fun W' => Below wB.heap.size wB W')) => below_cell x.h z5
                have m6 := fun (x : InC (fun W' => Below wB.heap.size wB W')) => below_cell x.h z6
                have m7 := fun (x : InC (fun W' => Below wB.heap.size wB W')) => below_cell x.h z7
                have m8 := fun (x : InC (fun W' => Below wB.heap.size wB W')) => below_cell x.h z8
                have m9 := fun (x : InC (fun W' => Below wB.heap.size wB W')) => below_cell x.h z9
                have m10 := fun (x : InC (fun W' => Below wB.heap.size wB W')) => below_cell x.h z10
                have m11 := fun (x : InC (fun W' => Below wB.heap.size wB W')) => below_cell x.h z11
                have hbI : (bb : Int) < (q : Int) := by omega
                have hbI0 : (0 : Int) ≤ (bb : Int) := by omega
                clear hat hc ht HBest hgd
                rcases bool_two (hasB (aNode, aNormal, aCommit, (aStateNum, (aStateShapeBlocks, aStateShapeSize), aStatePages, aStateRows, (aStateGroupEpoch, aStateGroupMembers)), aLog) (eKind, eNum, eView, eClient, eSerial, (eOpKind, eOpAt, eOpN, eOpData, eOpOld), (eGroupEpoch, eGroupMembers))) with q1 | q1
                · have HH := hide q1
                  clear hfin q1
                  go_wp2_with fail
                  refine wp_region_in (fun W' => Below wB.heap.size wB W') (Below.refl _ _).drew (by kernel_rfl) (by kernel_rfl) ?_
                  repeat (go_big_quiet_step (first
                    | (go_at_call 25; have hh := fun (x : InC (fun W' => Below wB.heap.size wB W')) => holds_any (hIB.below x.h) (hEB.below x.h); rw [HH.out] at hh; exact Calls.in_below (hh _))))
                  refine wpQuiet_nil ?_
                  intro _ hw'
                  obtain ⟨nq, hw''⟩ := hw'
                  subst hw''
                  have hbq := nq.h
                  go_wp2
                  go_ret
                  exact ⟨rfl, hb01.trans ((hb1B.trans (hbq.mono hb1B.size)).mono hb01.size)⟩
                · have HH := hide q1
                  have g2 : decide (eNum ≤ aStateNum) = true := by
                    rcases hfin with h | h
                    · rw [q1] at h; cases h
                    · exact decide_eq_true h
                  clear hfin q1
                  go_wp2_with fail
                  refine wp_region_in (fun W' => Below wB.heap.size wB W') (Below.refl _ _).drew (by kernel_rfl) (by kernel_rfl) ?_
                  repeat (go_big_quiet_step (first
                    | (go_at_call 25; have hh := fun (x : InC (fun W' => Below wB.heap.size wB W')) => holds_any (hIB.below x.h) (hEB.below x.h); rw [HH.out] at hh; exact Calls.in_below (hh _))))
                  refine wpQuiet_nil ?_
                  intro _ hw'
                  obtain ⟨nq, hw''⟩ := hw'
                  subst hw''
                  have hbq := nq.h
                  go_wp2
                  go_ret
                  exact ⟨rfl, hb01.trans ((hb1B.trans (hbq.mono hb1B.size)).mono hb01.size)⟩
end Go.Proofs.Ytfjffmjnnjckkaa
