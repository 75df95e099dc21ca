/- Stage 17: agree (written by gen_17j.py). -/
import Derived.Test.YtfjffmjnnjckkaaF17j
import Derived.Test.YtfjffmjnnjckkaaOrd
import Derived.Deep.CutRange
namespace Go.Proofs.Ytfjffmjnnjckkaa
set_option maxRecDepth 20000
open Go.RowKit Go.Px Go.Maps
set_option linter.unusedVariables false
set_option linter.unusedSimpArgs false
/-- Do two tails agree? -/
def agP (t u : TailD) : Prop := t.2.1 = u.2.1 → ∀ x ∈ t.2.2.2.2, ∀ y, atF u.2.2.2.2 x.2.1 = some y → eqE y x = true
set_option maxRecDepth 20000 in
set_option maxHeartbeats 25600000 in
theorem agree_any {w : World} {B : Nat} {A : Option Addr} {n c : Nat} {l : List TailD} {vs : List Value} (hA : RowAt tyTail w B A n l vs) (hB : B ≤ w.heap.size) (h63 : n ≤ 9223372036854775807) :
    Calls Try.prog 22 #[.slice A n c] w fun e w' => ∃ b, e = .returned (.bool b) ∧ (b = true → Agree l) ∧ Below w.heap.size w w' := by
  have Hl := hide hA.len
  go_enter Try.func22, Try.ntmps22
  go_wp2
  go_loopw [3] (fun iv wr => ∃ i : Nat, i ≤ n ∧ iv = .int .i64 i ∧ Below w.heap.size w wr ∧ Hid (∀ i' k t u, k < i' → i' < i → l[i']? = some t → l[k]? = some u → agP t u)) (fun iv _ => n - (intOf iv).toNat)
  case atStart => exact ⟨0, by omega, rfl, Below.refl _ _, hide (fun i' k t u h1 h2 => by omega)⟩
  case round =>
    obtain ⟨i, hi, rfl, hb, HI⟩ := hrel
    by_cases hlt : i < n
    · obtain ⟨wI, hwI⟩ : ∃ x, x = wr := ⟨_, rfl⟩
      subst hwI
      obtain ⟨t, ht⟩ : ∃ t, l[i]? = some t := ⟨_, List.getElem?_eq_getElem (by rw [Hl.out]; exact hlt)⟩
      have HT := hide ht
      clear ht
      go_wp2
      go_loopw [4] (fun kv wr => ∃ k : Nat, k ≤ i ∧ kv = .int .i64 k ∧ Below w.heap.size w wr ∧ Hid (∀ k' u, k' < k → l[k']? = some u → agP t u)) (fun kv _ => i - (intOf kv).toNat)
      case atStart => exact ⟨0, by omega, rfl, hb, hide (fun k' u h1 => by omega)⟩
      case round =>
        obtain ⟨k, hk, rfl, hb2, HK⟩ := hrel
        by_cases hlt2 : k < i
        · have hkI : (k : Int) < (n : Int) := by omega
          have hiI : (i : Int) < (n : Int) := by omega
          obtain ⟨t1, p, cs, ht1, hAp, hI, hat, hc⟩ := hA.at_ (by decide) (hb2.mono hB) hlt
          obtain ⟨u, p0, ds, hu, hAp0, hU, hat0, hc0⟩ := hA.at_ (by decide) (hb2.mono hB) (show k < n by omega)
          have HA2 := hide hA
          subst hAp
          injection hAp0 with hAp0
          subst hAp0
          rw [HT.out] at ht1
          injection ht1 with ht1
          subst ht1
          have hon := hide (fun (h : agP t u) => (show ∀ k' u, k' < k + 1 → l[k']? = some u → agP t u from fun k' v h1 h2 => by
            rcases Nat.lt_or_ge k' k with h' | h'
            · exact HK.out k' v h' h2
            · rw [show k' = k by omega, hu] at h2
              injection h2 with h2
              rw [← h2]; exact h))
          have hI' := hI
          have hU' := hU
          obtain ⟨aNode, aNormal, aCommit, aStateNum, aStateShapeBlocks, aStateShapeSize, aStatePages, aStatePagesA, aStatePagesn, aStatePagesc, aStatePagesv, aStateRows, aStateRowsA, aStateRowsn, aStateRowsc, aStateRowsv, aStateGroupEpoch, aStateGroupMembers, aStateGroupMembersA, aStateGroupMembersn, aStateGroupMembersc, aStateGroupMembersv, aLog, aLogA, aLogn, aLogc, aLogv, rfl, rfl, h1_aNode, h2_aNode, h1_aNormal, h2_aNormal, h1_aCommit, h2_aCommit, h1_aStateNum, h2_aStateNum, h1_aStateShapeBlocks, h2_aStateShapeBlocks, h1_aStateShapeSize, h2_aStateShapeSize, hl_aStatePages, hc_aStatePages, hm_aStatePages, hr_aStatePages, hq_aStatePages, he_aStatePages, hl_aStateRows, hc_aStateRows, hm_aStateRows, hr_aStateRows, hq_aStateRows, he_aStateRows, h1_aStateGroupEpoch, h2_aStateGroupEpoch, hl_aStateGroupMembers, hc_aStateGroupMembers, hm_aStateGroupMembers, hr_aStateGroupMembers, hq_aStateGroupMembers, he_aStateGroupMembers, hl_aLog, hc_aLog, hm_aLog, hr_aLog, hq_aLog, he_aLog⟩ := Tail_out hI'
          obtain ⟨bNode, bNormal, bCommit, bStateNum, bStateShapeBlocks, bStateShapeSize, bStatePages, bStatePagesA, bStatePagesn, bStatePagesc, bStatePagesv, bStateRows, bStateRowsA, bStateRowsn, bStateRowsc, bStateRowsv, bStateGroupEpoch, bStateGroupMembers, bStateGroupMembersA, bStateGroupMembersn, bStateGroupMembersc, bStateGroupMembersv, bLog, bLogA, bLogn, bLogc, bLogv, rfl, rfl, h1_bNode, h2_bNode, h1_bNormal, h2_bNormal, h1_bCommit, h2_bCommit, h1_bStateNum, h2_bStateNum, h1_bStateShapeBlocks, h2_bStateShapeBlocks, h1_bStateShapeSize, h2_bStateShapeSize, hl_bStatePages, hc_bStatePages, hm_bStatePages, hr_bStatePages, hq_bStatePages, he_bStatePages, hl_bStateRows, hc_bStateRows, hm_bStateRows, hr_bStateRows, hq_bStateRows, he_bStateRows, h1_bStateGroupEpoch, h2_bStateGroupEpoch, hl_bStateGroupMembers, hc_bStateGroupMembers, hm_bStateGroupMembers, hr_bStateGroupMembers, hq_bStateGroupMembers, he_bStateGroupMembers, hl_bLog, hc_bLog, hm_bLog, hr_bLog, hq_bLog, he_bLog⟩ := Tail_out hU'
          have hLog := rowAt_of (t := tyEntry) (by decide) hl_aLog hr_aLog he_aLog
          clear hl_aStatePages hr_aStatePages hq_aStatePages he_aStatePages hl_aStateRows hr_aStateRows hq_aStateRows he_aStateRows hl_aStateGroupMembers hr_aStateGroupMembers hq_aStateGroupMembers he_aStateGroupMembers hl_aLog hr_aLog hq_aLog he_aLog
          clear hl_bStatePages hr_bStatePages hq_bStatePages he_bStatePages hl_bStateRows hr_bStateRows hq_bStateRows he_bStateRows hl_bStateGroupMembers hr_bStateGroupMembers hq_bStateGroupMembers he_bStateGroupMembers hl_bLog hr_bLog hq_bLog he_bLog
          have y0 := el_0 (n := 11) hat (hc 0 _ rfl); have y1 := el_S (n := 11) (i := 0) hat (hc 1 _ rfl); have y2 := el_S (n := 11) (i := 1) hat (hc 2 _ rfl); have y3 := el_S (n := 11) (i := 2) hat (hc 3 _ rfl); have y4 := el_S (n := 11) (i := 3) hat (hc 4 _ rfl); have y5 := el_S (n := 11) (i := 4) hat (hc 5 _ rfl); have y6 := el_S (n := 11) (i := 5) hat (hc 6 _ rfl); have y7 := el_S (n := 11) (i := 6) hat (hc 7 _ rfl); have y8 := el_S (n := 11) (i := 7) hat (hc 8 _ rfl); have y9 := el_S (n := 11) (i := 8) hat (hc 9 _ rfl); have y10 := el_S (n := 11) (i := 9) hat (hc 10 _ rfl)
          have z0 := el_0 (n := 11) hat0 (hc0 0 _ rfl); have z1 := el_S (n := 11) (i := 0) hat0 (hc0 1 _ rfl); have z2 := el_S (n := 11) (i := 1) hat0 (hc0 2 _ rfl); have z3 := el_S (n := 11) (i := 2) hat0 (hc0 3 _ rfl); have z4 := el_S (n := 11) (i := 3) hat0 (hc0 4 _ rfl); have z5 := el_S (n := 11) (i := 4) hat0 (hc0 5 _ rfl); have z6 := el_S (n := 11) (i := 5) hat0 (hc0 6 _ rfl); have z7 := el_S (n := 11) (i := 6) hat0 (hc0 7 _ rfl); have z8 := el_S (n := 11) (i := 7) hat0 (hc0 8 _ rfl); have z9 := el_S (n := 11) (i := 8) hat0 (hc0 9 _ rfl); have z10 := el_S (n := 11) (i := 9) hat0 (hc0 10 _ rfl)
          clear hat hat0 hc hc0 hA hI
          obtain ⟨wX0, hwX0⟩ : ∃ x, x = wr := ⟨_, rfl⟩
          subst hwX0
          have uy := fun (x : InC (fun W' => Below wX0.heap.size wX0 W')) => below_cell x.h y1
          have uz := fun (x : InC (fun W' => Below wX0.heap.size wX0 W')) => below_cell x.h z1
          rcases bool_two (aNormal == bNormal) with q | q
          rotate_left
          · have q2 : (aNormal != bNormal) = true := by simp only [bne, q]; rfl
            have HN := hide (hon.out (fun e => absurd e (beq_eq_false_iff_ne.1 q)))
            clear q hon hLog
            go_wp2_with fail
            refine wp_region_in (fun W' => Below wX0.heap.size wX0 W') (Below.refl _ _).drew (by kernel_rfl) (by kernel_rfl) ?_
            repeat (go_big_quiet_step (first | fail))
            refine wpQuiet_nil ?_
            intro _ hw'
            obtain ⟨nq, hw''⟩ := hw'
            subst hw''
            have hbq := nq.h
            go_wp2
            go_roundw
            case rel => exact ⟨k + 1, by omega, by go_num, hb2.trans (hbq.mono hb2.size), HN⟩
            case measure => simp [intOf]; omega
          · have q2 : (aNormal != bNormal) = false := by simp only [bne, q]; rfl
            clear q
            go_wp2_with fail
            refine wp_region_in (fun W' => Below wX0.heap.size wX0 W') (Below.refl _ _).drew (by kernel_rfl) (by kernel_rfl) ?_
            repeat (go_big_quiet_step (first | fail))
            refine wpQuiet_nil ?_
            intro _ hw'
            obtain ⟨nq, hw''⟩ := hw'
            subst hw''
            have hbq := nq.h
            obtain ⟨wX, hwX⟩ : ∃ x, nq.W = x := ⟨_, rfl⟩
            rw [hwX] at hbq
            rw [hwX]
            clear hwX
            have hbX := hb2.trans (hbq.mono hb2.size)
            have hUX := hU.below hbq
            have hLX := RowAt.go hLog hbq
            have hBL := hbq.size
            have y0 := below_cell hbq y0; have z0 := below_cell hbq z0
            have y1 := below_cell hbq y1; have z1 := below_cell hbq z1
            have y2 := below_cell hbq y2; have z2 := below_cell hbq z2
            have y3 := below_cell hbq y3; have z3 := below_cell hbq z3
            have y4 := below_cell hbq y4; have z4 := below_cell hbq z4
            have y5 := below_cell hbq y5; have z5 := below_cell hbq z5
            have y6 := below_cell hbq y6; have z6 := below_cell hbq z6
            have y7 := below_cell hbq y7; have z7 := below_cell hbq z7
            have y8 := below_cell hbq y8; have z8 := below_cell hbq z8
            have y9 := below_cell hbq y9; have z9 := below_cell hbq z9
            have y10 := below_cell hbq y10; have z10 := below_cell hbq z10
            clear uy uz hU hLog hbq
            go_wp2
            go_loopw [5] (fun mv wr => ∃ m : Nat, m ≤ aLogn ∧ mv = .int .i64 m ∧ Below wX.heap.size wX wr ∧ Hid (∀ m' x, m' < m → aLog[m']? = some x → ∀ y, atF bLog x.2.1 = some y → eqE y x = true)) (fun mv _ => aLogn - (intOf mv).toNat)
            case atStart => exact ⟨0, by omega, rfl, Below.refl _ _, hide (fun m' x h1 => by omega)⟩
            case round =>
              obtain ⟨m, hm, rfl, hbM, HM⟩ := hrel
              obtain ⟨wM, hwM⟩ : ∃ x, x = wr := ⟨_, rfl⟩
              subst hwM
              have y0 := below_cell hbM y0; have z0 := below_cell hbM z0
              have y1 := below_cell hbM y1; have z1 := below_cell hbM z1
              have y2 := below_cell hbM y2; have z2 := below_cell hbM z2
              have y3 := below_cell hbM y3; have z3 := below_cell hbM z3
              have y4 := below_cell hbM y4; have z4 := below_cell hbM z4
              have y5 := below_cell hbM y5; have z5 := below_cell hbM z5
              have y6 := below_cell hbM y6; have z6 := below_cell hbM z6
              have y7 := below_cell hbM y7; have z7 := below_cell hbM z7
              have y8 := below_cell hbM y8; have z8 := below_cell hbM z8
              have y9 := below_cell hbM y9; have z9 := below_cell hbM z9
              have y10 := below_cell hbM y10; have z10 := below_cell hbM z10
              by_cases hlt3 : m < aLogn
              · have hmI : (m : Int) < (aLogn : Int) := by omega
                obtain ⟨e, pl, es0, he, hApl, hIe, hatl, hcl⟩ := hLX.at_ (by decide) (hbM.mono hBL) hlt3
                subst hApl
                have hIe' := hIe
                obtain ⟨eKind, eNum, eView, eClient, eSerial, eOpKind, eOpAt, eOpN, eOpData, eOpDataA, eOpDatan, eOpDatac, eOpOld, eOpOldA, eOpOldn, eOpOldc, eGroupEpoch, eGroupMembers, eGroupMembersA, eGroupMembersn, eGroupMembersc, eGroupMembersv, rfl, rfl, hu_eKind, h1_eNum, h2_eNum, h1_eView, h2_eView, h1_eClient, h2_eClient, h1_eSerial, h2_eSerial, hu_eOpKind, h1_eOpAt, h2_eOpAt, h1_eOpN, h2_eOpN, hl_eOpData, hc_eOpData, hm_eOpData, hr_eOpData, hq_eOpData, hl_eOpOld, hc_eOpOld, hm_eOpOld, hr_eOpOld, hq_eOpOld, h1_eGroupEpoch, h2_eGroupEpoch, hl_eGroupMembers, hc_eGroupMembers, hm_eGroupMembers, hr_eGroupMembers, hq_eGroupMembers, he_eGroupMembers⟩ := Entry_out hIe'
                clear hl_eOpData hr_eOpData hq_eOpData hl_eOpOld hr_eOpOld hq_eOpOld hl_eGroupMembers hr_eGroupMembers hq_eGroupMembers he_eGroupMembers
                have v0 := el_0 (n := 12) hatl (hcl 0 _ rfl); have v1 := el_S (n := 12) (i := 0) hatl (hcl 1 _ rfl); have v2 := el_S (n := 12) (i := 1) hatl (hcl 2 _ rfl); have v3 := el_S (n := 12) (i := 2) hatl (hcl 3 _ rfl); have v4 := el_S (n := 12) (i := 3) hatl (hcl 4 _ rfl); have v5 := el_S (n := 12) (i := 4) hatl (hcl 5 _ rfl); have v6 := el_S (n := 12) (i := 5) hatl (hcl 6 _ rfl); have v7 := el_S (n := 12) (i := 6) hatl (hcl 7 _ rfl); have v8 := el_S (n := 12) (i := 7) hatl (hcl 8 _ rfl); have v9 := el_S (n := 12) (i := 8) hatl (hcl 9 _ rfl); have v10 := el_S (n := 12) (i := 9) hatl (hcl 10 _ rfl); have v11 := el_S (n := 12) (i := 10) hatl (hcl 11 _ rfl)
                have hnx := hide (fun (h : ∀ y, atF bLog eNum = some y → eqE y (eKind, eNum, eView, eClient, eSerial, (eOpKind, eOpAt, eOpN, eOpData, eOpOld), (eGroupEpoch, eGroupMembers)) = true) => (show ∀ m' x, m' < m + 1 → aLog[m']? = some x → ∀ y, atF bLog x.2.1 = some y → eqE y x = true from fun m' x h1 h2 => by
                  rcases Nat.lt_or_ge m' m with h' | h'
                  · exact HM.out m' x h' h2
                  · rw [show m' = m by omega, he] at h2
                    injection h2 with h2
                    rw [← h2]; exact h))
                have HL := hide (fun W (hW : Below wM.heap.size wM W) => rledger_any (hUX.below (hbM.trans (hW.mono hbM.size))))
                have HAt := hide (fun W (hW : Below wM.heap.size wM W) => rat_any (tl_led hUX) (hbM.trans (hW.mono hbM.size)) eNum)
                simp only [List.drop_succ_cons, List.drop_zero] at HL HAt
                clear hatl hcl he
                go_upto_region 11 with fail
                go_cut [6, 7] from 30 to 71 (fun s6 s7 wx => ∃ (gE : Nat) (y : EntryD) (b : Bool), s6 = .pointer (some ⟨gE, 0, none⟩) ∧ s7 = .bool b ∧ (∃ es, tyEntry.Is wX (fun _ => True) y es ∧ Blk wx gE es 58) ∧ (b = true → atF bLog eNum = some y) ∧ (b = false → atF bLog eNum = none) ∧ Below wM.heap.size wM wx)
                case first =>
                  refine wp_region_held_drew (S := fun Z => Below wM.heap.size wM Z) (by kernel_rfl) (Below.refl _ _).drew (fun hS0 => ?_)
                  refine wpAnyH_take (fuel := 20) (i := 0) (v := .slice (some p) n c) rfl (by kernel_rfl) (by kernel_rfl) (by kernel_rfl) (fun _ _ _ h => h) (Or.inl ⟨by rfl, fun Z hZ => ?_⟩) hS0 ?_
                  · go_simp
                  refine wpAnyH_take (fuel := 19) (i := 1) (v := .int .i64 (k : Nat)) rfl (by kernel_rfl) (by kernel_rfl) (by kernel_rfl) (fun _ _ _ h => h) (Or.inl ⟨by rfl, fun Z hZ => ?_⟩) hS0 ?_
                  · go_simp
                  refine wpAnyH_take (fuel := 18) (i := 2) (v := .pointer (some (p.add (k * 11)))) rfl (by kernel_rfl) (by kernel_rfl) (by kernel_rfl) (fun _ _ _ h => h) (Or.inl ⟨by rfl, fun Z hZ => ?_⟩) hS0 ?_
                  · go_simp; try (intro h; omega)
                  refine wpAnyH_take (fuel := 17) (i := 3) (v := .agg #[.int .i64 bNode, .int .i64 bNormal, .int .i64 bCommit, .int .i64 bStateNum, .int .i64 bStateShapeBlocks, .int .i64 bStateShapeSize, .slice bStatePagesA bStatePagesn bStatePagesc, .slice bStateRowsA bStateRowsn bStateRowsc, .int .i64 bStateGroupEpoch, .slice bStateGroupMembersA bStateGroupMembersn bStateGroupMembersc, .slice bLogA bLogn bLogc]) rfl (by kernel_rfl) (by kernel_rfl) (by kernel_rfl) (fun _ _ _ h => h) (Or.inl ⟨by rfl, fun Z hZ => ?_⟩) hS0 ?_
                  · have k0 := below_cell hZ z0; have k1 := below_cell hZ z1; have k2 := below_cell hZ z2; have k3 := below_cell hZ z3; have k4 := below_cell hZ z4; have k5 := below_cell hZ z5; have k6 := below_cell hZ z6; have k7 := below_cell hZ z7; have k8 := below_cell hZ z8; have k9 := below_cell hZ z9; have k10 := below_cell hZ z10; go_simp
                  refine wpAnyH_take (fuel := 16) (i := 5) (v := .slice (some p) n c) rfl (by kernel_rfl) (by kernel_rfl) (by kernel_rfl) (fun _ _ _ h => h) (Or.inl ⟨by rfl, fun Z hZ => ?_⟩) hS0 ?_
                  · go_simp
                  refine wpAnyH_take (fuel := 15) (i := 6) (v := .int .i64 (i : Nat)) rfl (by kernel_rfl) (by kernel_rfl) (by kernel_rfl) (fun _ _ _ h => h) (Or.inl ⟨by rfl, fun Z hZ => ?_⟩) hS0 ?_
                  · go_simp
                  refine wpAnyH_take (fuel := 14) (i := 7) (v := .pointer (some (p.add (i * 11)))) rfl (by kernel_rfl) (by kernel_rfl) (by kernel_rfl) (fun _ _ _ h => h) (Or.inl ⟨by rfl, fun Z hZ => ?_⟩) hS0 ?_
                  · go_simp; try (intro h; omega)
                  refine wpAnyH_take (fuel := 13) (i := 8) (v := .pointer (some ⟨(p.add (i * 11)).block, (p.add (i * 11)).off + 10, none⟩)) rfl (by kernel_rfl) (by kernel_rfl) (by kernel_rfl) (fun _ _ _ h => h) (Or.inl ⟨by rfl, fun Z hZ => ?_⟩) hS0 ?_
                  · go_simp
                  refine wpAnyH_take (fuel := 12) (i := 9) (v := .slice (some pl) aLogn aLogc) rfl (by kernel_rfl) (by kernel_rfl) (by kernel_rfl) (fun _ _ _ h => h) (Or.inl ⟨by rfl, fun Z hZ => ?_⟩) hS0 ?_
                  · have k10 := below_cell hZ y10; go_simp
                  refine wpAnyH_take (fuel := 11) (i := 10) (v := .int .i64 (m : Nat)) rfl (by kernel_rfl) (by kernel_rfl) (by kernel_rfl) (fun _ _ _ h => h) (Or.inl ⟨by rfl, fun Z hZ => ?_⟩) hS0 ?_
                  · go_simp
                  refine wpAnyH_take (fuel := 10) (i := 11) (v := .pointer (some (pl.add (m * 12)))) rfl (by kernel_rfl) (by kernel_rfl) (by kernel_rfl) (fun _ _ _ h => h) (Or.inl ⟨by rfl, fun Z hZ => ?_⟩) hS0 ?_
                  · go_simp; try (intro h; omega)
                  refine wpAnyH_take (fuel := 9) (i := 12) (v := .pointer (some ⟨(pl.add (m * 12)).block, (pl.add (m * 12)).off + 1, none⟩)) rfl (by kernel_rfl) (by kernel_rfl) (by kernel_rfl) (fun _ _ _ h => h) (Or.inl ⟨by rfl, fun Z hZ => ?_⟩) hS0 ?_
                  · go_simp
                  refine wpAnyH_take (fuel := 8) (i := 13) (v := .int .i64 eNum) rfl (by kernel_rfl) (by kernel_rfl) (by kernel_rfl) (fun _ _ _ h => h) (Or.inl ⟨by rfl, fun Z hZ => ?_⟩) hS0 ?_
                  · have k1 := below_cell hZ v1; go_simp
                  obtain ⟨X0, hX0⟩ : ∃ y, wM.drew = y := ⟨_, rfl⟩
                  have hB0 : Below wM.heap.size wM X0 := by rw [← hX0]; exact (Below.refl _ _).drew
                  rw [hX0]
                  clear hX0 hS0
                  refine all_two (fuel := 7) (i := 4) (j := 18) (by kernel_rfl) rfl rfl rfl rfl (fun Kk hK => ?_) (fun Kk hK => ?_) 
                  · go_simp
                    refine (HL.out X0 hB0).mono ?_
                    rintro e' X1 ⟨rfl, hst⟩
                    have hB1 := hB0.trans (hst.mono hB0.size)
                    clear hst
                    refine hK _ _ ⟨hB1, ?_⟩
                    clear hK Kk
                    refine all_two (fuel := 6) (i := 14) (j := 18) (by kernel_rfl) rfl rfl rfl rfl (fun Kk hK => ?_) (fun Kk hK => ?_) 
                    · go_simp
                      refine (HAt.out X1 hB1).mono ?_
                      rintro e' X2 ⟨y, es, b, rfl, hY, hyes, hyno, hst⟩
                      have hB2 := hB1.trans (hst.mono hB1.size)
                      have hYY := hY
                      obtain ⟨qKind, qNum, qView, qClient, qSerial, qOpKind, qOpAt, qOpN, qOpData, qOpDataA, qOpDatan, qOpDatac, qOpOld, qOpOldA, qOpOldn, qOpOldc, qGroupEpoch, qGroupMembers, qGroupMembersA, qGroupMembersn, qGroupMembersc, qGroupMembersv, rfl, rfl, hu_qKind, h1_qNum, h2_qNum, h1_qView, h2_qView, h1_qClient, h2_qClient, h1_qSerial, h2_qSerial, hu_qOpKind, h1_qOpAt, h2_qOpAt, h1_qOpN, h2_qOpN, hl_qOpData, hc_qOpData, hm_qOpData, hr_qOpData, hq_qOpData, hl_qOpOld, hc_qOpOld, hm_qOpOld, hr_qOpOld, hq_qOpOld, h1_qGroupEpoch, h2_qGroupEpoch, hl_qGroupMembers, hc_qGroupMembers, hm_qGroupMembers, hr_qGroupMembers, hq_qGroupMembers, he_qGroupMembers⟩ := Entry_out hY
                      have HYE := hide (And.intro hyes hyno)
                      clear hyes hyno hl_qOpData hr_qOpData hq_qOpData hl_qOpOld hr_qOpOld hq_qOpOld hl_qGroupMembers hr_qGroupMembers hq_qGroupMembers he_qGroupMembers
                      clear hst
                      refine hK _ _ ⟨hB2, ?_⟩
                      clear hK Kk
                      refine wpAnyH_take (fuel := 5) (i := 15) (v := .tuple #[.agg #[.int .u8 qKind, .int .i64 qNum, .int .i64 qView, .int .i64 qClient, .int .i64 qSerial, .int .u8 qOpKind, .int .i64 qOpAt, .int .i64 qOpN, .slice qOpDataA qOpDatan qOpDatac, .slice qOpOldA qOpOldn qOpOldc, .int .i64 qGroupEpoch, .slice qGroupMembersA qGroupMembersn qGroupMembersc], .bool b]) rfl (by kernel_rfl) (by kernel_rfl) (by kernel_rfl) (fun _ _ _ h => h) (Or.inl ⟨by rfl, fun Z hZ => ?_⟩) hB2 ?_
                      · go_simp
                      refine wpAnyH_take (fuel := 4) (i := 16) (v := .agg #[.int .u8 qKind, .int .i64 qNum, .int .i64 qView, .int .i64 qClient, .int .i64 qSerial, .int .u8 qOpKind, .int .i64 qOpAt, .int .i64 qOpN, .slice qOpDataA qOpDatan qOpDatac, .slice qOpOldA qOpOldn qOpOldc, .int .i64 qGroupEpoch, .slice qGroupMembersA qGroupMembersn qGroupMembersc]) rfl (by kernel_rfl) (by kernel_rfl) (by kernel_rfl) (fun _ _ _ h => h) (Or.inl ⟨by rfl, fun Z hZ => ?_⟩) hB2 ?_
                      · go_simp
                      refine wpAnyH_take (fuel := 3) (i := 17) (v := .bool b) rfl (by kernel_rfl) (by kernel_rfl) (by kernel_rfl) (fun _ _ _ h => h) (Or.inl ⟨by rfl, fun Z hZ => ?_⟩) hB2 ?_
                      · go_simp
                      refine all_one (fuel := 2) (i := 18) (by kernel_rfl) rfl rfl (fun Kk hK => ?_)
                      obtain ⟨gE, hgE⟩ : ∃ y, X2.heap.size = y := ⟨_, rfl⟩
                      obtain ⟨X3, hY⟩ : ∃ y, X2.alloc (.cells #[.int .u8 0, .int .i64 0, .int .i64 0, .int .i64 0, .int .i64 0, .int .u8 0, .int .i64 0, .int .i64 0, .slice none 0 0, .slice none 0 0, .int .i64 0, .slice none 0 0] 58) = y := ⟨_, rfl⟩
                      have hE : Blk X3 gE [.int .u8 0, .int .i64 0, .int .i64 0, .int .i64 0, .int .i64 0, .int .u8 0, .int .i64 0, .int .i64 0, .slice none 0 0, .slice none 0 0, .int .i64 0, .slice none 0 0] 58 := by rw [← hY, ← hgE]; exact Blk.new X2 [.int .u8 0, .int .i64 0, .int .i64 0, .int .i64 0, .int .i64 0, .int .u8 0, .int .i64 0, .int .i64 0, .slice none 0 0, .slice none 0 0, .int .i64 0, .slice none 0 0] _
                      have hst : Below X2.heap.size X2 X3 := by rw [← hY]; exact (Below.refl _ _).alloc (Nat.le_refl _) _
                      have hB3 := hB2.trans (hst.mono hB2.size)
                      have gEle : wM.heap.size ≤ gE := by have := hB2.size; omega
                      go_simp
                      try rw [hY]
                      try rw [hgE]
                      clear hY hst hgE
                      refine hK _ _ ⟨hB3, ?_⟩
                      clear hK Kk
                      refine all_one (fuel := 1) (i := 19) (by kernel_rfl) rfl rfl (fun Kk hK => ?_)
                      refine oper_store rfl rfl rfl rfl rfl hE (by kernel_rfl) rfl (by intro u hu; simp only [List.mem_cons, List.not_mem_nil, or_false] at hu; rcases hu with rfl | rfl | rfl | rfl | rfl | rfl | rfl | rfl | rfl | rfl | rfl | rfl <;> rfl) ?_
                      obtain ⟨X4, hY⟩ : ∃ y, X3.setRow gE #[.int .u8 qKind, .int .i64 qNum, .int .i64 qView, .int .i64 qClient, .int .i64 qSerial, .int .u8 qOpKind, .int .i64 qOpAt, .int .i64 qOpN, .slice qOpDataA qOpDatan qOpDatac, .slice qOpOldA qOpOldn qOpOldc, .int .i64 qGroupEpoch, .slice qGroupMembersA qGroupMembersn qGroupMembersc] = y := ⟨_, rfl⟩
                      have hB4 : Below wM.heap.size wM X4 := by rw [← hY]; exact below_setRow hB3 gEle _
                      have hE' : Blk X4 gE [.int .u8 qKind, .int .i64 qNum, .int .i64 qView, .int .i64 qClient, .int .i64 qSerial, .int .u8 qOpKind, .int .i64 qOpAt, .int .i64 qOpN, .slice qOpDataA qOpDatan qOpDatac, .slice qOpOldA qOpOldn qOpOldc, .int .i64 qGroupEpoch, .slice qGroupMembersA qGroupMembersn qGroupMembersc] 58 := by rw [← hY]; exact hE.setAll [.int .u8 qKind, .int .i64 qNum, .int .i64 qView, .int .i64 qClient, .int .i64 qSerial, .int .u8 qOpKind, .int .i64 qOpAt, .int .i64 qOpN, .slice qOpDataA qOpDatan qOpDatac, .slice qOpOldA qOpOldn qOpOldc, .int .i64 qGroupEpoch, .slice qGroupMembersA qGroupMembersn qGroupMembersc]
                      clear hE
                      have hE := hE'
                      clear hE'
                      try rw [hY]
                      clear hY
                      refine hK _ _ ⟨hB4, ?_⟩
                      clear hK Kk
                      refine all_one (fuel := 0) (i := 20) (by kernel_rfl) rfl rfl (fun Kk hK => ?_)
                      go_simp
                      refine hK _ _ ⟨hB4, ?_⟩
                      clear hK Kk
                      refine wpAnyH_done (by kernel_rfl) ?_ _
                      try simp only [Act.put, List.setIfInBounds_toArray, List.set_cons_zero, List.set_cons_succ, List.getElem_toArray, List.getElem_cons_zero, List.getElem_cons_succ]
                      go_wp2_with fail
                      go_meet
                      case rel => exact ⟨gE, _, b, rfl, rfl, ⟨_, hYY, hE⟩, HYE.out.1, HYE.out.2, hB4⟩
                    · obtain ⟨gE, hgE⟩ : ∃ y, X1.heap.size = y := ⟨_, rfl⟩
                      obtain ⟨X2, hY⟩ : ∃ y, X1.alloc (.cells #[.int .u8 0, .int .i64 0, .int .i64 0, .int .i64 0, .int .i64 0, .int .u8 0, .int .i64 0, .int .i64 0, .slice none 0 0, .slice none 0 0, .int .i64 0, .slice none 0 0] 58) = y := ⟨_, rfl⟩
                      have hE : Blk X2 gE [.int .u8 0, .int .i64 0, .int .i64 0, .int .i64 0, .int .i64 0, .int .u8 0, .int .i64 0, .int .i64 0, .slice none 0 0, .slice none 0 0, .int .i64 0, .slice none 0 0] 58 := by rw [← hY, ← hgE]; exact Blk.new X1 [.int .u8 0, .int .i64 0, .int .i64 0, .int .i64 0, .int .i64 0, .int .u8 0, .int .i64 0, .int .i64 0, .slice none 0 0, .slice none 0 0, .int .i64 0, .slice none 0 0] _
                      have hst : Below X1.heap.size X1 X2 := by rw [← hY]; exact (Below.refl _ _).alloc (Nat.le_refl _) _
                      have hB2 := hB1.trans (hst.mono hB1.size)
                      have gEle : wM.heap.size ≤ gE := by have := hB1.size; omega
                      go_simp
                      try rw [hY]
                      try rw [hgE]
                      clear hY hst hgE
                      refine hK _ _ ⟨hB2, ?_⟩
                      clear hK Kk
                      refine all_one (fuel := 5) (i := 14) (by kernel_rfl) rfl rfl (fun Kk hK => ?_)
                      go_simp
                      refine (HAt.out X2 hB2).mono ?_
                      rintro e' X3 ⟨y, es, b, rfl, hY, hyes, hyno, hst⟩
                      have hB3 := hB2.trans (hst.mono hB2.size)
                      replace hE := hE.below hst
                      have hYY := hY
                      obtain ⟨qKind, qNum, qView, qClient, qSerial, qOpKind, qOpAt, qOpN, qOpData, qOpDataA, qOpDatan, qOpDatac, qOpOld, qOpOldA, qOpOldn, qOpOldc, qGroupEpoch, qGroupMembers, qGroupMembersA, qGroupMembersn, qGroupMembersc, qGroupMembersv, rfl, rfl, hu_qKind, h1_qNum, h2_qNum, h1_qView, h2_qView, h1_qClient, h2_qClient, h1_qSerial, h2_qSerial, hu_qOpKind, h1_qOpAt, h2_qOpAt, h1_qOpN, h2_qOpN, hl_qOpData, hc_qOpData, hm_qOpData, hr_qOpData, hq_qOpData, hl_qOpOld, hc_qOpOld, hm_qOpOld, hr_qOpOld, hq_qOpOld, h1_qGroupEpoch, h2_qGroupEpoch, hl_qGroupMembers, hc_qGroupMembers, hm_qGroupMembers, hr_qGroupMembers, hq_qGroupMembers, he_qGroupMembers⟩ := Entry_out hY
                      have HYE := hide (And.intro hyes hyno)
                      clear hyes hyno hl_qOpData hr_qOpData hq_qOpData hl_qOpOld hr_qOpOld hq_qOpOld hl_qGroupMembers hr_qGroupMembers hq_qGroupMembers he_qGroupMembers
                      clear hst
                      refine hK _ _ ⟨hB3, ?_⟩
                      clear hK Kk
                      refine wpAnyH_take (fuel := 4) (i := 15) (v := .tuple #[.agg #[.int .u8 qKind, .int .i64 qNum, .int .i64 qView, .int .i64 qClient, .int .i64 qSerial, .int .u8 qOpKind, .int .i64 qOpAt, .int .i64 qOpN, .slice qOpDataA qOpDatan qOpDatac, .slice qOpOldA qOpOldn qOpOldc, .int .i64 qGroupEpoch, .slice qGroupMembersA qGroupMembersn qGroupMembersc], .bool b]) rfl (by kernel_rfl) (by kernel_rfl) (by kernel_rfl) (fun _ _ _ h => h) (Or.inl ⟨by rfl, fun Z hZ => ?_⟩) hB3 ?_
                      · go_simp
                      refine wpAnyH_take (fuel := 3) (i := 16) (v := .agg #[.int .u8 qKind, .int .i64 qNum, .int .i64 qView, .int .i64 qClient, .int .i64 qSerial, .int .u8 qOpKind, .int .i64 qOpAt, .int .i64 qOpN, .slice qOpDataA qOpDatan qOpDatac, .slice qOpOldA qOpOldn qOpOldc, .int .i64 qGroupEpoch, .slice qGroupMembersA qGroupMembersn qGroupMembersc]) rfl (by kernel_rfl) (by kernel_rfl) (by kernel_rfl) (fun _ _ _ h => h) (Or.inl ⟨by rfl, fun Z hZ => ?_⟩) hB3 ?_
                      · go_simp
                      refine wpAnyH_take (fuel := 2) (i := 17) (v := .bool b) rfl (by kernel_rfl) (by kernel_rfl) (by kernel_rfl) (fun _ _ _ h => h) (Or.inl ⟨by rfl, fun Z hZ => ?_⟩) hB3 ?_
                      · go_simp
                      refine all_one (fuel := 1) (i := 19) (by kernel_rfl) rfl rfl (fun Kk hK => ?_)
                      refine oper_store rfl rfl rfl rfl rfl hE (by kernel_rfl) rfl (by intro u hu; simp only [List.mem_cons, List.not_mem_nil, or_false] at hu; rcases hu with rfl | rfl | rfl | rfl | rfl | rfl | rfl | rfl | rfl | rfl | rfl | rfl <;> rfl) ?_
                      obtain ⟨X4, hY⟩ : ∃ y, X3.setRow gE #[.int .u8 qKind, .int .i64 qNum, .int .i64 qView, .int .i64 qClient, .int .i64 qSerial, .int .u8 qOpKind, .int .i64 qOpAt, .int .i64 qOpN, .slice qOpDataA qOpDatan qOpDatac, .slice qOpOldA qOpOldn qOpOldc, .int .i64 qGroupEpoch, .slice qGroupMembersA qGroupMembersn qGroupMembersc] = y := ⟨_, rfl⟩
                      have hB4 : Below wM.heap.size wM X4 := by rw [← hY]; exact below_setRow hB3 gEle _
                      have hE' : Blk X4 gE [.int .u8 qKind, .int .i64 qNum, .int .i64 qView, .int .i64 qClient, .int .i64 qSerial, .int .u8 qOpKind, .int .i64 qOpAt, .int .i64 qOpN, .slice qOpDataA qOpDatan qOpDatac, .slice qOpOldA qOpOldn qOpOldc, .int .i64 qGroupEpoch, .slice qGroupMembersA qGroupMembersn qGroupMembersc] 58 := by rw [← hY]; exact hE.setAll [.int .u8 qKind, .int .i64 qNum, .int .i64 qView, .int .i64 qClient, .int .i64 qSerial, .int .u8 qOpKind, .int .i64 qOpAt, .int .i64 qOpN, .slice qOpDataA qOpDatan qOpDatac, .slice qOpOldA qOpOldn qOpOldc, .int .i64 qGroupEpoch, .slice qGroupMembersA qGroupMembersn qGroupMembersc]
                      clear hE
                      have hE := hE'
                      clear hE'
                      try rw [hY]
                      clear hY
                      refine hK _ _ ⟨hB4, ?_⟩
                      clear hK Kk
                      refine all_one (fuel := 0) (i := 20) (by kernel_rfl) rfl rfl (fun Kk hK => ?_)
                      go_simp
                      refine hK _ _ ⟨hB4, ?_⟩
                      clear hK Kk
                      refine wpAnyH_done (by kernel_rfl) ?_ _
                      try simp only [Act.put, List.setIfInBounds_toArray, List.set_cons_zero, List.set_cons_succ, List.getElem_toArray, List.getElem_cons_zero, List.getElem_cons_succ]
                      go_wp2_with fail
                      go_meet
                      case rel => exact ⟨gE, _, b, rfl, rfl, ⟨_, hYY, hE⟩, HYE.out.1, HYE.out.2, hB4⟩
                  · obtain ⟨gE, hgE⟩ : ∃ y, X0.heap.size = y := ⟨_, rfl⟩
                    obtain ⟨X1, hY⟩ : ∃ y, X0.alloc (.cells #[.int .u8 0, .int .i64 0, .int .i64 0, .int .i64 0, .int .i64 0, .int .u8 0, .int .i64 0, .int .i64 0, .slice none 0 0, .slice none 0 0, .int .i64 0, .slice none 0 0] 58) = y := ⟨_, rfl⟩
                    have hE : Blk X1 gE [.int .u8 0, .int .i64 0, .int .i64 0, .int .i64 0, .int .i64 0, .int .u8 0, .int .i64 0, .int .i64 0, .slice none 0 0, .slice none 0 0, .int .i64 0, .slice none 0 0] 58 := by rw [← hY, ← hgE]; exact Blk.new X0 [.int .u8 0, .int .i64 0, .int .i64 0, .int .i64 0, .int .i64 0, .int .u8 0, .int .i64 0, .int .i64 0, .slice none 0 0, .slice none 0 0, .int .i64 0, .slice none 0 0] _
                    have hst : Below X0.heap.size X0 X1 := by rw [← hY]; exact (Below.refl _ _).alloc (Nat.le_refl _) _
                    have hB1 := hB0.trans (hst.mono hB0.size)
                    have gEle : wM.heap.size ≤ gE := by have := hB0.size; omega
                    go_simp
                    try rw [hY]
                    try rw [hgE]
                    clear hY hst hgE
                    refine hK _ _ ⟨hB1, ?_⟩
                    clear hK Kk
                    refine all_one (fuel := 6) (i := 4) (by kernel_rfl) rfl rfl (fun Kk hK => ?_)
                    go_simp
                    refine (HL.out X1 hB1).mono ?_
                    rintro e' X2 ⟨rfl, hst⟩
                    have hB2 := hB1.trans (hst.mono hB1.size)
                    replace hE := hE.below hst
                    clear hst
                    refine hK _ _ ⟨hB2, ?_⟩
                    clear hK Kk
                    refine all_one (fuel := 5) (i := 14) (by kernel_rfl) rfl rfl (fun Kk hK => ?_)
                    go_simp
                    refine (HAt.out X2 hB2).mono ?_
                    rintro e' X3 ⟨y, es, b, rfl, hY, hyes, hyno, hst⟩
                    have hB3 := hB2.trans (hst.mono hB2.size)
                    replace hE := hE.below hst
                    have hYY := hY
                    obtain ⟨qKind, qNum, qView, qClient, qSerial, qOpKind, qOpAt, qOpN, qOpData, qOpDataA, qOpDatan, qOpDatac, qOpOld, qOpOldA, qOpOldn, qOpOldc, qGroupEpoch, qGroupMembers, qGroupMembersA, qGroupMembersn, qGroupMembersc, qGroupMembersv, rfl, rfl, hu_qKind, h1_qNum, h2_qNum, h1_qView, h2_qView, h1_qClient, h2_qClient, h1_qSerial, h2_qSerial, hu_qOpKind, h1_qOpAt, h2_qOpAt, h1_qOpN, h2_qOpN, hl_qOpData, hc_qOpData, hm_qOpData, hr_qOpData, hq_qOpData, hl_qOpOld, hc_qOpOld, hm_qOpOld, hr_qOpOld, hq_qOpOld, h1_qGroupEpoch, h2_qGroupEpoch, hl_qGroupMembers, hc_qGroupMembers, hm_qGroupMembers, hr_qGroupMembers, hq_qGroupMembers, he_qGroupMembers⟩ := Entry_out hY
                    have HYE := hide (And.intro hyes hyno)
                    clear hyes hyno hl_qOpData hr_qOpData hq_qOpData hl_qOpOld hr_qOpOld hq_qOpOld hl_qGroupMembers hr_qGroupMembers hq_qGroupMembers he_qGroupMembers
                    clear hst
                    refine hK _ _ ⟨hB3, ?_⟩
                    clear hK Kk
                    refine wpAnyH_take (fuel := 4) (i := 15) (v := .tuple #[.agg #[.int .u8 qKind, .int .i64 qNum, .int .i64 qView, .int .i64 qClient, .int .i64 qSerial, .int .u8 qOpKind, .int .i64 qOpAt, .int .i64 qOpN, .slice qOpDataA qOpDatan qOpDatac, .slice qOpOldA qOpOldn qOpOldc, .int .i64 qGroupEpoch, .slice qGroupMembersA qGroupMembersn qGroupMembersc], .bool b]) rfl (by kernel_rfl) (by kernel_rfl) (by kernel_rfl) (fun _ _ _ h => h) (Or.inl ⟨by rfl, fun Z hZ => ?_⟩) hB3 ?_
                    · go_simp
                    refine wpAnyH_take (fuel := 3) (i := 16) (v := .agg #[.int .u8 qKind, .int .i64 qNum, .int .i64 qView, .int .i64 qClient, .int .i64 qSerial, .int .u8 qOpKind, .int .i64 qOpAt, .int .i64 qOpN, .slice qOpDataA qOpDatan qOpDatac, .slice qOpOldA qOpOldn qOpOldc, .int .i64 qGroupEpoch, .slice qGroupMembersA qGroupMembersn qGroupMembersc]) rfl (by kernel_rfl) (by kernel_rfl) (by kernel_rfl) (fun _ _ _ h => h) (Or.inl ⟨by rfl, fun Z hZ => ?_⟩) hB3 ?_
                    · go_simp
                    refine wpAnyH_take (fuel := 2) (i := 17) (v := .bool b) rfl (by kernel_rfl) (by kernel_rfl) (by kernel_rfl) (fun _ _ _ h => h) (Or.inl ⟨by rfl, fun Z hZ => ?_⟩) hB3 ?_
                    · go_simp
                    refine all_one (fuel := 1) (i := 19) (by kernel_rfl) rfl rfl (fun Kk hK => ?_)
                    refine oper_store rfl rfl rfl rfl rfl hE (by kernel_rfl) rfl (by intro u hu; simp only [List.mem_cons, List.not_mem_nil, or_false] at hu; rcases hu with rfl | rfl | rfl | rfl | rfl | rfl | rfl | rfl | rfl | rfl | rfl | rfl <;> rfl) ?_
                    obtain ⟨X4, hY⟩ : ∃ y, X3.setRow gE #[.int .u8 qKind, .int .i64 qNum, .int .i64 qView, .int .i64 qClient, .int .i64 qSerial, .int .u8 qOpKind, .int .i64 qOpAt, .int .i64 qOpN, .slice qOpDataA qOpDatan qOpDatac, .slice qOpOldA qOpOldn qOpOldc, .int .i64 qGroupEpoch, .slice qGroupMembersA qGroupMembersn qGroupMembersc] = y := ⟨_, rfl⟩
                    have hB4 : Below wM.heap.size wM X4 := by rw [← hY]; exact below_setRow hB3 gEle _
                    have hE' : Blk X4 gE [.int .u8 qKind, .int .i64 qNum, .int .i64 qView, .int .i64 qClient, .int .i64 qSerial, .int .u8 qOpKind, .int .i64 qOpAt, .int .i64 qOpN, .slice qOpDataA qOpDatan qOpDatac, .slice qOpOldA qOpOldn qOpOldc, .int .i64 qGroupEpoch, .slice qGroupMembersA qGroupMembersn qGroupMembersc] 58 := by rw [← hY]; exact hE.setAll [.int .u8 qKind, .int .i64 qNum, .int .i64 qView, .int .i64 qClient, .int .i64 qSerial, .int .u8 qOpKind, .int .i64 qOpAt, .int .i64 qOpN, .slice qOpDataA qOpDatan qOpDatac, .slice qOpOldA qOpOldn qOpOldc, .int .i64 qGroupEpoch, .slice qGroupMembersA qGroupMembersn qGroupMembersc]
                    clear hE
                    have hE := hE'
                    clear hE'
                    try rw [hY]
                    clear hY
                    refine hK _ _ ⟨hB4, ?_⟩
                    clear hK Kk
                    refine all_one (fuel := 0) (i := 20) (by kernel_rfl) rfl rfl (fun Kk hK => ?_)
                    go_simp
                    refine hK _ _ ⟨hB4, ?_⟩
                    clear hK Kk
                    refine wpAnyH_done (by kernel_rfl) ?_ _
                    try simp only [Act.put, List.setIfInBounds_toArray, List.set_cons_zero, List.set_cons_succ, List.getElem_toArray, List.getElem_cons_zero, List.getElem_cons_succ]
                    go_wp2_with fail
                    go_meet
                    case rel => exact ⟨gE, _, b, rfl, rfl, ⟨_, hYY, hE⟩, HYE.out.1, HYE.out.2, hB4⟩

                case rest =>
                  obtain ⟨gE, y, b, rfl, rfl, ⟨es, hY, hEc⟩, hyes, hyno, hbc⟩ := hcut
                  have hbXc := hbM.trans (hbc.mono hbM.size)
                  have hY9 := hY
                  obtain ⟨qKind, qNum, qView, qClient, qSerial, qOpKind, qOpAt, qOpN, qOpData, qOpDataA, qOpDatan, qOpDatac, qOpOld, qOpOldA, qOpOldn, qOpOldc, qGroupEpoch, qGroupMembers, qGroupMembersA, qGroupMembersn, qGroupMembersc, qGroupMembersv, rfl, rfl, hu_qKind, h1_qNum, h2_qNum, h1_qView, h2_qView, h1_qClient, h2_qClient, h1_qSerial, h2_qSerial, hu_qOpKind, h1_qOpAt, h2_qOpAt, h1_qOpN, h2_qOpN, hl_qOpData, hc_qOpData, hm_qOpData, hr_qOpData, hq_qOpData, hl_qOpOld, hc_qOpOld, hm_qOpOld, hr_qOpOld, hq_qOpOld, h1_qGroupEpoch, h2_qGroupEpoch, hl_qGroupMembers, hc_qGroupMembers, hm_qGroupMembers, hr_qGroupMembers, hq_qGroupMembers, he_qGroupMembers⟩ := Entry_out hY
                  clear hl_qOpData hr_qOpData hq_qOpData hl_qOpOld hr_qOpOld hq_qOpOld hl_qGroupMembers hr_qGroupMembers hq_qGroupMembers he_qGroupMembers
                  have hYc := hY9.below hbXc
                  have hEe := hIe.below hbc
                  have Hbb := hide (fun X (hX : Below wc.heap.size wc X) => hbXc.trans (hX.mono hbXc.size))
                  have k0 := Blk.cell hEc (j := 0) rfl; have k1 := Blk.cell hEc (j := 1) rfl; have k2 := Blk.cell hEc (j := 2) rfl; have k3 := Blk.cell hEc (j := 3) rfl; have k4 := Blk.cell hEc (j := 4) rfl; have k5 := Blk.cell hEc (j := 5) rfl; have k6 := Blk.cell hEc (j := 6) rfl; have k7 := Blk.cell hEc (j := 7) rfl; have k8 := Blk.cell hEc (j := 8) rfl; have k9 := Blk.cell hEc (j := 9) rfl; have k10 := Blk.cell hEc (j := 10) rfl; have k11 := Blk.cell hEc (j := 11) rfl
                  have v0 := below_cell hbc v0
                  have v1 := below_cell hbc v1
                  have v2 := below_cell hbc v2
                  have v3 := below_cell hbc v3
                  have v4 := below_cell hbc v4
                  have v5 := below_cell hbc v5
                  have v6 := below_cell hbc v6
                  have v7 := below_cell hbc v7
                  have v8 := below_cell hbc v8
                  have v9 := below_cell hbc v9
                  have v10 := below_cell hbc v10
                  have v11 := below_cell hbc v11
                  have y10 := below_cell hbc y10
                  have r0 := fun (x : InC (fun W' => Below wc.heap.size wc W')) => below_cell x.h k0
                  have r1 := fun (x : InC (fun W' => Below wc.heap.size wc W')) => below_cell x.h k1
                  have r2 := fun (x : InC (fun W' => Below wc.heap.size wc W')) => below_cell x.h k2
                  have r3 := fun (x : InC (fun W' => Below wc.heap.size wc W')) => below_cell x.h k3
                  have r4 := fun (x : InC (fun W' => Below wc.heap.size wc W')) => below_cell x.h k4
                  have r5 := fun (x : InC (fun W' => Below wc.heap.size wc W')) => below_cell x.h k5
                  have r6 := fun (x : InC (fun W' => Below wc.heap.size wc W')) => below_cell x.h k6
                  have r7 := fun (x : InC (fun W' => Below wc.heap.size wc W')) => below_cell x.h k7
                  have r8 := fun (x : InC (fun W' => Below wc.heap.size wc W')) => below_cell x.h k8
                  have r9 := fun (x : InC (fun W' => Below wc.heap.size wc W')) => below_cell x.h k9
                  have r10 := fun (x : InC (fun W' => Below wc.heap.size wc W')) => below_cell x.h k10
                  have r11 := fun (x : InC (fun W' => Below wc.heap.size wc W')) => below_cell x.h k11
                  have s0 := fun (x : InC (fun W' => Below wc.heap.size wc W')) => below_cell x.h v0
                  have s1 := fun (x : InC (fun W' => Below wc.heap.size wc W')) => below_cell x.h v1
                  have s2 := fun (x : InC (fun W' => Below wc.heap.size wc W')) => below_cell x.h v2
                  have s3 := fun (x : InC (fun W' => Below wc.heap.size wc W')) => below_cell x.h v3
                  have s4 := fun (x : InC (fun W' => Below wc.heap.size wc W')) => below_cell x.h v4
                  have s5 := fun (x : InC (fun W' => Below wc.heap.size wc W')) => below_cell x.h v5
                  have s6 := fun (x : InC (fun W' => Below wc.heap.size wc W')) => below_cell x.h v6
                  have s7 := fun (x : InC (fun W' => Below wc.heap.size wc W')) => below_cell x.h v7
                  have s8 := fun (x : InC (fun W' => Below wc.heap.size wc W')) => below_cell x.h v8
                  have s9 := fun (x : InC (fun W' => Below wc.heap.size wc W')) => below_cell x.h v9
                  have s10 := fun (x : InC (fun W' => Below wc.heap.size wc W')) => below_cell x.h v10
                  have s11 := fun (x : InC (fun W' => Below wc.heap.size wc W')) => below_cell x.h v11
                  have t10 := fun (x : InC (fun W' => Below wc.heap.size wc W')) => below_cell x.h y10
                  clear z0 z1 z2 z3 z4 z5 z6 z7 z8 z9 z10 HL HAt
                  cases b with
                  | false =>
                    have HN := hide (hnx.out (fun y hy => by rw [hyno rfl] at hy; cases hy))
                    clear hyes hyno hYc hEe hnx
                    go_wp2_with fail
                    refine wp_region_in (fun W' => Below wc.heap.size wc W') (Below.refl _ _).drew (by kernel_rfl) (by kernel_rfl) ?_
                    repeat (go_big_quiet_step (first | fail))
                    refine wpQuiet_nil ?_
                    intro _ hw'
                    obtain ⟨nq, hw''⟩ := hw'
                    subst hw''
                    have hbq := nq.h
                    go_wp2
                    go_roundw
                    case rel => exact ⟨m + 1, by omega, by go_num, Hbb.out _ hbq, HN⟩
                    case measure => simp [intOf]; omega
                  | true =>
                    rcases bool_two (eqE (qKind, qNum, qView, qClient, qSerial, (qOpKind, qOpAt, qOpN, qOpData, qOpOld), (qGroupEpoch, qGroupMembers)) (eKind, eNum, eView, eClient, eSerial, (eOpKind, eOpAt, eOpN, eOpData, eOpOld), (eGroupEpoch, eGroupMembers))) with q | q
                    · have HN := hide (hnx.out (fun y hy => by rw [hyes rfl] at hy; injection hy with hy; rw [← hy]; exact q))
                      have HQ := hide q
                      clear hyes hyno hnx q
                      go_wp2_with fail
                      refine wp_region_in (fun W' => Below wc.heap.size wc W') (Below.refl _ _).drew (by kernel_rfl) (by kernel_rfl) ?_
                      repeat (go_big_quiet_step (first
                        | (go_at_call 47; have hh := fun (x : InC (fun W' => Below wc.heap.size wc W')) => rsameE_any (hYc.below x.h) (hEe.below x.h); rw [HQ.out] at hh; exact Calls.in_below (hh _))))
                      refine wpQuiet_nil ?_
                      intro _ hw'
                      obtain ⟨nq, hw''⟩ := hw'
                      subst hw''
                      have hbq := nq.h
                      go_wp2
                      go_roundw
                      case rel => exact ⟨m + 1, by omega, by go_num, Hbb.out _ hbq, HN⟩
                      case measure => simp [intOf]; omega
                    · have HQ := hide q
                      clear hyes hyno hnx q
                      go_wp2_with fail
                      refine wp_region_in (fun W' => Below wc.heap.size wc W') (Below.refl _ _).drew (by kernel_rfl) (by kernel_rfl) ?_
                      repeat (go_big_quiet_step (first
                        | (go_at_call 47; have hh := fun (x : InC (fun W' => Below wc.heap.size wc W')) => rsameE_any (hYc.below x.h) (hEe.below x.h); rw [HQ.out] at hh; exact Calls.in_below (hh _))))
                      refine wpQuiet_nil ?_
                      intro _ hw'
                      obtain ⟨nq, hw''⟩ := hw'
                      subst hw''
                      have hbq := nq.h
                      go_wp2
                      go_ret
                      exact ⟨false, rfl, fun h => (by cases h), hbX.trans ((Hbb.out _ hbq).mono hbX.size)⟩
              · obtain rfl : m = aLogn := by omega
                have hag : agP (aNode, aNormal, aCommit, (aStateNum, (aStateShapeBlocks, aStateShapeSize), aStatePages, aStateRows, (aStateGroupEpoch, aStateGroupMembers)), aLog) (bNode, bNormal, bCommit, (bStateNum, (bStateShapeBlocks, bStateShapeSize), bStatePages, bStateRows, (bStateGroupEpoch, bStateGroupMembers)), bLog) := fun _ x hx y hy => by
                  obtain ⟨m', hm', rfl⟩ := List.mem_iff_getElem.1 hx
                  exact HM.out m' _ (by have := hLX.len; have h2 : aLog.length = m := this; have h3 : m' < aLog.length := hm'; omega) (List.getElem?_eq_getElem hm') y hy
                have HN := hide (hon.out hag)
                clear hag hon
                go_wp2
                go_roundw
                case rel => exact ⟨k + 1, by omega, by go_num, hbX.trans (hbM.mono hbX.size), HN⟩
                case measure => simp [intOf]; omega
        · obtain rfl : k = i := by omega
          have HN := hide (show ∀ i' k' t u, k' < i' → i' < k + 1 → l[i']? = some t → l[k']? = some u → agP t u from fun i' k' t' u h1 h2 h3 h4 => by
            rcases Nat.lt_or_ge i' k with h' | h'
            · exact HI.out i' k' t' u h1 h' h3 h4
            · obtain rfl : i' = k := by omega
              rw [HT.out] at h3
              injection h3 with h3
              rw [← h3]; exact HK.out k' u h1 h4)
          go_wp2
          go_roundw
          case rel => exact ⟨k + 1, by omega, by go_num, hb2, HN⟩
          case measure => simp [intOf]; omega
    · obtain rfl : i = n := by omega
      have HF := hide (show Agree l from fun i' k t u h1 h2 h3 h4 => HI.out i' k t u h1 (by rw [← Hl.out]; exact (List.getElem?_eq_some_iff.1 h2).1) h2 h3 h4)
      go_wp2
      go_ret
      exact ⟨true, rfl, fun _ => HF.out, hb⟩
end Go.Proofs.Ytfjffmjnnjckkaa
