/- Stage 17: pages and entries held against each other, as the document says (written by gen_17p.py). -/
import Derived.Test.YtlcbelmbonaooaaF17p
namespace Go.Proofs.Ytlcbelmbonaooaa
set_option maxRecDepth 20000
open Go.RowKit Go.Px Go.Maps
set_option linter.unusedVariables false
set_option linter.unusedSimpArgs false
set_option maxRecDepth 20000 in
set_option maxHeartbeats 6400000 in
theorem samePages_any {w : World} {B B' : Nat} {A : Option Addr} {n c : Nat} {es : List PageD} {vs : List Value} {A' : Option Addr} {n' c' : Nat} {es' : List PageD} {vs' : List Value} (hA : RowAt tyPage w B A n es vs) (hB : B ≤ w.heap.size) (hA' : RowAt tyPage w B' A' n' es' vs') (hB' : B' ≤ w.heap.size) (h63 : n ≤ 9223372036854775807) :
    Calls Try.prog 83 #[.slice A n c, .slice A' n' c'] w fun e w' => e = .returned (.bool (decide (es = es'))) ∧ Below w.heap.size w w' := by
  have Hn := hide hA.len
  have Hn' := hide hA'.len
  by_cases hnn : n = n'
  case neg =>
    have hf := hide (show decide (es = es') = false from decide_eq_false (fun h => hnn (by rw [← Hn.out, ← Hn'.out, h])))
    have q : ((n : Int) != (n' : Int)) = true := by simp; omega
    clear hnn
    go_enter Try.func83, Try.ntmps83
    go_wp2
    go_ret
    exact ⟨by rw [hf.out]; rfl, Below.refl _ _⟩
  subst hnn
  go_enter Try.func83, Try.ntmps83
  go_wp2
  go_loopw [5] (fun i wr => ∃ (k : Nat), k ≤ n ∧ i = .int .i64 k ∧ Hid (es.take k = es'.take k) ∧ Below w.heap.size w wr) (fun i _ => n - (intOf i).toNat)
  case atStart => exact ⟨0, by omega, rfl, hide rfl, Below.refl _ _⟩
  case round =>
    obtain ⟨k, hk, rfl, HT, hb⟩ := hrel
    by_cases hlt : k < n
    · have hkI : (k : Int) < (n : Int) := by omega
      obtain ⟨x, p, cs, hx, hAp, hI, hat, hc⟩ := hA.at_ (by decide) (hb.mono hB) hlt
      obtain ⟨y, p', ds, hy, hAp', hJ, hat', hc'⟩ := hA'.at_ (by decide) (hb.mono hB') hlt
      have hAk := hide (And.intro hA hA')
      clear hA hA'
      subst hAp
      subst hAp'
      have htk1 := hide (fun e => take_one17 HT.out hx hy e)
      have hno := hide (fun e => same_no17 hx hy e)
      have hI' := hI
      have hJ' := hJ
      obtain ⟨aAt, aVersion, aData, aDataA, aDatan, aDatac, rfl, rfl, h1_aAt, h2_aAt, h1_aVersion, h2_aVersion, hl_aData, hc_aData, hm_aData, hr_aData, hq_aData⟩ := Page_out hI'
      obtain ⟨bAt, bVersion, bData, bDataA, bDatan, bDatac, rfl, rfl, h1_bAt, h2_bAt, h1_bVersion, h2_bVersion, hl_bData, hc_bData, hm_bData, hr_bData, hq_bData⟩ := Page_out hJ'
      
      have y0 := el_0 (n := 3) hat (hc 0 _ rfl); have y1 := el_S (n := 3) (i := 0) hat (hc 1 _ rfl); have y2 := el_S (n := 3) (i := 1) hat (hc 2 _ rfl)
      have z0 := el_0 (n := 3) hat' (hc' 0 _ rfl); have z1 := el_S (n := 3) (i := 0) hat' (hc' 1 _ rfl); have z2 := el_S (n := 3) (i := 1) hat' (hc' 2 _ rfl)
      have k0 := fun (x : InC (fun W' => Below wr.heap.size wr W')) => below_cell x.h y0
      have k1 := fun (x : InC (fun W' => Below wr.heap.size wr W')) => below_cell x.h y1
      have k2 := fun (x : InC (fun W' => Below wr.heap.size wr W')) => below_cell x.h y2
      have m0 := fun (x : InC (fun W' => Below wr.heap.size wr W')) => below_cell x.h z0
      have m1 := fun (x : InC (fun W' => Below wr.heap.size wr W')) => below_cell x.h z1
      have m2 := fun (x : InC (fun W' => Below wr.heap.size wr W')) => below_cell x.h z2
      have cv1 : ∀ x : InC (fun W' => Below wr.heap.size wr W'), (convert 26 9 (.slice aDataA aDatan aDatac)).run Try.prog x.W = .ok (.string (strOf aData)) x.W := fun x => convB aDatac hl_aData (hr_aData.below x.h)
      have cv2 : ∀ x : InC (fun W' => Below wr.heap.size wr W'), (convert 26 9 (.slice bDataA bDatan bDatac)).run Try.prog x.W = .ok (.string (strOf bData)) x.W := fun x => convB bDatac hl_bData (hr_bData.below x.h)
      clear hx hy hat hat' hc hc'
      rcases bool_two (aAt == bAt) with q1 | q1
      rotate_left
      · have e : ¬ (aAt, aVersion, aData) = (bAt, bVersion, bData) := fun h => by injection h with h1 h2; rw [h1] at q1; simp at q1
        have q1' : (aAt != bAt) = true := by simp only [bne, q1]; rfl
        have hf := hide (hno.out e)
        clear e htk1 hno
        go_wp2_with fail
        refine wp_region_in (fun W' => Below wr.heap.size wr W') (Below.refl _ _).drew (by kernel_rfl) (by kernel_rfl) ?_
        repeat (go_big_quiet_step (first | fail))
        refine wpQuiet_nil ?_
        intro _ hw'
        obtain ⟨nq, hw''⟩ := hw'
        subst hw''
        have hbq := nq.h
        go_wp2
        go_ret
        exact ⟨by rw [hf.out]; rfl, hb.trans (hbq.mono hb.size)⟩
      have q1' : (aAt != bAt) = false := by simp only [bne, q1]; rfl
      rcases bool_two (aVersion == bVersion) with q2 | q2
      rotate_left
      · have e : ¬ (aAt, aVersion, aData) = (bAt, bVersion, bData) := fun h => by injection h with h1 h2; injection h2 with h2 h3; rw [h2] at q2; simp at q2
        have q2' : (aVersion != bVersion) = true := by simp only [bne, q2]; rfl
        have hf := hide (hno.out e)
        clear e htk1 hno
        go_wp2_with fail
        refine wp_region_in (fun W' => Below wr.heap.size wr W') (Below.refl _ _).drew (by kernel_rfl) (by kernel_rfl) ?_
        repeat (go_big_quiet_step (first | fail))
        refine wpQuiet_nil ?_
        intro _ hw'
        obtain ⟨nq, hw''⟩ := hw'
        subst hw''
        have hbq := nq.h
        go_wp2
        go_ret
        exact ⟨by rw [hf.out]; rfl, hb.trans (hbq.mono hb.size)⟩
      have q2' : (aVersion != bVersion) = false := by simp only [bne, q2]; rfl
      rcases bool_two (aData == bData) with q3 | q3
      rotate_left
      · have e : ¬ (aAt, aVersion, aData) = (bAt, bVersion, bData) := fun h => by injection h with h1 h2; injection h2 with h2 h3; rw [h3] at q3; simp at q3
        have q3' : (aData != bData) = true := by simp only [bne, q3]; rfl
        have hf := hide (hno.out e)
        clear e htk1 hno
        go_wp2_with fail
        refine wp_region_in (fun W' => Below wr.heap.size wr W') (Below.refl _ _).drew (by kernel_rfl) (by kernel_rfl) ?_
        repeat (go_big_quiet_step (first | fail))
        refine wpQuiet_nil ?_
        intro _ hw'
        obtain ⟨nq, hw''⟩ := hw'
        subst hw''
        have hbq := nq.h
        go_wp2
        go_ret
        exact ⟨by rw [hf.out]; rfl, hb.trans (hbq.mono hb.size)⟩
      have q3' : (aData != bData) = false := by simp only [bne, q3]; rfl
      have e : (aAt, aVersion, aData) = (bAt, bVersion, bData) := by rw [beq_iff_eq.1 q1, beq_iff_eq.1 q2, beq_iff_eq.1 q3]
      have hf := hide (htk1.out e)
      clear e htk1 hno
      go_wp2_with fail
      refine wp_region_in (fun W' => Below wr.heap.size wr W') (Below.refl _ _).drew (by kernel_rfl) (by kernel_rfl) ?_
      repeat (go_big_quiet_step (first | fail))
      refine wpQuiet_nil ?_
      intro _ hw'
      obtain ⟨nq, hw''⟩ := hw'
      subst hw''
      have hbq := nq.h
      go_wp2
      go_roundw
      case rel => exact ⟨k + 1, by omega, by go_num, hf, hb.trans (hbq.mono hb.size)⟩
      case measure => simp [intOf]; omega
    · obtain rfl : k = n := by omega
      have hf := hide (show decide (es = es') = true from decide_eq_true (by
        have := HT.out
        rwa [List.take_of_length_le (by rw [Hn.out]; exact Nat.le_refl _), List.take_of_length_le (by rw [Hn'.out]; exact Nat.le_refl _)] at this))
      go_wp2
      go_ret
      exact ⟨by rw [hf.out]; rfl, hb⟩
set_option maxRecDepth 20000 in
set_option maxHeartbeats 6400000 in
theorem sameEnts_any {w : World} {B B' : Nat} {A : Option Addr} {n c : Nat} {es : List EntryD} {vs : List Value} {A' : Option Addr} {n' c' : Nat} {es' : List EntryD} {vs' : List Value} (hA : RowAt tyEntry w B A n es vs) (hB : B ≤ w.heap.size) (hA' : RowAt tyEntry w B' A' n' es' vs') (hB' : B' ≤ w.heap.size) (h63 : n ≤ 9223372036854775807) :
    Calls Try.prog 63 #[.slice A n c, .slice A' n' c'] w fun e w' => e = .returned (.bool (decide (es = es'))) ∧ Below w.heap.size w w' := by
  have Hn := hide hA.len
  have Hn' := hide hA'.len
  by_cases hnn : n = n'
  case neg =>
    have hf := hide (show decide (es = es') = false from decide_eq_false (fun h => hnn (by rw [← Hn.out, ← Hn'.out, h])))
    have q : ((n : Int) != (n' : Int)) = true := by simp; omega
    clear hnn
    go_enter Try.func63, Try.ntmps63
    go_wp2
    go_ret
    exact ⟨by rw [hf.out]; rfl, Below.refl _ _⟩
  subst hnn
  go_enter Try.func63, Try.ntmps63
  go_wp2
  go_loopw [5] (fun i wr => ∃ (k : Nat), k ≤ n ∧ i = .int .i64 k ∧ Hid (es.take k = es'.take k) ∧ Below w.heap.size w wr) (fun i _ => n - (intOf i).toNat)
  case atStart => exact ⟨0, by omega, rfl, hide rfl, Below.refl _ _⟩
  case round =>
    obtain ⟨k, hk, rfl, HT, hb⟩ := hrel
    by_cases hlt : k < n
    · have hkI : (k : Int) < (n : Int) := by omega
      obtain ⟨x, p, cs, hx, hAp, hI, hat, hc⟩ := hA.at_ (by decide) (hb.mono hB) hlt
      obtain ⟨y, p', ds, hy, hAp', hJ, hat', hc'⟩ := hA'.at_ (by decide) (hb.mono hB') hlt
      have hAk := hide (And.intro hA hA')
      clear hA hA'
      subst hAp
      subst hAp'
      have htk1 := hide (fun e => take_one17 HT.out hx hy e)
      have hno := hide (fun e => same_no17 hx hy e)
      have hI' := hI
      have hJ' := hJ
      obtain ⟨aKind, aNum, aView, aClient, aSerial, aOpKind, aOpAt, aOpN, aOpData, aOpDataA, aOpDatan, aOpDatac, aOpOld, aOpOldA, aOpOldn, aOpOldc, aGroupEpoch, aGroupMembers, aGroupMembersA, aGroupMembersn, aGroupMembersc, aGroupMembersv, rfl, rfl, hu_aKind, h1_aNum, h2_aNum, h1_aView, h2_aView, h1_aClient, h2_aClient, h1_aSerial, h2_aSerial, hu_aOpKind, h1_aOpAt, h2_aOpAt, h1_aOpN, h2_aOpN, hl_aOpData, hc_aOpData, hm_aOpData, hr_aOpData, hq_aOpData, hl_aOpOld, hc_aOpOld, hm_aOpOld, hr_aOpOld, hq_aOpOld, h1_aGroupEpoch, h2_aGroupEpoch, hl_aGroupMembers, hc_aGroupMembers, hm_aGroupMembers, hr_aGroupMembers, hq_aGroupMembers, he_aGroupMembers⟩ := Entry_out hI'
      obtain ⟨bKind, bNum, bView, bClient, bSerial, bOpKind, bOpAt, bOpN, bOpData, bOpDataA, bOpDatan, bOpDatac, bOpOld, bOpOldA, bOpOldn, bOpOldc, bGroupEpoch, bGroupMembers, bGroupMembersA, bGroupMembersn, bGroupMembersc, bGroupMembersv, rfl, rfl, hu_bKind, h1_bNum, h2_bNum, h1_bView, h2_bView, h1_bClient, h2_bClient, h1_bSerial, h2_bSerial, hu_bOpKind, h1_bOpAt, h2_bOpAt, h1_bOpN, h2_bOpN, hl_bOpData, hc_bOpData, hm_bOpData, hr_bOpData, hq_bOpData, hl_bOpOld, hc_bOpOld, hm_bOpOld, hr_bOpOld, hq_bOpOld, h1_bGroupEpoch, h2_bGroupEpoch, hl_bGroupMembers, hc_bGroupMembers, hm_bGroupMembers, hr_bGroupMembers, hq_bGroupMembers, he_bGroupMembers⟩ := Entry_out hJ'
      clear hl_aOpData hr_aOpData hq_aOpData hl_aOpOld hr_aOpOld hq_aOpOld hl_aGroupMembers hr_aGroupMembers hq_aGroupMembers he_aGroupMembers
      clear hl_bOpData hr_bOpData hq_bOpData hl_bOpOld hr_bOpOld hq_bOpOld hl_bGroupMembers hr_bGroupMembers hq_bGroupMembers he_bGroupMembers
      have y0 := el_0 (n := 12) hat (hc 0 _ rfl); have y1 := el_S (n := 12) (i := 0) hat (hc 1 _ rfl); have y2 := el_S (n := 12) (i := 1) hat (hc 2 _ rfl); have y3 := el_S (n := 12) (i := 2) hat (hc 3 _ rfl); have y4 := el_S (n := 12) (i := 3) hat (hc 4 _ rfl); have y5 := el_S (n := 12) (i := 4) hat (hc 5 _ rfl); have y6 := el_S (n := 12) (i := 5) hat (hc 6 _ rfl); have y7 := el_S (n := 12) (i := 6) hat (hc 7 _ rfl); have y8 := el_S (n := 12) (i := 7) hat (hc 8 _ rfl); have y9 := el_S (n := 12) (i := 8) hat (hc 9 _ rfl); have y10 := el_S (n := 12) (i := 9) hat (hc 10 _ rfl); have y11 := el_S (n := 12) (i := 10) hat (hc 11 _ rfl)
      have z0 := el_0 (n := 12) hat' (hc' 0 _ rfl); have z1 := el_S (n := 12) (i := 0) hat' (hc' 1 _ rfl); have z2 := el_S (n := 12) (i := 1) hat' (hc' 2 _ rfl); have z3 := el_S (n := 12) (i := 2) hat' (hc' 3 _ rfl); have z4 := el_S (n := 12) (i := 3) hat' (hc' 4 _ rfl); have z5 := el_S (n := 12) (i := 4) hat' (hc' 5 _ rfl); have z6 := el_S (n := 12) (i := 5) hat' (hc' 6 _ rfl); have z7 := el_S (n := 12) (i := 6) hat' (hc' 7 _ rfl); have z8 := el_S (n := 12) (i := 7) hat' (hc' 8 _ rfl); have z9 := el_S (n := 12) (i := 8) hat' (hc' 9 _ rfl); have z10 := el_S (n := 12) (i := 9) hat' (hc' 10 _ rfl); have z11 := el_S (n := 12) (i := 10) hat' (hc' 11 _ rfl)
      have k0 := fun (x : InC (fun W' => Below wr.heap.size wr W')) => below_cell x.h y0
      have k1 := fun (x : InC (fun W' => Below wr.heap.size wr W')) => below_cell x.h y1
      have k2 := fun (x : InC (fun W' => Below wr.heap.size wr W')) => below_cell x.h y2
      have k3 := fun (x : InC (fun W' => Below wr.heap.size wr W')) => below_cell x.h y3
      have k4 := fun (x : InC (fun W' => Below wr.heap.size wr W')) => below_cell x.h y4
      have k5 := fun (x : InC (fun W' => Below wr.heap.size wr W')) => below_cell x.h y5
      have k6 := fun (x : InC (fun W' => Below wr.heap.size wr W')) => below_cell x.h y6
      have k7 := fun (x : InC (fun W' => Below wr.heap.size wr W')) => below_cell x.h y7
      have k8 := fun (x : InC (fun W' => Below wr.heap.size wr W')) => below_cell x.h y8
      have k9 := fun (x : InC (fun W' => Below wr.heap.size wr W')) => below_cell x.h y9
      have k10 := fun (x : InC (fun W' => Below wr.heap.size wr W')) => below_cell x.h y10
      have k11 := fun (x : InC (fun W' => Below wr.heap.size wr W')) => below_cell x.h y11
      have m0 := fun (x : InC (fun W' => Below wr.heap.size wr W')) => below_cell x.h z0
      have m1 := fun (x : InC (fun W' => Below wr.heap.size wr W')) => below_cell x.h z1
      have m2 := fun (x : InC (fun W' => Below wr.heap.size wr W')) => below_cell x.h z2
      have m3 := fun (x : InC (fun W' => Below wr.heap.size wr W')) => below_cell x.h z3
      have m4 := fun (x : InC (fun W' => Below wr.heap.size wr W')) => below_cell x.h z4
      have m5 := fun (x : InC (fun W' => Below wr.heap.size wr W')) => below_cell x.h z5
      have m6 := fun (x : InC (fun W' => Below wr.heap.size wr W')) => below_cell x.h z6
      have m7 := fun (x : InC (fun W' => Below wr.heap.size wr W')) => below_cell x.h z7
      have m8 := fun (x : InC (fun W' => Below wr.heap.size wr W')) => below_cell x.h z8
      have m9 := fun (x : InC (fun W' => Below wr.heap.size wr W')) => below_cell x.h z9
      have m10 := fun (x : InC (fun W' => Below wr.heap.size wr W')) => below_cell x.h z10
      have m11 := fun (x : InC (fun W' => Below wr.heap.size wr W')) => below_cell x.h z11
      
      clear hx hy hat hat' hc hc'
      by_cases e : (aKind, aNum, aView, aClient, aSerial, (aOpKind, aOpAt, aOpN, aOpData, aOpOld), (aGroupEpoch, aGroupMembers)) = (bKind, bNum, bView, bClient, bSerial, (bOpKind, bOpAt, bOpN, bOpData, bOpOld), (bGroupEpoch, bGroupMembers))
      rotate_left
      · have HE := hide (show eqE (aKind, aNum, aView, aClient, aSerial, (aOpKind, aOpAt, aOpN, aOpData, aOpOld), (aGroupEpoch, aGroupMembers)) (bKind, bNum, bView, bClient, bSerial, (bOpKind, bOpAt, bOpN, bOpData, bOpOld), (bGroupEpoch, bGroupMembers)) = false by rw [eqE_iff, decide_eq_false e])
        have hf := hide (hno.out e)
        clear e htk1 hno
        go_wp2_with fail
        refine wp_region_in (fun W' => Below wr.heap.size wr W') (Below.refl _ _).drew (by kernel_rfl) (by kernel_rfl) ?_
        repeat (go_big_quiet_step (first
          | (go_at_call 85; have hh := fun (x : InC (fun W' => Below wr.heap.size wr W')) => rsameE_any (hI.below x.h) (hJ.below x.h); rw [HE.out] at hh; exact Calls.in_below (hh _))))
        refine wpQuiet_nil ?_
        intro _ hw'
        obtain ⟨nq, hw''⟩ := hw'
        subst hw''
        have hbq := nq.h
        go_wp2
        go_ret
        exact ⟨by rw [hf.out]; rfl, hb.trans (hbq.mono hb.size)⟩
      have HE := hide (show eqE (aKind, aNum, aView, aClient, aSerial, (aOpKind, aOpAt, aOpN, aOpData, aOpOld), (aGroupEpoch, aGroupMembers)) (bKind, bNum, bView, bClient, bSerial, (bOpKind, bOpAt, bOpN, bOpData, bOpOld), (bGroupEpoch, bGroupMembers)) = true by rw [eqE_iff, decide_eq_true e])
      have hf := hide (htk1.out e)
      clear e htk1 hno
      go_wp2_with fail
      refine wp_region_in (fun W' => Below wr.heap.size wr W') (Below.refl _ _).drew (by kernel_rfl) (by kernel_rfl) ?_
      repeat (go_big_quiet_step (first
        | (go_at_call 85; have hh := fun (x : InC (fun W' => Below wr.heap.size wr W')) => rsameE_any (hI.below x.h) (hJ.below x.h); rw [HE.out] at hh; exact Calls.in_below (hh _))))
      refine wpQuiet_nil ?_
      intro _ hw'
      obtain ⟨nq, hw''⟩ := hw'
      subst hw''
      have hbq := nq.h
      go_wp2
      go_roundw
      case rel => exact ⟨k + 1, by omega, by go_num, hf, hb.trans (hbq.mono hb.size)⟩
      case measure => simp [intOf]; omega
    · obtain rfl : k = n := by omega
      have hf := hide (show decide (es = es') = true from decide_eq_true (by
        have := HT.out
        rwa [List.take_of_length_le (by rw [Hn.out]; exact Nat.le_refl _), List.take_of_length_le (by rw [Hn'.out]; exact Nat.le_refl _)] at this))
      go_wp2
      go_ret
      exact ⟨by rw [hf.out]; rfl, hb⟩
end Go.Proofs.Ytlcbelmbonaooaa
