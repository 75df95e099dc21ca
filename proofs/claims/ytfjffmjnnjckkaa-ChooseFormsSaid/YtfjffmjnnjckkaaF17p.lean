/- Stage 17: pages and entries held against each other (written by gen_17p.py). -/
import Derived.Test.YtfjffmjnnjckkaaF17a
namespace Go.Proofs.Ytfjffmjnnjckkaa
set_option maxRecDepth 20000
open Go.RowKit Go.Px Go.Maps
set_option linter.unusedVariables false
set_option linter.unusedSimpArgs false
theorem take_one17 {α : Type} {a b : List α} {k : Nat} {x y : α} (h : a.take k = b.take k) (ha : a[k]? = some x) (hb : b[k]? = some y) (e : x = y) : a.take (k + 1) = b.take (k + 1) := by
  rw [List.take_add_one, List.take_add_one, h, ha, hb, e]
theorem same_no17 {α : Type} [DecidableEq α] {a b : List α} {k : Nat} {x y : α} (ha : a[k]? = some x) (hb : b[k]? = some y) (e : x ≠ y) : decide (a = b) = false :=
  decide_eq_false (fun h => e (by rw [h, hb] at ha; injection ha with ha; exact ha.symm))
def eqPg (x y : PageD) : Bool := (x.1 == y.1) && ((x.2.1 == y.2.1) && (x.2.2 == y.2.2))
theorem eqPg_iff {x y : PageD} : eqPg x y = decide (x = y) := by
  obtain ⟨a, b, c⟩ := x
  obtain ⟨a', b', c'⟩ := y
  unfold eqPg
  by_cases h1 : a = a' <;> by_cases h2 : b = b' <;> by_cases h3 : c = c' <;> simp [h1, h2, h3]
instance decEntry : DecidableEq EntryD := fun x y => decidable_of_iff (eqE x y = true) ⟨eqE_eq, fun h => by rw [h]; exact eqE_self y⟩
theorem eqE_iff {x y : EntryD} : eqE x y = decide (x = y) := by
  by_cases h : x = y
  · subst h; rw [eqE_self]; simp
  · rw [decide_eq_false h]
    cases he : eqE x y with
    | false => rfl
    | true => exact absurd (eqE_eq he) h
set_option maxRecDepth 20000 in
set_option maxHeartbeats 3200000 in
theorem page1_any {w : World} {Q Q' : Nat → Prop} {x y : PageD} {cs ds : List Value} (h : tyPage.Is w Q x cs) (h' : tyPage.Is w Q' y ds) : Calls Try.prog 95 #[.agg cs.toArray, .agg ds.toArray] w fun e w' => e = .returned (.bool (decide (x = y))) ∧ Below w.heap.size w w' := by
  rw [← eqPg_iff]
  obtain ⟨aAt, aVersion, aData, aDataA, aDatan, aDatac, rfl, rfl, h1_aAt, h2_aAt, h1_aVersion, h2_aVersion, hl_aData, hc_aData, hm_aData, hr_aData, hq_aData⟩ := Page_out h
  obtain ⟨bAt, bVersion, bData, bDataA, bDatan, bDatac, rfl, rfl, h1_bAt, h2_bAt, h1_bVersion, h2_bVersion, hl_bData, hc_bData, hm_bData, hr_bData, hq_bData⟩ := Page_out h'
  have hb0 : Below w.heap.size w ((w.alloc (.cells #[.int .i64 aAt, .int .i64 aVersion, .slice aDataA aDatan aDatac] 110)).alloc (.cells #[.int .i64 bAt, .int .i64 bVersion, .slice bDataA bDatan bDatac] 110)) := ((Below.refl _ _).alloc (Nat.le_refl _) _).alloc (by simp) _
  have HQ := hide (show eqPg (aAt, aVersion, aData) (bAt, bVersion, bData) = ((aAt == bAt) && ((aVersion == bVersion) && (aData == bData))) from rfl)
  have HE := hide (bequal_any aDataA aDatan aDatac aData bDataA bDatan bDatac bData _ hl_aData (hr_aData.below hb0) hl_bData (hr_bData.below hb0))
  clear hl_aData hr_aData hq_aData
  clear hl_bData hr_bData hq_bData
  rcases bool_two (aAt == bAt) with q1 | q1
  rotate_left
  · have HR := hide (show eqPg (aAt, aVersion, aData) (bAt, bVersion, bData) = false by rw [HQ.out]; simp only [q1, Bool.false_and])
    go_enter Try.func95, Try.ntmps95
    go_wp2
    go_ret
    exact ⟨by rw [HR.out]; rfl, hb0⟩
  rcases bool_two (aVersion == bVersion) with q2 | q2
  rotate_left
  · have HR := hide (show eqPg (aAt, aVersion, aData) (bAt, bVersion, bData) = false by rw [HQ.out]; simp only [q1, q2, Bool.true_and, Bool.false_and])
    go_enter Try.func95, Try.ntmps95
    go_wp2
    go_ret
    exact ⟨by rw [HR.out]; rfl, hb0⟩
  have HR := hide (show eqPg (aAt, aVersion, aData) (bAt, bVersion, bData) = (aData == bData) by rw [HQ.out]; simp only [q1, q2, Bool.true_and])
  go_enter Try.func95, Try.ntmps95
  go_wp2_with fail
  go_fit HE.out
  rintro xx w1 ⟨rfl, rfl⟩
  go_wp2
  go_ret
  exact ⟨by rw [HR.out]; rfl, hb0⟩
set_option maxRecDepth 20000 in
set_option maxHeartbeats 6400000 in
theorem equalP_any {w : World} {B B' : Nat} {A : Option Addr} {n c : Nat} {es : List PageD} {vs : List Value} {A' : Option Addr} {n' c' : Nat} {es' : List PageD} {vs' : List Value} (hA : RowAt tyPage w B A n es vs) (hB : B ≤ w.heap.size) (hA' : RowAt tyPage w B' A' n' es' vs') (hB' : B' ≤ w.heap.size) (h63 : n ≤ 9223372036854775807) :
    Calls Try.prog 97 #[.slice A n c, .slice A' n' c', .func (.func 95) #[] #[]] w fun e w' => e = .returned (.bool (decide (es = es'))) ∧ Below w.heap.size w w' := by
  have Hn := hide hA.len
  have Hn' := hide hA'.len
  by_cases hnn : n = n'
  case neg =>
    have hf := hide (show decide (es = es') = false from decide_eq_false (fun h => hnn (by rw [← Hn.out, ← Hn'.out, h])))
    have q : ((n : Int) != (n' : Int)) = true := by simp; omega
    clear hnn
    go_enter Try.func97, Try.ntmps97
    go_wp2
    go_ret
    exact ⟨by rw [hf.out]; rfl, Below.refl _ _⟩
  subst hnn
  go_enter Try.func97, Try.ntmps97
  go_wp2
  go_loopw [17] (fun i wr => ∃ (k : Nat), k ≤ n ∧ i = .int .i64 k ∧ Hid (es.take k = es'.take k) ∧ Below w.heap.size w wr) (fun i _ => n - (intOf i).toNat)
  case atStart => exact ⟨0, by omega, rfl, hide rfl, Below.refl _ _⟩
  case round =>
    obtain ⟨k, hk, rfl, HT, hb⟩ := hrel
    by_cases hlt : k < n
    · have hkI : (k : Int) < (n : Int) := by omega
      obtain ⟨x, p, cs, hx, hAp, hI, hat, hc⟩ := hA.at_ (by decide) (hb.mono hB) hlt
      obtain ⟨y, p', ds, hy, hAp', hJ, hat', hc'⟩ := hA'.at_ (by decide) (hb.mono hB') hlt
      have hAk := hide (And.intro hA hA')
      clear hA hA'
      subst hAp
      subst hAp'
      have htk1 := hide (fun e => take_one17 HT.out hx hy e)
      have hno := hide (fun e => same_no17 hx hy e)
      have hI' := hI
      have hJ' := hJ
      obtain ⟨aAt, aVersion, aData, aDataA, aDatan, aDatac, rfl, rfl, h1_aAt, h2_aAt, h1_aVersion, h2_aVersion, hl_aData, hc_aData, hm_aData, hr_aData, hq_aData⟩ := Page_out hI'
      obtain ⟨bAt, bVersion, bData, bDataA, bDatan, bDatac, rfl, rfl, h1_bAt, h2_bAt, h1_bVersion, h2_bVersion, hl_bData, hc_bData, hm_bData, hr_bData, hq_bData⟩ := Page_out hJ'
      clear hl_aData hr_aData hq_aData
      clear hl_bData hr_bData hq_bData
      have y0 := el_0 (n := 3) hat (hc 0 _ rfl); have y1 := el_S (n := 3) (i := 0) hat (hc 1 _ rfl); have y2 := el_S (n := 3) (i := 1) hat (hc 2 _ rfl)
      have z0 := el_0 (n := 3) hat' (hc' 0 _ rfl); have z1 := el_S (n := 3) (i := 0) hat' (hc' 1 _ rfl); have z2 := el_S (n := 3) (i := 1) hat' (hc' 2 _ rfl)
      have Hb := hide (show ∀ X, Below wr.heap.size wr X → Below w.heap.size w X from fun X hX => hb.trans (hX.mono hb.size))
      have t0 := fun o => below_cell ((Below.refl wr.heap.size wr).alloc (Nat.le_refl _) o) z0
      have t1 := fun o => below_cell ((Below.refl wr.heap.size wr).alloc (Nat.le_refl _) o) z1
      have t2 := fun o => below_cell ((Below.refl wr.heap.size wr).alloc (Nat.le_refl _) o) z2
      obtain ⟨w1, hw1⟩ : ∃ X, (wr.alloc (.cells #[.int .i64 aAt, .int .i64 aVersion, .slice aDataA aDatan aDatac] 110)).alloc (.cells #[.int .i64 bAt, .int .i64 bVersion, .slice bDataA bDatan bDatac] 110) = X := ⟨_, rfl⟩
      have hb1 : Below wr.heap.size wr w1 := by rw [← hw1]; exact ((Below.refl _ _).alloc (Nat.le_refl _) _).alloc (by simp) _
      have Hw1 := hide hw1
      have HC := hide (page1_any (hI.below hb1) (hJ.below hb1))
      clear hw1 hx hy hat hat' hc hc' hI hJ z0 z1 z2
      go_wp2_with fail
      rw [Hw1.out]
      go_fit HC.out
      skip
      rintro xx w2 ⟨rfl, hb2⟩
      have hb02 := hb1.trans (hb2.mono hb1.size)
      by_cases e : (aAt, aVersion, aData) = (bAt, bVersion, bData)
      · rw [decide_eq_true e]
        have hf := hide (htk1.out e)
        clear e htk1 hno
        go_wp2
        go_roundw
        case rel => exact ⟨k + 1, by omega, by go_num, hf, Hb.out _ hb02⟩
        case measure => simp [intOf]; omega
      · rw [decide_eq_false e]
        have hf := hide (hno.out e)
        clear e htk1 hno
        go_wp2
        go_ret
        exact ⟨by rw [hf.out]; rfl, Hb.out _ hb02⟩
    · obtain rfl : k = n := by omega
      have hf := hide (show decide (es = es') = true from decide_eq_true (by
        have := HT.out
        rwa [List.take_of_length_le (by rw [Hn.out]; exact Nat.le_refl _), List.take_of_length_le (by rw [Hn'.out]; exact Nat.le_refl _)] at this))
      go_wp2
      go_ret
      exact ⟨by rw [hf.out]; rfl, hb⟩
set_option maxRecDepth 20000 in
set_option maxHeartbeats 6400000 in
theorem equalE_any {w : World} {B B' : Nat} {A : Option Addr} {n c : Nat} {es : List EntryD} {vs : List Value} {A' : Option Addr} {n' c' : Nat} {es' : List EntryD} {vs' : List Value} (hA : RowAt tyEntry w B A n es vs) (hB : B ≤ w.heap.size) (hA' : RowAt tyEntry w B' A' n' es' vs') (hB' : B' ≤ w.heap.size) (h63 : n ≤ 9223372036854775807) :
    Calls Try.prog 72 #[.slice A n c, .slice A' n' c', .func (.func 73) #[] #[]] w fun e w' => e = .returned (.bool (decide (es = es'))) ∧ Below w.heap.size w w' := by
  have Hn := hide hA.len
  have Hn' := hide hA'.len
  by_cases hnn : n = n'
  case neg =>
    have hf := hide (show decide (es = es') = false from decide_eq_false (fun h => hnn (by rw [← Hn.out, ← Hn'.out, h])))
    have q : ((n : Int) != (n' : Int)) = true := by simp; omega
    clear hnn
    go_enter Try.func72, Try.ntmps72
    go_wp2
    go_ret
    exact ⟨by rw [hf.out]; rfl, Below.refl _ _⟩
  subst hnn
  go_enter Try.func72, Try.ntmps72
  go_wp2
  go_loopw [17] (fun i wr => ∃ (k : Nat), k ≤ n ∧ i = .int .i64 k ∧ Hid (es.take k = es'.take k) ∧ Below w.heap.size w wr) (fun i _ => n - (intOf i).toNat)
  case atStart => exact ⟨0, by omega, rfl, hide rfl, Below.refl _ _⟩
  case round =>
    obtain ⟨k, hk, rfl, HT, hb⟩ := hrel
    by_cases hlt : k < n
    · have hkI : (k : Int) < (n : Int) := by omega
      obtain ⟨x, p, cs, hx, hAp, hI, hat, hc⟩ := hA.at_ (by decide) (hb.mono hB) hlt
      obtain ⟨y, p', ds, hy, hAp', hJ, hat', hc'⟩ := hA'.at_ (by decide) (hb.mono hB') hlt
      have hAk := hide (And.intro hA hA')
      clear hA hA'
      subst hAp
      subst hAp'
      have htk1 := hide (fun e => take_one17 HT.out hx hy e)
      have hno := hide (fun e => same_no17 hx hy e)
      have hI' := hI
      have hJ' := hJ
      obtain ⟨aKind, aNum, aView, aClient, aSerial, aOpKind, aOpAt, aOpN, aOpData, aOpDataA, aOpDatan, aOpDatac, aOpOld, aOpOldA, aOpOldn, aOpOldc, aGroupEpoch, aGroupMembers, aGroupMembersA, aGroupMembersn, aGroupMembersc, aGroupMembersv, rfl, rfl, hu_aKind, h1_aNum, h2_aNum, h1_aView, h2_aView, h1_aClient, h2_aClient, h1_aSerial, h2_aSerial, hu_aOpKind, h1_aOpAt, h2_aOpAt, h1_aOpN, h2_aOpN, hl_aOpData, hc_aOpData, hm_aOpData, hr_aOpData, hq_aOpData, hl_aOpOld, hc_aOpOld, hm_aOpOld, hr_aOpOld, hq_aOpOld, h1_aGroupEpoch, h2_aGroupEpoch, hl_aGroupMembers, hc_aGroupMembers, hm_aGroupMembers, hr_aGroupMembers, hq_aGroupMembers, he_aGroupMembers⟩ := Entry_out hI'
      obtain ⟨bKind, bNum, bView, bClient, bSerial, bOpKind, bOpAt, bOpN, bOpData, bOpDataA, bOpDatan, bOpDatac, bOpOld, bOpOldA, bOpOldn, bOpOldc, bGroupEpoch, bGroupMembers, bGroupMembersA, bGroupMembersn, bGroupMembersc, bGroupMembersv, rfl, rfl, hu_bKind, h1_bNum, h2_bNum, h1_bView, h2_bView, h1_bClient, h2_bClient, h1_bSerial, h2_bSerial, hu_bOpKind, h1_bOpAt, h2_bOpAt, h1_bOpN, h2_bOpN, hl_bOpData, hc_bOpData, hm_bOpData, hr_bOpData, hq_bOpData, hl_bOpOld, hc_bOpOld, hm_bOpOld, hr_bOpOld, hq_bOpOld, h1_bGroupEpoch, h2_bGroupEpoch, hl_bGroupMembers, hc_bGroupMembers, hm_bGroupMembers, hr_bGroupMembers, hq_bGroupMembers, he_bGroupMembers⟩ := Entry_out hJ'
      clear hl_aOpData hr_aOpData hq_aOpData hl_aOpOld hr_aOpOld hq_aOpOld hl_aGroupMembers hr_aGroupMembers hq_aGroupMembers he_aGroupMembers
      clear hl_bOpData hr_bOpData hq_bOpData hl_bOpOld hr_bOpOld hq_bOpOld hl_bGroupMembers hr_bGroupMembers hq_bGroupMembers he_bGroupMembers
      have y0 := el_0 (n := 12) hat (hc 0 _ rfl); have y1 := el_S (n := 12) (i := 0) hat (hc 1 _ rfl); have y2 := el_S (n := 12) (i := 1) hat (hc 2 _ rfl); have y3 := el_S (n := 12) (i := 2) hat (hc 3 _ rfl); have y4 := el_S (n := 12) (i := 3) hat (hc 4 _ rfl); have y5 := el_S (n := 12) (i := 4) hat (hc 5 _ rfl); have y6 := el_S (n := 12) (i := 5) hat (hc 6 _ rfl); have y7 := el_S (n := 12) (i := 6) hat (hc 7 _ rfl); have y8 := el_S (n := 12) (i := 7) hat (hc 8 _ rfl); have y9 := el_S (n := 12) (i := 8) hat (hc 9 _ rfl); have y10 := el_S (n := 12) (i := 9) hat (hc 10 _ rfl); have y11 := el_S (n := 12) (i := 10) hat (hc 11 _ rfl)
      have z0 := el_0 (n := 12) hat' (hc' 0 _ rfl); have z1 := el_S (n := 12) (i := 0) hat' (hc' 1 _ rfl); have z2 := el_S (n := 12) (i := 1) hat' (hc' 2 _ rfl); have z3 := el_S (n := 12) (i := 2) hat' (hc' 3 _ rfl); have z4 := el_S (n := 12) (i := 3) hat' (hc' 4 _ rfl); have z5 := el_S (n := 12) (i := 4) hat' (hc' 5 _ rfl); have z6 := el_S (n := 12) (i := 5) hat' (hc' 6 _ rfl); have z7 := el_S (n := 12) (i := 6) hat' (hc' 7 _ rfl); have z8 := el_S (n := 12) (i := 7) hat' (hc' 8 _ rfl); have z9 := el_S (n := 12) (i := 8) hat' (hc' 9 _ rfl); have z10 := el_S (n := 12) (i := 9) hat' (hc' 10 _ rfl); have z11 := el_S (n := 12) (i := 10) hat' (hc' 11 _ rfl)
      have Hb := hide (show ∀ X, Below wr.heap.size wr X → Below w.heap.size w X from fun X hX => hb.trans (hX.mono hb.size))
      have t0 := fun o => below_cell ((Below.refl wr.heap.size wr).alloc (Nat.le_refl _) o) z0
      have t1 := fun o => below_cell ((Below.refl wr.heap.size wr).alloc (Nat.le_refl _) o) z1
      have t2 := fun o => below_cell ((Below.refl wr.heap.size wr).alloc (Nat.le_refl _) o) z2
      have t3 := fun o => below_cell ((Below.refl wr.heap.size wr).alloc (Nat.le_refl _) o) z3
      have t4 := fun o => below_cell ((Below.refl wr.heap.size wr).alloc (Nat.le_refl _) o) z4
      have t5 := fun o => below_cell ((Below.refl wr.heap.size wr).alloc (Nat.le_refl _) o) z5
      have t6 := fun o => below_cell ((Below.refl wr.heap.size wr).alloc (Nat.le_refl _) o) z6
      have t7 := fun o => below_cell ((Below.refl wr.heap.size wr).alloc (Nat.le_refl _) o) z7
      have t8 := fun o => below_cell ((Below.refl wr.heap.size wr).alloc (Nat.le_refl _) o) z8
      have t9 := fun o => below_cell ((Below.refl wr.heap.size wr).alloc (Nat.le_refl _) o) z9
      have t10 := fun o => below_cell ((Below.refl wr.heap.size wr).alloc (Nat.le_refl _) o) z10
      have t11 := fun o => below_cell ((Below.refl wr.heap.size wr).alloc (Nat.le_refl _) o) z11
      obtain ⟨w1, hw1⟩ : ∃ X, (wr.alloc (.cells #[.int .u8 aKind, .int .i64 aNum, .int .i64 aView, .int .i64 aClient, .int .i64 aSerial, .int .u8 aOpKind, .int .i64 aOpAt, .int .i64 aOpN, .slice aOpDataA aOpDatan aOpDatac, .slice aOpOldA aOpOldn aOpOldc, .int .i64 aGroupEpoch, .slice aGroupMembersA aGroupMembersn aGroupMembersc] 58)).alloc (.cells #[.int .u8 bKind, .int .i64 bNum, .int .i64 bView, .int .i64 bClient, .int .i64 bSerial, .int .u8 bOpKind, .int .i64 bOpAt, .int .i64 bOpN, .slice bOpDataA bOpDatan bOpDatac, .slice bOpOldA bOpOldn bOpOldc, .int .i64 bGroupEpoch, .slice bGroupMembersA bGroupMembersn bGroupMembersc] 58) = X := ⟨_, rfl⟩
      have hb1 : Below wr.heap.size wr w1 := by rw [← hw1]; exact ((Below.refl _ _).alloc (Nat.le_refl _) _).alloc (by simp) _
      have Hw1 := hide hw1
      have HC := hide (msameE_any (hI.below hb1) (hJ.below hb1))
      clear hw1 hx hy hat hat' hc hc' hI hJ z0 z1 z2 z3 z4 z5 z6 z7 z8 z9 z10 z11
      go_wp2_with fail
      rw [Hw1.out]
      go_fit HC.out
      rw [eqE_iff]
      rintro xx w2 ⟨rfl, hb2⟩
      have hb02 := hb1.trans (hb2.mono hb1.size)
      by_cases e : (aKind, aNum, aView, aClient, aSerial, (aOpKind, aOpAt, aOpN, aOpData, aOpOld), (aGroupEpoch, aGroupMembers)) = (bKind, bNum, bView, bClient, bSerial, (bOpKind, bOpAt, bOpN, bOpData, bOpOld), (bGroupEpoch, bGroupMembers))
      · rw [decide_eq_true e]
        have hf := hide (htk1.out e)
        clear e htk1 hno
        go_wp2
        go_roundw
        case rel => exact ⟨k + 1, by omega, by go_num, hf, Hb.out _ hb02⟩
        case measure => simp [intOf]; omega
      · rw [decide_eq_false e]
        have hf := hide (hno.out e)
        clear e htk1 hno
        go_wp2
        go_ret
        exact ⟨by rw [hf.out]; rfl, Hb.out _ hb02⟩
    · obtain rfl : k = n := by omega
      have hf := hide (show decide (es = es') = true from decide_eq_true (by
        have := HT.out
        rwa [List.take_of_length_le (by rw [Hn.out]; exact Nat.le_refl _), List.take_of_length_le (by rw [Hn'.out]; exact Nat.le_refl _)] at this))
      go_wp2
      go_ret
      exact ⟨by rw [hf.out]; rfl, hb⟩
end Go.Proofs.Ytfjffmjnnjckkaa
