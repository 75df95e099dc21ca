/- Stage 24: which messages may be: the small questions. -/
import Derived.Test.YtlcbelmbonaooaaF24j
import Derived.Test.YtlcbelmbonaooaaF17r
import Derived.Test.YtlcbelmbonaooaaF17s
namespace Go.Px
open Go.RowKit
set_option linter.unusedVariables false
/-- The state that says nothing. -/
def zeroS : StateD := (0, (0, 0), [], [], (0, []))
end Go.Px
namespace Go.Proofs.Ytlcbelmbonaooaa
set_option maxRecDepth 20000
open Go.RowKit Go.Px Go.Maps
set_option linter.unusedVariables false
set_option linter.unusedSimpArgs false
def opN (o : OpD) : Bool := noB o.1 o.2.1 o.2.2.1 o.2.2.2.1 o.2.2.2.2
def opF (o : OpD) : Int := fmE o.1 o.2.1 o.2.2.1 o.2.2.2.1.length o.2.2.2.2.length
def reN (r : ResultD) : Bool := (r.1 == 0) && ((r.2.length : Int) == 0)
def reF (r : ResultD) : Int := rsE r.1 r.2.length
def grN (g : GroupD) : Bool := ngB g.1 g.2.length
def grK (g : GroupD) : Bool := grpOk g.1 g.2
def stN (s : StateD) : Bool := eqSt s zeroS
def endB (n : Int) : Bool := nodeB n || (decide (-4611686018427387904 ≤ n) && decide (n ≤ -1))
def opK (o : OpD) : Bool := opN o || (opF o == 0)
def reK (r : ResultD) : Bool := reN r || (reF r == 0)
def grZ (g : GroupD) : Bool := grN g || grK g
def stK (s : StateD) : Bool := stN s || stateB s
theorem endB_who (n : Int) : endB n = (decide (-4611686018427387904 ≤ n) && decide (n < 64)) := by
  unfold endB nodeB
  by_cases h1 : 0 ≤ n <;> by_cases h2 : n < 64 <;> by_cases h3 : -4611686018427387904 ≤ n <;> by_cases h4 : n ≤ -1 <;> simp [h1, h2, h3, h4] <;> omega
set_option maxHeartbeats 800000 in
theorem isEnd_any (n : Int) (w : World) : Calls Try.prog 64 #[.int .i64 n] w fun e w' => e = .returned (.bool (endB n)) ∧ w = w' := by
  rcases bool_two (nodeB n) with q | q
  · have Hq := hide q
    have HR := hide (show endB n = true by unfold endB; rw [q]; rfl)
    clear q
    go_enter Try.func64, Try.ntmps64
    go_wp2_with fail
    go_fit (node_any n w)
    rw [Hq.out]
    rintro xx wz ⟨rfl, rfl⟩
    go_wp2
    go_ret
    exact ⟨by rw [HR.out]; rfl, rfl⟩
  · have Hq := hide q
    rcases bool_two (decide (-4611686018427387904 ≤ n)) with q1 | q1
    · rcases bool_two (decide (n ≤ -1)) with q2 | q2
      all_goals
        have HR := hide (show endB n = decide (n ≤ -1) by unfold endB; rw [q, q1]; rfl)
        rw [q2] at HR
        clear q
        go_enter Try.func64, Try.ntmps64
        go_wp2_with fail
        go_fit (node_any n w)
        rw [Hq.out]
        rintro xx wz ⟨rfl, rfl⟩
        go_wp2
        go_ret
        exact ⟨by rw [HR.out]; rfl, rfl⟩
    · have HR := hide (show endB n = false by unfold endB; rw [q, q1]; rfl)
      clear q
      go_enter Try.func64, Try.ntmps64
      go_wp2_with fail
      go_fit (node_any n w)
      rw [Hq.out]
      rintro xx wz ⟨rfl, rfl⟩
      go_wp2
      go_ret
      exact ⟨by rw [HR.out]; rfl, rfl⟩
set_option maxHeartbeats 800000 in
theorem who_any (n : Int) (w : World) : Calls Try.prog 73 #[.int .i64 n] w fun e w' => e = .returned (.bool (endB n)) ∧ w = w' := by
  rcases bool_two (decide (-4611686018427387904 ≤ n)) with q1 | q1
  · rcases bool_two (decide (n < 64)) with q2 | q2
    all_goals
      have HR := hide (show endB n = decide (n < 64) by rw [endB_who, q1]; rfl)
      rw [q2] at HR
      go_enter Try.func73, Try.ntmps73
      go_wp2
      go_ret
      exact ⟨by rw [HR.out]; rfl, rfl⟩
  · have HR := hide (show endB n = false by rw [endB_who, q1]; rfl)
    go_enter Try.func73, Try.ntmps73
    go_wp2
    go_ret
    exact ⟨by rw [HR.out]; rfl, rfl⟩
theorem u8_zero (k : Nat) : ((k : Int) == 0) = (k == 0) := by
  by_cases h : k = 0
  · subst h; rfl
  · rw [beq_eq_false_iff_ne.2 h, beq_eq_false_iff_ne.2 (by omega)]
set_option maxHeartbeats 800000 in
theorem zeroResult_any (k : Nat) (A : Option Addr) (n c : Nat) (bs : List UInt8) (w : World) (hn : bs.length = n) : Calls Try.prog 75 #[resv k A n c] w fun x w' => x = .returned (.bool (reN (k, bs))) ∧ Below w.heap.size w w' := by
  have hb0 : Below w.heap.size w (w.alloc (.cells #[.int .u8 k, .slice A n c] 49)) := (Below.refl _ _).alloc (Nat.le_refl _) _
  subst hn
  rcases bool_two ((k : Int) == 0) with q1 | q1
  · rcases bool_two ((bs.length : Int) == 0) with q2 | q2
    all_goals
      have HF := hide (show reN (k, bs) = ((bs.length : Int) == 0) by unfold reN; rw [← u8_zero, q1]; rfl)
      rw [q2] at HF
      go_enter Try.func75, Try.ntmps75
      go_wp2
      go_ret
      exact ⟨by rw [HF.out]; rfl, hb0⟩
  · have HF := hide (show reN (k, bs) = false by unfold reN; rw [← u8_zero, q1]; rfl)
    go_enter Try.func75, Try.ntmps75
    go_wp2
    go_ret
    exact ⟨by rw [HF.out]; rfl, hb0⟩
set_option maxHeartbeats 800000 in
theorem zeroGroup_any (e : Int) (A : Option Addr) (n c : Nat) (w : World) : Calls Try.prog 77 #[grp e A n c] w fun x w' => x = .returned (.bool (ngB e n)) ∧ Below w.heap.size w w' := by
  have hb0 : Below w.heap.size w (w.alloc (.cells #[.int .i64 e, .slice A n c] 24)) := (Below.refl _ _).alloc (Nat.le_refl _) _
  rcases bool_two (e == 0) with q1 | q1
  · rcases bool_two ((n : Int) == 0) with q2 | q2
    all_goals
      have HF := hide (show ngB e n = ((n : Int) == 0) by unfold ngB; rw [q1]; rfl)
      rw [q2] at HF
      go_enter Try.func77, Try.ntmps77
      go_wp2
      go_ret
      exact ⟨by rw [HF.out]; rfl, hb0⟩
  · have HF := hide (show ngB e n = false by unfold ngB; rw [q1]; rfl)
    go_enter Try.func77, Try.ntmps77
    go_wp2
    go_ret
    exact ⟨by rw [HF.out]; rfl, hb0⟩
section
variable {w : World} {Q : Nat → Prop}
theorem noOp_is {x : OpD} {cs : List Value} (h : tyOp.Is w Q x cs) : Calls Try.prog 33 #[.agg cs.toArray] w fun e w' => e = .returned (.bool (opN x)) ∧ Below w.heap.size w w' := by
  obtain ⟨sKind, sAt, sN, sData, sDataA, sDatan, sDatac, sOld, sOldA, sOldn, sOldc, rfl, rfl, hu_sKind, h1_sAt, h2_sAt, h1_sN, h2_sN, hl_sData, hc_sData, hm_sData, hr_sData, hq_sData, hl_sOld, hc_sOld, hm_sOld, hr_sOld, hq_sOld⟩ := Op_out h
  exact noOp_any _ _ _ _ _ _ _ _ _ _ _ _ hl_sData hl_sOld hr_sData hr_sOld
theorem form_is {x : OpD} {cs : List Value} (h : tyOp.Is w Q x cs) : Calls Try.prog 58 #[.agg cs.toArray] w fun e w' => e = .returned (.int .i64 (opF x)) ∧ Below w.heap.size w w' := by
  obtain ⟨sKind, sAt, sN, sData, sDataA, sDatan, sDatac, sOld, sOldA, sOldn, sOldc, rfl, rfl, hu_sKind, h1_sAt, h2_sAt, h1_sN, h2_sN, hl_sData, hc_sData, hm_sData, hr_sData, hq_sData, hl_sOld, hc_sOld, hm_sOld, hr_sOld, hq_sOld⟩ := Op_out h
  unfold opF
  simp only [hl_sData, hl_sOld]
  exact form_any _ _ _ _ _ _ _ _ _ _ hu_sKind
theorem rform_is {x : OpD} {cs : List Value} (h : tyOp.Is w Q x cs) : Calls Try.prog 37 #[.agg cs.toArray] w fun e w' => e = .returned (.int .i64 (opF x)) ∧ Below w.heap.size w w' := by
  obtain ⟨sKind, sAt, sN, sData, sDataA, sDatan, sDatac, sOld, sOldA, sOldn, sOldc, rfl, rfl, hu_sKind, h1_sAt, h2_sAt, h1_sN, h2_sN, hl_sData, hc_sData, hm_sData, hr_sData, hq_sData, hl_sOld, hc_sOld, hm_sOld, hr_sOld, hq_sOld⟩ := Op_out h
  unfold opF
  simp only [hl_sData, hl_sOld]
  exact rform_any _ _ _ _ _ _ _ _ _ _ hu_sKind
theorem rnoOp_is {x : OpD} {cs : List Value} (h : tyOp.Is w Q x cs) : Calls Try.prog 35 #[.agg cs.toArray, .agg #[.int .u8 0, .int .i64 0, .int .i64 0, .slice none 0 0, .slice none 0 0]] w fun e w' => e = .returned (.bool (opN x)) ∧ Below w.heap.size w w' := by
  obtain ⟨sKind, sAt, sN, sData, sDataA, sDatan, sDatac, sOld, sOldA, sOldn, sOldc, rfl, rfl, hu_sKind, h1_sAt, h2_sAt, h1_sN, h2_sN, hl_sData, hc_sData, hm_sData, hr_sData, hq_sData, hl_sOld, hc_sOld, hm_sOld, hr_sOld, hq_sOld⟩ := Op_out h
  exact rosame_any sKind sAt sN sDataA sDatan sDatac sData sOldA sOldn sOldc sOld 0 0 0 none 0 0 [] none 0 0 [] w hl_sData hl_sOld rfl rfl hr_sData hr_sOld Rd.nil Rd.nil
theorem result_is {x : ResultD} {cs : List Value} (h : tyResult.Is w Q x cs) : Calls Try.prog 66 #[.agg cs.toArray] w fun e w' => e = .returned (.int .i64 (reF x)) ∧ Below w.heap.size w w' := by
  obtain ⟨sCode, sData, sDataA, sDatan, sDatac, rfl, rfl, hu_sCode, hl_sData, hc_sData, hm_sData, hr_sData, hq_sData⟩ := Result_out h
  unfold reF
  simp only [hl_sData]
  exact result_any _ _ _ _ _ hu_sCode
theorem rresult_is {x : ResultD} {cs : List Value} (h : tyResult.Is w Q x cs) : Calls Try.prog 76 #[.agg cs.toArray] w fun e w' => e = .returned (.int .i64 (reF x)) ∧ Below w.heap.size w w' := by
  obtain ⟨sCode, sData, sDataA, sDatan, sDatac, rfl, rfl, hu_sCode, hl_sData, hc_sData, hm_sData, hr_sData, hq_sData⟩ := Result_out h
  unfold reF
  simp only [hl_sData]
  exact rresult_any _ _ _ _ _ hu_sCode
theorem zeroResult_is {x : ResultD} {cs : List Value} (h : tyResult.Is w Q x cs) : Calls Try.prog 75 #[.agg cs.toArray] w fun e w' => e = .returned (.bool (reN x)) ∧ Below w.heap.size w w' := by
  obtain ⟨sCode, sData, sDataA, sDatan, sDatac, rfl, rfl, hu_sCode, hl_sData, hc_sData, hm_sData, hr_sData, hq_sData⟩ := Result_out h
  exact zeroResult_any _ _ _ _ _ _ hl_sData
theorem noGroup_is {x : GroupD} {cs : List Value} (h : tyGroup.Is w Q x cs) : Calls Try.prog 34 #[.agg cs.toArray] w fun e w' => e = .returned (.bool (grN x)) ∧ Below w.heap.size w w' := by
  obtain ⟨sEpoch, sMembers, sMembersA, sMembersn, sMembersc, sMembersv, rfl, rfl, h1_sEpoch, h2_sEpoch, hl_sMembers, hc_sMembers, hm_sMembers, hr_sMembers, hq_sMembers, he_sMembers⟩ := Group_out h
  unfold grN
  simp only [hl_sMembers]
  exact noGroup_any _ _ _ _ _
theorem zeroGroup_is {x : GroupD} {cs : List Value} (h : tyGroup.Is w Q x cs) : Calls Try.prog 77 #[.agg cs.toArray] w fun e w' => e = .returned (.bool (grN x)) ∧ Below w.heap.size w w' := by
  obtain ⟨sEpoch, sMembers, sMembersA, sMembersn, sMembersc, sMembersv, rfl, rfl, h1_sEpoch, h2_sEpoch, hl_sMembers, hc_sMembers, hm_sMembers, hr_sMembers, hq_sMembers, he_sMembers⟩ := Group_out h
  unfold grN
  simp only [hl_sMembers]
  exact zeroGroup_any _ _ _ _ _
theorem mayGroup_is {x : GroupD} {cs : List Value} (h : tyGroup.Is w Q x cs) : Calls Try.prog 30 #[.agg cs.toArray] w fun e w' => e = .returned (.bool (grK x)) ∧ Below w.heap.size w w' := by
  obtain ⟨sEpoch, sMembers, sMembersA, sMembersn, sMembersc, sMembersv, rfl, rfl, h1_sEpoch, h2_sEpoch, hl_sMembers, hc_sMembers, hm_sMembers, hr_sMembers, hq_sMembers, he_sMembers⟩ := Group_out h
  obtain ⟨hmi, _⟩ := i64rows he_sMembers
  subst hmi
  exact mgroup_any _ _ _ _ _ _ hl_sMembers hr_sMembers
theorem rcheck_is {x : GroupD} {cs : List Value} (h : tyGroup.Is w Q x cs) : Calls Try.prog 38 #[.agg cs.toArray] w fun e w' => e = .returned (.int .i64 (chkE x.1 x.2)) ∧ Below w.heap.size w w' := by
  obtain ⟨sEpoch, sMembers, sMembersA, sMembersn, sMembersc, sMembersv, rfl, rfl, h1_sEpoch, h2_sEpoch, hl_sMembers, hc_sMembers, hm_sMembers, hr_sMembers, hq_sMembers, he_sMembers⟩ := Group_out h
  obtain ⟨hmi, _⟩ := i64rows he_sMembers
  subst hmi
  exact rcheck_any _ _ _ _ _ _ hl_sMembers hr_sMembers
theorem rgroup_is {x : GroupD} {cs : List Value} (h : tyGroup.Is w Q x cs) : Calls Try.prog 59 #[.agg cs.toArray] w fun e w' => e = .returned (.int .i64 (gE x.1 x.2)) ∧ Below w.heap.size w w' := by
  obtain ⟨sEpoch, sMembers, sMembersA, sMembersn, sMembersc, sMembersv, rfl, rfl, h1_sEpoch, h2_sEpoch, hl_sMembers, hc_sMembers, hm_sMembers, hr_sMembers, hq_sMembers, he_sMembers⟩ := Group_out h
  obtain ⟨hmi, _⟩ := i64rows he_sMembers
  subst hmi
  exact rgroup_any _ _ _ _ _ _ hl_sMembers hr_sMembers
theorem prim_is {x : GroupD} {cs : List Value} {v : Int} (h : tyGroup.Is w Q x cs) : Calls Try.prog 71 #[.agg cs.toArray, .int .i64 v] w fun e w' => e = .returned (.tuple #[.int .i64 (primN x.1 x.2 v), .int .i64 (primE x.1 x.2 v)]) ∧ Below w.heap.size w w' := by
  obtain ⟨sEpoch, sMembers, sMembersA, sMembersn, sMembersc, sMembersv, rfl, rfl, h1_sEpoch, h2_sEpoch, hl_sMembers, hc_sMembers, hm_sMembers, hr_sMembers, hq_sMembers, he_sMembers⟩ := Group_out h
  obtain ⟨hmi, _⟩ := i64rows he_sMembers
  subst hmi
  exact prim_any _ _ _ _ _ _ _ hl_sMembers hr_sMembers
theorem rprim_is {x : GroupD} {cs : List Value} {v : Int} (h : tyGroup.Is w Q x cs) : Calls Try.prog 80 #[.agg cs.toArray, .int .i64 v] w fun e w' => e = .returned (.tuple #[.int .i64 (primN x.1 x.2 v), .int .i64 (primE x.1 x.2 v)]) ∧ Below w.heap.size w w' := by
  obtain ⟨sEpoch, sMembers, sMembersA, sMembersn, sMembersc, sMembersv, rfl, rfl, h1_sEpoch, h2_sEpoch, hl_sMembers, hc_sMembers, hm_sMembers, hr_sMembers, hq_sMembers, he_sMembers⟩ := Group_out h
  obtain ⟨hmi, _⟩ := i64rows he_sMembers
  subst hmi
  exact rprim_any _ _ _ _ _ _ _ hl_sMembers hr_sMembers
theorem zeroS_is {w : World} {Q : Nat → Prop} : tyState.Is w Q zeroS [.int .i64 0, .int .i64 0, .int .i64 0, .slice none 0 0, .slice none 0 0, .int .i64 0, .slice none 0 0] :=
  State_mk (by omega) (by omega) (by omega) (by omega) (by omega) (by omega) rfl (by omega) (by omega) Rd.nil (fun hn => absurd rfl hn) rows_nil rfl (by omega) (by omega) Rd.nil (fun hn => absurd rfl hn) rows_nil (by omega) (by omega) rfl (by omega) (by omega) Rd.nil (fun hn => absurd rfl hn) (i64rows_mk (by intro x hx; cases hx))
set_option maxHeartbeats 800000 in
theorem lead_is {x : GroupD} {cs : List Value} {v : Int} (h : tyGroup.Is w Q x cs) : Calls Try.prog 54 #[.agg cs.toArray, .int .i64 v] w fun e w' => e = .returned (.int .i64 (primN x.1 x.2 v)) ∧ Below w.heap.size w w' := by
  have hP := hide (fun W (hW : Below w.heap.size w W) => rprim_is (v := v) (h.below hW))
  obtain ⟨sEpoch, sMembers, sMembersA, sMembersn, sMembersc, sMembersv, rfl, rfl, h1_sEpoch, h2_sEpoch, hl_sMembers, hc_sMembers, hm_sMembers, hr_sMembers, hq_sMembers, he_sMembers⟩ := Group_out h
  clear hl_sMembers hr_sMembers hq_sMembers he_sMembers
  obtain ⟨w0, hw0⟩ : ∃ x, w.alloc (.cells #[.int .i64 sEpoch, .slice sMembersA sMembersn sMembersc] 24) = x := ⟨_, rfl⟩
  have hB : Blk w0 w.heap.size [.int .i64 sEpoch, .slice sMembersA sMembersn sMembersc] 24 := by rw [← hw0]; exact Blk.new w _ _
  have hb0 : Below w.heap.size w w0 := by rw [← hw0]; exact (Below.refl _ _).alloc (Nat.le_refl _) _
  have Hw0 := hide hw0
  clear hw0
  have y0 := hB.cell (j := 0) rfl
  have y1 := hB.cell (j := 1) rfl
  go_enter Try.func54, Try.ntmps54
  go_wp2_with fail
  try rw [Hw0.out]
  go_fit (hP.out w0 hb0)
  rintro xx w1 ⟨rfl, hd1⟩
  go_wp2
  go_ret
  exact ⟨rfl, hb0.trans (hd1.mono hb0.size)⟩
set_option maxHeartbeats 800000 in
theorem zero15_is {x : StateD} {cs : List Value} (h : tyState.Is w Q x cs) : Calls Try.prog 78 #[.agg cs.toArray] w fun e w' => e = .returned (.bool (stN x)) ∧ Below w.heap.size w w' := by
  obtain ⟨c0, c1, c2, c3, c4, c5, c6, rfl⟩ := list_7 (h.len : cs.length = 7)
  obtain ⟨w0, hw0⟩ : ∃ x, w.alloc (.cells #[c0, c1, c2, c3, c4, c5, c6] 55) = x := ⟨_, rfl⟩
  have hB : Blk w0 w.heap.size [c0, c1, c2, c3, c4, c5, c6] 55 := by rw [← hw0]; exact Blk.new w _ _
  have hb0 : Below w.heap.size w w0 := by rw [← hw0]; exact (Below.refl _ _).alloc (Nat.le_refl _) _
  have Hw0 := hide hw0
  have hP := hide (rsameS_any (h.below hb0) (zeroS_is (w := w0) (Q := fun _ => True)))
  clear hw0 h
  go_enter Try.func78, Try.ntmps78
  go_wp2_with ((with_reducible refine stop_load 55 rfl ?_))
  try rw [Hw0.out]
  refine go_load rfl rfl rfl hB Try.underlying55 rfl (by kernel_rfl) ?_
  go_wp2_with fail
  go_fit hP.out
  rintro xx w1 ⟨rfl, hd1⟩
  go_wp2
  go_ret
  exact ⟨rfl, hb0.trans (hd1.mono hb0.size)⟩
end
end Go.Proofs.Ytlcbelmbonaooaa
