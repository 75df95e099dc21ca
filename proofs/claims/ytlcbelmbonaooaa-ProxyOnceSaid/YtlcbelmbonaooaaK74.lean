/- Texts joined (shake.py). -/
import Derived.Test.YtlcbelmbonaooaaChecked
import Derived.Deep.DeepFit
import Derived.Outline
import Derived.Deep.QuietTactic
import Derived.BigQuiet
import Derived.WalkSpells
import Derived.Deep.Slices
import Derived.Test.YtlcbelmbonaooaaK71
import Derived.Test.YtlcbelmbonaooaaK72
namespace Go.Proofs.Ytlcbelmbonaooaa
set_option maxRecDepth 20000
open Go.RowKit Go.Px
theorem laidOut : laidOutB Try.prog = true := by kernel_rfl
theorem own : ownKnob Try.prog.godebug = none := by kernel_rfl
theorem tInts : SlT Try.prog 22 3 1 8 := slT_mk Try.underlying22 (z := .int .i64 0) (by kernel_rfl) rfl (by decide)
theorem tBytes : SlT Try.prog 26 5 1 1 := slT_mk Try.underlying26 (z := .int .u8 0) (by kernel_rfl) rfl (by decide)
@[go_sem] theorem eqnil_bytes (w : World) (A : Option Addr) (n c n' c' : Nat) : (binOp .eql 26 (.slice A n c) (.slice none n' c')).run Try.prog w = .ok (.bool A.isNone) w := Lib.run_eql_slice_nil w _ _ A n c n' c' Try.underlying26
theorem convB {w : World} {A : Option Addr} {n : Nat} (c : Nat) {bs : List UInt8} (hn : bs.length = n) (h : Rd w A (bys bs)) : (convert 26 9 (.slice A n c)).run Try.prog w = .ok (.string (strOf bs)) w := conv_bytes Try.underlying26 Try.underlying5 Try.underlying9 hn h
@[go_sem] theorem convConst (w : World) (C : Array Value) (n c g : Nat) (hg : g = w.heap.size) : (convert 26 26 (.slice (some ⟨g, 0, none⟩) n c)).run Try.prog (w.alloc (.cells C 5)) = .ok (.slice (some ⟨g, 0, none⟩) n c) (w.alloc (.cells C 5 (C.size, C.size + 1))) := by
  subst hg; exact Lib.run_convert_bytes_const w _ _ C n c Try.underlying26 Try.underlying5
theorem bool_two (b : Bool) : b = true ∨ b = false := by cases b <;> simp
theorem bool_or (b : Bool) : b = true ∨ b = false := by cases b <;> simp
theorem below_drewN {B : Nat} {w w' : World} (h : Below B w w') (n : Nat) : Below B w (w'.drewN n) := ⟨h.os, h.tape, h.output, h.size, h.block⟩
end Go.Proofs.Ytlcbelmbonaooaa
namespace Go.Proofs.Ytlcbelmbonaooaa
set_option maxRecDepth 20000
open Go.RowKit Go.Px
set_option linter.unusedVariables false

abbrev shp (b z : Int) : Value := .agg #[.int .i64 b, .int .i64 z]
abbrev opv (k : Nat) (p n : Int) (D : Option Addr) (d dc : Nat) (O : Option Addr) (o oc : Nat) : Value := .agg #[.int .u8 k, .int .i64 p, .int .i64 n, .slice D d dc, .slice O o oc]
def shE (b z : Int) : Int := if (1 ≤ b ∧ b ≤ 4096) ∧ 1 ≤ z ∧ z ≤ 4096 then 0 else 40
def fmP (k : Nat) (p n : Int) (d o : Nat) : Prop := ((0 ≤ p ∧ p ≤ 2147483647) ∧ (0 ≤ n ∧ n ≤ 2147483647) ∧ d ≤ 262144 ∧ o ≤ 4096) ∧ ((k = 4 ∧ p = 0 ∧ n = 0 ∧ d = 0 ∧ o = 0) ∨ ((k = 1 ∨ k = 3) ∧ d = 0 ∧ o = 0) ∨ (k = 2 ∧ o = 0) ∨ (k = 5 ∧ n = 0))
instance (k : Nat) (p n : Int) (d o : Nat) : Decidable (fmP k p n d o) := by unfold fmP; infer_instance
def fmE (k : Nat) (p n : Int) (d o : Nat) : Int := if fmP k p n d o then 0 else 41
theorem fm_yes {k : Nat} {p n : Int} {d o : Nat} (h : fmP k p n d o) : Ending.returned (.int .i64 0) = .returned (.int .i64 (fmE k p n d o)) := by unfold fmE; rw [if_pos h]
theorem fm_no {k : Nat} {p n : Int} {d o : Nat} (h : ¬ fmP k p n d o) : Ending.returned (.int .i64 41) = .returned (.int .i64 (fmE k p n d o)) := by unfold fmE; rw [if_neg h]
theorem sh_yes {b z : Int} (h : (1 ≤ b ∧ b ≤ 4096) ∧ 1 ≤ z ∧ z ≤ 4096) : Ending.returned (.int .i64 0) = .returned (.int .i64 (shE b z)) := by unfold shE; rw [if_pos h]
theorem sh_no {b z : Int} (h : ¬ ((1 ≤ b ∧ b ≤ 4096) ∧ 1 ≤ z ∧ z ≤ 4096)) : Ending.returned (.int .i64 40) = .returned (.int .i64 (shE b z)) := by unfold shE; rw [if_neg h]

set_option maxHeartbeats 400000 in
theorem shape_any (b z : Int) (w : World) : Calls Try.prog 87 #[shp b z] w fun e w' => e = .returned (.int .i64 (shE b z)) ∧ Below w.heap.size w w' := by
  have hb0 : Below w.heap.size w (w.alloc (.cells #[.int .i64 b, .int .i64 z] 51)) := (Below.refl _ _).alloc (Nat.le_refl _) _
  go_enter Try.func87, Try.ntmps87
  go_wp2
  all_goals
    go_ret
    refine ⟨?_, hb0⟩
    first | exact sh_yes (by omega) | exact sh_no (by omega)
set_option maxHeartbeats 400000 in
theorem rshape_any (b z : Int) (w : World) : Calls Try.prog 94 #[shp b z] w fun e w' => e = .returned (.int .i64 (shE b z)) ∧ Below w.heap.size w w' := by
  have hb0 : Below w.heap.size w (w.alloc (.cells #[.int .i64 b, .int .i64 z] 51)) := (Below.refl _ _).alloc (Nat.le_refl _) _
  go_enter Try.func94, Try.ntmps94
  go_wp2
  all_goals
    go_ret
    refine ⟨?_, hb0⟩
    first | exact sh_yes (by omega) | exact sh_no (by omega)
def plB (v : Int) : Bool := decide (0 ≤ v ∧ v ≤ 2147483647)
theorem place_any (v : Int) (w : World) : Calls Try.prog 82 #[.int .i64 v] w fun e w' => e = .returned (.bool (plB v)) ∧ w = w' := by
  by_cases h1 : 0 ≤ v
  · by_cases h2 : v ≤ 2147483647
    · have H := hide (show plB v = true from decide_eq_true ⟨h1, h2⟩)
      go_enter Try.func82, Try.ntmps82
      go_wp2
      go_ret
      exact ⟨by rw [H.out]; rfl, rfl⟩
    · have H := hide (show plB v = false from decide_eq_false (by omega))
      go_enter Try.func82, Try.ntmps82
      go_wp2
      go_ret
      exact ⟨by rw [H.out]; rfl, rfl⟩
  · have H := hide (show plB v = false from decide_eq_false (by omega))
    go_enter Try.func82, Try.ntmps82
    go_wp2
    go_ret
    exact ⟨by rw [H.out]; rfl, rfl⟩

set_option maxHeartbeats 1600000 in
theorem form_any (k : Nat) (p n : Int) (D : Option Addr) (d dc : Nat) (O : Option Addr) (o oc : Nat) (w : World) (hk : k < 256) :
    Calls Try.prog 58 #[opv k p n D d dc O o oc] w fun e w' => e = .returned (.int .i64 (fmE k p n d o)) ∧ Below w.heap.size w w' := by
  have hb0 : Below w.heap.size w (w.alloc (.cells #[.int .u8 k, .int .i64 p, .int .i64 n, .slice D d dc, .slice O o oc] 28)) := (Below.refl _ _).alloc (Nat.le_refl _) _
  by_cases h1 : 0 ≤ p ∧ p ≤ 2147483647
  · have H1 := hide (show plB p = true from decide_eq_true h1)
    by_cases h2 : 0 ≤ n ∧ n ≤ 2147483647
    · have H2 := hide (show plB n = true from decide_eq_true h2)
      obtain ⟨a1, a2⟩ := h1
      obtain ⟨a3, a4⟩ := h2
      obtain rfl | rfl | rfl | rfl | rfl | ⟨k1, k2, k3, k4, k5⟩ : k = 4 ∨ k = 1 ∨ k = 3 ∨ k = 2 ∨ k = 5 ∨ (k ≠ 4 ∧ k ≠ 1 ∧ k ≠ 3 ∧ k ≠ 2 ∧ k ≠ 5) := by omega
      rotate_left 5
      have e1 : ((k : Int) == 4) = false := by simp; omega
      have e2 : ((k : Int) == 1) = false := by simp; omega
      have e3 : ((k : Int) == 3) = false := by simp; omega
      have e4 : ((k : Int) == 2) = false := by simp; omega
      have e5 : ((k : Int) == 5) = false := by simp; omega
      have Kn := hide (And.intro k1 (And.intro k2 (And.intro k3 (And.intro k4 k5))))
      clear k1 k2 k3 k4 k5
      rotate_right 5
      all_goals
        go_enter Try.func58, Try.ntmps58
        go_wp2_with fail
        go_fit (place_any p _)
        rw [H1.out]
        rintro x w' ⟨rfl, rfl⟩
        go_wp2_with fail
        go_fit (place_any n _)
        rw [H2.out]
        rintro x w' ⟨rfl, rfl⟩
        go_wp2
        all_goals
          go_ret
          refine ⟨?_, (Below.refl _ _).alloc (Nat.le_refl _) _⟩
          (try simp only [Bool.not_eq_true', Bool.not_eq_false', beq_iff_eq, beq_eq_false_iff_ne, ne_eq] at *)
          first | exact fm_yes (by unfold fmP; omega) | exact fm_no (by unfold fmP; omega) | exact fm_no (by have := Kn.out; unfold fmP; omega)
    · have H2 := hide (show plB n = false from decide_eq_false h2)
      have HF := hide (fm_no (k := k) (p := p) (n := n) (d := d) (o := o) (by unfold fmP; omega))
      clear h1 h2
      go_enter Try.func58, Try.ntmps58
      go_wp2_with fail
      go_fit (place_any p _)
      rw [H1.out]
      rintro x w' ⟨rfl, rfl⟩
      go_wp2_with fail
      go_fit (place_any n _)
      rw [H2.out]
      rintro x w' ⟨rfl, rfl⟩
      go_wp2
      go_ret
      exact ⟨HF.out, hb0⟩
  · have H1 := hide (show plB p = false from decide_eq_false h1)
    have HF := hide (fm_no (k := k) (p := p) (n := n) (d := d) (o := o) (by unfold fmP; omega))
    clear h1
    go_enter Try.func58, Try.ntmps58
    go_wp2_with fail
    go_fit (place_any p _)
    rw [H1.out]
    rintro x w' ⟨rfl, rfl⟩
    go_wp2
    go_ret
    exact ⟨HF.out, hb0⟩
set_option maxHeartbeats 1600000 in
theorem rform_any (k : Nat) (p n : Int) (D : Option Addr) (d dc : Nat) (O : Option Addr) (o oc : Nat) (w : World) (hk : k < 256) :
    Calls Try.prog 37 #[opv k p n D d dc O o oc] w fun e w' => e = .returned (.int .i64 (fmE k p n d o)) ∧ Below w.heap.size w w' := by
  have hb0 : Below w.heap.size w (w.alloc (.cells #[.int .u8 k, .int .i64 p, .int .i64 n, .slice D d dc, .slice O o oc] 28)) := (Below.refl _ _).alloc (Nat.le_refl _) _
  by_cases h1 : (0 ≤ p ∧ p ≤ 2147483647) ∧ (0 ≤ n ∧ n ≤ 2147483647) ∧ d ≤ 262144 ∧ o ≤ 4096
  · obtain ⟨⟨a1, a2⟩, ⟨a3, a4⟩, a5, a6⟩ := h1
    obtain rfl | rfl | rfl | rfl | rfl | ⟨k1, k2, k3, k4, k5⟩ : k = 4 ∨ k = 1 ∨ k = 3 ∨ k = 2 ∨ k = 5 ∨ (k ≠ 4 ∧ k ≠ 1 ∧ k ≠ 3 ∧ k ≠ 2 ∧ k ≠ 5) := by omega
    rotate_left 5
    have e1 : ((k : Int) == 4) = false := by simp; omega
    have e2 : ((k : Int) == 1) = false := by simp; omega
    have e3 : ((k : Int) == 3) = false := by simp; omega
    have e4 : ((k : Int) == 2) = false := by simp; omega
    have e5 : ((k : Int) == 5) = false := by simp; omega
    have Kn := hide (And.intro k1 (And.intro k2 (And.intro k3 (And.intro k4 k5))))
    clear k1 k2 k3 k4 k5
    rotate_right 5
    all_goals
      go_enter Try.func37, Try.ntmps37
      go_wp2
      all_goals
        go_ret
        refine ⟨?_, (Below.refl _ _).alloc (Nat.le_refl _) _⟩
        (try simp only [Bool.not_eq_true', Bool.not_eq_false', beq_iff_eq, beq_eq_false_iff_ne, ne_eq] at *)
        first | exact fm_yes (by unfold fmP; omega) | exact fm_no (by unfold fmP; omega) | exact fm_no (by have := Kn.out; unfold fmP; omega)
  · have HF := hide (fm_no (k := k) (p := p) (n := n) (d := d) (o := o) (by unfold fmP; omega))
    have H1 := hide h1
    clear h1
    go_enter Try.func37, Try.ntmps37
    go_wp2
    all_goals
      first
        | (go_ret; exact ⟨HF.out, hb0⟩)
        | (exfalso; have := H1.out; omega)
end Go.Proofs.Ytlcbelmbonaooaa
namespace Go.Proofs.Ytlcbelmbonaooaa
set_option maxRecDepth 20000
open Go.RowKit Go.Px
set_option linter.unusedVariables false
set_option linter.unusedSimpArgs false

abbrev resv (k : Nat) (D : Option Addr) (d dc : Nat) : Value := .agg #[.int .u8 k, .slice D d dc]
def rsP (k d : Nat) : Prop := ((k = 2 ∨ k = 3) ∧ d = 0) ∨ ((k = 1 ∨ k = 4) ∧ d ≤ 262144)
instance (k d : Nat) : Decidable (rsP k d) := by unfold rsP; infer_instance
def rsE (k d : Nat) : Int := if rsP k d then 0 else 42
theorem rs_yes {k d : Nat} (h : rsP k d) : Ending.returned (.int .i64 0) = .returned (.int .i64 (rsE k d)) := by unfold rsE; rw [if_pos h]
theorem rs_no {k d : Nat} (h : ¬ rsP k d) : Ending.returned (.int .i64 42) = .returned (.int .i64 (rsE k d)) := by unfold rsE; rw [if_neg h]

set_option maxHeartbeats 800000 in
theorem result_any (k : Nat) (D : Option Addr) (d dc : Nat) (w : World) (hk : k < 256) : Calls Try.prog 66 #[resv k D d dc] w fun e w' => e = .returned (.int .i64 (rsE k d)) ∧ Below w.heap.size w w' := by
  obtain rfl | rfl | rfl | rfl | ⟨k1, k2, k3, k4⟩ : k = 2 ∨ k = 3 ∨ k = 1 ∨ k = 4 ∨ (k ≠ 2 ∧ k ≠ 3 ∧ k ≠ 1 ∧ k ≠ 4) := by omega
  rotate_left 4
  have e1 : ((k : Int) == 2) = false := by simp; omega
  have e2 : ((k : Int) == 3) = false := by simp; omega
  have e3 : ((k : Int) == 1) = false := by simp; omega
  have e4 : ((k : Int) == 4) = false := by simp; omega
  have Kn := hide (And.intro k1 (And.intro k2 (And.intro k3 k4)))
  clear k1 k2 k3 k4
  rotate_right 4
  all_goals
    go_enter Try.func66, Try.ntmps66
    go_wp2
    all_goals
      go_ret
      refine ⟨?_, (Below.refl _ _).alloc (Nat.le_refl _) _⟩
      (try simp only [Bool.not_eq_true', Bool.not_eq_false', beq_iff_eq, beq_eq_false_iff_ne, ne_eq, decide_eq_true_eq, decide_eq_false_iff_not] at *)
      first | exact rs_yes (by unfold rsP; omega) | exact rs_no (by unfold rsP; omega) | exact rs_no (by have := Kn.out; unfold rsP; omega)
set_option maxHeartbeats 800000 in
theorem rresult_any (k : Nat) (D : Option Addr) (d dc : Nat) (w : World) (hk : k < 256) : Calls Try.prog 76 #[resv k D d dc] w fun e w' => e = .returned (.int .i64 (rsE k d)) ∧ Below w.heap.size w w' := by
  obtain rfl | rfl | rfl | rfl | ⟨k1, k2, k3, k4⟩ : k = 2 ∨ k = 3 ∨ k = 1 ∨ k = 4 ∨ (k ≠ 2 ∧ k ≠ 3 ∧ k ≠ 1 ∧ k ≠ 4) := by omega
  rotate_left 4
  have e1 : ((k : Int) == 2) = false := by simp; omega
  have e2 : ((k : Int) == 3) = false := by simp; omega
  have e3 : ((k : Int) != 1) = true := by simp; omega
  have e4 : ((k : Int) != 4) = true := by simp; omega
  rotate_right 4
  all_goals
    go_enter Try.func76, Try.ntmps76
    go_wp2
    all_goals
      go_ret
      refine ⟨?_, (Below.refl _ _).alloc (Nat.le_refl _) _⟩
      (try simp only [Bool.not_eq_true', Bool.not_eq_false', beq_iff_eq, beq_eq_false_iff_ne, ne_eq] at *)
      first | exact rs_yes (by unfold rsP; omega) | exact rs_no (by unfold rsP; omega)
def chB (k : Nat) : Bool := decide (k = 2 ∨ k = 3 ∨ k = 5)
theorem ch_yes {k : Nat} (h : k = 2 ∨ k = 3 ∨ k = 5) : Ending.returned (.bool true) = .returned (.bool (chB k)) := by unfold chB; rw [decide_eq_true h]
theorem ch_no {k : Nat} (h : ¬ (k = 2 ∨ k = 3 ∨ k = 5)) : Ending.returned (.bool false) = .returned (.bool (chB k)) := by unfold chB; rw [decide_eq_false h]
/-! ### Same -/
def eqO (k : Nat) (p n : Int) (ds os : List UInt8) (k' : Nat) (p' n' : Int) (ds' os' : List UInt8) : Bool := ((k : Int) == (k' : Int)) && ((p == p') && ((n == n') && ((ds == ds') && (os == os'))))
theorem eqO_self (k : Nat) (p n : Int) (ds os : List UInt8) : eqO k p n ds os k p n ds os = true := by unfold eqO; simp
theorem bequal_any (A : Option Addr) (n c : Nat) (bd : List UInt8) (B : Option Addr) (m d : Nat) (bd' : List UInt8) (w : World) (hn : bd.length = n) (hr : Rd w A (bys bd)) (hm : bd'.length = m) (hr2 : Rd w B (bys bd')) :
    Calls Try.prog 61 #[.slice A n c, .slice B m d] w fun e w' => e = .returned (.bool (bd == bd')) ∧ w = w' := by
  have f1 := convB c hn hr
  have f2 := convB d hm hr2
  clear hn hm
  go_enter Try.func61, Try.ntmps61
  go_wp2
  go_ret
  exact ⟨rfl, rfl⟩
set_option maxHeartbeats 1600000 in
theorem osame_any (k : Nat) (p n : Int) (D : Option Addr) (d dc : Nat) (ds : List UInt8) (O : Option Addr) (o oc : Nat) (os : List UInt8) (k' : Nat) (p' n' : Int) (D' : Option Addr) (d' dc' : Nat) (ds' : List UInt8) (O' : Option Addr) (o' oc' : Nat) (os' : List UInt8) (w : World)
    (hd : ds.length = d) (ho : os.length = o) (hd' : ds'.length = d') (ho' : os'.length = o') (hD : Rd w D (bys ds)) (hO : Rd w O (bys os)) (hD' : Rd w D' (bys ds')) (hO' : Rd w O' (bys os')) :
    Calls Try.prog 40 #[opv k p n D d dc O o oc, opv k' p' n' D' d' dc' O' o' oc'] w fun e w' => e = .returned (.bool (eqO k p n ds os k' p' n' ds' os')) ∧ Below w.heap.size w w' := by
  have hb0 : Below w.heap.size w ((w.alloc (.cells #[.int .u8 k, .int .i64 p, .int .i64 n, .slice D d dc, .slice O o oc] 28)).alloc (.cells #[.int .u8 k', .int .i64 p', .int .i64 n', .slice D' d' dc', .slice O' o' oc'] 28)) := ((Below.refl _ _).alloc (Nat.le_refl _) _).alloc (by simp) _
  have HD := hide (bequal_any D d dc ds D' d' dc' ds' _ hd (hD.below hb0) hd' (hD'.below hb0))
  have HO := hide (bequal_any O o oc os O' o' oc' os' _ ho (hO.below hb0) ho' (hO'.below hb0))
  clear hd ho hd' ho'
  rcases bool_two ((k : Int) == (k' : Int)) with q1 | q1
  · rcases bool_two (p == p') with q2 | q2
    · rcases bool_two (n == n') with q3 | q3
      · rcases bool_two (ds == ds') with q4 | q4
        · have HF := hide (show eqO k p n ds os k' p' n' ds' os' = (os == os') by unfold eqO; rw [q1, q2, q3, q4]; rfl)
          have Q4 := hide q4
          clear q4
          go_enter Try.func40, Try.ntmps40
          go_wp2_with fail
          refine HD.out.mono ?_
          rw [Q4.out]
          rintro e w1 ⟨rfl, rfl⟩
          go_wp2_with fail
          refine HO.out.mono ?_
          rintro e w1 ⟨rfl, rfl⟩
          go_wp2
          go_ret
          exact ⟨by rw [HF.out]; rfl, hb0⟩
        · have HF := hide (show eqO k p n ds os k' p' n' ds' os' = false by unfold eqO; rw [q1, q2, q3, q4]; rfl)
          have Q4 := hide q4
          clear q4
          go_enter Try.func40, Try.ntmps40
          go_wp2_with fail
          refine HD.out.mono ?_
          rw [Q4.out]
          rintro e w1 ⟨rfl, rfl⟩
          go_wp2
          go_ret
          exact ⟨by rw [HF.out]; rfl, hb0⟩
      · have HF := hide (show eqO k p n ds os k' p' n' ds' os' = false by unfold eqO; rw [q1, q2, q3]; rfl)
        go_enter Try.func40, Try.ntmps40
        go_wp2
        go_ret
        exact ⟨by rw [HF.out]; rfl, hb0⟩
    · have HF := hide (show eqO k p n ds os k' p' n' ds' os' = false by unfold eqO; rw [q1, q2]; rfl)
      go_enter Try.func40, Try.ntmps40
      go_wp2
      go_ret
      exact ⟨by rw [HF.out]; rfl, hb0⟩
  · have HF := hide (show eqO k p n ds os k' p' n' ds' os' = false by unfold eqO; rw [q1]; rfl)
    go_enter Try.func40, Try.ntmps40
    go_wp2
    go_ret
    exact ⟨by rw [HF.out]; rfl, hb0⟩
set_option maxHeartbeats 1600000 in
theorem rosame_any (k : Nat) (p n : Int) (D : Option Addr) (d dc : Nat) (ds : List UInt8) (O : Option Addr) (o oc : Nat) (os : List UInt8) (k' : Nat) (p' n' : Int) (D' : Option Addr) (d' dc' : Nat) (ds' : List UInt8) (O' : Option Addr) (o' oc' : Nat) (os' : List UInt8) (w : World)
    (hd : ds.length = d) (ho : os.length = o) (hd' : ds'.length = d') (ho' : os'.length = o') (hD : Rd w D (bys ds)) (hO : Rd w O (bys os)) (hD' : Rd w D' (bys ds')) (hO' : Rd w O' (bys os')) :
    Calls Try.prog 35 #[opv k p n D d dc O o oc, opv k' p' n' D' d' dc' O' o' oc'] w fun e w' => e = .returned (.bool (eqO k p n ds os k' p' n' ds' os')) ∧ Below w.heap.size w w' := by
  have hb0 : Below w.heap.size w ((w.alloc (.cells #[.int .u8 k, .int .i64 p, .int .i64 n, .slice D d dc, .slice O o oc] 28)).alloc (.cells #[.int .u8 k', .int .i64 p', .int .i64 n', .slice D' d' dc', .slice O' o' oc'] 28)) := ((Below.refl _ _).alloc (Nat.le_refl _) _).alloc (by simp) _
  have c1 := convB dc hd (hD.below hb0)
  have c2 := convB dc' hd' (hD'.below hb0)
  have c3 := convB oc ho (hO.below hb0)
  have c4 := convB oc' ho' (hO'.below hb0)
  clear hd ho hd' ho'
  rcases bool_two ((k : Int) == (k' : Int)) with q1 | q1
  · rcases bool_two (p == p') with q2 | q2
    · rcases bool_two (n == n') with q3 | q3
      · rcases bool_two (ds == ds') with q4 | q4
        · rcases bool_two (os == os') with q5 | q5
          all_goals
            have hF : eqO k p n ds os k' p' n' ds' os' = (os == os') := by unfold eqO; rw [q1, q2, q3, q4]; rfl
            rw [q5] at hF
            have HF := hide hF
            clear hF
            go_enter Try.func35, Try.ntmps35
            go_wp2
            go_ret
            exact ⟨by rw [HF.out]; rfl, hb0⟩
        · have HF := hide (show eqO k p n ds os k' p' n' ds' os' = false by unfold eqO; rw [q1, q2, q3, q4]; rfl)
          go_enter Try.func35, Try.ntmps35
          go_wp2
          go_ret
          exact ⟨by rw [HF.out]; rfl, hb0⟩
      · have HF := hide (show eqO k p n ds os k' p' n' ds' os' = false by unfold eqO; rw [q1, q2, q3]; rfl)
        go_enter Try.func35, Try.ntmps35
        go_wp2
        go_ret
        exact ⟨by rw [HF.out]; rfl, hb0⟩
    · have HF := hide (show eqO k p n ds os k' p' n' ds' os' = false by unfold eqO; rw [q1, q2]; rfl)
      go_enter Try.func35, Try.ntmps35
      go_wp2
      go_ret
      exact ⟨by rw [HF.out]; rfl, hb0⟩
  · have HF := hide (show eqO k p n ds os k' p' n' ds' os' = false by unfold eqO; rw [q1]; rfl)
    go_enter Try.func35, Try.ntmps35
    go_wp2
    go_ret
    exact ⟨by rw [HF.out]; rfl, hb0⟩
end Go.Proofs.Ytlcbelmbonaooaa
namespace Go.Proofs.Ytlcbelmbonaooaa
set_option maxRecDepth 20000
open Go.RowKit Go.Px
set_option linter.unusedVariables false
theorem clone_any (A : Option Addr) (n c : Nat) (bs : List UInt8) (w : World) (hn : bs.length = n) (h8 : n ≤ 1099511627776) (hc : Rd w A (bys bs)) :
    Calls Try.prog 69 #[.slice A n c] w fun e w' => ∃ v, e = .returned v ∧ w'.ownsRow w.heap.size 5 1 v n (bys bs) ∧ Below w.heap.size w w' := by
  have Hn := hide hn
  clear hn
  rcases A with _ | a
  · have hb : bs = [] := by
      rcases bs with _ | ⟨b, r⟩
      · rfl
      · obtain ⟨a, ha, _⟩ := hc 0 _ rfl; cases ha
    subst hb
    have h0 := Hn.out
    simp only [List.length_nil] at h0
    subst h0
    go_enter Try.func69, Try.ntmps69
    go_wp2_with fail
    go_ret
    exact ⟨_, rfl, World.ownsRow_nil _ _ _ _, Below.refl _ _⟩
  · go_enter Try.func69, Try.ntmps69
    go_wp2_with (first | (with_reducible refine stop_append rfl ?_) | (with_reducible refine stop_copy rfl ?_) | (with_reducible refine stop_make rfl ?_))
    have hg : Grow (w.alloc (.cells #[] 5)) (.slice (some ⟨w.heap.size, 0, none⟩) 0 0) w.heap.size 5 1 (w.alloc (.cells #[] 5)) (.slice (some ⟨w.heap.size, 0, none⟩) 0 0) 0 [] :=
      Grow.start (World.ownsRow_made w #[] 0 (Nat.le_refl _) (by unfold maxLen; omega) rfl) (by simp)
    refine hg.append rfl rfl tBytes rfl rfl (by rw [bys_length, Hn.out]; omega) (hc.alloc _) (bys_one _) (by omega) (by omega) ?_
    intro v' w1 hG _
    go_wp2
    go_ret
    refine ⟨_, rfl, by simpa using hG.owns, hG.allOf ((Below.refl _ _).alloc (Nat.le_refl _) _) (by simp) (fun g hg => by simp [Value.ownBlock] at hg; omega)⟩

end Go.Proofs.Ytlcbelmbonaooaa
namespace Go.Proofs.Ytlcbelmbonaooaa
set_option maxRecDepth 20000
open Go.RowKit Go.Px
set_option linter.unusedVariables false
def serB (n : Int) : Bool := decide (1 ≤ n ∧ n ≤ 4611686018427387904)
theorem serial_any (n : Int) (w : World) : Calls Try.prog 29 #[.int .i64 n] w fun e w' => e = .returned (.bool (serB n)) ∧ w = w' := by
  by_cases h1 : 1 ≤ n
  · by_cases h2 : n ≤ 4611686018427387904
    · have H := hide (show serB n = true from decide_eq_true ⟨h1, h2⟩)
      go_enter Try.func29, Try.ntmps29
      go_wp2
      go_ret
      exact ⟨by rw [H.out]; rfl, rfl⟩
    · have H := hide (show serB n = false from decide_eq_false (by omega))
      go_enter Try.func29, Try.ntmps29
      go_wp2
      go_ret
      exact ⟨by rw [H.out]; rfl, rfl⟩
  · have H := hide (show serB n = false from decide_eq_false (by omega))
    go_enter Try.func29, Try.ntmps29
    go_wp2
    go_ret
    exact ⟨by rw [H.out]; rfl, rfl⟩
theorem serB_out {num : Int} (h : serB num = true) : 1 ≤ num ∧ num ≤ 4611686018427387904 := of_decide_eq_true h
theorem leBk {B g j : Nat} (h : B ≤ g) : B ≤ (⟨g, j, none⟩ : Addr).block := h
theorem own_lt {w : World} {base e size n : Nat} {v : Value} {xs : List Value} (h : w.ownsRow base e size v n xs) : ∀ g, v.ownBlock = some g → base ≤ g ∧ g < w.heap.size := by
  intro g hg
  rcases h.2 with ⟨rfl, _⟩ | ⟨g', cap, cur, rfl, hbg, hgg, _⟩
  · simp [Value.ownBlock] at hg
  · simp [Value.ownBlock] at hg
    subst hg
    exact ⟨hbg, (Array.getElem?_eq_some_iff.1 hgg).1⟩
theorem own_grown {w w' : World} {base e size n : Nat} {v : Value} {xs : List Value} {row : Option Nat} (h : w.ownsRow base e size v n xs) (hg : w.grownBy w' row) (hne : ∀ g, v.ownBlock = some g → row ≠ some g) : w'.ownsRow base e size v n xs := by
  refine ⟨h.1, ?_⟩
  rcases h.2 with h2 | ⟨g, cap, cur, rfl, hbg, hgg, r⟩
  · exact .inl h2
  · exact .inr ⟨g, cap, cur, rfl, hbg, (hg.block g (Array.getElem?_eq_some_iff.1 hgg).1 (fun e => hne g rfl e.symm)).trans hgg, r⟩
def eqR (k : Nat) (ds : List UInt8) (k' : Nat) (ds' : List UInt8) : Bool := ((k : Int) == (k' : Int)) && (ds == ds')
theorem eqR_self (k : Nat) (ds : List UInt8) : eqR k ds k ds = true := by unfold eqR; simp
set_option maxHeartbeats 1600000 in
theorem rsames_any (k : Nat) (D : Option Addr) (d dc : Nat) (ds : List UInt8) (k' : Nat) (D' : Option Addr) (d' dc' : Nat) (ds' : List UInt8) (w : World) (hd : ds.length = d) (hd' : ds'.length = d') (hD : Rd w D (bys ds)) (hD' : Rd w D' (bys ds')) :
    Calls Try.prog 24 #[resv k D d dc, resv k' D' d' dc'] w fun e w' => e = .returned (.bool (eqR k ds k' ds')) ∧ Below w.heap.size w w' := by
  have hb0 : Below w.heap.size w ((w.alloc (.cells #[.int .u8 k, .slice D d dc] 49)).alloc (.cells #[.int .u8 k', .slice D' d' dc'] 49)) := ((Below.refl _ _).alloc (Nat.le_refl _) _).alloc (by simp) _
  have c1 := convB dc hd (hD.below hb0)
  have c2 := convB dc' hd' (hD'.below hb0)
  clear hd hd'
  rcases bool_or ((k : Int) == (k' : Int)) with q1 | q1
  · rcases bool_or (ds == ds') with q4 | q4
    all_goals
      have hF : eqR k ds k' ds' = (ds == ds') := by unfold eqR; rw [q1]; rfl
      rw [q4] at hF
      have HF := hide hF
      clear hF
      go_enter Try.func24, Try.ntmps24
      go_wp2
      go_ret
      exact ⟨by rw [HF.out]; rfl, hb0⟩
  · have HF := hide (show eqR k ds k' ds' = false by unfold eqR; rw [q1]; rfl)
    go_enter Try.func24, Try.ntmps24
    go_wp2
    go_ret
    exact ⟨by rw [HF.out]; rfl, hb0⟩
end Go.Proofs.Ytlcbelmbonaooaa
namespace Go.Proofs.Ytlcbelmbonaooaa
set_option maxRecDepth 20000
open Go.RowKit Go.Px
set_option linter.unusedVariables false
set_option linter.unusedSimpArgs false

theorem fmE_two (k : Nat) (p n : Int) (d o : Nat) : fmP k p n d o ∧ fmE k p n d o = 0 ∨ fmE k p n d o = 41 := by
  unfold fmE; split
  · exact .inl ⟨‹_›, rfl⟩
  · exact .inr rfl
def ftE (b z : Int) (k : Nat) (p n : Int) (d o : Nat) : Int := if shE b z ≠ 0 then shE b z else fmE k p n d o
def ftC (b z : Int) (k : Nat) (p n : Int) (d o : Nat) : Int :=
  if ftE b z k p n d o ≠ 0 then 0 else if k = 4 then 1 else if k = 5 then (if b ≤ p then 2 else if (d : Int) ≠ z ∨ (o : Int) ≠ z then 3 else 1)
  else if n < 1 ∨ 64 < n ∨ b < p + n then 2 else if k = 2 ∧ (d : Int) ≠ n * z then 3 else 1
end Go.Proofs.Ytlcbelmbonaooaa
namespace Go.Proofs.Ytlcbelmbonaooaa
set_option maxRecDepth 20000
open Go.RowKit Go.Px Go.ChangeShapes Go.WideShapes Go.ChangeAt Go.Joins Go.Deep
set_option linter.unusedVariables false
variable {H : Type} {enc : TypeId × Value → H}
/-- A request in memory, at an address. -/
def OpAt (w : World) (a : Addr) : Prop := ∃ (k : Nat) (p n : Int) (D : Option Addr) (d dc : Nat) (ds : List UInt8) (O : Option Addr) (o oc : Nat) (os : List UInt8), k < 256 ∧
  w.cell? a = some (.int .u8 k) ∧ w.cell? ⟨a.block, a.off + 1, none⟩ = some (.int .i64 p) ∧ w.cell? ⟨a.block, a.off + 2, none⟩ = some (.int .i64 n) ∧ w.cell? ⟨a.block, a.off + 3, none⟩ = some (.slice D d dc) ∧ w.cell? ⟨a.block, a.off + 4, none⟩ = some (.slice O o oc) ∧
  ds.length = d ∧ os.length = o ∧ Rd w D (bys ds) ∧ Rd w O (bys os)
theorem cell_below {w w' : World} (hb : Below w.heap.size w w') {a : Addr} {u : Value} (h : w.cell? a = some u) : w'.cell? a = some u := (hb.cell (p := a) (World.block_lt_of_cell? w _ h)).trans h
theorem OpAt.below {w w' : World} {a : Addr} (h : OpAt w a) (hb : Below w.heap.size w w') : OpAt w' a := by
  obtain ⟨k, p, n, D, d, dc, ds, O, o, oc, os, h0, h1, h2, h3, h4, h5, h6, h7, h8, h9⟩ := h
  exact ⟨k, p, n, D, d, dc, ds, O, o, oc, os, h0, cell_below hb h1, cell_below hb h2, cell_below hb h3, cell_below hb h4, cell_below hb h5, h6, h7, h8.below hb, h9.below hb⟩
/-- A row of n steps (of seven cells each). -/
def Stps (w : World) (A : Option Addr) (n : Nat) : Prop := ∀ i, i < n → ∃ a, A = some a ∧ OpAt w (a.add (i * 7))
theorem Stps.below {w w' : World} {A : Option Addr} {n : Nat} (h : Stps w A n) (hb : Below w.heap.size w w') : Stps w' A n := fun i hi => by
  obtain ⟨a, rfl, h1⟩ := h i hi
  exact ⟨a, rfl, h1.below hb⟩
end Go.Proofs.Ytlcbelmbonaooaa
namespace Go.Proofs.Ytlcbelmbonaooaa
set_option maxRecDepth 20000
open Go.RowKit Go.Px
set_option linter.unusedVariables false

theorem number_any (v : Int) (w : World) : Calls Try.prog 31 #[.int .i64 v] w fun e w' => e = .returned (.bool (numB v)) ∧ w = w' := by
  by_cases h1 : 0 ≤ v
  · by_cases h2 : v ≤ 4611686018427387904
    · have H := hide (show numB v = true from decide_eq_true ⟨h1, h2⟩)
      go_enter Try.func31, Try.ntmps31
      go_wp2
      go_ret
      exact ⟨by rw [H.out]; rfl, rfl⟩
    · have H := hide (show numB v = false from decide_eq_false (by omega))
      go_enter Try.func31, Try.ntmps31
      go_wp2
      go_ret
      exact ⟨by rw [H.out]; rfl, rfl⟩
  · have H := hide (show numB v = false from decide_eq_false (by omega))
    go_enter Try.func31, Try.ntmps31
    go_wp2
    go_ret
    exact ⟨by rw [H.out]; rfl, rfl⟩
theorem node_any (v : Int) (w : World) : Calls Try.prog 57 #[.int .i64 v] w fun e w' => e = .returned (.bool (nodeB v)) ∧ w = w' := by
  by_cases h1 : 0 ≤ v
  · by_cases h2 : v < 64
    · have H := hide (show nodeB v = true from decide_eq_true ⟨h1, h2⟩)
      go_enter Try.func57, Try.ntmps57
      go_wp2
      go_ret
      exact ⟨by rw [H.out]; rfl, rfl⟩
    · have H := hide (show nodeB v = false from decide_eq_false (by omega))
      go_enter Try.func57, Try.ntmps57
      go_wp2
      go_ret
      exact ⟨by rw [H.out]; rfl, rfl⟩
  · have H := hide (show nodeB v = false from decide_eq_false (by omega))
    go_enter Try.func57, Try.ntmps57
    go_wp2
    go_ret
    exact ⟨by rw [H.out]; rfl, rfl⟩

abbrev grp (e : Int) (A : Option Addr) (n c : Nat) : Value := .agg #[.int .i64 e, .slice A n c]

set_option maxHeartbeats 800000 in
theorem mgroup_any (e : Int) (A : Option Addr) (n c : Nat) (ms : List Int) (w : World) (hn : ms.length = n) (hr : Rd w A (ints ms)) :
    Calls Try.prog 30 #[grp e A n c] w fun x w' => x = .returned (.bool (grpOk e ms)) ∧ Below w.heap.size w w' := by
  have Hn := hide hn
  have hb0 : Below w.heap.size w (w.alloc (.cells #[.int .i64 e, .slice A n c] 24)) := (Below.refl _ _).alloc (Nat.le_refl _) _
  by_cases h1 : 0 ≤ e ∧ e ≤ 4611686018427387904
  · have HD := hide (show numB e = true from decide_eq_true h1)
    by_cases h2 : 1 ≤ n
    · by_cases h3 : n ≤ 9
      · have HG := hide (show grpOk e ms = nodesOk (-1) ms by unfold grpOk; rw [decide_eq_true h1, decide_eq_true (show 1 ≤ ms.length ∧ ms.length ≤ 9 by omega)]; rfl)
        have hrb := hr.below hb0
        clear hn h1
        go_enter Try.func30, Try.ntmps30
        go_wp2_with fail
        go_fit (number_any e _)
        rw [HD.out]
        rintro x w' ⟨rfl, rfl⟩
        go_wp2
        go_loop [3, 25] (fun a i => ∃ (k : Nat) (z : Int), k ≤ n ∧ i = .int .i64 k ∧ a = .int .i64 z ∧ -1 ≤ z ∧ z < 64 ∧ Hid (nodesOk (-1) ms = nodesOk z (ms.drop k))) (fun _ i => n - (intOf i).toNat)
        case atStart => exact ⟨0, -1, by omega, rfl, rfl, by omega, by omega, by rw [List.drop_zero]; exact hide rfl⟩
        case round =>
          obtain ⟨k, z, hk, rfl, rfl, hz, hz2, hN⟩ := hrel
          by_cases hlt : k < n
          · have hkl : k < ms.length := by rw [Hn.out]; exact hlt
            obtain ⟨a, ha, hc⟩ := hrb k _ (ints_get hkl)
            obtain ⟨y, hy⟩ : ∃ y, ms[k] = y := ⟨_, rfl⟩
            rw [hy] at hc
            subst ha
            by_cases hb : y ≤ z
            · have HF := hide (hN.out.trans (nodesOk_bad hkl (.inl (by rw [hy]; exact hb))))
              clear hy
              go_wp2
              go_ret
              exact ⟨by rw [HG.out, HF.out]; rfl, hb0⟩
            · have hy0 : 0 ≤ y := by omega
              by_cases hb2 : y < 64
              · have HF := hide (hN.out.trans (nodesOk_good hkl (by rw [hy]; omega) (by rw [hy]; exact hb2)))
                rw [hy] at HF
                have HD2 := hide (show nodeB y = true from decide_eq_true ⟨hy0, hb2⟩)
                clear hy
                go_wp2_with fail
                go_fit (node_any y _)
                rw [HD2.out]
                rintro x w' ⟨rfl, rfl⟩
                go_wp2
                go_round
                case rel => exact ⟨k + 1, y, by omega, by go_num, rfl, by omega, by omega, HF⟩
                case measure => simp [intOf]; omega
              · have HF := hide (hN.out.trans (nodesOk_bad hkl (.inr (by rw [hy]; omega))))
                have HD2 := hide (show nodeB y = false from decide_eq_false (by omega))
                clear hy
                go_wp2_with fail
                go_fit (node_any y _)
                rw [HD2.out]
                rintro x w' ⟨rfl, rfl⟩
                go_wp2
                go_ret
                exact ⟨by rw [HG.out, HF.out]; rfl, hb0⟩
          · have HF := hide (hN.out.trans (nodesOk_end (show ms.length ≤ k by rw [Hn.out]; omega)))
            go_wp2
            go_ret
            exact ⟨by rw [HG.out, HF.out]; rfl, hb0⟩
      · have HG := hide (show grpOk e ms = false by unfold grpOk; rw [decide_eq_false (show ¬ (1 ≤ ms.length ∧ ms.length ≤ 9) by omega)]; simp)
        clear hn h1
        go_enter Try.func30, Try.ntmps30
        go_wp2_with fail
        go_fit (number_any e _)
        rw [HD.out]
        rintro x w' ⟨rfl, rfl⟩
        go_wp2
        go_ret
        exact ⟨by rw [HG.out]; rfl, hb0⟩
    · have HG := hide (show grpOk e ms = false by unfold grpOk; rw [decide_eq_false (show ¬ (1 ≤ ms.length ∧ ms.length ≤ 9) by omega)]; simp)
      obtain rfl : n = 0 := by omega
      clear hn h1 h2
      go_enter Try.func30, Try.ntmps30
      go_wp2_with fail
      go_fit (number_any e _)
      rw [HD.out]
      rintro x w' ⟨rfl, rfl⟩
      go_wp2
      go_ret
      exact ⟨by rw [HG.out]; rfl, hb0⟩
  · have HD := hide (show numB e = false from decide_eq_false h1)
    have HG := hide (show grpOk e ms = false by unfold grpOk; rw [decide_eq_false h1]; rfl)
    clear hn h1
    go_enter Try.func30, Try.ntmps30
    go_wp2_with fail
    go_fit (number_any e _)
    rw [HD.out]
    rintro x w' ⟨rfl, rfl⟩
    go_wp2
    go_ret
    exact ⟨by rw [HG.out]; rfl, hb0⟩
end Go.Proofs.Ytlcbelmbonaooaa
