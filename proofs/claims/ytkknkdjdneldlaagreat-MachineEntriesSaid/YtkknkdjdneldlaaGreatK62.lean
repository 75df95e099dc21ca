/- Texts joined (shake.py). -/
import Derived.Test.YtkknkdjdneldlaaGreatChecked
import Derived.Deep.DeepFit
import Derived.Outline
import Derived.Deep.QuietTactic
import Derived.BigQuiet
import Derived.WalkSpells
import Derived.Deep.Slices
import Derived.Lib.SmallJoins
import Derived.Deep.Fields
import Derived.SizedLaws
import Derived.Deep.RegionHeldLaw
import Derived.Test.YtkknkdjdneldlaaGreatK61
import Derived.Test.YtkknkdjdneldlaaGreatK610
namespace Go.Proofs.YtkknkdjdneldlaaGreat
set_option maxRecDepth 20000
open Go.RowKit Go.Px
theorem own : ownKnob Tryz.prog.godebug = none := by kernel_rfl
theorem tU64s : SlT Tryz.prog 173 174 1 8 := slT_mk Tryz.underlying173 (z := .int .u64 0) (by kernel_rfl) rfl (by decide)
theorem tInts : SlT Tryz.prog 26 3 1 8 := slT_mk Tryz.underlying26 (z := .int .i64 0) (by kernel_rfl) rfl (by decide)
theorem tBytes : SlT Tryz.prog 38 5 1 1 := slT_mk Tryz.underlying38 (z := .int .u8 0) (by kernel_rfl) rfl (by decide)
@[go_sem] theorem eqnil_bytes (w : World) (A : Option Addr) (n c n' c' : Nat) : (binOp .eql 38 (.slice A n c) (.slice none n' c')).run Tryz.prog w = .ok (.bool A.isNone) w := Lib.run_eql_slice_nil w _ _ A n c n' c' Tryz.underlying38
theorem convB {w : World} {A : Option Addr} {n : Nat} (c : Nat) {bs : List UInt8} (hn : bs.length = n) (h : Rd w A (bys bs)) : (convert 38 9 (.slice A n c)).run Tryz.prog w = .ok (.string (strOf bs)) w := conv_bytes Tryz.underlying38 Tryz.underlying5 Tryz.underlying9 hn h
@[go_sem] theorem convConst (w : World) (C : Array Value) (n c g : Nat) (hg : g = w.heap.size) : (convert 38 38 (.slice (some ⟨g, 0, none⟩) n c)).run Tryz.prog (w.alloc (.cells C 5)) = .ok (.slice (some ⟨g, 0, none⟩) n c) (w.alloc (.cells C 5 (C.size, C.size + 1))) := by
  subst hg; exact Lib.run_convert_bytes_const w _ _ C n c Tryz.underlying38 Tryz.underlying5
theorem bool_two (b : Bool) : b = true ∨ b = false := by cases b <;> simp
theorem below_drewN {B : Nat} {w w' : World} (h : Below B w w') (n : Nat) : Below B w (w'.drewN n) := ⟨h.os, h.tape, h.output, h.size, h.block⟩
end Go.Proofs.YtkknkdjdneldlaaGreat
namespace Go.Proofs.YtkknkdjdneldlaaGreat
set_option maxRecDepth 20000
open Go.RowKit Go.Px
set_option linter.unusedVariables false

abbrev shp (b z : Int) : Value := .agg #[.int .i64 b, .int .i64 z]
abbrev opv (k : Nat) (p n : Int) (D : Option Addr) (d dc : Nat) (O : Option Addr) (o oc : Nat) : Value := .agg #[.int .u8 k, .int .i64 p, .int .i64 n, .slice D d dc, .slice O o oc]
def shE (b z : Int) : Int := if (1 ≤ b ∧ b ≤ 4096) ∧ 1 ≤ z ∧ z ≤ 4096 then 0 else 40
def fmP (k : Nat) (p n : Int) (d o : Nat) : Prop := ((0 ≤ p ∧ p ≤ 2147483647) ∧ (0 ≤ n ∧ n ≤ 2147483647) ∧ d ≤ 262144 ∧ o ≤ 4096) ∧ ((k = 4 ∧ p = 0 ∧ n = 0 ∧ d = 0 ∧ o = 0) ∨ ((k = 1 ∨ k = 3) ∧ d = 0 ∧ o = 0) ∨ (k = 2 ∧ o = 0) ∨ (k = 5 ∧ n = 0))
instance (k : Nat) (p n : Int) (d o : Nat) : Decidable (fmP k p n d o) := by unfold fmP; infer_instance
def fmE (k : Nat) (p n : Int) (d o : Nat) : Int := if fmP k p n d o then 0 else 41
theorem fm_yes {k : Nat} {p n : Int} {d o : Nat} (h : fmP k p n d o) : Ending.returned (.int .i64 0) = .returned (.int .i64 (fmE k p n d o)) := by unfold fmE; rw [if_pos h]
theorem fm_no {k : Nat} {p n : Int} {d o : Nat} (h : ¬ fmP k p n d o) : Ending.returned (.int .i64 41) = .returned (.int .i64 (fmE k p n d o)) := by unfold fmE; rw [if_neg h]
theorem sh_yes {b z : Int} (h : (1 ≤ b ∧ b ≤ 4096) ∧ 1 ≤ z ∧ z ≤ 4096) : Ending.returned (.int .i64 0) = .returned (.int .i64 (shE b z)) := by unfold shE; rw [if_pos h]
theorem sh_no {b z : Int} (h : ¬ ((1 ≤ b ∧ b ≤ 4096) ∧ 1 ≤ z ∧ z ≤ 4096)) : Ending.returned (.int .i64 40) = .returned (.int .i64 (shE b z)) := by unfold shE; rw [if_neg h]

set_option maxHeartbeats 400000 in
theorem shape_any (b z : Int) (w : World) : Calls Tryz.prog 97 #[shp b z] w fun e w' => e = .returned (.int .i64 (shE b z)) ∧ Below w.heap.size w w' := by
  have hb0 : Below w.heap.size w (w.alloc (.cells #[.int .i64 b, .int .i64 z] 23)) := (Below.refl _ _).alloc (Nat.le_refl _) _
  go_enter Tryz.func97, Tryz.ntmps97
  go_wp2
  all_goals
    go_ret
    refine ⟨?_, hb0⟩
    first | exact sh_yes (by omega) | exact sh_no (by omega)
def plB (v : Int) : Bool := decide (0 ≤ v ∧ v ≤ 2147483647)
theorem place_any (v : Int) (w : World) : Calls Tryz.prog 154 #[.int .i64 v] w fun e w' => e = .returned (.bool (plB v)) ∧ w = w' := by
  by_cases h1 : 0 ≤ v
  · by_cases h2 : v ≤ 2147483647
    · have H := hide (show plB v = true from decide_eq_true ⟨h1, h2⟩)
      go_enter Tryz.func154, Tryz.ntmps154
      go_wp2
      go_ret
      exact ⟨by rw [H.out]; rfl, rfl⟩
    · have H := hide (show plB v = false from decide_eq_false (by omega))
      go_enter Tryz.func154, Tryz.ntmps154
      go_wp2
      go_ret
      exact ⟨by rw [H.out]; rfl, rfl⟩
  · have H := hide (show plB v = false from decide_eq_false (by omega))
    go_enter Tryz.func154, Tryz.ntmps154
    go_wp2
    go_ret
    exact ⟨by rw [H.out]; rfl, rfl⟩

set_option maxHeartbeats 1600000 in
theorem form_any (k : Nat) (p n : Int) (D : Option Addr) (d dc : Nat) (O : Option Addr) (o oc : Nat) (w : World) (hk : k < 256) :
    Calls Tryz.prog 126 #[opv k p n D d dc O o oc] w fun e w' => e = .returned (.int .i64 (fmE k p n d o)) ∧ Below w.heap.size w w' := by
  have hb0 : Below w.heap.size w (w.alloc (.cells #[.int .u8 k, .int .i64 p, .int .i64 n, .slice D d dc, .slice O o oc] 47)) := (Below.refl _ _).alloc (Nat.le_refl _) _
  by_cases h1 : 0 ≤ p ∧ p ≤ 2147483647
  · have H1 := hide (show plB p = true from decide_eq_true h1)
    by_cases h2 : 0 ≤ n ∧ n ≤ 2147483647
    · have H2 := hide (show plB n = true from decide_eq_true h2)
      obtain ⟨a1, a2⟩ := h1
      obtain ⟨a3, a4⟩ := h2
      obtain rfl | rfl | rfl | rfl | rfl | ⟨k1, k2, k3, k4, k5⟩ : k = 4 ∨ k = 1 ∨ k = 3 ∨ k = 2 ∨ k = 5 ∨ (k ≠ 4 ∧ k ≠ 1 ∧ k ≠ 3 ∧ k ≠ 2 ∧ k ≠ 5) := by omega
      rotate_left 5
      have e1 : ((k : Int) == 4) = false := by simp; omega
      have e2 : ((k : Int) == 1) = false := by simp; omega
      have e3 : ((k : Int) == 3) = false := by simp; omega
      have e4 : ((k : Int) == 2) = false := by simp; omega
      have e5 : ((k : Int) == 5) = false := by simp; omega
      have Kn := hide (And.intro k1 (And.intro k2 (And.intro k3 (And.intro k4 k5))))
      clear k1 k2 k3 k4 k5
      rotate_right 5
      all_goals
        go_enter Tryz.func126, Tryz.ntmps126
        go_wp2_with fail
        go_fit (place_any p _)
        rw [H1.out]
        rintro x w' ⟨rfl, rfl⟩
        go_wp2_with fail
        go_fit (place_any n _)
        rw [H2.out]
        rintro x w' ⟨rfl, rfl⟩
        go_wp2
        all_goals
          go_ret
          refine ⟨?_, (Below.refl _ _).alloc (Nat.le_refl _) _⟩
          (try simp only [Bool.not_eq_true', Bool.not_eq_false', beq_iff_eq, beq_eq_false_iff_ne, ne_eq] at *)
          first | exact fm_yes (by unfold fmP; omega) | exact fm_no (by unfold fmP; omega) | exact fm_no (by have := Kn.out; unfold fmP; omega)
    · have H2 := hide (show plB n = false from decide_eq_false h2)
      have HF := hide (fm_no (k := k) (p := p) (n := n) (d := d) (o := o) (by unfold fmP; omega))
      clear h1 h2
      go_enter Tryz.func126, Tryz.ntmps126
      go_wp2_with fail
      go_fit (place_any p _)
      rw [H1.out]
      rintro x w' ⟨rfl, rfl⟩
      go_wp2_with fail
      go_fit (place_any n _)
      rw [H2.out]
      rintro x w' ⟨rfl, rfl⟩
      go_wp2
      go_ret
      exact ⟨HF.out, hb0⟩
  · have H1 := hide (show plB p = false from decide_eq_false h1)
    have HF := hide (fm_no (k := k) (p := p) (n := n) (d := d) (o := o) (by unfold fmP; omega))
    clear h1
    go_enter Tryz.func126, Tryz.ntmps126
    go_wp2_with fail
    go_fit (place_any p _)
    rw [H1.out]
    rintro x w' ⟨rfl, rfl⟩
    go_wp2
    go_ret
    exact ⟨HF.out, hb0⟩
set_option maxHeartbeats 1600000 in
theorem rform_any (k : Nat) (p n : Int) (D : Option Addr) (d dc : Nat) (O : Option Addr) (o oc : Nat) (w : World) (hk : k < 256) :
    Calls Tryz.prog 81 #[opv k p n D d dc O o oc] w fun e w' => e = .returned (.int .i64 (fmE k p n d o)) ∧ Below w.heap.size w w' := by
  have hb0 : Below w.heap.size w (w.alloc (.cells #[.int .u8 k, .int .i64 p, .int .i64 n, .slice D d dc, .slice O o oc] 47)) := (Below.refl _ _).alloc (Nat.le_refl _) _
  by_cases h1 : (0 ≤ p ∧ p ≤ 2147483647) ∧ (0 ≤ n ∧ n ≤ 2147483647) ∧ d ≤ 262144 ∧ o ≤ 4096
  · obtain ⟨⟨a1, a2⟩, ⟨a3, a4⟩, a5, a6⟩ := h1
    obtain rfl | rfl | rfl | rfl | rfl | ⟨k1, k2, k3, k4, k5⟩ : k = 4 ∨ k = 1 ∨ k = 3 ∨ k = 2 ∨ k = 5 ∨ (k ≠ 4 ∧ k ≠ 1 ∧ k ≠ 3 ∧ k ≠ 2 ∧ k ≠ 5) := by omega
    rotate_left 5
    have e1 : ((k : Int) == 4) = false := by simp; omega
    have e2 : ((k : Int) == 1) = false := by simp; omega
    have e3 : ((k : Int) == 3) = false := by simp; omega
    have e4 : ((k : Int) == 2) = false := by simp; omega
    have e5 : ((k : Int) == 5) = false := by simp; omega
    have Kn := hide (And.intro k1 (And.intro k2 (And.intro k3 (And.intro k4 k5))))
    clear k1 k2 k3 k4 k5
    rotate_right 5
    all_goals
      go_enter Tryz.func81, Tryz.ntmps81
      go_wp2
      all_goals
        go_ret
        refine ⟨?_, (Below.refl _ _).alloc (Nat.le_refl _) _⟩
        (try simp only [Bool.not_eq_true', Bool.not_eq_false', beq_iff_eq, beq_eq_false_iff_ne, ne_eq] at *)
        first | exact fm_yes (by unfold fmP; omega) | exact fm_no (by unfold fmP; omega) | exact fm_no (by have := Kn.out; unfold fmP; omega)
  · have HF := hide (fm_no (k := k) (p := p) (n := n) (d := d) (o := o) (by unfold fmP; omega))
    have H1 := hide h1
    clear h1
    go_enter Tryz.func81, Tryz.ntmps81
    go_wp2
    all_goals
      first
        | (go_ret; exact ⟨HF.out, hb0⟩)
        | (exfalso; have := H1.out; omega)
end Go.Proofs.YtkknkdjdneldlaaGreat
namespace Go.Proofs.YtkknkdjdneldlaaGreat
set_option maxRecDepth 20000
open Go.RowKit Go.Px
set_option linter.unusedVariables false
set_option linter.unusedSimpArgs false

abbrev resv (k : Nat) (D : Option Addr) (d dc : Nat) : Value := .agg #[.int .u8 k, .slice D d dc]
def rsP (k d : Nat) : Prop := ((k = 2 ∨ k = 3) ∧ d = 0) ∨ ((k = 1 ∨ k = 4) ∧ d ≤ 262144)
instance (k d : Nat) : Decidable (rsP k d) := by unfold rsP; infer_instance
def rsE (k d : Nat) : Int := if rsP k d then 0 else 42
theorem rs_yes {k d : Nat} (h : rsP k d) : Ending.returned (.int .i64 0) = .returned (.int .i64 (rsE k d)) := by unfold rsE; rw [if_pos h]
theorem rs_no {k d : Nat} (h : ¬ rsP k d) : Ending.returned (.int .i64 42) = .returned (.int .i64 (rsE k d)) := by unfold rsE; rw [if_neg h]

set_option maxHeartbeats 800000 in
theorem result_any (k : Nat) (D : Option Addr) (d dc : Nat) (w : World) (hk : k < 256) : Calls Tryz.prog 105 #[resv k D d dc] w fun e w' => e = .returned (.int .i64 (rsE k d)) ∧ Below w.heap.size w w' := by
  obtain rfl | rfl | rfl | rfl | ⟨k1, k2, k3, k4⟩ : k = 2 ∨ k = 3 ∨ k = 1 ∨ k = 4 ∨ (k ≠ 2 ∧ k ≠ 3 ∧ k ≠ 1 ∧ k ≠ 4) := by omega
  rotate_left 4
  have e1 : ((k : Int) == 2) = false := by simp; omega
  have e2 : ((k : Int) == 3) = false := by simp; omega
  have e3 : ((k : Int) == 1) = false := by simp; omega
  have e4 : ((k : Int) == 4) = false := by simp; omega
  have Kn := hide (And.intro k1 (And.intro k2 (And.intro k3 k4)))
  clear k1 k2 k3 k4
  rotate_right 4
  all_goals
    go_enter Tryz.func105, Tryz.ntmps105
    go_wp2
    all_goals
      go_ret
      refine ⟨?_, (Below.refl _ _).alloc (Nat.le_refl _) _⟩
      (try simp only [Bool.not_eq_true', Bool.not_eq_false', beq_iff_eq, beq_eq_false_iff_ne, ne_eq, decide_eq_true_eq, decide_eq_false_iff_not] at *)
      first | exact rs_yes (by unfold rsP; omega) | exact rs_no (by unfold rsP; omega) | exact rs_no (by have := Kn.out; unfold rsP; omega)
/-! ### Same -/
def eqO (k : Nat) (p n : Int) (ds os : List UInt8) (k' : Nat) (p' n' : Int) (ds' os' : List UInt8) : Bool := ((k : Int) == (k' : Int)) && ((p == p') && ((n == n') && ((ds == ds') && (os == os'))))
theorem bequal_any (A : Option Addr) (n c : Nat) (bd : List UInt8) (B : Option Addr) (m d : Nat) (bd' : List UInt8) (w : World) (hn : bd.length = n) (hr : Rd w A (bys bd)) (hm : bd'.length = m) (hr2 : Rd w B (bys bd')) :
    Calls Tryz.prog 94 #[.slice A n c, .slice B m d] w fun e w' => e = .returned (.bool (bd == bd')) ∧ w = w' := by
  have f1 := convB c hn hr
  have f2 := convB d hm hr2
  clear hn hm
  go_enter Tryz.func94, Tryz.ntmps94
  go_wp2
  go_ret
  exact ⟨rfl, rfl⟩
set_option maxHeartbeats 1600000 in
theorem osame_any (k : Nat) (p n : Int) (D : Option Addr) (d dc : Nat) (ds : List UInt8) (O : Option Addr) (o oc : Nat) (os : List UInt8) (k' : Nat) (p' n' : Int) (D' : Option Addr) (d' dc' : Nat) (ds' : List UInt8) (O' : Option Addr) (o' oc' : Nat) (os' : List UInt8) (w : World)
    (hd : ds.length = d) (ho : os.length = o) (hd' : ds'.length = d') (ho' : os'.length = o') (hD : Rd w D (bys ds)) (hO : Rd w O (bys os)) (hD' : Rd w D' (bys ds')) (hO' : Rd w O' (bys os')) :
    Calls Tryz.prog 84 #[opv k p n D d dc O o oc, opv k' p' n' D' d' dc' O' o' oc'] w fun e w' => e = .returned (.bool (eqO k p n ds os k' p' n' ds' os')) ∧ Below w.heap.size w w' := by
  have hb0 : Below w.heap.size w ((w.alloc (.cells #[.int .u8 k, .int .i64 p, .int .i64 n, .slice D d dc, .slice O o oc] 47)).alloc (.cells #[.int .u8 k', .int .i64 p', .int .i64 n', .slice D' d' dc', .slice O' o' oc'] 47)) := ((Below.refl _ _).alloc (Nat.le_refl _) _).alloc (by simp) _
  have HD := hide (bequal_any D d dc ds D' d' dc' ds' _ hd (hD.below hb0) hd' (hD'.below hb0))
  have HO := hide (bequal_any O o oc os O' o' oc' os' _ ho (hO.below hb0) ho' (hO'.below hb0))
  clear hd ho hd' ho'
  rcases bool_two ((k : Int) == (k' : Int)) with q1 | q1
  · rcases bool_two (p == p') with q2 | q2
    · rcases bool_two (n == n') with q3 | q3
      · rcases bool_two (ds == ds') with q4 | q4
        · have HF := hide (show eqO k p n ds os k' p' n' ds' os' = (os == os') by unfold eqO; rw [q1, q2, q3, q4]; rfl)
          have Q4 := hide q4
          clear q4
          go_enter Tryz.func84, Tryz.ntmps84
          go_wp2_with fail
          refine HD.out.mono ?_
          rw [Q4.out]
          rintro e w1 ⟨rfl, rfl⟩
          go_wp2_with fail
          refine HO.out.mono ?_
          rintro e w1 ⟨rfl, rfl⟩
          go_wp2
          go_ret
          exact ⟨by rw [HF.out]; rfl, hb0⟩
        · have HF := hide (show eqO k p n ds os k' p' n' ds' os' = false by unfold eqO; rw [q1, q2, q3, q4]; rfl)
          have Q4 := hide q4
          clear q4
          go_enter Tryz.func84, Tryz.ntmps84
          go_wp2_with fail
          refine HD.out.mono ?_
          rw [Q4.out]
          rintro e w1 ⟨rfl, rfl⟩
          go_wp2
          go_ret
          exact ⟨by rw [HF.out]; rfl, hb0⟩
      · have HF := hide (show eqO k p n ds os k' p' n' ds' os' = false by unfold eqO; rw [q1, q2, q3]; rfl)
        go_enter Tryz.func84, Tryz.ntmps84
        go_wp2
        go_ret
        exact ⟨by rw [HF.out]; rfl, hb0⟩
    · have HF := hide (show eqO k p n ds os k' p' n' ds' os' = false by unfold eqO; rw [q1, q2]; rfl)
      go_enter Tryz.func84, Tryz.ntmps84
      go_wp2
      go_ret
      exact ⟨by rw [HF.out]; rfl, hb0⟩
  · have HF := hide (show eqO k p n ds os k' p' n' ds' os' = false by unfold eqO; rw [q1]; rfl)
    go_enter Tryz.func84, Tryz.ntmps84
    go_wp2
    go_ret
    exact ⟨by rw [HF.out]; rfl, hb0⟩
set_option maxHeartbeats 1600000 in
theorem rosame_any (k : Nat) (p n : Int) (D : Option Addr) (d dc : Nat) (ds : List UInt8) (O : Option Addr) (o oc : Nat) (os : List UInt8) (k' : Nat) (p' n' : Int) (D' : Option Addr) (d' dc' : Nat) (ds' : List UInt8) (O' : Option Addr) (o' oc' : Nat) (os' : List UInt8) (w : World)
    (hd : ds.length = d) (ho : os.length = o) (hd' : ds'.length = d') (ho' : os'.length = o') (hD : Rd w D (bys ds)) (hO : Rd w O (bys os)) (hD' : Rd w D' (bys ds')) (hO' : Rd w O' (bys os')) :
    Calls Tryz.prog 80 #[opv k p n D d dc O o oc, opv k' p' n' D' d' dc' O' o' oc'] w fun e w' => e = .returned (.bool (eqO k p n ds os k' p' n' ds' os')) ∧ Below w.heap.size w w' := by
  have hb0 : Below w.heap.size w ((w.alloc (.cells #[.int .u8 k, .int .i64 p, .int .i64 n, .slice D d dc, .slice O o oc] 47)).alloc (.cells #[.int .u8 k', .int .i64 p', .int .i64 n', .slice D' d' dc', .slice O' o' oc'] 47)) := ((Below.refl _ _).alloc (Nat.le_refl _) _).alloc (by simp) _
  have c1 := convB dc hd (hD.below hb0)
  have c2 := convB dc' hd' (hD'.below hb0)
  have c3 := convB oc ho (hO.below hb0)
  have c4 := convB oc' ho' (hO'.below hb0)
  clear hd ho hd' ho'
  rcases bool_two ((k : Int) == (k' : Int)) with q1 | q1
  · rcases bool_two (p == p') with q2 | q2
    · rcases bool_two (n == n') with q3 | q3
      · rcases bool_two (ds == ds') with q4 | q4
        · rcases bool_two (os == os') with q5 | q5
          all_goals
            have hF : eqO k p n ds os k' p' n' ds' os' = (os == os') := by unfold eqO; rw [q1, q2, q3, q4]; rfl
            rw [q5] at hF
            have HF := hide hF
            clear hF
            go_enter Tryz.func80, Tryz.ntmps80
            go_wp2
            go_ret
            exact ⟨by rw [HF.out]; rfl, hb0⟩
        · have HF := hide (show eqO k p n ds os k' p' n' ds' os' = false by unfold eqO; rw [q1, q2, q3, q4]; rfl)
          go_enter Tryz.func80, Tryz.ntmps80
          go_wp2
          go_ret
          exact ⟨by rw [HF.out]; rfl, hb0⟩
      · have HF := hide (show eqO k p n ds os k' p' n' ds' os' = false by unfold eqO; rw [q1, q2, q3]; rfl)
        go_enter Tryz.func80, Tryz.ntmps80
        go_wp2
        go_ret
        exact ⟨by rw [HF.out]; rfl, hb0⟩
    · have HF := hide (show eqO k p n ds os k' p' n' ds' os' = false by unfold eqO; rw [q1, q2]; rfl)
      go_enter Tryz.func80, Tryz.ntmps80
      go_wp2
      go_ret
      exact ⟨by rw [HF.out]; rfl, hb0⟩
  · have HF := hide (show eqO k p n ds os k' p' n' ds' os' = false by unfold eqO; rw [q1]; rfl)
    go_enter Tryz.func80, Tryz.ntmps80
    go_wp2
    go_ret
    exact ⟨by rw [HF.out]; rfl, hb0⟩
end Go.Proofs.YtkknkdjdneldlaaGreat
namespace Go.Proofs.YtkknkdjdneldlaaGreat
set_option maxRecDepth 20000
open Go.RowKit Go.Px
set_option linter.unusedVariables false
theorem clone_any (A : Option Addr) (n c : Nat) (bs : List UInt8) (w : World) (hn : bs.length = n) (h8 : n ≤ 1099511627776) (hc : Rd w A (bys bs)) :
    Calls Tryz.prog 111 #[.slice A n c] w fun e w' => ∃ v, e = .returned v ∧ w'.ownsRow w.heap.size 5 1 v n (bys bs) ∧ Below w.heap.size w w' := by
  have Hn := hide hn
  clear hn
  rcases A with _ | a
  · have hb : bs = [] := by
      rcases bs with _ | ⟨b, r⟩
      · rfl
      · obtain ⟨a, ha, _⟩ := hc 0 _ rfl; cases ha
    subst hb
    have h0 := Hn.out
    simp only [List.length_nil] at h0
    subst h0
    go_enter Tryz.func111, Tryz.ntmps111
    go_wp2_with fail
    go_ret
    exact ⟨_, rfl, World.ownsRow_nil _ _ _ _, Below.refl _ _⟩
  · go_enter Tryz.func111, Tryz.ntmps111
    go_wp2_with (first | (with_reducible refine stop_append rfl ?_) | (with_reducible refine stop_copy rfl ?_) | (with_reducible refine stop_make rfl ?_))
    have hg : Grow (w.alloc (.cells #[] 5)) (.slice (some ⟨w.heap.size, 0, none⟩) 0 0) w.heap.size 5 1 (w.alloc (.cells #[] 5)) (.slice (some ⟨w.heap.size, 0, none⟩) 0 0) 0 [] :=
      Grow.start (World.ownsRow_made w #[] 0 (Nat.le_refl _) (by unfold maxLen; omega) rfl) (by simp)
    refine hg.append rfl rfl tBytes rfl rfl (by rw [bys_length, Hn.out]; omega) (hc.alloc _) (bys_one _) (by omega) (by omega) ?_
    intro v' w1 hG _
    go_wp2
    go_ret
    refine ⟨_, rfl, by simpa using hG.owns, hG.allOf ((Below.refl _ _).alloc (Nat.le_refl _) _) (by simp) (fun g hg => by simp [Value.ownBlock] at hg; omega)⟩

end Go.Proofs.YtkknkdjdneldlaaGreat
namespace Go.Proofs.YtkknkdjdneldlaaGreat
set_option maxRecDepth 20000
open Go.RowKit Go.Px
set_option linter.unusedVariables false
def serB (n : Int) : Bool := decide (1 ≤ n ∧ n ≤ 4611686018427387904)
theorem serial_any (n : Int) (w : World) : Calls Tryz.prog 102 #[.int .i64 n] w fun e w' => e = .returned (.bool (serB n)) ∧ w = w' := by
  by_cases h1 : 1 ≤ n
  · by_cases h2 : n ≤ 4611686018427387904
    · have H := hide (show serB n = true from decide_eq_true ⟨h1, h2⟩)
      go_enter Tryz.func102, Tryz.ntmps102
      go_wp2
      go_ret
      exact ⟨by rw [H.out]; rfl, rfl⟩
    · have H := hide (show serB n = false from decide_eq_false (by omega))
      go_enter Tryz.func102, Tryz.ntmps102
      go_wp2
      go_ret
      exact ⟨by rw [H.out]; rfl, rfl⟩
  · have H := hide (show serB n = false from decide_eq_false (by omega))
    go_enter Tryz.func102, Tryz.ntmps102
    go_wp2
    go_ret
    exact ⟨by rw [H.out]; rfl, rfl⟩
theorem serB_out {num : Int} (h : serB num = true) : 1 ≤ num ∧ num ≤ 4611686018427387904 := of_decide_eq_true h
theorem leBk {B g j : Nat} (h : B ≤ g) : B ≤ (⟨g, j, none⟩ : Addr).block := h
theorem own_lt {w : World} {base e size n : Nat} {v : Value} {xs : List Value} (h : w.ownsRow base e size v n xs) : ∀ g, v.ownBlock = some g → base ≤ g ∧ g < w.heap.size := by
  intro g hg
  rcases h.2 with ⟨rfl, _⟩ | ⟨g', cap, cur, rfl, hbg, hgg, _⟩
  · simp [Value.ownBlock] at hg
  · simp [Value.ownBlock] at hg
    subst hg
    exact ⟨hbg, (Array.getElem?_eq_some_iff.1 hgg).1⟩
end Go.Proofs.YtkknkdjdneldlaaGreat
namespace Go.Proofs.YtkknkdjdneldlaaGreat
set_option maxRecDepth 20000
open Go.RowKit Go.Px
set_option linter.unusedVariables false
set_option linter.unusedSimpArgs false

theorem shE_two (b z : Int) : ((1 ≤ b ∧ b ≤ 4096) ∧ 1 ≤ z ∧ z ≤ 4096) ∧ shE b z = 0 ∨ shE b z = 40 := by
  unfold shE; split
  · exact .inl ⟨‹_›, rfl⟩
  · exact .inr rfl
theorem fmE_two (k : Nat) (p n : Int) (d o : Nat) : fmP k p n d o ∧ fmE k p n d o = 0 ∨ fmE k p n d o = 41 := by
  unfold fmE; split
  · exact .inl ⟨‹_›, rfl⟩
  · exact .inr rfl
def ftE (b z : Int) (k : Nat) (p n : Int) (d o : Nat) : Int := if shE b z ≠ 0 then shE b z else fmE k p n d o
def ftC (b z : Int) (k : Nat) (p n : Int) (d o : Nat) : Int :=
  if ftE b z k p n d o ≠ 0 then 0 else if k = 4 then 1 else if k = 5 then (if b ≤ p then 2 else if (d : Int) ≠ z ∨ (o : Int) ≠ z then 3 else 1)
  else if n < 1 ∨ 64 < n ∨ b < p + n then 2 else if k = 2 ∧ (d : Int) ≠ n * z then 3 else 1
def FitIs (b z : Int) (k : Nat) (p n : Int) (d o : Nat) (w : World) (e : Ending) (w' : World) : Prop := e = .returned (.tuple #[.int .u8 (ftC b z k p n d o), .int .i64 (ftE b z k p n d o)]) ∧ Below w.heap.size w w'
theorem ft_bad {b z : Int} {k : Nat} {p n : Int} {d o : Nat} {x : Int} (h : ftE b z k p n d o = x) (hx : x ≠ 0) : ftC b z k p n d o = 0 := by
  unfold ftC; rw [if_pos (by rw [h]; exact hx)]
theorem mul_bd {n z : Int} (h1 : 0 ≤ n) (h2 : n ≤ 2147483647) (h3 : 1 ≤ z) (h4 : z ≤ 4096) : 0 ≤ n * z ∧ n * z ≤ 8796093018112 := by
  constructor
  · exact Int.mul_nonneg h1 (by omega)
  · have a := Int.mul_le_mul_of_nonneg_right h2 (show 0 ≤ z by omega)
    have b := Int.mul_le_mul_of_nonneg_left h4 (show (0 : Int) ≤ 2147483647 by omega)
    omega

set_option maxHeartbeats 3200000 in
theorem fit_any (b z : Int) (k : Nat) (p n : Int) (D : Option Addr) (d dc : Nat) (O : Option Addr) (o oc : Nat) (w : World) (hk : k < 256) :
    Calls Tryz.prog 147 #[shp b z, opv k p n D d dc O o oc] w (FitIs b z k p n d o w) := by
  obtain ⟨g, hg⟩ : ∃ g, w.heap.size = g := ⟨_, rfl⟩
  obtain ⟨w0, hw0⟩ : ∃ w0, (w.alloc (.cells #[.int .i64 b, .int .i64 z] 23)).alloc (.cells #[.int .u8 k, .int .i64 p, .int .i64 n, .slice D d dc, .slice O o oc] 47) = w0 := ⟨_, rfl⟩
  have hS : Blk w0 g [.int .i64 b, .int .i64 z] 23 := by rw [← hw0, ← hg]; exact (Blk.new w [.int .i64 b, .int .i64 z] _).alloc _
  have hO : Blk w0 (g + 1) [.int .u8 k, .int .i64 p, .int .i64 n, .slice D d dc, .slice O o oc] 47 := by
    rw [← hw0, ← hg]
    have := Blk.new (w.alloc (.cells #[.int .i64 b, .int .i64 z] 23)) [.int .u8 k, .int .i64 p, .int .i64 n, .slice D d dc, .slice O o oc] 47
    rwa [World.size_alloc] at this
  have hb0 : Below w.heap.size w w0 := by rw [← hw0]; exact ((Below.refl _ _).alloc (Nat.le_refl _) _).alloc (by simp) _
  have x0 := hS.cell (j := 0) rfl
  have x1 := hS.cell (j := 1) rfl
  have y0 := hO.cell (j := 0) rfl
  have y1 := hO.cell (j := 1) rfl
  have y2 := hO.cell (j := 2) rfl
  have y3 := hO.cell (j := 3) rfl
  have y4 := hO.cell (j := 4) rfl
  go_enter Tryz.func147, Tryz.ntmps147
  go_wp2_with fail
  go_fit (shape_any b z w0)
  rcases shE_two b z with ⟨hsp, hse⟩ | hse
  · rw [hse]
    rintro x w1 ⟨rfl, hb1⟩
    have hO1 := hO.below hb1
    have u0 := hO1.cell (j := 0) rfl
    have u1 := hO1.cell (j := 1) rfl
    have u2 := hO1.cell (j := 2) rfl
    have u3 := hO1.cell (j := 3) rfl
    have u4 := hO1.cell (j := 4) rfl
    have hb01 := hb0.trans (hb1.mono hb0.size)
    have Hse := hide hse
    have Hsp := hide hsp
    clear hse hsp x0 x1 y0 y1 y2 y3 y4
    go_wp2_with fail
    go_fit (form_any k p n D d dc O o oc w1 hk)
    rcases fmE_two k p n d o with ⟨hfp, hfe⟩ | hfe
    · have hE : ftE b z k p n d o = 0 := by unfold ftE; rw [if_neg (by rw [Hse.out]; simp), hfe]
      rw [hfe]
      rintro x w2 ⟨rfl, hb2⟩
      have hO2 := hO1.below hb2
      have hS2 := (hS.below hb1).below hb2
      have hb02 := hb01.trans (hb2.mono hb01.size)
      have HE := hide hE
      clear hE hfe u0 u1 u2 u3 u4
      have v0 := hO2.cell (j := 0) rfl
      have v1 := hO2.cell (j := 1) rfl
      have v2 := hO2.cell (j := 2) rfl
      have v3 := hO2.cell (j := 3) rfl
      have v4 := hO2.cell (j := 4) rfl
      have s0 := hS2.cell (j := 0) rfl
      have s1 := hS2.cell (j := 1) rfl
      have hC : ∀ c, (if k = 4 then 1 else if k = 5 then (if b ≤ p then 2 else if (d : Int) ≠ z ∨ (o : Int) ≠ z then 3 else 1)
        else if n < 1 ∨ 64 < n ∨ b < p + n then 2 else if k = 2 ∧ (d : Int) ≠ n * z then 3 else 1) = c → (Ending.returned (.tuple #[.int .u8 c, .int .i64 0]) : Ending) = .returned (.tuple #[.int .u8 (ftC b z k p n d o), .int .i64 (ftE b z k p n d o)]) := fun c h => by
        unfold ftC; rw [HE.out, if_neg (by simp), h]
      have HC := hide hC
      clear hC
      obtain ⟨⟨⟨p1, p2⟩, ⟨n1, n2⟩, d1, o1⟩, hkk⟩ := hfp
      obtain ⟨⟨b1, b2⟩, z1, z2⟩ := Hsp.out
      have hm := mul_bd n1 n2 z1 z2
      obtain ⟨m1, m2⟩ := hm
      obtain rfl | rfl | rfl | rfl | rfl : k = 4 ∨ k = 1 ∨ k = 3 ∨ k = 2 ∨ k = 5 := by omega
      all_goals
        clear hkk
        go_wp2
        all_goals
          go_ret2
          refine ⟨HC.out _ ?_, hb02⟩
          (try simp only [Bool.not_eq_true', Bool.not_eq_false', beq_iff_eq, beq_eq_false_iff_ne, ne_eq, bne_iff_ne, bne_eq_false_iff_eq] at *)
          (try simp only [true_and, if_true])
          repeat (first | rw [if_pos (by omega)] | rw [if_neg (by omega)])
    · have hE : ftE b z k p n d o = 41 := by unfold ftE; rw [if_neg (by rw [Hse.out]; simp), hfe]
      have HC := hide (ft_bad hE (by decide))
      have HE := hide hE
      rw [hfe]
      rintro x w2 ⟨rfl, hb2⟩
      clear hE hfe
      go_wp2
      go_ret2
      exact ⟨by rw [HC.out, HE.out]; rfl, hb01.trans (hb2.mono hb01.size)⟩
  · have hE : ftE b z k p n d o = 40 := by unfold ftE; rw [if_pos (by rw [hse]; decide), hse]
    have HC := hide (ft_bad hE (by decide))
    have HE := hide hE
    rw [hse]
    clear hE hse
    rintro x w1 ⟨rfl, hb1⟩
    go_wp2
    go_ret2
    exact ⟨by rw [HC.out, HE.out]; rfl, hb0.trans (hb1.mono hb0.size)⟩
end Go.Proofs.YtkknkdjdneldlaaGreat
namespace Go.Proofs.YtkknkdjdneldlaaGreat
set_option maxRecDepth 20000
open Go.RowKit Go.Px Go.ChangeShapes Go.WideShapes Go.ChangeAt Go.Joins Go.Deep
set_option linter.unusedVariables false
variable {H : Type} {enc : TypeId × Value → H}
/-- A request in memory, at an address. -/
def OpAt (w : World) (a : Addr) : Prop := ∃ (k : Nat) (p n : Int) (D : Option Addr) (d dc : Nat) (ds : List UInt8) (O : Option Addr) (o oc : Nat) (os : List UInt8), k < 256 ∧
  w.cell? a = some (.int .u8 k) ∧ w.cell? ⟨a.block, a.off + 1, none⟩ = some (.int .i64 p) ∧ w.cell? ⟨a.block, a.off + 2, none⟩ = some (.int .i64 n) ∧ w.cell? ⟨a.block, a.off + 3, none⟩ = some (.slice D d dc) ∧ w.cell? ⟨a.block, a.off + 4, none⟩ = some (.slice O o oc) ∧
  ds.length = d ∧ os.length = o ∧ Rd w D (bys ds) ∧ Rd w O (bys os)
theorem cell_below {w w' : World} (hb : Below w.heap.size w w') {a : Addr} {u : Value} (h : w.cell? a = some u) : w'.cell? a = some u := (hb.cell (p := a) (World.block_lt_of_cell? w _ h)).trans h
theorem OpAt.below {w w' : World} {a : Addr} (h : OpAt w a) (hb : Below w.heap.size w w') : OpAt w' a := by
  obtain ⟨k, p, n, D, d, dc, ds, O, o, oc, os, h0, h1, h2, h3, h4, h5, h6, h7, h8, h9⟩ := h
  exact ⟨k, p, n, D, d, dc, ds, O, o, oc, os, h0, cell_below hb h1, cell_below hb h2, cell_below hb h3, cell_below hb h4, cell_below hb h5, h6, h7, h8.below hb, h9.below hb⟩
/-- A row of n steps (of seven cells each). -/
def Stps (w : World) (A : Option Addr) (n : Nat) : Prop := ∀ i, i < n → ∃ a, A = some a ∧ OpAt w (a.add (i * 7))
theorem Stps.below {w w' : World} {A : Option Addr} {n : Nat} (h : Stps w A n) (hb : Below w.heap.size w w') : Stps w' A n := fun i hi => by
  obtain ⟨a, rfl, h1⟩ := h i hi
  exact ⟨a, rfl, h1.below hb⟩
end Go.Proofs.YtkknkdjdneldlaaGreat
namespace Go.Proofs.YtkknkdjdneldlaaGreat
set_option maxRecDepth 20000
open Go.RowKit Go.Px
set_option linter.unusedVariables false

theorem number_any (v : Int) (w : World) : Calls Tryz.prog 116 #[.int .i64 v] w fun e w' => e = .returned (.bool (numB v)) ∧ w = w' := by
  by_cases h1 : 0 ≤ v
  · by_cases h2 : v ≤ 4611686018427387904
    · have H := hide (show numB v = true from decide_eq_true ⟨h1, h2⟩)
      go_enter Tryz.func116, Tryz.ntmps116
      go_wp2
      go_ret
      exact ⟨by rw [H.out]; rfl, rfl⟩
    · have H := hide (show numB v = false from decide_eq_false (by omega))
      go_enter Tryz.func116, Tryz.ntmps116
      go_wp2
      go_ret
      exact ⟨by rw [H.out]; rfl, rfl⟩
  · have H := hide (show numB v = false from decide_eq_false (by omega))
    go_enter Tryz.func116, Tryz.ntmps116
    go_wp2
    go_ret
    exact ⟨by rw [H.out]; rfl, rfl⟩
theorem node_any (v : Int) (w : World) : Calls Tryz.prog 151 #[.int .i64 v] w fun e w' => e = .returned (.bool (nodeB v)) ∧ w = w' := by
  by_cases h1 : 0 ≤ v
  · by_cases h2 : v < 64
    · have H := hide (show nodeB v = true from decide_eq_true ⟨h1, h2⟩)
      go_enter Tryz.func151, Tryz.ntmps151
      go_wp2
      go_ret
      exact ⟨by rw [H.out]; rfl, rfl⟩
    · have H := hide (show nodeB v = false from decide_eq_false (by omega))
      go_enter Tryz.func151, Tryz.ntmps151
      go_wp2
      go_ret
      exact ⟨by rw [H.out]; rfl, rfl⟩
  · have H := hide (show nodeB v = false from decide_eq_false (by omega))
    go_enter Tryz.func151, Tryz.ntmps151
    go_wp2
    go_ret
    exact ⟨by rw [H.out]; rfl, rfl⟩

abbrev grp (e : Int) (A : Option Addr) (n c : Nat) : Value := .agg #[.int .i64 e, .slice A n c]

set_option maxHeartbeats 800000 in
theorem mgroup_any (e : Int) (A : Option Addr) (n c : Nat) (ms : List Int) (w : World) (hn : ms.length = n) (hr : Rd w A (ints ms)) :
    Calls Tryz.prog 119 #[grp e A n c] w fun x w' => x = .returned (.bool (grpOk e ms)) ∧ Below w.heap.size w w' := by
  have Hn := hide hn
  have hb0 : Below w.heap.size w (w.alloc (.cells #[.int .i64 e, .slice A n c] 28)) := (Below.refl _ _).alloc (Nat.le_refl _) _
  by_cases h1 : 0 ≤ e ∧ e ≤ 4611686018427387904
  · have HD := hide (show numB e = true from decide_eq_true h1)
    by_cases h2 : 1 ≤ n
    · by_cases h3 : n ≤ 9
      · have HG := hide (show grpOk e ms = nodesOk (-1) ms by unfold grpOk; rw [decide_eq_true h1, decide_eq_true (show 1 ≤ ms.length ∧ ms.length ≤ 9 by omega)]; rfl)
        have hrb := hr.below hb0
        clear hn h1
        go_enter Tryz.func119, Tryz.ntmps119
        go_wp2_with fail
        go_fit (number_any e _)
        rw [HD.out]
        rintro x w' ⟨rfl, rfl⟩
        go_wp2
        go_loop [3, 25] (fun a i => ∃ (k : Nat) (z : Int), k ≤ n ∧ i = .int .i64 k ∧ a = .int .i64 z ∧ -1 ≤ z ∧ z < 64 ∧ Hid (nodesOk (-1) ms = nodesOk z (ms.drop k))) (fun _ i => n - (intOf i).toNat)
        case atStart => exact ⟨0, -1, by omega, rfl, rfl, by omega, by omega, by rw [List.drop_zero]; exact hide rfl⟩
        case round =>
          obtain ⟨k, z, hk, rfl, rfl, hz, hz2, hN⟩ := hrel
          by_cases hlt : k < n
          · have hkl : k < ms.length := by rw [Hn.out]; exact hlt
            obtain ⟨a, ha, hc⟩ := hrb k _ (ints_get hkl)
            obtain ⟨y, hy⟩ : ∃ y, ms[k] = y := ⟨_, rfl⟩
            rw [hy] at hc
            subst ha
            by_cases hb : y ≤ z
            · have HF := hide (hN.out.trans (nodesOk_bad hkl (.inl (by rw [hy]; exact hb))))
              clear hy
              go_wp2
              go_ret
              exact ⟨by rw [HG.out, HF.out]; rfl, hb0⟩
            · have hy0 : 0 ≤ y := by omega
              by_cases hb2 : y < 64
              · have HF := hide (hN.out.trans (nodesOk_good hkl (by rw [hy]; omega) (by rw [hy]; exact hb2)))
                rw [hy] at HF
                have HD2 := hide (show nodeB y = true from decide_eq_true ⟨hy0, hb2⟩)
                clear hy
                go_wp2_with fail
                go_fit (node_any y _)
                rw [HD2.out]
                rintro x w' ⟨rfl, rfl⟩
                go_wp2
                go_round
                case rel => exact ⟨k + 1, y, by omega, by go_num, rfl, by omega, by omega, HF⟩
                case measure => simp [intOf]; omega
              · have HF := hide (hN.out.trans (nodesOk_bad hkl (.inr (by rw [hy]; omega))))
                have HD2 := hide (show nodeB y = false from decide_eq_false (by omega))
                clear hy
                go_wp2_with fail
                go_fit (node_any y _)
                rw [HD2.out]
                rintro x w' ⟨rfl, rfl⟩
                go_wp2
                go_ret
                exact ⟨by rw [HG.out, HF.out]; rfl, hb0⟩
          · have HF := hide (hN.out.trans (nodesOk_end (show ms.length ≤ k by rw [Hn.out]; omega)))
            go_wp2
            go_ret
            exact ⟨by rw [HG.out, HF.out]; rfl, hb0⟩
      · have HG := hide (show grpOk e ms = false by unfold grpOk; rw [decide_eq_false (show ¬ (1 ≤ ms.length ∧ ms.length ≤ 9) by omega)]; simp)
        clear hn h1
        go_enter Tryz.func119, Tryz.ntmps119
        go_wp2_with fail
        go_fit (number_any e _)
        rw [HD.out]
        rintro x w' ⟨rfl, rfl⟩
        go_wp2
        go_ret
        exact ⟨by rw [HG.out]; rfl, hb0⟩
    · have HG := hide (show grpOk e ms = false by unfold grpOk; rw [decide_eq_false (show ¬ (1 ≤ ms.length ∧ ms.length ≤ 9) by omega)]; simp)
      obtain rfl : n = 0 := by omega
      clear hn h1 h2
      go_enter Tryz.func119, Tryz.ntmps119
      go_wp2_with fail
      go_fit (number_any e _)
      rw [HD.out]
      rintro x w' ⟨rfl, rfl⟩
      go_wp2
      go_ret
      exact ⟨by rw [HG.out]; rfl, hb0⟩
  · have HD := hide (show numB e = false from decide_eq_false h1)
    have HG := hide (show grpOk e ms = false by unfold grpOk; rw [decide_eq_false h1]; rfl)
    clear hn h1
    go_enter Tryz.func119, Tryz.ntmps119
    go_wp2_with fail
    go_fit (number_any e _)
    rw [HD.out]
    rintro x w' ⟨rfl, rfl⟩
    go_wp2
    go_ret
    exact ⟨by rw [HG.out]; rfl, hb0⟩
end Go.Proofs.YtkknkdjdneldlaaGreat
namespace Go.Proofs.YtkknkdjdneldlaaGreat
set_option maxRecDepth 20000
open Go.RowKit Go.Px
set_option linter.unusedVariables false

theorem isSize_any (n : Int) (w : World) : Calls Tryz.prog 174 #[.int .i64 n] w fun e w' => e = .returned (.bool (decide (1 ≤ n ∧ n ≤ 8))) ∧ w = w' := by
  by_cases h1 : 1 ≤ n <;> by_cases h2 : n ≤ 8
  all_goals
    go_enter Tryz.func174, Tryz.ntmps174
    go_wp2
    go_ret
    exact ⟨by simp; omega, rfl⟩

theorem shr_zero (v k : Nat) : ((v : Int) / 2 ^ (8 * k) != 0) = !decide (v < 256 ^ k) := by
  have h2 : ((v : Int) / 2 ^ (8 * k)) = ((v / 256 ^ k : Nat) : Int) := by
    rw [pow256_two, Int.natCast_ediv, Int.natCast_pow]; rfl
  rw [h2]
  have h3 : 0 < 256 ^ k := Nat.pow_pos (by decide)
  rw [Bool.eq_iff_iff]
  simp only [bne_iff_ne, ne_eq, Bool.not_eq_true', decide_eq_false_iff_not, Int.natCast_eq_zero, Nat.div_eq_zero_iff]
  omega

set_option maxHeartbeats 400000 in
theorem fits_any (v : Nat) (n : Int) (w : World) (hv : v < 18446744073709551616) : Calls Tryz.prog 152 #[.int .u64 v, .int .i64 n] w fun e w' => e = .returned (.int .i64 (fitsE v n)) ∧ w = w' := by
  by_cases hs : 1 ≤ n ∧ n ≤ 8
  · have Hz := hide (show decide (1 ≤ n ∧ n ≤ 8) = true by simp [hs])
    obtain ⟨h1, h2⟩ := hs
    obtain ⟨k, rfl⟩ : ∃ k : Nat, n = k := ⟨n.toNat, by omega⟩
    have hq := shr_zero v k
    have Hfin := hide (show fitsE v k = if v < 256 ^ k then 0 else 5 by unfold fitsE; rw [if_pos ⟨h1, h2⟩, Int.toNat_natCast])
    by_cases h8 : (k : Int) < 8
    · by_cases hf : v < 256 ^ k
      all_goals
        simp only [hf, decide_true, decide_false, Bool.not_true, Bool.not_false, if_true, if_false] at hq Hfin
        clear hf
        go_enter Tryz.func152, Tryz.ntmps152
        go_wp2_with (go_at_call 174; refine (isSize_any _ _).mono ?_; rw [Hz.out]; rintro e w' ⟨rfl, rfl⟩)
        go_ret
        exact ⟨by rw [Hfin.out]; rfl, rfl⟩
    · have hk : v < 256 ^ k := by
        have : k = 8 := by omega
        subst this; omega
      clear hq
      go_enter Tryz.func152, Tryz.ntmps152
      go_wp2_with (go_at_call 174; refine (isSize_any _ _).mono ?_; rw [Hz.out]; rintro e w' ⟨rfl, rfl⟩)
      go_ret
      exact ⟨by rw [Hfin.out, if_pos hk]; rfl, rfl⟩
  · have Hz := hide (show decide (1 ≤ n ∧ n ≤ 8) = false by simp; omega)
    have Hfin := hide (show fitsE v n = 1 by unfold fitsE; rw [if_neg hs])
    clear hs
    go_enter Tryz.func152, Tryz.ntmps152
    go_wp2_with (go_at_call 174; refine (isSize_any _ _).mono ?_; rw [Hz.out]; rintro e w' ⟨rfl, rfl⟩)
    go_ret
    exact ⟨by rw [Hfin.out]; rfl, rfl⟩

set_option maxHeartbeats 400000 in
theorem numberO_any (A : Option Addr) (n c : Nat) (bs : List UInt8) (w : World) (hn : bs.length = n) (h8 : n ≤ 8) (hr : Rd w A (bys bs)) :
    Calls Tryz.prog 175 #[.slice A n c] w fun e w' => e = .returned (.int .u64 (numN bs)) ∧ w = w' := by
  have Hn := hide hn
  clear hn
  go_enter Tryz.func175, Tryz.ntmps175
  go_wp2
  go_loop [3, 7] (fun v i => ∃ k : Nat, k ≤ n ∧ i = .int .i64 k ∧ v = .int .u64 (numN (bs.take k))) (fun _ i => n - (intOf i).toNat)
  case atStart => exact ⟨0, Nat.zero_le _, rfl, rfl⟩
  case round =>
    obtain ⟨k, hk, rfl, rfl⟩ := hrel
    by_cases hlt : k < n
    · have hkb : k < bs.length := by rw [Hn.out]; exact hlt
      obtain ⟨a, rfl, hc⟩ := hr k _ (bys_get hkb)
      have HS := hide (numN_take_succ bs k hkb)
      have HL := hide (numN_lt (bs.take k))
      go_wp2
      go_round
      case rel =>
        refine ⟨k + 1, by omega, by go_num, ?_⟩
        have hl := HL.out
        rw [List.length_take, Nat.min_eq_left (by omega)] at hl
        rw [HS.out, or_shift_u64 _ _ k hl (UInt8.toNat_lt _) (by omega)]
      case measure => simp [intOf]; omega
    · go_wp2
      go_ret
      have : k = n := by omega
      subst this
      exact ⟨by rw [List.take_of_length_le (by rw [Hn.out]; exact Nat.le_refl _)]; rfl, rfl⟩

set_option maxHeartbeats 800000 in
theorem get_any (A : Option Addr) (m c : Nat) (bs : List UInt8) (i n : Int) (w : World) (hm : bs.length = m) (hmc : m ≤ c) (hc63 : c ≤ 9223372036854775807) (hr : Rd w A (bys bs)) (hi : -9223372036854775808 ≤ i) (hi2 : i ≤ 9223372036854775807) :
    Calls Tryz.prog 156 #[.slice A m c, .int .i64 i, .int .i64 n] w fun e w' => e = .returned (.tuple #[.int .u64 (getV bs i n), .int .i64 (getI bs i n), .int .i64 (getE bs i n)]) ∧ w = w' := by
  by_cases hs : 1 ≤ n ∧ n ≤ 8
  · have Hz := hide (show decide (1 ≤ n ∧ n ≤ 8) = true by simp [hs])
    obtain ⟨h1, h2⟩ := hs
    by_cases h0 : 0 ≤ i
    · by_cases h3 : i ≤ m
      · by_cases h4 : m - i < n
        · have He := hide (show getE bs i n = 10 by unfold getE; rw [if_pos ⟨h1, h2⟩, if_pos ⟨h0, by omega⟩, if_pos (by omega)])
          clear hm
          go_enter Tryz.func156, Tryz.ntmps156
          go_wp2_with (go_at_call 174; refine (isSize_any _ _).mono ?_; rw [Hz.out]; rintro e w' ⟨rfl, rfl⟩)
          go_ret3
          exact ⟨by simp [getV, getI, He.out], rfl⟩
        · have He := hide (show getE bs i n = 0 by unfold getE; rw [if_pos ⟨h1, h2⟩, if_pos ⟨h0, by omega⟩, if_neg (by omega)])
          obtain ⟨k, rfl⟩ : ∃ k : Nat, n = k := ⟨n.toNat, by omega⟩
          obtain ⟨j, rfl⟩ : ∃ j : Nat, i = j := ⟨i.toNat, by omega⟩
          have Hm := hide hm
          have Hl := hide (show ((bs.drop j).take k).length = k by rw [List.length_take, List.length_drop]; omega)
          clear hm
          go_enter Tryz.func156, Tryz.ntmps156
          go_wp2_with (go_at_call 174; refine (isSize_any _ _).mono ?_; rw [Hz.out]; rintro e w' ⟨rfl, rfl⟩)
          refine (numberO_any _ _ _ ((bs.drop j).take k) _ Hl.out (by omega) (by rw [bys_take, bys_drop]; exact (hr.cutA (n := m) (k := j) (by rw [bys_length, Hm.out]; exact Nat.le_refl _) (by omega) hmc).take _)).mono ?_
          rintro e w' ⟨rfl, rfl⟩
          go_wp2
          go_ret3
          exact ⟨by simp [getV, getI, He.out], rfl⟩
      · have He := hide (show getE bs i n = 5 by unfold getE; rw [if_pos ⟨h1, h2⟩, if_neg (by omega)])
        clear hm
        go_enter Tryz.func156, Tryz.ntmps156
        go_wp2_with (go_at_call 174; refine (isSize_any _ _).mono ?_; rw [Hz.out]; rintro e w' ⟨rfl, rfl⟩)
        go_ret3
        exact ⟨by simp [getV, getI, He.out], rfl⟩
    · have He := hide (show getE bs i n = 5 by unfold getE; rw [if_pos ⟨h1, h2⟩, if_neg (by omega)])
      clear hm
      go_enter Tryz.func156, Tryz.ntmps156
      go_wp2_with (go_at_call 174; refine (isSize_any _ _).mono ?_; rw [Hz.out]; rintro e w' ⟨rfl, rfl⟩)
      go_ret3
      exact ⟨by simp [getV, getI, He.out], rfl⟩
  · have Hz := hide (show decide (1 ≤ n ∧ n ≤ 8) = false by simp; omega)
    have He := hide (show getE bs i n = 1 by unfold getE; rw [if_neg hs])
    clear hm hs
    go_enter Tryz.func156, Tryz.ntmps156
    go_wp2_with (go_at_call 174; refine (isSize_any _ _).mono ?_; rw [Hz.out]; rintro e w' ⟨rfl, rfl⟩)
    go_ret3
    exact ⟨by simp [getV, getI, He.out], rfl⟩

/-- Bytes behind a row of the call's own. -/
theorem appendNumber_any (base : Nat) (v : Value) (n : Nat) (xs : List Value) (x k : Nat) (w : World) (hown : w.ownsRow base 5 1 v n xs) (hx : x < 18446744073709551616) (hk : k ≤ 8) (hn : n ≤ 1099511627776) (hb : base ≤ w.heap.size) :
    Calls Tryz.prog 153 #[v, .int .u64 x, .int .i64 k] w fun e w' => ∃ v', e = .returned v' ∧ Grow w v base 5 1 w' v' (n + k) (xs ++ bys (leB k x)) := by
  go_enter Tryz.func153, Tryz.ntmps153
  go_wp2
  go_loopw [0, 9] (fun u i wr => ∃ j : Nat, j ≤ k ∧ i = .int .i64 j ∧ Grow w v base 5 1 wr u (n + j) (xs ++ bys (leB j x))) (fun _ i _ => k - (intOf i).toNat)
  case atStart => exact ⟨0, Nat.zero_le _, rfl, by simpa [leB, bys] using Grow.start hown hb⟩
  case round =>
    obtain ⟨j, hj, rfl, hG⟩ := hrel
    by_cases hlt : j < k
    · go_wp2_with (first | (with_reducible refine stop_append rfl ?_) | (with_reducible refine stop_copy rfl ?_) | (with_reducible refine stop_make rfl ?_))
      refine hG.push rfl rfl rfl tBytes rfl rfl rfl (by omega) (by omega) ?_
      intro u' w1 hG1 _
      go_wp2
      go_roundw
      case rel =>
        refine ⟨j + 1, by omega, by go_num, ?_⟩
        rw [leB_snoc, bys_append, ← List.append_assoc]
        have e : (x : Int) / 2 ^ (8 * j) % 256 = ((UInt8.ofNat (x / 256 ^ j % 256)).toNat : Int) := by
          rw [toNat_ofNat_mod, pow256_two, Int.natCast_emod, Int.natCast_ediv, Int.natCast_pow]; rfl
        rw [e] at hG1
        exact hG1
      case measure => simp [intOf]; omega
    · go_wp2
      go_ret
      have : j = k := by omega
      subst this
      exact ⟨_, rfl, hG⟩
end Go.Proofs.YtkknkdjdneldlaaGreat
namespace Go.Proofs.YtkknkdjdneldlaaGreat
set_option maxRecDepth 20000
open Go.RowKit Go.Px
set_option linter.unusedVariables false

def u64s (l : List Nat) : List Value := l.map fun v : Nat => Value.int .u64 (v : Int)
theorem u64s_get {l : List Nat} {k : Nat} (h : k < l.length) : (u64s l)[k]? = some (.int .u64 (l[k] : Int)) := by simp [u64s, List.getElem?_eq_getElem h]
set_option maxHeartbeats 1000000 in
theorem putAll_any (A : Option Addr) (m c : Nat) (bs : List UInt8) (n : Int) (B : Option Addr) (k d : Nat) (l : List Nat) (w : World)
    (hm : bs.length = m) (hm8 : m ≤ 549755813888) (hA : Rd w A (bys bs)) (hk : l.length = k) (hk8 : k ≤ 34359738368) (hB : Rd w B (u64s l)) (hl : ∀ v ∈ l, v < 18446744073709551616) :
    Calls Tryz.prog 125 #[.slice A m c, .int .i64 n, .slice B k d] w fun e w' => ∃ v, e = .returned (.tuple #[v, .int .i64 (allE n l)]) ∧ w'.ownsRow w.heap.size 5 1 v (putAllB bs l n).length (bys (putAllB bs l n)) ∧ Below w.heap.size w w' := by
  have Hm := hide hm
  have Hk := hide hk
  clear hm hk
  go_enter Tryz.func125, Tryz.ntmps125
  go_wp2_with fail
  go_loop [16] (fun i => ∃ j : Nat, j ≤ k ∧ i = .int .i64 j ∧ Hid (allE n (l.take j) = 0)) (fun i => k - (intOf i).toNat)
  case atStart => exact ⟨0, Nat.zero_le _, rfl, hide (by simp [allE])⟩
  case round =>
    obtain ⟨j, hj, rfl, hz⟩ := hrel
    by_cases hlt : j < k
    · have hjl : j < l.length := by rw [Hk.out]; exact hlt
      obtain ⟨b, rfl, hcell⟩ := hB j _ (u64s_get hjl)
      have hlv := hl _ (List.getElem_mem hjl)
      have Hat := hide (allE_at n l j hjl hz.out)
      have Hsn := hide (allE_snoc n l j hjl hz.out)
      rcases fitsE_cases l[j] n with hf | hf | hf
      · have Hf := hide hf
        clear hf
        go_wp2_with (go_at_call 152; refine (fits_any _ _ _ hlv).mono ?_; rw [Hf.out]; rintro e w' ⟨rfl, rfl⟩)
        go_round
        case rel => exact ⟨j + 1, by omega, by go_num, hide (Hsn.out Hf.out)⟩
        case measure => simp [intOf]; omega
      · have Hf := hide hf
        clear hf
        go_wp2_with (go_at_call 152; refine (fits_any _ _ _ hlv).mono ?_; rw [Hf.out]; rintro e w' ⟨rfl, rfl⟩)
        go_ret2
        have e1 := (Hat.out (by rw [Hf.out]; decide)).trans Hf.out
        rw [e1, show putAllB bs l n = [] by unfold putAllB; rw [if_neg (by rw [e1]; decide)]]
        exact ⟨_, rfl, World.ownsRow_nil _ _ _ _, Below.refl _ _⟩
      · have Hf := hide hf
        clear hf
        go_wp2_with (go_at_call 152; refine (fits_any _ _ _ hlv).mono ?_; rw [Hf.out]; rintro e w' ⟨rfl, rfl⟩)
        go_ret2
        have e1 := (Hat.out (by rw [Hf.out]; decide)).trans Hf.out
        rw [e1, show putAllB bs l n = [] by unfold putAllB; rw [if_neg (by rw [e1]; decide)]]
        exact ⟨_, rfl, World.ownsRow_nil _ _ _ _, Below.refl _ _⟩
    · have hjk : j = k := by omega
      subst hjk
      have hz0 := hide (show allE n l = 0 by have := hz.out; rwa [List.take_of_length_le (by rw [Hk.out]; exact Nat.le_refl _)] at this)
      clear hz
      by_cases hk0 : j = 0
      · subst hk0
        have hl0 : l = [] := List.eq_nil_of_length_eq_zero Hk.out
        subst hl0
        go_wp2_with (go_at_call 111; refine (clone_any _ _ _ bs _ Hm.out (by omega) hA).mono ?_; rintro e w' ⟨v, rfl, ho, hb⟩)
        go_ret2
        refine ⟨_, rfl, ?_, hb⟩
        simpa [putAllB, allE, flatB, Hm.out] using ho
      · have hl0 : 0 < l.length := by rw [Hk.out]; omega
        have hf0 := fitsE_zero (allE_mem hz0.out _ (List.getElem_mem hl0))
        obtain ⟨q, rfl⟩ : ∃ q : Nat, n = q := ⟨n.toNat, by omega⟩
        have h1 := hf0.1
        have h2 := hf0.2.1
        clear hf0
        have hqj : 0 ≤ (q : Int) * j ∧ (q : Int) * j ≤ 274877906944 := by
          refine ⟨Int.mul_nonneg (by omega) (by omega), ?_⟩
          have := Int.mul_le_mul_of_nonneg_right h2 (show (0 : Int) ≤ j by omega)
          omega
        obtain ⟨hq0, hq1⟩ := hqj
        have Hqn := hide (show ((q * j : Nat) : Int) = (q : Int) * j from Int.natCast_mul _ _)
        go_wp2_with (first | (with_reducible refine stop_append rfl ?_) | (with_reducible refine stop_copy rfl ?_) | (with_reducible refine stop_make rfl ?_))
        refine go_make rfl rfl tBytes rfl rfl (n := m) (m := m + q * j) rfl (by have := Hqn.out; omega) (by omega) (by have := Hqn.out; omega) (by have := Hqn.out; omega) (Nat.le_refl _) ?_
        intro z w1 hz1 hz2 hw1 ho1 hg1
        have Hw1 := hide hw1
        clear hw1
        go_wp2_with (first | (with_reducible refine stop_append rfl ?_) | (with_reducible refine stop_copy rfl ?_) | (with_reducible refine stop_make rfl ?_))
        refine go_copy rfl rfl tBytes ho1 rfl (off := 0) (by omega) rfl (by rw [bys_length]; exact Hm.out) (hA.below (grown_below (Below.refl _ _) hg1 (Nat.le_refl _) (fun g hg => by cases hg))) (bys_one _) ?_
        intro w2 ho2 hg2
        simp only [List.take_zero, List.nil_append, Nat.min_self, Nat.zero_add] at ho2
        rw [List.take_of_length_le (by rw [bys_length, Hm.out]; exact Nat.le_refl _), List.drop_eq_nil_of_le (by rw [List.length_take]; omega), List.append_nil] at ho2
        go_wp2
        go_loopw [11, 47] (fun u i wr => ∃ j' : Nat, j' ≤ j ∧ i = .int .i64 j' ∧ Grow w2 (.slice (some ⟨w.heap.size, 0, none⟩) m (m + q * j)) w.heap.size 5 1 wr u (m + j' * q) (bys (bs ++ flatB q (l.take j')))) (fun _ i _ => j - (intOf i).toNat)
        case atStart => exact ⟨0, Nat.zero_le _, rfl, by simpa [flatB] using Grow.start ho2 (Nat.le_trans hg1.size hg2.size)⟩
        case round =>
          obtain ⟨j', hj', rfl, hG⟩ := hrel
          have hb1 : Below w.heap.size w w1 := grown_below (Below.refl _ _) hg1 (Nat.le_refl _) (fun g hg => by cases hg)
          have hb2 : Below w.heap.size w w2 := hb1.grown hg2 hg1.size (fun g hg => by injection hg with hg; omega)
          have hb3 : Below w.heap.size w wr := hG.allOf hb2 (Nat.le_trans hg1.size hg2.size) (fun g hg => by simp [Value.ownBlock] at hg; omega)
          by_cases hlt' : j' < j
          · have hjl : j' < l.length := by rw [Hk.out]; exact hlt'
            obtain ⟨b, rfl, hcell⟩ := (hB.below hb3) j' _ (u64s_get hjl)
            have hlv := hl _ (List.getElem_mem hjl)
            have hmj : j' * q ≤ 274877906944 := by
              have : j' * q ≤ j' * 8 := Nat.mul_le_mul_left _ (by omega)
              omega
            go_wp2_with fail
            refine (appendNumber_any w.heap.size _ (m + j' * q) _ l[j'] q _ hG.owns hlv (by omega) (by omega) hG.le).mono ?_
            rintro e w3 ⟨v3, rfl, hG3⟩
            go_wp2
            go_roundw
            case rel =>
              refine ⟨j' + 1, by omega, by go_num, ?_⟩
              have := hG.trans hG3
              rw [← bys_append, List.append_assoc, ← flatB_snoc q l j' hjl] at this
              rw [Nat.succ_mul, ← Nat.add_assoc]
              exact this
            case measure => simp [intOf]; omega
          · have : j' = j := by omega
            subst this
            go_wp2
            go_ret2
            rw [hz0.out]
            refine ⟨_, rfl, ?_, hb3⟩
            have he : putAllB bs l (q : Int) = bs ++ flatB q l := by unfold putAllB; rw [if_pos hz0.out, Int.toNat_natCast]
            have ho := hG.owns
            rw [List.take_of_length_le (by rw [Hk.out]; exact Nat.le_refl _)] at ho
            rw [he, List.length_append, Hm.out, flatB_length, Hk.out]
            exact ho
end Go.Proofs.YtkknkdjdneldlaaGreat
namespace Go.Proofs.YtkknkdjdneldlaaGreat
set_option maxRecDepth 20000
open Go.RowKit Go.Px
set_option linter.unusedVariables false

set_option maxHeartbeats 400000 in
theorem putText_any (A : Option Addr) (m c : Nat) (bs : List UInt8) (B : Option Addr) (k d : Nat) (s : List UInt8) (w : World)
    (hm : bs.length = m) (hm8 : m ≤ 549755813888) (hA : Rd w A (bys bs)) (hk : s.length = k) (hB : Rd w B (bys s)) :
    Calls Tryz.prog 127 #[.slice A m c, .slice B k d] w fun e w' => ∃ u, e = .returned (.tuple #[u, .int .i64 (putTextE s)]) ∧ w'.ownsRow w.heap.size 5 1 u (putTextB bs s).length (bys (putTextB bs s)) ∧ Below w.heap.size w w' := by
  have Hm := hide hm
  have Hk := hide hk
  clear hm hk
  by_cases hl : k ≤ 16777216
  · go_enter Tryz.func127, Tryz.ntmps127
    go_wp2_with (first | (with_reducible refine stop_append rfl ?_) | (with_reducible refine stop_copy rfl ?_) | (with_reducible refine stop_make rfl ?_))
    refine go_make rfl rfl tBytes rfl rfl (n := m) (m := m + 4 + k) rfl (by omega) (by omega) (by omega) (by omega) (Nat.le_refl _) ?_
    intro z w1 _ _ hw1 ho1 hg1
    have Hw1 := hide hw1
    clear hw1
    have hb1 : Below w.heap.size w w1 := grown_below (Below.refl _ _) hg1 (Nat.le_refl _) (fun g hg => by cases hg)
    go_wp2_with (first | (with_reducible refine stop_append rfl ?_) | (with_reducible refine stop_copy rfl ?_) | (with_reducible refine stop_make rfl ?_))
    refine go_copy rfl rfl tBytes ho1 rfl (off := 0) (by omega) rfl (by rw [bys_length]; exact Hm.out) (hA.below hb1) (bys_one _) ?_
    intro w2 ho2 hg2
    have hb2 : Below w.heap.size w w2 := hb1.grown hg2 hg1.size (fun g hg => by injection hg with hg; omega)
    simp only [List.take_zero, List.nil_append, Nat.min_self, Nat.zero_add] at ho2
    rw [List.take_of_length_le (by rw [bys_length, Hm.out]; exact Nat.le_refl _), List.drop_eq_nil_of_le (by rw [List.length_take]; omega), List.append_nil] at ho2
    go_wp2_with fail
    refine (appendNumber_any w.heap.size _ m _ k 4 _ ho2 (by omega) (by omega) (by omega) (Nat.le_trans hg1.size hg2.size)).mono ?_
    rintro e w3 ⟨v3, rfl, hG3⟩
    have hb3 : Below w.heap.size w w3 := hG3.allOf hb2 (Nat.le_trans hg1.size hg2.size) (fun g hg => by simp [Value.ownBlock] at hg; omega)
    go_wp2_with (first | (with_reducible refine stop_append rfl ?_) | (with_reducible refine stop_copy rfl ?_) | (with_reducible refine stop_make rfl ?_))
    refine hG3.append rfl rfl tBytes rfl rfl (by rw [bys_length, Hk.out]; omega) (hB.below hb3) (bys_one _) (by omega) (by omega) ?_
    intro v4 w4 hG4 _
    have hb4 : Below w.heap.size w w4 := hG4.allOf hb2 (Nat.le_trans hg1.size hg2.size) (fun g hg => by simp [Value.ownBlock] at hg; omega)
    go_wp2
    go_ret2
    rw [show putTextE s = 0 by unfold putTextE; rw [if_pos (by rw [Hk.out]; exact hl)], show putTextB bs s = bs ++ textB s by unfold putTextB; rw [if_pos (by rw [Hk.out]; exact hl)]]
    refine ⟨_, rfl, ?_, hb4⟩
    have ho := hG4.owns
    rw [← bys_append, ← bys_append, List.append_assoc] at ho
    rw [textB, List.length_append, List.length_append, leB_length, Hm.out, Hk.out, ← Nat.add_assoc]
    exact ho
  · go_enter Tryz.func127, Tryz.ntmps127
    go_wp2_with (first | (with_reducible refine stop_append rfl ?_) | (with_reducible refine stop_copy rfl ?_) | (with_reducible refine stop_make rfl ?_))
    go_ret2
    rw [show putTextE s = 2 by unfold putTextE; rw [if_neg (by rw [Hk.out]; exact hl)], show putTextB bs s = [] by unfold putTextB; rw [if_neg (by rw [Hk.out]; exact hl)]]
    exact ⟨_, rfl, World.ownsRow_nil _ _ _ _, Below.refl _ _⟩

set_option maxHeartbeats 800000 in
theorem getText_any (A : Option Addr) (m c : Nat) (bs : List UInt8) (i : Int) (w : World) (hm : bs.length = m) (hmc : m ≤ c) (hm8 : m ≤ 140737488355328) (hc63 : c ≤ 9223372036854775807) (hr : Rd w A (bys bs)) (hi : -9223372036854775808 ≤ i) (hi2 : i ≤ 9223372036854775807) :
    Calls Tryz.prog 160 #[.slice A m c, .int .i64 i] w fun e w' => ∃ u, e = .returned (.tuple #[u, .int .i64 (textI bs i), .int .i64 (textE bs i)]) ∧ w'.ownsRow w.heap.size 5 1 u (textS bs i).length (bys (textS bs i)) ∧ Below w.heap.size w w' := by
  have Hm := hide hm
  clear hm
  by_cases hE : getE bs i 4 = 0
  · obtain ⟨_, _, hi0, hil, hi4⟩ := getE_zero hE
    rw [Hm.out] at hil hi4
    obtain ⟨p, hp⟩ : ∃ p : Nat, i + 4 = p := ⟨(i + 4).toNat, by omega⟩
    have HE := hide hE
    have HI := hide (show getI bs i 4 = (p : Int) by unfold getI; rw [if_pos hE, hp])
    have hV : getV bs i 4 < 4294967296 := Nat.lt_of_lt_of_le (getV_lt bs i 4) (by decide)
    obtain ⟨q, hq⟩ : ∃ q, q = getV bs i 4 := ⟨_, rfl⟩
    have Hq := hide hq
    rw [← hq] at hV
    have hpm : p ≤ m := by omega
    have Hp := hide hp
    have Hit := hide (show i.toNat + 4 = p by omega)
    clear hE hq hp hil hi4
    by_cases h2 : q ≤ 16777216
    · by_cases h3 : p + q ≤ m
      · have HT := hide (show textE bs i = 0 by unfold textE; rw [if_pos HE.out, ← Hq.out, if_pos h2, if_pos (by rw [Hm.out, Hp.out]; omega)])
        have HS := hide (show textS bs i = (bs.drop p).take q by unfold textS; rw [if_pos HT.out, ← Hq.out, Hit.out])
        have HJ := hide (show textI bs i = (p : Int) + q by unfold textI; rw [if_pos HT.out, ← Hq.out, Hp.out])
        have Hl := hide (show ((bs.drop p).take q).length = q by rw [List.length_take, List.length_drop, Hm.out]; omega)
        go_enter Tryz.func160, Tryz.ntmps160
        go_wp2_with fail
        refine (get_any _ _ _ bs _ _ _ Hm.out hmc hc63 hr hi hi2).mono ?_
        rintro e w' ⟨rfl, rfl⟩
        rw [HE.out, HI.out, ← Hq.out]
        go_wp2_with fail
        refine (clone_any _ _ _ ((bs.drop p).take q) _ Hl.out (by omega) (by rw [bys_take, bys_drop]; exact (hr.cutA (n := m) (k := p) (by rw [bys_length, Hm.out]; exact Nat.le_refl _) hpm hmc).take _)).mono ?_
        rintro e w' ⟨v, rfl, ho, hb⟩
        go_wp2
        go_ret3
        rw [HT.out, HS.out, HJ.out, Hl.out]
        exact ⟨_, rfl, ho, hb⟩
      · have HT := hide (show textE bs i = 10 by unfold textE; rw [if_pos HE.out, ← Hq.out, if_pos h2, if_neg (by rw [Hm.out, Hp.out]; omega)])
        go_enter Tryz.func160, Tryz.ntmps160
        go_wp2_with fail
        refine (get_any _ _ _ bs _ _ _ Hm.out hmc hc63 hr hi hi2).mono ?_
        rintro e w' ⟨rfl, rfl⟩
        rw [HE.out, HI.out, ← Hq.out]
        go_wp2
        go_ret3
        simp only [textS, textI, HT.out]
        exact ⟨_, rfl, World.ownsRow_nil _ _ _ _, Below.refl _ _⟩
    · have HT := hide (show textE bs i = 2 by unfold textE; rw [if_pos HE.out, ← Hq.out, if_neg h2])
      go_enter Tryz.func160, Tryz.ntmps160
      go_wp2_with fail
      refine (get_any _ _ _ bs _ _ _ Hm.out hmc hc63 hr hi hi2).mono ?_
      rintro e w' ⟨rfl, rfl⟩
      rw [HE.out, HI.out, ← Hq.out]
      go_wp2
      go_ret3
      simp only [textS, textI, HT.out]
      exact ⟨_, rfl, World.ownsRow_nil _ _ _ _, Below.refl _ _⟩
  · have HT := hide (show textE bs i = getE bs i 4 by unfold textE; rw [if_neg hE])
    have HV := hide (show getV bs i 4 = 0 by unfold getV; rw [if_neg hE])
    have HI := hide (show getI bs i 4 = 0 by unfold getI; rw [if_neg hE])
    have hne : (getE bs i 4 != 0) = true := by simpa using hE
    obtain ⟨z, hz⟩ : ∃ z, z = getE bs i 4 := ⟨_, rfl⟩
    rw [← hz] at hne
    have Hz := hide hz
    clear hz hE
    go_enter Tryz.func160, Tryz.ntmps160
    go_wp2_with fail
    refine (get_any _ _ _ bs _ _ _ Hm.out hmc hc63 hr hi hi2).mono ?_
    rintro e w' ⟨rfl, rfl⟩
    rw [HV.out, HI.out, ← Hz.out]
    go_wp2
    go_ret3
    have hne' : textE bs i ≠ 0 := by rw [HT.out, ← Hz.out]; simpa using hne
    rw [show textS bs i = [] by unfold textS; rw [if_neg hne'], show textI bs i = 0 by unfold textI; rw [if_neg hne'], HT.out, ← Hz.out]
    exact ⟨_, rfl, World.ownsRow_nil _ _ _ _, Below.refl _ _⟩
end Go.Proofs.YtkknkdjdneldlaaGreat
namespace Go.Proofs.YtkknkdjdneldlaaGreat
set_option maxRecDepth 20000
open Go.RowKit Go.Px
set_option linter.unusedVariables false

theorem div_pow_succ (v j : Nat) : v / 256 ^ j / 256 = v / 256 ^ (j + 1) := by rw [Nat.div_div_eq_div_mul, Nat.pow_succ]
theorem rfits_any (v k : Nat) (w : World) (hv : v < 18446744073709551616) (hk : k ≤ 8) :
    Calls Tryz.prog 155 #[.int .u64 v, .int .i64 k] w fun e w' => e = .returned (.bool (decide (v < 256 ^ k))) ∧ w = w' := by
  go_enter Tryz.func155, Tryz.ntmps155
  go_wp2
  go_loop [0, 5] (fun u i => ∃ j : Nat, j ≤ k ∧ i = .int .i64 j ∧ u = .int .u64 ((v / 256 ^ j : Nat) : Int)) (fun _ i => k - (intOf i).toNat)
  case atStart => exact ⟨0, Nat.zero_le _, rfl, by simp⟩
  case round =>
    obtain ⟨j, hj, rfl, rfl⟩ := hrel
    have hle : v / 256 ^ j ≤ v := Nat.div_le_self _ _
    have Hs := hide (div_pow_succ v j)
    obtain ⟨q, hq⟩ : ∃ q, v / 256 ^ j = q := ⟨_, rfl⟩
    rw [hq] at hle ⊢
    have Hq := hide hq
    clear hq
    by_cases hlt : j < k
    · go_wp2
      go_round
      case rel =>
        refine ⟨j + 1, by omega, by go_num, ?_⟩
        rw [← Hs.out, Hq.out]; simp
      case measure => simp [intOf]; omega
    · go_wp2
      go_ret
      have : j = k := by omega
      subst this
      refine ⟨?_, rfl⟩
      have h3 : 0 < 256 ^ j := Nat.pow_pos (by decide)
      have : ((q : Int) == 0) = decide (v < 256 ^ j) := by
        rw [← Hq.out, Bool.eq_iff_iff]
        simp only [beq_iff_eq, Int.natCast_eq_zero, Nat.div_eq_zero_iff, decide_eq_true_eq]
        omega
      simp [this]

set_option maxHeartbeats 400000 in
theorem rput_any (A : Option Addr) (m c : Nat) (bs : List UInt8) (v : Nat) (n : Int) (w : World)
    (hm : bs.length = m) (hm8 : m ≤ 549755813888) (hA : Rd w A (bys bs)) (hv : v < 18446744073709551616) :
    Calls Tryz.prog 128 #[.slice A m c, .int .u64 v, .int .i64 n] w fun e w' => ∃ u, e = .returned (.tuple #[u, .int .i64 (fitsE v n)]) ∧ w'.ownsRow w.heap.size 5 1 u (putB bs v n).length (bys (putB bs v n)) ∧ Below w.heap.size w w' := by
  have Hm := hide hm
  clear hm
  by_cases hs : 1 ≤ n ∧ n ≤ 8
  · obtain ⟨h1, h2⟩ := hs
    obtain ⟨k, rfl⟩ : ∃ k : Nat, n = k := ⟨n.toNat, by omega⟩
    by_cases hf : v < 256 ^ k
    · have HF := hide (show fitsE v k = 0 by unfold fitsE; rw [if_pos ⟨h1, h2⟩, Int.toNat_natCast, if_pos hf])
      have HP := hide (show putB bs v k = bs ++ leB k v by unfold putB; rw [if_pos HF.out, Int.toNat_natCast])
      have Hd := hide (show decide (v < 256 ^ k) = true by simpa using hf)
      clear hf
      go_enter Tryz.func128, Tryz.ntmps128
      go_wp2_with fail
      refine (rfits_any v k _ hv (by omega)).mono ?_
      rw [Hd.out]
      rintro e w' ⟨rfl, rfl⟩
      go_wp2_with (first | (with_reducible refine stop_append rfl ?_) | (with_reducible refine stop_copy rfl ?_) | (with_reducible refine stop_make rfl ?_))
      refine (Grow.empty w _ _).append rfl rfl tBytes rfl rfl (by rw [bys_length, Hm.out]; omega) (hA.alloc _) (bys_one _) (by omega) (by omega) ?_
      intro v1 w1 hG1 _
      go_wp2
      go_loopw [1, 8, 9] (fun x u i wr => ∃ j : Nat, j ≤ k ∧ i = .int .i64 j ∧ x = .int .u64 ((v / 256 ^ j : Nat) : Int) ∧ Grow (w.alloc (.cells #[] 5)) (.slice (some ⟨w.heap.size, 0, none⟩) 0 0) w.heap.size 5 1 wr u (m + j) (bys (bs ++ leB j v))) (fun _ _ i _ => k - (intOf i).toNat)
      case atStart => exact ⟨0, Nat.zero_le _, rfl, by simp, by simpa [leB] using hG1⟩
      case round =>
        obtain ⟨j, hj, rfl, rfl, hG⟩ := hrel
        have hle : v / 256 ^ j ≤ v := Nat.div_le_self _ _
        have Hs := hide (div_pow_succ v j)
        have Hb := hide (leB_snoc j v)
        obtain ⟨q, hq⟩ : ∃ q, v / 256 ^ j = q := ⟨_, rfl⟩
        rw [hq] at hle ⊢
        have Hq := hide hq
        clear hq
        by_cases hlt : j < k
        · go_wp2_with (first | (with_reducible refine stop_append rfl ?_) | (with_reducible refine stop_copy rfl ?_) | (with_reducible refine stop_make rfl ?_))
          refine hG.push rfl rfl rfl tBytes rfl rfl rfl (by omega) (by omega) ?_
          intro u' w2 hG2 _
          go_wp2
          go_roundw
          case rel =>
            refine ⟨j + 1, by omega, by go_num, ?_, ?_⟩
            · rw [← Hs.out, Hq.out]; simp
            · rw [Hb.out, ← List.append_assoc, bys_append, Hq.out]
              have e : (q : Int) % 256 = ((UInt8.ofNat (q % 256)).toNat : Int) := by rw [toNat_ofNat_mod]; simp
              rw [e] at hG2
              exact hG2
          case measure => simp [intOf]; omega
        · have : j = k := by omega
          subst this
          go_wp2
          go_ret2
          rw [HF.out, HP.out, List.length_append, leB_length, Hm.out]
          exact ⟨_, rfl, hG.owns, hG.emptyAll⟩
    · have HF := hide (show fitsE v k = 5 by unfold fitsE; rw [if_pos ⟨h1, h2⟩, Int.toNat_natCast, if_neg hf])
      have HP := hide (show putB bs v k = [] by unfold putB; rw [if_neg (by rw [HF.out]; decide)])
      have Hd := hide (show decide (v < 256 ^ k) = false by simpa using hf)
      clear hf
      go_enter Tryz.func128, Tryz.ntmps128
      go_wp2_with fail
      refine (rfits_any v k _ hv (by omega)).mono ?_
      rw [Hd.out]
      rintro e w' ⟨rfl, rfl⟩
      go_wp2
      go_ret2
      rw [HF.out, HP.out]
      exact ⟨_, rfl, World.ownsRow_nil _ _ _ _, Below.refl _ _⟩
  · have HF := hide (show fitsE v n = 1 by unfold fitsE; rw [if_neg hs])
    have HP := hide (show putB bs v n = [] by unfold putB; rw [if_neg (by rw [HF.out]; decide)])
    by_cases h1 : 1 ≤ n
    · have h2 : 8 < n := by omega
      clear hs
      go_enter Tryz.func128, Tryz.ntmps128
      go_wp2
      go_ret2
      rw [HF.out, HP.out]
      exact ⟨_, rfl, World.ownsRow_nil _ _ _ _, Below.refl _ _⟩
    · clear hs
      go_enter Tryz.func128, Tryz.ntmps128
      go_wp2
      go_ret2
      rw [HF.out, HP.out]
      exact ⟨_, rfl, World.ownsRow_nil _ _ _ _, Below.refl _ _⟩

set_option maxHeartbeats 800000 in
theorem rget_any (A : Option Addr) (m c : Nat) (bs : List UInt8) (i n : Int) (w : World) (hm : bs.length = m) (hmc : m ≤ c) (hc63 : c ≤ 9223372036854775807) (hr : Rd w A (bys bs)) (hi : -9223372036854775808 ≤ i) (hi2 : i ≤ 9223372036854775807) :
    Calls Tryz.prog 137 #[.slice A m c, .int .i64 i, .int .i64 n] w fun e w' => e = .returned (.tuple #[.int .u64 (getV bs i n), .int .i64 (getI bs i n), .int .i64 (getE bs i n)]) ∧ w = w' := by
  by_cases h1 : 1 ≤ n
  · by_cases h2 : n ≤ 8
    · by_cases h0 : 0 ≤ i
      · by_cases h3 : i ≤ m
        · by_cases h4 : m - i < n
          · have He := hide (show getE bs i n = 10 by unfold getE; rw [if_pos ⟨h1, h2⟩, if_pos ⟨h0, by omega⟩, if_pos (by omega)])
            clear hm
            go_enter Tryz.func137, Tryz.ntmps137
            go_wp2
            go_ret3
            exact ⟨by simp [getV, getI, He.out], rfl⟩
          · have He := hide (show getE bs i n = 0 by unfold getE; rw [if_pos ⟨h1, h2⟩, if_pos ⟨h0, by omega⟩, if_neg (by omega)])
            obtain ⟨k, rfl⟩ : ∃ k : Nat, n = k := ⟨n.toNat, by omega⟩
            obtain ⟨p, rfl⟩ : ∃ p : Nat, i = p := ⟨i.toNat, by omega⟩
            have Hm := hide hm
            have Hl := hide (show ((bs.drop p).take k).length = k by rw [List.length_take, List.length_drop]; omega)
            clear hm
            go_enter Tryz.func137, Tryz.ntmps137
            go_wp2
            go_loop [9, 10] (fun u x => ∃ j : Nat, j ≤ k ∧ x = .int .i64 ((j : Int) - 1) ∧ u = .int .u64 ((numN (((bs.drop p).take k).drop j) : Nat) : Int)) (fun _ x => (intOf x + 1).toNat)
            case atStart => exact ⟨k, Nat.le_refl _, rfl, by rw [List.drop_eq_nil_of_le (by rw [Hl.out]; exact Nat.le_refl _)]; rfl⟩
            case round =>
              obtain ⟨j, hj, rfl, rfl⟩ := hrel
              rcases j with _ | t
              · rw [show (((0 : Nat) : Int) - 1) = -1 from rfl]
                go_wp2
                go_ret3
                exact ⟨by simp [getV, getI, He.out], rfl⟩
              · rw [show (((t + 1 : Nat) : Int) - 1) = t from by omega]
                have htl : t < ((bs.drop p).take k).length := by rw [Hl.out]; omega
                have hpt : p + t < bs.length := by rw [Hm.out]; omega
                have Hn := hide (numN_drop _ t htl)
                have hq := numN_drop_lt ((bs.drop p).take k) t (by rw [Hl.out]; omega)
                obtain ⟨q, hqq⟩ : ∃ q, numN (((bs.drop p).take k).drop (t + 1)) = q := ⟨_, rfl⟩
                rw [hqq] at hq ⊢
                have Hq := hide hqq
                clear hqq
                obtain ⟨a, rfl, hc⟩ := hr _ _ (bys_get hpt)
                have hb := (bs[p + t]).toNat_lt
                go_wp2
                go_round
                case rel =>
                  refine ⟨t, by omega, by simp, ?_⟩
                  rw [Hn.out, Hq.out]
                  simp only [List.getElem_take, List.getElem_drop]
                  simp
                case measure => simp [intOf]
        · have He := hide (show getE bs i n = 5 by unfold getE; rw [if_pos ⟨h1, h2⟩, if_neg (by omega)])
          clear hm
          go_enter Tryz.func137, Tryz.ntmps137
          go_wp2
          go_ret3
          exact ⟨by simp [getV, getI, He.out], rfl⟩
      · have He := hide (show getE bs i n = 5 by unfold getE; rw [if_pos ⟨h1, h2⟩, if_neg (by omega)])
        clear hm
        go_enter Tryz.func137, Tryz.ntmps137
        go_wp2
        go_ret3
        exact ⟨by simp [getV, getI, He.out], rfl⟩
    · have He := hide (show getE bs i n = 1 by unfold getE; rw [if_neg (by omega)])
      clear hm
      go_enter Tryz.func137, Tryz.ntmps137
      go_wp2
      go_ret3
      exact ⟨by simp [getV, getI, He.out], rfl⟩
  · have He := hide (show getE bs i n = 1 by unfold getE; rw [if_neg (by omega)])
    clear hm
    go_enter Tryz.func137, Tryz.ntmps137
    go_wp2
    go_ret3
    exact ⟨by simp [getV, getI, He.out], rfl⟩

set_option maxHeartbeats 400000 in
theorem rputText_any (A : Option Addr) (m c : Nat) (bs : List UInt8) (B : Option Addr) (k d : Nat) (s : List UInt8) (w : World)
    (hm : bs.length = m) (hm8 : m ≤ 549755813888) (hA : Rd w A (bys bs)) (hk : s.length = k) (hB : Rd w B (bys s)) :
    Calls Tryz.prog 87 #[.slice A m c, .slice B k d] w fun e w' => ∃ u, e = .returned (.tuple #[u, .int .i64 (putTextE s)]) ∧ w'.ownsRow w.heap.size 5 1 u (putTextB bs s).length (bys (putTextB bs s)) ∧ Below w.heap.size w w' := by
  have Hm := hide hm
  have Hk := hide hk
  clear hm hk
  by_cases hl : k ≤ 16777216
  · have HP := hide (show putB bs k 4 = bs ++ leB 4 k by
      unfold putB; rw [if_pos]; · rfl
      unfold fitsE; rw [if_pos (by decide), if_pos (by show k < 256 ^ 4; omega)])
    have HE := hide (show putTextE s = 0 by unfold putTextE; rw [if_pos (by rw [Hk.out]; exact hl)])
    have HT := hide (show putTextB bs s = (bs ++ leB 4 k) ++ s by unfold putTextB; rw [if_pos (by rw [Hk.out]; exact hl), textB, Hk.out, List.append_assoc])
    go_enter Tryz.func87, Tryz.ntmps87
    go_wp2_with fail
    refine (rput_any _ _ _ bs k 4 _ Hm.out hm8 hA (by omega)).mono ?_
    rw [HP.out]
    rintro e w1 ⟨u1, rfl, ho1, hb1⟩
    rw [List.length_append, leB_length, Hm.out] at ho1
    go_wp2_with (first | (with_reducible refine stop_append rfl ?_) | (with_reducible refine stop_copy rfl ?_) | (with_reducible refine stop_make rfl ?_))
    refine (Grow.start ho1 hb1.size).append rfl rfl tBytes rfl rfl (by rw [bys_length, Hk.out]; omega) (hB.below hb1) (bys_one _) (by omega) (by omega) ?_
    intro v2 w2 hG _
    go_wp2
    go_ret2
    rw [HE.out, HT.out]
    refine ⟨_, rfl, ?_, hG.allOf hb1 hb1.size (fun g hg => (ho1.lt g hg).1)⟩
    have := hG.owns
    rw [← bys_append] at this
    rw [List.length_append, List.length_append, leB_length, Hm.out, Hk.out]
    exact this
  · go_enter Tryz.func87, Tryz.ntmps87
    go_wp2
    go_ret2
    rw [show putTextE s = 2 by unfold putTextE; rw [if_neg (by rw [Hk.out]; exact hl)], show putTextB bs s = [] by unfold putTextB; rw [if_neg (by rw [Hk.out]; exact hl)]]
    exact ⟨_, rfl, World.ownsRow_nil _ _ _ _, Below.refl _ _⟩

set_option maxHeartbeats 800000 in
theorem rgetText_any (A : Option Addr) (m c : Nat) (bs : List UInt8) (i : Int) (w : World) (hm : bs.length = m) (hmc : m ≤ c) (hm8 : m ≤ 140737488355328) (hc63 : c ≤ 9223372036854775807) (hr : Rd w A (bys bs)) (hi : -9223372036854775808 ≤ i) (hi2 : i ≤ 9223372036854775807) :
    Calls Tryz.prog 142 #[.slice A m c, .int .i64 i] w fun e w' => ∃ u, e = .returned (.tuple #[u, .int .i64 (textI bs i), .int .i64 (textE bs i)]) ∧ w'.ownsRow w.heap.size 5 1 u (textS bs i).length (bys (textS bs i)) ∧ Below w.heap.size w w' := by
  have Hm := hide hm
  clear hm
  by_cases hE : getE bs i 4 = 0
  · obtain ⟨_, _, hi0, hil, hi4⟩ := getE_zero hE
    rw [Hm.out] at hil hi4
    obtain ⟨p, hp⟩ : ∃ p : Nat, i + 4 = p := ⟨(i + 4).toNat, by omega⟩
    have HE := hide hE
    have HI := hide (show getI bs i 4 = (p : Int) by unfold getI; rw [if_pos hE, hp])
    have hV : getV bs i 4 < 4294967296 := Nat.lt_of_lt_of_le (getV_lt bs i 4) (by decide)
    obtain ⟨q, hq⟩ : ∃ q, q = getV bs i 4 := ⟨_, rfl⟩
    have Hq := hide hq
    rw [← hq] at hV
    have hpm : p ≤ m := by omega
    have Hp := hide hp
    have Hit := hide (show i.toNat + 4 = p by omega)
    clear hE hq hp hil hi4
    by_cases h2 : q ≤ 16777216
    · by_cases h3 : p + q ≤ m
      · have HT := hide (show textE bs i = 0 by unfold textE; rw [if_pos HE.out, ← Hq.out, if_pos h2, if_pos (by rw [Hm.out, Hp.out]; omega)])
        have HS := hide (show textS bs i = (bs.drop p).take q by unfold textS; rw [if_pos HT.out, ← Hq.out, Hit.out])
        have HJ := hide (show textI bs i = (p : Int) + q by unfold textI; rw [if_pos HT.out, ← Hq.out, Hp.out])
        have Hl := hide (show ((bs.drop p).take q).length = q by rw [List.length_take, List.length_drop, Hm.out]; omega)
        go_enter Tryz.func142, Tryz.ntmps142
        go_wp2_with fail
        refine (rget_any _ _ _ bs _ _ _ Hm.out hmc hc63 hr hi hi2).mono ?_
        rintro e w' ⟨rfl, rfl⟩
        rw [HE.out, HI.out, ← Hq.out]
        go_wp2_with (first | (with_reducible refine stop_append rfl ?_) | (with_reducible refine stop_copy rfl ?_) | (with_reducible refine stop_make rfl ?_))
        refine (Grow.empty w _ _).append rfl rfl tBytes rfl rfl (news := bys ((bs.drop p).take q)) (m := p + q - p) (by rw [bys_length, Hl.out]; omega) ?_ (bys_one _) (by omega) (by omega) ?_
        · rw [bys_take, bys_drop]; exact (((hr.alloc _).cutA (n := m) (k := p) (by rw [bys_length, Hm.out]; exact Nat.le_refl _) hpm hmc).take _)
        intro v1 w1 hG _
        go_wp2
        go_ret3
        rw [HT.out, HS.out, HJ.out, Hl.out]
        have ho := hG.owns
        rw [show 0 + (p + q - p) = q by omega] at ho
        exact ⟨_, rfl, ho, hG.emptyAll⟩
      · have HT := hide (show textE bs i = 10 by unfold textE; rw [if_pos HE.out, ← Hq.out, if_pos h2, if_neg (by rw [Hm.out, Hp.out]; omega)])
        go_enter Tryz.func142, Tryz.ntmps142
        go_wp2_with fail
        refine (rget_any _ _ _ bs _ _ _ Hm.out hmc hc63 hr hi hi2).mono ?_
        rintro e w' ⟨rfl, rfl⟩
        rw [HE.out, HI.out, ← Hq.out]
        go_wp2
        go_ret3
        simp only [textS, textI, HT.out]
        exact ⟨_, rfl, World.ownsRow_nil _ _ _ _, Below.refl _ _⟩
    · have HT := hide (show textE bs i = 2 by unfold textE; rw [if_pos HE.out, ← Hq.out, if_neg h2])
      go_enter Tryz.func142, Tryz.ntmps142
      go_wp2_with fail
      refine (rget_any _ _ _ bs _ _ _ Hm.out hmc hc63 hr hi hi2).mono ?_
      rintro e w' ⟨rfl, rfl⟩
      rw [HE.out, HI.out, ← Hq.out]
      go_wp2
      go_ret3
      simp only [textS, textI, HT.out]
      exact ⟨_, rfl, World.ownsRow_nil _ _ _ _, Below.refl _ _⟩
  · have HT := hide (show textE bs i = getE bs i 4 by unfold textE; rw [if_neg hE])
    have HV := hide (show getV bs i 4 = 0 by unfold getV; rw [if_neg hE])
    have HI := hide (show getI bs i 4 = 0 by unfold getI; rw [if_neg hE])
    have hne : (getE bs i 4 != 0) = true := by simpa using hE
    obtain ⟨z, hz⟩ : ∃ z, z = getE bs i 4 := ⟨_, rfl⟩
    rw [← hz] at hne
    have Hz := hide hz
    clear hz hE
    go_enter Tryz.func142, Tryz.ntmps142
    go_wp2_with fail
    refine (rget_any _ _ _ bs _ _ _ Hm.out hmc hc63 hr hi hi2).mono ?_
    rintro e w' ⟨rfl, rfl⟩
    rw [HV.out, HI.out, ← Hz.out]
    go_wp2
    go_ret3
    have hne' : textE bs i ≠ 0 := by rw [HT.out, ← Hz.out]; simpa using hne
    rw [show textS bs i = [] by unfold textS; rw [if_neg hne'], show textI bs i = 0 by unfold textI; rw [if_neg hne'], HT.out, ← Hz.out]
    exact ⟨_, rfl, World.ownsRow_nil _ _ _ _, Below.refl _ _⟩
end Go.Proofs.YtkknkdjdneldlaaGreat
namespace Go.Proofs.YtkknkdjdneldlaaGreat
set_option maxRecDepth 20000
open Go.RowKit Go.Px
set_option linter.unusedVariables false

def encB (k p n : Nat) (ds os : List UInt8) : List UInt8 := [UInt8.ofNat k] ++ (leB 4 p ++ leB 4 n) ++ textB ds ++ textB os
def encL (k : Nat) (p n : Int) (ds os : List UInt8) : List UInt8 := if fmP k p n ds.length os.length then encB k p.toNat n.toNat ds os else []
def EncIs (k : Nat) (p n : Int) (ds os : List UInt8) (w : World) (e : Ending) (w' : World) : Prop :=
  ∃ v, e = .returned (.tuple #[v, .int .i64 (fmE k p n ds.length os.length)]) ∧ w'.ownsRow w.heap.size 5 1 v (encL k p n ds os).length (bys (encL k p n ds os)) ∧ Below w.heap.size w w'

set_option maxHeartbeats 1600000 in
theorem enc_any (k : Nat) (p n : Int) (D : Option Addr) (d dc : Nat) (ds : List UInt8) (O : Option Addr) (o oc : Nat) (os : List UInt8) (w : World) (hk : k < 256) (hd : ds.length = d) (ho : os.length = o) (hD : Rd w D (bys ds)) (hO : Rd w O (bys os)) :
    Calls Tryz.prog 66 #[opv k p n D d dc O o oc] w (EncIs k p n ds os w) := by
  obtain ⟨g, hg⟩ : ∃ g, w.heap.size = g := ⟨_, rfl⟩
  obtain ⟨w0, hw0⟩ : ∃ w0, w.alloc (.cells #[.int .u8 k, .int .i64 p, .int .i64 n, .slice D d dc, .slice O o oc] 47) = w0 := ⟨_, rfl⟩
  have hB : Blk w0 g [.int .u8 k, .int .i64 p, .int .i64 n, .slice D d dc, .slice O o oc] 47 := by rw [← hw0, ← hg]; exact Blk.new _ _ _
  have hb0 : Below w.heap.size w w0 := by rw [← hw0]; exact (Below.refl _ _).alloc (Nat.le_refl _) _
  have y0 := hB.cell (j := 0) rfl
  have y1 := hB.cell (j := 1) rfl
  have y2 := hB.cell (j := 2) rfl
  have y3 := hB.cell (j := 3) rfl
  have y4 := hB.cell (j := 4) rfl
  have Hd := hide hd
  have Ho := hide ho
  clear hd ho
  go_enter Tryz.func66, Tryz.ntmps66
  go_wp2_with fail
  go_fit (form_any k p n D d dc O o oc w0 hk)
  rcases fmE_two k p n d o with ⟨hf, hfe⟩ | hfe
  · have hf' := hf
    obtain ⟨⟨⟨p1, p2⟩, ⟨n1, n2⟩, d1, o1⟩, hkk⟩ := hf'
    obtain ⟨P, rfl⟩ := Int.eq_ofNat_of_zero_le p1
    obtain ⟨N, rfl⟩ := Int.eq_ofNat_of_zero_le n1
    have HL := hide (show encL k (P : Int) (N : Int) ds os = encB k P N ds os by
      unfold encL; rw [Hd.out, Ho.out, if_pos hf]; rfl)
    have HE := hide (show fmE k (P : Int) (N : Int) ds.length os.length = 0 by rw [Hd.out, Ho.out]; exact hfe)
    rw [hfe]
    clear hf hfe hkk
    rintro x w1 ⟨rfl, hb1⟩
    have hB1 := hB.below hb1
    have hb01 := hb0.trans (hb1.mono hb0.size)
    have u0 := hB1.cell (j := 0) rfl
    have u1 := hB1.cell (j := 1) rfl
    have u2 := hB1.cell (j := 2) rfl
    have u3 := hB1.cell (j := 3) rfl
    have u4 := hB1.cell (j := 4) rfl
    have hk1 := hide (show bys [UInt8.ofNat k] = [.int .u8 (k : Int)] by simp [bys, Nat.mod_eq_of_lt hk])
    have hA1 : Rd ((w1.alloc (.cells #[.int .u8 k] 5)).alloc (.cells #[.int .u64 P, .int .u64 N] 174)) (some ⟨w1.heap.size, 0, none⟩) (bys [UInt8.ofNat k]) := by
      rw [hk1.out]; exact (Rd.new1 w1 _ _).alloc _
    have hA2 : Rd ((w1.alloc (.cells #[.int .u8 k] 5)).alloc (.cells #[.int .u64 P, .int .u64 N] 174)) (some ⟨w1.heap.size + 1, 0, none⟩) (u64s [P, N]) := by
      have := Rd.newN (w1.alloc (.cells #[.int .u8 k] 5)) (u64s [P, N]) 174 (0, 0)
      rwa [World.size_alloc] at this
    have hb2 : Below w.heap.size w ((w1.alloc (.cells #[.int .u8 k] 5)).alloc (.cells #[.int .u64 P, .int .u64 N] 174)) := (hb01.alloc hb01.size _).alloc (by have := hb01.size; simp; omega) _
    have hB2 := (hB1.alloc (.cells #[.int .u8 k] 5)).alloc (.cells #[.int .u64 P, .int .u64 N] 174)
    have hall : allE 4 [P, N] = 0 := by
      have e1 : fitsE P 4 = 0 := by unfold fitsE; rw [if_pos (by decide), if_pos (by show P < 256 ^ 4; omega)]
      have e2 : fitsE N 4 = 0 := by unfold fitsE; rw [if_pos (by decide), if_pos (by show N < 256 ^ 4; omega)]
      show (if fitsE P 4 = 0 then (if fitsE N 4 = 0 then 0 else fitsE N 4) else fitsE P 4) = 0
      rw [if_pos e1, if_pos e2]
    have hab : putAllB [UInt8.ofNat k] [P, N] 4 = [UInt8.ofNat k] ++ (leB 4 P ++ leB 4 N) := by
      unfold putAllB; rw [if_pos hall]; simp [flatB]
    have Hall := hide hall
    have Hab := hide hab
    clear hall hab y0 y1 y2 y3 y4
    have hBa := hB1.alloc (.cells #[.int .u8 k] 5)
    have t1 := hBa.cell (j := 1) rfl
    have t2 := hBa.cell (j := 2) rfl
    go_wp2_with fail
    go_fit (putAll_any (some ⟨w1.heap.size, 0, none⟩) 1 1 [UInt8.ofNat k] 4 (some ⟨w1.heap.size + 1, 0, none⟩) 2 2 [P, N] _ rfl (by omega) hA1 rfl (by omega) hA2 (fun v hv => by simp at hv; omega))
    rw [Hall.out, Hab.out]
    rintro x w3 ⟨v3, rfl, ho3, hb3⟩
    have hB3 := hB2.below hb3
    have hb03 := hb2.trans (hb3.mono hb2.size)
    have hl3 : ([UInt8.ofNat k] ++ (leB 4 P ++ leB 4 N)).length = 9 := by simp [leB_length]
    obtain ⟨L3, hL3⟩ : ∃ L, [UInt8.ofNat k] ++ (leB 4 P ++ leB 4 N) = L := ⟨_, rfl⟩
    rw [hL3] at ho3 hl3
    rw [hl3] at ho3
    obtain ⟨A3, c3, rfl, _, hc3, hcm3, hr3, _⟩ := own_out ho3
    have s3 := hB3.cell (j := 3) rfl
    have s4 := hB3.cell (j := 4) rfl
    have hpt : putTextE ds = 0 ∧ putTextB L3 ds = L3 ++ textB ds := by
      unfold putTextE putTextB; rw [if_pos (by rw [Hd.out]; omega), if_pos (by rw [Hd.out]; omega)]; exact ⟨rfl, rfl⟩
    have Hpt := hide hpt
    clear hpt t1 t2
    go_wp2_with fail
    go_fit (putText_any A3 9 c3 L3 D d dc ds w3 hl3 (by omega) hr3 Hd.out (hD.below hb03))
    rw [Hpt.out.1, Hpt.out.2]
    rintro x w4 ⟨v4, rfl, ho4, hb4⟩
    have hB4 := hB3.below hb4
    have hb04 := hb03.trans (hb4.mono hb03.size)
    have hl4 : (L3 ++ textB ds).length = 9 + (4 + d) := by unfold textB; rw [List.length_append, List.length_append, hl3, leB_length, Hd.out]
    obtain ⟨L4, hL4⟩ : ∃ L, L3 ++ textB ds = L := ⟨_, rfl⟩
    rw [hL4] at ho4 hl4
    rw [hl4] at ho4
    obtain ⟨A4, c4, rfl, _, hc4, hcm4, hr4, _⟩ := own_out ho4
    have r4 := hB4.cell (j := 4) rfl
    have hpt4 : putTextE os = 0 ∧ putTextB L4 os = L4 ++ textB os := by
      unfold putTextE putTextB; rw [if_pos (by rw [Ho.out]; omega), if_pos (by rw [Ho.out]; omega)]; exact ⟨rfl, rfl⟩
    have Hpt4 := hide hpt4
    clear hpt4
    go_wp2_with fail
    go_fit (putText_any A4 (9 + (4 + d)) c4 L4 O o oc os w4 hl4 (by omega) hr4 Ho.out (hO.below hb04))
    rw [Hpt4.out.1, Hpt4.out.2]
    rintro x w5 ⟨v5, rfl, ho5, hb5⟩
    have hLL : L4 ++ textB os = encB k P N ds os := by rw [← hL4, ← hL3]; rfl
    rw [hLL] at ho5
    clear hL3 hL4
    go_wp2
    go_ret2
    rw [EncIs, HE.out, HL.out]
    exact ⟨_, rfl, own_weak ho5 hb04.size, hb04.trans (hb5.mono hb04.size)⟩
  · have HL := hide (show encL k p n ds os = [] by
      unfold encL fmE at *; rw [Hd.out, Ho.out]; split at hfe
      · cases hfe
      · rename_i h; rw [if_neg h])
    have HE := hide (show fmE k p n ds.length os.length = 41 by rw [Hd.out, Ho.out]; exact hfe)
    rw [hfe]
    clear hfe
    rintro x w1 ⟨rfl, hb1⟩
    go_wp2
    go_ret2
    rw [EncIs, HE.out, HL.out]
    exact ⟨_, rfl, World.ownsRow_nil _ _ _ _, hb0.trans (hb1.mono hb0.size)⟩
end Go.Proofs.YtkknkdjdneldlaaGreat
namespace Go.Proofs.YtkknkdjdneldlaaGreat
set_option maxRecDepth 20000
open Go.RowKit Go.Px
set_option linter.unusedVariables false
theorem fits4 {v : Nat} (h : v ≤ 4294967295) : fitsE v 4 = 0 := by unfold fitsE; rw [if_pos (by decide), if_pos (by show v < 256 ^ 4; omega)]
set_option maxHeartbeats 3200000 in
theorem renc_any (k : Nat) (p n : Int) (D : Option Addr) (d dc : Nat) (ds : List UInt8) (O : Option Addr) (o oc : Nat) (os : List UInt8) (w : World) (hk : k < 256) (hd : ds.length = d) (ho : os.length = o) (hD : Rd w D (bys ds)) (hO : Rd w O (bys os)) :
    Calls Tryz.prog 69 #[opv k p n D d dc O o oc] w (EncIs k p n ds os w) := by
  obtain ⟨g, hg⟩ : ∃ g, w.heap.size = g := ⟨_, rfl⟩
  obtain ⟨w0, hw0⟩ : ∃ w0, w.alloc (.cells #[.int .u8 k, .int .i64 p, .int .i64 n, .slice D d dc, .slice O o oc] 47) = w0 := ⟨_, rfl⟩
  have hB : Blk w0 g [.int .u8 k, .int .i64 p, .int .i64 n, .slice D d dc, .slice O o oc] 47 := by rw [← hw0, ← hg]; exact Blk.new _ _ _
  have hb0 : Below w.heap.size w w0 := by rw [← hw0]; exact (Below.refl _ _).alloc (Nat.le_refl _) _
  have y0 := hB.cell (j := 0) rfl
  have y1 := hB.cell (j := 1) rfl
  have y2 := hB.cell (j := 2) rfl
  have y3 := hB.cell (j := 3) rfl
  have y4 := hB.cell (j := 4) rfl
  have Hd := hide hd
  have Ho := hide ho
  clear hd ho
  go_enter Tryz.func69, Tryz.ntmps69
  go_wp2_with fail
  go_fit (rform_any k p n D d dc O o oc w0 hk)
  rcases fmE_two k p n d o with ⟨hf, hfe⟩ | hfe
  · have hf' := hf
    obtain ⟨⟨⟨p1, p2⟩, ⟨n1, n2⟩, d1, o1⟩, hkk⟩ := hf'
    obtain ⟨P, rfl⟩ := Int.eq_ofNat_of_zero_le p1
    obtain ⟨N, rfl⟩ := Int.eq_ofNat_of_zero_le n1
    have HL := hide (show encL k (P : Int) (N : Int) ds os = encB k P N ds os by
      unfold encL; rw [Hd.out, Ho.out, if_pos hf]; rfl)
    have HE := hide (show fmE k (P : Int) (N : Int) ds.length os.length = 0 by rw [Hd.out, Ho.out]; exact hfe)
    rw [hfe]
    clear hf hfe hkk
    rintro x w1 ⟨rfl, hb1⟩
    have hB1 := hB.below hb1
    have hb01 := hb0.trans (hb1.mono hb0.size)
    clear y0 y1 y2 y3 y4
    have u0 := hB1.cell (j := 0) rfl
    have hBa := hB1.alloc (.cells #[.int .u8 k] 5)
    have u1 := hB1.cell (j := 1) rfl
    have v1 := hBa.cell (j := 1) rfl
    have hk1 := hide (show bys [UInt8.ofNat k] = [.int .u8 (k : Int)] by simp [bys, Nat.mod_eq_of_lt hk])
    have hA1 : Rd (w1.alloc (.cells #[.int .u8 k] 5)) (some ⟨w1.heap.size, 0, none⟩) (bys [UInt8.ofNat k]) := by
      rw [hk1.out]; exact Rd.new1 w1 _ _
    have hb02 : Below w.heap.size w (w1.alloc (.cells #[.int .u8 k] 5)) := hb01.alloc hb01.size _
    go_wp2_with fail
    go_fit (rput_any (some ⟨w1.heap.size, 0, none⟩) 1 1 [UInt8.ofNat k] P 4 _ rfl (by omega) hA1 (by omega))
    rw [fits4 (by omega), show putB [UInt8.ofNat k] P 4 = [UInt8.ofNat k] ++ leB 4 P from by unfold putB; rw [if_pos (fits4 (by omega))]; rfl]
    rintro x w3 ⟨v3, rfl, ho3, hb3⟩
    have hB3 := hBa.below hb3
    have hb03 := hb02.trans (hb3.mono hb02.size)
    have hl3 : ([UInt8.ofNat k] ++ leB 4 P).length = 5 := by simp [leB_length]
    obtain ⟨L3, hL3⟩ : ∃ L, [UInt8.ofNat k] ++ leB 4 P = L := ⟨_, rfl⟩
    rw [hL3] at ho3 hl3
    rw [hl3] at ho3
    obtain ⟨A3, c3, rfl, _, hc3, hcm3, hr3, _⟩ := own_out ho3
    have HL3 := hide hL3
    have HLl3 := hide hl3
    clear hL3 hl3 u0 u1 v1
    have s2 := hB3.cell (j := 2) rfl
    go_wp2_with fail
    go_fit (rput_any A3 5 c3 L3 N 4 _ HLl3.out (by omega) hr3 (by omega))
    rw [fits4 (by omega), show putB L3 N 4 = L3 ++ leB 4 N from by unfold putB; rw [if_pos (fits4 (by omega))]; rfl]
    rintro x w4 ⟨v4, rfl, ho4, hb4⟩
    have hB4 := hB3.below hb4
    have hb04 := hb03.trans (hb4.mono hb03.size)
    have hl4 : (L3 ++ leB 4 N).length = 9 := by rw [List.length_append, HLl3.out, leB_length]
    obtain ⟨L4, hL4⟩ : ∃ L, L3 ++ leB 4 N = L := ⟨_, rfl⟩
    rw [hL4] at ho4 hl4
    rw [hl4] at ho4
    obtain ⟨A4, c4, rfl, _, hc4, hcm4, hr4, _⟩ := own_out ho4
    have HL4 := hide hL4
    have HLl4 := hide hl4
    clear hL4 hl4 s2
    have s3 := hB4.cell (j := 3) rfl
    have hpt : putTextE ds = 0 ∧ putTextB L4 ds = L4 ++ textB ds := by
      unfold putTextE putTextB; rw [if_pos (by rw [Hd.out]; omega), if_pos (by rw [Hd.out]; omega)]; exact ⟨rfl, rfl⟩
    have Hpt := hide hpt
    clear hpt
    go_wp2_with fail
    go_fit (rputText_any A4 9 c4 L4 D d dc ds w4 HLl4.out (by omega) hr4 Hd.out (hD.below hb04))
    rw [Hpt.out.1, Hpt.out.2]
    rintro x w5 ⟨v5, rfl, ho5, hb5⟩
    have hB5 := hB4.below hb5
    have hb05 := hb04.trans (hb5.mono hb04.size)
    have hl5 : (L4 ++ textB ds).length = 9 + (4 + d) := by unfold textB; rw [List.length_append, List.length_append, HLl4.out, leB_length, Hd.out]
    obtain ⟨L5, hL5⟩ : ∃ L, L4 ++ textB ds = L := ⟨_, rfl⟩
    rw [hL5] at ho5 hl5
    rw [hl5] at ho5
    obtain ⟨A5, c5, rfl, _, hc5, hcm5, hr5, _⟩ := own_out ho5
    have HL5 := hide hL5
    have HLl5 := hide hl5
    clear hL5 hl5 s3
    have s4 := hB5.cell (j := 4) rfl
    have hpt4 : putTextE os = 0 ∧ putTextB L5 os = L5 ++ textB os := by
      unfold putTextE putTextB; rw [if_pos (by rw [Ho.out]; omega), if_pos (by rw [Ho.out]; omega)]; exact ⟨rfl, rfl⟩
    have Hpt4 := hide hpt4
    clear hpt4
    go_wp2_with fail
    go_fit (rputText_any A5 (9 + (4 + d)) c5 L5 O o oc os w5 HLl5.out (by omega) hr5 Ho.out (hO.below hb05))
    rw [Hpt4.out.1, Hpt4.out.2]
    rintro x w6 ⟨v6, rfl, ho6, hb6⟩
    have hLL : L5 ++ textB os = encB k P N ds os := by rw [← HL5.out, ← HL4.out, ← HL3.out]; unfold encB; simp only [List.append_assoc]
    rw [hLL] at ho6
    clear hLL
    go_wp2
    go_ret2
    rw [EncIs, HE.out, HL.out]
    exact ⟨_, rfl, own_weak ho6 hb05.size, hb05.trans (hb6.mono hb05.size)⟩
  · have HL := hide (show encL k p n ds os = [] by
      unfold encL fmE at *; rw [Hd.out, Ho.out]; split at hfe
      · cases hfe
      · rename_i h; rw [if_neg h])
    have HE := hide (show fmE k p n ds.length os.length = 41 by rw [Hd.out, Ho.out]; exact hfe)
    rw [hfe]
    clear hfe
    rintro x w1 ⟨rfl, hb1⟩
    go_wp2
    go_ret2
    rw [EncIs, HE.out, HL.out]
    exact ⟨_, rfl, World.ownsRow_nil _ _ _ _, hb0.trans (hb1.mono hb0.size)⟩
end Go.Proofs.YtkknkdjdneldlaaGreat
namespace Go.Proofs.YtkknkdjdneldlaaGreat
set_option maxRecDepth 20000
open Go.Px

def brE (e : Int) : Int := if e = 2 then 42 else e
/-- The error of a request's decoding. -/
def opE (bs : List UInt8) : Int :=
  if bs.length < 9 then 10 else if textE bs 9 ≠ 0 then brE (textE bs 9) else if textE bs (textI bs 9) ≠ 0 then brE (textE bs (textI bs 9))
  else if fmE (getV bs 0 1) (getV bs 1 4) (getV bs 5 4) (textS bs 9).length (textS bs (textI bs 9)).length ≠ 0 then 42 else 0
def opK (bs : List UInt8) : Nat := if opE bs = 0 then getV bs 0 1 else 0
def opP (bs : List UInt8) : Nat := if opE bs = 0 then getV bs 1 4 else 0
def opN (bs : List UInt8) : Nat := if opE bs = 0 then getV bs 5 4 else 0
def opD (bs : List UInt8) : List UInt8 := if opE bs = 0 then textS bs 9 else []
def opO (bs : List UInt8) : List UInt8 := if opE bs = 0 then textS bs (textI bs 9) else []
def opT (bs : List UInt8) : Int := if opE bs = 0 then textI bs (textI bs 9) else 0
theorem textE_cases (bs : List UInt8) (i : Int) (hi : 0 ≤ i) (hi2 : i ≤ bs.length) : textE bs i = 0 ∨ textE bs i = 2 ∨ textE bs i = 10 := by
  unfold textE
  split
  · split
    · split <;> simp
    · simp
  · rename_i h
    unfold getE at *
    simp only [show (1 : Int) ≤ 4 ∧ (4 : Int) ≤ 8 from by decide, if_true, hi, hi2, and_self] at *
    split at h
    · right; right; split
      · rfl
      · omega
    · exact absurd rfl h
theorem textI_bd {bs : List UInt8} {i : Int} (h : textE bs i = 0) : 0 ≤ textI bs i ∧ i + 4 ≤ textI bs i ∧ textI bs i ≤ bs.length ∧ textI bs i = i + 4 + (textS bs i).length ∧ (textS bs i).length ≤ 16777216 := by
  have h0 := h
  unfold textE at h
  split at h
  · rename_i hg
    obtain ⟨_, _, h1, h2, h3⟩ := getE_zero hg
    split at h
    · rename_i hq
      split at h
      · rename_i hb
        have hS : (textS bs i).length = getV bs i 4 := by
          unfold textS; rw [if_pos h0, List.length_take, List.length_drop]; omega
        have hI : textI bs i = i + 4 + getV bs i 4 := by unfold textI; rw [if_pos h0]
        rw [hI, hS]; omega
      · cases h
    · cases h
  · rename_i hg; exact absurd h hg
theorem short_get (bs : List UInt8) (i n : Int) (h1 : 1 ≤ n) (h8 : n ≤ 8) (hi : 0 ≤ i) (hi2 : i ≤ bs.length) (h : bs.length < i + n) : getE bs i n = 10 := by
  unfold getE; rw [if_pos ⟨h1, h8⟩, if_pos ⟨hi, hi2⟩, if_pos (by omega)]
theorem long_get (bs : List UInt8) (i n : Int) (h1 : 1 ≤ n) (h8 : n ≤ 8) (hi : 0 ≤ i) (h : i + n ≤ bs.length) : getE bs i n = 0 := by
  unfold getE; rw [if_pos ⟨h1, h8⟩, if_pos ⟨hi, by omega⟩, if_neg (by omega)]
theorem getI_of {bs : List UInt8} {i n : Int} (h : getE bs i n = 0) : getI bs i n = i + n := by unfold getI; rw [if_pos h]
theorem getV_1 (bs : List UInt8) (i : Int) : getV bs i 1 < 256 := by have := getV_lt bs i 1; simpa using this
theorem getV_4 (bs : List UInt8) (i : Int) : getV bs i 4 ≤ 4294967295 := by
  have h := getV_lt bs i 4
  have e : 256 ^ (4 : Int).toNat = 4294967296 := by decide
  omega
theorem getV_byte (bs : List UInt8) (h : 0 < bs.length) : (bs[0]).toNat = getV bs 0 1 := by
  have e : getE bs 0 1 = 0 := long_get bs 0 1 (by decide) (by decide) (by decide) (by omega)
  unfold getV
  rw [if_pos e]
  match bs, h with
  | x :: r, _ => simp [numN]
/-- What a request's bytes are, where they are one's. -/
theorem opE_ok {bs : List UInt8} (h : opE bs = 0) : 9 ≤ bs.length ∧ textE bs 9 = 0 ∧ textE bs (textI bs 9) = 0 ∧ fmE (getV bs 0 1) (getV bs 1 4) (getV bs 5 4) (textS bs 9).length (textS bs (textI bs 9)).length = 0 := by
  unfold opE at h
  split at h
  · cases h
  · split at h
    · rename_i h1 h2
      rcases textE_cases bs 9 (by omega) (by omega) with e | e | e
      · exact absurd e h2
      · rw [e] at h; cases h
      · rw [e] at h; cases h
    · rename_i h1 h2
      have h2' : textE bs 9 = 0 := by omega
      have hb := textI_bd h2'
      split at h
      · rename_i h3
        rcases textE_cases bs (textI bs 9) (by omega) (by omega) with e | e | e
        · exact absurd e h3
        · rw [e] at h; cases h
        · rw [e] at h; cases h
      · rename_i h3
        split at h
        · cases h
        · exact ⟨by omega, h2', by omega, by omega⟩
theorem opE_no {bs : List UInt8} (h : opE bs ≠ 0) : opK bs = 0 ∧ opP bs = 0 ∧ opN bs = 0 ∧ opD bs = [] ∧ opO bs = [] ∧ opT bs = 0 := by
  unfold opK opP opN opD opO opT
  simp only [if_neg h, and_self]
theorem opE_yes {bs : List UInt8} (h : opE bs = 0) : opK bs = getV bs 0 1 ∧ opP bs = getV bs 1 4 ∧ opN bs = getV bs 5 4 ∧ opD bs = textS bs 9 ∧ opO bs = textS bs (textI bs 9) ∧ opT bs = textI bs (textI bs 9) := by
  unfold opK opP opN opD opO opT
  simp only [if_pos h, and_self]
end Go.Proofs.YtkknkdjdneldlaaGreat
namespace Go.Proofs.YtkknkdjdneldlaaGreat
set_option maxRecDepth 20000
open Go.RowKit Go.Px
set_option linter.unusedVariables false
theorem broken_any (z : Int) (w : World) (h : z = 2 ∨ z = 10) : Calls Tryz.prog 159 #[.int .i64 z] w fun e w' => e = .returned (.int .i64 (brE z)) ∧ w = w' := by
  rcases h with rfl | rfl
  · go_enter Tryz.func159, Tryz.ntmps159
    go_wp2
    go_ret
    exact ⟨rfl, rfl⟩
  · go_enter Tryz.func159, Tryz.ntmps159
    go_wp2
    go_ret
    exact ⟨rfl, rfl⟩
theorem zero5 {w : World} {g : Nat} {T : TypeId} {vs : List Value} (h : Blk w g vs T) (hv : vs.length = 5) (a b c d e : Value) : Blk (((((w.setCell ⟨g, 0, none⟩ a).setCell ⟨g, 1, none⟩ b).setCell ⟨g, 2, none⟩ c).setCell ⟨g, 3, none⟩ d).setCell ⟨g, 4, none⟩ e) g [a, b, c, d, e] T := by
  have := ((((h.set 0 a).set 1 b).set 2 c).set 3 d).set 4 e
  match vs, hv with
  | [_, _, _, _, _], _ => exact this
theorem below5 {B g : Nat} {w w1 : World} (h : Below B w w1) (hg : B ≤ g) (a b c d e : Value) : Below B w (((((w1.setCell ⟨g, 0, none⟩ a).setCell ⟨g, 1, none⟩ b).setCell ⟨g, 2, none⟩ c).setCell ⟨g, 3, none⟩ d).setCell ⟨g, 4, none⟩ e) :=
  ((((h.setCell (show B ≤ (⟨g, 0, none⟩ : Addr).block from hg) a).setCell (show B ≤ (⟨g, 1, none⟩ : Addr).block from hg) b).setCell (show B ≤ (⟨g, 2, none⟩ : Addr).block from hg) c).setCell (show B ≤ (⟨g, 3, none⟩ : Addr).block from hg) d).setCell (show B ≤ (⟨g, 4, none⟩ : Addr).block from hg) e
theorem rd5 {B g : Nat} {w : World} {A : Option Addr} {xs : List Value} (h : Rd w A xs) (hu : ∀ a, A = some a → B ≤ a.block) (hg : g < B) (a b c d e : Value) : Rd (((((w.setCell ⟨g, 0, none⟩ a).setCell ⟨g, 1, none⟩ b).setCell ⟨g, 2, none⟩ c).setCell ⟨g, 3, none⟩ d).setCell ⟨g, 4, none⟩ e) A xs :=
  (((((h.upset hu hg).upset hu hg).upset hu hg).upset hu hg).upset hu hg)
end Go.Proofs.YtkknkdjdneldlaaGreat
namespace Go.Proofs.YtkknkdjdneldlaaGreat
set_option maxRecDepth 20000
open Go.RowKit Go.Px
set_option linter.unusedVariables false
def RDecIsC (bs : List UInt8) (w : World) (e : Ending) (w' : World) : Prop :=
  ∃ D dc O oc, e = .returned (.tuple #[opv (opK bs) (opP bs) (opN bs) D (opD bs).length dc O (opO bs).length oc, .int .i64 (opT bs), .int .i64 (opE bs)]) ∧ Rd w' D (bys (opD bs)) ∧ Rd w' O (bys (opO bs)) ∧ Below w.heap.size w w' ∧ (opD bs).length ≤ dc ∧ dc ≤ 9223372036854775807 ∧ (opO bs).length ≤ oc ∧ oc ≤ 9223372036854775807 ∧ (∀ a, D = some a → w.heap.size ≤ a.block) ∧ (∀ a, O = some a → w.heap.size ≤ a.block)
theorem rdecIsC_bad {bs : List UInt8} {x : Int} {w : World} {e : Ending} {w' : World} (hx : opE bs = x) (h0 : x ≠ 0) (h : e = .returned (.tuple #[opv 0 0 0 none 0 0 none 0 0, .int .i64 0, .int .i64 x]) ∧ Below w.heap.size w w') : RDecIsC bs w e w' := by
  obtain ⟨rfl, hb⟩ := h
  obtain ⟨h1, h2, h3, h4, h5, h6⟩ := opE_no (show opE bs ≠ 0 by rw [hx]; exact h0)
  unfold RDecIsC
  rw [h1, h2, h3, h4, h5, h6, hx]
  exact ⟨none, 0, none, 0, rfl, Rd.nil, Rd.nil, hb, by simp, by omega, by simp, by omega, fun a ha => (by cases ha), fun a ha => (by cases ha)⟩
set_option maxHeartbeats 3200000 in
theorem rdec_anyC (A : Option Addr) (m c : Nat) (bs : List UInt8) (w : World) (hm : bs.length = m) (hmc : m ≤ c) (hm8 : m ≤ 140737488355328) (hc : c ≤ 9223372036854775807) (hr : Rd w A (bys bs)) :
    Calls Tryz.prog 138 #[.slice A m c] w (RDecIsC bs w) := by
  obtain ⟨g, hg⟩ : ∃ g, w.heap.size = g := ⟨_, rfl⟩
  obtain ⟨w0, hw0⟩ : ∃ w0, w.alloc (.cells #[.int .u8 0, .int .i64 0, .int .i64 0, .slice none 0 0, .slice none 0 0] 47) = w0 := ⟨_, rfl⟩
  have hG0 : Blk w0 g [.int .u8 0, .int .i64 0, .int .i64 0, .slice none 0 0, .slice none 0 0] 47 := by rw [← hw0, ← hg]; exact Blk.new w [.int .u8 0, .int .i64 0, .int .i64 0, .slice none 0 0, .slice none 0 0] _
  have hb0 : Below w.heap.size w w0 := by rw [← hw0]; exact (Below.refl _ _).alloc (Nat.le_refl _) _
  have hr0 := hr.below hb0
  by_cases h9 : m < 9
  · have hx : opE bs = 10 := by unfold opE; rw [if_pos (by omega)]
    have HF := hide (fun e w' => rdecIsC_bad (w := w) (e := e) (w' := w') hx (by decide))
    have Hw0 := hide hw0
    clear hx hm hw0 hG0 hb0 hr0
    go_enter Tryz.func138, Tryz.ntmps138
    go_wp2
    have hGn : Blk (w.alloc (.cells #[.int .u8 0, .int .i64 0, .int .i64 0, .slice none 0 0, .slice none 0 0] 47)) g [.int .u8 0, .int .i64 0, .int .i64 0, .slice none 0 0, .slice none 0 0] 47 := by rw [← hg]; exact Blk.new w [.int .u8 0, .int .i64 0, .int .i64 0, .slice none 0 0, .slice none 0 0] _
    refine bodyPost_ret (results_cell3 rfl rfl hGn Tryz.underlying47 rfl (by kernel_rfl)) rfl ?_
    exact HF.out _ _ ⟨rfl, (Below.refl _ _).alloc (Nat.le_refl _) _⟩
  · have h9' : 9 ≤ m := by omega
    have e1 := hide (long_get bs 1 4 (by decide) (by decide) (by decide) (by omega))
    have e2 := hide (long_get bs 5 4 (by decide) (by decide) (by decide) (by omega))
    have hx : opE bs = if textE bs 9 ≠ 0 then brE (textE bs 9) else if textE bs (textI bs 9) ≠ 0 then brE (textE bs (textI bs 9))
      else if fmE (getV bs 0 1) (getV bs 1 4) (getV bs 5 4) (textS bs 9).length (textS bs (textI bs 9)).length ≠ 0 then 42 else 0 := by unfold opE; rw [if_neg (by omega)]
    have Hx := hide hx
    have hv1 := getV_4 bs 1
    have hv2 := getV_4 bs 5
    obtain ⟨p, hp⟩ : ∃ p, getV bs 1 4 = p := ⟨_, rfl⟩
    obtain ⟨n, hn⟩ : ∃ n, getV bs 5 4 = n := ⟨_, rfl⟩
    rw [hp] at hv1
    rw [hn] at hv2
    have Hp := hide hp
    have Hn := hide hn
    have Hm := hide hm
    have Hw0 := hide hw0
    clear hp hn hm hx hw0 h9
    go_enter Tryz.func138, Tryz.ntmps138
    go_wp2_with fail
    rw [Hw0.out]
    go_fit (rget_any A m c bs 1 4 w0 Hm.out hmc hc hr0 (by decide) (by decide))
    rw [e1.out, Hp.out]
    rintro x w1 ⟨rfl, rfl⟩
    go_wp2_with fail
    go_fit (rget_any A m c bs 5 4 w0 Hm.out hmc hc hr0 (by decide) (by decide))
    rw [e2.out, Hn.out]
    rintro x w1 ⟨rfl, rfl⟩
    go_wp2_with fail
    go_fit (rgetText_any A m c bs 9 w0 Hm.out hmc hm8 hc hr0 (by decide) (by decide))
    rintro x w1 ⟨u1, rfl, ho1, hb1⟩
    obtain ⟨A1, c1, rfl, _, hc1, hcm1, hr1, ha1⟩ := own_out ho1
    have hG1 := hG0.below hb1
    have hb01 := hb0.trans (hb1.mono hb0.size)
    have hs1 := hG1.lt
    rcases textE_cases bs 9 (by decide) (by rw [Hm.out]; omega) with e3 | e3 | e3
    · have hb3 := textI_bd e3
      have Hx4 := hide (show opE bs = if textE bs (textI bs 9) ≠ 0 then brE (textE bs (textI bs 9)) else if fmE (getV bs 0 1) (getV bs 1 4) (getV bs 5 4) (textS bs 9).length (textS bs (textI bs 9)).length ≠ 0 then 42 else 0 by rw [Hx.out, if_neg (by rw [e3]; decide)])
      have E3 := hide e3
      rw [e3]
      clear e3
      obtain ⟨t1, ht1⟩ : ∃ t, textI bs 9 = t := ⟨_, rfl⟩
      obtain ⟨ds, hds⟩ : ∃ t, textS bs 9 = t := ⟨_, rfl⟩
      rw [ht1, hds] at hb3
      rw [ht1, hds]
      rw [hds] at ho1 hr1 hc1
      have HT := hide ht1
      have HD := hide hds
      obtain ⟨b1, b2, b3, -, b5⟩ := hb3
      rw [Hm.out] at b3
      clear ht1 hds
      go_wp2_with fail
      go_fit (rgetText_any A m c bs t1 w1 Hm.out hmc hm8 hc (hr0.below hb1) (by omega) (by omega))
      rintro x w2 ⟨u2, rfl, ho2, hb2⟩
      obtain ⟨A2, c2, rfl, _, hc2, hcm2, hr2, ha2⟩ := own_out ho2
      have hG2 := hG1.below hb2
      have hb02 := hb01.trans (hb2.mono hb01.size)
      rcases textE_cases bs t1 (by omega) (by rw [Hm.out]; omega) with e4 | e4 | e4
      · have hb4 := textI_bd e4
        have E4 := hide e4
        rw [e4]
        clear e4
        obtain ⟨t2, ht2⟩ : ∃ t, textI bs t1 = t := ⟨_, rfl⟩
        obtain ⟨xs, hxs⟩ : ∃ t, textS bs t1 = t := ⟨_, rfl⟩
        rw [ht2, hxs] at hb4
        rw [ht2, hxs]
        rw [hxs] at ho2 hr2 hc2
        obtain ⟨b6, b7, b8, -, b9⟩ := hb4
        rw [Hm.out] at b8
        have HT2 := hide ht2
        have HX2 := hide hxs
        obtain ⟨k, hk⟩ : ∃ k, getV bs 0 1 = k := ⟨_, rfl⟩
        have hkl := getV_1 bs 0
        rw [hk] at hkl
        have HK := hide hk
        have Hx5 := hide (show opE bs = if fmE k p n ds.length xs.length ≠ 0 then 42 else 0 by rw [Hx4.out, HT.out, if_neg (by rw [E4.out]; decide), HD.out, HX2.out, HK.out, Hp.out, Hn.out])
        obtain ⟨a, rfl, hcell⟩ := (hr0.below hb1 |>.below hb2) 0 _ (bys_get (show 0 < bs.length by rw [Hm.out]; omega))
        rw [show a.add 0 = a from rfl, show ((bs[0]'(by rw [Hm.out]; omega)).toNat : Int) = (k : Int) by rw [← HK.out, getV_byte bs (by rw [Hm.out]; omega)]] at hcell
        have hpos : 0 < m := by omega
        clear hk ht2 hxs
        go_wp2_with fail
        obtain ⟨v, hv⟩ : ∃ v, w2.heap.size = v := ⟨_, rfl⟩
        obtain ⟨w3, hw3⟩ : ∃ w3, w2.alloc (.cells #[.int .u8 k, .int .i64 p, .int .i64 n, .slice A1 ds.length c1, .slice A2 xs.length c2] 47) = w3 := ⟨_, rfl⟩
        have hV3 : Blk w3 v [.int .u8 k, .int .i64 p, .int .i64 n, .slice A1 ds.length c1, .slice A2 xs.length c2] 47 := by rw [← hw3, ← hv]; exact Blk.new w2 [.int .u8 k, .int .i64 p, .int .i64 n, .slice A1 ds.length c1, .slice A2 xs.length c2] _
        have hb23 : Below w2.heap.size w2 w3 := by rw [← hw3]; exact (Below.refl _ _).alloc (Nat.le_refl _) _
        have hs2 := hG2.lt
        rw [hv] at hs2
        have hG3 := hG2.below hb23
        have hb03 := hb02.trans (hb23.mono hb02.size)
        rw [hw3, hv]
        clear hw3 hv
        go_fit (rform_any k p n A1 ds.length c1 A2 xs.length c2 w3 hkl)
        rcases fmE_two k p n ds.length xs.length with ⟨hf, hfe⟩ | hfe
        · rw [hfe]
          have HX0 := hide (show opE bs = 0 by rw [Hx5.out, if_neg (by rw [hfe]; decide)])
          clear hf hfe
          rintro x w4 ⟨rfl, hb4⟩
          have hG4 := hG3.below hb4
          have hV4 := hV3.below hb4
          have hb04 := hb03.trans (hb4.mono hb03.size)
          have f0 := hG4.cell (j := 0) rfl
          have f1 := hG4.cell (j := 1) rfl
          have f2 := hG4.cell (j := 2) rfl
          have f3 := hG4.cell (j := 3) rfl
          have f4 := hG4.cell (j := 4) rfl
          have t0 := hG4.frozen 0
          have t1 := hG4.frozen 1
          have t2 := hG4.frozen 2
          have t3 := hG4.frozen 3
          have t4 := hG4.frozen 4
          have y0 := hV4.cell (j := 0) rfl
          have y1 := hV4.cell (j := 1) rfl
          have y2 := hV4.cell (j := 2) rfl
          have y3 := hV4.cell (j := 3) rfl
          have y4 := hV4.cell (j := 4) rfl
          have r1 := (hr1.below hb2 |>.below hb23 |>.below hb4)
          have r2 := (hr2.below hb23 |>.below hb4)
          have s1 := hb1.size
          have s0 := hG0.lt
          go_wp2
          refine bodyPost_ret (results_cell3 rfl rfl (zero5 hG4 rfl _ _ _ _ _) Tryz.underlying47 rfl (by kernel_rfl)) rfl ?_
          obtain ⟨q1, q2, q3, q4, q5, q6⟩ := opE_yes HX0.out
          unfold RDecIsC
          rw [q1, q2, q3, q4, q5, q6, HX0.out, HK.out, Hp.out, Hn.out, HD.out, HT.out, HX2.out, HT2.out]
          exact ⟨A1, c1, A2, c2, rfl, rd5 r1 (fun a ha => (ha1 a ha).1) (by omega) _ _ _ _ _, rd5 r2 (fun a ha => (ha2 a ha).1) (by omega) _ _ _ _ _, below5 hb04 (by omega) _ _ _ _ _, hc1, by unfold maxLen at hcm1; omega, hc2, by unfold maxLen at hcm2; omega, fun a ha => by have := (ha1 a ha).1; have := hb0.size; omega, fun a ha => by have := (ha2 a ha).1; have := hb0.size; have := hb1.size; omega⟩
        · rw [hfe]
          have HF := hide (fun e w' => rdecIsC_bad (w := w) (e := e) (w' := w') (show opE bs = 42 by rw [Hx5.out, if_pos (by rw [hfe]; decide)]) (by decide))
          clear hfe
          rintro x w4 ⟨rfl, hb4⟩
          have hG4 := hG3.below hb4
          have hb04 := hb03.trans (hb4.mono hb03.size)
          have f0 := hG4.cell (j := 0) rfl
          have f1 := hG4.cell (j := 1) rfl
          have f2 := hG4.cell (j := 2) rfl
          have f3 := hG4.cell (j := 3) rfl
          have f4 := hG4.cell (j := 4) rfl
          have t0 := hG4.frozen 0
          have t1 := hG4.frozen 1
          have t2 := hG4.frozen 2
          have t3 := hG4.frozen 3
          have t4 := hG4.frozen 4
          go_wp2
          refine bodyPost_ret (results_cell3 rfl rfl (zero5 hG4 rfl _ _ _ _ _) Tryz.underlying47 rfl (by kernel_rfl)) rfl ?_
          exact HF.out _ _ ⟨rfl, below5 hb04 (by omega) _ _ _ _ _⟩
      · have HF := hide (fun e w' => rdecIsC_bad (w := w) (e := e) (w' := w') (show opE bs = 42 by rw [Hx4.out, HT.out, e4, if_pos (by decide)]; rfl) (by decide))
        rw [e4]
        clear e4
        have f0 := hG2.cell (j := 0) rfl
        have f1 := hG2.cell (j := 1) rfl
        have f2 := hG2.cell (j := 2) rfl
        have f3 := hG2.cell (j := 3) rfl
        have f4 := hG2.cell (j := 4) rfl
        have t0 := hG2.frozen 0
        have t1 := hG2.frozen 1
        have t2 := hG2.frozen 2
        have t3 := hG2.frozen 3
        have t4 := hG2.frozen 4
        go_wp2_with fail
        go_fit (broken_any 2 w2 (by decide))
        rintro x wq ⟨rfl, rfl⟩
        go_wp2
        refine bodyPost_ret (results_cell3 rfl rfl (zero5 hG2 rfl _ _ _ _ _) Tryz.underlying47 rfl (by kernel_rfl)) rfl ?_
        exact HF.out _ _ ⟨rfl, below5 hb02 (by omega) _ _ _ _ _⟩
      · have HF := hide (fun e w' => rdecIsC_bad (w := w) (e := e) (w' := w') (show opE bs = 10 by rw [Hx4.out, HT.out, e4, if_pos (by decide)]; rfl) (by decide))
        rw [e4]
        clear e4
        have f0 := hG2.cell (j := 0) rfl
        have f1 := hG2.cell (j := 1) rfl
        have f2 := hG2.cell (j := 2) rfl
        have f3 := hG2.cell (j := 3) rfl
        have f4 := hG2.cell (j := 4) rfl
        have t0 := hG2.frozen 0
        have t1 := hG2.frozen 1
        have t2 := hG2.frozen 2
        have t3 := hG2.frozen 3
        have t4 := hG2.frozen 4
        go_wp2_with fail
        go_fit (broken_any 10 w2 (by decide))
        rintro x wq ⟨rfl, rfl⟩
        go_wp2
        refine bodyPost_ret (results_cell3 rfl rfl (zero5 hG2 rfl _ _ _ _ _) Tryz.underlying47 rfl (by kernel_rfl)) rfl ?_
        exact HF.out _ _ ⟨rfl, below5 hb02 (by omega) _ _ _ _ _⟩
    · have HF := hide (fun e w' => rdecIsC_bad (w := w) (e := e) (w' := w') (show opE bs = 42 by rw [Hx.out, if_pos (by rw [e3]; decide), e3]; rfl) (by decide))
      rw [e3]
      clear e3
      have f0 := hG1.cell (j := 0) rfl
      have f1 := hG1.cell (j := 1) rfl
      have f2 := hG1.cell (j := 2) rfl
      have f3 := hG1.cell (j := 3) rfl
      have f4 := hG1.cell (j := 4) rfl
      have t0 := hG1.frozen 0
      have t1 := hG1.frozen 1
      have t2 := hG1.frozen 2
      have t3 := hG1.frozen 3
      have t4 := hG1.frozen 4
      go_wp2_with fail
      go_fit (broken_any 2 w1 (by decide))
      rintro x wq ⟨rfl, rfl⟩
      go_wp2
      refine bodyPost_ret (results_cell3 rfl rfl (zero5 hG1 rfl _ _ _ _ _) Tryz.underlying47 rfl (by kernel_rfl)) rfl ?_
      exact HF.out _ _ ⟨rfl, below5 hb01 (by omega) _ _ _ _ _⟩
    · have HF := hide (fun e w' => rdecIsC_bad (w := w) (e := e) (w' := w') (show opE bs = 10 by rw [Hx.out, if_pos (by rw [e3]; decide), e3]; rfl) (by decide))
      rw [e3]
      clear e3
      have f0 := hG1.cell (j := 0) rfl
      have f1 := hG1.cell (j := 1) rfl
      have f2 := hG1.cell (j := 2) rfl
      have f3 := hG1.cell (j := 3) rfl
      have f4 := hG1.cell (j := 4) rfl
      have t0 := hG1.frozen 0
      have t1 := hG1.frozen 1
      have t2 := hG1.frozen 2
      have t3 := hG1.frozen 3
      have t4 := hG1.frozen 4
      go_wp2_with fail
      go_fit (broken_any 10 w1 (by decide))
      rintro x wq ⟨rfl, rfl⟩
      go_wp2
      refine bodyPost_ret (results_cell3 rfl rfl (zero5 hG1 rfl _ _ _ _ _) Tryz.underlying47 rfl (by kernel_rfl)) rfl ?_
      exact HF.out _ _ ⟨rfl, below5 hb01 (by omega) _ _ _ _ _⟩
end Go.Proofs.YtkknkdjdneldlaaGreat
namespace Go.Proofs.YtkknkdjdneldlaaGreat
set_option maxRecDepth 20000
open Go.RowKit Go.Px
set_option linter.unusedVariables false
set_option linter.unusedSimpArgs false

theorem stop_any (w : World) : Calls Tryz.prog 75 #[.int .i64 0] w fun e w' => e = .returned (.tuple #[]) ∧ w = w' := by
  go_enter Tryz.func75, Tryz.ntmps75
  go_wp2
  go_end0
  exact ⟨rfl, rfl⟩
theorem caught_any (z : Int) (w : World) : Calls Tryz.prog 71 #[.nilIface, .int .i64 z] w fun e w' => e = .returned (.int .i64 z) ∧ w = w' := by
  go_enter Tryz.func71, Tryz.ntmps71
  go_wp2
  go_ret
  exact ⟨rfl, rfl⟩
theorem idle_any (p : Addr) (z : Int) (w : World) (hc : w.cell? p = some (.int .i64 z)) (hf : w.frozen? p = false) :
    CallsD Tryz.prog 157 #[.pointer (some p)] .returning w fun e u' w' => e = .returned (.tuple #[]) ∧ u' = .returning ∧ w' = w.drew.setCell p (.int .i64 z) := by
  have hC := caught_any z w.drew
  refine callsD_of_wpS Tryz.func157 rfl fun c₀ cs hu => ?_
  refine wpS_two (by kernel_rfl) rfl (by kernel_rfl) (by kernel_rfl) (by kernel_rfl) (by kernel_rfl) (by kernel_rfl) ?_ ?_
  all_goals
    simp [wpOpsS, go_sem, recoverD, hu, Tryz.ntmps157, Exit.thenS, hc, hf]
    refine hC.mono ?_
    rintro e w' ⟨rfl, rfl⟩
    simp [go_sem, hc, hf]
    cases c₀
    simp_all [bodyPostS, results, Tryz.results157]
end Go.Proofs.YtkknkdjdneldlaaGreat
namespace Go.Proofs.YtkknkdjdneldlaaGreat
set_option maxRecDepth 20000
open Go.RowKit Go.Px
set_option linter.unusedVariables false

def NumIs (b : Nat) (v : Nat) (i : Int) (w : World) (e : Ending) (w' : World) : Prop := ∃ q, e = .returned (.int .u64 v) ∧ w' = (w.drewN q).setCell ⟨b, 1, none⟩ (.int .i64 i)
def IntIs (b : Nat) (v : Nat) (i : Int) (w : World) (e : Ending) (w' : World) : Prop := ∃ q, e = .returned (.int .i64 v) ∧ w' = (w.drewN q).setCell ⟨b, 1, none⟩ (.int .i64 i)

set_option maxHeartbeats 800000 in
theorem lnum_any (b : Nat) (T : TypeId) (A : Option Addr) (m c : Nat) (bs : List UInt8) (at_ n : Int) (v : Nat) (i : Int) (w : World) (hB : Blk w b [.slice A m c, .int .i64 at_] T) (hm : bs.length = m) (hmc : m ≤ c) (hc : c ≤ 9223372036854775807) (hr : Rd w A (bys bs))
    (ha : -9223372036854775808 ≤ at_) (ha2 : at_ ≤ 9223372036854775807) (hE : getE bs at_ n = 0) (hV : getV bs at_ n = v) (hI : getI bs at_ n = i) :
    Calls Tryz.prog 129 #[.pointer (some ⟨b, 0, none⟩), .int .i64 n] w (NumIs b v i w) := by
  have HQ : ∀ q, Calls Tryz.prog 156 #[.slice A m c, .int .i64 at_, .int .i64 n] (w.drewN q) fun e w' => e = .returned (.tuple #[.int .u64 v, .int .i64 i, .int .i64 0]) ∧ w' = w.drewN q := fun q => by
    refine (get_any A m c bs at_ n _ hm hmc hc (hr.drewN q) ha ha2).mono ?_
    rw [hE, hV, hI]
    rintro e w' ⟨rfl, rfl⟩
    exact ⟨rfl, rfl⟩
  have x0 := hB.cell (j := 0) rfl
  have x1 := hB.cell (j := 1) rfl
  have f1 := hB.frozen 1
  clear hE hV hI hm
  go_enter Tryz.func129, Tryz.ntmps129
  go_wp2
  go_quiet ((go_at_call 156; exact Calls.quiet_of_same (HQ _)))
  go_wp2_with fail
  go_fit (stop_any _)
  rintro e w' ⟨rfl, rfl⟩
  go_wp2
  go_ret
  exact ⟨_, rfl, rfl⟩
set_option maxHeartbeats 400000 in
theorem lint_any (b : Nat) (T : TypeId) (A : Option Addr) (m c : Nat) (bs : List UInt8) (at_ n : Int) (v : Nat) (i : Int) (w : World) (hB : Blk w b [.slice A m c, .int .i64 at_] T) (hm : bs.length = m) (hmc : m ≤ c) (hc : c ≤ 9223372036854775807) (hr : Rd w A (bys bs))
    (ha : -9223372036854775808 ≤ at_) (ha2 : at_ ≤ 9223372036854775807) (hE : getE bs at_ n = 0) (hV : getV bs at_ n = v) (hI : getI bs at_ n = i) (hv : v ≤ 9223372036854775807) :
    Calls Tryz.prog 130 #[.pointer (some ⟨b, 0, none⟩), .int .i64 n] w (IntIs b v i w) := by
  have H := hide (lnum_any b T A m c bs at_ n v i w hB hm hmc hc hr ha ha2 hE hV hI)
  clear hE hV hI hm
  go_enter Tryz.func130, Tryz.ntmps130
  go_wp2_with fail
  refine H.out.mono ?_
  rintro e w' ⟨q, rfl, rfl⟩
  go_wp2
  go_ret
  exact ⟨q, rfl, rfl⟩
def TxtIs (b : Nat) (s : List UInt8) (i : Int) (w : World) (e : Ending) (w' : World) : Prop := ∃ A c W, e = .returned (.slice A s.length c) ∧ W.ownsRow w.heap.size 5 1 (.slice A s.length c) s.length (bys s) ∧ Below w.heap.size w W ∧ w' = W.setCell ⟨b, 1, none⟩ (.int .i64 i)
set_option maxHeartbeats 800000 in
theorem ltext_any (b : Nat) (T : TypeId) (A : Option Addr) (m c : Nat) (bs : List UInt8) (at_ : Int) (s : List UInt8) (i : Int) (w : World) (hB : Blk w b [.slice A m c, .int .i64 at_] T) (hm : bs.length = m) (hmc : m ≤ c) (hm8 : m ≤ 140737488355328) (hc : c ≤ 9223372036854775807) (hr : Rd w A (bys bs))
    (ha : -9223372036854775808 ≤ at_) (ha2 : at_ ≤ 9223372036854775807) (hE : textE bs at_ = 0) (hS : textS bs at_ = s) (hI : textI bs at_ = i) :
    Calls Tryz.prog 140 #[.pointer (some ⟨b, 0, none⟩)] w (TxtIs b s i w) := by
  have HT := hide (getText_any A m c bs at_ w.drew hm hmc hm8 hc hr.drew ha ha2)
  have x0 := hB.cell (j := 0) rfl
  have x1 := hB.cell (j := 1) rfl
  have S0 : w.drew.cell? ⟨b, 0, none⟩ = some (.slice A m c) ∧ w.drew.cell? ⟨b, 1, none⟩ = some (.int .i64 at_) := ⟨x0, x1⟩
  have HE := hide hE
  have HS := hide hS
  have HI := hide hI
  clear hE hS hI hm
  go_enter Tryz.func140, Tryz.ntmps140
  go_wp2
  go_region_with (first
    | (go_at_call 160; refine HT.out.mono ?_; rw [HE.out, HS.out, HI.out]; rintro e w1 ⟨u1, rfl, ho1, hb1⟩; obtain ⟨A1, c1, rfl, _, _, _, _, _⟩ := own_out ho1))
  all_goals
    have hB1 := Blk.below (w := w.drew) hB hb1
    have y1 := hB1.cell (j := 1) rfl
    have g1 := hB1.frozen 1
    go_wp2_with fail
    go_fit (stop_any _)
    rintro e w' ⟨rfl, rfl⟩
    go_wp2
    go_ret
    exact ⟨A1, c1, w1, rfl, ho1, (Below.refl _ _).drew.trans hb1, rfl⟩
end Go.Proofs.YtkknkdjdneldlaaGreat
