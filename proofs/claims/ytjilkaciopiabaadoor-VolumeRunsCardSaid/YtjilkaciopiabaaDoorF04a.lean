/- Shape twice, isPlace, Form twice. -/
import Derived.Test.YtjilkaciopiabaaDoorTypes
import Derived.Test.YtjilkaciopiabaaDoorArr
import Derived.Test.YtjilkaciopiabaaDoorMore
import Derived.Deep.DeepFit
import Derived.Outline
namespace Go.Proofs.YtjilkaciopiabaaDoor
open Go.RowKit Go.Px
set_option linter.unusedVariables false

abbrev shp (b z : Int) : Value := .agg #[.int .i64 b, .int .i64 z]
abbrev opv (k : Nat) (p n : Int) (D : Option Addr) (d dc : Nat) (O : Option Addr) (o oc : Nat) : Value := .agg #[.int .u8 k, .int .i64 p, .int .i64 n, .slice D d dc, .slice O o oc]
def shE (b z : Int) : Int := if (1 ≤ b ∧ b ≤ 4096) ∧ 1 ≤ z ∧ z ≤ 4096 then 0 else 40
def fmP (k : Nat) (p n : Int) (d o : Nat) : Prop := ((0 ≤ p ∧ p ≤ 2147483647) ∧ (0 ≤ n ∧ n ≤ 2147483647) ∧ d ≤ 262144 ∧ o ≤ 4096) ∧ ((k = 4 ∧ p = 0 ∧ n = 0 ∧ d = 0 ∧ o = 0) ∨ ((k = 1 ∨ k = 3) ∧ d = 0 ∧ o = 0) ∨ (k = 2 ∧ o = 0) ∨ (k = 5 ∧ n = 0))
instance (k : Nat) (p n : Int) (d o : Nat) : Decidable (fmP k p n d o) := by unfold fmP; infer_instance
def fmE (k : Nat) (p n : Int) (d o : Nat) : Int := if fmP k p n d o then 0 else 41
theorem fm_yes {k : Nat} {p n : Int} {d o : Nat} (h : fmP k p n d o) : Ending.returned (.int .i64 0) = .returned (.int .i64 (fmE k p n d o)) := by unfold fmE; rw [if_pos h]
theorem fm_no {k : Nat} {p n : Int} {d o : Nat} (h : ¬ fmP k p n d o) : Ending.returned (.int .i64 41) = .returned (.int .i64 (fmE k p n d o)) := by unfold fmE; rw [if_neg h]
theorem sh_yes {b z : Int} (h : (1 ≤ b ∧ b ≤ 4096) ∧ 1 ≤ z ∧ z ≤ 4096) : Ending.returned (.int .i64 0) = .returned (.int .i64 (shE b z)) := by unfold shE; rw [if_pos h]
theorem sh_no {b z : Int} (h : ¬ ((1 ≤ b ∧ b ≤ 4096) ∧ 1 ≤ z ∧ z ≤ 4096)) : Ending.returned (.int .i64 40) = .returned (.int .i64 (shE b z)) := by unfold shE; rw [if_neg h]

set_option maxHeartbeats 400000 in
theorem shape_any (b z : Int) (w : World) : Calls Tryd.prog 35 #[shp b z] w fun e w' => e = .returned (.int .i64 (shE b z)) ∧ Below w.heap.size w w' := by
  have hb0 : Below w.heap.size w (w.alloc (.cells #[.int .i64 b, .int .i64 z] 23)) := (Below.refl _ _).alloc (Nat.le_refl _) _
  go_enter Tryd.func35, Tryd.ntmps35
  go_wp2
  all_goals
    go_ret
    refine ⟨?_, hb0⟩
    first | exact sh_yes (by omega) | exact sh_no (by omega)
set_option maxHeartbeats 400000 in
theorem rshape_any (b z : Int) (w : World) : Calls Tryd.prog 7 #[shp b z] w fun e w' => e = .returned (.int .i64 (shE b z)) ∧ Below w.heap.size w w' := by
  have hb0 : Below w.heap.size w (w.alloc (.cells #[.int .i64 b, .int .i64 z] 23)) := (Below.refl _ _).alloc (Nat.le_refl _) _
  go_enter Tryd.func7, Tryd.ntmps7
  go_wp2
  all_goals
    go_ret
    refine ⟨?_, hb0⟩
    first | exact sh_yes (by omega) | exact sh_no (by omega)
def plB (v : Int) : Bool := decide (0 ≤ v ∧ v ≤ 2147483647)
theorem place_any (v : Int) (w : World) : Calls Tryd.prog 48 #[.int .i64 v] w fun e w' => e = .returned (.bool (plB v)) ∧ w = w' := by
  by_cases h1 : 0 ≤ v
  · by_cases h2 : v ≤ 2147483647
    · have H := hide (show plB v = true from decide_eq_true ⟨h1, h2⟩)
      go_enter Tryd.func48, Tryd.ntmps48
      go_wp2
      go_ret
      exact ⟨by rw [H.out]; rfl, rfl⟩
    · have H := hide (show plB v = false from decide_eq_false (by omega))
      go_enter Tryd.func48, Tryd.ntmps48
      go_wp2
      go_ret
      exact ⟨by rw [H.out]; rfl, rfl⟩
  · have H := hide (show plB v = false from decide_eq_false (by omega))
    go_enter Tryd.func48, Tryd.ntmps48
    go_wp2
    go_ret
    exact ⟨by rw [H.out]; rfl, rfl⟩

set_option maxHeartbeats 1600000 in
theorem form_any (k : Nat) (p n : Int) (D : Option Addr) (d dc : Nat) (O : Option Addr) (o oc : Nat) (w : World) (hk : k < 256) :
    Calls Tryd.prog 42 #[opv k p n D d dc O o oc] w fun e w' => e = .returned (.int .i64 (fmE k p n d o)) ∧ Below w.heap.size w w' := by
  have hb0 : Below w.heap.size w (w.alloc (.cells #[.int .u8 k, .int .i64 p, .int .i64 n, .slice D d dc, .slice O o oc] 38)) := (Below.refl _ _).alloc (Nat.le_refl _) _
  by_cases h1 : 0 ≤ p ∧ p ≤ 2147483647
  · have H1 := hide (show plB p = true from decide_eq_true h1)
    by_cases h2 : 0 ≤ n ∧ n ≤ 2147483647
    · have H2 := hide (show plB n = true from decide_eq_true h2)
      obtain ⟨a1, a2⟩ := h1
      obtain ⟨a3, a4⟩ := h2
      obtain rfl | rfl | rfl | rfl | rfl | ⟨k1, k2, k3, k4, k5⟩ : k = 4 ∨ k = 1 ∨ k = 3 ∨ k = 2 ∨ k = 5 ∨ (k ≠ 4 ∧ k ≠ 1 ∧ k ≠ 3 ∧ k ≠ 2 ∧ k ≠ 5) := by omega
      rotate_left 5
      have e1 : ((k : Int) == 4) = false := by simp; omega
      have e2 : ((k : Int) == 1) = false := by simp; omega
      have e3 : ((k : Int) == 3) = false := by simp; omega
      have e4 : ((k : Int) == 2) = false := by simp; omega
      have e5 : ((k : Int) == 5) = false := by simp; omega
      have Kn := hide (And.intro k1 (And.intro k2 (And.intro k3 (And.intro k4 k5))))
      clear k1 k2 k3 k4 k5
      rotate_right 5
      all_goals
        go_enter Tryd.func42, Tryd.ntmps42
        go_wp2_with fail
        go_fit (place_any p _)
        rw [H1.out]
        rintro x w' ⟨rfl, rfl⟩
        go_wp2_with fail
        go_fit (place_any n _)
        rw [H2.out]
        rintro x w' ⟨rfl, rfl⟩
        go_wp2
        all_goals
          go_ret
          refine ⟨?_, (Below.refl _ _).alloc (Nat.le_refl _) _⟩
          (try simp only [Bool.not_eq_true', Bool.not_eq_false', beq_iff_eq, beq_eq_false_iff_ne, ne_eq] at *)
          first | exact fm_yes (by unfold fmP; omega) | exact fm_no (by unfold fmP; omega) | exact fm_no (by have := Kn.out; unfold fmP; omega)
    · have H2 := hide (show plB n = false from decide_eq_false h2)
      have HF := hide (fm_no (k := k) (p := p) (n := n) (d := d) (o := o) (by unfold fmP; omega))
      clear h1 h2
      go_enter Tryd.func42, Tryd.ntmps42
      go_wp2_with fail
      go_fit (place_any p _)
      rw [H1.out]
      rintro x w' ⟨rfl, rfl⟩
      go_wp2_with fail
      go_fit (place_any n _)
      rw [H2.out]
      rintro x w' ⟨rfl, rfl⟩
      go_wp2
      go_ret
      exact ⟨HF.out, hb0⟩
  · have H1 := hide (show plB p = false from decide_eq_false h1)
    have HF := hide (fm_no (k := k) (p := p) (n := n) (d := d) (o := o) (by unfold fmP; omega))
    clear h1
    go_enter Tryd.func42, Tryd.ntmps42
    go_wp2_with fail
    go_fit (place_any p _)
    rw [H1.out]
    rintro x w' ⟨rfl, rfl⟩
    go_wp2
    go_ret
    exact ⟨HF.out, hb0⟩
set_option maxHeartbeats 1600000 in
theorem rform_any (k : Nat) (p n : Int) (D : Option Addr) (d dc : Nat) (O : Option Addr) (o oc : Nat) (w : World) (hk : k < 256) :
    Calls Tryd.prog 46 #[opv k p n D d dc O o oc] w fun e w' => e = .returned (.int .i64 (fmE k p n d o)) ∧ Below w.heap.size w w' := by
  have hb0 : Below w.heap.size w (w.alloc (.cells #[.int .u8 k, .int .i64 p, .int .i64 n, .slice D d dc, .slice O o oc] 38)) := (Below.refl _ _).alloc (Nat.le_refl _) _
  by_cases h1 : (0 ≤ p ∧ p ≤ 2147483647) ∧ (0 ≤ n ∧ n ≤ 2147483647) ∧ d ≤ 262144 ∧ o ≤ 4096
  · obtain ⟨⟨a1, a2⟩, ⟨a3, a4⟩, a5, a6⟩ := h1
    obtain rfl | rfl | rfl | rfl | rfl | ⟨k1, k2, k3, k4, k5⟩ : k = 4 ∨ k = 1 ∨ k = 3 ∨ k = 2 ∨ k = 5 ∨ (k ≠ 4 ∧ k ≠ 1 ∧ k ≠ 3 ∧ k ≠ 2 ∧ k ≠ 5) := by omega
    rotate_left 5
    have e1 : ((k : Int) == 4) = false := by simp; omega
    have e2 : ((k : Int) == 1) = false := by simp; omega
    have e3 : ((k : Int) == 3) = false := by simp; omega
    have e4 : ((k : Int) == 2) = false := by simp; omega
    have e5 : ((k : Int) == 5) = false := by simp; omega
    have Kn := hide (And.intro k1 (And.intro k2 (And.intro k3 (And.intro k4 k5))))
    clear k1 k2 k3 k4 k5
    rotate_right 5
    all_goals
      go_enter Tryd.func46, Tryd.ntmps46
      go_wp2
      all_goals
        go_ret
        refine ⟨?_, (Below.refl _ _).alloc (Nat.le_refl _) _⟩
        (try simp only [Bool.not_eq_true', Bool.not_eq_false', beq_iff_eq, beq_eq_false_iff_ne, ne_eq] at *)
        first | exact fm_yes (by unfold fmP; omega) | exact fm_no (by unfold fmP; omega) | exact fm_no (by have := Kn.out; unfold fmP; omega)
  · have HF := hide (fm_no (k := k) (p := p) (n := n) (d := d) (o := o) (by unfold fmP; omega))
    have H1 := hide h1
    clear h1
    go_enter Tryd.func46, Tryd.ntmps46
    go_wp2
    all_goals
      first
        | (go_ret; exact ⟨HF.out, hb0⟩)
        | (exfalso; have := H1.out; omega)
end Go.Proofs.YtjilkaciopiabaaDoor
