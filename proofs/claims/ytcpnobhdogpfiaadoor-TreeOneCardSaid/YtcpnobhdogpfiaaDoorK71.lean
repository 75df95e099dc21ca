/- Texts joined (shake.py). -/
import Derived.Test.YtcpnobhdogpfiaaDoorTypes
import Derived.Test.YtcpnobhdogpfiaaDoorArr
import Derived.Test.YtcpnobhdogpfiaaDoorMore
import Derived.Deep.DeepFit
import Derived.Outline
import Derived.Test.YtcpnobhdogpfiaaDoorAgg
import Derived.Test.YtcpnobhdogpfiaaDoorArg
import Derived.Test.YtcpnobhdogpfiaaDoorGrp
import Derived.Test.YtcpnobhdogpfiaaDoorFrm
import Derived.Deep.Slices
import Derived.Test.YtcpnobhdogpfiaaDoorLib
namespace Go.Proofs.YtcpnobhdogpfiaaDoor
set_option maxRecDepth 20000
open Go.RowKit Go.Px
set_option linter.unusedVariables false

abbrev shp (b z : Int) : Value := .agg #[.int .i64 b, .int .i64 z]
def shE (b z : Int) : Int := if (1 ≤ b ∧ b ≤ 4096) ∧ 1 ≤ z ∧ z ≤ 4096 then 0 else 40
def fmP (k : Nat) (p n : Int) (d o : Nat) : Prop := ((0 ≤ p ∧ p ≤ 2147483647) ∧ (0 ≤ n ∧ n ≤ 2147483647) ∧ d ≤ 262144 ∧ o ≤ 4096) ∧ ((k = 4 ∧ p = 0 ∧ n = 0 ∧ d = 0 ∧ o = 0) ∨ ((k = 1 ∨ k = 3) ∧ d = 0 ∧ o = 0) ∨ (k = 2 ∧ o = 0) ∨ (k = 5 ∧ n = 0))
instance (k : Nat) (p n : Int) (d o : Nat) : Decidable (fmP k p n d o) := by unfold fmP; infer_instance
def fmE (k : Nat) (p n : Int) (d o : Nat) : Int := if fmP k p n d o then 0 else 41
theorem sh_yes {b z : Int} (h : (1 ≤ b ∧ b ≤ 4096) ∧ 1 ≤ z ∧ z ≤ 4096) : Ending.returned (.int .i64 0) = .returned (.int .i64 (shE b z)) := by unfold shE; rw [if_pos h]
theorem sh_no {b z : Int} (h : ¬ ((1 ≤ b ∧ b ≤ 4096) ∧ 1 ≤ z ∧ z ≤ 4096)) : Ending.returned (.int .i64 40) = .returned (.int .i64 (shE b z)) := by unfold shE; rw [if_neg h]

set_option maxHeartbeats 400000 in
theorem shape_any (b z : Int) (w : World) : Calls Tryd.prog 69 #[shp b z] w fun e w' => e = .returned (.int .i64 (shE b z)) ∧ Below w.heap.size w w' := by
  have hb0 : Below w.heap.size w (w.alloc (.cells #[.int .i64 b, .int .i64 z] 41)) := (Below.refl _ _).alloc (Nat.le_refl _) _
  go_enter Tryd.func69, Tryd.ntmps69
  go_wp2
  all_goals
    go_ret
    refine ⟨?_, hb0⟩
    first | exact sh_yes (by omega) | exact sh_no (by omega)
set_option maxHeartbeats 400000 in
theorem rshape_any (b z : Int) (w : World) : Calls Tryd.prog 60 #[shp b z] w fun e w' => e = .returned (.int .i64 (shE b z)) ∧ Below w.heap.size w w' := by
  have hb0 : Below w.heap.size w (w.alloc (.cells #[.int .i64 b, .int .i64 z] 41)) := (Below.refl _ _).alloc (Nat.le_refl _) _
  go_enter Tryd.func60, Tryd.ntmps60
  go_wp2
  all_goals
    go_ret
    refine ⟨?_, hb0⟩
    first | exact sh_yes (by omega) | exact sh_no (by omega)
end Go.Proofs.YtcpnobhdogpfiaaDoor
namespace Go.Proofs.YtcpnobhdogpfiaaDoor
set_option maxRecDepth 20000
open Go.RowKit Go.Px
set_option linter.unusedVariables false
set_option linter.unusedSimpArgs false

abbrev resv (k : Nat) (D : Option Addr) (d dc : Nat) : Value := .agg #[.int .u8 k, .slice D d dc]
def rsP (k d : Nat) : Prop := ((k = 2 ∨ k = 3) ∧ d = 0) ∨ ((k = 1 ∨ k = 4) ∧ d ≤ 262144)
instance (k d : Nat) : Decidable (rsP k d) := by unfold rsP; infer_instance
def rsE (k d : Nat) : Int := if rsP k d then 0 else 42
theorem rs_yes {k d : Nat} (h : rsP k d) : Ending.returned (.int .i64 0) = .returned (.int .i64 (rsE k d)) := by unfold rsE; rw [if_pos h]
theorem rs_no {k d : Nat} (h : ¬ rsP k d) : Ending.returned (.int .i64 42) = .returned (.int .i64 (rsE k d)) := by unfold rsE; rw [if_neg h]

set_option maxHeartbeats 800000 in
theorem result_any (k : Nat) (D : Option Addr) (d dc : Nat) (w : World) (hk : k < 256) : Calls Tryd.prog 82 #[resv k D d dc] w fun e w' => e = .returned (.int .i64 (rsE k d)) ∧ Below w.heap.size w w' := by
  obtain rfl | rfl | rfl | rfl | ⟨k1, k2, k3, k4⟩ : k = 2 ∨ k = 3 ∨ k = 1 ∨ k = 4 ∨ (k ≠ 2 ∧ k ≠ 3 ∧ k ≠ 1 ∧ k ≠ 4) := by omega
  rotate_left 4
  have e1 : ((k : Int) == 2) = false := by simp; omega
  have e2 : ((k : Int) == 3) = false := by simp; omega
  have e3 : ((k : Int) == 1) = false := by simp; omega
  have e4 : ((k : Int) == 4) = false := by simp; omega
  have Kn := hide (And.intro k1 (And.intro k2 (And.intro k3 k4)))
  clear k1 k2 k3 k4
  rotate_right 4
  all_goals
    go_enter Tryd.func82, Tryd.ntmps82
    go_wp2
    all_goals
      go_ret
      refine ⟨?_, (Below.refl _ _).alloc (Nat.le_refl _) _⟩
      (try simp only [Bool.not_eq_true', Bool.not_eq_false', beq_iff_eq, beq_eq_false_iff_ne, ne_eq, decide_eq_true_eq, decide_eq_false_iff_not] at *)
      first | exact rs_yes (by unfold rsP; omega) | exact rs_no (by unfold rsP; omega) | exact rs_no (by have := Kn.out; unfold rsP; omega)
set_option maxHeartbeats 800000 in
theorem rresult_any (k : Nat) (D : Option Addr) (d dc : Nat) (w : World) (hk : k < 256) : Calls Tryd.prog 76 #[resv k D d dc] w fun e w' => e = .returned (.int .i64 (rsE k d)) ∧ Below w.heap.size w w' := by
  obtain rfl | rfl | rfl | rfl | ⟨k1, k2, k3, k4⟩ : k = 2 ∨ k = 3 ∨ k = 1 ∨ k = 4 ∨ (k ≠ 2 ∧ k ≠ 3 ∧ k ≠ 1 ∧ k ≠ 4) := by omega
  rotate_left 4
  have e1 : ((k : Int) == 2) = false := by simp; omega
  have e2 : ((k : Int) == 3) = false := by simp; omega
  have e3 : ((k : Int) != 1) = true := by simp; omega
  have e4 : ((k : Int) != 4) = true := by simp; omega
  rotate_right 4
  all_goals
    go_enter Tryd.func76, Tryd.ntmps76
    go_wp2
    all_goals
      go_ret
      refine ⟨?_, (Below.refl _ _).alloc (Nat.le_refl _) _⟩
      (try simp only [Bool.not_eq_true', Bool.not_eq_false', beq_iff_eq, beq_eq_false_iff_ne, ne_eq] at *)
      first | exact rs_yes (by unfold rsP; omega) | exact rs_no (by unfold rsP; omega)
/-! ### Same -/
end Go.Proofs.YtcpnobhdogpfiaaDoor
namespace Go.Proofs.YtcpnobhdogpfiaaDoor
set_option maxRecDepth 20000
open Go.RowKit Go.Px
set_option linter.unusedVariables false
set_option linter.unusedSimpArgs false

theorem fmE_two (k : Nat) (p n : Int) (d o : Nat) : fmP k p n d o ∧ fmE k p n d o = 0 ∨ fmE k p n d o = 41 := by
  unfold fmE; split
  · exact .inl ⟨‹_›, rfl⟩
  · exact .inr rfl
def ftE (b z : Int) (k : Nat) (p n : Int) (d o : Nat) : Int := if shE b z ≠ 0 then shE b z else fmE k p n d o
def ftC (b z : Int) (k : Nat) (p n : Int) (d o : Nat) : Int :=
  if ftE b z k p n d o ≠ 0 then 0 else if k = 4 then 1 else if k = 5 then (if b ≤ p then 2 else if (d : Int) ≠ z ∨ (o : Int) ≠ z then 3 else 1)
  else if n < 1 ∨ 64 < n ∨ b < p + n then 2 else if k = 2 ∧ (d : Int) ≠ n * z then 3 else 1
end Go.Proofs.YtcpnobhdogpfiaaDoor
namespace Go.Proofs.YtcpnobhdogpfiaaDoor
set_option maxRecDepth 20000
open Go.RowKit Go.Px Go.ChangeShapes Go.WideShapes Go.ChangeAt Go.Joins Go.Deep
set_option linter.unusedVariables false
variable {H : Type} {enc : TypeId × Value → H}
/-- A request in memory, at an address. -/
def OpAt (w : World) (a : Addr) : Prop := ∃ (k : Nat) (p n : Int) (D : Option Addr) (d dc : Nat) (ds : List UInt8) (O : Option Addr) (o oc : Nat) (os : List UInt8), k < 256 ∧
  w.cell? a = some (.int .u8 k) ∧ w.cell? ⟨a.block, a.off + 1, none⟩ = some (.int .i64 p) ∧ w.cell? ⟨a.block, a.off + 2, none⟩ = some (.int .i64 n) ∧ w.cell? ⟨a.block, a.off + 3, none⟩ = some (.slice D d dc) ∧ w.cell? ⟨a.block, a.off + 4, none⟩ = some (.slice O o oc) ∧
  ds.length = d ∧ os.length = o ∧ Rd w D (bys ds) ∧ Rd w O (bys os)
theorem cell_below {w w' : World} (hb : Below w.heap.size w w') {a : Addr} {u : Value} (h : w.cell? a = some u) : w'.cell? a = some u := (hb.cell (p := a) (World.block_lt_of_cell? w _ h)).trans h
theorem OpAt.below {w w' : World} {a : Addr} (h : OpAt w a) (hb : Below w.heap.size w w') : OpAt w' a := by
  obtain ⟨k, p, n, D, d, dc, ds, O, o, oc, os, h0, h1, h2, h3, h4, h5, h6, h7, h8, h9⟩ := h
  exact ⟨k, p, n, D, d, dc, ds, O, o, oc, os, h0, cell_below hb h1, cell_below hb h2, cell_below hb h3, cell_below hb h4, cell_below hb h5, h6, h7, h8.below hb, h9.below hb⟩
/-- A row of n steps (of seven cells each). -/
def Stps (w : World) (A : Option Addr) (n : Nat) : Prop := ∀ i, i < n → ∃ a, A = some a ∧ OpAt w (a.add (i * 7))
theorem Stps.below {w w' : World} {A : Option Addr} {n : Nat} (h : Stps w A n) (hb : Below w.heap.size w w') : Stps w' A n := fun i hi => by
  obtain ⟨a, rfl, h1⟩ := h i hi
  exact ⟨a, rfl, h1.below hb⟩
end Go.Proofs.YtcpnobhdogpfiaaDoor
namespace Go.Px
set_option maxRecDepth 20000
/-- Members ascend, from behind a on, and are below 64. -/
def nodesOk : Int → List Int → Bool
  | _, [] => true
  | a, m :: l => decide (a < m) && (decide (m < 64) && nodesOk m l)
def numB (v : Int) : Bool := decide (0 ≤ v ∧ v ≤ 4611686018427387904)
def nodeB (v : Int) : Bool := decide (0 ≤ v ∧ v < 64)
def grpOk (e : Int) (ms : List Int) : Bool := decide (0 ≤ e ∧ e ≤ 4611686018427387904) && (decide (1 ≤ ms.length ∧ ms.length ≤ 9) && nodesOk (-1) ms)
theorem nodesOk_step {a : Int} {ms : List Int} {k : Nat} (h : k < ms.length) : nodesOk a (ms.drop k) = (decide (a < ms[k]) && (decide (ms[k] < 64) && nodesOk ms[k] (ms.drop (k + 1)))) := by
  rw [List.drop_eq_getElem_cons h]; rfl
theorem nodesOk_bad {a : Int} {ms : List Int} {k : Nat} (h : k < ms.length) (hb : ms[k] ≤ a ∨ 64 ≤ ms[k]) : nodesOk a (ms.drop k) = false := by
  rw [nodesOk_step h]
  rcases hb with hb | hb
  · rw [decide_eq_false (by omega)]; rfl
  · rw [decide_eq_false (show ¬ ms[k] < 64 by omega)]; simp
theorem nodesOk_good {a : Int} {ms : List Int} {k : Nat} (h : k < ms.length) (h1 : a < ms[k]) (h2 : ms[k] < 64) : nodesOk a (ms.drop k) = nodesOk ms[k] (ms.drop (k + 1)) := by
  rw [nodesOk_step h, decide_eq_true h1, decide_eq_true h2]; rfl
theorem nodesOk_end {a : Int} {ms : List Int} {k : Nat} (h : ms.length ≤ k) : nodesOk a (ms.drop k) = true := by
  rw [List.drop_eq_nil_of_le h]; rfl
/-- The one ahead of place k. -/
def prevI (ms : List Int) (k : Nat) : Int := if k = 0 then -1 else ms.getD (k - 1) 0
end Go.Px
namespace Go.Proofs.YtcpnobhdogpfiaaDoor
set_option maxRecDepth 20000
open Go.RowKit Go.Px
set_option linter.unusedVariables false

theorem number_any (v : Int) (w : World) : Calls Tryd.prog 68 #[.int .i64 v] w fun e w' => e = .returned (.bool (numB v)) ∧ w = w' := by
  by_cases h1 : 0 ≤ v
  · by_cases h2 : v ≤ 4611686018427387904
    · have H := hide (show numB v = true from decide_eq_true ⟨h1, h2⟩)
      go_enter Tryd.func68, Tryd.ntmps68
      go_wp2
      go_ret
      exact ⟨by rw [H.out]; rfl, rfl⟩
    · have H := hide (show numB v = false from decide_eq_false (by omega))
      go_enter Tryd.func68, Tryd.ntmps68
      go_wp2
      go_ret
      exact ⟨by rw [H.out]; rfl, rfl⟩
  · have H := hide (show numB v = false from decide_eq_false (by omega))
    go_enter Tryd.func68, Tryd.ntmps68
    go_wp2
    go_ret
    exact ⟨by rw [H.out]; rfl, rfl⟩
theorem node_any (v : Int) (w : World) : Calls Tryd.prog 83 #[.int .i64 v] w fun e w' => e = .returned (.bool (nodeB v)) ∧ w = w' := by
  by_cases h1 : 0 ≤ v
  · by_cases h2 : v < 64
    · have H := hide (show nodeB v = true from decide_eq_true ⟨h1, h2⟩)
      go_enter Tryd.func83, Tryd.ntmps83
      go_wp2
      go_ret
      exact ⟨by rw [H.out]; rfl, rfl⟩
    · have H := hide (show nodeB v = false from decide_eq_false (by omega))
      go_enter Tryd.func83, Tryd.ntmps83
      go_wp2
      go_ret
      exact ⟨by rw [H.out]; rfl, rfl⟩
  · have H := hide (show nodeB v = false from decide_eq_false (by omega))
    go_enter Tryd.func83, Tryd.ntmps83
    go_wp2
    go_ret
    exact ⟨by rw [H.out]; rfl, rfl⟩

abbrev grp (e : Int) (A : Option Addr) (n c : Nat) : Value := .agg #[.int .i64 e, .slice A n c]

set_option maxHeartbeats 800000 in
theorem mgroup_any (e : Int) (A : Option Addr) (n c : Nat) (ms : List Int) (w : World) (hn : ms.length = n) (hr : Rd w A (ints ms)) :
    Calls Tryd.prog 72 #[grp e A n c] w fun x w' => x = .returned (.bool (grpOk e ms)) ∧ Below w.heap.size w w' := by
  have Hn := hide hn
  have hb0 : Below w.heap.size w (w.alloc (.cells #[.int .i64 e, .slice A n c] 46)) := (Below.refl _ _).alloc (Nat.le_refl _) _
  by_cases h1 : 0 ≤ e ∧ e ≤ 4611686018427387904
  · have HD := hide (show numB e = true from decide_eq_true h1)
    by_cases h2 : 1 ≤ n
    · by_cases h3 : n ≤ 9
      · have HG := hide (show grpOk e ms = nodesOk (-1) ms by unfold grpOk; rw [decide_eq_true h1, decide_eq_true (show 1 ≤ ms.length ∧ ms.length ≤ 9 by omega)]; rfl)
        have hrb := hr.below hb0
        clear hn h1
        go_enter Tryd.func72, Tryd.ntmps72
        go_wp2_with fail
        go_fit (number_any e _)
        rw [HD.out]
        rintro x w' ⟨rfl, rfl⟩
        go_wp2
        go_loop [3, 25] (fun a i => ∃ (k : Nat) (z : Int), k ≤ n ∧ i = .int .i64 k ∧ a = .int .i64 z ∧ -1 ≤ z ∧ z < 64 ∧ Hid (nodesOk (-1) ms = nodesOk z (ms.drop k))) (fun _ i => n - (intOf i).toNat)
        case atStart => exact ⟨0, -1, by omega, rfl, rfl, by omega, by omega, by rw [List.drop_zero]; exact hide rfl⟩
        case round =>
          obtain ⟨k, z, hk, rfl, rfl, hz, hz2, hN⟩ := hrel
          by_cases hlt : k < n
          · have hkl : k < ms.length := by rw [Hn.out]; exact hlt
            obtain ⟨a, ha, hc⟩ := hrb k _ (ints_get hkl)
            obtain ⟨y, hy⟩ : ∃ y, ms[k] = y := ⟨_, rfl⟩
            rw [hy] at hc
            subst ha
            by_cases hb : y ≤ z
            · have HF := hide (hN.out.trans (nodesOk_bad hkl (.inl (by rw [hy]; exact hb))))
              clear hy
              go_wp2
              go_ret
              exact ⟨by rw [HG.out, HF.out]; rfl, hb0⟩
            · have hy0 : 0 ≤ y := by omega
              by_cases hb2 : y < 64
              · have HF := hide (hN.out.trans (nodesOk_good hkl (by rw [hy]; omega) (by rw [hy]; exact hb2)))
                rw [hy] at HF
                have HD2 := hide (show nodeB y = true from decide_eq_true ⟨hy0, hb2⟩)
                clear hy
                go_wp2_with fail
                go_fit (node_any y _)
                rw [HD2.out]
                rintro x w' ⟨rfl, rfl⟩
                go_wp2
                go_round
                case rel => exact ⟨k + 1, y, by omega, by go_num, rfl, by omega, by omega, HF⟩
                case measure => simp [intOf]; omega
              · have HF := hide (hN.out.trans (nodesOk_bad hkl (.inr (by rw [hy]; omega))))
                have HD2 := hide (show nodeB y = false from decide_eq_false (by omega))
                clear hy
                go_wp2_with fail
                go_fit (node_any y _)
                rw [HD2.out]
                rintro x w' ⟨rfl, rfl⟩
                go_wp2
                go_ret
                exact ⟨by rw [HG.out, HF.out]; rfl, hb0⟩
          · have HF := hide (hN.out.trans (nodesOk_end (show ms.length ≤ k by rw [Hn.out]; omega)))
            go_wp2
            go_ret
            exact ⟨by rw [HG.out, HF.out]; rfl, hb0⟩
      · have HG := hide (show grpOk e ms = false by unfold grpOk; rw [decide_eq_false (show ¬ (1 ≤ ms.length ∧ ms.length ≤ 9) by omega)]; simp)
        clear hn h1
        go_enter Tryd.func72, Tryd.ntmps72
        go_wp2_with fail
        go_fit (number_any e _)
        rw [HD.out]
        rintro x w' ⟨rfl, rfl⟩
        go_wp2
        go_ret
        exact ⟨by rw [HG.out]; rfl, hb0⟩
    · have HG := hide (show grpOk e ms = false by unfold grpOk; rw [decide_eq_false (show ¬ (1 ≤ ms.length ∧ ms.length ≤ 9) by omega)]; simp)
      obtain rfl : n = 0 := by omega
      clear hn h1 h2
      go_enter Tryd.func72, Tryd.ntmps72
      go_wp2_with fail
      go_fit (number_any e _)
      rw [HD.out]
      rintro x w' ⟨rfl, rfl⟩
      go_wp2
      go_ret
      exact ⟨by rw [HG.out]; rfl, hb0⟩
  · have HD := hide (show numB e = false from decide_eq_false h1)
    have HG := hide (show grpOk e ms = false by unfold grpOk; rw [decide_eq_false h1]; rfl)
    clear hn h1
    go_enter Tryd.func72, Tryd.ntmps72
    go_wp2_with fail
    go_fit (number_any e _)
    rw [HD.out]
    rintro x w' ⟨rfl, rfl⟩
    go_wp2
    go_ret
    exact ⟨by rw [HG.out]; rfl, hb0⟩
end Go.Proofs.YtcpnobhdogpfiaaDoor
