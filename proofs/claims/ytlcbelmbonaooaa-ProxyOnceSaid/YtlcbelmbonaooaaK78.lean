/- Texts joined (shake.py). -/
import Derived.IntWalk
import Derived.Deep.QuietTactic
import Derived.BigQuiet
import Derived.Deep.DeepFit
import Derived.Test.YtlcbelmbonaooaaK72
import Derived.Test.YtlcbelmbonaooaaK73
import Derived.Test.YtlcbelmbonaooaaK74
namespace Go.Proofs.Ytlcbelmbonaooaa
set_option maxRecDepth 20000
open Go.RowKit Go.Px
set_option linter.unusedVariables false

def gE (e : Int) (ms : List Int) : Int := if grpOk e ms = true then 0 else 71
theorem gE_ok {e : Int} {ms : List Int} (h : grpOk e ms = true) : gE e ms = 0 := if_pos h
theorem gE_bad {e : Int} {ms : List Int} (h : grpOk e ms = false) : gE e ms = 71 := if_neg (by rw [h]; decide)

set_option maxHeartbeats 800000 in
theorem rgroup_any (e : Int) (A : Option Addr) (n c : Nat) (ms : List Int) (w : World) (hn : ms.length = n) (hr : Rd w A (ints ms)) :
    Calls Try.prog 59 #[grp e A n c] w fun x w' => x = .returned (.int .i64 (gE e ms)) ∧ Below w.heap.size w w' := by
  have Hn := hide hn
  have hb0 : Below w.heap.size w (w.alloc (.cells #[.int .i64 e, .slice A n c] 24)) := (Below.refl _ _).alloc (Nat.le_refl _) _
  by_cases h1 : 0 ≤ e ∧ e ≤ 4611686018427387904
  · obtain ⟨he1, he2⟩ := h1
    by_cases h2 : 1 ≤ n
    · by_cases h3 : n ≤ 9
      · have HG := hide (show grpOk e ms = nodesOk (-1) ms by unfold grpOk; rw [decide_eq_true (show 0 ≤ e ∧ e ≤ 4611686018427387904 from ⟨he1, he2⟩), decide_eq_true (show 1 ≤ ms.length ∧ ms.length ≤ 9 by omega)]; rfl)
        have hrb := hr.below hb0
        have hB := Blk.new w [.int .i64 e, .slice A n c] 24
        obtain ⟨g, hg⟩ : ∃ g, w.heap.size = g := ⟨_, rfl⟩
        obtain ⟨W0, hW0⟩ : ∃ W, w.alloc (.cells #[.int .i64 e, .slice A n c] 24) = W := ⟨_, rfl⟩
        rw [show (#[Value.int .i64 e, .slice A n c] : Array Value) = [Value.int .i64 e, .slice A n c].toArray from rfl] at hW0
        rw [hW0] at hrb hB hb0
        rw [hg] at hB hb0
        have k0 := hB.cell (j := 0) rfl
        have k1 := hB.cell (j := 1) rfl
        clear hn
        go_enter Try.func59, Try.ntmps59
        go_wp2
        go_loopw [3] (fun i wr => ∃ (k : Nat) (z : Int), k ≤ n ∧ i = .int .i64 k ∧ -1 ≤ z ∧ Hid (z = prevI ms k) ∧ Hid (nodesOk (-1) ms = nodesOk z (ms.drop k)) ∧ Below W0.heap.size W0 wr) (fun i _ => n - (intOf i).toNat)
        case atStart => exact ⟨0, -1, by omega, rfl, by omega, hide rfl, by rw [List.drop_zero]; exact hide rfl, by first | exact Below.refl _ _ | (rw [← hW0]; exact Below.refl _ _)⟩
        case round =>
          obtain ⟨k, z, hk, rfl, hz, hzp, hN, hbw⟩ := hrel
          have hBr := hB.below hbw
          have hr0 := hrb.below hbw
          have g0 := hBr.cell (j := 0) rfl
          have g1 := hBr.cell (j := 1) rfl
          have hbX : Below w.heap.size w wr := by rw [hg]; exact hb0.trans (hbw.mono (Nat.le_of_lt hB.lt))
          by_cases hlt : k < n
          · have hkl : k < ms.length := by rw [Hn.out]; exact hlt
            obtain ⟨a, ha, hc⟩ := hr0 k _ (ints_get hkl)
            obtain ⟨y, hy⟩ : ∃ y, ms[k] = y := ⟨_, rfl⟩
            rw [hy] at hc
            subst ha
            by_cases hy0 : y < 0
            · have HF := hide (gE_bad (HG.out.trans (hN.out.trans (nodesOk_bad hkl (.inl (by rw [hy]; omega))))))
              clear hy
              go_wp2
              go_quiet (fail)
              all_goals
                go_wp2
                go_ret
                exact ⟨by rw [HF.out]; rfl, below_drewN hbX _⟩
            · have hy0' : 0 ≤ y := by omega
              have d0 : decide (y < 0) = false := decide_eq_false hy0
              by_cases hy6 : 64 ≤ y
              · have HF := hide (gE_bad (HG.out.trans (hN.out.trans (nodesOk_bad hkl (.inr (by rw [hy]; omega))))))
                have d6 : decide (64 ≤ y) = true := decide_eq_true hy6
                clear hy hy0
                go_wp2
                go_quiet (fail)
                all_goals
                  go_wp2
                  go_ret
                  exact ⟨by rw [HF.out]; rfl, below_drewN hbX _⟩
              · have hy6' : y < 64 := by omega
                have d6 : decide (64 ≤ y) = false := decide_eq_false hy6
                rcases k with _ | k
                · rw [show a.add 0 = a from rfl] at hc
                  have hz1 : z = -1 := hzp.out
                  have HF := hide (hN.out.trans (nodesOk_good hkl (by rw [hy, hz1]; omega) (by rw [hy]; exact hy6')))
                  rw [hy] at HF
                  have HP := hide (show y = prevI ms (0 + 1) by
                    unfold prevI; rw [if_neg (by omega), List.getD_eq_getElem?_getD, List.getElem?_eq_getElem hkl, hy]; rfl)
                  clear hy hy0 hy6 hy6'
                  go_wp2
                  go_quiet (fail)
                  all_goals
                    go_wp2
                    go_roundw
                    case rel => exact ⟨1, y, by omega, rfl, by omega, HP, HF, below_drewN hbw _⟩
                    case measure => simp [intOf]; omega
                · have hkl1 : k < ms.length := by omega
                  obtain ⟨a1, ha1, hc1⟩ := hr0 k _ (ints_get hkl1)
                  obtain ⟨p, hp⟩ : ∃ p, ms[k] = p := ⟨_, rfl⟩
                  injection ha1 with ha1
                  subst ha1
                  rw [hp] at hc1
                  have hcS : wr.cell? ⟨a.block, a.off + (k + 1), none⟩ = some (.int .i64 y) := by
                    unfold Addr.add at hc
                    rwa [if_neg (by omega)] at hc
                  clear hc
                  have hzp' : z = p := by
                    rw [hzp.out]; unfold prevI; rw [if_neg (by omega), List.getD_eq_getElem?_getD, show k + 1 - 1 = k by omega, List.getElem?_eq_getElem hkl1, hp]; rfl
                  have q1 : IntKind.i64.wrap (((k + 1 : Nat) : Int) - 1) = (k : Int) := by rw [IntWalk.i64_in _ (by omega)]; omega
                  have q2 : ((k + 1 : Nat) : Int) > 0 := by omega
                  have q3 : decide (((k + 1 : Nat) : Int) > 0) = true := decide_eq_true q2
                  by_cases hyz : y ≤ p
                  · have HF := hide (gE_bad (HG.out.trans (hN.out.trans (nodesOk_bad hkl (.inl (by rw [hy, hzp']; exact hyz))))))
                    have d7 : decide (y ≤ p) = true := decide_eq_true hyz
                    clear hy hp hzp' hy0 hy6 hy6' hyz q2
                    go_wp2
                    go_quiet (fail)
                    all_goals
                      go_wp2
                      go_ret
                      exact ⟨by rw [HF.out]; rfl, below_drewN hbX _⟩
                  · have HF := hide (hN.out.trans (nodesOk_good hkl (by rw [hy, hzp']; omega) (by rw [hy]; exact hy6')))
                    rw [hy] at HF
                    have HP := hide (show y = prevI ms (k + 1 + 1) by
                      unfold prevI; rw [if_neg (by omega), List.getD_eq_getElem?_getD, show k + 1 + 1 - 1 = k + 1 by omega, List.getElem?_eq_getElem hkl, hy]; rfl)
                    have d7 : decide (y ≤ p) = false := decide_eq_false hyz
                    clear hy hp hzp' hy0 hy6 hy6' hyz q2
                    go_wp2
                    go_quiet (fail)
                    all_goals
                      go_wp2
                      go_roundw
                      case rel => exact ⟨k + 1 + 1, y, by omega, by go_num, by omega, HP, HF, below_drewN hbw _⟩
                      case measure => simp [intOf]; omega
          · have HF := hide (hN.out.trans (nodesOk_end (show ms.length ≤ k by rw [Hn.out]; omega)))
            have hE := hide (gE_ok (HG.out.trans HF.out))
            go_wp2
            go_ret
            exact ⟨by rw [hE.out]; rfl, hbX⟩
      · have HG := hide (gE_bad (show grpOk e ms = false by unfold grpOk; rw [decide_eq_false (show ¬ (1 ≤ ms.length ∧ ms.length ≤ 9) by omega)]; simp))
        clear hn
        go_enter Try.func59, Try.ntmps59
        go_wp2
        go_ret
        exact ⟨by rw [HG.out]; rfl, hb0⟩
    · have HG := hide (gE_bad (show grpOk e ms = false by unfold grpOk; rw [decide_eq_false (show ¬ (1 ≤ ms.length ∧ ms.length ≤ 9) by omega)]; simp))
      obtain rfl : n = 0 := by omega
      clear hn h2
      go_enter Try.func59, Try.ntmps59
      go_wp2
      go_ret
      exact ⟨by rw [HG.out]; rfl, hb0⟩
  · have HG := hide (gE_bad (show grpOk e ms = false by unfold grpOk; rw [decide_eq_false h1]; rfl))
    clear hn
    by_cases he : e < 0
    · clear h1
      go_enter Try.func59, Try.ntmps59
      go_wp2
      go_ret
      exact ⟨by rw [HG.out]; rfl, hb0⟩
    · have he1 : 0 ≤ e := by omega
      have he2 : 4611686018427387904 < e := by omega
      clear h1
      go_enter Try.func59, Try.ntmps59
      go_wp2
      go_ret
      exact ⟨by rw [HG.out]; rfl, hb0⟩
end Go.Proofs.Ytlcbelmbonaooaa
namespace Go.Proofs.Ytlcbelmbonaooaa
set_option maxRecDepth 20000
open Go.RowKit Go.Px
set_option linter.unusedVariables false

set_option maxHeartbeats 400000 in
theorem gcheck_any (e : Int) (A : Option Addr) (n c : Nat) (ms : List Int) (w : World) (hn : ms.length = n) (hr : Rd w A (ints ms)) :
    Calls Try.prog 91 #[grp e A n c] w fun x w' => x = .returned (.int .i64 (chkE e ms)) ∧ Below w.heap.size w w' := by
  have hb0 : Below w.heap.size w (w.alloc (.cells #[.int .i64 e, .slice A n c] 24)) := (Below.refl _ _).alloc (Nat.le_refl _) _
  have Hn := hide hn
  clear hn
  rcases bool_two (grpOk e ms) with hg | hg
  · have HE := hide (chk_ok hg)
    have Hg := hide hg
    clear hg
    go_enter Try.func91, Try.ntmps91
    go_wp2_with fail
    go_fit (mgroup_any e A n c ms _ Hn.out (hr.below hb0))
    rw [Hg.out]
    rintro x w1 ⟨rfl, hb1⟩
    go_wp2
    go_ret
    exact ⟨by rw [HE.out]; rfl, hb0.trans (hb1.mono hb0.size)⟩
  · have HE := hide (chk_bad hg)
    have Hg := hide hg
    clear hg
    go_enter Try.func91, Try.ntmps91
    go_wp2_with fail
    go_fit (mgroup_any e A n c ms _ Hn.out (hr.below hb0))
    rw [Hg.out]
    rintro x w1 ⟨rfl, hb1⟩
    go_wp2
    go_ret
    exact ⟨by rw [HE.out]; rfl, hb0.trans (hb1.mono hb0.size)⟩
set_option maxHeartbeats 400000 in
theorem rcheck_any (e : Int) (A : Option Addr) (n c : Nat) (ms : List Int) (w : World) (hn : ms.length = n) (hr : Rd w A (ints ms)) :
    Calls Try.prog 38 #[grp e A n c] w fun x w' => x = .returned (.int .i64 (chkE e ms)) ∧ Below w.heap.size w w' := by
  have hb0 : Below w.heap.size w (w.alloc (.cells #[.int .i64 e, .slice A n c] 24)) := (Below.refl _ _).alloc (Nat.le_refl _) _
  have Hn := hide hn
  clear hn
  rcases bool_two (grpOk e ms) with hg | hg
  · have HE := hide (chk_ok hg)
    have Hg := hide (gE_ok hg)
    clear hg
    go_enter Try.func38, Try.ntmps38
    go_wp2_with fail
    go_fit (rgroup_any e A n c ms _ Hn.out (hr.below hb0))
    rw [Hg.out]
    rintro x w1 ⟨rfl, hb1⟩
    go_wp2
    go_ret
    exact ⟨by rw [HE.out]; rfl, hb0.trans (hb1.mono hb0.size)⟩
  · have HE := hide (chk_bad hg)
    have Hg := hide (gE_bad hg)
    clear hg
    go_enter Try.func38, Try.ntmps38
    go_wp2_with fail
    go_fit (rgroup_any e A n c ms _ Hn.out (hr.below hb0))
    rw [Hg.out]
    rintro x w1 ⟨rfl, hb1⟩
    go_wp2
    go_ret
    exact ⟨by rw [HE.out]; rfl, hb0.trans (hb1.mono hb0.size)⟩
def lfew (n : Nat) : Nat := if n ≤ 100 then n else 100
theorem lfew_le (n : Nat) : lfew n ≤ n ∧ lfew n ≤ 100 := by unfold lfew; split <;> omega
theorem lfew_len (ms : List Int) : (ms.take 100).length = lfew ms.length := by unfold lfew; rw [List.length_take]; split <;> omega
theorem ints_take (l : List Int) (k : Nat) : ints (l.take k) = (ints l).take k := by simp [ints]
theorem lfew_rd {w : World} {A : Option Addr} {ms : List Int} (h : Rd w A (ints ms)) : Rd w A (ints (ms.take 100)) := by rw [ints_take]; exact h.take _
set_option maxHeartbeats 800000 in
theorem prim_any (e : Int) (A : Option Addr) (n c : Nat) (ms : List Int) (v : Int) (w : World) (hn : ms.length = n) (hr : Rd w A (ints ms)) :
    Calls Try.prog 71 #[grp e A n c, .int .i64 v] w fun x w' => x = .returned (.tuple #[.int .i64 (primN e ms v), .int .i64 (primE e ms v)]) ∧ Below w.heap.size w w' := by
  have hB := Blk.new w [.int .i64 e, .slice A n c] 24
  have hb0 : Below w.heap.size w (w.alloc (.cells #[.int .i64 e, .slice A n c] 24)) := (Below.refl _ _).alloc (Nat.le_refl _) _
  have Hn := hide hn
  clear hn
  rcases bool_two (grpOk e ms) with hg | hg
  · have HC := hide (chk_ok hg)
    have hl := grpOk_len hg
    rw [Hn.out] at hl
    by_cases hv : 0 ≤ v ∧ v ≤ 4611686018427387904
    · obtain ⟨hv1, hv2⟩ := hv
      have hE : primE e ms v = 0 := by unfold primE; rw [if_pos hg, if_pos ⟨hv1, hv2⟩]
      have HV := hide (show numB v = true from decide_eq_true ⟨hv1, hv2⟩)
      obtain ⟨j, hj⟩ : ∃ j, v.toNat % n = j := ⟨_, rfl⟩
      have hjn : j < n := by rw [← hj]; exact Nat.mod_lt _ (by omega)
      have hjI : v % (n : Int) = (j : Int) := by rw [← hj, Int.natCast_emod, Int.toNat_of_nonneg hv1]
      have hkl : j < ms.length := by rw [Hn.out]; exact hjn
      obtain ⟨a, rfl, hc⟩ := hr j _ (ints_get hkl)
      obtain ⟨y, hy⟩ : ∃ y, ms[j] = y := ⟨_, rfl⟩
      have HN := hide (show primN e ms v = y by
        unfold primN; rw [if_pos hE, Hn.out, hj, List.getD_eq_getElem?_getD, List.getElem?_eq_getElem hkl, hy]; rfl)
      rw [hy] at hc
      have HE := hide hE
      have HJ := hide hjI
      clear hg hE hy hj hjI
      go_enter Try.func71, Try.ntmps71
      go_wp2_with fail
      go_fit (gcheck_any e _ n c ms _ Hn.out (hr.below hb0))
      rw [HC.out]
      rintro x w1 ⟨rfl, hb1⟩
      have hB1 := hB.below hb1
      have g0 := hB1.cell (j := 0) rfl
      have g1 := hB1.cell (j := 1) rfl
      have hb01 := hb0.trans (hb1.mono hb0.size)
      go_wp2_with fail
      go_fit (number_any v _)
      rw [HV.out]
      rintro x w2 ⟨rfl, rfl⟩
      have hc1 : w1.cell? (a.add j) = some (.int .i64 y) := (hb01.cell (p := a.add j) (World.block_lt_of_cell? w _ hc)).trans hc
      have hjI := HJ.out
      clear hc
      go_wp2
      go_quiet (fail)
      all_goals
        go_wp2
        go_ret2
        exact ⟨by rw [HN.out, HE.out]; rfl, below_drewN hb01 _⟩
    · have hE : primE e ms v = 1 := by unfold primE; rw [if_pos hg, if_neg hv]
      have HV := hide (show numB v = false from decide_eq_false hv)
      have HN := hide (primN_bad (show primE e ms v ≠ 0 by rw [hE]; decide))
      have HE := hide hE
      clear hg hE hv
      go_enter Try.func71, Try.ntmps71
      go_wp2_with fail
      go_fit (gcheck_any e _ n c ms _ Hn.out (hr.below hb0))
      rw [HC.out]
      rintro x w1 ⟨rfl, hb1⟩
      go_wp2_with fail
      go_fit (number_any v _)
      rw [HV.out]
      rintro x w2 ⟨rfl, rfl⟩
      go_wp2
      go_ret2
      exact ⟨by rw [HN.out, HE.out]; rfl, hb0.trans (hb1.mono hb0.size)⟩
  · have HC := hide (chk_bad hg)
    have hE : primE e ms v = 130 := by unfold primE; rw [if_neg (by rw [hg]; decide)]
    have HN := hide (primN_bad (show primE e ms v ≠ 0 by rw [hE]; decide))
    have HE := hide hE
    clear hg hE
    go_enter Try.func71, Try.ntmps71
    go_wp2_with fail
    go_fit (gcheck_any e _ n c ms _ Hn.out (hr.below hb0))
    rw [HC.out]
    rintro x w1 ⟨rfl, hb1⟩
    go_wp2
    go_ret2
    exact ⟨by rw [HN.out, HE.out]; rfl, hb0.trans (hb1.mono hb0.size)⟩
set_option maxHeartbeats 800000 in
theorem rprim_any (e : Int) (A : Option Addr) (n c : Nat) (ms : List Int) (v : Int) (w : World) (hn : ms.length = n) (hr : Rd w A (ints ms)) :
    Calls Try.prog 80 #[grp e A n c, .int .i64 v] w fun x w' => x = .returned (.tuple #[.int .i64 (primN e ms v), .int .i64 (primE e ms v)]) ∧ Below w.heap.size w w' := by
  have hB := Blk.new w [.int .i64 e, .slice A n c] 24
  have hb0 : Below w.heap.size w (w.alloc (.cells #[.int .i64 e, .slice A n c] 24)) := (Below.refl _ _).alloc (Nat.le_refl _) _
  have Hn := hide hn
  clear hn
  rcases bool_two (grpOk e ms) with hg | hg
  · have HC := hide (chk_ok hg)
    have hl := grpOk_len hg
    rw [Hn.out] at hl
    by_cases hv : 0 ≤ v ∧ v ≤ 4611686018427387904
    · obtain ⟨hv1, hv2⟩ := hv
      have hE : primE e ms v = 0 := by unfold primE; rw [if_pos hg, if_pos ⟨hv1, hv2⟩]
      have HV := hide (show numB v = true from decide_eq_true ⟨hv1, hv2⟩)
      obtain ⟨j, hj⟩ : ∃ j, v.toNat % n = j := ⟨_, rfl⟩
      have hjn : j < n := by rw [← hj]; exact Nat.mod_lt _ (by omega)
      have hjI : v % (n : Int) = (j : Int) := by rw [← hj, Int.natCast_emod, Int.toNat_of_nonneg hv1]
      have hkl : j < ms.length := by rw [Hn.out]; exact hjn
      obtain ⟨a, rfl, hc⟩ := hr j _ (ints_get hkl)
      obtain ⟨y, hy⟩ : ∃ y, ms[j] = y := ⟨_, rfl⟩
      have HN := hide (show primN e ms v = y by
        unfold primN; rw [if_pos hE, Hn.out, hj, List.getD_eq_getElem?_getD, List.getElem?_eq_getElem hkl, hy]; rfl)
      rw [hy] at hc
      have HE := hide hE
      have HJ := hide hjI
      clear hg hE hy hj hjI
      go_enter Try.func80, Try.ntmps80
      go_wp2_with fail
      go_fit (rcheck_any e _ n c ms _ Hn.out (hr.below hb0))
      rw [HC.out]
      rintro x w1 ⟨rfl, hb1⟩
      have hB1 := hB.below hb1
      have g0 := hB1.cell (j := 0) rfl
      have g1 := hB1.cell (j := 1) rfl
      have hb01 := hb0.trans (hb1.mono hb0.size)
      have hc1 : w1.cell? (a.add j) = some (.int .i64 y) := (hb01.cell (p := a.add j) (World.block_lt_of_cell? w _ hc)).trans hc
      have hjI := HJ.out
      clear hc
      go_wp2
      go_quiet (fail)
      all_goals
        go_wp2
        go_ret2
        exact ⟨by rw [HN.out, HE.out]; rfl, below_drewN hb01 _⟩
    · have hE : primE e ms v = 1 := by unfold primE; rw [if_pos hg, if_neg hv]
      have HN := hide (primN_bad (show primE e ms v ≠ 0 by rw [hE]; decide))
      have HE := hide hE
      have hv' : v < 0 ∨ 4611686018427387904 < v := by omega
      clear hg hE hv
      go_enter Try.func80, Try.ntmps80
      go_wp2_with fail
      go_fit (rcheck_any e _ n c ms _ Hn.out (hr.below hb0))
      rw [HC.out]
      rintro x w1 ⟨rfl, hb1⟩
      by_cases h0 : v < 0
      · go_wp2
        go_ret2
        exact ⟨by rw [HN.out, HE.out]; rfl, hb0.trans (hb1.mono hb0.size)⟩
      · have h1 : 4611686018427387904 < v := by omega
        clear hv'
        go_wp2
        go_ret2
        exact ⟨by rw [HN.out, HE.out]; rfl, hb0.trans (hb1.mono hb0.size)⟩
  · have HC := hide (chk_bad hg)
    have hE : primE e ms v = 130 := by unfold primE; rw [if_neg (by rw [hg]; decide)]
    have HN := hide (primN_bad (show primE e ms v ≠ 0 by rw [hE]; decide))
    have HE := hide hE
    clear hg hE
    go_enter Try.func80, Try.ntmps80
    go_wp2_with fail
    go_fit (rcheck_any e _ n c ms _ Hn.out (hr.below hb0))
    rw [HC.out]
    rintro x w1 ⟨rfl, hb1⟩
    go_wp2
    go_ret2
    exact ⟨by rw [HN.out, HE.out]; rfl, hb0.trans (hb1.mono hb0.size)⟩
end Go.Proofs.Ytlcbelmbonaooaa
namespace Go.Proofs.Ytlcbelmbonaooaa
set_option maxRecDepth 20000
open Go.RowKit Go.Px
set_option linter.unusedVariables false

def inB (ms : List Int) (v : Int) : Bool := decide (v ∈ ms)
theorem inB_take {ms : List Int} {k : Nat} {v : Int} (h : k < ms.length) (h0 : inB (ms.take k) v = false) (hne : v ≠ ms[k]) : inB (ms.take (k + 1)) v = false := by
  unfold inB at *
  rw [List.take_succ_eq_append_getElem h]
  simp only [decide_eq_false_iff_not] at *
  intro hm
  rcases List.mem_append.1 hm with hm | hm
  · exact h0 hm
  · simp at hm; exact hne hm
theorem inB_here {ms : List Int} {k : Nat} (h : k < ms.length) : inB ms ms[k] = true := by
  unfold inB; exact decide_eq_true (List.getElem_mem h)
theorem inB_all {ms : List Int} {k : Nat} {v : Int} (h : ms.length ≤ k) (h0 : inB (ms.take k) v = false) : inB ms v = false := by
  rwa [List.take_of_length_le h] at h0
def IdxIs (b : Bool) (w : World) (e : Ending) (w' : World) : Prop := ∃ z : Int, e = .returned (.int .i64 z) ∧ decide (0 ≤ z) = b ∧ w = w'

/-! ### equal rows -/
def eqB (a b : List Int) : Bool := decide (a = b)
theorem eqB_len {a b : List Int} (h : a.length ≠ b.length) : eqB a b = false := decide_eq_false (fun e => h (by rw [e]))
theorem eqB_self (a : List Int) : eqB a a = true := decide_eq_true rfl
theorem eqB_ne {a b : List Int} {k : Nat} (ha : k < a.length) (hb : k < b.length) (h : a[k] ≠ b[k]) : eqB a b = false :=
  decide_eq_false (fun e => h (by subst e; rfl))
theorem eq_take {a b : List Int} {k : Nat} (ha : k < a.length) (hb : k < b.length) (h0 : a.take k = b.take k) (h : a[k] = b[k]) : a.take (k + 1) = b.take (k + 1) := by
  rw [List.take_succ_eq_append_getElem ha, List.take_succ_eq_append_getElem hb, h0, h]
theorem eqB_all {a b : List Int} {k : Nat} (ha : a.length ≤ k) (hb : b.length ≤ k) (h0 : a.take k = b.take k) : eqB a b = true := by
  rw [List.take_of_length_le ha, List.take_of_length_le hb] at h0
  exact decide_eq_true h0

set_option maxHeartbeats 800000 in
theorem equal_any (A : Option Addr) (n c : Nat) (xs : List Int) (B : Option Addr) (m d : Nat) (ys : List Int) (w : World) (hn : xs.length = n) (hm : ys.length = m) (h63 : n ≤ 9223372036854775807) (h63' : m ≤ 9223372036854775807) (hr : Rd w A (ints xs)) (hs : Rd w B (ints ys)) :
    Calls Try.prog 60 #[.slice A n c, .slice B m d] w fun e w' => e = .returned (.bool (eqB xs ys)) ∧ Below w.heap.size w w' := by
  by_cases hnm : n = m
  · subst hnm
    have Hn := hide hn
    have Hm := hide hm
    clear hn hm
    go_enter Try.func60, Try.ntmps60
    go_wp2
    go_loopw [13] (fun i wr => ∃ k : Nat, k ≤ n ∧ i = .int .i64 k ∧ Hid (xs.take k = ys.take k) ∧ Below w.heap.size w wr) (fun i _ => n - (intOf i).toNat)
    case atStart => exact ⟨0, by omega, rfl, hide (by simp), Below.refl _ _⟩
    case round =>
      obtain ⟨k, hk, rfl, hN, hbw⟩ := hrel
      by_cases hlt : k < n
      · have hkl : k < xs.length := by rw [Hn.out]; exact hlt
        have hkm : k < ys.length := by rw [Hm.out]; exact hlt
        obtain ⟨a, ha, hc⟩ := hr.below hbw k _ (ints_get hkl)
        obtain ⟨b, hb, hd⟩ := hs.below hbw k _ (ints_get hkm)
        obtain ⟨x, hx⟩ : ∃ x, xs[k] = x := ⟨_, rfl⟩
        obtain ⟨y, hy⟩ : ∃ y, ys[k] = y := ⟨_, rfl⟩
        rw [hx] at hc
        rw [hy] at hd
        subst ha hb
        by_cases hv : x = y
        · have HB := hide (eq_take hkl hkm hN.out (by rw [hx, hy]; exact hv))
          have q1 : (x != y) = false := by simp [hv]
          clear hx hy hv
          go_wp2
          go_quiet (fail)
          all_goals
            go_wp2
            go_roundw
            case rel => exact ⟨k + 1, by omega, by go_num, HB, below_drewN hbw _⟩
            case measure => simp [intOf]; omega
        · have HB := hide (eqB_ne hkl hkm (by rw [hx, hy]; exact hv))
          have q1 : (x != y) = true := by simp [hv]
          clear hx hy hv
          go_wp2
          go_quiet (fail)
          all_goals
            go_wp2
            go_ret
            exact ⟨by rw [HB.out]; rfl, below_drewN hbw _⟩
      · have HB := hide (eqB_all (show xs.length ≤ k by rw [Hn.out]; omega) (show ys.length ≤ k by rw [Hm.out]; omega) hN.out)
        go_wp2
        go_ret
        exact ⟨by rw [HB.out]; rfl, hbw⟩
  · have HB := hide (eqB_len (a := xs) (b := ys) (by rw [hn, hm]; exact hnm))
    have q1 : ((n : Int) != (m : Int)) = true := by simp; omega
    clear hn hm
    go_enter Try.func60, Try.ntmps60
    go_wp2
    go_ret
    exact ⟨by rw [HB.out]; rfl, Below.refl _ _⟩
end Go.Proofs.Ytlcbelmbonaooaa
namespace Go.Proofs.Ytlcbelmbonaooaa
set_option maxRecDepth 20000
open Go.RowKit Go.Px
set_option linter.unusedVariables false

def eqG (e : Int) (xs : List Int) (e' : Int) (ys : List Int) : Bool := (e == e') && eqB xs ys

set_option maxHeartbeats 400000 in
theorem gsame_any (e : Int) (A : Option Addr) (n c : Nat) (xs : List Int) (e' : Int) (B : Option Addr) (m d : Nat) (ys : List Int) (w : World) (hn : xs.length = n) (hm : ys.length = m) (h63 : n ≤ 9223372036854775807) (h63' : m ≤ 9223372036854775807) (hr : Rd w A (ints xs)) (hs : Rd w B (ints ys)) :
    Calls Try.prog 39 #[grp e A n c, grp e' B m d] w fun x w' => x = .returned (.bool (eqG e xs e' ys)) ∧ Below w.heap.size w w' := by
  have hb0 : Below w.heap.size w ((w.alloc (.cells #[.int .i64 e, .slice A n c] 24)).alloc (.cells #[.int .i64 e', .slice B m d] 24)) := ((Below.refl _ _).alloc (Nat.le_refl _) _).alloc (by simp) _
  have HE := hide (equal_any A n c xs B m d ys _ hn hm h63 h63' (hr.below hb0) (hs.below hb0))
  clear hn hm
  rcases bool_two (e == e') with q | q
  · have HQ := hide (show eqG e xs e' ys = eqB xs ys by unfold eqG; rw [q]; rfl)
    go_enter Try.func39, Try.ntmps39
    go_wp2_with fail
    refine HE.out.mono ?_
    rintro x w' ⟨rfl, hb⟩
    go_wp2
    go_ret
    exact ⟨by rw [HQ.out]; rfl, hb0.trans (hb.mono hb0.size)⟩
  · have HQ := hide (show eqG e xs e' ys = false by unfold eqG; rw [q]; rfl)
    go_enter Try.func39, Try.ntmps39
    go_wp2
    go_ret
    exact ⟨by rw [HQ.out]; rfl, hb0⟩

set_option maxHeartbeats 800000 in
theorem rsameg_any (e : Int) (A : Option Addr) (n c : Nat) (xs : List Int) (e' : Int) (B : Option Addr) (m d : Nat) (ys : List Int) (w : World) (hn : xs.length = n) (hm : ys.length = m) (h63 : n ≤ 9223372036854775807) (h63' : m ≤ 9223372036854775807) (hr : Rd w A (ints xs)) (hs : Rd w B (ints ys)) :
    Calls Try.prog 41 #[grp e A n c, grp e' B m d] w fun x w' => x = .returned (.bool (eqG e xs e' ys)) ∧ Below w.heap.size w w' := by
  obtain ⟨g, hg⟩ : ∃ g, w.heap.size = g := ⟨_, rfl⟩
  obtain ⟨g1, hg1⟩ : ∃ x, g + 1 = x := ⟨_, rfl⟩
  obtain ⟨w0, hw0⟩ : ∃ w0, (w.alloc (.cells #[.int .i64 e, .slice A n c] 24)).alloc (.cells #[.int .i64 e', .slice B m d] 24) = w0 := ⟨_, rfl⟩
  have hF : Blk w0 g [.int .i64 e, .slice A n c] 24 := by rw [← hw0, ← hg]; exact (Blk.new w [.int .i64 e, .slice A n c] _).alloc _
  have hG : Blk w0 g1 [.int .i64 e', .slice B m d] 24 := by
    rw [← hw0, ← hg1, ← hg]
    have := Blk.new (w.alloc (.cells #[.int .i64 e, .slice A n c] 24)) [.int .i64 e', .slice B m d] 24
    rwa [World.size_alloc] at this
  have hb0 : Below w.heap.size w w0 := by rw [← hw0]; exact ((Below.refl _ _).alloc (Nat.le_refl _) _).alloc (by simp) _
  have f0 := hF.cell (j := 0) rfl
  have f1 := hF.cell (j := 1) rfl
  have k0 := hG.cell (j := 0) rfl
  have k1 := hG.cell (j := 1) rfl
  have hr0 := hr.below hb0
  have hs0 := hs.below hb0
  rcases bool_two (e == e') with q | q
  · have hee : e = e' := by simpa using q
    subst hee
    have q' : (e != e) = false := by simp
    have HQ := hide (show eqG e xs e ys = eqB xs ys by unfold eqG; rw [q]; rfl)
    clear q
    by_cases hnm : n = m
    · subst hnm
      have Hn := hide hn
      have Hm := hide hm
      clear hn hm
      go_enter Try.func41, Try.ntmps41
      go_wp2
      go_loopw [5] (fun i wr => ∃ k : Nat, k ≤ n ∧ i = .int .i64 k ∧ Hid (xs.take k = ys.take k) ∧ Below w0.heap.size w0 wr) (fun i _ => n - (intOf i).toNat)
      case atStart => exact ⟨0, by omega, rfl, hide (by simp), by first | exact Below.refl _ _ | (rw [← hw0]; exact Below.refl _ _)⟩
      case round =>
        obtain ⟨k, hk, rfl, hN, hbw⟩ := hrel
        have c0 := (hF.below hbw).cell (j := 0) rfl
        have c1 := (hF.below hbw).cell (j := 1) rfl
        have d0 := (hG.below hbw).cell (j := 0) rfl
        have d1 := (hG.below hbw).cell (j := 1) rfl
        have hbX : Below w.heap.size w wr := hb0.trans (hbw.mono hb0.size)
        by_cases hlt : k < n
        · have hkl : k < xs.length := by rw [Hn.out]; exact hlt
          have hkm : k < ys.length := by rw [Hm.out]; exact hlt
          obtain ⟨a, ha, hc⟩ := hr0.below hbw k _ (ints_get hkl)
          obtain ⟨b, hb, hd⟩ := hs0.below hbw k _ (ints_get hkm)
          obtain ⟨x, hx⟩ : ∃ x, xs[k] = x := ⟨_, rfl⟩
          obtain ⟨y, hy⟩ : ∃ y, ys[k] = y := ⟨_, rfl⟩
          rw [hx] at hc
          rw [hy] at hd
          subst ha hb
          by_cases hv : x = y
          · have HB := hide (eq_take hkl hkm hN.out (by rw [hx, hy]; exact hv))
            have q1 : (x != y) = false := by simp [hv]
            clear hx hy hv
            go_wp2
            go_quiet (fail)
            all_goals
              go_wp2
              go_roundw
              case rel => exact ⟨k + 1, by omega, by go_num, HB, below_drewN hbw _⟩
              case measure => simp [intOf]; omega
          · have HB := hide (eqB_ne hkl hkm (by rw [hx, hy]; exact hv))
            have q1 : (x != y) = true := by simp [hv]
            clear hx hy hv
            go_wp2
            go_quiet (fail)
            all_goals
              go_wp2
              go_ret
              exact ⟨by rw [HQ.out, HB.out]; rfl, below_drewN hbX _⟩
        · have HB := hide (eqB_all (show xs.length ≤ k by rw [Hn.out]; omega) (show ys.length ≤ k by rw [Hm.out]; omega) hN.out)
          go_wp2
          go_ret
          exact ⟨by rw [HQ.out, HB.out]; rfl, hbX⟩
    · have HB := hide (eqB_len (a := xs) (b := ys) (by rw [hn, hm]; exact hnm))
      have q1 : ((n : Int) != (m : Int)) = true := by simp; omega
      clear hn hm
      go_enter Try.func41, Try.ntmps41
      go_wp2
      go_ret
      exact ⟨by rw [HQ.out, HB.out]; rfl, hb0⟩
  · have HQ := hide (show eqG e xs e' ys = false by unfold eqG; rw [q]; rfl)
    have q' : (e != e') = true := by simpa using q
    clear q
    go_enter Try.func41, Try.ntmps41
    go_wp2
    go_ret
    exact ⟨by rw [HQ.out]; rfl, hb0⟩

end Go.Proofs.Ytlcbelmbonaooaa
namespace Go.Proofs.Ytlcbelmbonaooaa
set_option maxRecDepth 20000
open Go.RowKit Go.Px
set_option linter.unusedVariables false

def bitsN : List Bool → Nat
  | [] => 0
  | b :: l => b.toNat + 2 * bitsN l
theorem bitsN_lt : ∀ l : List Bool, bitsN l < 2 ^ l.length
  | [] => by simp [bitsN]
  | b :: l => by
    have := bitsN_lt l
    have hb : b.toNat ≤ 1 := by cases b <;> simp
    rw [bitsN, List.length_cons, Nat.pow_succ]; omega
theorem bitsN_or : ∀ (l : List Bool) (i : Nat), i < l.length → bitsN l ||| 2 ^ i = bitsN (l.set i true)
  | [], i, h => by simp at h
  | b :: l, 0, _ => by
    show (b.toNat + 2 * bitsN l) ||| 1 = true.toNat + 2 * bitsN l
    apply Nat.eq_of_testBit_eq
    intro j
    rw [Nat.testBit_or]
    cases j with
    | zero => cases b <;> simp [Nat.testBit_zero, Nat.add_mod]
    | succ j =>
      rw [Nat.testBit_succ, Nat.testBit_succ, Nat.testBit_succ]
      have e1 : (b.toNat + 2 * bitsN l) / 2 = bitsN l := by cases b <;> simp <;> omega
      have e2 : (true.toNat + 2 * bitsN l) / 2 = bitsN l := by simp; omega
      rw [e1, e2]; simp
  | b :: l, i + 1, h => by
    have ih := bitsN_or l i (by simpa using h)
    show (b.toNat + 2 * bitsN l) ||| 2 ^ (i + 1) = b.toNat + 2 * bitsN (l.set i true)
    rw [← ih]
    apply Nat.eq_of_testBit_eq
    intro j
    rw [Nat.testBit_or]
    cases j with
    | zero =>
      rw [Nat.testBit_zero, Nat.testBit_zero, Nat.testBit_zero, Nat.pow_succ]
      cases b <;> simp <;> omega
    | succ j =>
      rw [Nat.testBit_succ, Nat.testBit_succ, Nat.testBit_succ]
      have e1 : (b.toNat + 2 * bitsN l) / 2 = bitsN l := by cases b <;> simp <;> omega
      have e2 : (b.toNat + 2 * (bitsN l ||| 2 ^ i)) / 2 = bitsN l ||| 2 ^ i := by cases b <;> simp <;> omega
      have e3 : 2 ^ (i + 1) / 2 = 2 ^ i := by rw [Nat.pow_succ]; omega
      rw [e1, e2, e3, Nat.testBit_or]
def popN : Nat → Nat → Nat
  | 0, _ => 0
  | f + 1, n => n % 2 + popN f (n / 2)
theorem popN_bits : ∀ (f : Nat) (l : List Bool), l.length ≤ f → popN f (bitsN l) = l.count true
  | 0, [], _ => rfl
  | 0, _ :: _, h => by simp at h
  | f + 1, [], _ => by
    have := popN_bits f [] (by simp)
    show 0 % 2 + popN f (0 / 2) = 0
    simp [bitsN] at this
    simpa using this
  | f + 1, b :: l, h => by
    have ih := popN_bits f l (by simpa using h)
    show (b.toNat + 2 * bitsN l) % 2 + popN f ((b.toNat + 2 * bitsN l) / 2) = _
    have e1 : (b.toNat + 2 * bitsN l) / 2 = bitsN l := by cases b <;> simp <;> omega
    have e2 : (b.toNat + 2 * bitsN l) % 2 = b.toNat := by cases b <;> simp <;> omega
    rw [e1, e2, ih]
    cases b <;> simp <;> omega

/-- Which members are among some nodes. -/
def among (ms l : List Int) : List Bool := ms.map fun m => inB l m
theorem among_length (ms l : List Int) : (among ms l).length = ms.length := by simp [among]
def reachN (ms l : List Int) : Nat := (among ms l).count true
def reachB (ms l : List Int) : Bool := decide (ms.length / 2 + 1 ≤ reachN ms l)
theorem inB_snoc (l : List Int) (k : Nat) (h : k < l.length) (m : Int) : inB (l.take (k + 1)) m = (inB (l.take k) m || decide (m = l[k])) := by
  unfold inB
  rw [Bool.eq_iff_iff, Bool.or_eq_true, decide_eq_true_eq, decide_eq_true_eq, decide_eq_true_eq, List.take_succ_eq_append_getElem h, List.mem_append, List.mem_singleton]
theorem among_get (ms l : List Int) (j : Nat) (h : j < ms.length) (h' : j < (among ms l).length) : (among ms l)[j] = inB l ms[j] := by
  simp [among]
theorem among_none {ms l : List Int} {k : Nat} (h : k < l.length) (hn : inB ms l[k] = false) : among ms (l.take (k + 1)) = among ms (l.take k) := by
  unfold among
  refine List.map_congr_left fun m hm => ?_
  rw [inB_snoc l k h]
  have hne : m ≠ l[k] := fun e => by subst e; unfold inB at hn; simp at hn; exact hn hm
  rw [decide_eq_false hne, Bool.or_false]
theorem among_set {ms l : List Int} {k i : Nat} (ha : Asc ms) (h : k < l.length) (hi : i < ms.length) (he : ms[i] = l[k]) : among ms (l.take (k + 1)) = (among ms (l.take k)).set i true := by
  refine List.ext_getElem (by rw [List.length_set, among_length, among_length]) fun j h1 h2 => ?_
  have h3 : j < ms.length := by rwa [among_length] at h1
  rw [List.getElem_set, among_get _ _ _ h3 h1, inB_snoc l k h]
  by_cases hij : i = j
  · subst hij; rw [if_pos rfl, he]; simp
  · rw [if_neg hij, among_get _ _ _ h3]
    have hne : ms[j] ≠ l[k] := fun e => by
      rw [← he] at e
      rcases Nat.lt_trichotomy i j with h3' | h3' | h3'
      · have := List.pairwise_iff_getElem.1 ha i j hi h3 h3'; omega
      · exact hij h3'
      · have := List.pairwise_iff_getElem.1 ha j i h3 hi h3'; omega
    rw [decide_eq_false hne, Bool.or_false]
theorem count_two (f g : Int → Bool) : ∀ ms : List Int, ms.length < (ms.map f).count true + (ms.map g).count true → ∃ m ∈ ms, f m = true ∧ g m = true
  | [], h => by simp at h
  | m :: ms, h => by
    by_cases hh : f m = true ∧ g m = true
    · exact ⟨m, by simp, hh⟩
    · have : ms.length < (ms.map f).count true + (ms.map g).count true := by
        simp only [List.map_cons, List.count_cons, List.length_cons] at h
        cases hf : f m <;> cases hg : g m <;> simp_all <;> omega
      obtain ⟨x, hx, h2⟩ := count_two f g ms this
      exact ⟨x, List.mem_cons_of_mem _ hx, h2⟩
theorem two_quorums {ms a b : List Int} (ha : reachB ms a = true) (hb : reachB ms b = true) : ∃ k, ∃ h : k < a.length, inB b a[k] = true ∧ inB ms a[k] = true := by
  unfold reachB at ha hb
  rw [decide_eq_true_eq] at ha hb
  unfold reachN among at ha hb
  obtain ⟨m, hm, h1, h2⟩ := count_two (fun m => inB a m) (fun m => inB b m) ms (by omega)
  have h1' : m ∈ a := by unfold inB at h1; simpa using h1
  obtain ⟨k, hk, rfl⟩ := List.getElem_of_mem h1'
  exact ⟨k, hk, h2, by unfold inB; exact decide_eq_true hm⟩
/-- The place of an element in an ascending row. -/
theorem asc_place {ms : List Int} (ha : Asc ms) {i : Nat} (hi : i < ms.length) : ms.countP (· < ms[i]) = i := by
  have e : ms = ms.take i ++ ms.drop i := (List.take_append_drop i ms).symm
  have h1 : (ms.take i).countP (· < ms[i]) = i := by
    have : (ms.take i).countP (fun x => decide (x < ms[i])) = (ms.take i).length := by
      rw [List.countP_eq_length]
      intro x hx
      obtain ⟨j, hj, rfl⟩ := List.getElem_of_mem hx
      rw [List.length_take] at hj
      rw [List.getElem_take]
      exact decide_eq_true (List.pairwise_iff_getElem.1 ha j i (by omega) hi (by omega))
    rw [this, List.length_take]; omega
  have h2 : (ms.drop i).countP (· < ms[i]) = 0 := by
    rw [List.countP_eq_zero]
    intro x hx
    obtain ⟨j, hj, rfl⟩ := List.getElem_of_mem hx
    rw [List.length_drop] at hj
    rw [List.getElem_drop]
    have h3 : ms[i] ≤ ms[i + j] := by
      by_cases h0 : j = 0
      · subst h0; exact Int.le_refl _
      · have := List.pairwise_iff_getElem.1 ha i (i + j) hi (by omega) (by omega); omega
    simp; omega
  calc ms.countP (· < ms[i]) = (ms.take i ++ ms.drop i).countP (· < ms[i]) := by rw [List.take_append_drop]
    _ = i := by rw [List.countP_append, h1, h2]; omega
end Go.Proofs.Ytlcbelmbonaooaa
namespace Go.Proofs.Ytlcbelmbonaooaa
set_option maxRecDepth 20000
open Go.RowKit Go.Px
set_option linter.unusedVariables false
theorem reachN_step {ms : List Int} {k : Nat} (h : k < ms.length) (l : List Int) : reachN (ms.take (k + 1)) l = reachN (ms.take k) l + (if inB l ms[k] = true then 1 else 0) := by
  unfold reachN among
  rw [List.take_succ_eq_append_getElem h, List.map_append, List.count_append]
  cases h : inB l ms[k] <;> simp [h]
theorem reachN_le (ms l : List Int) : reachN ms l ≤ ms.length := by
  unfold reachN
  have := List.count_le_length (a := true) (l := among ms l)
  rw [among_length] at this
  exact this
end Go.Proofs.Ytlcbelmbonaooaa
namespace Go.Proofs.Ytlcbelmbonaooaa
set_option maxRecDepth 20000
open Go.RowKit Go.Px
set_option linter.unusedVariables false

def oth (ms : List Int) (v : Int) : List Int := ms.filter (· != v)
theorem oth_skip {ms : List Int} {k : Nat} {v : Int} (h : k < ms.length) (he : ms[k] = v) : oth (ms.take (k + 1)) v = oth (ms.take k) v := by
  unfold oth; rw [List.take_succ_eq_append_getElem h, List.filter_append]; simp [he]
theorem oth_take {ms : List Int} {k : Nat} {v : Int} (h : k < ms.length) (he : ms[k] ≠ v) : oth (ms.take (k + 1)) v = oth (ms.take k) v ++ [ms[k]] := by
  unfold oth; rw [List.take_succ_eq_append_getElem h, List.filter_append]; simp [he]
theorem oth_le (ms : List Int) (v : Int) (k : Nat) : (oth (ms.take k) v).length ≤ k := by
  unfold oth; exact Nat.le_trans (List.length_filter_le _ _) (List.length_take_le _ _)

end Go.Proofs.Ytlcbelmbonaooaa
