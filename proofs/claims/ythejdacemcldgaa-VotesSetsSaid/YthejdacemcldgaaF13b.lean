/- plinthref07.Group; Check twice; Primary twice; Quorum twice. -/
import Derived.Test.YthejdacemcldgaaF13a
import Derived.IntWalk
import Derived.Deep.QuietTactic
import Derived.BigQuiet
namespace Go.Proofs.Ythejdacemcldgaa
set_option maxRecDepth 20000
open Go.RowKit Go.Px
set_option linter.unusedVariables false

def gE (e : Int) (ms : List Int) : Int := if grpOk e ms = true then 0 else 71
theorem gE_ok {e : Int} {ms : List Int} (h : grpOk e ms = true) : gE e ms = 0 := if_pos h
theorem gE_bad {e : Int} {ms : List Int} (h : grpOk e ms = false) : gE e ms = 71 := if_neg (by rw [h]; decide)

set_option maxHeartbeats 800000 in
theorem rgroup_any (e : Int) (A : Option Addr) (n c : Nat) (ms : List Int) (w : World) (hn : ms.length = n) (hr : Rd w A (ints ms)) :
    Calls Try.prog 34 #[grp e A n c] w fun x w' => x = .returned (.int .i64 (gE e ms)) ∧ Below w.heap.size w w' := by
  have Hn := hide hn
  have hb0 : Below w.heap.size w (w.alloc (.cells #[.int .i64 e, .slice A n c] 34)) := (Below.refl _ _).alloc (Nat.le_refl _) _
  by_cases h1 : 0 ≤ e ∧ e ≤ 4611686018427387904
  · obtain ⟨he1, he2⟩ := h1
    by_cases h2 : 1 ≤ n
    · by_cases h3 : n ≤ 9
      · have HG := hide (show grpOk e ms = nodesOk (-1) ms by unfold grpOk; rw [decide_eq_true (show 0 ≤ e ∧ e ≤ 4611686018427387904 from ⟨he1, he2⟩), decide_eq_true (show 1 ≤ ms.length ∧ ms.length ≤ 9 by omega)]; rfl)
        have hrb := hr.below hb0
        have hB := Blk.new w [.int .i64 e, .slice A n c] 34
        obtain ⟨g, hg⟩ : ∃ g, w.heap.size = g := ⟨_, rfl⟩
        obtain ⟨W0, hW0⟩ : ∃ W, w.alloc (.cells #[.int .i64 e, .slice A n c] 34) = W := ⟨_, rfl⟩
        rw [show (#[Value.int .i64 e, .slice A n c] : Array Value) = [Value.int .i64 e, .slice A n c].toArray from rfl] at hW0
        rw [hW0] at hrb hB hb0
        rw [hg] at hB hb0
        have k0 := hB.cell (j := 0) rfl
        have k1 := hB.cell (j := 1) rfl
        clear hn
        go_enter Try.func34, Try.ntmps34
        go_wp2
        go_loopw [3] (fun i wr => ∃ (k : Nat) (z : Int), k ≤ n ∧ i = .int .i64 k ∧ -1 ≤ z ∧ Hid (z = prevI ms k) ∧ Hid (nodesOk (-1) ms = nodesOk z (ms.drop k)) ∧ Below W0.heap.size W0 wr) (fun i _ => n - (intOf i).toNat)
        case atStart => exact ⟨0, -1, by omega, rfl, by omega, hide rfl, by rw [List.drop_zero]; exact hide rfl, by first | exact Below.refl _ _ | (rw [← hW0]; exact Below.refl _ _)⟩
        case round =>
          obtain ⟨k, z, hk, rfl, hz, hzp, hN, hbw⟩ := hrel
          have hBr := hB.below hbw
          have hr0 := hrb.below hbw
          have g0 := hBr.cell (j := 0) rfl
          have g1 := hBr.cell (j := 1) rfl
          have hbX : Below w.heap.size w wr := by rw [hg]; exact hb0.trans (hbw.mono (Nat.le_of_lt hB.lt))
          by_cases hlt : k < n
          · have hkl : k < ms.length := by rw [Hn.out]; exact hlt
            obtain ⟨a, ha, hc⟩ := hr0 k _ (ints_get hkl)
            obtain ⟨y, hy⟩ : ∃ y, ms[k] = y := ⟨_, rfl⟩
            rw [hy] at hc
            subst ha
            by_cases hy0 : y < 0
            · have HF := hide (gE_bad (HG.out.trans (hN.out.trans (nodesOk_bad hkl (.inl (by rw [hy]; omega))))))
              clear hy
              go_wp2
              go_quiet (fail)
              all_goals
                go_wp2
                go_ret
                exact ⟨by rw [HF.out]; rfl, below_drewN hbX _⟩
            · have hy0' : 0 ≤ y := by omega
              have d0 : decide (y < 0) = false := decide_eq_false hy0
              by_cases hy6 : 64 ≤ y
              · have HF := hide (gE_bad (HG.out.trans (hN.out.trans (nodesOk_bad hkl (.inr (by rw [hy]; omega))))))
                have d6 : decide (64 ≤ y) = true := decide_eq_true hy6
                clear hy hy0
                go_wp2
                go_quiet (fail)
                all_goals
                  go_wp2
                  go_ret
                  exact ⟨by rw [HF.out]; rfl, below_drewN hbX _⟩
              · have hy6' : y < 64 := by omega
                have d6 : decide (64 ≤ y) = false := decide_eq_false hy6
                rcases k with _ | k
                · rw [show a.add 0 = a from rfl] at hc
                  have hz1 : z = -1 := hzp.out
                  have HF := hide (hN.out.trans (nodesOk_good hkl (by rw [hy, hz1]; omega) (by rw [hy]; exact hy6')))
                  rw [hy] at HF
                  have HP := hide (show y = prevI ms (0 + 1) by
                    unfold prevI; rw [if_neg (by omega), List.getD_eq_getElem?_getD, List.getElem?_eq_getElem hkl, hy]; rfl)
                  clear hy hy0 hy6 hy6'
                  go_wp2
                  go_quiet (fail)
                  all_goals
                    go_wp2
                    go_roundw
                    case rel => exact ⟨1, y, by omega, rfl, by omega, HP, HF, below_drewN hbw _⟩
                    case measure => simp [intOf]; omega
                · have hkl1 : k < ms.length := by omega
                  obtain ⟨a1, ha1, hc1⟩ := hr0 k _ (ints_get hkl1)
                  obtain ⟨p, hp⟩ : ∃ p, ms[k] = p := ⟨_, rfl⟩
                  injection ha1 with ha1
                  subst ha1
                  rw [hp] at hc1
                  have hcS : wr.cell? ⟨a.block, a.off + (k + 1), none⟩ = some (.int .i64 y) := by
                    unfold Addr.add at hc
                    rwa [if_neg (by omega)] at hc
                  clear hc
                  have hzp' : z = p := by
                    rw [hzp.out]; unfold prevI; rw [if_neg (by omega), List.getD_eq_getElem?_getD, show k + 1 - 1 = k by omega, List.getElem?_eq_getElem hkl1, hp]; rfl
                  have q1 : IntKind.i64.wrap (((k + 1 : Nat) : Int) - 1) = (k : Int) := by rw [IntWalk.i64_in _ (by omega)]; omega
                  have q2 : ((k + 1 : Nat) : Int) > 0 := by omega
                  have q3 : decide (((k + 1 : Nat) : Int) > 0) = true := decide_eq_true q2
                  by_cases hyz : y ≤ p
                  · have HF := hide (gE_bad (HG.out.trans (hN.out.trans (nodesOk_bad hkl (.inl (by rw [hy, hzp']; exact hyz))))))
                    have d7 : decide (y ≤ p) = true := decide_eq_true hyz
                    clear hy hp hzp' hy0 hy6 hy6' hyz q2
                    go_wp2
                    go_quiet (fail)
                    all_goals
                      go_wp2
                      go_ret
                      exact ⟨by rw [HF.out]; rfl, below_drewN hbX _⟩
                  · have HF := hide (hN.out.trans (nodesOk_good hkl (by rw [hy, hzp']; omega) (by rw [hy]; exact hy6')))
                    rw [hy] at HF
                    have HP := hide (show y = prevI ms (k + 1 + 1) by
                      unfold prevI; rw [if_neg (by omega), List.getD_eq_getElem?_getD, show k + 1 + 1 - 1 = k + 1 by omega, List.getElem?_eq_getElem hkl, hy]; rfl)
                    have d7 : decide (y ≤ p) = false := decide_eq_false hyz
                    clear hy hp hzp' hy0 hy6 hy6' hyz q2
                    go_wp2
                    go_quiet (fail)
                    all_goals
                      go_wp2
                      go_roundw
                      case rel => exact ⟨k + 1 + 1, y, by omega, by go_num, by omega, HP, HF, below_drewN hbw _⟩
                      case measure => simp [intOf]; omega
          · have HF := hide (hN.out.trans (nodesOk_end (show ms.length ≤ k by rw [Hn.out]; omega)))
            have hE := hide (gE_ok (HG.out.trans HF.out))
            go_wp2
            go_ret
            exact ⟨by rw [hE.out]; rfl, hbX⟩
      · have HG := hide (gE_bad (show grpOk e ms = false by unfold grpOk; rw [decide_eq_false (show ¬ (1 ≤ ms.length ∧ ms.length ≤ 9) by omega)]; simp))
        clear hn
        go_enter Try.func34, Try.ntmps34
        go_wp2
        go_ret
        exact ⟨by rw [HG.out]; rfl, hb0⟩
    · have HG := hide (gE_bad (show grpOk e ms = false by unfold grpOk; rw [decide_eq_false (show ¬ (1 ≤ ms.length ∧ ms.length ≤ 9) by omega)]; simp))
      obtain rfl : n = 0 := by omega
      clear hn h2
      go_enter Try.func34, Try.ntmps34
      go_wp2
      go_ret
      exact ⟨by rw [HG.out]; rfl, hb0⟩
  · have HG := hide (gE_bad (show grpOk e ms = false by unfold grpOk; rw [decide_eq_false h1]; rfl))
    clear hn
    by_cases he : e < 0
    · clear h1
      go_enter Try.func34, Try.ntmps34
      go_wp2
      go_ret
      exact ⟨by rw [HG.out]; rfl, hb0⟩
    · have he1 : 0 ≤ e := by omega
      have he2 : 4611686018427387904 < e := by omega
      clear h1
      go_enter Try.func34, Try.ntmps34
      go_wp2
      go_ret
      exact ⟨by rw [HG.out]; rfl, hb0⟩
end Go.Proofs.Ythejdacemcldgaa
