/- may.Number, may.Node, may.Group; plinthref07.Group; Check twice. -/
import Derived.Test.YtnjleagikplbiaaTypes
import Derived.Test.YtnjleagikplbiaaM13
import Derived.Test.YtnjleagikplbiaaArr
import Derived.Deep.DeepFit
import Derived.Outline
namespace Go.Proofs.Ytnjleagikplbiaa
open Go.RowKit Go.Px
set_option linter.unusedVariables false

theorem number_any (v : Int) (w : World) : Calls Try.prog 31 #[.int .i64 v] w fun e w' => e = .returned (.bool (numB v)) ∧ w = w' := by
  by_cases h1 : 0 ≤ v
  · by_cases h2 : v ≤ 4611686018427387904
    · have H := hide (show numB v = true from decide_eq_true ⟨h1, h2⟩)
      go_enter Try.func31, Try.ntmps31
      go_wp2
      go_ret
      exact ⟨by rw [H.out]; rfl, rfl⟩
    · have H := hide (show numB v = false from decide_eq_false (by omega))
      go_enter Try.func31, Try.ntmps31
      go_wp2
      go_ret
      exact ⟨by rw [H.out]; rfl, rfl⟩
  · have H := hide (show numB v = false from decide_eq_false (by omega))
    go_enter Try.func31, Try.ntmps31
    go_wp2
    go_ret
    exact ⟨by rw [H.out]; rfl, rfl⟩
theorem node_any (v : Int) (w : World) : Calls Try.prog 39 #[.int .i64 v] w fun e w' => e = .returned (.bool (nodeB v)) ∧ w = w' := by
  by_cases h1 : 0 ≤ v
  · by_cases h2 : v < 64
    · have H := hide (show nodeB v = true from decide_eq_true ⟨h1, h2⟩)
      go_enter Try.func39, Try.ntmps39
      go_wp2
      go_ret
      exact ⟨by rw [H.out]; rfl, rfl⟩
    · have H := hide (show nodeB v = false from decide_eq_false (by omega))
      go_enter Try.func39, Try.ntmps39
      go_wp2
      go_ret
      exact ⟨by rw [H.out]; rfl, rfl⟩
  · have H := hide (show nodeB v = false from decide_eq_false (by omega))
    go_enter Try.func39, Try.ntmps39
    go_wp2
    go_ret
    exact ⟨by rw [H.out]; rfl, rfl⟩

abbrev grp (e : Int) (A : Option Addr) (n c : Nat) : Value := .agg #[.int .i64 e, .slice A n c]

set_option maxHeartbeats 800000 in
theorem mgroup_any (e : Int) (A : Option Addr) (n c : Nat) (ms : List Int) (w : World) (hn : ms.length = n) (hr : Rd w A (ints ms)) :
    Calls Try.prog 27 #[grp e A n c] w fun x w' => x = .returned (.bool (grpOk e ms)) ∧ Below w.heap.size w w' := by
  have Hn := hide hn
  have hb0 : Below w.heap.size w (w.alloc (.cells #[.int .i64 e, .slice A n c] 24)) := (Below.refl _ _).alloc (Nat.le_refl _) _
  by_cases h1 : 0 ≤ e ∧ e ≤ 4611686018427387904
  · have HD := hide (show numB e = true from decide_eq_true h1)
    by_cases h2 : 1 ≤ n
    · by_cases h3 : n ≤ 9
      · have HG := hide (show grpOk e ms = nodesOk (-1) ms by unfold grpOk; rw [decide_eq_true h1, decide_eq_true (show 1 ≤ ms.length ∧ ms.length ≤ 9 by omega)]; rfl)
        have hrb := hr.below hb0
        clear hn h1
        go_enter Try.func27, Try.ntmps27
        go_wp2_with fail
        go_fit (number_any e _)
        rw [HD.out]
        rintro x w' ⟨rfl, rfl⟩
        go_wp2
        go_loop [3, 25] (fun a i => ∃ (k : Nat) (z : Int), k ≤ n ∧ i = .int .i64 k ∧ a = .int .i64 z ∧ -1 ≤ z ∧ z < 64 ∧ Hid (nodesOk (-1) ms = nodesOk z (ms.drop k))) (fun _ i => n - (intOf i).toNat)
        case atStart => exact ⟨0, -1, by omega, rfl, rfl, by omega, by omega, by rw [List.drop_zero]; exact hide rfl⟩
        case round =>
          obtain ⟨k, z, hk, rfl, rfl, hz, hz2, hN⟩ := hrel
          by_cases hlt : k < n
          · have hkl : k < ms.length := by rw [Hn.out]; exact hlt
            obtain ⟨a, ha, hc⟩ := hrb k _ (ints_get hkl)
            obtain ⟨y, hy⟩ : ∃ y, ms[k] = y := ⟨_, rfl⟩
            rw [hy] at hc
            subst ha
            by_cases hb : y ≤ z
            · have HF := hide (hN.out.trans (nodesOk_bad hkl (.inl (by rw [hy]; exact hb))))
              clear hy
              go_wp2
              go_ret
              exact ⟨by rw [HG.out, HF.out]; rfl, hb0⟩
            · have hy0 : 0 ≤ y := by omega
              by_cases hb2 : y < 64
              · have HF := hide (hN.out.trans (nodesOk_good hkl (by rw [hy]; omega) (by rw [hy]; exact hb2)))
                rw [hy] at HF
                have HD2 := hide (show nodeB y = true from decide_eq_true ⟨hy0, hb2⟩)
                clear hy
                go_wp2_with fail
                go_fit (node_any y _)
                rw [HD2.out]
                rintro x w' ⟨rfl, rfl⟩
                go_wp2
                go_round
                case rel => exact ⟨k + 1, y, by omega, by go_num, rfl, by omega, by omega, HF⟩
                case measure => simp [intOf]; omega
              · have HF := hide (hN.out.trans (nodesOk_bad hkl (.inr (by rw [hy]; omega))))
                have HD2 := hide (show nodeB y = false from decide_eq_false (by omega))
                clear hy
                go_wp2_with fail
                go_fit (node_any y _)
                rw [HD2.out]
                rintro x w' ⟨rfl, rfl⟩
                go_wp2
                go_ret
                exact ⟨by rw [HG.out, HF.out]; rfl, hb0⟩
          · have HF := hide (hN.out.trans (nodesOk_end (show ms.length ≤ k by rw [Hn.out]; omega)))
            go_wp2
            go_ret
            exact ⟨by rw [HG.out, HF.out]; rfl, hb0⟩
      · have HG := hide (show grpOk e ms = false by unfold grpOk; rw [decide_eq_false (show ¬ (1 ≤ ms.length ∧ ms.length ≤ 9) by omega)]; simp)
        clear hn h1
        go_enter Try.func27, Try.ntmps27
        go_wp2_with fail
        go_fit (number_any e _)
        rw [HD.out]
        rintro x w' ⟨rfl, rfl⟩
        go_wp2
        go_ret
        exact ⟨by rw [HG.out]; rfl, hb0⟩
    · have HG := hide (show grpOk e ms = false by unfold grpOk; rw [decide_eq_false (show ¬ (1 ≤ ms.length ∧ ms.length ≤ 9) by omega)]; simp)
      obtain rfl : n = 0 := by omega
      clear hn h1 h2
      go_enter Try.func27, Try.ntmps27
      go_wp2_with fail
      go_fit (number_any e _)
      rw [HD.out]
      rintro x w' ⟨rfl, rfl⟩
      go_wp2
      go_ret
      exact ⟨by rw [HG.out]; rfl, hb0⟩
  · have HD := hide (show numB e = false from decide_eq_false h1)
    have HG := hide (show grpOk e ms = false by unfold grpOk; rw [decide_eq_false h1]; rfl)
    clear hn h1
    go_enter Try.func27, Try.ntmps27
    go_wp2_with fail
    go_fit (number_any e _)
    rw [HD.out]
    rintro x w' ⟨rfl, rfl⟩
    go_wp2
    go_ret
    exact ⟨by rw [HG.out]; rfl, hb0⟩
end Go.Proofs.Ytnjleagikplbiaa
