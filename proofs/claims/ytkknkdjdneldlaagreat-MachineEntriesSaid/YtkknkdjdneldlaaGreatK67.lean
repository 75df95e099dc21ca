/- Texts joined (shake.py). -/
import Derived.IntWalk
import Derived.Deep.QuietTactic
import Derived.BigQuiet
import Derived.Deep.RegionHeldLaw
import Derived.Lib.SmallJoins
import Derived.Deep.DeepFit
import Derived.Test.YtkknkdjdneldlaaGreatK61
import Derived.Test.YtkknkdjdneldlaaGreatK62
import Derived.Test.YtkknkdjdneldlaaGreatK611
namespace Go.Proofs.YtkknkdjdneldlaaGreat
set_option maxRecDepth 20000
open Go.RowKit Go.Px
set_option linter.unusedVariables false

def gE (e : Int) (ms : List Int) : Int := if grpOk e ms = true then 0 else 71
theorem gE_ok {e : Int} {ms : List Int} (h : grpOk e ms = true) : gE e ms = 0 := if_pos h
theorem gE_bad {e : Int} {ms : List Int} (h : grpOk e ms = false) : gE e ms = 71 := if_neg (by rw [h]; decide)

set_option maxHeartbeats 800000 in
theorem rgroup_any (e : Int) (A : Option Addr) (n c : Nat) (ms : List Int) (w : World) (hn : ms.length = n) (hr : Rd w A (ints ms)) :
    Calls Tryz.prog 83 #[grp e A n c] w fun x w' => x = .returned (.int .i64 (gE e ms)) ∧ Below w.heap.size w w' := by
  have Hn := hide hn
  have hb0 : Below w.heap.size w (w.alloc (.cells #[.int .i64 e, .slice A n c] 28)) := (Below.refl _ _).alloc (Nat.le_refl _) _
  by_cases h1 : 0 ≤ e ∧ e ≤ 4611686018427387904
  · obtain ⟨he1, he2⟩ := h1
    by_cases h2 : 1 ≤ n
    · by_cases h3 : n ≤ 9
      · have HG := hide (show grpOk e ms = nodesOk (-1) ms by unfold grpOk; rw [decide_eq_true (show 0 ≤ e ∧ e ≤ 4611686018427387904 from ⟨he1, he2⟩), decide_eq_true (show 1 ≤ ms.length ∧ ms.length ≤ 9 by omega)]; rfl)
        have hrb := hr.below hb0
        have hB := Blk.new w [.int .i64 e, .slice A n c] 28
        obtain ⟨g, hg⟩ : ∃ g, w.heap.size = g := ⟨_, rfl⟩
        obtain ⟨W0, hW0⟩ : ∃ W, w.alloc (.cells #[.int .i64 e, .slice A n c] 28) = W := ⟨_, rfl⟩
        rw [show (#[Value.int .i64 e, .slice A n c] : Array Value) = [Value.int .i64 e, .slice A n c].toArray from rfl] at hW0
        rw [hW0] at hrb hB hb0
        rw [hg] at hB hb0
        have k0 := hB.cell (j := 0) rfl
        have k1 := hB.cell (j := 1) rfl
        clear hn
        go_enter Tryz.func83, Tryz.ntmps83
        go_wp2
        go_loopw [3] (fun i wr => ∃ (k : Nat) (z : Int), k ≤ n ∧ i = .int .i64 k ∧ -1 ≤ z ∧ Hid (z = prevI ms k) ∧ Hid (nodesOk (-1) ms = nodesOk z (ms.drop k)) ∧ Below W0.heap.size W0 wr) (fun i _ => n - (intOf i).toNat)
        case atStart => exact ⟨0, -1, by omega, rfl, by omega, hide rfl, by rw [List.drop_zero]; exact hide rfl, by first | exact Below.refl _ _ | (rw [← hW0]; exact Below.refl _ _)⟩
        case round =>
          obtain ⟨k, z, hk, rfl, hz, hzp, hN, hbw⟩ := hrel
          have hBr := hB.below hbw
          have hr0 := hrb.below hbw
          have g0 := hBr.cell (j := 0) rfl
          have g1 := hBr.cell (j := 1) rfl
          have hbX : Below w.heap.size w wr := by rw [hg]; exact hb0.trans (hbw.mono (Nat.le_of_lt hB.lt))
          by_cases hlt : k < n
          · have hkl : k < ms.length := by rw [Hn.out]; exact hlt
            obtain ⟨a, ha, hc⟩ := hr0 k _ (ints_get hkl)
            obtain ⟨y, hy⟩ : ∃ y, ms[k] = y := ⟨_, rfl⟩
            rw [hy] at hc
            subst ha
            by_cases hy0 : y < 0
            · have HF := hide (gE_bad (HG.out.trans (hN.out.trans (nodesOk_bad hkl (.inl (by rw [hy]; omega))))))
              clear hy
              go_wp2
              go_quiet (fail)
              all_goals
                go_wp2
                go_ret
                exact ⟨by rw [HF.out]; rfl, below_drewN hbX _⟩
            · have hy0' : 0 ≤ y := by omega
              have d0 : decide (y < 0) = false := decide_eq_false hy0
              by_cases hy6 : 64 ≤ y
              · have HF := hide (gE_bad (HG.out.trans (hN.out.trans (nodesOk_bad hkl (.inr (by rw [hy]; omega))))))
                have d6 : decide (64 ≤ y) = true := decide_eq_true hy6
                clear hy hy0
                go_wp2
                go_quiet (fail)
                all_goals
                  go_wp2
                  go_ret
                  exact ⟨by rw [HF.out]; rfl, below_drewN hbX _⟩
              · have hy6' : y < 64 := by omega
                have d6 : decide (64 ≤ y) = false := decide_eq_false hy6
                rcases k with _ | k
                · rw [show a.add 0 = a from rfl] at hc
                  have hz1 : z = -1 := hzp.out
                  have HF := hide (hN.out.trans (nodesOk_good hkl (by rw [hy, hz1]; omega) (by rw [hy]; exact hy6')))
                  rw [hy] at HF
                  have HP := hide (show y = prevI ms (0 + 1) by
                    unfold prevI; rw [if_neg (by omega), List.getD_eq_getElem?_getD, List.getElem?_eq_getElem hkl, hy]; rfl)
                  clear hy hy0 hy6 hy6'
                  go_wp2
                  go_quiet (fail)
                  all_goals
                    go_wp2
                    go_roundw
                    case rel => exact ⟨1, y, by omega, rfl, by omega, HP, HF, below_drewN hbw _⟩
                    case measure => simp [intOf]; omega
                · have hkl1 : k < ms.length := by omega
                  obtain ⟨a1, ha1, hc1⟩ := hr0 k _ (ints_get hkl1)
                  obtain ⟨p, hp⟩ : ∃ p, ms[k] = p := ⟨_, rfl⟩
                  injection ha1 with ha1
                  subst ha1
                  rw [hp] at hc1
                  have hcS : wr.cell? ⟨a.block, a.off + (k + 1), none⟩ = some (.int .i64 y) := by
                    unfold Addr.add at hc
                    rwa [if_neg (by omega)] at hc
                  clear hc
                  have hzp' : z = p := by
                    rw [hzp.out]; unfold prevI; rw [if_neg (by omega), List.getD_eq_getElem?_getD, show k + 1 - 1 = k by omega, List.getElem?_eq_getElem hkl1, hp]; rfl
                  have q1 : IntKind.i64.wrap (((k + 1 : Nat) : Int) - 1) = (k : Int) := by rw [IntWalk.i64_in _ (by omega)]; omega
                  have q2 : ((k + 1 : Nat) : Int) > 0 := by omega
                  have q3 : decide (((k + 1 : Nat) : Int) > 0) = true := decide_eq_true q2
                  by_cases hyz : y ≤ p
                  · have HF := hide (gE_bad (HG.out.trans (hN.out.trans (nodesOk_bad hkl (.inl (by rw [hy, hzp']; exact hyz))))))
                    have d7 : decide (y ≤ p) = true := decide_eq_true hyz
                    clear hy hp hzp' hy0 hy6 hy6' hyz q2
                    go_wp2
                    go_quiet (fail)
                    all_goals
                      go_wp2
                      go_ret
                      exact ⟨by rw [HF.out]; rfl, below_drewN hbX _⟩
                  · have HF := hide (hN.out.trans (nodesOk_good hkl (by rw [hy, hzp']; omega) (by rw [hy]; exact hy6')))
                    rw [hy] at HF
                    have HP := hide (show y = prevI ms (k + 1 + 1) by
                      unfold prevI; rw [if_neg (by omega), List.getD_eq_getElem?_getD, show k + 1 + 1 - 1 = k + 1 by omega, List.getElem?_eq_getElem hkl, hy]; rfl)
                    have d7 : decide (y ≤ p) = false := decide_eq_false hyz
                    clear hy hp hzp' hy0 hy6 hy6' hyz q2
                    go_wp2
                    go_quiet (fail)
                    all_goals
                      go_wp2
                      go_roundw
                      case rel => exact ⟨k + 1 + 1, y, by omega, by go_num, by omega, HP, HF, below_drewN hbw _⟩
                      case measure => simp [intOf]; omega
          · have HF := hide (hN.out.trans (nodesOk_end (show ms.length ≤ k by rw [Hn.out]; omega)))
            have hE := hide (gE_ok (HG.out.trans HF.out))
            go_wp2
            go_ret
            exact ⟨by rw [hE.out]; rfl, hbX⟩
      · have HG := hide (gE_bad (show grpOk e ms = false by unfold grpOk; rw [decide_eq_false (show ¬ (1 ≤ ms.length ∧ ms.length ≤ 9) by omega)]; simp))
        clear hn
        go_enter Tryz.func83, Tryz.ntmps83
        go_wp2
        go_ret
        exact ⟨by rw [HG.out]; rfl, hb0⟩
    · have HG := hide (gE_bad (show grpOk e ms = false by unfold grpOk; rw [decide_eq_false (show ¬ (1 ≤ ms.length ∧ ms.length ≤ 9) by omega)]; simp))
      obtain rfl : n = 0 := by omega
      clear hn h2
      go_enter Tryz.func83, Tryz.ntmps83
      go_wp2
      go_ret
      exact ⟨by rw [HG.out]; rfl, hb0⟩
  · have HG := hide (gE_bad (show grpOk e ms = false by unfold grpOk; rw [decide_eq_false h1]; rfl))
    clear hn
    by_cases he : e < 0
    · clear h1
      go_enter Tryz.func83, Tryz.ntmps83
      go_wp2
      go_ret
      exact ⟨by rw [HG.out]; rfl, hb0⟩
    · have he1 : 0 ≤ e := by omega
      have he2 : 4611686018427387904 < e := by omega
      clear h1
      go_enter Tryz.func83, Tryz.ntmps83
      go_wp2
      go_ret
      exact ⟨by rw [HG.out]; rfl, hb0⟩
end Go.Proofs.YtkknkdjdneldlaaGreat
namespace Go.Proofs.YtkknkdjdneldlaaGreat
set_option maxRecDepth 20000
open Go.RowKit Go.Px
set_option linter.unusedVariables false

/-! ### equal rows -/
def eqB (a b : List Int) : Bool := decide (a = b)
theorem eqB_len {a b : List Int} (h : a.length ≠ b.length) : eqB a b = false := decide_eq_false (fun e => h (by rw [e]))
theorem eqB_ne {a b : List Int} {k : Nat} (ha : k < a.length) (hb : k < b.length) (h : a[k] ≠ b[k]) : eqB a b = false :=
  decide_eq_false (fun e => h (by subst e; rfl))
theorem eq_take {a b : List Int} {k : Nat} (ha : k < a.length) (hb : k < b.length) (h0 : a.take k = b.take k) (h : a[k] = b[k]) : a.take (k + 1) = b.take (k + 1) := by
  rw [List.take_succ_eq_append_getElem ha, List.take_succ_eq_append_getElem hb, h0, h]
theorem eqB_all {a b : List Int} {k : Nat} (ha : a.length ≤ k) (hb : b.length ≤ k) (h0 : a.take k = b.take k) : eqB a b = true := by
  rw [List.take_of_length_le ha, List.take_of_length_le hb] at h0
  exact decide_eq_true h0

set_option maxHeartbeats 800000 in
theorem equal_any (A : Option Addr) (n c : Nat) (xs : List Int) (B : Option Addr) (m d : Nat) (ys : List Int) (w : World) (hn : xs.length = n) (hm : ys.length = m) (h63 : n ≤ 9223372036854775807) (h63' : m ≤ 9223372036854775807) (hr : Rd w A (ints xs)) (hs : Rd w B (ints ys)) :
    Calls Tryz.prog 139 #[.slice A n c, .slice B m d] w fun e w' => e = .returned (.bool (eqB xs ys)) ∧ Below w.heap.size w w' := by
  by_cases hnm : n = m
  · subst hnm
    have Hn := hide hn
    have Hm := hide hm
    clear hn hm
    go_enter Tryz.func139, Tryz.ntmps139
    go_wp2
    go_loopw [13] (fun i wr => ∃ k : Nat, k ≤ n ∧ i = .int .i64 k ∧ Hid (xs.take k = ys.take k) ∧ Below w.heap.size w wr) (fun i _ => n - (intOf i).toNat)
    case atStart => exact ⟨0, by omega, rfl, hide (by simp), Below.refl _ _⟩
    case round =>
      obtain ⟨k, hk, rfl, hN, hbw⟩ := hrel
      by_cases hlt : k < n
      · have hkl : k < xs.length := by rw [Hn.out]; exact hlt
        have hkm : k < ys.length := by rw [Hm.out]; exact hlt
        obtain ⟨a, ha, hc⟩ := hr.below hbw k _ (ints_get hkl)
        obtain ⟨b, hb, hd⟩ := hs.below hbw k _ (ints_get hkm)
        obtain ⟨x, hx⟩ : ∃ x, xs[k] = x := ⟨_, rfl⟩
        obtain ⟨y, hy⟩ : ∃ y, ys[k] = y := ⟨_, rfl⟩
        rw [hx] at hc
        rw [hy] at hd
        subst ha hb
        by_cases hv : x = y
        · have HB := hide (eq_take hkl hkm hN.out (by rw [hx, hy]; exact hv))
          have q1 : (x != y) = false := by simp [hv]
          clear hx hy hv
          go_wp2
          go_quiet (fail)
          all_goals
            go_wp2
            go_roundw
            case rel => exact ⟨k + 1, by omega, by go_num, HB, below_drewN hbw _⟩
            case measure => simp [intOf]; omega
        · have HB := hide (eqB_ne hkl hkm (by rw [hx, hy]; exact hv))
          have q1 : (x != y) = true := by simp [hv]
          clear hx hy hv
          go_wp2
          go_quiet (fail)
          all_goals
            go_wp2
            go_ret
            exact ⟨by rw [HB.out]; rfl, below_drewN hbw _⟩
      · have HB := hide (eqB_all (show xs.length ≤ k by rw [Hn.out]; omega) (show ys.length ≤ k by rw [Hm.out]; omega) hN.out)
        go_wp2
        go_ret
        exact ⟨by rw [HB.out]; rfl, hbw⟩
  · have HB := hide (eqB_len (a := xs) (b := ys) (by rw [hn, hm]; exact hnm))
    have q1 : ((n : Int) != (m : Int)) = true := by simp; omega
    clear hn hm
    go_enter Tryz.func139, Tryz.ntmps139
    go_wp2
    go_ret
    exact ⟨by rw [HB.out]; rfl, Below.refl _ _⟩
end Go.Proofs.YtkknkdjdneldlaaGreat
namespace Go.Proofs.YtkknkdjdneldlaaGreat
set_option maxRecDepth 20000
open Go.RowKit Go.Px
set_option linter.unusedVariables false

def eqG (e : Int) (xs : List Int) (e' : Int) (ys : List Int) : Bool := (e == e') && eqB xs ys

set_option maxHeartbeats 800000 in
theorem rsameg_any (e : Int) (A : Option Addr) (n c : Nat) (xs : List Int) (e' : Int) (B : Option Addr) (m d : Nat) (ys : List Int) (w : World) (hn : xs.length = n) (hm : ys.length = m) (h63 : n ≤ 9223372036854775807) (h63' : m ≤ 9223372036854775807) (hr : Rd w A (ints xs)) (hs : Rd w B (ints ys)) :
    Calls Tryz.prog 19 #[grp e A n c, grp e' B m d] w fun x w' => x = .returned (.bool (eqG e xs e' ys)) ∧ Below w.heap.size w w' := by
  obtain ⟨g, hg⟩ : ∃ g, w.heap.size = g := ⟨_, rfl⟩
  obtain ⟨g1, hg1⟩ : ∃ x, g + 1 = x := ⟨_, rfl⟩
  obtain ⟨w0, hw0⟩ : ∃ w0, (w.alloc (.cells #[.int .i64 e, .slice A n c] 28)).alloc (.cells #[.int .i64 e', .slice B m d] 28) = w0 := ⟨_, rfl⟩
  have hF : Blk w0 g [.int .i64 e, .slice A n c] 28 := by rw [← hw0, ← hg]; exact (Blk.new w [.int .i64 e, .slice A n c] _).alloc _
  have hG : Blk w0 g1 [.int .i64 e', .slice B m d] 28 := by
    rw [← hw0, ← hg1, ← hg]
    have := Blk.new (w.alloc (.cells #[.int .i64 e, .slice A n c] 28)) [.int .i64 e', .slice B m d] 28
    rwa [World.size_alloc] at this
  have hb0 : Below w.heap.size w w0 := by rw [← hw0]; exact ((Below.refl _ _).alloc (Nat.le_refl _) _).alloc (by simp) _
  have f0 := hF.cell (j := 0) rfl
  have f1 := hF.cell (j := 1) rfl
  have k0 := hG.cell (j := 0) rfl
  have k1 := hG.cell (j := 1) rfl
  have hr0 := hr.below hb0
  have hs0 := hs.below hb0
  rcases bool_two (e == e') with q | q
  · have hee : e = e' := by simpa using q
    subst hee
    have q' : (e != e) = false := by simp
    have HQ := hide (show eqG e xs e ys = eqB xs ys by unfold eqG; rw [q]; rfl)
    clear q
    by_cases hnm : n = m
    · subst hnm
      have Hn := hide hn
      have Hm := hide hm
      clear hn hm
      go_enter Tryz.func19, Tryz.ntmps19
      go_wp2
      go_loopw [5] (fun i wr => ∃ k : Nat, k ≤ n ∧ i = .int .i64 k ∧ Hid (xs.take k = ys.take k) ∧ Below w0.heap.size w0 wr) (fun i _ => n - (intOf i).toNat)
      case atStart => exact ⟨0, by omega, rfl, hide (by simp), by first | exact Below.refl _ _ | (rw [← hw0]; exact Below.refl _ _)⟩
      case round =>
        obtain ⟨k, hk, rfl, hN, hbw⟩ := hrel
        have c0 := (hF.below hbw).cell (j := 0) rfl
        have c1 := (hF.below hbw).cell (j := 1) rfl
        have d0 := (hG.below hbw).cell (j := 0) rfl
        have d1 := (hG.below hbw).cell (j := 1) rfl
        have hbX : Below w.heap.size w wr := hb0.trans (hbw.mono hb0.size)
        by_cases hlt : k < n
        · have hkl : k < xs.length := by rw [Hn.out]; exact hlt
          have hkm : k < ys.length := by rw [Hm.out]; exact hlt
          obtain ⟨a, ha, hc⟩ := hr0.below hbw k _ (ints_get hkl)
          obtain ⟨b, hb, hd⟩ := hs0.below hbw k _ (ints_get hkm)
          obtain ⟨x, hx⟩ : ∃ x, xs[k] = x := ⟨_, rfl⟩
          obtain ⟨y, hy⟩ : ∃ y, ys[k] = y := ⟨_, rfl⟩
          rw [hx] at hc
          rw [hy] at hd
          subst ha hb
          by_cases hv : x = y
          · have HB := hide (eq_take hkl hkm hN.out (by rw [hx, hy]; exact hv))
            have q1 : (x != y) = false := by simp [hv]
            clear hx hy hv
            go_wp2
            go_quiet (fail)
            all_goals
              go_wp2
              go_roundw
              case rel => exact ⟨k + 1, by omega, by go_num, HB, below_drewN hbw _⟩
              case measure => simp [intOf]; omega
          · have HB := hide (eqB_ne hkl hkm (by rw [hx, hy]; exact hv))
            have q1 : (x != y) = true := by simp [hv]
            clear hx hy hv
            go_wp2
            go_quiet (fail)
            all_goals
              go_wp2
              go_ret
              exact ⟨by rw [HQ.out, HB.out]; rfl, below_drewN hbX _⟩
        · have HB := hide (eqB_all (show xs.length ≤ k by rw [Hn.out]; omega) (show ys.length ≤ k by rw [Hm.out]; omega) hN.out)
          go_wp2
          go_ret
          exact ⟨by rw [HQ.out, HB.out]; rfl, hbX⟩
    · have HB := hide (eqB_len (a := xs) (b := ys) (by rw [hn, hm]; exact hnm))
      have q1 : ((n : Int) != (m : Int)) = true := by simp; omega
      clear hn hm
      go_enter Tryz.func19, Tryz.ntmps19
      go_wp2
      go_ret
      exact ⟨by rw [HQ.out, HB.out]; rfl, hb0⟩
  · have HQ := hide (show eqG e xs e' ys = false by unfold eqG; rw [q]; rfl)
    have q' : (e != e') = true := by simpa using q
    clear q
    go_enter Tryz.func19, Tryz.ntmps19
    go_wp2
    go_ret
    exact ⟨by rw [HQ.out]; rfl, hb0⟩

end Go.Proofs.YtkknkdjdneldlaaGreat
namespace Go.Proofs.YtkknkdjdneldlaaGreat
set_option maxRecDepth 20000
open Go.RowKit Go.Px
set_option linter.unusedVariables false
/-- A store into a row of the call's own. -/
theorem own_store {w : World} {base e n c g : Nat} {xs : List Value} (h : w.ownsRow base e 1 (.slice (some ⟨g, 0, none⟩) n c) n xs) (j : Nat) (u : Value) :
    (w.setCell ⟨g, j, none⟩ u).ownsRow base e 1 (.slice (some ⟨g, 0, none⟩) n c) n (xs.set j u) := by
  refine ⟨by rw [List.length_set]; exact h.1, ?_⟩
  rcases h.2 with ⟨h1, _⟩ | ⟨g', cap, cur, hv, hb, hg, h1, h2, h3, h4⟩
  · exact absurd h1 (by simp)
  · injection hv with hv1 hv2 hv3
    injection hv1 with hv1
    injection hv1 with hv1
    subst hv1
    subst hv3
    refine .inr ⟨g, c, cur.setIfInBounds j u, rfl, hb, heap_setCell_same w g j cur e u hg, h1, h2, by simpa using h3, ?_⟩
    rw [← h4, Array.toList_setIfInBounds, List.take_set]
theorem own_frozen {w : World} {base e n c g : Nat} {xs : List Value} (h : w.ownsRow base e 1 (.slice (some ⟨g, 0, none⟩) n c) n xs) (j : Nat) : w.frozen? ⟨g, j, none⟩ = false := by
  rcases h.2 with ⟨h1, _⟩ | ⟨g', cap, cur, hv, hb, hg, h1, h2, h3, h4⟩
  · exact absurd h1 (by simp)
  · injection hv with hv1 hv2 hv3
    injection hv1 with hv1
    injection hv1 with hv1
    subst hv1
    exact frozen_of_row w g j cur e hg
theorem take_set_snoc {xs ys : List Value} {j : Nat} {u : Value} (hj : j < xs.length) (hl : ys.length = j) (h : xs.take j = ys) : (xs.set j u).take (j + 1) = ys ++ [u] := by
  subst h
  rw [List.take_add_one, List.take_set, List.set_eq_of_length_le (by simp; omega)]
  simp [hj]
set_option maxHeartbeats 1000000 in
theorem ints_any (n : Int) (B : Option Addr) (k d : Nat) (l : List Nat) (w : World) (hk : l.length = k) (hk8 : k ≤ 4096) (hB : Rd w B (ints (l.map fun x : Nat => (x : Int)))) (hl : ∀ v ∈ l, v < 9223372036854775808) :
    Calls Tryz.prog 64 #[.int .i64 n, .slice B k d] w fun e w' => ∃ v, e = .returned v ∧ w'.ownsRow w.heap.size 5 1 v (putAllB [] l n).length (bys (putAllB [] l n)) ∧ Below w.heap.size w w' := by
  have Hk := hide hk
  clear hk
  go_enter Tryz.func64, Tryz.ntmps64
  go_wp2_with (first | (with_reducible refine stop_append rfl ?_) | (with_reducible refine stop_copy rfl ?_) | (with_reducible refine stop_make rfl ?_))
  refine go_make rfl rfl tU64s rfl rfl (n := k) (m := k) rfl rfl (by omega) (by omega) (by omega) (Nat.le_refl _) ?_
  intro z w1 _ _ hw1 ho1 hg1
  have hb1 : Below w.heap.size w w1 := grown_below (Below.refl _ _) hg1 (Nat.le_refl _) (fun g hg => by cases hg)
  obtain ⟨g, hg⟩ : ∃ y, w.heap.size = y := ⟨_, rfl⟩
  rw [hg] at ho1 hb1 ⊢
  obtain ⟨xs0, hx0⟩ : ∃ y, (madeCells z.cells (k * 1)).toList.take (k * 1) = y := ⟨_, rfl⟩
  rw [hx0] at ho1
  have hs1 := hb1.size
  clear hw1 hg1 hx0
  go_wp2
  go_loopw [15] (fun i wr => ∃ (j : Nat) (xs : List Value), j ≤ k ∧ i = .int .i64 j ∧ wr.ownsRow g 174 1 (.slice (some ⟨g, 0, none⟩) k k) k xs ∧ xs.take j = u64s (l.take j) ∧ Below g w wr) (fun i _ => k - (intOf i).toNat)
  case atStart => exact ⟨0, xs0, by omega, rfl, ho1, by simp [u64s], hb1⟩
  case round =>
    obtain ⟨j, xs, hj, rfl, hO, hT, hb⟩ := hrel
    have hxl : xs.length = k := by simpa using hO.1
    by_cases hlt : j < k
    · have hjl : j < l.length := by rw [Hk.out]; exact hlt
      obtain ⟨b, rfl, hcell⟩ := (show Rd wr B _ from by rw [← hg] at hb; exact hB.below hb) j (.int .i64 (l[j] : Int)) (by simp [ints, hjl])
      have hlv := hl _ (List.getElem_mem hjl)
      have hfz := own_frozen hO j
      obtain ⟨u0, hu0⟩ : ∃ u0, wr.cell? ⟨g, j, none⟩ = some u0 := by
        obtain ⟨A', c', hv, _, _, _, hr, _⟩ := own_out hO
        injection hv with hv1 hv2 hv3
        subst hv1
        obtain ⟨a', ha', hc'⟩ := hr j xs[j] (List.getElem?_eq_getElem (by omega))
        injection ha' with ha'
        subst ha'
        have ea : (⟨g, 0, none⟩ : Addr).add j = ⟨g, j, none⟩ := by unfold Addr.add; split <;> simp_all
        rw [ea] at hc'
        exact ⟨_, hc'⟩
      have hO' := own_store hO j (.int .u64 (l[j] : Int))
      have hT' := hide (take_set_snoc (u := .int .u64 (l[j] : Int)) (by omega) (by simp [u64s]; omega) hT)
      have HO' := hide hO'
      clear hO hO'
      obtain ⟨v, hv⟩ : ∃ y, l[j] = y := ⟨_, rfl⟩
      rw [hv] at hcell HO' hT'
      go_wp2
      go_roundw
      case rel =>
        refine ⟨j + 1, _, by omega, by go_num, HO'.out, ?_, hb.setCell (by show g ≤ g; omega) _⟩
        rw [hT'.out, List.take_add_one, List.getElem?_eq_getElem hjl, hv]
        simp [u64s]
      case measure => simp [intOf]; omega
    · have hjk : j = k := by omega
      subst hjk
      have hT2 : xs = u64s l := by
        rw [List.take_of_length_le (by omega), List.take_of_length_le (by rw [Hk.out]; omega)] at hT
        exact hT
      subst hT2
      obtain ⟨A', c', hv, _, _, _, hr, _⟩ := own_out hO
      injection hv with hv1 hv2 hv3
      subst hv1
      clear hv2 hv3
      have hPA := putAll_any none 0 0 [] n (some ⟨g, 0, none⟩) j j l wr rfl (by omega) Rd.nil Hk.out (by omega) hr (fun v hv => by have := hl v hv; omega)
      have HPA := hide hPA
      clear hPA hT hO hr hB
      go_wp2_with fail
      go_fit HPA.out
      rintro e w2 ⟨v, rfl, ho2, hb2⟩
      go_wp2
      go_ret
      exact ⟨_, rfl, own_weak ho2 (by have := hb.size; omega), by rw [← hg] at hb; exact hb.trans (hb2.mono hb.size)⟩
/-- Numbers that fit, of n bytes each. -/
theorem allE_fit {n : Int} {l : List Nat} (h1 : 1 ≤ n ∧ n ≤ 8) (h : ∀ v ∈ l, v < 256 ^ n.toNat) : allE n l = 0 := by
  induction l with
  | nil => rfl
  | cons v l ih =>
    show (if fitsE v n = 0 then allE n l else fitsE v n) = 0
    have hf : fitsE v n = 0 := by unfold fitsE; rw [if_pos h1, if_pos (h v (by simp))]
    rw [if_pos hf]
    exact ih fun u hu => h u (by simp [hu])
theorem ints_fit (n : Int) (B : Option Addr) (k d : Nat) (l : List Nat) (w : World) (hk : l.length = k) (hk8 : k ≤ 4096) (hB : Rd w B (ints (l.map fun x : Nat => (x : Int)))) (hl : ∀ v ∈ l, v < 9223372036854775808) (hn : 1 ≤ n ∧ n ≤ 8) (hf : ∀ v ∈ l, v < 256 ^ n.toNat) :
    Calls Tryz.prog 64 #[.int .i64 n, .slice B k d] w fun e w' => ∃ v, e = .returned v ∧ w'.ownsRow w.heap.size 5 1 v (flatB n.toNat l).length (bys (flatB n.toNat l)) ∧ Below w.heap.size w w' := by
  have h := ints_any n B k d l w hk hk8 hB hl
  rw [show putAllB [] l n = flatB n.toNat l by unfold putAllB; rw [if_pos (allE_fit hn hf)]; rfl] at h
  exact h
/-- The bytes of a group. -/
def grpB (e : Int) (ms : List Int) : List UInt8 := flatB 8 [e.toNat] ++ [UInt8.ofNat ms.length] ++ flatB 1 (ms.map Int.toNat)
/-- A row of the call's own that grew. -/
theorem own_grow {B : Nat} {W w w' : World} {base e size n : Nat} {v : Value} {xs : List Value} (ho : w.ownsRow base e size v n xs) (hb : Below B W w) (hB : B ≤ base) (hs : B ≤ w.heap.size) (hg : w.grownBy w' v.ownBlock) : Below B W w' :=
  hb.grown hg hs fun k hk => by
    obtain ⟨A, c, rfl, _, _, _, _, ha⟩ := own_out ho
    cases A with
    | none => simp [Value.ownBlock] at hk
    | some a =>
      simp only [Value.ownBlock, Option.some.injEq] at hk
      have := (ha a rfl).1
      omega
theorem nodes_mem : ∀ {ms : List Int} {a : Int}, -1 ≤ a → nodesOk a ms = true → ∀ x ∈ ms, 0 ≤ x ∧ x < 64
  | [], _, _, _, _, hx => by simp at hx
  | m :: ms, a, ha, h, x, hx => by
    have h : (decide (a < m) && (decide (m < 64) && nodesOk m ms)) = true := h
    simp only [Bool.and_eq_true, decide_eq_true_eq] at h
    rcases List.mem_cons.1 hx with rfl | hx
    · omega
    · exact nodes_mem (by omega) h.2.2 x hx
theorem grpOk_bd {e : Int} {ms : List Int} (h : grpOk e ms = true) : 0 ≤ e ∧ e ≤ 4611686018427387904 ∧ ms.length ≤ 9 ∧ ∀ m ∈ ms, 0 ≤ m ∧ m < 64 := by
  have h1 := grpOk_num h
  have h2 := grpOk_len h
  exact ⟨h1.1, h1.2, h2.2, fun m hm => nodes_mem (by omega) (grpOk_nodes h) m hm⟩
end Go.Proofs.YtkknkdjdneldlaaGreat
namespace Go.Proofs.YtkknkdjdneldlaaGreat
set_option maxRecDepth 20000
open Go.RowKit Go.Px
set_option linter.unusedVariables false
theorem flatB_len (k : Nat) : ∀ l : List Nat, (flatB k l).length = k * l.length
  | [] => by simp [flatB]
  | x :: l => by
    have := flatB_len k l
    unfold flatB at this ⊢
    rw [List.flatMap_cons, List.length_append, leB_length, this, List.length_cons, Nat.mul_succ, Nat.add_comm]
theorem grpB_len {e : Int} {ms : List Int} : (grpB e ms).length = 9 + ms.length := by
  unfold grpB
  rw [List.length_append, List.length_append, flatB_len, flatB_len, List.length_map]
  simp
  try omega
set_option maxHeartbeats 3200000 in
theorem cgroup_any (e : Int) (A : Option Addr) (n c : Nat) (ms : List Int) (w : World) (hn : ms.length = n) (hnc : n ≤ c) (hr : Rd w A (ints ms)) (hok : grpOk e ms = true) :
    Calls Tryz.prog 65 #[grp e A n c] w fun x w' => ∃ v, x = .returned v ∧ w'.ownsRow w.heap.size 5 1 v (grpB e ms).length (bys (grpB e ms)) ∧ Below w.heap.size w w' := by
  obtain ⟨he0, he1, h9, hm⟩ := grpOk_bd hok
  obtain ⟨E, rfl⟩ := Int.eq_ofNat_of_zero_le he0
  obtain ⟨w0, hw0⟩ : ∃ x, w.alloc (.cells #[.int .i64 (E : Int), .slice A n c] 28) = x := ⟨_, rfl⟩
  have hZ : Blk w0 w.heap.size [.int .i64 (E : Int), .slice A n c] 28 := by rw [← hw0]; exact Blk.new w _ _
  have hb0 : Below w.heap.size w w0 := by rw [← hw0]; exact (Below.refl _ _).alloc (Nat.le_refl _) _
  have s0 := hb0.size
  have hfl : (flatB (8 : Int).toNat [E]).length = 8 := by simp [flatB, leB_length]
  have HI1 := hide (fun X d (hd : Rd X (some ⟨d, 0, none⟩) [.int .i64 (E : Int)]) => hfl ▸ ints_fit 8 (some ⟨d, 0, none⟩) 1 1 [E] X rfl (by omega) hd (by simp; omega) (by omega) (by simp; omega))
  have HS := hide (show ∀ X, Below w0.heap.size w0 X → (X.cell? ⟨w.heap.size, 0, none⟩ = some (.int .i64 (E : Int)) ∧ X.cell? ⟨w.heap.size, 1, none⟩ = some (.slice A n c)) from fun X hX => ⟨(hZ.below hX).cell (j := 0) rfl, (hZ.below hX).cell (j := 1) rfl⟩)
  obtain ⟨N8, hN8⟩ : ∃ l : List Nat, ms.map Int.toNat = l := ⟨_, rfl⟩
  have hms : ms = N8.map fun x : Nat => (x : Int) := by
    rw [← hN8, List.map_map]
    exact (List.map_id' ms).symm.trans (List.map_congr_left fun x hx => by have := hm x hx; show x = ((x.toNat : Nat) : Int); omega)
  have hN8l : N8.length = n := by rw [← hN8, List.length_map]; exact hn
  have hN8v : ∀ v ∈ N8, v < 64 := fun v hv => by
    rw [← hN8] at hv
    obtain ⟨x, hx, rfl⟩ := List.mem_map.1 hv
    have := hm x hx; omega
  have hfl1 : (flatB (1 : Int).toNat N8).length = n := by rw [← hN8l, flatB_len]; simp
  have HI2 := hide (fun X (hX : Below w.heap.size w X) => hfl1 ▸ ints_fit 1 A n c N8 X hN8l (by omega) (by rw [← hms]; exact hr.below hX) (fun v hv => by have := hN8v v hv; omega) (by omega) (fun v hv => by have := hN8v v hv; show v < 256; omega))
  have hres : grpB (E : Int) ms = flatB 8 [E] ++ [UInt8.ofNat n] ++ flatB 1 N8 := by unfold grpB; rw [hn, hN8]; rfl
  have hu8 : bys [UInt8.ofNat n] = [.int .u8 (n : Int)] := by simp [bys, Nat.mod_eq_of_lt (show n < 256 by omega)]
  have Hu8 := hide hu8
  have Hres := hide hres
  have hn9 : n ≤ 9 := by omega
  have Hn := hide hn
  have Hfl1 := hide hfl1
  have Hw0 := hide hw0
  have hb0' := hb0
  have HZ := hide hZ
  have hwr : IntKind.wrap .u8 (n : Int) = (n : Int) := by show ((n : Int) % 256) = n; omega
  clear hw0 hfl hZ hms hN8l hN8v hfl1 hN8 hm hn hr hres hu8
  go_enter Tryz.func65, Tryz.ntmps65
  go_wp2_with fail
  rw [Hw0.out]
  clear hb0'
  refine wp_region_held_drew (S := fun Z => Z.cell? ⟨w.heap.size, 0, none⟩ = some (.int .i64 (E : Int)) ∧ Z.cell? ⟨w.heap.size, 1, none⟩ = some (.slice A n c)) (by kernel_rfl) (HS.out w0.drew (Below.refl _ _).drew) (fun hS0 => ?_)
  refine wpAnyH_take (fuel := 10) (i := 0) (v := .pointer (some ⟨w.heap.size, 0, none⟩)) rfl (by kernel_rfl) (by kernel_rfl) (by kernel_rfl) (fun _ _ _ h => h) (Or.inl ⟨by rfl, fun Z hZ => ?_⟩) hS0 ?_
  · obtain ⟨z1, z2⟩ := hZ
    go_simp
  refine wpAnyH_take (fuel := 9) (i := 1) (v := .int .i64 (E : Int)) rfl (by kernel_rfl) (by kernel_rfl) (by kernel_rfl) (fun _ _ _ h => h) (Or.inl ⟨by rfl, fun Z hZ => ?_⟩) hS0 ?_
  · obtain ⟨z1, z2⟩ := hZ
    go_simp
  refine wpAnyH_take (fuel := 8) (i := 4) (v := .pointer (some ⟨w.heap.size, 1, none⟩)) rfl (by kernel_rfl) (by kernel_rfl) (by kernel_rfl) (fun _ _ _ h => h) (Or.inl ⟨by rfl, fun Z hZ => ?_⟩) hS0 ?_
  · obtain ⟨z1, z2⟩ := hZ
    go_simp
  refine wpAnyH_take (fuel := 7) (i := 5) (v := .slice A n c) rfl (by kernel_rfl) (by kernel_rfl) (by kernel_rfl) (fun _ _ _ h => h) (Or.inl ⟨by rfl, fun Z hZ => ?_⟩) hS0 ?_
  · obtain ⟨z1, z2⟩ := hZ
    go_simp
  refine wpAnyH_take (fuel := 6) (i := 6) (v := .int .i64 (n : Int)) rfl (by kernel_rfl) (by kernel_rfl) (by kernel_rfl) (fun _ _ _ h => h) (Or.inl ⟨by rfl, fun Z hZ => ?_⟩) hS0 ?_
  · obtain ⟨z1, z2⟩ := hZ
    go_simp
  refine wpAnyH_take (fuel := 5) (i := 7) (v := .int .u8 (n : Int)) rfl (by kernel_rfl) (by kernel_rfl) (by kernel_rfl) (fun _ _ _ h => h) (Or.inl ⟨by rfl, fun Z hZ => ?_⟩) hS0 ?_
  · obtain ⟨z1, z2⟩ := hZ
    go_simp
  obtain ⟨X0, hX0⟩ : ∃ y, w0.drew = y := ⟨_, rfl⟩
  have hB0 : Below w0.heap.size w0 X0 := by rw [← hX0]; exact (Below.refl _ _).drew
  rw [hX0] at hS0
  have hw0' := hB0.size
  have HX0 := hide hX0
  rw [hX0]
  clear hX0
  refine all_two (fuel := 4) (i := 2) (j := 8) (by kernel_rfl) rfl rfl rfl rfl (fun Kk hK => ?_) (fun Kk hK => ?_)
  · obtain ⟨X1, hY⟩ : ∃ y, X0.alloc (.cells #[.int .i64 (E : Int)] 3) = y := ⟨_, rfl⟩
    obtain ⟨g6, hg⟩ : ∃ y, X0.heap.size = y := ⟨_, rfl⟩
    have hr6 : Rd X1 (some ⟨g6, 0, none⟩) [.int .i64 (E : Int)] := by rw [← hY, ← hg]; exact Rd.newN X0 [.int .i64 (E : Int)] 3 (0, 0)
    have hst : Below X0.heap.size X0 X1 := by rw [← hY]; exact (Below.refl _ _).alloc (Nat.le_refl _) _
    have HY := hide hY
    have Hg := hide hg
    clear hY hg
    go_simp
    rw [HY.out, Hg.out]
    have hB1 := hB0.trans (hst.mono hB0.size)
    have hz1 := hst.size
    have hw1 := hB1.size
    have hS1 := HS.out X1 hB1
    clear hst
    refine hK _ _ ⟨hS1, ?_⟩
    clear hK Kk
    refine all_two (fuel := 3) (i := 3) (j := 8) (by kernel_rfl) rfl rfl rfl rfl (fun Kk hK => ?_) (fun Kk hK => ?_)
    · go_simp
      refine (HI1.out X1 g6 hr6).mono ?_
      rintro e' X2 ⟨v7, rfl, ho7, hst⟩
      have hB2 := hB1.trans (hst.mono hB1.size)
      have hz2 := hst.size
      have hw2 := hB2.size
      have hS2 := HS.out X2 hB2
      replace hr6 := hr6.below hst
      clear hst
      refine hK _ _ ⟨hS2, ?_⟩
      clear hK Kk
      refine all_one (fuel := 2) (i := 8) (by kernel_rfl) rfl rfl (fun Kk hK => ?_)
      obtain ⟨X3, hY⟩ : ∃ y, X2.alloc (.cells #[.int .u8 (n : Int)] 5) = y := ⟨_, rfl⟩
      obtain ⟨g12, hg⟩ : ∃ y, X2.heap.size = y := ⟨_, rfl⟩
      have hr12 : Rd X3 (some ⟨g12, 0, none⟩) [.int .u8 (n : Int)] := by rw [← hY, ← hg]; exact Rd.newN X2 [.int .u8 (n : Int)] 5 (0, 0)
      have hst : Below X2.heap.size X2 X3 := by rw [← hY]; exact (Below.refl _ _).alloc (Nat.le_refl _) _
      have HY := hide hY
      have Hg := hide hg
      clear hY hg
      go_simp
      rw [HY.out, Hg.out]
      have hB3 := hB2.trans (hst.mono hB2.size)
      have hz3 := hst.size
      have hw3 := hB3.size
      have hS3 := HS.out X3 hB3
      replace hr6 := hr6.below hst
      replace ho7 := own_below ho7 hst
      clear hst
      refine hK _ _ ⟨hS3, ?_⟩
      clear hK Kk
      refine all_one (fuel := 1) (i := 9) (by kernel_rfl) rfl rfl (fun Kk hK => ?_)
      refine oper_own rfl tBytes (by rfl) ho7 (A := some ⟨g12, 0, none⟩) (m := 1) (c := 1) (by rfl) (by rfl) hr12 (by intro u hu; simp at hu; subst hu; rfl) (by omega) (by omega) (by omega) ?_
      intro v13 X4 ho13 hgr hkr
      have hB4 := own_grow ho7 hB3 (by omega) (by omega) hgr
      have hS4 := HS.out X4 hB4
      clear hgr hkr
      refine hK _ _ ⟨hS4, ?_⟩
      clear hK Kk
      refine wpAnyH_take (fuel := 0) (i := 10) (v := v13) rfl (by kernel_rfl) (by kernel_rfl) (by kernel_rfl) (fun _ _ _ h => h) (Or.inl ⟨by rfl, fun Z hZ => ?_⟩) hS4 ?_
      · obtain ⟨z1, z2⟩ := hZ
        go_simp
      refine wpAnyH_done (by kernel_rfl) ?_ _
      simp only [Act.put, List.setIfInBounds_toArray, List.set_cons_zero, List.set_cons_succ, List.getElem_toArray, List.getElem_cons_zero, List.getElem_cons_succ]
      have hoL := own_weak ho13 (show w.heap.size ≤ _ by omega)
      rw [← Hu8.out, ← bys_append] at hoL
      obtain ⟨L, hL⟩ : ∃ y, flatB 8 [E] ++ [UInt8.ofNat n] = y := ⟨_, rfl⟩
      have hLl : L.length = 9 := by rw [← hL, List.length_append, flatB_len]; rfl
      have hbw := hb0.trans (hB4.mono (by omega))
      have hL' : flatB (8 : Int).toNat [E] ++ [UInt8.ofNat n] = L := hL
      rw [hL'] at hoL
      have HI4 := hide (HI2.out X4 hbw)
      have hs4 := HS.out X4 hB4
      obtain ⟨zc0, zc1⟩ := hs4
      obtain ⟨A13, c13, rfl, _⟩ := own_out hoL
      have hLL := hide (show L ++ flatB 1 N8 = grpB (E : Int) ms by rw [Hres.out, hL])
      have hwz := hbw.size
      have HbW := hide hbw
      clear ho13 hS4 hL hL' hbw hS0 HS
      go_wp2_with fail
      go_fit HI4.out
      rintro e' X5 ⟨v17, rfl, ho17, hst⟩
      obtain ⟨A17, c17, rfl, _, hc17, hm17, hr17, _⟩ := own_out ho17
      unfold maxLen at hm17
      have hoL5 := own_below hoL hst
      have hw5 := hst.size
      have hb5 := HbW.out.trans (hst.mono hwz)
      clear hst ho17 hoL
      go_wp2_with (first | (with_reducible refine stop_append rfl ?_) | (with_reducible refine stop_copy rfl ?_) | (with_reducible refine stop_make rfl ?_))
      refine go_append rfl rfl tBytes (by rfl) hoL5 (A := A17) (m := n) (c := c17) (by rfl) (by rw [bys_length]; have := Hfl1.out; simpa using this) hr17 (bys_one _) (by omega) (by omega) (by omega) ?_
      intro v18 X6 ho18 hg18 _
      have hb6 := own_grow hoL5 hb5 (Nat.le_refl _) (by omega) hg18
      have ho18' : X6.ownsRow w.heap.size 5 1 v18 (grpB (E : Int) ms).length (bys (grpB (E : Int) ms)) := by
        rw [← hLL.out, bys_append, List.length_append, hLl, show (flatB 1 N8).length = n from Hfl1.out]
        exact ho18
      clear ho18 hoL5 hg18
      go_wp2
      go_ret
      exact ⟨_, rfl, ho18', hb6⟩
    · obtain ⟨X2, hY⟩ : ∃ y, X1.alloc (.cells #[.int .u8 (n : Int)] 5) = y := ⟨_, rfl⟩
      obtain ⟨g12, hg⟩ : ∃ y, X1.heap.size = y := ⟨_, rfl⟩
      have hr12 : Rd X2 (some ⟨g12, 0, none⟩) [.int .u8 (n : Int)] := by rw [← hY, ← hg]; exact Rd.newN X1 [.int .u8 (n : Int)] 5 (0, 0)
      have hst : Below X1.heap.size X1 X2 := by rw [← hY]; exact (Below.refl _ _).alloc (Nat.le_refl _) _
      have HY := hide hY
      have Hg := hide hg
      clear hY hg
      go_simp
      rw [HY.out, Hg.out]
      have hB2 := hB1.trans (hst.mono hB1.size)
      have hz2 := hst.size
      have hw2 := hB2.size
      have hS2 := HS.out X2 hB2
      replace hr6 := hr6.below hst
      clear hst
      refine hK _ _ ⟨hS2, ?_⟩
      clear hK Kk
      refine all_one (fuel := 2) (i := 3) (by kernel_rfl) rfl rfl (fun Kk hK => ?_)
      go_simp
      refine (HI1.out X2 g6 hr6).mono ?_
      rintro e' X3 ⟨v7, rfl, ho7, hst⟩
      have hB3 := hB2.trans (hst.mono hB2.size)
      have hz3 := hst.size
      have hw3 := hB3.size
      have hS3 := HS.out X3 hB3
      replace hr6 := hr6.below hst
      replace hr12 := hr12.below hst
      clear hst
      refine hK _ _ ⟨hS3, ?_⟩
      clear hK Kk
      refine all_one (fuel := 1) (i := 9) (by kernel_rfl) rfl rfl (fun Kk hK => ?_)
      refine oper_own rfl tBytes (by rfl) ho7 (A := some ⟨g12, 0, none⟩) (m := 1) (c := 1) (by rfl) (by rfl) hr12 (by intro u hu; simp at hu; subst hu; rfl) (by omega) (by omega) (by omega) ?_
      intro v13 X4 ho13 hgr hkr
      have hB4 := own_grow ho7 hB3 (by omega) (by omega) hgr
      have hS4 := HS.out X4 hB4
      clear hgr hkr
      refine hK _ _ ⟨hS4, ?_⟩
      clear hK Kk
      refine wpAnyH_take (fuel := 0) (i := 10) (v := v13) rfl (by kernel_rfl) (by kernel_rfl) (by kernel_rfl) (fun _ _ _ h => h) (Or.inl ⟨by rfl, fun Z hZ => ?_⟩) hS4 ?_
      · obtain ⟨z1, z2⟩ := hZ
        go_simp
      refine wpAnyH_done (by kernel_rfl) ?_ _
      simp only [Act.put, List.setIfInBounds_toArray, List.set_cons_zero, List.set_cons_succ, List.getElem_toArray, List.getElem_cons_zero, List.getElem_cons_succ]
      have hoL := own_weak ho13 (show w.heap.size ≤ _ by omega)
      rw [← Hu8.out, ← bys_append] at hoL
      obtain ⟨L, hL⟩ : ∃ y, flatB 8 [E] ++ [UInt8.ofNat n] = y := ⟨_, rfl⟩
      have hLl : L.length = 9 := by rw [← hL, List.length_append, flatB_len]; rfl
      have hbw := hb0.trans (hB4.mono (by omega))
      have hL' : flatB (8 : Int).toNat [E] ++ [UInt8.ofNat n] = L := hL
      rw [hL'] at hoL
      have HI4 := hide (HI2.out X4 hbw)
      have hs4 := HS.out X4 hB4
      obtain ⟨zc0, zc1⟩ := hs4
      obtain ⟨A13, c13, rfl, _⟩ := own_out hoL
      have hLL := hide (show L ++ flatB 1 N8 = grpB (E : Int) ms by rw [Hres.out, hL])
      have hwz := hbw.size
      have HbW := hide hbw
      clear ho13 hS4 hL hL' hbw hS0 HS
      go_wp2_with fail
      go_fit HI4.out
      rintro e' X5 ⟨v17, rfl, ho17, hst⟩
      obtain ⟨A17, c17, rfl, _, hc17, hm17, hr17, _⟩ := own_out ho17
      unfold maxLen at hm17
      have hoL5 := own_below hoL hst
      have hw5 := hst.size
      have hb5 := HbW.out.trans (hst.mono hwz)
      clear hst ho17 hoL
      go_wp2_with (first | (with_reducible refine stop_append rfl ?_) | (with_reducible refine stop_copy rfl ?_) | (with_reducible refine stop_make rfl ?_))
      refine go_append rfl rfl tBytes (by rfl) hoL5 (A := A17) (m := n) (c := c17) (by rfl) (by rw [bys_length]; have := Hfl1.out; simpa using this) hr17 (bys_one _) (by omega) (by omega) (by omega) ?_
      intro v18 X6 ho18 hg18 _
      have hb6 := own_grow hoL5 hb5 (Nat.le_refl _) (by omega) hg18
      have ho18' : X6.ownsRow w.heap.size 5 1 v18 (grpB (E : Int) ms).length (bys (grpB (E : Int) ms)) := by
        rw [← hLL.out, bys_append, List.length_append, hLl, show (flatB 1 N8).length = n from Hfl1.out]
        exact ho18
      clear ho18 hoL5 hg18
      go_wp2
      go_ret
      exact ⟨_, rfl, ho18', hb6⟩
  · obtain ⟨X1, hY⟩ : ∃ y, X0.alloc (.cells #[.int .u8 (n : Int)] 5) = y := ⟨_, rfl⟩
    obtain ⟨g12, hg⟩ : ∃ y, X0.heap.size = y := ⟨_, rfl⟩
    have hr12 : Rd X1 (some ⟨g12, 0, none⟩) [.int .u8 (n : Int)] := by rw [← hY, ← hg]; exact Rd.newN X0 [.int .u8 (n : Int)] 5 (0, 0)
    have hst : Below X0.heap.size X0 X1 := by rw [← hY]; exact (Below.refl _ _).alloc (Nat.le_refl _) _
    have HY := hide hY
    have Hg := hide hg
    clear hY hg
    go_simp
    rw [HY.out, Hg.out]
    have hB1 := hB0.trans (hst.mono hB0.size)
    have hz1 := hst.size
    have hw1 := hB1.size
    have hS1 := HS.out X1 hB1
    clear hst
    refine hK _ _ ⟨hS1, ?_⟩
    clear hK Kk
    refine all_one (fuel := 3) (i := 2) (by kernel_rfl) rfl rfl (fun Kk hK => ?_)
    obtain ⟨X2, hY⟩ : ∃ y, X1.alloc (.cells #[.int .i64 (E : Int)] 3) = y := ⟨_, rfl⟩
    obtain ⟨g6, hg⟩ : ∃ y, X1.heap.size = y := ⟨_, rfl⟩
    have hr6 : Rd X2 (some ⟨g6, 0, none⟩) [.int .i64 (E : Int)] := by rw [← hY, ← hg]; exact Rd.newN X1 [.int .i64 (E : Int)] 3 (0, 0)
    have hst : Below X1.heap.size X1 X2 := by rw [← hY]; exact (Below.refl _ _).alloc (Nat.le_refl _) _
    have HY := hide hY
    have Hg := hide hg
    clear hY hg
    go_simp
    rw [HY.out, Hg.out]
    have hB2 := hB1.trans (hst.mono hB1.size)
    have hz2 := hst.size
    have hw2 := hB2.size
    have hS2 := HS.out X2 hB2
    replace hr12 := hr12.below hst
    clear hst
    refine hK _ _ ⟨hS2, ?_⟩
    clear hK Kk
    refine all_one (fuel := 2) (i := 3) (by kernel_rfl) rfl rfl (fun Kk hK => ?_)
    go_simp
    refine (HI1.out X2 g6 hr6).mono ?_
    rintro e' X3 ⟨v7, rfl, ho7, hst⟩
    have hB3 := hB2.trans (hst.mono hB2.size)
    have hz3 := hst.size
    have hw3 := hB3.size
    have hS3 := HS.out X3 hB3
    replace hr12 := hr12.below hst
    replace hr6 := hr6.below hst
    clear hst
    refine hK _ _ ⟨hS3, ?_⟩
    clear hK Kk
    refine all_one (fuel := 1) (i := 9) (by kernel_rfl) rfl rfl (fun Kk hK => ?_)
    refine oper_own rfl tBytes (by rfl) ho7 (A := some ⟨g12, 0, none⟩) (m := 1) (c := 1) (by rfl) (by rfl) hr12 (by intro u hu; simp at hu; subst hu; rfl) (by omega) (by omega) (by omega) ?_
    intro v13 X4 ho13 hgr hkr
    have hB4 := own_grow ho7 hB3 (by omega) (by omega) hgr
    have hS4 := HS.out X4 hB4
    clear hgr hkr
    refine hK _ _ ⟨hS4, ?_⟩
    clear hK Kk
    refine wpAnyH_take (fuel := 0) (i := 10) (v := v13) rfl (by kernel_rfl) (by kernel_rfl) (by kernel_rfl) (fun _ _ _ h => h) (Or.inl ⟨by rfl, fun Z hZ => ?_⟩) hS4 ?_
    · obtain ⟨z1, z2⟩ := hZ
      go_simp
    refine wpAnyH_done (by kernel_rfl) ?_ _
    simp only [Act.put, List.setIfInBounds_toArray, List.set_cons_zero, List.set_cons_succ, List.getElem_toArray, List.getElem_cons_zero, List.getElem_cons_succ]
    have hoL := own_weak ho13 (show w.heap.size ≤ _ by omega)
    rw [← Hu8.out, ← bys_append] at hoL
    obtain ⟨L, hL⟩ : ∃ y, flatB 8 [E] ++ [UInt8.ofNat n] = y := ⟨_, rfl⟩
    have hLl : L.length = 9 := by rw [← hL, List.length_append, flatB_len]; rfl
    have hbw := hb0.trans (hB4.mono (by omega))
    have hL' : flatB (8 : Int).toNat [E] ++ [UInt8.ofNat n] = L := hL
    rw [hL'] at hoL
    have HI4 := hide (HI2.out X4 hbw)
    have hs4 := HS.out X4 hB4
    obtain ⟨zc0, zc1⟩ := hs4
    obtain ⟨A13, c13, rfl, _⟩ := own_out hoL
    have hLL := hide (show L ++ flatB 1 N8 = grpB (E : Int) ms by rw [Hres.out, hL])
    have hwz := hbw.size
    have HbW := hide hbw
    clear ho13 hS4 hL hL' hbw hS0 HS
    go_wp2_with fail
    go_fit HI4.out
    rintro e' X5 ⟨v17, rfl, ho17, hst⟩
    obtain ⟨A17, c17, rfl, _, hc17, hm17, hr17, _⟩ := own_out ho17
    unfold maxLen at hm17
    have hoL5 := own_below hoL hst
    have hw5 := hst.size
    have hb5 := HbW.out.trans (hst.mono hwz)
    clear hst ho17 hoL
    go_wp2_with (first | (with_reducible refine stop_append rfl ?_) | (with_reducible refine stop_copy rfl ?_) | (with_reducible refine stop_make rfl ?_))
    refine go_append rfl rfl tBytes (by rfl) hoL5 (A := A17) (m := n) (c := c17) (by rfl) (by rw [bys_length]; have := Hfl1.out; simpa using this) hr17 (bys_one _) (by omega) (by omega) (by omega) ?_
    intro v18 X6 ho18 hg18 _
    have hb6 := own_grow hoL5 hb5 (Nat.le_refl _) (by omega) hg18
    have ho18' : X6.ownsRow w.heap.size 5 1 v18 (grpB (E : Int) ms).length (bys (grpB (E : Int) ms)) := by
      rw [← hLL.out, bys_append, List.length_append, hLl, show (flatB 1 N8).length = n from Hfl1.out]
      exact ho18
    clear ho18 hoL5 hg18
    go_wp2
    go_ret
    exact ⟨_, rfl, ho18', hb6⟩
end Go.Proofs.YtkknkdjdneldlaaGreat
namespace Go.Proofs.YtkknkdjdneldlaaGreat
set_option maxRecDepth 20000
open Go.RowKit Go.Px
set_option linter.unusedVariables false
set_option linter.unusedSimpArgs false
def iw7 (v : Nat) : Int := wrap64 (v : Int)
theorem iw7_in {v : Nat} (h : v < 9223372036854775808) : iw7 v = (v : Int) := by unfold iw7 wrap64; omega
theorem own_frX {X : Nat → Prop} {w w' : World} {base e size n : Nat} {v : Value} {xs : List Value} (h : w.ownsRow base e size v n xs) (hf : Fr X w w') (hx : ∀ g, v.ownBlock = some g → ¬ X g) : w'.ownsRow base e size v n xs := by
  refine ⟨h.1, ?_⟩
  rcases h.2 with h2 | ⟨g, cap, cur, hv, hbg, hg, r⟩
  · exact .inl h2
  · exact .inr ⟨g, cap, cur, hv, hbg, (hf.blk g (Array.getElem?_eq_some_iff.1 hg).1 (hx g (by rw [hv]; rfl))).trans hg, r⟩
section
variable (b : Nat) (T : TypeId) (A : Option Addr) (m c : Nat) (bs : List UInt8) (a n : Nat) (w : World) (hB : Blk w b [.slice A m c, .int .i64 (a : Int)] T) (hm : bs.length = m) (hmc : m ≤ c) (hm8 : m ≤ 140737488355328) (hc : c ≤ 9223372036854775807) (hr : Rd w A (bys bs)) (ha : a ≤ m) (hn : 1 ≤ n ∧ n ≤ 8)
include hB hm hmc hm8 hc hr ha hn
set_option maxHeartbeats 800000 in
theorem lintw_any (hle : a + n ≤ m) : Calls Tryz.prog 130 #[.pointer (some ⟨b, 0, none⟩), .int .i64 (n : Int)] w fun e w' => e = .returned (.int .i64 (iw7 (getV bs (a : Int) (n : Int)))) ∧ Blk w' b [.slice A m c, .int .i64 ((a + n : Nat) : Int)] T ∧ Fr (fun k => k = b) w w' := by
  have hE : getE bs (a : Int) (n : Int) = 0 := long_get bs _ _ (by omega) (by omega) (by omega) (by omega)
  have H := hide (lnum_any b T A m c bs (a : Int) (n : Int) (getV bs (a : Int) (n : Int)) ((a + n : Nat) : Int) w hB hm hmc hc hr (by omega) (by omega) hE rfl (by rw [getI_of hE]; omega))
  have HB := hide (fun q (k : Value) => Blk.set (w := w.drewN q) hB 1 k)
  have hfr : ∀ q (u : Value), Fr (fun k => k = b) w ((w.drewN q).setCell ⟨b, 1, none⟩ u) := fun q u => Fr.of_grown (gset4 (grown_drewN w (some b) q) 1 u) (fun k e => by injection e with e; exact e.symm)
  have HF := hide hfr
  generalize getV bs (a : Int) (n : Int) = v at H
  have hiw : iw7 v = wrap64 (v : Int) := rfl
  rw [hiw]
  clear hE hm hB hfr hiw
  go_enter Tryz.func130, Tryz.ntmps130
  go_wp2_with fail
  refine H.out.mono ?_
  rintro e w' ⟨q, rfl, rfl⟩
  go_wp2
  go_ret
  exact ⟨rfl, HB.out q _, HF.out q _⟩
theorem lnumw_any (hle : a + n ≤ m) : Calls Tryz.prog 129 #[.pointer (some ⟨b, 0, none⟩), .int .i64 (n : Int)] w fun e w' => e = .returned (.int .u64 (getV bs (a : Int) (n : Int))) ∧ Blk w' b [.slice A m c, .int .i64 ((a + n : Nat) : Int)] T ∧ Fr (fun k => k = b) w w' := by
  have hE : getE bs (a : Int) (n : Int) = 0 := long_get bs _ _ (by omega) (by omega) (by omega) (by omega)
  refine (lnumG b T A m c bs (a : Int) (n : Int) (getV bs (a : Int) (n : Int)) ((a + n : Nat) : Int) w hB hm hmc hc hr (by omega) (by omega) hE rfl (by rw [getI_of hE]; omega)).mono ?_
  rintro e w' ⟨rfl, hb, hg⟩
  exact ⟨rfl, hb, Fr.of_grown hg (fun k e => by injection e with e; exact e.symm)⟩
theorem lintw_bad (hle : m < a + n) : Calls Tryz.prog 130 #[.pointer (some ⟨b, 0, none⟩), .int .i64 (n : Int)] w fun e w' => e = .panicked (stopped 10) ∧ Fr (fun k => k = b) w w' := by
  have hE : getE bs (a : Int) (n : Int) = 10 := short_get bs _ _ (by omega) (by omega) (by omega) (by omega) (by omega)
  refine (lint_bad b T A m c bs (a : Int) (n : Int) 10 w hB hm hmc hc hr (by omega) (by omega) hE (by decide)).mono ?_
  rintro e w' ⟨rfl, hg⟩
  exact ⟨rfl, Fr.of_grown hg (fun k e => by injection e with e; exact e.symm)⟩
theorem lnumw_bad (hle : m < a + n) : Calls Tryz.prog 129 #[.pointer (some ⟨b, 0, none⟩), .int .i64 (n : Int)] w fun e w' => e = .panicked (stopped 10) ∧ Fr (fun k => k = b) w w' := by
  have hE : getE bs (a : Int) (n : Int) = 10 := short_get bs _ _ (by omega) (by omega) (by omega) (by omega) (by omega)
  refine (lnum_bad b T A m c bs (a : Int) (n : Int) 10 w hB hm hmc hc hr (by omega) (by omega) hE (by decide)).mono ?_
  rintro e w' ⟨rfl, hg⟩
  exact ⟨rfl, Fr.of_grown hg (fun k e => by injection e with e; exact e.symm)⟩
end
/-- The members of a group that stands in bytes. -/
def memB (bs : List UInt8) (a n : Nat) : List Int := (List.range n).map fun k => ((getV bs ((a + k : Nat) : Int) 1 : Nat) : Int)
theorem memB_len (bs : List UInt8) (a n : Nat) : (memB bs a n).length = n := by unfold memB; simp
theorem memB_succ (bs : List UInt8) (a n : Nat) : memB bs a (n + 1) = memB bs a n ++ [((getV bs ((a + n : Nat) : Int) 1 : Nat) : Int)] := by unfold memB; rw [List.range_succ, List.map_append]; rfl
/-- Does a group stand there whole? -/
def grpFits (bs : List UInt8) (a : Nat) : Prop := a + 9 + getV bs ((a + 8 : Nat) : Int) 1 ≤ bs.length
def GrpRd (b : Nat) (T : TypeId) (A : Option Addr) (m c : Nat) (bs : List UInt8) (a : Nat) (w : World) (e : Ending) (w' : World) : Prop :=
  Fr (fun k => k = b) w w' ∧ ((grpFits bs a ∧ ∃ M mc, e = .returned (grp (iw7 (getV bs (a : Int) 8)) M (getV bs ((a + 8 : Nat) : Int) 1) mc) ∧ w'.ownsRow w.heap.size 3 1 (.slice M (getV bs ((a + 8 : Nat) : Int) 1) mc) (getV bs ((a + 8 : Nat) : Int) 1) (ints (memB bs (a + 9) (getV bs ((a + 8 : Nat) : Int) 1))) ∧ Blk w' b [.slice A m c, .int .i64 ((a + 9 + getV bs ((a + 8 : Nat) : Int) 1 : Nat) : Int)] T) ∨ (¬ grpFits bs a ∧ e = .panicked (stopped 10)))
set_option maxRecDepth 20000 in
set_option maxHeartbeats 3200000 in
theorem lgroup_any (b : Nat) (T : TypeId) (A : Option Addr) (m c : Nat) (bs : List UInt8) (a : Nat) (w : World) (hB : Blk w b [.slice A m c, .int .i64 (a : Int)] T) (hm : bs.length = m) (hmc : m ≤ c) (hm8 : m ≤ 140737488355328) (hc : c ≤ 9223372036854775807) (hr : Rd w A (bys bs)) (hA : bys bs ≠ [] → ∀ p, A = some p → p.block ≠ b ∧ p.block < w.heap.size) (ha : a ≤ m) :
    Calls Tryz.prog 134 #[.pointer (some ⟨b, 0, none⟩)] w (GrpRd b T A m c bs a w) := by
  have hbl := hB.lt
  obtain ⟨g, hg⟩ : ∃ g, w.heap.size = g := ⟨_, rfl⟩
  obtain ⟨w0, hw0⟩ : ∃ y, w.alloc (.cells #[.int .i64 0, .slice none 0 0] 28) = y := ⟨_, rfl⟩
  have hR0 : Blk w0 g [.int .i64 0, .slice none 0 0] 28 := by rw [← hw0, ← hg]; exact Blk.new w _ _
  have hb0 : Below w.heap.size w w0 := by rw [← hw0]; exact (Below.refl _ _).alloc (Nat.le_refl _) _
  have hz0 : w0.heap.size = g + 1 := by rw [← hw0, ← hg]; simp
  have hB0 := hB.below hb0
  have hr0 := hr.below hb0
  have hF0 : Fr (fun k => k = b) w w0 := Fr.of_below hb0
  rw [hg] at hA hbl
  have hAb : bys bs ≠ [] → ∀ p, A = some p → ¬ (fun k => k = b) p.block := fun hne p hp => (hA hne p hp).1
  have HAb := hide hAb
  have Hw0 := hide hw0
  have Hg := hide hg
  have Hm := hide hm
  have hFits : grpFits bs a ↔ a + 9 + getV bs ((a + 8 : Nat) : Int) 1 ≤ m := by unfold grpFits; rw [hm]
  have HFits := hide hFits
  clear hw0 hg hm hB hr hb0 hAb hFits
  by_cases h8 : m < a + 8
  · have HI := hide (lintw_bad b T A m c bs a 8 w0 hB0 Hm.out hmc hm8 hc hr0 ha (by omega) h8)
    clear hB0 hr0 hR0
    go_enter Tryz.func134, Tryz.ntmps134
    go_wp2_with fail
    rw [Hw0.out]
    go_fit HI.out
    rintro e w1 ⟨rfl, hF1⟩
    exact ⟨rfl, hF0.trans hF1, .inr ⟨fun h => by have := HFits.out.1 h; omega, rfl⟩⟩
  have HI := hide (lintw_any b T A m c bs a 8 w0 hB0 Hm.out hmc hm8 hc hr0 ha (by omega) (by omega))
  have HA := hide hA
  have HX := hide (And.intro hR0 (And.intro hr0 hF0))
  clear hB0 hr0 hR0 hF0 hA
  obtain ⟨E, hE⟩ : ∃ y, iw7 (getV bs (a : Int) 8) = y := ⟨_, rfl⟩
  obtain ⟨n, hn⟩ : ∃ y, getV bs ((a + 8 : Nat) : Int) 1 = y := ⟨_, rfl⟩
  have hn256 : n < 256 := by rw [← hn]; exact getV_1 bs _
  have HE : Hid (iw7 (getV bs (a : Int) ((8 : Nat) : Int)) = E) := hide hE
  have hGR : ∀ e w', GrpRd b T A m c bs a w e w' ↔ (Fr (fun k => k = b) w w' ∧ ((grpFits bs a ∧ ∃ M mc, e = .returned (grp E M n mc) ∧ w'.ownsRow w.heap.size 3 1 (.slice M n mc) n (ints (memB bs (a + 9) n)) ∧ Blk w' b [.slice A m c, .int .i64 ((a + 9 + n : Nat) : Int)] T) ∨ (¬ grpFits bs a ∧ e = .panicked (stopped 10)))) := fun e w' => by unfold GrpRd; rw [hE, hn]
  rw [hn] at HFits
  have HN : Hid (getV bs ((a + 8 : Nat) : Int) ((1 : Nat) : Int) = n) := hide hn
  have HGR := hide hGR
  clear hE hn hGR
  rw [show GrpRd b T A m c bs a w = fun e w' => (Fr (fun k => k = b) w w' ∧ ((grpFits bs a ∧ ∃ M mc, e = .returned (grp E M n mc) ∧ w'.ownsRow w.heap.size 3 1 (.slice M n mc) n (ints (memB bs (a + 9) n)) ∧ Blk w' b [.slice A m c, .int .i64 ((a + 9 + n : Nat) : Int)] T) ∨ (¬ grpFits bs a ∧ e = .panicked (stopped 10)))) from funext fun e => funext fun w' => propext (HGR.out e w')]
  clear HGR
  rw [HE.out] at HI
  go_enter Tryz.func134, Tryz.ntmps134
  go_wp2_with fail
  rw [Hw0.out]
  try rw [Hg.out]
  go_fit HI.out
  rintro e w1 ⟨rfl, hB1, hF1⟩
  have hz1 := hF1.size
  obtain ⟨g3, hg3⟩ : ∃ y, w1.heap.size = y := ⟨_, rfl⟩
  obtain ⟨w2, hw2⟩ : ∃ y, w1.alloc (.cells #[.int .i64 E, .slice none 0 0] 28) = y := ⟨_, rfl⟩
  have hG2 : Blk w2 g3 [.int .i64 E, .slice none 0 0] 28 := by rw [← hw2, ← hg3]; exact Blk.new w1 _ _
  have hb12 : Below w1.heap.size w1 w2 := by rw [← hw2]; exact (Below.refl _ _).alloc (Nat.le_refl _) _
  have hz2 : w2.heap.size = g3 + 1 := by rw [← hw2, ← hg3]; simp
  have hgg3 : g < g3 := by omega
  have hR2 := (HX.out.1.fr hF1 (fun h => by have h : g = b := h; omega)).below hb12
  have hr2 := (HX.out.2.1.fr hF1 HAb.out).below hb12
  have hF2 := (HX.out.2.2.trans hF1).trans (Fr.of_below hb12)
  have hB2 := hB1.below hb12
  have Hw2 := hide hw2
  have Hg3 := hide hg3
  clear HX HI hB1 hF1 hw2 hg3 hb12
  by_cases h9 : m < a + 9
  · have HI := hide (lnumw_bad b T A m c bs (a + 8) 1 w2 hB2 Hm.out hmc hm8 hc hr2 (by omega) (by omega) (by omega))
    clear hB2 hr2 hR2 hG2
    go_wp2_with fail
    rw [Hw2.out]
    try rw [Hg3.out]
    go_fit HI.out
    rintro e w3 ⟨rfl, hF3⟩
    exact ⟨rfl, hF2.trans hF3, .inr ⟨fun h => by have := HFits.out.1 h; omega, rfl⟩⟩
  have HI := lnumw_any b T A m c bs (a + 8) 1 w2 hB2 Hm.out hmc hm8 hc hr2 (by omega) (by omega) (by omega)
  rw [HN.out] at HI
  have HI := hide HI
  have HX := hide (And.intro hR2 (And.intro hr2 (And.intro hF2 hG2)))
  clear hB2 hr2 hR2 hF2 hG2
  go_wp2_with fail
  rw [Hw2.out]
  try rw [Hg3.out]
  go_fit HI.out
  rintro e w3 ⟨rfl, hB3, hF3⟩
  have hz3 := hF3.size
  have hR3 := HX.out.1.fr hF3 (fun h => by have h : g = b := h; omega)
  have hr3 := HX.out.2.1.fr hF3 HAb.out
  have hG3 := HX.out.2.2.2.fr hF3 (fun h => by have h : g3 = b := h; omega)
  have hF03 := HX.out.2.2.1.trans hF3
  clear HX HI hF3
  go_wp2_with fail
  go_loopw [9] (fun v W => ∃ (k : Nat) (M : Option Addr) (mc : Nat), v = .int .u64 (k : Int) ∧ k ≤ n ∧ a + 9 + k ≤ m ∧ W.ownsRow (g3 + 1) 3 1 (.slice M k mc) k (ints (memB bs (a + 9) k)) ∧ Blk W g [.int .i64 0, .slice none 0 0] 28 ∧ Blk W g3 [.int .i64 E, .slice M k mc] 28 ∧ Blk W b [.slice A m c, .int .i64 ((a + 9 + k : Nat) : Int)] T ∧ Rd W A (bys bs) ∧ Fr (fun k => k = b) w W ∧ g3 + 1 ≤ W.heap.size) (fun v _ => n - (intOf v).toNat)
  case atStart => exact ⟨0, none, 0, rfl, by omega, by omega, World.ownsRow_nil _ _ _ _, hR3, hG3, hB3, hr3, hF03, by omega⟩
  case round =>
    clear hR3 hr3 hG3 hF03 hB3 hz3
    obtain ⟨k, M, mc, rfl, hkn, hkm, hO, hRw, hGw, hBw, hrw, hFw, hgw⟩ := hrel
    by_cases hlt : k < n
    · have hq : decide ((k : Int) < (n : Int)) = true := decide_eq_true (by omega)
      have hMb : ∀ x, (Value.slice M k mc).ownBlock = some x → g3 + 1 ≤ x ∧ x < wr.heap.size := fun x hx => by
        obtain ⟨_, _, hv, _, _, _, _, hlo⟩ := own_out hO
        injection hv with h1 h2 h3
        subst h1
        cases M with
        | none => simp [Value.ownBlock] at hx
        | some p => simp only [Value.ownBlock, Option.some.injEq] at hx; have := hlo p rfl; omega
      have HMb := hide hMb
      clear hMb
      by_cases hfit : m < a + 9 + k + 1
      · have HIB := hide (fun X (hX : Fr (fun k => k = b) wr X) => lintw_bad b T A m c bs (a + 9 + k) 1 X)
        have HW := hide (And.intro hO (And.intro hRw (And.intro hFw hBw)))
        have Hrw := hide hrw
        have HGw := hide hGw
        clear hO hRw hFw hBw hrw hGw
        go_wp2_with fail
        refine wp_region_any (by kernel_rfl) ?_
        show wpAny _ _ _ _ _ _ _ wr.drew
        refine wpAny_take (fuel := 7) (i := 0) (v := .pointer (some ⟨g3, 1, none⟩)) rfl (by kernel_rfl) (by kernel_rfl) (by kernel_rfl) (fun _ _ _ h => h) (Or.inl ⟨by rfl, fun Z => ?_⟩) ?_
        · go_simp
        refine wpAny_take (fuel := 6) (i := 2) (v := .pointer (some ⟨b, 0, none⟩)) rfl (by kernel_rfl) (by kernel_rfl) (by kernel_rfl) (fun _ _ _ h => h) (Or.inl ⟨by rfl, fun Z => ?_⟩) ?_
        · go_simp
        obtain ⟨X0, hX0⟩ : ∃ y, wr.drew = y := ⟨_, rfl⟩
        have hF0 : Fr (fun k => k = b) wr X0 := by rw [← hX0]; exact (Fr.refl _ _).drew
        have hG := HGw.out.fr hF0 (fun h => by have h : g3 = b := h; omega)
        have hBx : Blk X0 b [.slice A m c, .int .i64 ((a + 9 + k : Nat) : Int)] T := by rw [← hX0]; exact HW.out.2.2.2
        have hrx := Hrw.out.fr hF0 HAb.out
        have hOx := own_frX HW.out.1 hF0 (fun x hx h => by have h : x = b := h; have := HMb.out x hx; omega)
        rw [hX0]
        have HX0 := hide hX0
        clear hX0
        refine any_two (fuel := 5) (i := 1) (j := 3) (by kernel_rfl) rfl rfl rfl rfl (fun Kk hK => ?_) (fun Kk hK => ?_)
        · have x1 := hG.cell (j := 1) rfl
          go_simp
          clear x1
          refine hK _ _ ?_
          clear hK Kk
          refine any_one (fuel := 4) (i := 3) (by kernel_rfl) rfl rfl (fun Kk hK => ?_)
          go_simp
          refine (HIB.out X0 hF0 hBx Hm.out hmc hm8 hc hrx (by omega) (by omega) (by omega)).mono ?_
          rintro e' X1 ⟨rfl, hFb⟩
          exact ⟨rfl, (HW.out.2.2.1.trans hF0).trans hFb, .inr ⟨fun h => by have := HFits.out.1 h; omega, rfl⟩⟩
        · go_simp
          refine (HIB.out X0 hF0 hBx Hm.out hmc hm8 hc hrx (by omega) (by omega) (by omega)).mono ?_
          rintro e' X1 ⟨rfl, hFb⟩
          exact ⟨rfl, (HW.out.2.2.1.trans hF0).trans hFb, .inr ⟨fun h => by have := HFits.out.1 h; omega, rfl⟩⟩
      · have hfit' : a + 9 + k + 1 ≤ m := by omega
        have HW := hide (And.intro hO (And.intro hRw (And.intro hFw hBw)))
        have Hrw := hide hrw
        have HGw := hide hGw
        obtain ⟨v, hv⟩ : ∃ y, getV bs ((a + 9 + k : Nat) : Int) 1 = y := ⟨_, rfl⟩
        have hv256 : v < 256 := by rw [← hv]; exact getV_1 bs _
        have hiw : iw7 v = (v : Int) := iw7_in (by omega)
        have hmem : memB bs (a + 9) (k + 1) = memB bs (a + 9) k ++ [(v : Int)] := by rw [memB_succ, hv]
        have HV : Hid (getV bs ((a + 9 + k : Nat) : Int) ((1 : Nat) : Int) = v) := hide hv
        have Hmem := hide hmem
        have Hiw := hide hiw
        clear hO hRw hFw hBw hrw hGw hv hiw hmem
        go_wp2_with fail
        refine wp_region_any (by kernel_rfl) ?_
        show wpAny _ _ _ _ _ _ _ wr.drew
        refine wpAny_take (fuel := 7) (i := 0) (v := .pointer (some ⟨g3, 1, none⟩)) rfl (by kernel_rfl) (by kernel_rfl) (by kernel_rfl) (fun _ _ _ h => h) (Or.inl ⟨by rfl, fun Z => ?_⟩) ?_
        · go_simp
        refine wpAny_take (fuel := 6) (i := 2) (v := .pointer (some ⟨b, 0, none⟩)) rfl (by kernel_rfl) (by kernel_rfl) (by kernel_rfl) (fun _ _ _ h => h) (Or.inl ⟨by rfl, fun Z => ?_⟩) ?_
        · go_simp
        obtain ⟨X0, hX0⟩ : ∃ y, wr.drew = y := ⟨_, rfl⟩
        have hF0 : Fr (fun k => k = b) wr X0 := by rw [← hX0]; exact (Fr.refl _ _).drew
        have hG := HGw.out.fr hF0 (fun h => by have h : g3 = b := h; omega)
        have hBx : Blk X0 b [.slice A m c, .int .i64 ((a + 9 + k : Nat) : Int)] T := by rw [← hX0]; exact HW.out.2.2.2
        have hrx := Hrw.out.fr hF0 HAb.out
        have hOx := own_frX HW.out.1 hF0 (fun x hx h => by have h : x = b := h; have := HMb.out x hx; omega)
        rw [hX0]
        have HX0 := hide hX0
        clear hX0
        refine any_two (fuel := 5) (i := 1) (j := 3) (by kernel_rfl) rfl rfl rfl rfl (fun Kk hK => ?_) (fun Kk hK => ?_)
        · have x1 := hG.cell (j := 1) rfl
          go_simp
          clear x1
          refine hK _ _ ?_
          clear hK Kk
          refine any_one (fuel := 4) (i := 3) (by kernel_rfl) rfl rfl (fun Kk hK => ?_)
          have HC := lintw_any b T A m c bs (a + 9 + k) 1 X0 hBx Hm.out hmc hm8 hc hrx (by omega) (by omega) (by omega)
          rw [HV.out, Hiw.out] at HC
          go_simp
          refine HC.mono ?_
          rintro e' X1 ⟨rfl, hBy, hFy⟩
          replace hG := hG.fr hFy (fun h => by have h : g3 = b := h; omega)
          replace hrx := hrx.fr hFy HAb.out
          have hOy := own_frX hOx hFy (fun x hx h => by have h : x = b := h; have := HMb.out x hx; omega)
          have hFz := hF0.trans hFy
          have hzY := hFy.size
          clear HC hFy hBx
          refine hK _ _ ?_
          clear hK Kk
          refine any_one (fuel := 3) (i := 4) (by kernel_rfl) rfl rfl (fun Kk hK => ?_)
          obtain ⟨X2, hY⟩ : ∃ y, X1.alloc (.cells #[.int .i64 (v : Int)] 3) = y := ⟨_, rfl⟩
          obtain ⟨g15, hg15⟩ : ∃ y, X1.heap.size = y := ⟨_, rfl⟩
          have hr15 : Rd X2 (some ⟨g15, 0, none⟩) [.int .i64 (v : Int)] := by rw [← hY, ← hg15]; exact Rd.new1 X1 _ _
          have hst : Below X1.heap.size X1 X2 := by rw [← hY]; exact (Below.refl _ _).alloc (Nat.le_refl _) _
          replace hG := hG.below hst
          replace hrx := hrx.below hst
          replace hOy := own_below hOy hst
          replace hBy := hBy.below hst
          replace hFz := hFz.trans (Fr.of_below hst)
          have hzB := hst.size
          have HY := hide hY
          have Hg15 := hide hg15
          clear hY hg15 hst
          go_simp
          rw [HY.out, Hg15.out]
          refine hK _ _ ?_
          clear hK Kk
          refine any_one (fuel := 2) (i := 5) (by kernel_rfl) rfl rfl (fun Kk hK => ?_)
          have hz0 := hFz.size
          refine oper_own rfl tInts (base := g3 + 1) (e := 3) (by rfl) hOy (A := some ⟨g15, 0, none⟩) (m := 1) (c := 1) (by rfl) (by rfl) hr15 (by intro u hu; simp at hu; subst hu; rfl) (by omega) (by omega) (by omega) ?_
          intro v16 X3 ho16 hgr hkr
          obtain ⟨M', mc', rfl, _⟩ := own_out ho16
          have hfA : Fr (fun x => g3 < x ∧ x ≠ b) X2 X3 := Fr.of_grown hgr (fun x hx => by have := HMb.out x hx; omega)
          replace hG := hG.fr hfA (fun h => by have := h.1; omega)
          have hBz := hBy.fr hfA (fun h => h.2 rfl)
          have hRz := (HW.out.2.1.fr hFz (fun h => by have h : g = b := h; omega)).fr hfA (fun h => by have := h.1; omega)
          have hrz := hrx.fr hfA (fun hne p hp h => by have := HA.out hne p hp; have := h.1; omega)
          have hFw' := (HW.out.2.2.1.trans hFz).trans' hfA (fun x hx => .inr (by have := hx.1; have := Hg.out; omega))
          have hzA := hfA.size
          have x1 := hG.cell (j := 1) rfl
          have f1 := hG.frozen 1
          clear hfA hBy hrx hOy hgr hkr
          refine hK _ _ ?_
          clear hK Kk
          refine wpAny_take (fuel := 1) (i := 6) (v := .pointer (some ⟨g3, 1, none⟩)) rfl (by kernel_rfl) (by kernel_rfl) (by kernel_rfl) (fun _ _ _ h => h) (Or.inl ⟨by rfl, fun Z => ?_⟩) ?_
          · go_simp
          refine any_one (fuel := 0) (i := 7) (by kernel_rfl) rfl rfl (fun Kk hK => ?_)
          obtain ⟨X4, hY⟩ : ∃ y, X3.setCell ⟨g3, 1, none⟩ (.slice M' (k + 1) mc') = y := ⟨_, rfl⟩
          have hfS : Fr (fun x => x = g3) X3 X4 := by rw [← hY]; exact Fr.set (X := fun x => x = g3) X3 ⟨g3, 1, none⟩ _ rfl
          have hGy : Blk X4 g3 [.int .i64 E, .slice M' (k + 1) mc'] 28 := by rw [← hY]; exact hG.set 1 _
          have hBy := hBz.fr hfS (fun h => by have h : b = g3 := h; omega)
          have hRy := hRz.fr hfS (fun h => by have h : g = g3 := h; omega)
          have hry := hrz.fr hfS (fun hne p hp h => by have h : p.block = g3 := h; have := HA.out hne p hp; omega)
          have hOy := own_frX ho16 hfS (fun x hx h => by
            have h : x = g3 := h
            obtain ⟨_, _, hv, _, _, _, _, hlo⟩ := own_out ho16
            injection hv with h1 h2 h3
            subst h1
            cases M' with
            | none => simp [Value.ownBlock] at hx
            | some p => simp only [Value.ownBlock, Option.some.injEq] at hx; have := hlo p rfl; omega)
          have hFy := hFw'.trans' hfS (fun x hx => .inr (by have hx : x = g3 := hx; have := Hg.out; omega))
          have hzS := hfS.size
          have HY := hide hY
          clear hY hfS
          go_simp
          rw [HY.out]
          clear x1 f1 hG hBz hRz hrz ho16 hFw' 
          refine hK _ _ ?_
          clear hK Kk
          refine wpAny_done (by kernel_rfl) ?_ _
          try simp only [Act.put, List.setIfInBounds_toArray, List.set_cons_zero, List.set_cons_succ, List.getElem_toArray, List.getElem_cons_zero, List.getElem_cons_succ]
          have hO2 : X4.ownsRow (g3 + 1) 3 1 (.slice M' (k + 1) mc') (k + 1) (ints (memB bs (a + 9) (k + 1))) := by rw [Hmem.out]; simpa [ints] using hOy
          have hB2 : Blk X4 b [.slice A m c, .int .i64 ((a + 9 + (k + 1) : Nat) : Int)] T := hBy
          have HE2 := hide (And.intro hO2 (And.intro hRy (And.intro hGy (And.intro hB2 (And.intro hry hFy)))))
          clear hO2 hRy hGy hB2 hry hFy hOy hBy HW Hrw HGw
          go_wp2
          go_roundw
          case rel => exact ⟨k + 1, M', mc', by go_num, by omega, by omega, HE2.out.1, HE2.out.2.1, HE2.out.2.2.1, HE2.out.2.2.2.1, HE2.out.2.2.2.2.1, HE2.out.2.2.2.2.2, by omega⟩
          case measure => simp [intOf]; omega
        · have HC := lintw_any b T A m c bs (a + 9 + k) 1 X0 hBx Hm.out hmc hm8 hc hrx (by omega) (by omega) (by omega)
          rw [HV.out, Hiw.out] at HC
          go_simp
          refine HC.mono ?_
          rintro e' X1 ⟨rfl, hBy, hFy⟩
          replace hG := hG.fr hFy (fun h => by have h : g3 = b := h; omega)
          replace hrx := hrx.fr hFy HAb.out
          have hOy := own_frX hOx hFy (fun x hx h => by have h : x = b := h; have := HMb.out x hx; omega)
          have hFz := hF0.trans hFy
          have hzY := hFy.size
          clear HC hFy hBx
          refine hK _ _ ?_
          clear hK Kk
          refine any_two (fuel := 4) (i := 1) (j := 4) (by kernel_rfl) rfl rfl rfl rfl (fun Kk hK => ?_) (fun Kk hK => ?_)
          · have x1 := hG.cell (j := 1) rfl
            go_simp
            clear x1
            refine hK _ _ ?_
            clear hK Kk
            refine any_one (fuel := 3) (i := 4) (by kernel_rfl) rfl rfl (fun Kk hK => ?_)
            obtain ⟨X2, hY⟩ : ∃ y, X1.alloc (.cells #[.int .i64 (v : Int)] 3) = y := ⟨_, rfl⟩
            obtain ⟨g15, hg15⟩ : ∃ y, X1.heap.size = y := ⟨_, rfl⟩
            have hr15 : Rd X2 (some ⟨g15, 0, none⟩) [.int .i64 (v : Int)] := by rw [← hY, ← hg15]; exact Rd.new1 X1 _ _
            have hst : Below X1.heap.size X1 X2 := by rw [← hY]; exact (Below.refl _ _).alloc (Nat.le_refl _) _
            replace hG := hG.below hst
            replace hrx := hrx.below hst
            replace hOy := own_below hOy hst
            replace hBy := hBy.below hst
            replace hFz := hFz.trans (Fr.of_below hst)
            have hzB := hst.size
            have HY := hide hY
            have Hg15 := hide hg15
            clear hY hg15 hst
            go_simp
            rw [HY.out, Hg15.out]
            refine hK _ _ ?_
            clear hK Kk
            refine any_one (fuel := 2) (i := 5) (by kernel_rfl) rfl rfl (fun Kk hK => ?_)
            have hz0 := hFz.size
            refine oper_own rfl tInts (base := g3 + 1) (e := 3) (by rfl) hOy (A := some ⟨g15, 0, none⟩) (m := 1) (c := 1) (by rfl) (by rfl) hr15 (by intro u hu; simp at hu; subst hu; rfl) (by omega) (by omega) (by omega) ?_
            intro v16 X3 ho16 hgr hkr
            obtain ⟨M', mc', rfl, _⟩ := own_out ho16
            have hfA : Fr (fun x => g3 < x ∧ x ≠ b) X2 X3 := Fr.of_grown hgr (fun x hx => by have := HMb.out x hx; omega)
            replace hG := hG.fr hfA (fun h => by have := h.1; omega)
            have hBz := hBy.fr hfA (fun h => h.2 rfl)
            have hRz := (HW.out.2.1.fr hFz (fun h => by have h : g = b := h; omega)).fr hfA (fun h => by have := h.1; omega)
            have hrz := hrx.fr hfA (fun hne p hp h => by have := HA.out hne p hp; have := h.1; omega)
            have hFw' := (HW.out.2.2.1.trans hFz).trans' hfA (fun x hx => .inr (by have := hx.1; have := Hg.out; omega))
            have hzA := hfA.size
            have x1 := hG.cell (j := 1) rfl
            have f1 := hG.frozen 1
            clear hfA hBy hrx hOy hgr hkr
            refine hK _ _ ?_
            clear hK Kk
            refine wpAny_take (fuel := 1) (i := 6) (v := .pointer (some ⟨g3, 1, none⟩)) rfl (by kernel_rfl) (by kernel_rfl) (by kernel_rfl) (fun _ _ _ h => h) (Or.inl ⟨by rfl, fun Z => ?_⟩) ?_
            · go_simp
            refine any_one (fuel := 0) (i := 7) (by kernel_rfl) rfl rfl (fun Kk hK => ?_)
            obtain ⟨X4, hY⟩ : ∃ y, X3.setCell ⟨g3, 1, none⟩ (.slice M' (k + 1) mc') = y := ⟨_, rfl⟩
            have hfS : Fr (fun x => x = g3) X3 X4 := by rw [← hY]; exact Fr.set (X := fun x => x = g3) X3 ⟨g3, 1, none⟩ _ rfl
            have hGy : Blk X4 g3 [.int .i64 E, .slice M' (k + 1) mc'] 28 := by rw [← hY]; exact hG.set 1 _
            have hBy := hBz.fr hfS (fun h => by have h : b = g3 := h; omega)
            have hRy := hRz.fr hfS (fun h => by have h : g = g3 := h; omega)
            have hry := hrz.fr hfS (fun hne p hp h => by have h : p.block = g3 := h; have := HA.out hne p hp; omega)
            have hOy := own_frX ho16 hfS (fun x hx h => by
              have h : x = g3 := h
              obtain ⟨_, _, hv, _, _, _, _, hlo⟩ := own_out ho16
              injection hv with h1 h2 h3
              subst h1
              cases M' with
              | none => simp [Value.ownBlock] at hx
              | some p => simp only [Value.ownBlock, Option.some.injEq] at hx; have := hlo p rfl; omega)
            have hFy := hFw'.trans' hfS (fun x hx => .inr (by have hx : x = g3 := hx; have := Hg.out; omega))
            have hzS := hfS.size
            have HY := hide hY
            clear hY hfS
            go_simp
            rw [HY.out]
            clear x1 f1 hG hBz hRz hrz ho16 hFw' 
            refine hK _ _ ?_
            clear hK Kk
            refine wpAny_done (by kernel_rfl) ?_ _
            try simp only [Act.put, List.setIfInBounds_toArray, List.set_cons_zero, List.set_cons_succ, List.getElem_toArray, List.getElem_cons_zero, List.getElem_cons_succ]
            have hO2 : X4.ownsRow (g3 + 1) 3 1 (.slice M' (k + 1) mc') (k + 1) (ints (memB bs (a + 9) (k + 1))) := by rw [Hmem.out]; simpa [ints] using hOy
            have hB2 : Blk X4 b [.slice A m c, .int .i64 ((a + 9 + (k + 1) : Nat) : Int)] T := hBy
            have HE2 := hide (And.intro hO2 (And.intro hRy (And.intro hGy (And.intro hB2 (And.intro hry hFy)))))
            clear hO2 hRy hGy hB2 hry hFy hOy hBy HW Hrw HGw
            go_wp2
            go_roundw
            case rel => exact ⟨k + 1, M', mc', by go_num, by omega, by omega, HE2.out.1, HE2.out.2.1, HE2.out.2.2.1, HE2.out.2.2.2.1, HE2.out.2.2.2.2.1, HE2.out.2.2.2.2.2, by omega⟩
            case measure => simp [intOf]; omega
          · obtain ⟨X2, hY⟩ : ∃ y, X1.alloc (.cells #[.int .i64 (v : Int)] 3) = y := ⟨_, rfl⟩
            obtain ⟨g15, hg15⟩ : ∃ y, X1.heap.size = y := ⟨_, rfl⟩
            have hr15 : Rd X2 (some ⟨g15, 0, none⟩) [.int .i64 (v : Int)] := by rw [← hY, ← hg15]; exact Rd.new1 X1 _ _
            have hst : Below X1.heap.size X1 X2 := by rw [← hY]; exact (Below.refl _ _).alloc (Nat.le_refl _) _
            replace hG := hG.below hst
            replace hrx := hrx.below hst
            replace hOy := own_below hOy hst
            replace hBy := hBy.below hst
            replace hFz := hFz.trans (Fr.of_below hst)
            have hzB := hst.size
            have HY := hide hY
            have Hg15 := hide hg15
            clear hY hg15 hst
            go_simp
            rw [HY.out, Hg15.out]
            refine hK _ _ ?_
            clear hK Kk
            refine any_one (fuel := 3) (i := 1) (by kernel_rfl) rfl rfl (fun Kk hK => ?_)
            have x1 := hG.cell (j := 1) rfl
            go_simp
            clear x1
            refine hK _ _ ?_
            clear hK Kk
            refine any_one (fuel := 2) (i := 5) (by kernel_rfl) rfl rfl (fun Kk hK => ?_)
            have hz0 := hFz.size
            refine oper_own rfl tInts (base := g3 + 1) (e := 3) (by rfl) hOy (A := some ⟨g15, 0, none⟩) (m := 1) (c := 1) (by rfl) (by rfl) hr15 (by intro u hu; simp at hu; subst hu; rfl) (by omega) (by omega) (by omega) ?_
            intro v16 X3 ho16 hgr hkr
            obtain ⟨M', mc', rfl, _⟩ := own_out ho16
            have hfA : Fr (fun x => g3 < x ∧ x ≠ b) X2 X3 := Fr.of_grown hgr (fun x hx => by have := HMb.out x hx; omega)
            replace hG := hG.fr hfA (fun h => by have := h.1; omega)
            have hBz := hBy.fr hfA (fun h => h.2 rfl)
            have hRz := (HW.out.2.1.fr hFz (fun h => by have h : g = b := h; omega)).fr hfA (fun h => by have := h.1; omega)
            have hrz := hrx.fr hfA (fun hne p hp h => by have := HA.out hne p hp; have := h.1; omega)
            have hFw' := (HW.out.2.2.1.trans hFz).trans' hfA (fun x hx => .inr (by have := hx.1; have := Hg.out; omega))
            have hzA := hfA.size
            have x1 := hG.cell (j := 1) rfl
            have f1 := hG.frozen 1
            clear hfA hBy hrx hOy hgr hkr
            refine hK _ _ ?_
            clear hK Kk
            refine wpAny_take (fuel := 1) (i := 6) (v := .pointer (some ⟨g3, 1, none⟩)) rfl (by kernel_rfl) (by kernel_rfl) (by kernel_rfl) (fun _ _ _ h => h) (Or.inl ⟨by rfl, fun Z => ?_⟩) ?_
            · go_simp
            refine any_one (fuel := 0) (i := 7) (by kernel_rfl) rfl rfl (fun Kk hK => ?_)
            obtain ⟨X4, hY⟩ : ∃ y, X3.setCell ⟨g3, 1, none⟩ (.slice M' (k + 1) mc') = y := ⟨_, rfl⟩
            have hfS : Fr (fun x => x = g3) X3 X4 := by rw [← hY]; exact Fr.set (X := fun x => x = g3) X3 ⟨g3, 1, none⟩ _ rfl
            have hGy : Blk X4 g3 [.int .i64 E, .slice M' (k + 1) mc'] 28 := by rw [← hY]; exact hG.set 1 _
            have hBy := hBz.fr hfS (fun h => by have h : b = g3 := h; omega)
            have hRy := hRz.fr hfS (fun h => by have h : g = g3 := h; omega)
            have hry := hrz.fr hfS (fun hne p hp h => by have h : p.block = g3 := h; have := HA.out hne p hp; omega)
            have hOy := own_frX ho16 hfS (fun x hx h => by
              have h : x = g3 := h
              obtain ⟨_, _, hv, _, _, _, _, hlo⟩ := own_out ho16
              injection hv with h1 h2 h3
              subst h1
              cases M' with
              | none => simp [Value.ownBlock] at hx
              | some p => simp only [Value.ownBlock, Option.some.injEq] at hx; have := hlo p rfl; omega)
            have hFy := hFw'.trans' hfS (fun x hx => .inr (by have hx : x = g3 := hx; have := Hg.out; omega))
            have hzS := hfS.size
            have HY := hide hY
            clear hY hfS
            go_simp
            rw [HY.out]
            clear x1 f1 hG hBz hRz hrz ho16 hFw' 
            refine hK _ _ ?_
            clear hK Kk
            refine wpAny_done (by kernel_rfl) ?_ _
            try simp only [Act.put, List.setIfInBounds_toArray, List.set_cons_zero, List.set_cons_succ, List.getElem_toArray, List.getElem_cons_zero, List.getElem_cons_succ]
            have hO2 : X4.ownsRow (g3 + 1) 3 1 (.slice M' (k + 1) mc') (k + 1) (ints (memB bs (a + 9) (k + 1))) := by rw [Hmem.out]; simpa [ints] using hOy
            have hB2 : Blk X4 b [.slice A m c, .int .i64 ((a + 9 + (k + 1) : Nat) : Int)] T := hBy
            have HE2 := hide (And.intro hO2 (And.intro hRy (And.intro hGy (And.intro hB2 (And.intro hry hFy)))))
            clear hO2 hRy hGy hB2 hry hFy hOy hBy HW Hrw HGw
            go_wp2
            go_roundw
            case rel => exact ⟨k + 1, M', mc', by go_num, by omega, by omega, HE2.out.1, HE2.out.2.1, HE2.out.2.2.1, HE2.out.2.2.2.1, HE2.out.2.2.2.2.1, HE2.out.2.2.2.2.2, by omega⟩
            case measure => simp [intOf]; omega
    · obtain rfl : k = n := by omega
      have hq : decide ((k : Int) < (k : Int)) = false := decide_eq_false (by omega)
      have x0 := hGw.cell (j := 0) rfl
      have x1 := hGw.cell (j := 1) rfl
      have z0 := hRw.frozen 0
      have z1 := hRw.frozen 1
      have y0 := hRw.cell (j := 0) rfl
      have y1 := hRw.cell (j := 1) rfl
      have hR := (hRw.set 0 (.int .i64 E)).set 1 (.slice M k mc)
      have hff := HFits.out.2 (by omega)
      have hFz : Fr (fun k => k = b) w ((wr.setCell ⟨g, 0, none⟩ (.int .i64 E)).setCell ⟨g, 1, none⟩ (.slice M k mc)) := (hFw.trans' (Fr.set (X := fun k => k = g) wr ⟨g, 0, none⟩ _ rfl) (fun k hk => .inr (by have hk : k = g := hk; have := Hg.out; omega))).trans' (Fr.set (X := fun k => k = g) _ ⟨g, 1, none⟩ _ rfl) (fun k hk => .inr (by have hk : k = g := hk; have := Hg.out; omega))
      have hOz := own_frX (own_frX hO (Fr.set (X := fun k => k = g) wr ⟨g, 0, none⟩ (.int .i64 E) rfl) (fun x hx h => by
        have h : x = g := h
        obtain ⟨_, _, hv, _, _, _, _, hlo⟩ := own_out hO
        injection hv with h1 h2 h3
        subst h1
        cases M with
        | none => simp [Value.ownBlock] at hx
        | some p => simp only [Value.ownBlock, Option.some.injEq] at hx; have := hlo p rfl; omega)) (Fr.set (X := fun k => k = g) _ ⟨g, 1, none⟩ (.slice M k mc) rfl) (fun x hx h => by
        have h : x = g := h
        obtain ⟨_, _, hv, _, _, _, _, hlo⟩ := own_out hO
        injection hv with h1 h2 h3
        subst h1
        cases M with
        | none => simp [Value.ownBlock] at hx
        | some p => simp only [Value.ownBlock, Option.some.injEq] at hx; have := hlo p rfl; omega)
      have hBz := (hBw.apart (k := g) (by omega) 0 (.int .i64 E)).apart (k := g) (by omega) 1 (.slice M k mc)
      have HZ := hide (And.intro hR (And.intro hFz (And.intro (own_weak hOz (show g ≤ g3 + 1 by omega)) hBz)))
      have Hff := hide hff
      clear hR hFz hOz hBz hO hGw hRw hBw hrw hFw hff
      go_wp2
      refine bodyPost_ret (results_cell rfl rfl HZ.out.1 Tryz.underlying28 rfl (by kernel_rfl)) rfl ?_
      exact ⟨HZ.out.2.1, .inl ⟨Hff.out, M, mc, rfl, by rw [Hg.out]; exact HZ.out.2.2.1, HZ.out.2.2.2⟩⟩
end Go.Proofs.YtkknkdjdneldlaaGreat
