/- Others twice. -/
import Derived.Test.YthejdacemcldgaaF13d
namespace Go.Proofs.Ythejdacemcldgaa
set_option maxRecDepth 20000
open Go.RowKit Go.Px
set_option linter.unusedVariables false

def oth (ms : List Int) (v : Int) : List Int := ms.filter (· != v)
theorem oth_skip {ms : List Int} {k : Nat} {v : Int} (h : k < ms.length) (he : ms[k] = v) : oth (ms.take (k + 1)) v = oth (ms.take k) v := by
  unfold oth; rw [List.take_succ_eq_append_getElem h, List.filter_append]; simp [he]
theorem oth_take {ms : List Int} {k : Nat} {v : Int} (h : k < ms.length) (he : ms[k] ≠ v) : oth (ms.take (k + 1)) v = oth (ms.take k) v ++ [ms[k]] := by
  unfold oth; rw [List.take_succ_eq_append_getElem h, List.filter_append]; simp [he]
theorem oth_le (ms : List Int) (v : Int) (k : Nat) : (oth (ms.take k) v).length ≤ k := by
  unfold oth; exact Nat.le_trans (List.length_filter_le _ _) (List.length_take_le _ _)

set_option maxHeartbeats 800000 in
theorem others_any (e : Int) (A : Option Addr) (n c : Nat) (ms : List Int) (v : Int) (w : World) (hn : ms.length = n) (h63 : n ≤ 1000000) (hr : Rd w A (ints ms)) :
    Calls Try.prog 39 #[grp e A n c, .int .i64 v] w fun x w' => ∃ u, x = .returned u ∧ w'.ownsRow w.heap.size 3 1 u (oth ms v).length (ints (oth ms v)) ∧ Below w.heap.size w w' := by
  have Hn := hide hn
  clear hn
  obtain ⟨g, hg⟩ : ∃ g, w.heap.size = g := ⟨_, rfl⟩
  obtain ⟨w0, hw0⟩ : ∃ w0, w.alloc (.cells #[.int .i64 e, .slice A n c] 34) = w0 := ⟨_, rfl⟩
  have hF : Blk w0 g [.int .i64 e, .slice A n c] 34 := by rw [← hw0, ← hg]; exact Blk.new _ _ _
  have hb0 : Below w.heap.size w w0 := by rw [← hw0]; exact (Below.refl _ _).alloc (Nat.le_refl _) _
  have hr0 := hr.below hb0
  have f1 := hF.cell (j := 1) rfl
  go_enter Try.func39, Try.ntmps39
  go_wp2
  go_loopw [5, 11] (fun u i wr => ∃ k : Nat, k ≤ n ∧ i = .int .i64 k ∧ Grow w0 (.slice none 0 0) w0.heap.size 3 1 wr u (oth (ms.take k) v).length (ints (oth (ms.take k) v))) (fun _ i _ => n - (intOf i).toNat)
  case atStart => exact ⟨0, by omega, rfl, by rw [List.take_zero]; first | exact Grow.nil _ _ _ | (rw [← hw0]; exact Grow.nil _ _ _)⟩
  case round =>
    obtain ⟨k, hk, rfl, hG⟩ := hrel
    have hbw := hG.all
    by_cases hlt : k < n
    · have hkl : k < ms.length := by rw [Hn.out]; exact hlt
      obtain ⟨a, ha, hc⟩ := hr0.below hbw k _ (ints_get hkl)
      obtain ⟨y, hy⟩ : ∃ y, ms[k] = y := ⟨_, rfl⟩
      rw [hy] at hc
      subst ha
      have hle := oth_le ms v k
      by_cases hv : y = v
      · have HB := hide (oth_skip (v := v) hkl (by rw [hy]; exact hv))
        have q1 : (y != v) = false := by simp [hv]
        clear hy hv
        go_wp2
        go_roundw
        case rel => exact ⟨k + 1, by omega, by go_num, by rw [HB.out]; exact hG⟩
        case measure => simp [intOf]; omega
      · have HB := hide (oth_take (v := v) hkl (by rw [hy]; exact hv))
        have q1 : (y != v) = true := by simp [hv]
        rw [hy] at HB
        have HB2 := hide (show (oth (ms.take (k + 1)) v).length = (oth (ms.take k) v).length + 1 by rw [HB.out]; simp)
        clear hy hv
        go_wp2_with (first | (with_reducible refine stop_append rfl ?_) | (with_reducible refine stop_copy rfl ?_) | (with_reducible refine stop_make rfl ?_))
        refine hG.push rfl rfl rfl tInts rfl rfl rfl (by omega) (by omega) ?_
        intro u' w2 hG2 _
        go_wp2
        go_roundw
        case rel => exact ⟨k + 1, by omega, by go_num, by rw [HB2.out, HB.out, ints_append]; exact hG2⟩
        case measure => simp [intOf]; omega
    · have HB := hide (List.take_of_length_le (show ms.length ≤ k by rw [Hn.out]; omega))
      rw [HB.out] at hG
      go_wp2
      go_ret
      exact ⟨_, rfl, own_weak hG.owns hb0.size, hb0.trans (hbw.mono hb0.size)⟩
end Go.Proofs.Ythejdacemcldgaa
