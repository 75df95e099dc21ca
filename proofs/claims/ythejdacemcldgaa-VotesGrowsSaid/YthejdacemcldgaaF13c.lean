/- Check twice, Primary twice, Quorum twice, few, cut. -/
import Derived.Test.YthejdacemcldgaaF13b
namespace Go.Proofs.Ythejdacemcldgaa
set_option maxRecDepth 20000
open Go.RowKit Go.Px
set_option linter.unusedVariables false

set_option maxHeartbeats 400000 in
theorem rcheck_any (e : Int) (A : Option Addr) (n c : Nat) (ms : List Int) (w : World) (hn : ms.length = n) (hr : Rd w A (ints ms)) :
    Calls Try.prog 19 #[grp e A n c] w fun x w' => x = .returned (.int .i64 (chkE e ms)) ∧ Below w.heap.size w w' := by
  have hb0 : Below w.heap.size w (w.alloc (.cells #[.int .i64 e, .slice A n c] 34)) := (Below.refl _ _).alloc (Nat.le_refl _) _
  have Hn := hide hn
  clear hn
  rcases bool_two (grpOk e ms) with hg | hg
  · have HE := hide (chk_ok hg)
    have Hg := hide (gE_ok hg)
    clear hg
    go_enter Try.func19, Try.ntmps19
    go_wp2_with fail
    go_fit (rgroup_any e A n c ms _ Hn.out (hr.below hb0))
    rw [Hg.out]
    rintro x w1 ⟨rfl, hb1⟩
    go_wp2
    go_ret
    exact ⟨by rw [HE.out]; rfl, hb0.trans (hb1.mono hb0.size)⟩
  · have HE := hide (chk_bad hg)
    have Hg := hide (gE_bad hg)
    clear hg
    go_enter Try.func19, Try.ntmps19
    go_wp2_with fail
    go_fit (rgroup_any e A n c ms _ Hn.out (hr.below hb0))
    rw [Hg.out]
    rintro x w1 ⟨rfl, hb1⟩
    go_wp2
    go_ret
    exact ⟨by rw [HE.out]; rfl, hb0.trans (hb1.mono hb0.size)⟩
theorem quorum_any (e : Int) (A : Option Addr) (n c : Nat) (w : World) (hn : n ≤ 9223372036854775806) :
    Calls Try.prog 32 #[grp e A n c] w fun x w' => x = .returned (.int .i64 ((n / 2 + 1 : Nat) : Int)) ∧ Below w.heap.size w w' := by
  have hb0 : Below w.heap.size w (w.alloc (.cells #[.int .i64 e, .slice A n c] 34)) := (Below.refl _ _).alloc (Nat.le_refl _) _
  go_enter Try.func32, Try.ntmps32
  go_wp2
  go_ret
  exact ⟨by simp, hb0⟩
theorem rquorum_any (e : Int) (A : Option Addr) (n c : Nat) (w : World) (hn : n ≤ 9223372036854775806) :
    Calls Try.prog 33 #[grp e A n c] w fun x w' => x = .returned (.int .i64 ((n / 2 + 1 : Nat) : Int)) ∧ Below w.heap.size w w' := by
  have hb0 : Below w.heap.size w (w.alloc (.cells #[.int .i64 e, .slice A n c] 34)) := (Below.refl _ _).alloc (Nat.le_refl _) _
  go_enter Try.func33, Try.ntmps33
  go_wp2
  go_ret
  exact ⟨by simp, hb0⟩

def lfew (n : Nat) : Nat := if n ≤ 100 then n else 100
theorem lfew_le (n : Nat) : lfew n ≤ n ∧ lfew n ≤ 100 := by unfold lfew; split <;> omega
theorem lfew_len (ms : List Int) : (ms.take 100).length = lfew ms.length := by unfold lfew; rw [List.length_take]; split <;> omega
theorem ints_take (l : List Int) (k : Nat) : ints (l.take k) = (ints l).take k := by simp [ints]
theorem lfew_rd {w : World} {A : Option Addr} {ms : List Int} (h : Rd w A (ints ms)) : Rd w A (ints (ms.take 100)) := by rw [ints_take]; exact h.take _
end Go.Proofs.Ythejdacemcldgaa
