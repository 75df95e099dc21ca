/- Stage 14: the closures of Ack; the document's Ack. -/
import Derived.Test.YthejdacemcldgaaF14b
namespace Go.Proofs.Ythejdacemcldgaa
set_option maxRecDepth 20000
open Go.RowKit Go.Px
set_option linter.unusedVariables false
theorem tAcks : SlT Try.prog 23 44 2 16 := slT_mk Try.underlying23 (z := .agg #[.int .i64 0, .int .i64 0]) (by kernel_rfl) rfl (by decide)
theorem same2_any (a b x y : Int) (w : World) : Calls Try.prog 28 #[.agg #[.int .i64 a, .int .i64 b], .agg #[.int .i64 x, .int .i64 y]] w fun e w' => e = .returned (.bool (a == x)) ∧ Below w.heap.size w w' := by
  obtain ⟨w0, hw0⟩ : ∃ z, (w.alloc (.cells #[.int .i64 a, .int .i64 b] 44)).alloc (.cells #[.int .i64 x, .int .i64 y] 44) = z := ⟨_, rfl⟩
  have hb0 : Below w.heap.size w w0 := by rw [← hw0]; exact ((Below.refl _ _).alloc (Nat.le_refl _) _).alloc (by simp) _
  have Hw0 := hide hw0
  clear hw0
  go_enter Try.func28, Try.ntmps28
  go_wp2
  go_ret
  exact ⟨rfl, by rw [Hw0.out]; exact hb0⟩
/-- The order of acknowledgements: by their nodes, of a node's the greatest first. -/
def ackC (p q : Int × Int) : Int := if p.1 < q.1 ∨ (p.1 = q.1 ∧ q.2 < p.2) then -1 else if p = q then 0 else 1
set_option maxHeartbeats 800000 in
theorem cmp2_any (a b x y : Int) (w : World) : Calls Try.prog 26 #[.agg #[.int .i64 a, .int .i64 b], .agg #[.int .i64 x, .int .i64 y]] w fun e w' => e = .returned (.int .i64 (ackC (a, b) (x, y))) ∧ Below w.heap.size w w' := by
  obtain ⟨w0, hw0⟩ : ∃ z, (w.alloc (.cells #[.int .i64 a, .int .i64 b] 44)).alloc (.cells #[.int .i64 x, .int .i64 y] 44) = z := ⟨_, rfl⟩
  have hb0 : Below w.heap.size w w0 := by rw [← hw0]; exact ((Below.refl _ _).alloc (Nat.le_refl _) _).alloc (by simp) _
  have Hw0 := hide hw0
  clear hw0
  by_cases h1 : a < x
  · have q1 : decide (a < x) = true := decide_eq_true h1
    have HC := hide (show ackC (a, b) (x, y) = -1 from if_pos (.inl h1))
    go_enter Try.func26, Try.ntmps26
    go_wp2
    go_ret
    exact ⟨by rw [HC.out]; rfl, by rw [Hw0.out]; exact hb0⟩
  · have q1 : decide (a < x) = false := decide_eq_false h1
    by_cases h2 : a = x
    · subst h2
      by_cases h3 : y < b
      · have q3 : decide (y < b) = true := decide_eq_true h3
        have HC := hide (show ackC (a, b) (a, y) = -1 from if_pos (.inr ⟨rfl, h3⟩))
        go_enter Try.func26, Try.ntmps26
        go_wp2
        go_ret
        exact ⟨by rw [HC.out]; rfl, by rw [Hw0.out]; exact hb0⟩
      · have q3 : decide (y < b) = false := decide_eq_false h3
        by_cases h4 : b = y
        · subst h4
          have HC := hide (show ackC (a, b) (a, b) = 0 by unfold ackC; simp)
          go_enter Try.func26, Try.ntmps26
          go_wp2
          go_ret
          exact ⟨by rw [HC.out]; rfl, by rw [Hw0.out]; exact hb0⟩
        · have q4 : (b == y) = false := beq_false_of_ne h4
          have HC := hide (show ackC (a, b) (a, y) = 1 by unfold ackC; simp [h3, h4])
          go_enter Try.func26, Try.ntmps26
          go_wp2
          go_ret
          exact ⟨by rw [HC.out]; rfl, by rw [Hw0.out]; exact hb0⟩
    · have q2 : (a == x) = false := beq_false_of_ne h2
      have HC := hide (show ackC (a, b) (x, y) = 1 by unfold ackC; simp [h1, h2])
      go_enter Try.func26, Try.ntmps26
      go_wp2
      go_ret
      exact ⟨by rw [HC.out]; rfl, by rw [Hw0.out]; exact hb0⟩
end Go.Proofs.Ythejdacemcldgaa
