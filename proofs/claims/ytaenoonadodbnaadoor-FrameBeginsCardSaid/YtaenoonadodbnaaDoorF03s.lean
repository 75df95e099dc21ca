/- frame.Same, plinthref03.Same. -/
import Derived.Test.YtaenoonadodbnaaDoorF03c
namespace Go.Proofs.YtaenoonadodbnaaDoor
open Go.RowKit Go.Px
set_option linter.unusedVariables false

def sameF (k s : Nat) (bd : List UInt8) (k' s' : Nat) (bd' : List UInt8) : Bool := ((k : Int) == (k' : Int)) && (((s : Int) == (s' : Int)) && (bd == bd'))

set_option maxHeartbeats 800000 in
theorem rsame_any (k s : Nat) (A : Option Addr) (n c : Nat) (bd : List UInt8) (k' s' : Nat) (B : Option Addr) (m d : Nat) (bd' : List UInt8) (w : World) (hn : bd.length = n) (hr : Rd w A (bys bd)) (hm : bd'.length = m) (hr2 : Rd w B (bys bd')) :
    Calls Tryd.prog 14 #[.agg #[.int .u8 k, .int .u64 s, .slice A n c], .agg #[.int .u8 k', .int .u64 s', .slice B m d]] w fun e w' => e = .returned (.bool (sameF k s bd k' s' bd')) ∧ Below w.heap.size w w' := by
  have e1 : ∀ W, Below w.heap.size w W → (convert 23 9 (.slice A n c)).run Tryd.prog W = .ok (.string (strOf bd)) W := fun W hb => convB c hn (hr.below hb)
  have e2 : ∀ W, Below w.heap.size w W → (convert 23 9 (.slice B m d)).run Tryd.prog W = .ok (.string (strOf bd')) W := fun W hb => convB d hm (hr2.below hb)
  have hb0 : Below w.heap.size w ((w.alloc (.cells #[.int .u8 k, .int .u64 s, .slice A n c] 25)).alloc (.cells #[.int .u8 k', .int .u64 s', .slice B m d] 25)) := ((Below.refl _ _).alloc (Nat.le_refl _) _).alloc (by simp) _
  have f1 := e1 _ hb0
  have f2 := e2 _ hb0
  clear e1 e2 hn hm
  rcases bool_two ((k : Int) == (k' : Int)) with q1 | q1
  · rcases bool_two ((s : Int) == (s' : Int)) with q2 | q2
    · rcases bool_two (bd == bd') with q3 | q3
      all_goals
        have hF : sameF k s bd k' s' bd' = (bd == bd') := by unfold sameF; rw [q1, q2]; rfl
        rw [q3] at hF
        have HF := hide hF
        clear hF
        go_enter Tryd.func14, Tryd.ntmps14
        go_wp2
        go_ret
        exact ⟨by rw [HF.out]; rfl, hb0⟩
    · have HF := hide (show sameF k s bd k' s' bd' = false by unfold sameF; rw [q1, q2]; rfl)
      go_enter Tryd.func14, Tryd.ntmps14
      go_wp2
      go_ret
      exact ⟨by rw [HF.out]; rfl, hb0⟩
  · have HF := hide (show sameF k s bd k' s' bd' = false by unfold sameF; rw [q1]; rfl)
    go_enter Tryd.func14, Tryd.ntmps14
    go_wp2
    go_ret
    exact ⟨by rw [HF.out]; rfl, hb0⟩
theorem bequal_any (A : Option Addr) (n c : Nat) (bd : List UInt8) (B : Option Addr) (m d : Nat) (bd' : List UInt8) (w : World) (hn : bd.length = n) (hr : Rd w A (bys bd)) (hm : bd'.length = m) (hr2 : Rd w B (bys bd')) :
    Calls Tryd.prog 29 #[.slice A n c, .slice B m d] w fun e w' => e = .returned (.bool (bd == bd')) ∧ w = w' := by
  have f1 := convB c hn hr
  have f2 := convB d hm hr2
  clear hn hm
  go_enter Tryd.func29, Tryd.ntmps29
  go_wp2
  go_ret
  exact ⟨rfl, rfl⟩

set_option maxHeartbeats 800000 in
theorem fsame_any (k s : Nat) (A : Option Addr) (n c : Nat) (bd : List UInt8) (k' s' : Nat) (B : Option Addr) (m d : Nat) (bd' : List UInt8) (w : World) (hn : bd.length = n) (hr : Rd w A (bys bd)) (hm : bd'.length = m) (hr2 : Rd w B (bys bd')) :
    Calls Tryd.prog 13 #[.agg #[.int .u8 k, .int .u64 s, .slice A n c], .agg #[.int .u8 k', .int .u64 s', .slice B m d]] w fun e w' => e = .returned (.bool (sameF k s bd k' s' bd')) ∧ Below w.heap.size w w' := by
  have e1 : ∀ W, Below w.heap.size w W → (convert 23 9 (.slice A n c)).run Tryd.prog W = .ok (.string (strOf bd)) W := fun W hb => convB c hn (hr.below hb)
  have e2 : ∀ W, Below w.heap.size w W → (convert 23 9 (.slice B m d)).run Tryd.prog W = .ok (.string (strOf bd')) W := fun W hb => convB d hm (hr2.below hb)
  have hb0 : Below w.heap.size w ((w.alloc (.cells #[.int .u8 k, .int .u64 s, .slice A n c] 25)).alloc (.cells #[.int .u8 k', .int .u64 s', .slice B m d] 25)) := ((Below.refl _ _).alloc (Nat.le_refl _) _).alloc (by simp) _
  have Hn := hide hn
  have Hm := hide hm
  clear e1 e2 hn hm
  rcases bool_two ((k : Int) == (k' : Int)) with q1 | q1
  · rcases bool_two ((s : Int) == (s' : Int)) with q2 | q2
    · rcases bool_two (bd == bd') with q3 | q3
      all_goals
        have hF : sameF k s bd k' s' bd' = (bd == bd') := by unfold sameF; rw [q1, q2]; rfl
        rw [q3] at hF
        have HF := hide hF
        clear hF
        go_enter Tryd.func13, Tryd.ntmps13
        go_wp2_with fail
        refine (bequal_any _ _ _ bd _ _ _ bd' _ Hn.out (hr.below hb0) Hm.out (hr2.below hb0)).mono ?_
        rw [q3]
        rintro e w1 ⟨rfl, rfl⟩
        go_wp2
        go_ret
        exact ⟨by rw [HF.out]; rfl, hb0⟩
    · have HF := hide (show sameF k s bd k' s' bd' = false by unfold sameF; rw [q1, q2]; rfl)
      go_enter Tryd.func13, Tryd.ntmps13
      go_wp2
      go_ret
      exact ⟨by rw [HF.out]; rfl, hb0⟩
  · have HF := hide (show sameF k s bd k' s' bd' = false by unfold sameF; rw [q1]; rfl)
    go_enter Tryd.func13, Tryd.ntmps13
    go_wp2
    go_ret
    exact ⟨by rw [HF.out]; rfl, hb0⟩
end Go.Proofs.YtaenoonadodbnaaDoor
