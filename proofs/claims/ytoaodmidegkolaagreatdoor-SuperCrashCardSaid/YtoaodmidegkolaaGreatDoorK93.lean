/- Texts joined (shake.py). -/
import Derived.Test.YtoaodmidegkolaaGreatDoorK91
import Derived.Test.YtoaodmidegkolaaGreatDoorK92
namespace Go.Proofs.YtoaodmidegkolaaGreatDoor
set_option maxRecDepth 20000
open Go.RowKit Go.Px Go.Shelf
set_option linter.unusedVariables false
attribute [local go_sem] Oper.semAt_some
theorem sizes_any (w : World) : Calls Tryz.prog 33 #[] w fun e w' => e = .returned (.func (.func 50) #[] #[]) ∧ w' = w := by
  go_enter Tryz.func33, Tryz.ntmps33
  go_wp2
  go_ret
  exact ⟨rfl, rfl⟩
def szN (j : Nat) : Nat := if j < 5 then 8 else 4
def encZ9 (j : Nat) : Array Value := #[.int .i64 (j : Int), .int .i64 ((szN j : Nat) : Int)]
set_option maxRecDepth 100000 in
set_option maxHeartbeats 3200000 in
theorem sizes_iter (n : Nat) (hn : 1 ≤ n) (l : Nat) (I M : Nat → World → Prop) (hM : ∀ j W, M j W → I (j + 1) W) :
    IterBy n Tryz.prog 50 #[] l encZ9 (fun j => j < 8) I M := by
  intro J K Y h1 h2 h2' h3 hY W h0
  refine callsIn_of_wp Tryz.func50 rfl trivial ?_ rfl
  simp only [Tryz.ntmps50, List.size_toArray, List.length_cons, List.length_nil, Nat.reduceAdd, Nat.reduceSub, Array.replicate_succ, Array.replicate_zero, List.push_toArray, List.append_toArray, List.nil_append, List.cons_append]
  gi_wp2
  gi_loopw [4] (fun i wr => ∃ j : Nat, i = .int .i64 (j : Int) ∧ j ≤ 8 ∧ J j wr) (fun i _ => (8 - intOf i).toNat)
  case atStart => exact ⟨0, by simp, by omega, h0⟩
  case round =>
    obtain ⟨j, rfl, hj4, hJ⟩ := hrel
    by_cases hlt : j < 8
    · obtain ⟨fn, tmps, assign, body, hy, hR⟩ := hY j wr hJ hlt
      rcases (show j < 5 ∨ 5 ≤ j by omega) with h5 | h5
      all_goals
        first
          | (have e0 : encZ9 j = #[.int .i64 (j : Int), .int .i64 8] := (by unfold encZ9 szN; rw [if_pos h5]; rfl); have q5 : decide ((5 : Int) ≤ (j : Int)) = false := decide_eq_false (by omega))
          | (have e0 : encZ9 j = #[.int .i64 (j : Int), .int .i64 4] := (by unfold encZ9 szN; rw [if_neg (by omega)]; rfl); have q5 : decide ((5 : Int) ≤ (j : Int)) = true := decide_eq_true (by omega))
        rw [e0] at hy
        clear e0
        gi_wp2
        refine hR.mono ?_
        rintro e W3 (⟨rfl, hK3⟩ | ⟨rfl, hY3⟩)
        · have i3 := hM j W3 (h2 j W3 hK3)
          clear q5
          gi_wp2
          go_roundw
          case rel => exact ⟨j + 1, by go_num, by omega, h3 j W3 W3 hK3 (KeepsOthers.refl _) i3⟩
          case measure => first | (simp [intOf]; done) | (simp [intOf]; omega)
        · gi_wp2
          refine bodyPost_ret (results_none rfl _ _ _) rfl ?_
          exact ⟨⟨_, rfl⟩, .inr hY3⟩
    · gi_wp2
      go_end0
      exact ⟨⟨_, rfl⟩, .inl ⟨j, hJ, hlt⟩⟩
end Go.Proofs.YtoaodmidegkolaaGreatDoor
