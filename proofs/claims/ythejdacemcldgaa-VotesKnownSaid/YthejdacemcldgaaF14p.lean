/- Stage 14: slices.Values of ints: its iterator. -/
import Derived.Test.YthejdacemcldgaaF14a
import Derived.Test.YthejdacemcldgaaRng
import Derived.LoopIn
namespace Go.Proofs.Ythejdacemcldgaa
set_option maxRecDepth 20000
open Go.RowKit Go.Px
set_option linter.unusedVariables false
attribute [local go_sem] Oper.semAt_some
set_option maxRecDepth 100000 in
set_option maxHeartbeats 3200000 in
theorem values_iter (n : Nat) (hn : 1 ≤ n) (l bs : Nat) (A : Option Addr) (N c : Nat) (xs : List Int) (hx : xs.length = N) (hN : N ≤ 1000000) (I M : Nat → World → Prop)
    (hI : ∀ j W, I j W → W.cell? ⟨bs, 0, none⟩ = some (.slice A N c) ∧ Rd W A (ints xs)) (hM : ∀ j W, M j W → I (j + 1) W) :
    IterBy n Try.prog 42 #[.pointer (some ⟨bs, 0, none⟩)] l (fun j => #[.int .i64 (xs.getD j 0)]) (fun j => j < N) I M := by
  intro J K Y h1 h2 h2' h3 hY W h0
  have Hx := hide hx
  clear hx
  refine callsIn_of_wp Try.func42 rfl trivial ?_ rfl
  simp only [Try.ntmps42, List.size_toArray, List.length_cons, List.length_nil, Nat.reduceAdd, Nat.reduceSub, Array.replicate_succ, Array.replicate_zero, List.push_toArray, List.append_toArray, List.nil_append, List.cons_append]
  obtain ⟨c0, _⟩ := hI 0 W (h1 0 W h0)
  have H1 := hide h1
  have H2 := hide h2
  have H3 := hide h3
  have HI := hide hI
  have HM := hide hM
  have HY := hide hY
  clear h1 h2 h2' h3 hI hM hY
  gi_wp2
  gi_loopw [7] (fun i wr => ∃ j : Nat, i = .int .i64 (j : Int) ∧ j ≤ N ∧ J j wr) (fun i _ => N - (intOf i).toNat)
  case atStart => exact ⟨0, rfl, Nat.zero_le _, h0⟩
  case round =>
    obtain ⟨j, rfl, hjN, hJ⟩ := hrel
    by_cases hlt : j < N
    · have hjl : j < xs.length := by rw [Hx.out]; exact hlt
      obtain ⟨_, hr⟩ := HI.out j wr (H1.out j wr hJ)
      obtain ⟨a, rfl, hc⟩ := hr j _ (ints_get hjl)
      have hy0 := HY.out j wr hJ hlt
      rw [intD_at hjl] at hy0
      obtain ⟨x, hxx⟩ : ∃ x, xs[j] = x := ⟨_, rfl⟩
      rw [hxx] at hc hy0
      clear hxx hjl
      obtain ⟨fn, tmps, assign, body, hy, hR⟩ := hy0
      gi_wp2
      refine hR.mono ?_
      rintro e W3 (⟨rfl, hK3⟩ | ⟨rfl, hY3⟩)
      · have i3 := HM.out j W3 (H2.out j W3 hK3)
        have j3 := H3.out j W3 W3 hK3 (KeepsOthers.refl _) i3
        gi_wp2
        go_roundw
        case rel => exact ⟨j + 1, by go_num, by omega, j3⟩
        case measure => simp [intOf]; omega
      · gi_wp2
        refine bodyPost_ret (results_none rfl _ _ _) rfl ?_
        exact ⟨⟨_, rfl⟩, .inr hY3⟩
    · have q0 : decide ((j : Int) < (N : Int)) = false := decide_eq_false (by omega)
      have hNj : ¬ N > j := by omega
      gi_wp2
      refine bodyPost_end (results_none rfl _ _ _) rfl ?_
      exact ⟨⟨_, rfl⟩, .inl ⟨j, hJ, hlt⟩⟩
theorem values_any (A : Option Addr) (n c : Nat) (w : World) : Calls Try.prog 31 #[.slice A n c] w fun e w' =>
    e = .returned (.func (.func 42) #[] #[.pointer (some ⟨w.heap.size, 0, none⟩)]) ∧ w' = w.alloc (.cells #[.slice A n c] 22) := by
  go_enter Try.func31, Try.ntmps31
  go_wp2
  go_ret
  exact ⟨rfl, rfl⟩
end Go.Proofs.Ythejdacemcldgaa
