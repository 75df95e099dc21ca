/- slices.Chunk over digests: its rows, one by one. -/
import Derived.Test.YtcpnobhdogpfiaaDoorF25b
import Derived.Test.YtcpnobhdogpfiaaDoorRng
import Derived.Deep.Quiet
import Derived.Deep.QuietTactic
import Derived.BigQuiet
namespace Go.Proofs.YtcpnobhdogpfiaaDoor
set_option maxRecDepth 20000
open Go.RowKit Go.Px Go.Shelf
set_option linter.unusedVariables false
attribute [local go_sem] Oper.semAt_some
theorem chunk_any (A : Option Addr) (n c : Nat) (w : World) : Calls Tryd.prog 43 #[.slice A n c, .int .i64 4] w fun e w' =>
    e = .returned (.func (.func 64) #[] #[.pointer (some ⟨w.heap.size, 0, none⟩), .pointer (some ⟨w.heap.size + 1, 0, none⟩)]) ∧
    w' = (w.alloc (.cells #[.slice A n c] 25)).alloc (.cells #[.int .i64 4] 3) := by
  go_enter Tryd.func43, Tryd.ntmps43
  go_wp2
  go_ret
  exact ⟨rfl, rfl⟩
/-- What a round is handed: the j-th row of a level. -/
def encC (A : Option Addr) (N c j : Nat) : Array Value := #[.slice (cutA A c (4 * j) 1) (min 4 (N - 4 * j)) (min 4 (N - 4 * j))]
set_option maxRecDepth 100000 in
set_option maxHeartbeats 3200000 in
theorem chunk_iter (n : Nat) (hn : 1 ≤ n) (l bs bn : Nat) (A : Option Addr) (N c : Nat) (hN : N ≤ 1099511627776) (hNc : N ≤ c) (hc63 : c ≤ 9223372036854775807) (I M : Nat → World → Prop)
    (hI : ∀ j W, I j W → W.cell? ⟨bs, 0, none⟩ = some (.slice A N c) ∧ W.cell? ⟨bn, 0, none⟩ = some (.int .i64 4)) (hId : ∀ j W k, I j W → I j (W.drewN k)) (hM : ∀ j W, M j W → W.cell? ⟨bn, 0, none⟩ = some (.int .i64 4) ∧ I (j + 1) W) :
    IterBy n Tryd.prog 64 #[.pointer (some ⟨bs, 0, none⟩), .pointer (some ⟨bn, 0, none⟩)] l (encC A N c) (fun j => 4 * j < N) I M := by
  intro J K Y h1 h2 h2' h3 hY W h0
  refine callsIn_of_wp Tryd.func64 rfl trivial ?_ rfl
  simp only [Tryd.ntmps64, List.size_toArray, List.length_cons, List.length_nil, Nat.reduceAdd, Nat.reduceSub, Array.replicate_succ, Array.replicate_zero, List.push_toArray, List.append_toArray, List.nil_append, List.cons_append]
  gi_wp2
  gi_loopw [4] (fun i wr => ∃ j : Nat, i = .int .i64 ((4 * j : Nat) : Int) ∧ 4 * j < N + 4 ∧ J j wr) (fun i _ => N + 4 - (intOf i).toNat)
  case atStart => exact ⟨0, rfl, by omega, h0⟩
  case round =>
    obtain ⟨j, rfl, hj4, hJ⟩ := hrel
    obtain ⟨c1, c2⟩ := hI j wr (h1 j wr hJ)
    by_cases hlt : 4 * j < N
    · have hy0 : ∀ k, YieldAt Fence.wide (n - 1) Tryd.prog l (encC A N c j) (wr.drewN k) fun e W' => (e = .returned (.bool true) ∧ K j W') ∨ (e = .returned (.bool false) ∧ Y W') := fun k => hY j _ (h2' j wr _ hJ (keepsDrewN _ _) (hId _ _ _ (h1 _ _ hJ))) hlt
      unfold encC at hy0
      obtain ⟨q, hq⟩ : ∃ q, 4 * j = q := ⟨_, rfl⟩
      rw [hq] at hlt hj4 hy0 ⊢
      have Hq := hide hq
      have H2 := hide h2'
      clear hq
      rcases (show N - q < 4 ∨ 4 ≤ N - q by omega) with hs | hs
      · rw [Nat.min_eq_right (Nat.le_of_lt hs)] at hy0
        obtain ⟨r, hr⟩ : ∃ r, N - q = r := ⟨_, rfl⟩
        rw [hr] at hy0 hs
        have hqr : N = q + r := by omega
        subst hqr
        have e1 : cutA A (q + r) q 1 = cutA A c q 1 := by unfold cutA; rw [if_neg (by omega), if_neg (by omega)]
        have e2 : q + r - q = r := by omega
        gi_wp2_with fail
        refine wpIn_wide.2 ?_
        go_quiet (fail)
        obtain ⟨fn, tmps, assign, body, hy, hR⟩ := hy0 nq
        gi_wp2
        refine hR.mono ?_
        rintro e W3 (⟨rfl, hK3⟩ | ⟨rfl, hY3⟩)
        · obtain ⟨c3, i3⟩ := hM j W3 (h2 j W3 hK3)
          gi_wp2
          go_roundw
          case rel => exact ⟨j + 1, by rw [Nat.mul_add, Hq.out]; go_num, by have := Hq.out; omega, h3 j W3 W3 hK3 (KeepsOthers.refl _) i3⟩
          case measure => simp [intOf]; omega
        · gi_wp2
          refine bodyPost_ret (results_none rfl _ _ _) rfl ?_
          exact ⟨⟨_, rfl⟩, .inr hY3⟩
      · rw [Nat.min_eq_left hs] at hy0
        have e1 : cutA A (q + 4) q 1 = cutA A c q 1 := by unfold cutA; rw [if_neg (by omega), if_neg (by omega)]
        have e2 : q + 4 - q = 4 := by omega
        gi_wp2_with fail
        refine wpIn_wide.2 ?_
        go_quiet (fail)
        obtain ⟨fn, tmps, assign, body, hy, hR⟩ := hy0 nq
        gi_wp2
        refine hR.mono ?_
        rintro e W3 (⟨rfl, hK3⟩ | ⟨rfl, hY3⟩)
        · obtain ⟨c3, i3⟩ := hM j W3 (h2 j W3 hK3)
          gi_wp2
          go_roundw
          case rel => exact ⟨j + 1, by rw [Nat.mul_add, Hq.out]; go_num, by have := Hq.out; omega, h3 j W3 W3 hK3 (KeepsOthers.refl _) i3⟩
          case measure => simp [intOf]; omega
        · gi_wp2
          refine bodyPost_ret (results_none rfl _ _ _) rfl ?_
          exact ⟨⟨_, rfl⟩, .inr hY3⟩
    · gi_wp2
      go_end0
      exact ⟨⟨_, rfl⟩, .inl ⟨j, hJ, hlt⟩⟩
end Go.Proofs.YtcpnobhdogpfiaaDoor
