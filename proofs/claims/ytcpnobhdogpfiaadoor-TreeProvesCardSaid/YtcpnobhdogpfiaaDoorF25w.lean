/- Proofs: Proved of any numbers, the program's and the document's. -/
import Derived.Test.YtcpnobhdogpfiaaDoorF25v
import Derived.Deep.DeepFit
namespace Go.Proofs.YtcpnobhdogpfiaaDoor
set_option maxRecDepth 20000
open Go.RowKit Go.Px
set_option linter.unusedVariables false
set_option maxHeartbeats 1600000 in
theorem rproved_bad (root d : Nat) (N I : Int) (A : Option Addr) (n c : Nat) (w : World) (h : N < 1 ∨ (1 ≤ N ∧ 4096 < N) ∨ ((1 ≤ N ∧ N ≤ 4096) ∧ I < 0) ∨ ((1 ≤ N ∧ N ≤ 4096) ∧ 0 ≤ I ∧ N ≤ I)) :
    Calls Tryd.prog 37 #[.int .u32 (root : Int), .int .i64 N, .int .u32 (d : Int), .agg #[.int .i64 I, .slice A n c]] w fun e w' => e = .returned (.int .i64 251) ∧ Below w.heap.size w w' := by
  have hb0 : Below w.heap.size w (w.alloc (.cells #[.int .i64 I, .slice A n c] 58)) := (Below.refl _ _).alloc (Nat.le_refl _) _
  rcases h with h | ⟨h1, h⟩ | ⟨⟨h1, h2⟩, h⟩ | ⟨⟨h1, h2⟩, h3, h⟩
  · have q1 : decide (N < 1) = true := decide_eq_true h
    go_enter Tryd.func37, Tryd.ntmps37
    go_wp2
    go_ret
    exact ⟨rfl, hb0⟩
  · have q1 : decide (N < 1) = false := decide_eq_false (by omega)
    have q2 : decide (4096 < N) = true := decide_eq_true h
    go_enter Tryd.func37, Tryd.ntmps37
    go_wp2
    go_ret
    exact ⟨rfl, hb0⟩
  · have q1 : decide (N < 1) = false := decide_eq_false (by omega)
    have q2 : decide (4096 < N) = false := decide_eq_false (by omega)
    have q3 : decide (I < 0) = true := decide_eq_true h
    go_enter Tryd.func37, Tryd.ntmps37
    go_wp2
    go_ret
    exact ⟨rfl, hb0⟩
  · have q1 : decide (N < 1) = false := decide_eq_false (by omega)
    have q2 : decide (4096 < N) = false := decide_eq_false (by omega)
    have q3 : decide (I < 0) = false := decide_eq_false (by omega)
    have q4 : decide (N ≤ I) = true := decide_eq_true h
    go_enter Tryd.func37, Tryd.ntmps37
    go_wp2
    go_ret
    exact ⟨rfl, hb0⟩
set_option maxHeartbeats 1600000 in
theorem proved_bad (root d : Nat) (N I : Int) (A : Option Addr) (n c : Nat) (w : World) (h : N < 1 ∨ (1 ≤ N ∧ 4096 < N) ∨ ((1 ≤ N ∧ N ≤ 4096) ∧ I < 0) ∨ ((1 ≤ N ∧ N ≤ 4096) ∧ 0 ≤ I ∧ N ≤ I)) :
    Calls Tryd.prog 36 #[.int .u32 (root : Int), .int .i64 N, .int .u32 (d : Int), .agg #[.int .i64 I, .slice A n c]] w fun e w' => e = .returned (.int .i64 251) ∧ Below w.heap.size w w' := by
  obtain ⟨w0, hw0⟩ : ∃ x, ((w.alloc (.cells #[.int .u32 (d : Int)] 33)).alloc (.cells #[.int .i64 I, .slice A n c] 58)).alloc (.cells #[.int .i64 251] 30) = x := ⟨_, rfl⟩
  have hb0 : Below w.heap.size w w0 := by rw [← hw0]; exact (((Below.refl _ _).alloc (Nat.le_refl _) _).alloc (by simp) _).alloc (by simp; omega) _
  have B8 : Blk w0 (w.heap.size + 1 + 1) [.int .i64 251] 30 := by
    rw [← hw0]
    have h := Blk.new ((w.alloc (.cells #[.int .u32 (d : Int)] 33)).alloc (.cells #[.int .i64 I, .slice A n c] 58)) [.int .i64 251] 30
    simp only [World.size_alloc] at h
    exact h
  have d8 := B8.cell (j := 0) rfl
  have Hw0 := hide hw0
  have Hb0 := hide hb0
  have D8 := hide d8
  clear hw0 d8 B8 hb0
  refine (callsIn_wide (n := 8)).1 ?_
  refine callsIn_of_wp_marks Tryd.func36 rfl trivial ?_ rfl
  simp only [Tryd.ntmps36, List.size_toArray, List.length_cons, List.length_nil, Nat.reduceAdd, Nat.reduceSub, Array.replicate_succ, Array.replicate_zero, List.push_toArray, List.append_toArray, List.nil_append, List.cons_append]
  rcases h with h | ⟨h1, h⟩ | ⟨⟨h1, h2⟩, h⟩ | ⟨⟨h1, h2⟩, h3, h⟩
  · have q1 : decide (N < 1) = true := decide_eq_true h
    gi_wp2
    rw [Hw0.out]
    exact ⟨_, results_intcell rfl rfl D8.out Tryd.underlying30, rfl, Hb0.out⟩
  · have q1 : decide (N < 1) = false := decide_eq_false (by omega)
    have q2 : decide (4096 < N) = true := decide_eq_true h
    gi_wp2
    rw [Hw0.out]
    exact ⟨_, results_intcell rfl rfl D8.out Tryd.underlying30, rfl, Hb0.out⟩
  · have q1 : decide (N < 1) = false := decide_eq_false (by omega)
    have q2 : decide (4096 < N) = false := decide_eq_false (by omega)
    have q3 : decide (I < 0) = true := decide_eq_true h
    gi_wp2
    rw [Hw0.out]
    exact ⟨_, results_intcell rfl rfl D8.out Tryd.underlying30, rfl, Hb0.out⟩
  · have q1 : decide (N < 1) = false := decide_eq_false (by omega)
    have q2 : decide (4096 < N) = false := decide_eq_false (by omega)
    have q3 : decide (I < 0) = false := decide_eq_false (by omega)
    have q4 : decide (N ≤ I) = true := decide_eq_true h
    gi_wp2
    rw [Hw0.out]
    exact ⟨_, results_intcell rfl rfl D8.out Tryd.underlying30, rfl, Hb0.out⟩
/-- What Proved tells. -/
def pvE (root : Nat) (N : Int) (d : Nat) (I : Int) (rows : List (List Nat)) : Int := if 1 ≤ N ∧ N ≤ 4096 ∧ 0 ≤ I ∧ I < N then (if prvD 6 N.toNat I.toNat d rows = some root then 0 else 251) else 251
theorem pvE_nat (root N d P : Nat) (rows : List (List Nat)) (h1 : P < N) (h2 : N ≤ 4096) : pvE root N d P rows = if prvD 6 N P d rows = some root then 0 else 251 := by
  unfold pvE
  rw [if_pos ⟨by omega, by omega, by omega, by omega⟩]
  rfl
theorem pv_bad {N I : Int} (h : ¬ (1 ≤ N ∧ N ≤ 4096 ∧ 0 ≤ I ∧ I < N)) : N < 1 ∨ (1 ≤ N ∧ 4096 < N) ∨ ((1 ≤ N ∧ N ≤ 4096) ∧ I < 0) ∨ ((1 ≤ N ∧ N ≤ 4096) ∧ 0 ≤ I ∧ N ≤ I) := by omega
theorem proved_any (root d : Nat) (N I : Int) (A : Option Addr) (n c : Nat) (rows : List (List Nat)) (w : World) {Q : Nat → Prop} (hT : tyTree.Is w Q rows [.slice A n c]) (hd : d < 4294967296) (hroot : root < 4294967296) (ht : Tab w) :
    Calls Tryd.prog 36 #[.int .u32 (root : Int), .int .i64 N, .int .u32 (d : Int), .agg #[.int .i64 I, .slice A n c]] w fun e w' => e = .returned (.int .i64 (pvE root N d I rows)) ∧ Below w.heap.size w w' := by
  by_cases h : 1 ≤ N ∧ N ≤ 4096 ∧ 0 ≤ I ∧ I < N
  · obtain ⟨N', rfl⟩ : ∃ k : Nat, N = (k : Int) := ⟨N.toNat, by omega⟩
    obtain ⟨I', rfl⟩ : ∃ k : Nat, I = (k : Int) := ⟨I.toNat, by omega⟩
    rw [pvE_nat _ _ _ _ _ (by omega) (by omega)]
    exact proved_main root N' d I' A n c rows w (tree_proof hT (by omega) (by omega)) hd hroot (by omega) (by omega) ht
  · rw [show pvE root N d I rows = 251 by unfold pvE; rw [if_neg h]]
    exact proved_bad root d N I A n c w (pv_bad h)
theorem rproved_any (root d : Nat) (N I : Int) (A : Option Addr) (n c : Nat) (rows : List (List Nat)) (w : World) {Q : Nat → Prop} (hT : tyTree.Is w Q rows [.slice A n c]) (hd : d < 4294967296) (hroot : root < 4294967296) :
    Calls Tryd.prog 37 #[.int .u32 (root : Int), .int .i64 N, .int .u32 (d : Int), .agg #[.int .i64 I, .slice A n c]] w fun e w' => e = .returned (.int .i64 (pvE root N d I rows)) ∧ Below w.heap.size w w' := by
  by_cases h : 1 ≤ N ∧ N ≤ 4096 ∧ 0 ≤ I ∧ I < N
  · obtain ⟨N', rfl⟩ : ∃ k : Nat, N = (k : Int) := ⟨N.toNat, by omega⟩
    obtain ⟨I', rfl⟩ : ∃ k : Nat, I = (k : Int) := ⟨I.toNat, by omega⟩
    rw [pvE_nat _ _ _ _ _ (by omega) (by omega)]
    exact rproved_main root N' d I' A n c rows w hT hd hroot (by omega) (by omega)
  · rw [show pvE root N d I rows = 251 by unfold pvE; rw [if_neg h]]
    exact rproved_bad root d N I A n c w (pv_bad h)
end Go.Proofs.YtcpnobhdogpfiaaDoor
