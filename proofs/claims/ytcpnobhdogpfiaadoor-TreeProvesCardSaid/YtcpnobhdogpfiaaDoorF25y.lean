/- Proofs: the document's Prove out of range. -/
import Derived.Test.YtcpnobhdogpfiaaDoorF25x
import Derived.Deep.DeepFit
namespace Go.Proofs.YtcpnobhdogpfiaaDoor
set_option maxRecDepth 20000
open Go.RowKit Go.Px
set_option linter.unusedVariables false
set_option maxHeartbeats 1600000 in
theorem rprove_rng (A : Option Addr) (n c : Nat) (l : List Nat) (r : List (List Nat)) (i : Int) (w : World) {Q : Nat → Prop} (hT : tyTree.Is w Q (l :: r) [.slice A n c]) (hok : okT (l :: r) = true) (hk : ¬ (0 ≤ i ∧ i < l.length)) :
    Calls Tryd.prog 34 #[.agg #[.slice A n c], .int .i64 i] w fun e w' => e = .returned (.tuple #[.agg #[.int .i64 0, .slice none 0 0], .int .i64 5]) ∧ Below w.heap.size w w' := by
  obtain ⟨w0, hw0⟩ : ∃ x, (w.alloc (.cells #[.slice A n c] 29)).alloc (.cells #[.int .i64 0, .slice none 0 0] 58) = x := ⟨_, rfl⟩
  have hb0 : Below w.heap.size w w0 := by rw [← hw0]; exact ((Below.refl _ _).alloc (Nat.le_refl _) _).alloc (by simp) _
  have zw0 : w0.heap.size = w.heap.size + 2 := by rw [← hw0]; simp
  have B1 : Blk w0 w.heap.size [.slice A n c] 29 := by rw [← hw0]; exact (Blk.new w [.slice A n c] 29).alloc _
  have B2 : Blk w0 (w.heap.size + 1) [.int .i64 0, .slice none 0 0] 58 := by
    rw [← hw0]
    have := Blk.new (w.alloc (.cells #[.slice A n c] 29)) [.int .i64 0, .slice none 0 0] 58
    rwa [World.size_alloc] at this
  have HC := hide (rcheck_any A n c (l :: r) w0 (hT.below hb0))
  rw [show ckE (l :: r) = 0 by unfold ckE; rw [hok]; rfl] at HC
  have hN : 1 ≤ l.length ∧ l.length ≤ 4096 := by
    have h' : (okN l.length && eqL (l :: r) (treeD l)) = true := hok
    rw [Bool.and_eq_true] at h'
    exact of_decide_eq_true h'.1
  have HK := hide (fun (X : World) (hX : Below w0.heap.size w0 X) => show X.cell? ⟨w.heap.size, 0, none⟩ = some (.slice A n c) ∧ 0 < n ∧ ∃ (a : Addr) (B : Option Addr) (m : Nat), A = some a ∧ X.cell? a = some (.slice B l.length m) ∧ l.length ≤ m ∧ m ≤ 9223372036854775807 ∧ Rd X B (u32s l) ∧ ∀ x ∈ l, x < 4294967296 from by
    obtain ⟨p, pA, pn, pc, pv, rfl, hpe, hl1, hc1, hm1, hr1, _, he1⟩ := Tree_out ((hT.below hb0).below hX)
    simp only [List.cons.injEq, Value.slice.injEq, and_true] at hpe
    obtain ⟨rfl, rfl, rfl⟩ := hpe
    obtain ⟨B, m, hv, hm2, hm3, hrl, _, hbl⟩ := rows32_at he1 (k := 0) (by simp)
    simp only [List.getElem_cons_zero] at hv hm2 hrl hbl
    obtain ⟨a, rfl, hc⟩ := hr1 0 _ hv
    rw [show a.add 0 = a from rfl] at hc
    exact ⟨(B1.below hX).cell (j := 0) rfl, by rw [← hl1]; simp, a, B, m, rfl, hc, hm2, hm3, hrl, hbl⟩)
  obtain ⟨N, hNN⟩ : ∃ N, l.length = N := ⟨_, rfl⟩
  rw [hNN] at hN hk HK
  have Hw0 := hide hw0
  clear hw0 hT hok hNN B1 hN
  go_enter Tryd.func34, Tryd.ntmps34
  go_wp2_with fail
  rw [Hw0.out]
  go_fit HC.out
  rintro e w1 ⟨rfl, hb1⟩
  obtain ⟨k0, k1, a, B, m, rfl, k2, k3, k4, k5, k6⟩ := HK.out w1 hb1
  have E2 := B2.below hb1
  have d2 := E2.cell (j := 0) rfl
  have d3 := E2.cell (j := 1) rfl
  have f2 := E2.frozen 0
  have f3 := E2.frozen 1
  have HX4 := hide (show Blk ((w1.setCell ⟨w.heap.size + 1, 0, none⟩ (.int .i64 0)).setCell ⟨w.heap.size + 1, 1, none⟩ (.slice none 0 0)) (w.heap.size + 1) [.int .i64 0, .slice none 0 0] 58 from (E2.set 0 _).set 1 _)
  have Hbf := hide (show Below w.heap.size w ((w1.setCell ⟨w.heap.size + 1, 0, none⟩ (.int .i64 0)).setCell ⟨w.heap.size + 1, 1, none⟩ (.slice none 0 0)) from ((hb0.trans (hb1.mono hb0.size)).setCell (by show w.heap.size ≤ w.heap.size + 1; omega) _).setCell (by show w.heap.size ≤ w.heap.size + 1; omega) _)
  clear k5 k6 HK HC
  rcases (show i < 0 ∨ 0 ≤ i ∧ (N : Int) ≤ i by omega) with hi | ⟨hi, hi2⟩
  · clear hk
    go_wp2
    refine bodyPost_ret (results_cell2 rfl rfl HX4.out Tryd.underlying58 rfl (by kernel_rfl)) rfl ?_
    exact ⟨rfl, Hbf.out⟩
  · clear hk
    have q0 : decide (i < 0) = false := decide_eq_false (by omega)
    go_wp2
    refine bodyPost_ret (results_cell2 rfl rfl HX4.out Tryd.underlying58 rfl (by kernel_rfl)) rfl ?_
    exact ⟨rfl, Hbf.out⟩
end Go.Proofs.YtcpnobhdogpfiaaDoor
