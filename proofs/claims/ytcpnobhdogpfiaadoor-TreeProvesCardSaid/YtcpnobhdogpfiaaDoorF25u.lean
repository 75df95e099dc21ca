/- Proofs: the document's SameProof; the law's light. -/
import Derived.Test.YtcpnobhdogpfiaaDoorF25q
import Derived.Test.YtcpnobhdogpfiaaDoorF25h
import Derived.Deep.DeepFit
namespace Go.Proofs.YtcpnobhdogpfiaaDoor
set_option maxRecDepth 20000
open Go.RowKit Go.Px
set_option linter.unusedVariables false
theorem proof_tree {w : World} {Q : Nat → Prop} {i : Int} {rows : List (List Nat)} {A : Option Addr} {n c : Nat} (h : tyProof.Is w Q (i, rows) [.int .i64 i, .slice A n c]) : tyTree.Is w Q rows [.slice A n c] := by
  obtain ⟨pI, pR, pA, pn, pc, pv, he, hce, hlo, hhi, hl1, hc1, hm1, hr1, hq1, he1⟩ := Proof_out h
  injection he with e1 e2
  subst e1 e2
  simp only [List.cons.injEq, Value.slice.injEq, and_true, true_and] at hce
  obtain ⟨rfl, rfl, rfl⟩ := hce
  exact Tree_mk hl1 hc1 hm1 hr1 hq1 he1
theorem tree_proof {w : World} {Q : Nat → Prop} {i : Int} {rows : List (List Nat)} {A : Option Addr} {n c : Nat} (h : tyTree.Is w Q rows [.slice A n c]) (h1 : -9223372036854775808 ≤ i) (h2 : i ≤ 9223372036854775807) : tyProof.Is w Q (i, rows) [.int .i64 i, .slice A n c] := by
  obtain ⟨p, pA, pn, pc, pv, rfl, hpe, hl1, hc1, hm1, hr1, hq1, he1⟩ := Tree_out h
  simp only [List.cons.injEq, Value.slice.injEq, and_true] at hpe
  obtain ⟨rfl, rfl, rfl⟩ := hpe
  exact Proof_mk (by omega) (by omega) hl1 hc1 hm1 hr1 hq1 he1
set_option maxHeartbeats 1600000 in
theorem rsameproof_any (i j : Int) (A : Option Addr) (n c : Nat) (xs : List (List Nat)) (B : Option Addr) (m d : Nat) (ys : List (List Nat)) (w : World) {Q Q' : Nat → Prop} (hx : tyTree.Is w Q xs [.slice A n c]) (hy : tyTree.Is w Q' ys [.slice B m d]) :
    Calls Tryd.prog 35 #[.agg #[.int .i64 i, .slice A n c], .agg #[.int .i64 j, .slice B m d]] w fun e w' => e = .returned (.bool (decide (i = j) && eqL xs ys)) ∧ Below w.heap.size w w' := by
  obtain ⟨w0, hw0⟩ : ∃ x, (w.alloc (.cells #[.int .i64 i, .slice A n c] 58)).alloc (.cells #[.int .i64 j, .slice B m d] 58) = x := ⟨_, rfl⟩
  have hb0 : Below w.heap.size w w0 := by rw [← hw0]; exact ((Below.refl _ _).alloc (Nat.le_refl _) _).alloc (by simp) _
  have HS := hide (rsame_any A n c xs B m d ys w0 (hx.below hb0) (hy.below hb0))
  have Hw0 := hide hw0
  obtain ⟨q, hq⟩ : ∃ q, eqL xs ys = q := ⟨_, rfl⟩
  rw [hq] at HS
  rw [hq]
  clear hw0 hx hy hq
  by_cases hij : i = j
  · subst hij
    go_enter Tryd.func35, Tryd.ntmps35
    go_wp2_with fail
    rw [Hw0.out]
    go_fit HS.out
    rintro e w1 ⟨rfl, hb1⟩
    go_wp2
    go_ret
    exact ⟨by simp, hb0.trans (hb1.mono hb0.size)⟩
  · have e1 : decide (i = j) = false := decide_eq_false hij
    have e2 : (i == j) = false := by rw [beq_eq_false_iff_ne]; exact hij
    rw [e1]
    clear hij e1
    go_enter Tryd.func35, Tryd.ntmps35
    go_wp2
    go_ret
    rw [Hw0.out]
    exact ⟨by simp, hb0⟩
set_option maxHeartbeats 1600000 in
theorem light_any (i : Int) (A : Option Addr) (n c : Nat) (rows : List (List Nat)) (w : World) {Q : Nat → Prop} (hT : tyTree.Is w Q rows [.slice A n c]) :
    Calls Tryd.prog 32 #[.agg #[.int .i64 i, .slice A n c]] w fun e w' => ∃ A' n' c' rows', e = .returned (.agg #[.int .i64 i, .slice A' n' c']) ∧ tyTree.Is w' Q rows' [.slice A' n' c'] ∧ Below w.heap.size w w' := by
  obtain ⟨w0, hw0⟩ : ∃ x, (w.alloc (.cells #[.int .i64 i, .slice A n c] 58)).alloc (.cells #[.int .i64 0, .slice none 0 0] 58) = x := ⟨_, rfl⟩
  have hb0 : Below w.heap.size w w0 := by rw [← hw0]; exact ((Below.refl _ _).alloc (Nat.le_refl _) _).alloc (by simp) _
  have zw0 : w0.heap.size = w.heap.size + 2 := by rw [← hw0]; simp
  have B1 : Blk w0 w.heap.size [.int .i64 i, .slice A n c] 58 := by rw [← hw0]; exact (Blk.new w [.int .i64 i, .slice A n c] 58).alloc _
  have B2 : Blk w0 (w.heap.size + 1) [.int .i64 0, .slice none 0 0] 58 := by
    rw [← hw0]
    have := Blk.new (w.alloc (.cells #[.int .i64 i, .slice A n c] 58)) [.int .i64 0, .slice none 0 0] 58
    rwa [World.size_alloc] at this
  have HC := hide (cut_any A n c rows w0 (hT.here.below hb0))
  have Hw0 := hide hw0
  have Hz := hide zw0
  clear hw0 hT zw0
  go_enter Tryd.func32, Tryd.ntmps32
  go_wp2_with fail
  rw [Hw0.out]
  go_fit HC.out
  rintro e w1 ⟨A1, n1, c1, l1, rfl, hl, hb1⟩
  obtain ⟨w2, hw2⟩ : ∃ x, w1.alloc (.cells #[.slice A1 n1 c1] 29) = x := ⟨_, rfl⟩
  have hb12 : Below w1.heap.size w1 w2 := by rw [← hw2]; exact (Below.refl _ _).alloc (Nat.le_refl _) _
  have hb2 := hb1.trans (hb12.mono hb1.size)
  have E1 := B1.below hb2
  have E2 := B2.below hb2
  have E3 : Blk w2 w1.heap.size [.slice A1 n1 c1] 29 := by rw [← hw2]; exact Blk.new w1 [.slice A1 n1 c1] _
  have hl2 := hl.below hb12
  have z1 := hb1.size
  have d10 := E1.cell (j := 0) rfl
  have d11 := E1.cell (j := 1) rfl
  have d20 := E2.cell (j := 0) rfl
  have d21 := E2.cell (j := 1) rfl
  have d3 := E3.cell (j := 0) rfl
  have f1 := E1.frozen 1
  have f20 := E2.frozen 0
  have f21 := E2.frozen 1
  have hbf := hb0.trans (hb2.mono hb0.size)
  have HL := hide hl2
  rw [← hw2] at d10 d11 d20 d21 d3 f1 f20 f21
  have Hw2 := hide hw2
  clear hw2 hl hl2
  go_wp2_with fail
  rw [Hw2.out]
  have X2 : Blk (((w2.setCell ⟨w.heap.size, 1, none⟩ (.slice A1 n1 c1)).setCell ⟨w.heap.size + 1, 0, none⟩ (.int .i64 i)).setCell ⟨w.heap.size + 1, 1, none⟩ (.slice A1 n1 c1)) (w.heap.size + 1) [.int .i64 i, .slice A1 n1 c1] 58 := ((E2.apart (by omega) 1 _).set 0 _).set 1 _
  have g1 := (HL.out.grown (setCell_grown w2 w.heap.size 1 (.slice A1 n1 c1)) (fun b hb e => by injection e with e; have := hb.2; omega))
  have g2 := g1.grown (setCell_grown _ (w.heap.size + 1) 0 (.int .i64 i)) (fun b hb e => by injection e with e; have := hb.2; omega)
  have g3 := g2.grown (setCell_grown _ (w.heap.size + 1) 1 (.slice A1 n1 c1)) (fun b hb e => by injection e with e; have := hb.2; omega)
  refine bodyPost_ret (results_cell rfl rfl X2 Tryd.underlying58 rfl (by kernel_rfl)) rfl ?_
  exact ⟨_, _, _, _, rfl, g3.mono (fun b hb => hb.1), ((hbf.setCell (Nat.le_refl _) _).setCell (by show w.heap.size ≤ w.heap.size + 1; omega) _).setCell (by show w.heap.size ≤ w.heap.size + 1; omega) _⟩
end Go.Proofs.YtcpnobhdogpfiaaDoor
