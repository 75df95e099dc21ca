/- Diff where one of two trees may not be, or their forms differ; Diff of any two. -/
import Derived.Test.YtcpnobhdogpfiaaDoorG25e
import Derived.Deep.DeepFit
namespace Go.Proofs.YtcpnobhdogpfiaaDoor
set_option maxRecDepth 20000
open Go.RowKit Go.Px
set_option linter.unusedVariables false
set_option maxRecDepth 100000 in
set_option maxHeartbeats 1600000 in
theorem rdiff_no (A : Option Addr) (n c : Nat) (B : Option Addr) (m d : Nat) (a b : List (List Nat)) (w : World) {Q Q' : Nat → Prop} (hT : tyTree.Is w Q a [.slice A n c]) (hU : tyTree.Is w Q' b [.slice B m d]) (h : okT a = false ∨ okT a = true ∧ okT b = false ∨ okT a = true ∧ okT b = true ∧ (a.getD 0 []).length ≠ (b.getD 0 []).length) :
    Calls Tryd.prog 39 #[.agg #[.slice A n c], .agg #[.slice B m d]] w fun e w' => e = .returned (.tuple #[.slice none 0 0, .int .i64 0, .int .i64 250]) ∧ Below w.heap.size w w' := by
  obtain ⟨w0, hw0⟩ : ∃ x, (w.alloc (.cells #[.slice A n c] 29)).alloc (.cells #[.slice B m d] 29) = x := ⟨_, rfl⟩
  have hb0 : Below w.heap.size w w0 := by rw [← hw0]; exact ((Below.refl _ _).alloc (Nat.le_refl _) _).alloc (by simp) _
  have B2 : Blk w0 w.heap.size [.slice A n c] 29 := by rw [← hw0]; exact (Blk.new w [.slice A n c] 29).alloc _
  have B3 : Blk w0 (w.heap.size + 1) [.slice B m d] 29 := by
    rw [← hw0]
    have := Blk.new (w.alloc (.cells #[.slice A n c] 29)) [.slice B m d] 29
    rwa [World.size_alloc] at this
  have hT0 := hT.below hb0
  have hU0 := hU.below hb0
  have g2 : ∀ z : InC (fun W => Below w0.heap.size w0 W), z.W.cell? ⟨w.heap.size, 0, none⟩ = some (.slice A n c) := fun z => (B2.below z.h).cell (j := 0) rfl
  have g3 : ∀ z : InC (fun W => Below w0.heap.size w0 W), z.W.cell? ⟨w.heap.size + 1, 0, none⟩ = some (.slice B m d) := fun z => (B3.below z.h).cell (j := 0) rfl
  have HC1 := hide (fun (z : InC (fun W => Below w0.heap.size w0 W)) => rcheck_any A n c a z.W (hT0.below z.h))
  have HC2 := hide (fun (z : InC (fun W => Below w0.heap.size w0 W)) => rcheck_any B m d b z.W (hU0.below z.h))
  have Hw0 := hide hw0
  rcases h with h | ⟨h1, h2⟩ | ⟨h1, h2, h3⟩
  · rw [show ckE a = 250 by unfold ckE; rw [h]; rfl] at HC1
    clear hw0 hT hU hT0 hU0 B2 B3
    go_enter Tryd.func39, Tryd.ntmps39
    go_wp2_with fail
    rw [Hw0.out]
    refine wp_region_in (fun W => Below w0.heap.size w0 W) (Below.refl _ _).drew (by kernel_rfl) (by kernel_rfl) ?_
    repeat (go_big_quiet_step (first
      | (go_at_call 30; with_reducible exact Calls.in_below (HC1.out _))))
    refine wpQuiet_nil ?_
    rintro _ ⟨nq, rfl⟩
    have hbq := hb0.trans (nq.h.mono hb0.size)
    go_wp2
    refine bodyPost_ret (results_tmp3 rfl _ _ _) rfl ?_
    exact ⟨rfl, hbq⟩
  · rw [show ckE a = 0 by unfold ckE; rw [h1]; rfl] at HC1
    rw [show ckE b = 250 by unfold ckE; rw [h2]; rfl] at HC2
    clear hw0 hT hU hT0 hU0 B2 B3
    go_enter Tryd.func39, Tryd.ntmps39
    go_wp2_with fail
    rw [Hw0.out]
    refine wp_region_in (fun W => Below w0.heap.size w0 W) (Below.refl _ _).drew (by kernel_rfl) (by kernel_rfl) ?_
    repeat (go_big_quiet_step (first
      | (go_at_call 30; with_reducible exact Calls.in_below (HC1.out _))
      | (go_at_call 30; with_reducible exact Calls.in_below (HC2.out _))))
    refine wpQuiet_nil ?_
    rintro _ ⟨nq, rfl⟩
    have hbq := hb0.trans (nq.h.mono hb0.size)
    go_wp2
    refine bodyPost_ret (results_tmp3 rfl _ _ _) rfl ?_
    exact ⟨rfl, hbq⟩
  · rw [show ckE a = 0 by unfold ckE; rw [h1]; rfl] at HC1
    rw [show ckE b = 0 by unfold ckE; rw [h2]; rfl] at HC2
    have hn : 0 < n := by
      obtain ⟨p, pA, pn, pc, pv, rfl, hpe, hl1, _⟩ := Tree_out hT
      simp only [List.cons.injEq, Value.slice.injEq, and_true] at hpe
      obtain ⟨rfl, rfl, rfl⟩ := hpe
      rw [← hl1]
      exact List.length_pos_iff.2 (fun e => by rw [e] at h1; cases h1)
    have hm : 0 < m := by
      obtain ⟨p, pA, pn, pc, pv, rfl, hpe, hl1, _⟩ := Tree_out hU
      simp only [List.cons.injEq, Value.slice.injEq, and_true] at hpe
      obtain ⟨rfl, rfl, rfl⟩ := hpe
      rw [← hl1]
      exact List.length_pos_iff.2 (fun e => by rw [e] at h2; cases h2)
    obtain ⟨xa, A0, ca, rfl, ka, -, hca, -, -⟩ := tree_row hT0 (k := 0) hn
    obtain ⟨xb, D0, cb, rfl, kb, -, hcb, -, -⟩ := tree_row hU0 (k := 0) hm
    obtain ⟨N, hN⟩ : ∃ N, (a.getD 0 []).length = N := ⟨_, rfl⟩
    obtain ⟨M, hM⟩ : ∃ M, (b.getD 0 []).length = M := ⟨_, rfl⟩
    have ka' : w0.cell? xa = some (.slice A0 (a.getD 0 []).length ca) := ka
    have kb' : w0.cell? xb = some (.slice D0 (b.getD 0 []).length cb) := kb
    rw [hN] at ka' h3
    rw [hM] at kb' h3
    have q1 : ((N : Int) != (M : Int)) = true := by simp; omega
    have g4 : ∀ z : InC (fun W => Below w0.heap.size w0 W), z.W.cell? xa = some (.slice A0 N ca) := fun z => below_cell z.h ka'
    have g5 : ∀ z : InC (fun W => Below w0.heap.size w0 W), z.W.cell? xb = some (.slice D0 M cb) := fun z => below_cell z.h kb'
    clear hw0 hT hU hT0 hU0 B2 B3 ka kb ka' kb' hN hM h1 h2 hca hcb
    go_enter Tryd.func39, Tryd.ntmps39
    go_wp2_with fail
    rw [Hw0.out]
    refine wp_region_in (fun W => Below w0.heap.size w0 W) (Below.refl _ _).drew (by kernel_rfl) (by kernel_rfl) ?_
    repeat (go_big_quiet_step (first
      | (go_at_call 30; with_reducible exact Calls.in_below (HC1.out _))
      | (go_at_call 30; with_reducible exact Calls.in_below (HC2.out _))))
    refine wpQuiet_nil ?_
    rintro _ ⟨nq, rfl⟩
    have hbq := hb0.trans (nq.h.mono hb0.size)
    clear g2 g3 g4 g5
    go_wp2
    refine bodyPost_ret (results_tmp3 rfl _ _ _) rfl ?_
    exact ⟨rfl, hbq⟩
set_option maxRecDepth 100000 in
set_option maxHeartbeats 1600000 in
theorem tdiff_no (A : Option Addr) (n c : Nat) (B : Option Addr) (m d : Nat) (a b : List (List Nat)) (w : World) {Q Q' : Nat → Prop} (hT : tyTree.Is w Q a [.slice A n c]) (hU : tyTree.Is w Q' b [.slice B m d]) (ht : Tab w) (h : okT a = false ∨ okT a = true ∧ okT b = false ∨ okT a = true ∧ okT b = true ∧ (a.getD 0 []).length ≠ (b.getD 0 []).length) :
    Calls Tryd.prog 38 #[.agg #[.slice A n c], .agg #[.slice B m d]] w fun e w' => e = .returned (.tuple #[.slice none 0 0, .int .i64 0, .int .i64 250]) ∧ Below w.heap.size w w' := by
  obtain ⟨w0, hw0⟩ : ∃ x, (w.alloc (.cells #[.slice A n c] 29)).alloc (.cells #[.slice B m d] 29) = x := ⟨_, rfl⟩
  have hb0 : Below w.heap.size w w0 := by rw [← hw0]; exact ((Below.refl _ _).alloc (Nat.le_refl _) _).alloc (by simp) _
  have B2 : Blk w0 w.heap.size [.slice A n c] 29 := by rw [← hw0]; exact (Blk.new w [.slice A n c] 29).alloc _
  have B3 : Blk w0 (w.heap.size + 1) [.slice B m d] 29 := by
    rw [← hw0]
    have := Blk.new (w.alloc (.cells #[.slice A n c] 29)) [.slice B m d] 29
    rwa [World.size_alloc] at this
  have hT0 := hT.below hb0
  have hU0 := hU.below hb0
  have ht0 : Tab w0 := Rd.below ht hb0
  have g2 : ∀ z : InC (fun W => Below w0.heap.size w0 W), z.W.cell? ⟨w.heap.size, 0, none⟩ = some (.slice A n c) := fun z => (B2.below z.h).cell (j := 0) rfl
  have g3 : ∀ z : InC (fun W => Below w0.heap.size w0 W), z.W.cell? ⟨w.heap.size + 1, 0, none⟩ = some (.slice B m d) := fun z => (B3.below z.h).cell (j := 0) rfl
  have HC1 := hide (fun (z : InC (fun W => Below w0.heap.size w0 W)) => check_any A n c a z.W (hT0.below z.h) (Rd.below ht0 z.h))
  have HC2 := hide (fun (z : InC (fun W => Below w0.heap.size w0 W)) => check_any B m d b z.W (hU0.below z.h) (Rd.below ht0 z.h))
  have Hw0 := hide hw0
  rcases h with h | ⟨h1, h2⟩ | ⟨h1, h2, h3⟩
  · rw [show ckE a = 250 by unfold ckE; rw [h]; rfl] at HC1
    clear hw0 hT hU hT0 hU0 B2 B3
    go_enter Tryd.func38, Tryd.ntmps38
    go_wp2_with fail
    rw [Hw0.out]
    refine wp_region_in (fun W => Below w0.heap.size w0 W) (Below.refl _ _).drew (by kernel_rfl) (by kernel_rfl) ?_
    repeat (go_big_quiet_step (first
      | (go_at_call 29; with_reducible exact Calls.in_below (HC1.out _))))
    refine wpQuiet_nil ?_
    rintro _ ⟨nq, rfl⟩
    have hbq := hb0.trans (nq.h.mono hb0.size)
    go_wp2
    refine bodyPost_ret (results_tmp3 rfl _ _ _) rfl ?_
    exact ⟨rfl, hbq⟩
  · rw [show ckE a = 0 by unfold ckE; rw [h1]; rfl] at HC1
    rw [show ckE b = 250 by unfold ckE; rw [h2]; rfl] at HC2
    clear hw0 hT hU hT0 hU0 B2 B3
    go_enter Tryd.func38, Tryd.ntmps38
    go_wp2_with fail
    rw [Hw0.out]
    refine wp_region_in (fun W => Below w0.heap.size w0 W) (Below.refl _ _).drew (by kernel_rfl) (by kernel_rfl) ?_
    repeat (go_big_quiet_step (first
      | (go_at_call 29; with_reducible exact Calls.in_below (HC1.out _))
      | (go_at_call 29; with_reducible exact Calls.in_below (HC2.out _))))
    refine wpQuiet_nil ?_
    rintro _ ⟨nq, rfl⟩
    have hbq := hb0.trans (nq.h.mono hb0.size)
    go_wp2
    refine bodyPost_ret (results_tmp3 rfl _ _ _) rfl ?_
    exact ⟨rfl, hbq⟩
  · rw [show ckE a = 0 by unfold ckE; rw [h1]; rfl] at HC1
    rw [show ckE b = 0 by unfold ckE; rw [h2]; rfl] at HC2
    have hn : 0 < n := by
      obtain ⟨p, pA, pn, pc, pv, rfl, hpe, hl1, _⟩ := Tree_out hT
      simp only [List.cons.injEq, Value.slice.injEq, and_true] at hpe
      obtain ⟨rfl, rfl, rfl⟩ := hpe
      rw [← hl1]
      exact List.length_pos_iff.2 (fun e => by rw [e] at h1; cases h1)
    have hm : 0 < m := by
      obtain ⟨p, pA, pn, pc, pv, rfl, hpe, hl1, _⟩ := Tree_out hU
      simp only [List.cons.injEq, Value.slice.injEq, and_true] at hpe
      obtain ⟨rfl, rfl, rfl⟩ := hpe
      rw [← hl1]
      exact List.length_pos_iff.2 (fun e => by rw [e] at h2; cases h2)
    obtain ⟨xa, A0, ca, rfl, ka, -, hca, -, -⟩ := tree_row hT0 (k := 0) hn
    obtain ⟨xb, D0, cb, rfl, kb, -, hcb, -, -⟩ := tree_row hU0 (k := 0) hm
    obtain ⟨N, hN⟩ : ∃ N, (a.getD 0 []).length = N := ⟨_, rfl⟩
    obtain ⟨M, hM⟩ : ∃ M, (b.getD 0 []).length = M := ⟨_, rfl⟩
    have ka' : w0.cell? xa = some (.slice A0 (a.getD 0 []).length ca) := ka
    have kb' : w0.cell? xb = some (.slice D0 (b.getD 0 []).length cb) := kb
    rw [hN] at ka' h3
    rw [hM] at kb' h3
    have q1 : ((N : Int) != (M : Int)) = true := by simp; omega
    have g4 : ∀ z : InC (fun W => Below w0.heap.size w0 W), z.W.cell? xa = some (.slice A0 N ca) := fun z => below_cell z.h ka'
    have g5 : ∀ z : InC (fun W => Below w0.heap.size w0 W), z.W.cell? xb = some (.slice D0 M cb) := fun z => below_cell z.h kb'
    clear hw0 hT hU hT0 hU0 B2 B3 ka kb ka' kb' hN hM h1 h2 hca hcb
    go_enter Tryd.func38, Tryd.ntmps38
    go_wp2_with fail
    rw [Hw0.out]
    refine wp_region_in (fun W => Below w0.heap.size w0 W) (Below.refl _ _).drew (by kernel_rfl) (by kernel_rfl) ?_
    repeat (go_big_quiet_step (first
      | (go_at_call 29; with_reducible exact Calls.in_below (HC1.out _))
      | (go_at_call 29; with_reducible exact Calls.in_below (HC2.out _))))
    refine wpQuiet_nil ?_
    rintro _ ⟨nq, rfl⟩
    have hbq := hb0.trans (nq.h.mono hb0.size)
    clear g2 g3 g4 g5
    go_wp2
    refine bodyPost_ret (results_tmp3 rfl _ _ _) rfl ?_
    exact ⟨rfl, hbq⟩
/-- What Diff tells of any two. -/
def dfE (a b : List (List Nat)) : Int := if okT a = true ∧ okT b = true ∧ (a.getD 0 []).length = (b.getD 0 []).length then 0 else 250
def dfR (a b : List (List Nat)) : List Nat × Nat := if okT a = true ∧ okT b = true ∧ (a.getD 0 []).length = (b.getD 0 []).length then stD a b a.length else ([], 0)
theorem df_no {a b : List (List Nat)} (h : ¬ (okT a = true ∧ okT b = true ∧ (a.getD 0 []).length = (b.getD 0 []).length)) : okT a = false ∨ okT a = true ∧ okT b = false ∨ okT a = true ∧ okT b = true ∧ (a.getD 0 []).length ≠ (b.getD 0 []).length := by
  cases ha : okT a <;> cases hb : okT b <;> simp_all
theorem df_lv {a b : List (List Nat)} (ha : okT a = true) (hb : okT b = true) (h : (a.getD 0 []).length = (b.getD 0 []).length) : Lv a b := by
  obtain ⟨la, rfl, h1, h2⟩ := okT_cases ha
  obtain ⟨lb, rfl, h3, h4⟩ := okT_cases hb
  obtain ⟨ra, hra⟩ := treeD_head la
  obtain ⟨rb, hrb⟩ := treeD_head lb
  rw [hra, hrb] at h
  exact lv_tree h h1 h2
theorem rdiff_any (A : Option Addr) (n c : Nat) (B : Option Addr) (m d : Nat) (a b : List (List Nat)) (w : World) {Q Q' : Nat → Prop} (hT : tyTree.Is w Q a [.slice A n c]) (hU : tyTree.Is w Q' b [.slice B m d]) :
    Calls Tryd.prog 39 #[.agg #[.slice A n c], .agg #[.slice B m d]] w fun e w' => ∃ P q pc, e = .returned (.tuple #[.slice P q pc, .int .i64 ((dfR a b).2 : Int), .int .i64 (dfE a b)]) ∧ (dfR a b).1.length = q ∧ q ≤ 4096 ∧ Rd w' P (nis (dfR a b).1) ∧ Below w.heap.size w w' := by
  by_cases h : okT a = true ∧ okT b = true ∧ (a.getD 0 []).length = (b.getD 0 []).length
  · unfold dfR dfE
    rw [if_pos h, if_pos h]
    exact rdiff_yes A n c B m d a b w hT hU h.1 h.2.1 (df_lv h.1 h.2.1 h.2.2)
  · unfold dfR dfE
    rw [if_neg h, if_neg h]
    refine (rdiff_no A n c B m d a b w hT hU (df_no h)).mono ?_
    rintro e w' ⟨rfl, hb⟩
    exact ⟨none, 0, 0, rfl, rfl, by omega, Rd.nil, hb⟩
theorem tdiff_any (A : Option Addr) (n c : Nat) (B : Option Addr) (m d : Nat) (a b : List (List Nat)) (w : World) {Q Q' : Nat → Prop} (hT : tyTree.Is w Q a [.slice A n c]) (hU : tyTree.Is w Q' b [.slice B m d]) (ht : Tab w) :
    Calls Tryd.prog 38 #[.agg #[.slice A n c], .agg #[.slice B m d]] w fun e w' => ∃ P q pc, e = .returned (.tuple #[.slice P q pc, .int .i64 ((dfR a b).2 : Int), .int .i64 (dfE a b)]) ∧ (dfR a b).1.length = q ∧ q ≤ 4096 ∧ Rd w' P (nis (dfR a b).1) ∧ Below w.heap.size w w' := by
  by_cases h : okT a = true ∧ okT b = true ∧ (a.getD 0 []).length = (b.getD 0 []).length
  · unfold dfR dfE
    rw [if_pos h, if_pos h]
    exact tdiff_yes A n c B m d a b w hT hU h.1 h.2.1 (df_lv h.1 h.2.1 h.2.2) ht
  · unfold dfR dfE
    rw [if_neg h, if_neg h]
    refine (tdiff_no A n c B m d a b w hT hU ht (df_no h)).mono ?_
    rintro e w' ⟨rfl, hb⟩
    exact ⟨none, 0, 0, rfl, rfl, by omega, Rd.nil, hb⟩
end Go.Proofs.YtcpnobhdogpfiaaDoor
