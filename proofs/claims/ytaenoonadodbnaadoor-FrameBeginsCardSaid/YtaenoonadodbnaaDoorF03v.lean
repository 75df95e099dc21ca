/- frame.Scan: a range over a function. -/
import Derived.Test.YtaenoonadodbnaaDoorF03z
namespace Go.Proofs.YtaenoonadodbnaaDoor
open Go.RowKit Go.Px Go.Shelf
set_option linter.unusedVariables false
attribute [local go_sem] Oper.semAt_some
theorem frames_any (A : Option Addr) (m c : Nat) (w : World) : Calls Tryd.prog 35 #[.slice A m c] w fun e w' => e = .returned (.func (.func 42) #[] #[.pointer (some ⟨w.heap.size, 0, none⟩)]) ∧ w' = w.alloc (.cells #[.slice A m c] 23) := by
  go_enter Tryd.func35, Tryd.ntmps35
  go_wp2
  go_ret
  exact ⟨rfl, rfl⟩
theorem infoFr : (Tryd.prog.info? 25).map (fun i => (i.zero, i.size, i.bytes)) = some (some (.agg #[.int .u8 0, .int .u64 0, .slice none 0 0]), 3, 40) := by kernel_rfl
theorem stop_appendIn {F : Fence} {n : Nat} {P : Program} {ops : Array Oper} {rest : List Oper} {o : Oper} {a : Act} {Q : Exit → Act → World → Prop} {w : World} {args : Array Operand} {ts : Array TypeId} (_ : o.op = .call { callee := .builtin .append, args := args, argTypes := ts }) (h : Stop (wpListIn F n P ops Q (o :: rest) a w)) : wpListIn F n P ops Q (o :: rest) a w := h
theorem run_endRound_ready {P : Program} {W : World} {l : Nat} {r : Loop} (hs : r.state = .ready) (hp : r.pending = none) (h : W.heap[l]? = some (.loop { r with state := .busy })) :
    (Instr.endRound l none).run P W = .ok (.bool true) (W.putObj l (.loop r)) := by
  rw [run_endRound none h]
  cases r
  simp_all
set_option maxHeartbeats 3200000 in
/-- The loop of Scan, out of one round's walk. -/
theorem range_scan {ps : Array Tmp} {assign body : Code} {Q : Exit → Act → World → Prop} {a : Act} {g : Operand} (n : Nat) (hn : 2 ≤ n) (A : Option Addr) (m c : Nat) (bs : List UInt8) (w W0 : World) (hm : bs.length = m) (hm8 : m ≤ 16384) (hmc : m ≤ c) (hc : c ≤ 9223372036854775807) (hr : Rd w A (bys bs)) (ht : Tab w)
    (hg : a.eval g = .func (.func 42) #[] #[.pointer (some ⟨w.heap.size + 2, 0, none⟩)]) (hps : ps.size = 2) (hsz : W0.heap.size = w.heap.size + 3)
    (hB0 : Blk W0 w.heap.size [.slice none 0 0] 35) (hB1 : Blk W0 (w.heap.size + 1) [.int .i64 0] 3) (hB2 : Blk W0 (w.heap.size + 2) [.slice A m c] 23) (hb : Below w.heap.size w W0)
    (hround : ∀ (r : Loop) (Bd j : Nat) (W : World) (K S : Nat) (A1 : Option Addr) (c1 : Nat) (D : List UInt8) (P' : Nat), r.state = .ready → r.pending = none → ScInv w A m c bs r Bd j W → NextFr w m bs Bd j W K S A1 c1 D P' →
      assign.wpIn (Fence.wide.inRound (w.heap.size + 4)) (n - 1 - 1) Tryd.prog (Exit.then (fun a₁ w₁ => ∃ w₂, (Instr.beginRound (w.heap.size + 4)).run Tryd.prog w₁ = .ok () w₂ ∧ body.wpIn (Fence.wide.inRound (w.heap.size + 4)) (n - 1 - 1) Tryd.prog (roundPost Tryd.prog (w.heap.size + 4) (fun e W' => e = .returned (.bool true) ∧ ∃ Bd', ScInv w A m c bs r Bd' (j + 1) W')) a₁ w₂) (fun _ _ _ => False))
        { tmps := (ps.zip #[.agg #[.int .u8 (K : Nat), .int .u64 (S : Nat), .slice A1 D.length c1], .int .i64 (P' : Nat)]).foldl (fun t (p, v) => t.setIfInBounds p v) a.tmps, defers := [] } W)
    (hdone : ∀ (J Bd : Nat) (r : Loop) (W : World), Ends bs J → ScInv w A m c bs r Bd J W → Q .normal { a with defers := { target := .collected (w.heap.size + 3), args := #[] } :: a.defers } W) :
    (Code.rangeFunc g ps assign body).wpIn Fence.wide n Tryd.prog Q a W0 := by
  refine wpIn_rangeFunc ?_
  intro fn _
  obtain ⟨r, hrr⟩ : ∃ r : Loop, r = { state := .ready, pending := none, fn, tmps := a.tmps, params := ps, assign, body, defers := w.heap.size + 3 } := ⟨_, rfl⟩
  obtain ⟨W1, hW1⟩ : ∃ W1, (W0.alloc (.deferred (some []))).alloc (.loop r) = W1 := ⟨_, rfl⟩
  have hrs : r.state = .ready := by rw [hrr]
  have hrp : r.pending = none := by rw [hrr]
  have hb01 : Below W0.heap.size W0 W1 := by rw [← hW1]; exact ((Below.refl _ _).alloc (Nat.le_refl _) _).alloc (by simp) _
  have hL : W1.heap[w.heap.size + 4]? = some (.loop r) := by
    rw [← hW1]
    have := World.alloc_heap_new (W0.alloc (.deferred (some []))) (.loop r)
    rwa [World.size_alloc, hsz] at this
  have hD : W1.heap[w.heap.size + 3]? = some (.deferred (some [])) := by
    rw [← hW1]
    have := World.alloc_heap_new W0 (.deferred (some []))
    rw [hsz] at this
    exact (Below.heap_alloc _ _ _ (by simp; omega)).trans this
  have hs1 : W1.heap.size = w.heap.size + 5 := by rw [← hW1]; simp; omega
  have hI : ScInv w A m c bs r (w.heap.size + 5) 0 W1 := ⟨_, [], fun t ht => by omega, by show 20 * 0 ≤ 0; omega, by show 0 ≤ m; omega, hB0.below hb01, hB1.below hb01, hB2.below hb01, World.ownsRow_nil _ _ _ _, FrRows.nil, fun g hg => by simp [Value.ownBlock] at hg, Nat.le_refl _, by omega, hL, hD, hb.trans (hb01.mono hb.size)⟩
  refine ⟨w.heap.size + 4, [{ target := .collected (w.heap.size + 3), args := #[] }], W1, { target := .fn (.func 42) #[.pointer (some ⟨w.heap.size + 2, 0, none⟩)], args := #[.func (.yield (w.heap.size + 4)) #[] #[]] }, W1, 42,
    #[.func (.yield (w.heap.size + 4)) #[] #[], .pointer (some ⟨w.heap.size + 2, 0, none⟩)], W1, ?_, ?_, ?_, ?_, ?_, ?_⟩
  · rw [← hW1, hrr]
    have := run_enterLoop_outer (P := Tryd.prog) (w := W0) fn a.tmps ps assign body
    rw [hsz] at this
    exact this
  · simp only [resolve, hg]
    simp [go_sem]
  · intro f' _; trivial
  · simp [invoke, go_sem]
  · intro _; omega
  · refine (frames1_walk (n - 1) (by omega) w A m c bs r hm hm8 hmc hc hr ht ?_ W1 ⟨_, hI⟩).mono ?_
    · intro Bd j W K S A1 c1 D P' hInv hnx
      have hl : W.heap[w.heap.size + 4]? = some (.loop r) := by obtain ⟨v, cs, _, _, _, _, _, _, _, _, _, _, _, h12, _, _⟩ := hInv; exact h12
      have hy := run_yield (P := Tryd.prog) (args := #[.agg #[.int .u8 (K : Nat), .int .u64 (S : Nat), .slice A1 D.length c1], .int .i64 (P' : Nat)]) hl (by rw [hrr]; exact hps.symm)
      have hR := hround r Bd j W K S A1 c1 D P' hrs hrp hInv hnx
      rw [hrr] at hy
      refine ⟨_, _, _, _, hy, roundIn_of_wpIn trivial ?_⟩
      rw [hrr] at hR
      rw [hrr]
      exact hR
    · rintro e W2 ⟨⟨v, rfl⟩, J, Bd, hend, hInv⟩
      have hl : W2.heap[w.heap.size + 4]? = some (.loop r) := by obtain ⟨v, cs, _, _, _, _, _, _, _, _, _, _, _, h12, _, _⟩ := hInv; exact h12
      exact ⟨none, _, by have := run_endLoop (P := Tryd.prog) hl (by rw [hrs]; simp); rw [hrp] at this; exact this, hdone J Bd _ _ hend (hInv.put _)⟩
set_option maxRecDepth 100000 in
set_option maxHeartbeats 3200000 in
theorem fscan_any (A : Option Addr) (m c : Nat) (bs : List UInt8) (w : World) (hm : bs.length = m) (hm8 : m ≤ 16384) (hmc : m ≤ c) (hc : c ≤ 9223372036854775807) (hr : Rd w A (bys bs)) (ht : Tab w) :
    Calls Tryd.prog 18 #[.slice A m c] w fun e w' => ∃ J o cs, e = .returned (.tuple #[o, .int .i64 (scP bs J : Nat)]) ∧ Ends bs J ∧ w'.ownsRow w.heap.size 25 3 o J cs ∧ FrRows w' (fun B => w.heap.size ≤ B ∧ B < w'.heap.size ∧ some B ≠ o.ownBlock) cs (scF bs J) ∧ Below w.heap.size w w' := by
  obtain ⟨i0, hi, hz0, hz1, hz2⟩ := info_parts infoFr
  refine (callsIn_wide (n := 8)).1 ?_
  refine callsIn_of_wp_marks Tryd.func18 rfl trivial ?_ rfl
  simp only [Tryd.ntmps18, List.size_toArray, List.length_cons, List.length_nil, Nat.reduceAdd, Nat.reduceSub, Array.replicate_succ, Array.replicate_zero, List.push_toArray, List.append_toArray, List.nil_append, List.cons_append]
  gi_wp2_with fail
  refine ⟨trivial, (callsIn_wide.2 (frames_any A m c _)).mono ?_⟩
  rintro e w' ⟨rfl, rfl⟩
  gi_wp2_with fail
  have hsz : ((((w.alloc (.cells #[.slice none 0 0] 35)).alloc (.cells #[.int .i64 0] 3)).alloc (.cells #[.slice A m c] 23)).heap.size) = w.heap.size + 3 := by simp
  refine range_scan 8 (by omega) A m c bs w _ hm hm8 hmc hc hr ht rfl rfl hsz ?b0 ?b1 ?b2 ?hb ?round ?done
  case b0 => exact ((Blk.new w [.slice none 0 0] 35).alloc _).alloc _
  case b1 =>
    have := (Blk.new (w.alloc (.cells #[.slice none 0 0] 35)) [.int .i64 0] 3).alloc (.cells #[.slice A m c] 23)
    rwa [World.size_alloc] at this
  case b2 =>
    have := Blk.new ((w.alloc (.cells #[.slice none 0 0] 35)).alloc (.cells #[.int .i64 0] 3)) [.slice A m c] 23
    rwa [World.size_alloc, World.size_alloc] at this
  case hb => exact (((Below.refl _ _).alloc (Nat.le_refl _) _).alloc (by simp) _).alloc (by simp; omega) _
  case round =>
    intro r Bd j W K S A1 c1 D P' hrs hrp hInv hnx
    have hfb : Below W.heap.size W (W.alloc (.cells #[.int .u8 (K : Nat), .int .u64 (S : Nat), .slice A1 D.length c1] 25)) := (Below.refl _ _).alloc (Nat.le_refl _) _
    have hInv2 := hInv.below hfb
    have hrd2 := hnx.rd.below hfb
    have hfr2 := Blk.new W [.int .u8 (K : Nat), .int .u64 (S : Nat), .slice A1 D.length c1] 25
    obtain ⟨f, hf⟩ : ∃ f, W.heap.size = f := ⟨_, rfl⟩
    have hblk := hnx.blk
    have hBW : Bd ≤ W.heap.size := by obtain ⟨v, cs, _, _, _, _, _, _, _, _, _, _, h11, _, _, _⟩ := hInv; exact h11
    obtain ⟨n1, n2, n3, n4, n5, n6, n7, n8, n9⟩ := hnx
    obtain ⟨W2, hW2⟩ : ∃ x, W.alloc (.cells #[.int .u8 (K : Nat), .int .u64 (S : Nat), .slice A1 D.length c1] 25) = x := ⟨_, rfl⟩
    rw [hW2] at hInv2 hrd2 hfr2 hfb
    rw [hf] at hfr2
    have hsz2 : f + 1 = W2.heap.size := by rw [← hW2, World.size_alloc, hf]
    have Hw2 := hide hW2
    have hl2 : W2.heap[w.heap.size + 4]? = some (.loop r) := by obtain ⟨v, cs, _, _, _, _, _, _, _, _, _, _, _, h12, _, _⟩ := hInv2; exact h12
    have hInv3 := hInv2.put { r with state := .busy }
    have hg3 := grownBy_putObj' W2 (w.heap.size + 4) (.loop { r with state := .busy })
    have hB5 : w.heap.size + 5 ≤ Bd := by obtain ⟨v, cs, _, _, _, _, _, _, _, _, _, h10, _, _, _, _⟩ := hInv; exact h10
    have hfr3 : Blk (W2.putObj (w.heap.size + 4) (.loop { r with state := .busy })) f _ _ := (World.putObj_heap_other (show f ≠ w.heap.size + 4 by omega)).trans hfr2
    have hrd3 := hrd2.grown hg3 (fun a ha e => by injection e with e; have := (hblk a ha).1; omega)
    obtain ⟨W3, hW3⟩ : ∃ x, W2.putObj (w.heap.size + 4) (.loop { r with state := .busy }) = x := ⟨_, rfl⟩
    have hsz3 : W3.heap.size = W2.heap.size := by rw [← hW3]; simp [World.putObj]
    rw [hW3] at hInv3 hfr3 hrd3
    have Hw3 := hide hW3
    have Hs2 := hide hsz2
    have Hs3 := hide hsz3
    clear hW2 hW3 hg3 hfb hsz2 hsz3
    gi_wp2
    rw [Hw2.out]
    refine ⟨_, run_beginRound hl2 hrs, ?_⟩
    rw [Hw3.out]
    obtain ⟨v, cs, hgd, h20, hpm, hBa, hBb, hBc, hown, hF, hlo, hBd, hBs, hL, hD, hbw⟩ := hInv3
    have lo := own_lt3 hown
    have y0 := hBa.cell (j := 0) rfl
    have f0 := hfr3.cell (j := 0) rfl
    have f1 := hfr3.cell (j := 1) rfl
    have f2 := hfr3.cell (j := 2) rfl
    have hnb : Below W3.heap.size W3 (W3.alloc (.cells #[.int .u8 (K : Nat), .int .u64 (S : Nat), .slice A1 D.length c1] 25)) := (Below.refl _ _).alloc (Nat.le_refl _) _
    have hnew := Rd.newN W3 [.int .u8 (K : Nat), .int .u64 (S : Nat), .slice A1 D.length c1] 25 (0, 0)
    have hown4 := own_below hown hnb
    have hBa4 := hBa.below hnb
    have hj1 : (j + 1) * 40 ≤ 140737488355328 := by omega
    gi_wp2_with (first | (with_reducible refine stop_appendIn rfl ?_))
    show wpListIn _ _ _ _ _ _ _ _
    refine wpListIn_append_own_at _ rfl _ _ 35 rfl (w.heap.size + 5) 25 i0 (.agg #[.int .u8 0, .int .u64 0, .slice none 0 0]) 3 40 Tryd.underlying35 hi hz0 hz1 hz2 rfl (by decide) v j cs rfl hown4 ⟨W3.heap.size, 0, none⟩ 1 1 [.int .u8 (K : Nat), .int .u64 (S : Nat), .slice A1 D.length c1] rfl rfl (fun q u hu => hnew.at_ hu) (by intro u hu; simp at hu; rcases hu with rfl | rfl | rfl <;> rfl) (by unfold maxLen; omega) hj1 (by simp; omega) ?_
    intro v5 w5 hown5 hg5 _ hv5
    have hlo3 := lo
    have W3s : w.heap.size + 5 ≤ W3.heap.size := by omega
    obtain ⟨W4, hW4⟩ : ∃ x, W3.alloc (.cells #[.int .u8 (K : Nat), .int .u64 (S : Nat), .slice A1 D.length c1] 25) = x := ⟨_, rfl⟩
    rw [hW4] at hg5 hv5 hnb hown4 hBa4
    have hsz4 : W3.heap.size + 1 = W4.heap.size := by rw [← hW4, World.size_alloc]
    have lo5 := own_lt3 hown5
    have kb : ∀ q, q < w.heap.size + 5 → w5.heap[q]? = W3.heap[q]? := fun q hq => (hg5.block q (by omega) (fun e => by have := lo q e.symm; omega)).trans (hnb.block q (by omega))
    have hBa5 : Blk w5 w.heap.size _ _ := (kb _ (by omega)).trans hBa
    have hBb5 : Blk w5 (w.heap.size + 1) _ _ := (kb _ (by omega)).trans hBb
    have hBc5 : Blk w5 (w.heap.size + 2) _ _ := (kb _ (by omega)).trans hBc
    have hL5 := (kb _ (show w.heap.size + 4 < w.heap.size + 5 by omega)).trans hL
    have hD5 := (kb _ (show w.heap.size + 3 < w.heap.size + 5 by omega)).trans hD
    have hsz5 := hg5.size
    have hb5 : Below w.heap.size w w5 := hbw.trans ⟨hg5.os.trans hnb.os, hg5.tape.trans hnb.tape, hg5.output.trans hnb.output, by omega, fun q hq => kb q (by omega)⟩
    obtain ⟨A5, c5, rfl, _, hc5, hcm5, _, _⟩ := own_out hown5
    have hne : ∀ B, B < W4.heap.size → some B ≠ v.ownBlock → some B ≠ (Value.slice A5 (j + 1) c5).ownBlock := fun B hB hB' e => by
      rcases hv5 with e' | e'
      · rw [e'] at e; exact hB' e
      · rw [e'] at e; injection e with e; omega
    have hne1 : ∀ a, A1 = some a → some a.block ≠ v.ownBlock := fun a ha e => by
      have := hlo a.block e.symm
      have := (hblk a ha).1
      omega
    have hA1 : ∀ a, A1 = some a → a.block < W3.heap.size := fun a ha => by
      have := (hblk a ha).2
      have := Hs2.out
      have := Hs3.out
      omega
    have hF5 : FrRows w5 (fun B => w.heap.size + 5 ≤ B ∧ B < W3.heap.size ∧ some B ≠ (Value.slice A5 (j + 1) c5).ownBlock) (cs ++ [.int .u8 (K : Nat), .int .u64 (S : Nat), .slice A1 D.length c1]) (scF bs j ++ [(K, S, D)]) :=
      (hF.keep (fun A xs hr hq => (hr.below hnb).grown hg5 (fun a ha => (hq a ha).2.2)) (fun B hB => ⟨hB.1, by have := hB.2.1; omega, hne B (by have := hB.2.1; omega) hB.2.2⟩)).snoc rfl n6 n7 ((hrd3.below hnb).grown hg5 hne1)
        (fun a ha => ⟨by have := (hblk a ha).1; omega, hA1 a ha, hne _ (by have := hA1 a ha; omega) (hne1 a ha)⟩)
    rw [← n1] at hF5
    have y5 := hBa5.cell (j := 0) rfl
    have z5 := hBa5.frozen 0
    have y6 := (hBb5.apart (show w.heap.size + 1 ≠ w.heap.size by omega) 0 (.slice A5 (j + 1) c5)).cell (j := 0) rfl
    have z6 := (hBb5.apart (show w.heap.size + 1 ≠ w.heap.size by omega) 0 (.slice A5 (j + 1) c5)).frozen 0
    have HF5 := hide hF5
    have Hn1 := hide n1
    clear hF hv5 hg5 hnew hown4 hBa4 hW4 y0 f0 f1 f2 hF5 n1
    gi_wp2
    have hcell : ∀ (X : World) (g q : Nat) (u : Value), X.grownBy (X.setCell ⟨g, q, none⟩ u) (some g) := fun X g q u => ⟨rfl, rfl, rfl, by simp, fun k hk hne => heap_setCell_other X ⟨g, q, none⟩ k u (by intro e; exact hne (by rw [e]))⟩
    have g1 := hcell w5 w.heap.size 0 (.slice A5 (j + 1) c5)
    have g2 := hcell (w5.setCell ⟨w.heap.size, 0, none⟩ (.slice A5 (j + 1) c5)) (w.heap.size + 1) 0 (.int .i64 (P' : Nat))
    have hl6 := (heap_setCell_other (w5.setCell ⟨w.heap.size, 0, none⟩ (.slice A5 (j + 1) c5)) ⟨w.heap.size + 1, 0, none⟩ (w.heap.size + 4) (.int .i64 (P' : Nat)) (by show w.heap.size + 4 ≠ w.heap.size + 1; omega)).trans ((heap_setCell_other w5 ⟨w.heap.size, 0, none⟩ (w.heap.size + 4) (.slice A5 (j + 1) c5) (by show w.heap.size + 4 ≠ w.heap.size; omega)).trans hL5)
    have hd6 := (heap_setCell_other (w5.setCell ⟨w.heap.size, 0, none⟩ (.slice A5 (j + 1) c5)) ⟨w.heap.size + 1, 0, none⟩ (w.heap.size + 3) (.int .i64 (P' : Nat)) (by show w.heap.size + 3 ≠ w.heap.size + 1; omega)).trans ((heap_setCell_other w5 ⟨w.heap.size, 0, none⟩ (w.heap.size + 3) (.slice A5 (j + 1) c5) (by show w.heap.size + 3 ≠ w.heap.size; omega)).trans hD5)
    have b0 := (hBa5.set 0 (.slice A5 (j + 1) c5)).apart (show w.heap.size ≠ w.heap.size + 1 by omega) 0 (.int .i64 (P' : Nat))
    have b1 := (hBb5.apart (show w.heap.size + 1 ≠ w.heap.size by omega) 0 (.slice A5 (j + 1) c5)).set 0 (.int .i64 (P' : Nat))
    have b2 := (hBc5.apart (show w.heap.size + 2 ≠ w.heap.size by omega) 0 (.slice A5 (j + 1) c5)).apart (show w.heap.size + 2 ≠ w.heap.size + 1 by omega) 0 (.int .i64 (P' : Nat))
    have b3 := own_grown3 (own_grown3 hown5 g1 (fun q hq e => by injection e with e; have := (lo5 q hq).1; omega)) g2 (fun q hq e => by injection e with e; have := (lo5 q hq).1; omega)
    have b4 := HF5.out.keep (w' := (w5.setCell ⟨w.heap.size, 0, none⟩ (.slice A5 (j + 1) c5)).setCell ⟨w.heap.size + 1, 0, none⟩ (.int .i64 (P' : Nat))) (Q' := fun B => w.heap.size + 5 ≤ B ∧ B < w5.heap.size ∧ some B ≠ (Value.slice A5 (j + 1) c5).ownBlock)
      (fun A xs hr hq => (hr.grown g1 (fun a ha e => by injection e with e; have := (hq a ha).1; omega)).grown g2 (fun a ha e => by injection e with e; have := (hq a ha).1; omega)) (fun B hB => ⟨hB.1, by have := hB.2.1; omega, hB.2.2⟩)
    have b5 : Below w.heap.size w ((w5.setCell ⟨w.heap.size, 0, none⟩ (.slice A5 (j + 1) c5)).setCell ⟨w.heap.size + 1, 0, none⟩ (.int .i64 (P' : Nat))) := (hb5.setCell (show w.heap.size ≤ w.heap.size by omega) _).setCell (show w.heap.size ≤ w.heap.size + 1 by omega) _
    have hInv6 : ScInv w A m c bs { r with state := .busy } w5.heap.size (j + 1) ((w5.setCell ⟨w.heap.size, 0, none⟩ (.slice A5 (j + 1) c5)).setCell ⟨w.heap.size + 1, 0, none⟩ (.int .i64 (P' : Nat))) :=
      ⟨_, _, n3, by rw [n2]; exact n4, by rw [n2]; exact n5, b0, by rw [n2]; exact b1, b2, b3, b4, fun q hq => (lo5 q hq).2, by omega, by simp, hl6, hd6, b5⟩
    exact ⟨_, _, run_endRound_ready hrs hrp hl6, rfl, _, hInv6.put r⟩
  case done =>
    intro J Bd r W hend hInv
    obtain ⟨v, cs, hgd, h20, hpm, hBa, hBb, hBc, hown, hF, hlo, hBd, hBs, hL, hD, hbw⟩ := hInv
    have y0 := hBa.cell (j := 0) rfl
    have y1 := hBb.cell (j := 0) rfl
    gi_wp2
    refine wpIn_wide.2 ?_
    go_wp2
    go_quiet (fail)
    gi_wp2
    refine ⟨by simp, .inl ⟨_, _, rfl, run_takeDeferred (show (W.drewN nq).heap[w.heap.size + 3]? = some (.deferred (some [])) from hD), ?_⟩⟩
    have g := grownBy_putObj' (W.drewN nq) (w.heap.size + 3) (.deferred none)
    have lo := own_lt3 hown
    have hszW : ((W.drewN nq).putObj (w.heap.size + 3) (.deferred none)).heap.size = W.heap.size := by simp [World.putObj]
    have hb' : Below w.heap.size w (W.drewN nq) := ⟨hbw.os, hbw.tape, hbw.output, hbw.size, hbw.block⟩
    have hown' : (W.drewN nq).ownsRow (w.heap.size + 5) 25 3 v J cs := hown
    exact ⟨_, results_tmp2 rfl _ _ _, J, v, cs, rfl, hend, own_weak (own_grown3 hown' g (fun q hq e => by injection e with e; have := (lo q hq).1; omega)) (by omega),
      hF.keep (fun A xs hr hq => (hr.drewN nq).grown g (fun a ha e => by injection e with e; have := (hq a ha).1; omega)) (fun B hB => ⟨by have := hB.1; omega, by rw [hszW]; have := hB.2.1; omega, hB.2.2⟩),
      hb'.grown g hbw.size (fun k e => by injection e with e; omega)⟩
end Go.Proofs.YtaenoonadodbnaaDoor
