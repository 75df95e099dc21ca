/- Trees: the document's Put. -/
import Derived.Test.YtcpnobhdogpfiaaDoorF25s
import Derived.Deep.DeepFit
namespace Go.Proofs.YtcpnobhdogpfiaaDoor
set_option maxRecDepth 20000
open Go.RowKit Go.Px
set_option linter.unusedVariables false
set_option maxHeartbeats 1600000 in
theorem rput_no (A : Option Addr) (n c : Nat) (ls : List (List Nat)) (i : Int) (d : Nat) (w : World) {Q : Nat → Prop} (hT : tyTree.Is w Q ls [.slice A n c]) (hok : okT ls = false) :
    Calls Tryd.prog 28 #[.agg #[.slice A n c], .int .i64 i, .int .u32 d] w fun e w' => ∃ B K C, e = .returned (.tuple #[.agg #[.slice B K C], .int .i64 250]) ∧ tyTree.Is w' (fun b => w.heap.size ≤ b) [] [.slice B K C] ∧ Below w.heap.size w w' := by
  obtain ⟨w0, hw0⟩ : ∃ x, (w.alloc (.cells #[.slice A n c] 29)).alloc (.cells #[.slice none 0 0] 29) = x := ⟨_, rfl⟩
  have hb0 : Below w.heap.size w w0 := by rw [← hw0]; exact ((Below.refl _ _).alloc (Nat.le_refl _) _).alloc (by simp) _
  have B1 : Blk w0 w.heap.size [.slice A n c] 29 := by rw [← hw0]; exact (Blk.new w [.slice A n c] 29).alloc _
  have B2 : Blk w0 (w.heap.size + 1) [.slice none 0 0] 29 := by
    rw [← hw0]
    have := Blk.new (w.alloc (.cells #[.slice A n c] 29)) [.slice none 0 0] 29
    rwa [World.size_alloc] at this
  have HC := hide (rcheck_any A n c ls w0 (hT.below hb0))
  rw [show ckE ls = 250 by unfold ckE; rw [hok]; rfl] at HC
  have Hw0 := hide hw0
  clear hw0 hT hok
  go_enter Tryd.func28, Tryd.ntmps28
  go_wp2_with fail
  rw [Hw0.out]
  go_fit HC.out
  rintro e w1 ⟨rfl, hb1⟩
  have E2 := B2.below hb1
  have d2 := E2.cell (j := 0) rfl
  have f2 := E2.frozen 0
  go_wp2
  refine bodyPost_ret (results_cell2 rfl rfl (E2.set 0 _) Tryd.underlying29 rfl (by kernel_rfl)) rfl ?_
  exact ⟨none, 0, 0, rfl, tree_nil, (hb0.trans (hb1.mono hb0.size)).setCell (by show w.heap.size ≤ w.heap.size + 1; omega) _⟩
set_option maxHeartbeats 1600000 in
theorem rput_rng (A : Option Addr) (n c : Nat) (l : List Nat) (r : List (List Nat)) (i : Int) (d : Nat) (w : World) {Q : Nat → Prop} (hT : tyTree.Is w Q (l :: r) [.slice A n c]) (hok : okT (l :: r) = true) (hk : ¬ (0 ≤ i ∧ i < l.length)) :
    Calls Tryd.prog 28 #[.agg #[.slice A n c], .int .i64 i, .int .u32 d] w fun e w' => ∃ B K C, e = .returned (.tuple #[.agg #[.slice B K C], .int .i64 5]) ∧ tyTree.Is w' (fun b => w.heap.size ≤ b) [] [.slice B K C] ∧ Below w.heap.size w w' := by
  obtain ⟨w0, hw0⟩ : ∃ x, (w.alloc (.cells #[.slice A n c] 29)).alloc (.cells #[.slice none 0 0] 29) = x := ⟨_, rfl⟩
  have hb0 : Below w.heap.size w w0 := by rw [← hw0]; exact ((Below.refl _ _).alloc (Nat.le_refl _) _).alloc (by simp) _
  have zw0 : w0.heap.size = w.heap.size + 2 := by rw [← hw0]; simp
  have B1 : Blk w0 w.heap.size [.slice A n c] 29 := by rw [← hw0]; exact (Blk.new w [.slice A n c] 29).alloc _
  have B2 : Blk w0 (w.heap.size + 1) [.slice none 0 0] 29 := by
    rw [← hw0]
    have := Blk.new (w.alloc (.cells #[.slice A n c] 29)) [.slice none 0 0] 29
    rwa [World.size_alloc] at this
  have HC := hide (rcheck_any A n c (l :: r) w0 (hT.below hb0))
  rw [show ckE (l :: r) = 0 by unfold ckE; rw [hok]; rfl] at HC
  have hN : 1 ≤ l.length ∧ l.length ≤ 4096 := by
    have h' : (okN l.length && eqL (l :: r) (treeD l)) = true := hok
    rw [Bool.and_eq_true] at h'
    exact of_decide_eq_true h'.1
  have HK := hide (fun (X : World) (hX : Below w0.heap.size w0 X) => show X.cell? ⟨w.heap.size, 0, none⟩ = some (.slice A n c) ∧ 0 < n ∧ ∃ (a : Addr) (B : Option Addr) (m : Nat), A = some a ∧ X.cell? a = some (.slice B l.length m) ∧ l.length ≤ m ∧ m ≤ 9223372036854775807 ∧ Rd X B (u32s l) ∧ ∀ x ∈ l, x < 4294967296 from by
    obtain ⟨p, pA, pn, pc, pv, rfl, hpe, hl1, hc1, hm1, hr1, _, he1⟩ := Tree_out ((hT.below hb0).below hX)
    simp only [List.cons.injEq, Value.slice.injEq, and_true] at hpe
    obtain ⟨rfl, rfl, rfl⟩ := hpe
    obtain ⟨B, m, hv, hm2, hm3, hrl, _, hbl⟩ := rows32_at he1 (k := 0) (by simp)
    simp only [List.getElem_cons_zero] at hv hm2 hrl hbl
    obtain ⟨a, rfl, hc⟩ := hr1 0 _ hv
    rw [show a.add 0 = a from rfl] at hc
    exact ⟨(B1.below hX).cell (j := 0) rfl, by rw [← hl1]; simp, a, B, m, rfl, hc, hm2, hm3, hrl, hbl⟩)
  obtain ⟨N, hNN⟩ : ∃ N, l.length = N := ⟨_, rfl⟩
  rw [hNN] at hN hk HK
  have Hw0 := hide hw0
  clear hw0 hT hok hNN B1 hN
  go_enter Tryd.func28, Tryd.ntmps28
  go_wp2_with fail
  rw [Hw0.out]
  go_fit HC.out
  rintro e w1 ⟨rfl, hb1⟩
  obtain ⟨k0, k1, a, B, m, rfl, k2, k3, k4, k5, k6⟩ := HK.out w1 hb1
  have E2 := B2.below hb1
  have d2 := E2.cell (j := 0) rfl
  have f2 := E2.frozen 0
  clear k5 k6 HK HC
  rcases (show i < 0 ∨ 0 ≤ i ∧ (N : Int) ≤ i by omega) with hi | ⟨hi, hi2⟩
  · clear hk
    go_wp2
    refine bodyPost_ret (results_cell2 rfl rfl (E2.set 0 _) Tryd.underlying29 rfl (by kernel_rfl)) rfl ?_
    exact ⟨none, 0, 0, rfl, tree_nil, (hb0.trans (hb1.mono hb0.size)).setCell (by show w.heap.size ≤ w.heap.size + 1; omega) _⟩
  · clear hk
    have q0 : decide (i < 0) = false := decide_eq_false (by omega)
    go_wp2
    refine bodyPost_ret (results_cell2 rfl rfl (E2.set 0 _) Tryd.underlying29 rfl (by kernel_rfl)) rfl ?_
    exact ⟨none, 0, 0, rfl, tree_nil, (hb0.trans (hb1.mono hb0.size)).setCell (by show w.heap.size ≤ w.heap.size + 1; omega) _⟩
set_option maxHeartbeats 1600000 in
theorem rput_yes (A : Option Addr) (n c : Nat) (l : List Nat) (r : List (List Nat)) (k : Nat) (d : Nat) (w : World) {Q : Nat → Prop} (hT : tyTree.Is w Q (l :: r) [.slice A n c]) (hok : okT (l :: r) = true) (hk : k < l.length) (hd : d < 4294967296) :
    Calls Tryd.prog 28 #[.agg #[.slice A n c], .int .i64 k, .int .u32 d] w fun e w' => ∃ B K C, e = .returned (.tuple #[.agg #[.slice B K C], .int .i64 0]) ∧ tyTree.Is w' (fun b => w.heap.size ≤ b) (treeD (l.set k d)) [.slice B K C] ∧ Below w.heap.size w w' := by
  obtain ⟨w0, hw0⟩ : ∃ x, (w.alloc (.cells #[.slice A n c] 29)).alloc (.cells #[.slice none 0 0] 29) = x := ⟨_, rfl⟩
  have hb0 : Below w.heap.size w w0 := by rw [← hw0]; exact ((Below.refl _ _).alloc (Nat.le_refl _) _).alloc (by simp) _
  have zw0 : w0.heap.size = w.heap.size + 2 := by rw [← hw0]; simp
  have B1 : Blk w0 w.heap.size [.slice A n c] 29 := by rw [← hw0]; exact (Blk.new w [.slice A n c] 29).alloc _
  have B2 : Blk w0 (w.heap.size + 1) [.slice none 0 0] 29 := by
    rw [← hw0]
    have := Blk.new (w.alloc (.cells #[.slice A n c] 29)) [.slice none 0 0] 29
    rwa [World.size_alloc] at this
  have HC := hide (rcheck_any A n c (l :: r) w0 (hT.below hb0))
  rw [show ckE (l :: r) = 0 by unfold ckE; rw [hok]; rfl] at HC
  have hN : 1 ≤ l.length ∧ l.length ≤ 4096 := by
    have h' : (okN l.length && eqL (l :: r) (treeD l)) = true := hok
    rw [Bool.and_eq_true] at h'
    exact of_decide_eq_true h'.1
  have HK := hide (fun (X : World) (hX : Below w0.heap.size w0 X) => show X.cell? ⟨w.heap.size, 0, none⟩ = some (.slice A n c) ∧ 0 < n ∧ ∃ (a : Addr) (B : Option Addr) (m : Nat), A = some a ∧ X.cell? a = some (.slice B l.length m) ∧ l.length ≤ m ∧ m ≤ 9223372036854775807 ∧ Rd X B (u32s l) ∧ ∀ x ∈ l, x < 4294967296 from by
    obtain ⟨p, pA, pn, pc, pv, rfl, hpe, hl1, hc1, hm1, hr1, _, he1⟩ := Tree_out ((hT.below hb0).below hX)
    simp only [List.cons.injEq, Value.slice.injEq, and_true] at hpe
    obtain ⟨rfl, rfl, rfl⟩ := hpe
    obtain ⟨B, m, hv, hm2, hm3, hrl, _, hbl⟩ := rows32_at he1 (k := 0) (by simp)
    simp only [List.getElem_cons_zero] at hv hm2 hrl hbl
    obtain ⟨a, rfl, hc⟩ := hr1 0 _ hv
    rw [show a.add 0 = a from rfl] at hc
    exact ⟨(B1.below hX).cell (j := 0) rfl, by rw [← hl1]; simp, a, B, m, rfl, hc, hm2, hm3, hrl, hbl⟩)
  obtain ⟨N, hNN⟩ : ∃ N, l.length = N := ⟨_, rfl⟩
  rw [hNN] at hN hk HK
  have Hl := hide hNN
  have Hw0 := hide hw0
  obtain ⟨hN1, hN2⟩ := hN
  clear hw0 hT hok hNN B1
  go_enter Tryd.func28, Tryd.ntmps28
  go_wp2_with fail
  rw [Hw0.out]
  go_fit HC.out
  rintro e w1 ⟨rfl, hb1⟩
  obtain ⟨k0, k1, a, B, m, rfl, k2, k3, k4, k5, k6⟩ := HK.out w1 hb1
  have K5 := hide k5
  have K6 := hide k6
  have z1 := hb1.size
  clear k5 k6
  have hbe : Below w1.heap.size w1 (w1.alloc (.cells #[] 33)) := (Below.refl _ _).alloc (Nat.le_refl _) _
  have k0b := below_cell hbe k0
  have k2b := below_cell hbe k2
  go_wp2_with (first | (with_reducible refine stop_append rfl ?_))
  refine (Grow.empty w1 _ _).append rfl rfl tU32 rfl rfl (by rw [u32s_length, Hl.out]; omega) (K5.out.alloc _) (u32s_one _) (by omega) (by omega) ?_
  intro v w2 hG1 _
  rw [Nat.zero_add, List.nil_append] at hG1
  have ho := hG1.owns
  have hb2 : Below w1.heap.size w1 w2 := hG1.emptyAll
  obtain ⟨g, c2, rfl, hc2, hcm2, hg1, hg2⟩ := own_g ho (by omega)
  have hfz := own_frozen25 ho k
  obtain ⟨w3, hw3⟩ : ∃ x, w2.setCell ⟨g, k, none⟩ (.int .u32 (d : Int)) = x := ⟨_, rfl⟩
  have ho3 := own_store25 ho k (.int .u32 (d : Int))
  rw [← u32s_set25, hw3] at ho3
  obtain ⟨A3, c3, he3, hl3, _, _, hr3, _⟩ := own_out ho3
  injection he3 with he3 _ hc3
  subst he3
  subst hc3
  have hb12 := hb1.trans (hb2.mono z1)
  have hb3 : Below w0.heap.size w0 w3 := by rw [← hw3]; exact hb12.setCell (by show w0.heap.size ≤ g; omega) _
  have z3 := hb3.size
  obtain ⟨u, hcell⟩ : ∃ u, w2.cell? ⟨g, k, none⟩ = some u := by
    obtain ⟨A9, c9, he9, _, _, _, hr9, _⟩ := own_out ho
    injection he9 with he9 _ _
    subst he9
    obtain ⟨a9, ha9, hc9⟩ := hr9 k _ (u32s_get (by rw [Hl.out]; exact hk))
    injection ha9 with ha9
    subst ha9
    rw [add0] at hc9
    exact ⟨_, hc9⟩
  have HM := hide (rmakeA_any (some ⟨g, 0, none⟩) N c2 (l.set k d) w3 (by rw [List.length_set]; exact Hl.out) hc2 (by unfold maxLen at hcm2; omega) hr3 (fun y hy => by
    rcases List.mem_or_eq_of_mem_set hy with h | h
    · exact K6.out y h
    · rw [h]; exact hd))
  rw [show mkE N = 0 by unfold mkE; rw [show okN N = true from decide_eq_true ⟨hN1, hN2⟩]; rfl, show mkT (l.set k d) = treeD (l.set k d) by unfold mkT; rw [List.length_set, Hl.out, show okN N = true from decide_eq_true ⟨hN1, hN2⟩]; rfl] at HM
  have E2 := B2.below hb3
  have hb03 := hb0.trans (hb3.mono hb0.size)
  have Hw3 := hide hw3
  clear ho ho3 hr3 hw3 hb2 hl3 HC HK hG1
  go_wp2_with fail
  rw [Hw3.out]
  go_fit HM.out
  rintro e w4 ⟨D, K, C, rfl, hD, hb4⟩
  have F2 := E2.below hb4
  have d2 := F2.cell (j := 0) rfl
  have f2 := F2.frozen 0
  have hDD := hD.here
  have hbf := hb03.trans (hb4.mono hb03.size)
  go_wp2
  refine bodyPost_ret (results_cell2 rfl rfl (F2.set 0 _) Tryd.underlying29 rfl (by kernel_rfl)) rfl ?_
  exact ⟨D, K, C, rfl, (hD.grown (setCell_grown _ _ _ _) (fun b hb e => by injection e with e; have e : b = w.heap.size + 1 := e; omega)).mono (fun b hb => by omega), hbf.setCell (by show w.heap.size ≤ w.heap.size + 1; omega) _⟩
theorem plE_cases' (ls : List (List Nat)) (i : Int) : okT ls = false ∧ plE ls i = 250 ∨ (∃ l r, ls = l :: r ∧ okT ls = true ∧ ¬ (0 ≤ i ∧ i < l.length) ∧ plE ls i = 5) ∨ (∃ l r, ls = l :: r ∧ okT ls = true ∧ (0 ≤ i ∧ i < l.length) ∧ plE ls i = 0) := by
  unfold plE
  cases hok : okT ls with
  | false => exact .inl ⟨rfl, rfl⟩
  | true =>
    cases ls with
    | nil => cases hok
    | cons l r =>
      by_cases h : 0 ≤ i ∧ i < l.length
      · exact .inr (.inr ⟨l, r, rfl, rfl, h, by show (if 0 ≤ i ∧ i < (l.length : Int) then (0 : Int) else 5) = 0; rw [if_pos h]⟩)
      · exact .inr (.inl ⟨l, r, rfl, rfl, h, by show (if 0 ≤ i ∧ i < (l.length : Int) then (0 : Int) else 5) = 5; rw [if_neg h]⟩)
theorem rput_any25 (A : Option Addr) (n c : Nat) (ls : List (List Nat)) (i : Int) (d : Nat) (w : World) {Q : Nat → Prop} (hT : tyTree.Is w Q ls [.slice A n c]) (hd : d < 4294967296) :
    Calls Tryd.prog 28 #[.agg #[.slice A n c], .int .i64 i, .int .u32 d] w fun e w' => ∃ B K C, e = .returned (.tuple #[.agg #[.slice B K C], .int .i64 (plE ls i)]) ∧ tyTree.Is w' (fun b => w.heap.size ≤ b) (putT ls i d) [.slice B K C] ∧ Below w.heap.size w w' := by
  rcases plE_cases' ls i with ⟨hok, h⟩ | ⟨l, r, rfl, hok, hi, h⟩ | ⟨l, r, rfl, hok, ⟨h0, h1⟩, h⟩
  · have hp : putT ls i d = [] := by unfold putT; rw [h]; rfl
    rw [hp, h]
    exact rput_no A n c ls i d w hT hok
  · have hp : putT (l :: r) i d = [] := by unfold putT; rw [h]; rfl
    rw [hp, h]
    exact rput_rng A n c l r i d w hT hok hi
  · obtain ⟨k, rfl⟩ : ∃ k : Nat, i = (k : Int) := ⟨i.toNat, by omega⟩
    have hp : putT (l :: r) (k : Int) d = treeD (l.set k d) := by unfold putT; rw [h]; rfl
    rw [hp, h]
    exact rput_yes A n c l r k d w hT hok (by omega) hd
end Go.Proofs.YtcpnobhdogpfiaaDoor
