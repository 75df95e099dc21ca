/- Trees: Put, the program's and the document's. -/
import Derived.Test.YtcpnobhdogpfiaaDoorF25o
import Derived.Deep.DeepFit
namespace Go.Proofs.YtcpnobhdogpfiaaDoor
set_option maxRecDepth 20000
open Go.RowKit Go.Px
set_option linter.unusedVariables false
/-- A store into a row of the call's own. -/
theorem own_store25 {w : World} {base e n c g : Nat} {xs : List Value} (h : w.ownsRow base e 1 (.slice (some ⟨g, 0, none⟩) n c) n xs) (j : Nat) (u : Value) :
    (w.setCell ⟨g, j, none⟩ u).ownsRow base e 1 (.slice (some ⟨g, 0, none⟩) n c) n (xs.set j u) := by
  refine ⟨by rw [List.length_set]; exact h.1, ?_⟩
  rcases h.2 with ⟨h1, _⟩ | ⟨g', cap, cur, hv, hb, hg, h1, h2, h3, h4⟩
  · exact absurd h1 (by simp)
  · injection hv with hv1 hv2 hv3
    injection hv1 with hv1
    injection hv1 with hv1
    subst hv1
    subst hv3
    refine .inr ⟨g, c, cur.setIfInBounds j u, rfl, hb, heap_setCell_same w g j cur e u hg, h1, h2, by simpa using h3, ?_⟩
    rw [← h4, Array.toList_setIfInBounds, List.take_set]
theorem own_frozen25 {w : World} {base e n c g : Nat} {xs : List Value} (h : w.ownsRow base e 1 (.slice (some ⟨g, 0, none⟩) n c) n xs) (j : Nat) : w.frozen? ⟨g, j, none⟩ = false := by
  rcases h.2 with ⟨h1, _⟩ | ⟨g', cap, cur, hv, hb, hg, h1, h2, h3, h4⟩
  · exact absurd h1 (by simp)
  · injection hv with hv1 hv2 hv3
    injection hv1 with hv1
    injection hv1 with hv1
    subst hv1
    exact frozen_of_row w g j cur e hg
theorem add0 (g k : Nat) : (⟨g, 0, none⟩ : Addr).add k = ⟨g, k, none⟩ := by
  unfold Addr.add
  by_cases h : k = 0
  · subst h; simp
  · simp [h]
theorem own_g {w : World} {base e n : Nat} {v : Value} {xs : List Value} (h : w.ownsRow base e 1 v n xs) (hn : 0 < n) : ∃ g c, v = .slice (some ⟨g, 0, none⟩) n c ∧ n ≤ c ∧ c ≤ maxLen ∧ base ≤ g ∧ g < w.heap.size := by
  rcases h.2 with ⟨_, h1⟩ | ⟨g, cap, cur, hv, hb, hg, h1, h2, h3, h4⟩
  · omega
  · exact ⟨g, cap, hv, h1, h2, hb, (Array.getElem?_eq_some_iff.1 hg).1⟩
theorem u32s_set25 (l : List Nat) (j x : Nat) : u32s (l.set j x) = (u32s l).set j (.int .u32 (x : Int)) := by simp [u32s, List.map_set]
/-- The tree with another digest at a place. -/
def putT (ls : List (List Nat)) (i : Int) (d : Nat) : List (List Nat) := if plE ls i = 0 then (match ls with | [] => [] | l :: _ => treeD (l.set i.toNat d)) else []
theorem plE_cases (ls : List (List Nat)) (i : Int) : plE ls i = 250 ∨ plE ls i = 5 ∨ plE ls i = 0 ∧ ∃ l r, ls = l :: r ∧ okT ls = true ∧ 0 ≤ i ∧ i < l.length := by
  unfold plE
  cases hok : okT ls with
  | false => exact .inl rfl
  | true =>
    cases ls with
    | nil => cases hok
    | cons l r =>
      by_cases h : 0 ≤ i ∧ i < l.length
      · exact .inr (.inr ⟨by show (if 0 ≤ i ∧ i < (l.length : Int) then (0 : Int) else 5) = 0; rw [if_pos h], l, r, rfl, rfl, h.1, h.2⟩)
      · exact .inr (.inl (by show (if 0 ≤ i ∧ i < (l.length : Int) then (0 : Int) else 5) = 5; rw [if_neg h]))
set_option maxHeartbeats 1600000 in
theorem tput_no (A : Option Addr) (n c : Nat) (ls : List (List Nat)) (i : Int) (d : Nat) (w : World) {Q : Nat → Prop} (hT : tyTree.Is w Q ls [.slice A n c]) (ht : Tab w) {x : Int} (hx : x = 250 ∨ x = 5) (hp : plE ls i = x) :
    Calls Tryd.prog 27 #[.agg #[.slice A n c], .int .i64 i, .int .u32 d] w fun e w' => ∃ B K C, e = .returned (.tuple #[.agg #[.slice B K C], .int .i64 x]) ∧ tyTree.Is w' (fun b => w.heap.size ≤ b) [] [.slice B K C] ∧ Below w.heap.size w w' := by
  obtain ⟨w0, hw0⟩ : ∃ x, (w.alloc (.cells #[.slice A n c] 29)).alloc (.cells #[.slice none 0 0] 29) = x := ⟨_, rfl⟩
  have hb0 : Below w.heap.size w w0 := by rw [← hw0]; exact ((Below.refl _ _).alloc (Nat.le_refl _) _).alloc (by simp) _
  have B1 : Blk w0 w.heap.size [.slice A n c] 29 := by rw [← hw0]; exact (Blk.new w [.slice A n c] 29).alloc _
  have B2 : Blk w0 (w.heap.size + 1) [.slice none 0 0] 29 := by
    rw [← hw0]
    have := Blk.new (w.alloc (.cells #[.slice A n c] 29)) [.slice none 0 0] 29
    rwa [World.size_alloc] at this
  have HC := hide (place_any A n c ls i w0 (hT.below hb0) (Rd.below ht hb0))
  rw [hp] at HC
  have Hw0 := hide hw0
  have q0 : (x == 0) = false := by rw [beq_eq_false_iff_ne]; omega
  have q1 : (x != 0) = true := by rw [bne_iff_ne]; omega
  clear hw0 hT ht hp hx
  go_enter Tryd.func27, Tryd.ntmps27
  go_wp2_with fail
  rw [Hw0.out]
  go_fit HC.out
  rintro e w1 ⟨rfl, hb1⟩
  have E2 := B2.below hb1
  have d2 := E2.cell (j := 0) rfl
  have f2 := E2.frozen 0
  go_wp2
  refine bodyPost_ret (results_cell2 rfl rfl (E2.set 0 _) Tryd.underlying29 rfl (by kernel_rfl)) rfl ?_
  exact ⟨none, 0, 0, rfl, tree_nil, (hb0.trans (hb1.mono hb0.size)).setCell (by show w.heap.size ≤ w.heap.size + 1; omega) _⟩
set_option maxHeartbeats 1600000 in
theorem tput_yes (A : Option Addr) (n c : Nat) (l : List Nat) (r : List (List Nat)) (k : Nat) (d : Nat) (w : World) {Q : Nat → Prop} (hT : tyTree.Is w Q (l :: r) [.slice A n c]) (ht : Tab w) (hok : okN l.length = true) (hk : k < l.length) (hd : d < 4294967296) (hp : plE (l :: r) (k : Int) = 0) :
    Calls Tryd.prog 27 #[.agg #[.slice A n c], .int .i64 k, .int .u32 d] w fun e w' => ∃ B K C, e = .returned (.tuple #[.agg #[.slice B K C], .int .i64 0]) ∧ tyTree.Is w' (fun b => w.heap.size ≤ b) (treeD (l.set k d)) [.slice B K C] ∧ Below w.heap.size w w' := by
  obtain ⟨w0, hw0⟩ : ∃ x, (w.alloc (.cells #[.slice A n c] 29)).alloc (.cells #[.slice none 0 0] 29) = x := ⟨_, rfl⟩
  have hb0 : Below w.heap.size w w0 := by rw [← hw0]; exact ((Below.refl _ _).alloc (Nat.le_refl _) _).alloc (by simp) _
  have zw0 : w0.heap.size = w.heap.size + 2 := by rw [← hw0]; simp
  have B1 : Blk w0 w.heap.size [.slice A n c] 29 := by rw [← hw0]; exact (Blk.new w [.slice A n c] 29).alloc _
  have B2 : Blk w0 (w.heap.size + 1) [.slice none 0 0] 29 := by
    rw [← hw0]
    have := Blk.new (w.alloc (.cells #[.slice A n c] 29)) [.slice none 0 0] 29
    rwa [World.size_alloc] at this
  have HC := hide (place_any A n c (l :: r) (k : Int) w0 (hT.below hb0) (Rd.below ht hb0))
  rw [hp] at HC
  have hN := of_decide_eq_true hok
  have ht0 : Tab w0 := Rd.below ht hb0
  have HK := hide (fun (X : World) (hX : Below w0.heap.size w0 X) => show X.cell? ⟨w.heap.size, 0, none⟩ = some (.slice A n c) ∧ 0 < n ∧ ∃ (a : Addr) (B : Option Addr) (m : Nat), A = some a ∧ X.cell? a = some (.slice B l.length m) ∧ l.length ≤ m ∧ m ≤ 9223372036854775807 ∧ Rd X B (u32s l) ∧ ∀ x ∈ l, x < 4294967296 from by
    obtain ⟨p, pA, pn, pc, pv, rfl, hpe, hl1, hc1, hm1, hr1, _, he1⟩ := Tree_out ((hT.below hb0).below hX)
    simp only [List.cons.injEq, Value.slice.injEq, and_true] at hpe
    obtain ⟨rfl, rfl, rfl⟩ := hpe
    obtain ⟨B, m, hv, hm2, hm3, hrl, _, hbl⟩ := rows32_at he1 (k := 0) (by simp)
    simp only [List.getElem_cons_zero] at hv hm2 hrl hbl
    obtain ⟨a, rfl, hc⟩ := hr1 0 _ hv
    rw [show a.add 0 = a from rfl] at hc
    exact ⟨(B1.below hX).cell (j := 0) rfl, by rw [← hl1]; simp, a, B, m, rfl, hc, hm2, hm3, hrl, hbl⟩)
  obtain ⟨N, hNN⟩ : ∃ N, l.length = N := ⟨_, rfl⟩
  rw [hNN] at hN hk HK
  have Hl := hide hNN
  have Hw0 := hide hw0
  obtain ⟨hN1, hN2⟩ := hN
  clear hw0 hT ht hp hok hNN B1
  go_enter Tryd.func27, Tryd.ntmps27
  go_wp2_with fail
  rw [Hw0.out]
  go_fit HC.out
  rintro e w1 ⟨rfl, hb1⟩
  obtain ⟨k0, k1, a, B, m, rfl, k2, k3, k4, k5, k6⟩ := HK.out w1 hb1
  have HCL := hide (clone32_any B N m l w1 Hl.out (by omega) k5)
  have K6 := hide k6
  clear k5 k6
  go_wp2_with fail
  go_fit HCL.out
  rintro e w2 ⟨v, rfl, ho, hb2⟩
  obtain ⟨g, c2, rfl, hc2, hcm2, hg1, hg2⟩ := own_g ho (by omega)
  have hfz := own_frozen25 ho k
  have z1 := hb1.size
  obtain ⟨w3, hw3⟩ : ∃ x, w2.setCell ⟨g, k, none⟩ (.int .u32 (d : Int)) = x := ⟨_, rfl⟩
  have ho3 := own_store25 ho k (.int .u32 (d : Int))
  rw [← u32s_set25, hw3] at ho3
  obtain ⟨A3, c3, he3, hl3, _, _, hr3, _⟩ := own_out ho3
  injection he3 with he3 _ hc3
  subst he3
  subst hc3
  have hb12 := hb1.trans (hb2.mono z1)
  have hb3 : Below w0.heap.size w0 w3 := by rw [← hw3]; exact hb12.setCell (by show w0.heap.size ≤ g; omega) _
  have z3 := hb3.size
  obtain ⟨u, hcell⟩ : ∃ u, w2.cell? ⟨g, k, none⟩ = some u := by
    obtain ⟨A9, c9, he9, _, _, _, hr9, _⟩ := own_out ho
    injection he9 with he9 _ _
    subst he9
    obtain ⟨a9, ha9, hc9⟩ := hr9 k _ (u32s_get (by rw [Hl.out]; exact hk))
    injection ha9 with ha9
    subst ha9
    rw [add0] at hc9
    exact ⟨_, hc9⟩
  have HM := hide (makeA_any (some ⟨g, 0, none⟩) N c2 (l.set k d) w3 (by rw [List.length_set]; exact Hl.out) hc2 (by unfold maxLen at hcm2; omega) hr3 (fun y hy => by
    rcases List.mem_or_eq_of_mem_set hy with h | h
    · exact K6.out y h
    · rw [h]; exact hd) (Rd.below ht0 hb3))
  rw [show mkE N = 0 by unfold mkE; rw [show okN N = true from decide_eq_true ⟨hN1, hN2⟩]; rfl, show mkT (l.set k d) = treeD (l.set k d) by unfold mkT; rw [List.length_set, Hl.out, show okN N = true from decide_eq_true ⟨hN1, hN2⟩]; rfl] at HM
  have E2 := B2.below hb3
  have hb03 := hb0.trans (hb3.mono hb0.size)
  have Hw3 := hide hw3
  clear ho ho3 hr3 hw3 hb2 hl3 HC HK HCL
  go_wp2_with fail
  rw [Hw3.out]
  go_fit HM.out
  rintro e w4 ⟨D, K, C, rfl, hD, hb4⟩
  have F2 := E2.below hb4
  have d2 := F2.cell (j := 0) rfl
  have f2 := F2.frozen 0
  have hDD := hD.here
  have hbf := hb03.trans (hb4.mono hb03.size)
  go_wp2
  refine bodyPost_ret (results_cell2 rfl rfl (F2.set 0 _) Tryd.underlying29 rfl (by kernel_rfl)) rfl ?_
  exact ⟨D, K, C, rfl, (hD.grown (setCell_grown _ _ _ _) (fun b hb e => by injection e with e; have e : b = w.heap.size + 1 := e; omega)).mono (fun b hb => by omega), hbf.setCell (by show w.heap.size ≤ w.heap.size + 1; omega) _⟩
theorem tput_any (A : Option Addr) (n c : Nat) (ls : List (List Nat)) (i : Int) (d : Nat) (w : World) {Q : Nat → Prop} (hT : tyTree.Is w Q ls [.slice A n c]) (ht : Tab w) (hd : d < 4294967296) :
    Calls Tryd.prog 27 #[.agg #[.slice A n c], .int .i64 i, .int .u32 d] w fun e w' => ∃ B K C, e = .returned (.tuple #[.agg #[.slice B K C], .int .i64 (plE ls i)]) ∧ tyTree.Is w' (fun b => w.heap.size ≤ b) (putT ls i d) [.slice B K C] ∧ Below w.heap.size w w' := by
  rcases plE_cases ls i with h | h | ⟨h, l, r, rfl, hok, h0, h1⟩
  · have hp : putT ls i d = [] := by unfold putT; rw [h]; rfl
    rw [hp, h]
    exact tput_no A n c ls i d w hT ht (.inl rfl) h
  · have hp : putT ls i d = [] := by unfold putT; rw [h]; rfl
    rw [hp, h]
    exact tput_no A n c ls i d w hT ht (.inr rfl) h
  · obtain ⟨k, rfl⟩ : ∃ k : Nat, i = (k : Int) := ⟨i.toNat, by omega⟩
    have hp : putT (l :: r) (k : Int) d = treeD (l.set k d) := by unfold putT; rw [h]; rfl
    rw [hp, h]
    have h' : (okN l.length && eqL (l :: r) (treeD l)) = true := hok
    rw [Bool.and_eq_true] at h'
    exact tput_yes A n c l r k d w hT ht h'.1 (by omega) hd h
end Go.Proofs.YtcpnobhdogpfiaaDoor
