/- Stage 14: slices.AppendSeq, slices.Collect of the ints of a row. -/
import Derived.Test.YthejdacemcldgaaF14p
import Derived.Test.YthejdacemcldgaaRnd
import Derived.Test.YthejdacemcldgaaRes
import Derived.Maps.AppendAt
import Derived.Maps.OwnIn
namespace Go.Proofs.Ythejdacemcldgaa
set_option maxRecDepth 20000
open Go.RowKit Go.Px Go.Shelf
set_option linter.unusedVariables false
attribute [local go_sem] Oper.semAt_some
theorem own14_grown {w w' : World} {base e size n : Nat} {v : Value} {xs : List Value} (h : w.ownsRow base e size v n xs) {r : Option Nat} (hg : w.grownBy w' r) (hr : ∀ g, v.ownBlock = some g → some g ≠ r) : w'.ownsRow base e size v n xs := by
  refine ⟨h.1, ?_⟩
  rcases h.2 with h2 | ⟨g, cap, cur, rfl, hbg, hg', rest⟩
  · exact .inl h2
  · exact .inr ⟨g, cap, cur, rfl, hbg, (hg.block g (Array.getElem?_eq_some_iff.1 hg').1 (hr g rfl)).trans hg', rest⟩
theorem own14_blk {w : World} {base e size n : Nat} {v : Value} {xs : List Value} (h : w.ownsRow base e size v n xs) : ∀ g, v.ownBlock = some g → base ≤ g ∧ g < w.heap.size := by
  rcases h.2 with ⟨rfl, rfl⟩ | ⟨g, cap, cur, rfl, hbg, hg, _⟩
  · intro g hg; simp [Value.ownBlock] at hg
  · intro k hk
    simp [Value.ownBlock] at hk
    subst hk
    exact ⟨hbg, (Array.getElem?_eq_some_iff.1 hg).1⟩
theorem own14_cells {w : World} {base e size n : Nat} {v : Value} {xs : List Value} (h : w.ownsRow base e size v n xs) : ∀ (j : Nat) (o : Obj), v.ownBlock = some j → w.heap[j]? = some o → o.isCells = true := by
  intro j o hj ho
  rcases h.2 with ⟨rfl, rfl⟩ | ⟨g, cap, cur, rfl, hbg, hg, _⟩
  · simp [Value.ownBlock] at hj
  · simp [Value.ownBlock] at hj
    subst hj
    rw [hg] at ho
    injection ho with ho
    subst ho; rfl
theorem own14_ne {w : World} {base e size n g : Nat} {T : TypeId} {v : Value} {xs vs : List Value} (h : w.ownsRow base e size v n xs) (hB : Blk w g vs T) (hT : (T == e) = false) : v.ownBlock ≠ some g := by
  rcases h.2 with ⟨rfl, rfl⟩ | ⟨g', cap, cur, rfl, hbg, hg, _⟩
  · simp [Value.ownBlock]
  · intro e
    simp [Value.ownBlock] at e
    subst e
    have : w.heap[g']? = some (.cells vs.toArray T) := hB
    rw [hg] at this
    injection this with this
    injection this with _ h2
    rw [h2] at hT
    simp at hT
theorem put14_size (W : World) (l : Nat) (o : Obj) : (W.putObj l o).heap.size = W.heap.size := by simp [World.putObj]
theorem blk_put14 {w : World} {g l : Nat} {vs : List Value} {T : TypeId} (h : Blk w g vs T) (hne : g ≠ l) (o : Obj) : Blk (w.putObj l o) g vs T := (World.putObj_heap_other hne).trans h
theorem keeps14 {w w' : World} (h : Below w.heap.size w w') : KeepsOthers w w' := ⟨h.size, fun k o hk _ => (h.block k (Array.getElem?_eq_some_iff.1 hk).1).trans hk⟩
theorem setCell14 (X : World) (g q : Nat) (u : Value) : X.grownBy (X.setCell ⟨g, q, none⟩ u) (some g) := ⟨rfl, rfl, rfl, by simp, fun k hk hne => Below.heap_setCell X ⟨g, q, none⟩ u k (fun e => hne (by rw [e]))⟩
/-- Between two rounds of AppendSeq: what was appended so far. -/
def AqI (w : World) (xs : List Int) (j : Nat) (W : World) : Prop :=
  (∃ v, Blk W w.heap.size [v] 22 ∧ W.ownsRow (w.heap.size + 3) 3 1 v j (ints (xs.take j))) ∧ Below w.heap.size w W ∧ w.heap.size + 3 ≤ W.heap.size
theorem AqI.put {w : World} {xs : List Int} {j : Nat} {W : World} (h : AqI w xs j W) (r : Loop) : AqI w xs j (W.putObj (w.heap.size + 2) (.loop r)) := by
  obtain ⟨⟨v, h1, h2⟩, h5, h6⟩ := h
  exact ⟨⟨v, blk_put14 h1 (by omega) _, own14_grown h2 (grownBy_putObj' W _ _) (fun g hg e => by injection e with e; have := (own14_blk h2 g hg).1; omega)⟩, h5.grown (grownBy_putObj' W _ _) h5.size (fun k e => by injection e with e; omega), by rw [put14_size]; exact h6⟩
theorem infoInts14 : (Try.prog.info? 3).map (fun i => (i.zero, i.size, i.bytes)) = some (some (.int .i64 0), 1, 8) := by kernel_rfl
theorem info14_parts {P : Program} {e : TypeId} {z : Value} {s b : Nat} (h : (P.info? e).map (fun i => (i.zero, i.size, i.bytes)) = some (some z, s, b)) : ∃ i, P.info? e = some i ∧ i.zero = some z ∧ i.size = s ∧ i.bytes = b := by
  rcases hi : P.info? e with _ | i
  · rw [hi] at h; cases h
  · rw [hi] at h
    simp at h
    exact ⟨i, rfl, h.1, h.2.1, h.2.2⟩
theorem aq_store {w X X4 : World} {xs : List Int} {j : Nat} {x : Int} {v v6 : Value} (x1 : Blk X w.heap.size [v] 22) (x2 : X.ownsRow (w.heap.size + 3) 3 1 v j (ints (xs.take j))) (x5 : Below w.heap.size w X) (x6 : w.heap.size + 3 ≤ X.heap.size)
    (ho6 : X4.ownsRow (w.heap.size + 3) 3 1 v6 (j + 1) (ints (xs.take j) ++ [.int .i64 x])) (hg6 : (X.alloc (.cells #[.int .i64 x] 3)).grownBy X4 v.ownBlock) (hd : xs[j]? = some x) :
    AqI w xs (j + 1) (X4.setCell ⟨w.heap.size, 0, none⟩ v6) ∧ KeepsOthers X (X4.setCell ⟨w.heap.size, 0, none⟩ v6) := by
  have hbX : Below X.heap.size X (X.alloc (.cells #[.int .i64 x] 3)) := (Below.refl _ _).alloc (Nat.le_refl _) _
  have lo5 := own14_blk x2
  have lo6 := own14_blk ho6
  have hz4 := hg6.size
  rw [World.size_alloc] at hz4
  have kb : ∀ q, q < w.heap.size + 3 → X4.heap[q]? = X.heap[q]? := fun q hq => (hg6.block q (by rw [World.size_alloc]; omega) (fun e => by have := (lo5 q e.symm).1; omega)).trans (hbX.block q (by omega))
  have b0 : Blk X4 w.heap.size [v] 22 := (kb _ (by omega)).trans x1
  have ex : ints (xs.take j) ++ [.int .i64 x] = ints (xs.take (j + 1)) := by
    obtain ⟨hj, hx⟩ := List.getElem?_eq_some_iff.1 hd
    rw [List.take_succ_eq_append_getElem hj, ints_append, hx]; rfl
  rw [ex] at ho6
  refine ⟨⟨⟨v6, b0.set 0 v6, own14_grown ho6 (setCell14 _ _ _ _) (fun g hg e => by injection e with e; have := (lo6 g hg).1; omega)⟩, ?_, by simp; omega⟩, ?_⟩
  · have h1 := x5.trans (hbX.mono x5.size)
    have h2 := h1.grown hg6 h1.size (fun k e => by have := (lo5 k e).1; omega)
    exact h2.setCell (Nat.le_refl _) _
  · exact ((keeps14 hbX).trans (KeepsOthers.of_grownBy hg6 (own14_cells (own_below x2 hbX)))).trans (KeepsOthers.setCell _ _ _)
set_option maxRecDepth 100000 in
set_option maxHeartbeats 3200000 in
theorem apseq_any (bs : Nat) (A : Option Addr) (N c : Nat) (xs : List Int) (w : World) (hx : xs.length = N) (hN : N ≤ 1000000) (hB : Blk w bs [.slice A N c] 22) (hr : Rd w A (ints xs)) :
    Calls Try.prog 63 #[.slice none 0 0, .func (.func 42) #[] #[.pointer (some ⟨bs, 0, none⟩)]] w fun e w' => ∃ v, e = .returned v ∧ w'.ownsRow w.heap.size 3 1 v N (ints xs) ∧ Below w.heap.size w w' := by
  obtain ⟨i0, hi, hz0, hz1, hz2⟩ := info14_parts infoInts14
  refine (callsIn_wide (n := 8)).1 ?_
  refine callsIn_of_wp_marks Try.func63 rfl trivial ?_ rfl
  simp only [Try.ntmps63, List.size_toArray, List.length_cons, List.length_nil, Nat.reduceAdd, Nat.reduceSub, Array.replicate_succ, Array.replicate_zero, List.push_toArray, List.append_toArray, List.nil_append, List.cons_append]
  have Hx := hide hx
  clear hx
  gi_wp2_with fail
  obtain ⟨W0, hW0⟩ : ∃ x, w.alloc (.cells #[.slice none 0 0] 22) = x := ⟨_, rfl⟩
  have hsz : W0.heap.size = w.heap.size + 1 := by rw [← hW0]; simp
  have hbW : Below w.heap.size w W0 := by rw [← hW0]; exact (Below.refl _ _).alloc (Nat.le_refl _) _
  have q0 : Blk W0 w.heap.size [.slice none 0 0] 22 := by rw [← hW0]; exact Blk.new w [.slice none 0 0] 22
  rw [hW0]
  have hbs := hB.lt
  refine range_own 8 (by omega) (lb := #[.pointer (some ⟨bs, 0, none⟩)]) (by simp [Act.eval]) (enters_of Try.func42 (by kernel_rfl) rfl) (fun j => #[.int .i64 (xs.getD j 0)]) (fun _ => rfl) (fun j => j < N)
    (fun j W => AqI w xs j W ∧ j ≤ N) (fun j W => AqI w xs (j + 1) W ∧ j < N) (fun _ _ => False) ?i0 ?ip ?mp (fun _ _ _ _ h => h) ?it ?round ?done (fun _ _ h => h.elim)
  case i0 =>
    intro r
    have hb2 : Below W0.heap.size W0 ((W0.alloc (.deferred (some []))).alloc (.loop r)) := ((Below.refl _ _).alloc (Nat.le_refl _) _).alloc (by simp) _
    exact ⟨⟨⟨_, q0.below hb2, World.ownsRow_nil _ _ _ _⟩, hbW.trans (hb2.mono hbW.size), by simp; omega⟩, by omega⟩
  case ip => intro j W r hW h; rw [hsz]; exact ⟨h.1.put r, h.2⟩
  case mp => intro j W r hW h; rw [hsz]; exact ⟨h.1.put r, h.2⟩
  case it =>
    refine values_iter (8 - 1) (by omega) _ bs A N c xs Hx.out hN _ _ ?_ ?_
    · exact fun j W h => ⟨(hB.below h.1.2.1).cell (j := 0) rfl, hr.below h.1.2.1⟩
    · exact fun j W h => ⟨h.1, by omega⟩
  case round =>
    intro j W hU hj hlW
    obtain ⟨hU, _⟩ := hU
    have hjx : xs[j]? = some (xs.getD j 0) := by
      rw [List.getD_eq_getElem?_getD, List.getElem?_eq_getElem (by rw [Hx.out]; exact hj)]; rfl
    obtain ⟨x, hxx⟩ : ∃ x, xs.getD j 0 = x := ⟨_, rfl⟩
    rw [hxx] at hjx
    show Code.wpIn _ _ _ _ _ _ _
    rw [hxx]
    have Hjx := hide hjx
    clear hjx hxx
    gi_wp2
    refine ⟨KeepsOthers.refl _, fun r' => ?_⟩
    rw [hsz]
    have hX := hU.put r'
    obtain ⟨X, hXX⟩ : ∃ x, W.putObj (w.heap.size + 1 + 1) (.loop r') = x := ⟨_, rfl⟩
    rw [show w.heap.size + 1 + 1 = w.heap.size + 2 from rfl] at hXX ⊢
    rw [hXX] at hX ⊢
    obtain ⟨⟨v5, x1, x2⟩, x5, x6⟩ := hX
    have x1c := x1.cell (j := 0) rfl
    have hnb : Below X.heap.size X (X.alloc (.cells #[.int .i64 x] 3)) := (Below.refl _ _).alloc (Nat.le_refl _) _
    have hnew := Rd.new1 X (.int .i64 x) 3
    have hO9' := own_below x2 hnb
    gi_wp2_with (first | (with_reducible refine stop_appendIn rfl ?_))
    show wpListIn _ _ _ _ _ _ _ _
    refine wpListIn_append_own_at _ rfl _ _ 22 rfl (w.heap.size + 3) 3 i0 (.int .i64 0) 1 8 Try.underlying22 hi hz0 hz1 hz2 rfl (by decide) v5 j (ints (xs.take j)) rfl hO9' ⟨X.heap.size, 0, none⟩ 1 1 [.int .i64 x] rfl rfl (fun q u hu => hnew.at_ hu) (by intro u hu; simp at hu; subst hu; rfl) (by unfold maxLen; omega) (by omega) (by simp; omega) ?_
    intro v7 w7 hO7 hg7 _ hv7
    obtain ⟨A7, n7, rfl, _⟩ := own_out hO7
    have HU := hide (aq_store x1 x2 x5 x6 hO7 hg7 Hjx.out)
    have lo5 := own14_blk x2
    have b7 : Blk w7 w.heap.size [v5] 22 := ((hg7.block w.heap.size (by simp; omega) (fun e => by have := (lo5 _ e.symm).1; omega)).trans (hnb.block _ (by omega))).trans x1
    have c7 := b7.cell (j := 0) rfl
    have f7 := b7.frozen 0
    clear hO7 hg7 hv7 hnew hO9' x1c
    gi_wp2
    exact ⟨HU.out.2, HU.out.1, hj⟩
  case done =>
    intro j W hU hnm hDq
    obtain ⟨⟨⟨v5, x1, x2⟩, x5, x6⟩, hj4⟩ := hU
    rw [hsz] at hDq ⊢
    have hjN : j = N := by omega
    subst hjN
    rw [List.take_of_length_le (by rw [Hx.out]; exact Nat.le_refl _)] at x2
    have x1c := x1.cell (j := 0) rfl
    have Hm := hide (show MarksAt (w.heap.size + 1) W [w.heap.size + 1] from ⟨by simp, fun k hk => by simp at hk; subst hk; exact ⟨Nat.le_refl _, hDq⟩⟩)
    clear hDq
    gi_wp2
    refine leaves_marks (B := w.heap.size + 1) [w.heap.size + 1] _ Hm.out ?_
    intro W' hca hbl
    refine ⟨_, results_tmp rfl _ _ _, v5, rfl, ?_, ?_⟩
    · refine ⟨x2.1, ?_⟩
      rcases x2.2 with h2 | ⟨g, cap, cur, rfl, hbg, hg, r⟩
      · exact .inl h2
      · exact .inr ⟨g, cap, cur, rfl, by omega, hca _ _ rfl hg, r⟩
    · exact x5.trans (hbl.mono (by omega))
theorem collect_any (bs : Nat) (A : Option Addr) (N c : Nat) (xs : List Int) (w : World) (hx : xs.length = N) (hN : N ≤ 1000000) (hB : Blk w bs [.slice A N c] 22) (hr : Rd w A (ints xs)) :
    Calls Try.prog 41 #[.func (.func 42) #[] #[.pointer (some ⟨bs, 0, none⟩)]] w fun e w' => ∃ v, e = .returned v ∧ w'.ownsRow w.heap.size 3 1 v N (ints xs) ∧ Below w.heap.size w w' := by
  have HA := hide (apseq_any bs A N c xs w hx hN hB hr)
  clear hx hB hr
  go_enter Try.func41, Try.ntmps41
  go_wp2_with fail
  refine HA.out.mono ?_
  rintro e w1 ⟨v, rfl, hO, hb⟩
  obtain ⟨A1, c1, rfl, _⟩ := own_out hO
  have HO := hide hO
  clear hO
  go_wp2
  go_ret
  exact ⟨_, rfl, HO.out, hb⟩
end Go.Proofs.Ythejdacemcldgaa
