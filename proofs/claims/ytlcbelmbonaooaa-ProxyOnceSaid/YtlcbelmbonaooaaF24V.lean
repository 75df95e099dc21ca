/- Stage 24: a tick (written by gen_24af.py). -/
import Derived.Test.YtlcbelmbonaooaaF24T
import Derived.Test.YtlcbelmbonaooaaF24U
namespace Go.Proofs.Ytlcbelmbonaooaa
set_option maxRecDepth 20000
open Go.RowKit Go.Px Go.Maps Go.Deep Go.Shelf
set_option linter.unusedVariables false
set_option linter.unusedSimpArgs false
attribute [local go_sem] Oper.semAt_some
/-- Between two rounds: what was said so far (L: the world's size ahead of the loop; g4: the row's box; bp, gg: the client). -/
def TkI (w : World) (L g4 bp gg : Nat) (pc : List Value) (pD : ProxyD) (gA : Option Addr) (gm : List Int) (j : Nat) (W : World) : Prop :=
  (∃ v vs, Blk W g4 [v] 39 ∧ W.ownsRow (L + 2) 58 28 v j vs ∧ tyMsg.Rows W (fun b => L + 2 ≤ b ∧ some b ≠ v.ownBlock) ((gm.take j).map (reqD pD)) vs) ∧
  Blk W bp pc 30 ∧ Blk W gg pc 30 ∧ Blk W (gg + 1) [.int .i64 0, .int .i64 0, .slice none 0 0, .int .i64 0, .int .i64 0, .bool false, .int .u8 0, .int .i64 0, .int .i64 0, .slice none 0 0, .slice none 0 0, .int .i64 0, .slice none 0 0, .int .i64 0] 30 ∧ tyProxy.Is W (fun b => gg + 1 < b ∧ b < g4) pD pc ∧ (Rd W gA (ints gm) ∧ ∀ a, gA = some a → ints gm ≠ [] → a.block < g4) ∧ Below w.heap.size w W ∧ L + 2 ≤ W.heap.size
/-- What a round is handed. -/
def TkV (L g4 : Nat) (pD : ProxyD) (gm : List Int) (j : Nat) (W : World) (xs : Array Value) : Prop :=
  ∃ ms, xs = #[.agg ms.toArray] ∧ ∃ B, L + 2 ≤ B ∧ (∀ v, Blk W g4 [v] 39 → ∀ g, v.ownBlock = some g → g < B) ∧ tyMsg.Is W (fun b => B ≤ b) (reqD pD (gm.getD j 0)) ms
theorem Blk.sets24 {b : Nat} {T : TypeId} : ∀ (us : List Value) (k : Nat) (cs : List Value) (w : World), Blk w b cs T → k + us.length = cs.length → Blk (w.setCells b k us) b (cs.take k ++ us) T
  | [], k, cs, w, h, e => by
    have h2 : cs.take k = cs := List.take_of_length_le (by simp at e; omega)
    rw [h2, List.append_nil]
    exact h
  | u :: us, k, cs, w, h, e => by
    have hk : k < cs.length := by simp at e; omega
    have h2 := Blk.sets24 us (k + 1) (cs.set k u) (w.setCell ⟨b, k, none⟩ u) (h.set k u) (by simp at e ⊢; omega)
    have e2 : (cs.set k u).take (k + 1) ++ us = cs.take k ++ (u :: us) := by
      rw [List.take_succ_eq_append_getElem (by simpa using hk)]
      have h3 : (cs.set k u).take k = cs.take k := by rw [List.take_set]; exact List.set_eq_of_length_le (by simp; omega)
      simp [h3]
    rw [← e2]
    exact h2
theorem wp_noexit24 {P : Program} {c : Code} {K : Act → World → Prop} {Q : Exit → Act → World → Prop} {a : Act} {w : World} (h : c.wp P (Exit.then K (fun _ _ _ => False)) a w) : c.wp P (Exit.then K Q) a w :=
  Code.wp_mono (fun e a w h => by cases e <;> first | exact h | exact h.elim) h
theorem stop_alloc24 (T : TypeId) {P : Program} {ops : Array Oper} {Q : Exit → Act → World → Prop} {o : Oper} {rest : List Oper} {a : Act} {w : World} (_ : o.op = .alloc T) (h : Stop (wpList P ops Q (o :: rest) a w)) : wpList P ops Q (o :: rest) a w := h
section
variable {w W W' : World} {L g4 bp gg j : Nat} {pc : List Value} {pD : ProxyD} {gA : Option Addr} {gm : List Int}
theorem own24_blk {w : World} {base e size n : Nat} {v : Value} {xs : List Value} (h : w.ownsRow base e size v n xs) : ∀ g, v.ownBlock = some g → base ≤ g ∧ g < w.heap.size := by
  rcases h.2 with ⟨rfl, rfl⟩ | ⟨g, cap, cur, rfl, hbg, hg, _⟩
  · intro g hg; simp [Value.ownBlock] at hg
  · intro k hk
    simp [Value.ownBlock] at hk
    subst hk
    exact ⟨hbg, (Array.getElem?_eq_some_iff.1 hg).1⟩
theorem own24_grown {w w' : World} {base e size n : Nat} {v : Value} {xs : List Value} (h : w.ownsRow base e size v n xs) {r : Option Nat} (hg : w.grownBy w' r) (hr : ∀ g, v.ownBlock = some g → some g ≠ r) : w'.ownsRow base e size v n xs := by
  refine ⟨h.1, ?_⟩
  rcases h.2 with h2 | ⟨g, cap, cur, rfl, hbg, hg', rest⟩
  · exact .inl h2
  · exact .inr ⟨g, cap, cur, rfl, hbg, (hg.block g (Array.getElem?_eq_some_iff.1 hg').1 (hr g rfl)).trans hg', rest⟩
theorem TkI.put (h : TkI w L g4 bp gg pc pD gA gm j W) (hw : w.heap.size ≤ L) (h4 : g4 < L) (hb : bp < L) (hg : gg + 1 < L) (r : Loop) : TkI w L g4 bp gg pc pD gA gm j (W.putObj (L + 1) (.loop r)) := by
  obtain ⟨⟨v, vs, h1, h2, h3⟩, h5, h6, h7, h8, ⟨h9, h9'⟩, h10, h11⟩ := h
  have hG := grownBy_putObj' W (L + 1) (.loop r)
  have hF : Fr (fun b => b = L + 1) W (W.putObj (L + 1) (.loop r)) := Fr.of_grown hG (fun k e => by injection e with e; exact e.symm)
  refine ⟨⟨v, vs, h1.fr hF (by omega), own24_grown h2 hG (fun g hg e => by injection e with e; have := (own24_blk h2 g hg).1; omega), h3.fr hF (fun b hb hx => by have hx' : b = L + 1 := hx; have := hb.1; omega)⟩, h5.fr hF (by omega), h6.fr hF (by omega), h7.fr hF (by omega), h8.fr hF (fun b hb hx => by have hx' : b = L + 1 := hx; have hb' : b < g4 := hb.2; omega), ⟨h9.fr hF (fun hne a ha hx => by have hx' : a.block = L + 1 := hx; have := h9' a ha hne; omega), h9'⟩, hF.below h10 h10.size (fun b hb => by have hb' : b = L + 1 := hb; omega), Nat.le_trans h11 hF.size⟩
theorem TkI.below (h : TkI w L g4 bp gg pc pD gA gm j W) (hd : Below W.heap.size W W') : TkI w L g4 bp gg pc pD gA gm j W' := by
  obtain ⟨⟨v, vs, h1, h2, h3⟩, h5, h6, h7, h8, ⟨h9, h9'⟩, h10, h11⟩ := h
  exact ⟨⟨v, vs, h1.below hd, own_below h2 hd, h3.below hd⟩, h5.below hd, h6.below hd, h7.below hd, h8.below hd, ⟨h9.below hd, h9'⟩, h10.trans (hd.mono h10.size), Nat.le_trans h11 hd.size⟩
theorem TkV.of (h : TkI w L g4 bp gg pc pD gA gm j W) (hd : Below W.heap.size W W') {ms : List Value} (hm : tyMsg.Is W' (fun b => W.heap.size ≤ b) (reqD pD (gm.getD j 0)) ms) : TkV L g4 pD gm j W' #[.agg ms.toArray] := by
  obtain ⟨⟨v, vs, h1, h2, h3⟩, h5, h6, h7, h8, h9, h10, h11⟩ := h
  refine ⟨ms, rfl, W.heap.size, h11, fun u hu g hg => ?_, hm⟩
  have e : u = v := by
    have h4 : Blk W' g4 [v] 39 := h1.below hd
    have := hu.cell (j := 0) rfl
    have h6 := h4.cell (j := 0) rfl
    rw [h6] at this
    injection this with this
    exact this.symm
  subst e
  exact (own24_blk h2 g hg).2
theorem infoMsg24 : (Try.prog.info? 58).map (fun i => (i.zero, i.size, i.bytes)) = some (some (.agg #[.int .u8 0, .int .i64 0, .int .i64 0, .int .i64 0, .int .i64 0, .int .i64 0, .int .i64 0, .int .i64 0, .int .u64 0, .int .i64 0, .int .i64 0, .int .u8 0, .int .i64 0, .int .i64 0, .slice none 0 0, .slice none 0 0, .int .u8 0, .slice none 0 0, .int .i64 0, .slice none 0 0, .int .i64 0, .int .i64 0, .int .i64 0, .slice none 0 0, .slice none 0 0, .int .i64 0, .slice none 0 0, .slice none 0 0]), 28, 352) := by kernel_rfl
theorem info24_parts {P : Program} {e : TypeId} {z : Value} {s b : Nat} (h : (P.info? e).map (fun i => (i.zero, i.size, i.bytes)) = some (some z, s, b)) : ∃ i, P.info? e = some i ∧ i.zero = some z ∧ i.size = s ∧ i.bytes = b := by
  rcases hi : P.info? e with _ | i
  · rw [hi] at h; cases h
  · rw [hi] at h
    simp at h
    exact ⟨i, rfl, h.1, h.2.1, h.2.2⟩
theorem own24_cells {w : World} {base e size n : Nat} {v : Value} {xs : List Value} (h : w.ownsRow base e size v n xs) : ∀ (j : Nat) (o : Obj), v.ownBlock = some j → w.heap[j]? = some o → o.isCells = true := by
  intro j o hj ho
  rcases h.2 with ⟨rfl, rfl⟩ | ⟨g, cap, cur, rfl, hbg, hg, _⟩
  · simp [Value.ownBlock] at hj
  · simp [Value.ownBlock] at hj
    subst hj
    rw [hg] at ho
    injection ho with ho
    subst ho; rfl
theorem tk_store {X X4 : World} {v v6 : Value} {vs ms : List Value} {B : Nat} {x : Int} (x1 : Blk X g4 [v] 39) (x2 : X.ownsRow (L + 2) 58 28 v j vs) (x3 : tyMsg.Rows X (fun b => L + 2 ≤ b ∧ some b ≠ v.ownBlock) ((gm.take j).map (reqD pD)) vs)
    (x4 : Blk X bp pc 30 ∧ Blk X gg pc 30 ∧ Blk X (gg + 1) [.int .i64 0, .int .i64 0, .slice none 0 0, .int .i64 0, .int .i64 0, .bool false, .int .u8 0, .int .i64 0, .int .i64 0, .slice none 0 0, .slice none 0 0, .int .i64 0, .slice none 0 0, .int .i64 0] 30 ∧ tyProxy.Is X (fun b => gg + 1 < b ∧ b < g4) pD pc ∧ (Rd X gA (ints gm) ∧ ∀ a, gA = some a → ints gm ≠ [] → a.block < g4) ∧ Below w.heap.size w X ∧ L + 2 ≤ X.heap.size)
    (hw : w.heap.size ≤ g4) (h4 : g4 < L) (hb : bp < L) (hg : gg + 1 < g4) (h4b : g4 < bp) (iM : tyMsg.Is X (fun b => B ≤ b) (reqD pD x) ms) (hB : L + 2 ≤ B) (hBv : ∀ g, v.ownBlock = some g → g < B) (hx : gm[j]? = some x)
    (ho6 : X4.ownsRow (L + 2) 58 28 v6 (j + 1) (vs ++ ms)) (hg6 : (X.alloc (.cells ms.toArray 58)).grownBy X4 v.ownBlock) (hv6 : v6.ownBlock = v.ownBlock ∨ v6.ownBlock = some (X.heap.size + 1)) :
    TkI w L g4 bp gg pc pD gA gm (j + 1) (X4.setCell ⟨g4, 0, none⟩ v6) ∧ KeepsOthers X (X4.setCell ⟨g4, 0, none⟩ v6) := by
  obtain ⟨y1, y2, y3, y4, ⟨y5, y5'⟩, y6, y7⟩ := x4
  have hbX : Below X.heap.size X (X.alloc (.cells ms.toArray 58)) := (Below.refl _ _).alloc (Nat.le_refl _) _
  have F1 : Fr (fun b => some b = v.ownBlock) (X.alloc (.cells ms.toArray 58)) X4 := Fr.of_grown hg6 (fun k e => e.symm)
  have F2 : Fr (fun b => b = g4) X4 (X4.setCell ⟨g4, 0, none⟩ v6) := Fr.set (X := fun b => b = g4) X4 ⟨g4, 0, none⟩ v6 rfl
  have lo5 := own24_blk x2
  have n5 : ∀ b, b < L + 2 → ¬ some b = v.ownBlock := fun b hb e => by have := (lo5 b e.symm).1; omega
  have R0 : tyMsg.Rows X (fun b => L + 2 ≤ b ∧ some b ≠ v.ownBlock ∧ b < X.heap.size) ((gm.take j).map (reqD pD)) vs := ⟨x3.1, fun j x hx => (x3.2 j x hx).here.mono (fun b hb => ⟨hb.1.1, hb.1.2, hb.2⟩)⟩
  have M0 : tyMsg.Is X (fun b => L + 2 ≤ b ∧ some b ≠ v.ownBlock ∧ b < X.heap.size) (reqD pD x) ms := iM.here.mono (fun b hb => ⟨Nat.le_trans hB hb.1, fun e => by have := hBv b e.symm; have := hb.1; omega, hb.2⟩)
  have ex : (gm.take (j + 1)).map (reqD pD) = (gm.take j).map (reqD pD) ++ [reqD pD x] := by
    obtain ⟨hj, hx⟩ := List.getElem?_eq_some_iff.1 hx
    rw [List.take_succ_eq_append_getElem hj, List.map_append, hx]; rfl
  refine ⟨⟨⟨v6, vs ++ ms, ?_, ?_, ?_⟩, ?_, ?_, ?_, ?_, ⟨?_, y5'⟩, ?_, ?_⟩, ?_⟩
  · exact ((x1.below hbX).fr F1 (n5 _ (by omega))).set 0 v6
  · exact own24_grown ho6 (r := some g4) ⟨rfl, rfl, rfl, by simp, fun k hk hne => Below.heap_setCell X4 ⟨g4, 0, none⟩ v6 k (fun e => hne (by rw [e]))⟩ (fun g hg e => by injection e with e; have := (own24_blk ho6 g hg).1; omega)
  · rw [ex]
    refine ((((R0.snoc M0).below hbX).fr F1 (fun b hb hx => hb.2.1 hx)).fr F2 (fun b hb hx => by have h1 : b = g4 := hx; have := hb.1; omega)).mono (fun b hb => ⟨hb.1, fun e => ?_⟩)
    rcases hv6 with e6 | e6
    · exact hb.2.1 (e.trans e6)
    · rw [e6] at e
      injection e with e
      have := hb.2.2
      omega
  · exact ((y1.below hbX).fr F1 (n5 _ (by omega))).fr F2 (by show ¬ _ = _; omega)
  · exact ((y2.below hbX).fr F1 (n5 _ (by omega))).fr F2 (by show ¬ _ = _; omega)
  · exact ((y3.below hbX).fr F1 (n5 _ (by omega))).fr F2 (by show ¬ _ = _; omega)
  · exact ((y4.below hbX).fr F1 (fun b hb hx => n5 b (by have hb' : b < g4 := hb.2; omega) hx)).fr F2 (fun b hb hx => by have hb' : b < g4 := hb.2; have hx' : b = g4 := hx; omega)
  · exact ((y5.below hbX).fr F1 (fun hne a ha hx => n5 _ (by have := y5' a ha hne; omega) hx)).fr F2 (fun hne a ha hx => by have hx' : a.block = g4 := hx; have := y5' a ha hne; omega)
  · have h1 := y6.trans (hbX.mono y6.size)
    have h2 := F1.below h1 h1.size (fun k e => by have := (lo5 k (Eq.symm e)).1; omega)
    exact F2.below h2 h2.size (fun k e => by have h1 : k = g4 := e; omega)
  · have h1 := F1.size
    have h2 := F2.size
    rw [World.size_alloc] at h1
    omega
  · exact ((keeps24 hbX).trans (KeepsOthers.of_grownBy hg6 (own24_cells (own_below x2 hbX)))).trans (KeepsOthers.setCell _ _ _)
end
/-- What is returned, the client in new blocks. -/
def TickIs2 (w w' : World) (r : ProxyD × List MsgD) (e : Ending) : Prop :=
  ∃ ds A n c, e = .returned (.tuple #[.agg ds.toArray, .slice A n c]) ∧ tyProxy.Is w' (fun b => w.heap.size ≤ b) r.1 ds ∧ (Ty.row tyMsg).Is w' (fun _ => True) r.2 [.slice A n c] ∧ Below w.heap.size w w'
set_option maxRecDepth 100000 in
set_option maxHeartbeats 51200000 in
theorem mTick2_any {w : World} {Q : Nat → Prop} {x : ProxyD} {cs : List Value} (h : tyProxy.Is w Q x cs) (hL : LightP x) : Calls Try.prog 25 #[.agg cs.toArray] w fun e w' => TickIs2 w w' (tickD x) e := by
  obtain ⟨a0, a1, a2, a3, a4, a5, a6, a7, a8, a9, a10, a11, a12, a13, rfl⟩ := list_14 (h.len : cs.length = 14)
  have HCl := hide (fun W (hW : Below w.heap.size w W) => cloneProxy_any (h.below hW) hL.g hL.d hL.q hL.n)
  clear h
  obtain ⟨gg, hgg⟩ : ∃ g, w.heap.size = g := ⟨_, rfl⟩
  obtain ⟨w0, hw0⟩ : ∃ x, (w.alloc (.cells #[a0, a1, a2, a3, a4, a5, a6, a7, a8, a9, a10, a11, a12, a13] 30)).alloc (.cells #[.int .i64 0, .int .i64 0, .slice none 0 0, .int .i64 0, .int .i64 0, .bool false, .int .u8 0, .int .i64 0, .int .i64 0, .slice none 0 0, .slice none 0 0, .int .i64 0, .slice none 0 0, .int .i64 0] 30) = x := ⟨_, rfl⟩
  have hP0 : Blk w0 gg [a0, a1, a2, a3, a4, a5, a6, a7, a8, a9, a10, a11, a12, a13] 30 := by rw [← hw0, ← hgg]; exact (Blk.new w _ _).alloc _
  have hZ0 : Blk w0 (gg + 1) [.int .i64 0, .int .i64 0, .slice none 0 0, .int .i64 0, .int .i64 0, .bool false, .int .u8 0, .int .i64 0, .int .i64 0, .slice none 0 0, .slice none 0 0, .int .i64 0, .slice none 0 0, .int .i64 0] 30 := by
    rw [← hw0, ← hgg]
    have := Blk.new (w.alloc (.cells #[a0, a1, a2, a3, a4, a5, a6, a7, a8, a9, a10, a11, a12, a13] 30)) [.int .i64 0, .int .i64 0, .slice none 0 0, .int .i64 0, .int .i64 0, .bool false, .int .u8 0, .int .i64 0, .int .i64 0, .slice none 0 0, .slice none 0 0, .int .i64 0, .slice none 0 0, .int .i64 0] 30
    rwa [World.size_alloc] at this
  have b0 : Below w.heap.size w w0 := by rw [← hw0]; exact ((Below.refl _ _).alloc (Nat.le_refl _) _).alloc (by simp) _
  have zl := hZ0.lt
  have Hw0 := hide hw0
  have s0 := b0.size
  clear hw0
  refine (callsIn_wide (n := 8)).1 ?_
  refine callsIn_of_wp_marks Try.func25 rfl trivial ?_ rfl
  simp only [Try.ntmps25, List.size_toArray, List.length_cons, List.length_nil, Nat.reduceAdd, Nat.reduceSub, Array.replicate_succ, Array.replicate_zero, List.push_toArray, List.append_toArray, List.nil_append, List.cons_append]
  refine wpIn_wide.2 ?_
  go_wp2_with (first | (with_reducible refine stop_load 30 rfl ?_) | (with_reducible refine stop_store 30 rfl ?_) | (with_reducible refine stop_load 28 rfl ?_) | (with_reducible refine stop_store 28 rfl ?_) | (with_reducible refine stop_load 49 rfl ?_) | (with_reducible refine stop_store 49 rfl ?_) | (with_reducible refine stop_load 24 rfl ?_) | (with_reducible refine stop_store 24 rfl ?_) | (with_reducible refine stop_load 58 rfl ?_) | (with_reducible refine stop_store 58 rfl ?_))
  rw [Hw0.out]
  refine go_loadG rfl rfl (k := 0) rfl hP0 [a0, a1, a2, a3, a4, a5, a6, a7, a8, a9, a10, a11, a12, a13] rfl Try.underlying30 rfl (by kernel_rfl) ?_
  go_wp2_with (first | (with_reducible refine stop_load 30 rfl ?_) | (with_reducible refine stop_store 30 rfl ?_) | (with_reducible refine stop_load 28 rfl ?_) | (with_reducible refine stop_store 28 rfl ?_) | (with_reducible refine stop_load 49 rfl ?_) | (with_reducible refine stop_store 49 rfl ?_) | (with_reducible refine stop_load 24 rfl ?_) | (with_reducible refine stop_store 24 rfl ?_) | (with_reducible refine stop_load 58 rfl ?_) | (with_reducible refine stop_store 58 rfl ?_))
  go_fit (HCl.out w0 b0)
  rintro xx w1 ⟨ds, rfl, iD1, hd1⟩
  obtain ⟨id, ⟨ge, gm⟩, v, se, bu, o, n, qu, c1, c2, c6, c7, c8, c9, c10, c11, c12, rfl, rfl, p1, p2, p3, p4, hg, ho, hn⟩ := Proxy_parts iD1
  have hg0 := hg
  obtain ⟨gA, gn, gc, rfl, rfl, gb, gl1, gl2, gl3, gl4, gl5⟩ := Group_cells hg
  simp only at gl1 gl4 gl5
  have b1 := b0.trans (hd1.mono s0)
  have s1 := hd1.size
  have hP1 := hP0.below hd1
  have hZ1 := hZ0.below hd1
  go_wp2_with (first | (with_reducible refine stop_load 30 rfl ?_) | (with_reducible refine stop_store 30 rfl ?_) | (with_reducible refine stop_load 28 rfl ?_) | (with_reducible refine stop_store 28 rfl ?_) | (with_reducible refine stop_load 49 rfl ?_) | (with_reducible refine stop_store 49 rfl ?_) | (with_reducible refine stop_load 24 rfl ?_) | (with_reducible refine stop_store 24 rfl ?_) | (with_reducible refine stop_load 58 rfl ?_) | (with_reducible refine stop_store 58 rfl ?_))
  refine go_store rfl rfl rfl rfl rfl hP1 (by kernel_rfl) rfl (us := [.int .i64 id, .int .i64 ge, .slice gA gn gc, .int .i64 v, .int .i64 se, .bool bu, c6, c7, c8, c9, c10, c11, c12, .int .i64 qu]) iD1.ones ?_
  obtain ⟨w2, hw2⟩ : ∃ x, w1.setRow gg #[.int .i64 id, .int .i64 ge, .slice gA gn gc, .int .i64 v, .int .i64 se, .bool bu, c6, c7, c8, c9, c10, c11, c12, .int .i64 qu] = x := ⟨_, rfl⟩
  have hF2 : Fr (fun b => b = gg) w1 w2 := by rw [← hw2]; exact Fr.row (X := fun b => b = gg) rfl w1 _
  have hP2 : Blk w2 gg [.int .i64 id, .int .i64 ge, .slice gA gn gc, .int .i64 v, .int .i64 se, .bool bu, c6, c7, c8, c9, c10, c11, c12, .int .i64 qu] 30 := by rw [← hw2]; exact hP1.setAll [.int .i64 id, .int .i64 ge, .slice gA gn gc, .int .i64 v, .int .i64 se, .bool bu, c6, c7, c8, c9, c10, c11, c12, .int .i64 qu]
  have hZ2 := hZ1.fr hF2 (by omega)
  have fr0 : ∀ b, w0.heap.size ≤ b → ¬ b = gg := fun b hb => by omega
  have iD2 := iD1.fr hF2 (fun b hb hx => fr0 b hb hx)
  have jg := hg0.fr hF2 (fun b hb hx => fr0 b hb hx)
  have jo := ho.fr hF2 (fun b hb hx => fr0 b hb hx)
  have jn := hn.fr hF2 (fun b hb hx => fr0 b hb hx)
  have b2 := hF2.below b1 b1.size (fun b hb => by have hb' : b = gg := hb; omega)
  have s2 := hF2.size
  rw [hw2]
  clear hw2 hF2 hg hg0 ho hn gl4 HCl
  have y5 := hP2.cell (j := 5) rfl
  have y13 := hP2.cell (j := 13) rfl
  cases bu with
  | false =>
    have HF := hide (show tickD (id, (ge, gm), v, se, false, o, n, qu) = ((id, (ge, gm), v, se, false, o, n, qu), []) by
      rw [tickD]
      by_cases hq : prB (id, (ge, gm), v, se, false, o, n, qu) = false
      · rw [if_pos hq]
      · rw [if_neg hq, if_pos rfl])
    go_wp2_with (first | (with_reducible refine stop_load 30 rfl ?_) | (with_reducible refine stop_store 30 rfl ?_) | (with_reducible refine stop_load 28 rfl ?_) | (with_reducible refine stop_store 28 rfl ?_) | (with_reducible refine stop_load 49 rfl ?_) | (with_reducible refine stop_store 49 rfl ?_) | (with_reducible refine stop_load 24 rfl ?_) | (with_reducible refine stop_store 24 rfl ?_) | (with_reducible refine stop_load 58 rfl ?_) | (with_reducible refine stop_store 58 rfl ?_))
    repeat (refine go_skipG rfl ?_; go_wp2_with (first | (with_reducible refine stop_load 30 rfl ?_) | (with_reducible refine stop_store 30 rfl ?_) | (with_reducible refine stop_load 28 rfl ?_) | (with_reducible refine stop_store 28 rfl ?_) | (with_reducible refine stop_load 49 rfl ?_) | (with_reducible refine stop_store 49 rfl ?_) | (with_reducible refine stop_load 24 rfl ?_) | (with_reducible refine stop_store 24 rfl ?_) | (with_reducible refine stop_load 58 rfl ?_) | (with_reducible refine stop_store 58 rfl ?_)))
    refine go_loadG rfl rfl (k := 0) rfl hP2 [.int .i64 id, .int .i64 ge, .slice gA gn gc, .int .i64 v, .int .i64 se, .bool false, c6, c7, c8, c9, c10, c11, c12, .int .i64 qu] rfl Try.underlying30 rfl (by kernel_rfl) ?_
    go_wp2_with (first | (with_reducible refine stop_load 30 rfl ?_) | (with_reducible refine stop_store 30 rfl ?_) | (with_reducible refine stop_load 28 rfl ?_) | (with_reducible refine stop_store 28 rfl ?_) | (with_reducible refine stop_load 49 rfl ?_) | (with_reducible refine stop_store 49 rfl ?_) | (with_reducible refine stop_load 24 rfl ?_) | (with_reducible refine stop_store 24 rfl ?_) | (with_reducible refine stop_load 58 rfl ?_) | (with_reducible refine stop_store 58 rfl ?_))
    refine go_store rfl rfl rfl rfl rfl hZ2 (by kernel_rfl) rfl (us := [.int .i64 id, .int .i64 ge, .slice gA gn gc, .int .i64 v, .int .i64 se, .bool false, c6, c7, c8, c9, c10, c11, c12, .int .i64 qu]) iD2.ones ?_
    go_wp2
    have hF := Fr.row (X := fun b => b = gg + 1) rfl w2 #[.int .i64 id, .int .i64 ge, .slice gA gn gc, .int .i64 v, .int .i64 se, .bool false, c6, c7, c8, c9, c10, c11, c12, .int .i64 qu]
    have hZn := hZ2.setAll [.int .i64 id, .int .i64 ge, .slice gA gn gc, .int .i64 v, .int .i64 se, .bool false, c6, c7, c8, c9, c10, c11, c12, .int .i64 qu]
    have bn := hF.below b2 b2.size (fun b hb => by have hb' : b = gg + 1 := hb; omega)
    refine leaves_marks (B := w.heap.size) [] _ (MarksAt.nil _ _) ?_
    intro W' hca hbl
    refine ⟨_, results_cell2 rfl rfl (hca _ _ rfl hZn : Blk W' (gg + 1) [.int .i64 id, .int .i64 ge, .slice gA gn gc, .int .i64 v, .int .i64 se, .bool false, c6, c7, c8, c9, c10, c11, c12, .int .i64 qu] 30) Try.underlying30 rfl (by kernel_rfl), ?_⟩
    have hkeep : ∀ (t : Ty) {R : Nat → Prop} {x : t.Den} {cs : List Value}, t.Is _ R x cs → t.Is W' R x cs := fun t _ _ _ h => Ty.Is.keep (fun _ _ hr _ => hca.rd hr) (fun _ h => h) t _ _ h
    refine ⟨[.int .i64 id, .int .i64 ge, .slice gA gn gc, .int .i64 v, .int .i64 se, .bool false, c6, c7, c8, c9, c10, c11, c12, .int .i64 qu], none, 0, 0, by first | rfl | (rw [HF.out]; rfl), ?_, by rw [HF.out]; exact zeroL_is, bn.trans hbl⟩
    rw [HF.out]
    exact hkeep tyProxy ((iD2.fr hF (fun b hb hx => by have hx' : b = gg + 1 := hx; have hb' : w0.heap.size ≤ b := hb; omega)).mono (fun b hb => Nat.le_trans s0 hb))
  | true =>
    go_wp2_with (first | (with_reducible refine stop_load 30 rfl ?_) | (with_reducible refine stop_store 30 rfl ?_) | (with_reducible refine stop_load 28 rfl ?_) | (with_reducible refine stop_store 28 rfl ?_) | (with_reducible refine stop_load 49 rfl ?_) | (with_reducible refine stop_store 49 rfl ?_) | (with_reducible refine stop_load 24 rfl ?_) | (with_reducible refine stop_store 24 rfl ?_) | (with_reducible refine stop_load 58 rfl ?_) | (with_reducible refine stop_store 58 rfl ?_))
    refine go_loadG rfl rfl (k := 0) rfl hP2 [.int .i64 id, .int .i64 ge, .slice gA gn gc, .int .i64 v, .int .i64 se, .bool true, c6, c7, c8, c9, c10, c11, c12, .int .i64 qu] rfl Try.underlying30 rfl (by kernel_rfl) ?_
    go_wp2_with (first | (with_reducible refine stop_load 30 rfl ?_) | (with_reducible refine stop_store 30 rfl ?_) | (with_reducible refine stop_load 28 rfl ?_) | (with_reducible refine stop_store 28 rfl ?_) | (with_reducible refine stop_load 49 rfl ?_) | (with_reducible refine stop_store 49 rfl ?_) | (with_reducible refine stop_load 24 rfl ?_) | (with_reducible refine stop_store 24 rfl ?_) | (with_reducible refine stop_load 58 rfl ?_) | (with_reducible refine stop_store 58 rfl ?_))
    go_fit (mprC_any iD2)
    rintro xx w3 ⟨rfl, hd3⟩
    have b3 := b2.trans (hd3.mono b2.size)
    have s3 := hd3.size
    have hP3 := hP2.below hd3
    have hZ3 := hZ2.below hd3
    have iD3 := iD2.below hd3
    have jg3 := jg.below hd3
    have jo3 := jo.below hd3
    have jn3 := jn.below hd3
    rcases bool_two (prB (id, (ge, gm), v, se, true, o, n, qu)) with q2 | q2
    rotate_left
    · have HF := hide (show tickD (id, (ge, gm), v, se, true, o, n, qu) = ((id, (ge, gm), v, se, true, o, n, qu), []) by rw [tickD, if_pos q2])
      rw [prE_no q2]
      clear q2
      go_wp2_with (first | (with_reducible refine stop_load 30 rfl ?_) | (with_reducible refine stop_store 30 rfl ?_) | (with_reducible refine stop_load 28 rfl ?_) | (with_reducible refine stop_store 28 rfl ?_) | (with_reducible refine stop_load 49 rfl ?_) | (with_reducible refine stop_store 49 rfl ?_) | (with_reducible refine stop_load 24 rfl ?_) | (with_reducible refine stop_store 24 rfl ?_) | (with_reducible refine stop_load 58 rfl ?_) | (with_reducible refine stop_store 58 rfl ?_))
      repeat (refine go_skipG rfl ?_; go_wp2_with (first | (with_reducible refine stop_load 30 rfl ?_) | (with_reducible refine stop_store 30 rfl ?_) | (with_reducible refine stop_load 28 rfl ?_) | (with_reducible refine stop_store 28 rfl ?_) | (with_reducible refine stop_load 49 rfl ?_) | (with_reducible refine stop_store 49 rfl ?_) | (with_reducible refine stop_load 24 rfl ?_) | (with_reducible refine stop_store 24 rfl ?_) | (with_reducible refine stop_load 58 rfl ?_) | (with_reducible refine stop_store 58 rfl ?_)))
      refine go_loadG rfl rfl (k := 0) rfl hP3 [.int .i64 id, .int .i64 ge, .slice gA gn gc, .int .i64 v, .int .i64 se, .bool true, c6, c7, c8, c9, c10, c11, c12, .int .i64 qu] rfl Try.underlying30 rfl (by kernel_rfl) ?_
      go_wp2_with (first | (with_reducible refine stop_load 30 rfl ?_) | (with_reducible refine stop_store 30 rfl ?_) | (with_reducible refine stop_load 28 rfl ?_) | (with_reducible refine stop_store 28 rfl ?_) | (with_reducible refine stop_load 49 rfl ?_) | (with_reducible refine stop_store 49 rfl ?_) | (with_reducible refine stop_load 24 rfl ?_) | (with_reducible refine stop_store 24 rfl ?_) | (with_reducible refine stop_load 58 rfl ?_) | (with_reducible refine stop_store 58 rfl ?_))
      refine go_store rfl rfl rfl rfl rfl hZ3 (by kernel_rfl) rfl (us := [.int .i64 id, .int .i64 ge, .slice gA gn gc, .int .i64 v, .int .i64 se, .bool true, c6, c7, c8, c9, c10, c11, c12, .int .i64 qu]) iD3.ones ?_
      go_wp2
      have hF := Fr.row (X := fun b => b = gg + 1) rfl w3 #[.int .i64 id, .int .i64 ge, .slice gA gn gc, .int .i64 v, .int .i64 se, .bool true, c6, c7, c8, c9, c10, c11, c12, .int .i64 qu]
      have hZn := hZ3.setAll [.int .i64 id, .int .i64 ge, .slice gA gn gc, .int .i64 v, .int .i64 se, .bool true, c6, c7, c8, c9, c10, c11, c12, .int .i64 qu]
      have bn := hF.below b3 b3.size (fun b hb => by have hb' : b = gg + 1 := hb; omega)
      refine leaves_marks (B := w.heap.size) [] _ (MarksAt.nil _ _) ?_
      intro W' hca hbl
      refine ⟨_, results_cell2 rfl rfl (hca _ _ rfl hZn : Blk W' (gg + 1) [.int .i64 id, .int .i64 ge, .slice gA gn gc, .int .i64 v, .int .i64 se, .bool true, c6, c7, c8, c9, c10, c11, c12, .int .i64 qu] 30) Try.underlying30 rfl (by kernel_rfl), ?_⟩
      have hkeep : ∀ (t : Ty) {R : Nat → Prop} {x : t.Den} {cs : List Value}, t.Is _ R x cs → t.Is W' R x cs := fun t _ _ _ h => Ty.Is.keep (fun _ _ hr _ => hca.rd hr) (fun _ h => h) t _ _ h
      refine ⟨[.int .i64 id, .int .i64 ge, .slice gA gn gc, .int .i64 v, .int .i64 se, .bool true, c6, c7, c8, c9, c10, c11, c12, .int .i64 qu], none, 0, 0, by first | rfl | (rw [HF.out]; rfl), ?_, by rw [HF.out]; exact zeroL_is, bn.trans hbl⟩
      rw [HF.out]
      exact hkeep tyProxy ((iD3.fr hF (fun b hb hx => by have hx' : b = gg + 1 := hx; have hb' : w0.heap.size ≤ b := hb; omega)).mono (fun b hb => Nat.le_trans s0 hb))
    have hid := prB_id q2
    obtain ⟨h91, h92, h93⟩ := prB_nine q2
    rw [prE_ok q2]
    have Q2 := hide q2
    clear q2 y5 y13
    have hgn : gn ≤ 9 := by rw [← gl1]; exact h91
    have hwr : IntKind.i64.wrap (qu + 1) = qu + 1 := IntWalk.i64_in _ (by omega)
    have y13 := hP3.cell (j := 13) rfl
    have f13 := hP3.frozen 13
    have Hgl := hide gl1
    have Hg5 := hide gl5
    have HL := hide hL
    go_wp2_with (first | (with_reducible refine stop_alloc24 39 rfl ?_) | (first | (with_reducible refine stop_load 30 rfl ?_) | (with_reducible refine stop_store 30 rfl ?_) | (with_reducible refine stop_load 28 rfl ?_) | (with_reducible refine stop_store 28 rfl ?_) | (with_reducible refine stop_load 49 rfl ?_) | (with_reducible refine stop_store 49 rfl ?_) | (with_reducible refine stop_load 24 rfl ?_) | (with_reducible refine stop_store 24 rfl ?_) | (with_reducible refine stop_load 58 rfl ?_) | (with_reducible refine stop_store 58 rfl ?_)))
    all_goals first
      | (have hlt0 : qu < 4611686018427387904 := by omega
         have hnq : nextQ qu = (qu + 1) := by unfold nextQ; rw [if_pos hlt0]
         have HF := hide (show tickD (id, (ge, gm), v, se, true, o, n, qu) = ((id, (ge, gm), v, se, true, o, n, (qu + 1)), if ((qu + 1) % 4 == 0) = true then gm.map (reqD (id, (ge, gm), v, se, true, o, n, (qu + 1))) else []) by
           have h0 : tickD (id, (ge, gm), v, se, true, o, n, qu) = ((id, (ge, gm), v, se, true, o, n, (nextQ qu)), if (nextQ qu % 4 == 0) = true then gm.map (reqD (id, (ge, gm), v, se, true, o, n, (nextQ qu))) else []) := by
             rw [tickD, if_neg (by rw [Q2.out]; exact fun h => Bool.noConfusion h), if_neg (by decide)]
           rw [h0, hnq]; (first | done | rfl))
         clear hnq
         obtain ⟨qx, hqx⟩ : ∃ z : Int, (qu + 1) = z := ⟨_, rfl⟩
         have hq0 : 0 ≤ qx ∧ qx ≤ 4611686018427387904 := by omega
         have HFq := hide (HF.out.trans (by rw [hqx]; (first | done | rfl)) : tickD (id, (ge, gm), v, se, true, o, n, qu) = ((id, (ge, gm), v, se, true, o, n, qx), if (qx % 4 == 0) = true then gm.map (reqD (id, (ge, gm), v, se, true, o, n, qx)) else []))
         obtain ⟨w4, hw4⟩ : ∃ x, w3.setCell ⟨gg, 13, none⟩ (.int .i64 qx) = x := ⟨_, rfl⟩
         have hP4 : Blk w4 gg [.int .i64 id, .int .i64 ge, .slice gA gn gc, .int .i64 v, .int .i64 se, .bool true, c6, c7, c8, c9, c10, c11, c12, .int .i64 qx] 30 := by rw [← hw4]; exact hP3.set 13 _
         have hF4 : Fr (fun b => b = gg) w3 w4 := by rw [← hw4]; exact Fr.set (X := fun b => b = gg) w3 ⟨gg, 13, none⟩ _ rfl
         have hZ4 := hZ3.fr hF4 (by omega)
         have b4 := hF4.below b3 b3.size (fun b hb => by have hb' : b = gg := hb; omega)
         have s4 := hF4.size
         have hsz4 : w4.heap.size = w3.heap.size := by rw [← hw4]; simp
         have jg4 := jg3.fr hF4 (fun b hb hx => fr0 b hb hx)
         have jo4 := jo3.fr hF4 (fun b hb hx => fr0 b hb hx)
         have jn4 := jn3.fr hF4 (fun b hb hx => fr0 b hb hx)
         have HI4 := hide (Proxy_shut (bu := true) (qu := qx) p1 p2 p3 (by omega) jg4 jo4 jn4 : tyProxy.Is w4 (fun b => w0.heap.size ≤ b) (id, (ge, gm), v, se, true, o, n, qx) [.int .i64 id, .int .i64 ge, .slice gA gn gc, .int .i64 v, .int .i64 se, .bool true, c6, c7, c8, c9, c10, c11, c12, .int .i64 qx])
         rw [hqx]
         rw [hw4]
         clear hw4 f13 y13 HF hqx jg jo jn jg3 jo3 jn3 iD1 iD2 iD3
         obtain ⟨qq, hqq⟩ : ∃ b, (qx % 4 == 0) = b := ⟨_, rfl⟩
         have hqt : qx.tmod 4 = qx % 4 := Int.tmod_eq_emod_of_nonneg hq0.1
         obtain ⟨g4, hg4⟩ : ∃ b, w3.heap.size = b := ⟨_, rfl⟩
         have hz4 : w4.heap.size = g4 := by rw [← hg4]; exact hsz4
         obtain ⟨w5, hw5⟩ : ∃ x, w4.alloc (.cells #[.slice none 0 0] 39) = x := ⟨_, rfl⟩
         have hP5 : Blk w5 gg [.int .i64 id, .int .i64 ge, .slice gA gn gc, .int .i64 v, .int .i64 se, .bool true, c6, c7, c8, c9, c10, c11, c12, .int .i64 qx] 30 := by rw [← hw5]; exact hP4.alloc _
         have hZ5 : Blk w5 (gg + 1) [.int .i64 0, .int .i64 0, .slice none 0 0, .int .i64 0, .int .i64 0, .bool false, .int .u8 0, .int .i64 0, .int .i64 0, .slice none 0 0, .slice none 0 0, .int .i64 0, .slice none 0 0, .int .i64 0] 30 := by rw [← hw5]; exact hZ4.alloc _
         have hX5 : Blk w5 g4 [.slice none 0 0] 39 := by rw [← hw5, ← hz4]; exact Blk.new w4 _ _
         have hd5 : Below w4.heap.size w4 w5 := by rw [← hw5]; exact (Below.refl _ _).alloc (Nat.le_refl _) _
         have sz5 : w5.heap.size = g4 + 1 := by rw [← hw5, World.size_alloc, hz4]
         have b5 := b4.trans (hd5.mono b4.size)
         have iD5 := HI4.out.below hd5
         have jg5 := jg4.below hd5
         have y13 := hP5.cell (j := 13) rfl
         show wpList _ _ _ _ _ _
         cases qq with
         | false =>
           go_wp2_with (first | (with_reducible refine stop_load 30 rfl ?_) | (with_reducible refine stop_store 30 rfl ?_) | (with_reducible refine stop_load 28 rfl ?_) | (with_reducible refine stop_store 28 rfl ?_) | (with_reducible refine stop_load 49 rfl ?_) | (with_reducible refine stop_store 49 rfl ?_) | (with_reducible refine stop_load 24 rfl ?_) | (with_reducible refine stop_store 24 rfl ?_) | (with_reducible refine stop_load 58 rfl ?_) | (with_reducible refine stop_store 58 rfl ?_))
           obtain ⟨wd, hwd⟩ : ∃ x, w5.drew = x := ⟨_, rfl⟩
           have hbd : Below w5.heap.size w5 wd := by rw [← hwd]; exact (Below.refl _ _).drew
           have hPd := hP5.below hbd
           have hZd := hZ5.below hbd
           have hXd := hX5.below hbd
           have iDd := iD5.below hbd
           have bd := b5.trans (hbd.mono b5.size)
           have hS0 : Blk w5.drew gg [.int .i64 id, .int .i64 ge, .slice gA gn gc, .int .i64 v, .int .i64 se, .bool true, c6, c7, c8, c9, c10, c11, c12, .int .i64 qx] 30 ∧ Blk w5.drew g4 [.slice none 0 0] 39 := by rw [hwd]; exact ⟨hPd, hXd⟩
           refine wp_noexit24 ?_
           refine wp_region_held_drew (S := fun Z => Blk Z gg [.int .i64 id, .int .i64 ge, .slice gA gn gc, .int .i64 v, .int .i64 se, .bool true, c6, c7, c8, c9, c10, c11, c12, .int .i64 qx] 30 ∧ Blk Z g4 [.slice none 0 0] 39) (by kernel_rfl) hS0 (fun hS0 => ?_)
           refine wpAnyH_take (fuel := 3) (i := 0) (v := .agg #[.int .i64 id, .int .i64 ge, .slice gA gn gc, .int .i64 v, .int .i64 se, .bool true, c6, c7, c8, c9, c10, c11, c12, .int .i64 qx]) rfl (by kernel_rfl) (by kernel_rfl) (by kernel_rfl) (fun _ _ _ h => h) (yieldsIf_load_mid rfl 30 _ rfl gg 0 rfl [.int .i64 id, .int .i64 ge, .slice gA gn gc, .int .i64 v, .int .i64 se, .bool true, c6, c7, c8, c9, c10, c11, c12, .int .i64 qx] _ (fun w hw => hw.1.range) Try.underlying30 rfl (by kernel_rfl)) hS0 ?_
           try simp only [Act.put, List.setIfInBounds_toArray, List.set_cons_zero, List.set_cons_succ, List.getElem_toArray, List.getElem_cons_zero, List.getElem_cons_succ]
           refine wpAnyH_take (fuel := 2) (i := 1) (v := .slice none 0 0) rfl (by kernel_rfl) (by kernel_rfl) (by kernel_rfl) (fun _ _ _ h => h) (Or.inl ⟨by rfl, fun Z hZ => ?_⟩) hS0 ?_
           · have zz := Blk.cell hZ.2 (j := 0) rfl; go_simp
           try simp only [Act.put, List.setIfInBounds_toArray, List.set_cons_zero, List.set_cons_succ, List.getElem_toArray, List.getElem_cons_zero, List.getElem_cons_succ]
           rw [hwd]
           have Fe := Fr.sets (X := fun b => b = gg + 1) rfl [.int .i64 id, .int .i64 ge, .slice gA gn gc, .int .i64 v, .int .i64 se, .bool true, c6, c7, c8, c9, c10, c11, c12, .int .i64 qx] 0 wd
           obtain ⟨we, hwe⟩ : ∃ x, wd.setCells (gg + 1) 0 [.int .i64 id, .int .i64 ge, .slice gA gn gc, .int .i64 v, .int .i64 se, .bool true, c6, c7, c8, c9, c10, c11, c12, .int .i64 qx] = x := ⟨_, rfl⟩
           have hZe : Blk we (gg + 1) [.int .i64 id, .int .i64 ge, .slice gA gn gc, .int .i64 v, .int .i64 se, .bool true, c6, c7, c8, c9, c10, c11, c12, .int .i64 qx] 30 := by rw [← hwe]; exact (hZd |>.set 0 (.int .i64 id) |>.set 1 (.int .i64 ge) |>.set 2 (.slice gA gn gc) |>.set 3 (.int .i64 v) |>.set 4 (.int .i64 se) |>.set 5 (.bool true) |>.set 6 (c6) |>.set 7 (c7) |>.set 8 (c8) |>.set 9 (c9) |>.set 10 (c10) |>.set 11 (c11) |>.set 12 (c12) |>.set 13 (.int .i64 qx))
           rw [hwe] at Fe
           have hPe := hPd.fr Fe (by omega)
           have hXe := hXd.fr Fe (by omega)
           have be := Fe.below bd bd.size (fun b hb => by have hb' : b = gg + 1 := hb; omega)
           refine all_one (fuel := 1) (i := 2) (by kernel_rfl) rfl rfl (fun Kk hK => ?_)
           refine wp_store_mid 30 _ _ rfl (gg + 1) 0 #[.int .i64 id, .int .i64 ge, .slice gA gn gc, .int .i64 v, .int .i64 se, .bool true, c6, c7, c8, c9, c10, c11, c12, .int .i64 qx] rfl rfl (Blk.thereAt hZd (by simp)) (by kernel_rfl) (all_oneCell_toArray iDd.ones) ?_
           rw [hwe]
           refine hK _ _ ⟨⟨hPe, hXe⟩, ?_⟩
           clear hK Kk
           refine all_one (fuel := 0) (i := 3) (by kernel_rfl) rfl rfl (fun Kk hK => ?_)
           go_simp
           refine hK _ _ ⟨⟨hPe, hXe⟩, ?_⟩
           clear hK Kk
           refine wpAnyH_done (by kernel_rfl) ?_ _
           try simp only [Act.put, List.setIfInBounds_toArray, List.set_cons_zero, List.set_cons_succ, List.getElem_toArray, List.getElem_cons_zero, List.getElem_cons_succ]
           go_wp2
           refine leaves_marks (B := w.heap.size) [] _ (MarksAt.nil _ _) ?_
           intro W' hca hbl
           refine ⟨_, results_cell2 rfl rfl (hca _ _ rfl hZe : Blk W' (gg + 1) [.int .i64 id, .int .i64 ge, .slice gA gn gc, .int .i64 v, .int .i64 se, .bool true, c6, c7, c8, c9, c10, c11, c12, .int .i64 qx] 30) Try.underlying30 rfl (by kernel_rfl), ?_⟩
           have hkeep : ∀ (t : Ty) {R : Nat → Prop} {x : t.Den} {cs : List Value}, t.Is _ R x cs → t.Is W' R x cs := fun t _ _ _ h => Ty.Is.keep (fun _ _ hr _ => hca.rd hr) (fun _ h => h) t _ _ h
           refine ⟨[.int .i64 id, .int .i64 ge, .slice gA gn gc, .int .i64 v, .int .i64 se, .bool true, c6, c7, c8, c9, c10, c11, c12, .int .i64 qx], none, 0, 0, by first | rfl | (rw [HFq.out]; rfl), ?_, by rw [HFq.out, hqq, if_neg (by decide)]; exact zeroL_is, be.trans hbl⟩
           rw [HFq.out]
           exact hkeep tyProxy ((iDd.fr Fe (fun b hb hx => by have hx' : b = gg + 1 := hx; have hb' : w0.heap.size ≤ b := hb; omega)).mono (fun b hb => Nat.le_trans s0 hb))
         | true =>
           go_wp2_with (first | (with_reducible refine stop_load 30 rfl ?_) | (with_reducible refine stop_store 30 rfl ?_) | (with_reducible refine stop_load 28 rfl ?_) | (with_reducible refine stop_store 28 rfl ?_) | (with_reducible refine stop_load 49 rfl ?_) | (with_reducible refine stop_store 49 rfl ?_) | (with_reducible refine stop_load 24 rfl ?_) | (with_reducible refine stop_store 24 rfl ?_) | (with_reducible refine stop_load 58 rfl ?_) | (with_reducible refine stop_store 58 rfl ?_))
           refine go_loadG rfl rfl (k := 0) rfl hP5 [.int .i64 id, .int .i64 ge, .slice gA gn gc, .int .i64 v, .int .i64 se, .bool true, c6, c7, c8, c9, c10, c11, c12, .int .i64 qx] rfl Try.underlying30 rfl (by kernel_rfl) ?_
           go_wp2_with (first | (with_reducible refine stop_load 30 rfl ?_) | (with_reducible refine stop_store 30 rfl ?_) | (with_reducible refine stop_load 28 rfl ?_) | (with_reducible refine stop_store 28 rfl ?_) | (with_reducible refine stop_load 49 rfl ?_) | (with_reducible refine stop_store 49 rfl ?_) | (with_reducible refine stop_load 24 rfl ?_) | (with_reducible refine stop_store 24 rfl ?_) | (with_reducible refine stop_load 58 rfl ?_) | (with_reducible refine stop_store 58 rfl ?_))
           go_fit (toAll_any _ _ _ _ _ _ _ _ _ _ _ _ _ _ w5)
           rintro xx ww ⟨rfl, rfl⟩
           obtain ⟨bp, hbp⟩ : ∃ b, w5.heap.size = b := ⟨_, rfl⟩
           obtain ⟨w6, hw6⟩ : ∃ x, w5.alloc (.cells #[.int .i64 id, .int .i64 ge, .slice gA gn gc, .int .i64 v, .int .i64 se, .bool true, c6, c7, c8, c9, c10, c11, c12, .int .i64 qx] 30) = x := ⟨_, rfl⟩
           have hd6 : Below w5.heap.size w5 w6 := by rw [← hw6]; exact (Below.refl _ _).alloc (Nat.le_refl _) _
           have hB6 : Blk w6 bp [.int .i64 id, .int .i64 ge, .slice gA gn gc, .int .i64 v, .int .i64 se, .bool true, c6, c7, c8, c9, c10, c11, c12, .int .i64 qx] 30 := by rw [← hw6, ← hbp]; exact Blk.new w5 _ _
           have hsz6 : w6.heap.size = g4 + 2 := by rw [← hw6, World.size_alloc, sz5]
           have hbp4 : bp = g4 + 1 := by rw [← hbp]; exact sz5
           have b6 := b5.trans (hd6.mono b5.size)
           have hP6 := hP5.below hd6
           have hZ6 := hZ5.below hd6
           have hX6 := hX5.below hd6
           have HI6 := hide ((HI4.out.here.below hd5).below hd6)
           have HG6 := hide ((jg4.low.below hd5).below hd6)
           rw [hw6]
           try rw [hbp]
           subst hbp4
           go_wp2_with (first | (with_reducible refine stop_load 30 rfl ?_) | (with_reducible refine stop_store 30 rfl ?_) | (with_reducible refine stop_load 28 rfl ?_) | (with_reducible refine stop_store 28 rfl ?_) | (with_reducible refine stop_load 49 rfl ?_) | (with_reducible refine stop_store 49 rfl ?_) | (with_reducible refine stop_load 24 rfl ?_) | (with_reducible refine stop_store 24 rfl ?_) | (with_reducible refine stop_load 58 rfl ?_) | (with_reducible refine stop_store 58 rfl ?_))
           have hgl6 : w4.heap.size = g4 := hz4
           have hI4 : tyProxy.Is w6 (fun b => gg + 1 < b ∧ b < g4) (id, (ge, gm), v, se, true, o, n, qx) [.int .i64 id, .int .i64 ge, .slice gA gn gc, .int .i64 v, .int .i64 se, .bool true, c6, c7, c8, c9, c10, c11, c12, .int .i64 qx] := HI6.out.mono (fun b hb => ⟨by have := hb.1; omega, by have := hb.2; omega⟩)
           have hR6 : Rd w6 gA (ints gm) ∧ ∀ a, gA = some a → ints gm ≠ [] → a.block < g4 := by
             have hj := jg4
             obtain ⟨A', n', c', e1, e2, -, -, -, -, r4, -⟩ := Group_cells hj
             injection e2 with e3 e4 e5
             subst e3
             refine ⟨(r4.below hd5).below hd6, fun a ha hne => ?_⟩
             rw [← hgl6]
             exact rd_block r4 hne a ha
           obtain ⟨i0, hi, hz0, hz1, hz2⟩ := info24_parts infoMsg24
           refine (wpIn_wide (n := 8)).1 ?_
           have hPx := hP6
           have HL6 : LightP (id, (ge, gm), v, se, true, o, n, qx) := ⟨HL.out.g, HL.out.d, HL.out.q, HL.out.n⟩
           have Hsz := hide hsz6
           clear iD5
           refine range_ownV 8 (by omega) (lb := #[.pointer (some ⟨g4 + 1, 0, none⟩)]) (by simp [Act.eval]) (enters_of Try.func81 (by kernel_rfl) rfl) (TkV (g4 + 2) g4 (id, (ge, gm), v, se, true, o, n, qx) gm) (fun j W xs h => by obtain ⟨ms, rfl, _⟩ := h; rfl) (fun j => j < gn)
             (fun j W => TkI w (g4 + 2) g4 (g4 + 1) gg [.int .i64 id, .int .i64 ge, .slice gA gn gc, .int .i64 v, .int .i64 se, .bool true, c6, c7, c8, c9, c10, c11, c12, .int .i64 qx] (id, (ge, gm), v, se, true, o, n, qx) gA gm j W ∧ j ≤ gn) (fun j W => TkI w (g4 + 2) g4 (g4 + 1) gg [.int .i64 id, .int .i64 ge, .slice gA gn gc, .int .i64 v, .int .i64 se, .bool true, c6, c7, c8, c9, c10, c11, c12, .int .i64 qx] (id, (ge, gm), v, se, true, o, n, qx) gA gm (j + 1) W ∧ j < gn) (fun _ _ => False) ?i0 ?ip ?mp (fun _ _ _ _ h => h) ?it ?round ?done (fun _ _ h => h.elim)
           case i0 =>
             intro r
             have hb2 : Below w6.heap.size w6 ((w6.alloc (.deferred (some []))).alloc (.loop r)) := ((Below.refl _ _).alloc (Nat.le_refl _) _).alloc (by simp) _
             exact ⟨⟨⟨_, [], hX6.below hb2, World.ownsRow_nil _ _ _ _, by rw [List.take_zero]; exact Ty.Rows.nil⟩, hB6.below hb2, hP6.below hb2, hZ6.below hb2, hI4.below hb2, ⟨hR6.1.below hb2, hR6.2⟩, b6.trans (hb2.mono b6.size), by simp; omega⟩, by omega⟩
           case ip => intro j W r hW h; rw [hsz6]; exact ⟨h.1.put (by omega) (by omega) (by omega) (by omega) r, h.2⟩
           case mp => intro j W r hW h; rw [hsz6]; exact ⟨h.1.put (by omega) (by omega) (by omega) (by omega) r, h.2⟩
           case it =>
             refine toAll_iter (8 - 1) (by omega) _ (g4 + 1) id ge v se gm true o n qx gA gn gc c6 c7 c8 c9 c10 c11 c12 Hgl.out hgn hid HL6 _ _ _ ?_ Hg5.out ?_ ?_ ?_
             · exact fun j W h => ⟨h.1.2.1, ⟨_, h.1.2.2.2.2.1⟩, h.1.2.2.2.2.2.1.1⟩
             · exact fun j W W' h hd => ⟨h.1.below hd, h.2⟩
             · exact fun j W W' ms h hd hm => TkV.of h.1 hd hm
             · exact fun j W h => ⟨h.1, by omega⟩
           case round =>
             intro j W xs hU hj hv hlW
             obtain ⟨ms, rfl, B, hB, hBv, iM⟩ := hv
             obtain ⟨d0, d1, d2, d3, d4, d5, d6, d7, d8, d9, d10, d11, d12, d13, d14, d15, d16, d17, d18, d19, d20, d21, d22, d23, d24, d25, d26, d27, rfl⟩ := list_28 (iM.len : ms.length = 28)
             have hlt : j < gm.length := by rw [Hgl.out]; exact hj
             have hgx : gm[j]? = some (gm.getD j 0) := by rw [List.getD_eq_getElem?_getD, List.getElem?_eq_getElem hlt]; rfl
             obtain ⟨x, hxx⟩ : ∃ x, gm.getD j 0 = x := ⟨_, rfl⟩
             rw [hxx] at hgx iM
             obtain ⟨hU, _⟩ := hU
             rw [hsz6] at hlW
             obtain ⟨gM, hgM⟩ : ∃ b, W.heap.size = b := ⟨_, rfl⟩
             have hA : Blk (W.alloc (.cells #[.int .u8 0, .int .i64 0, .int .i64 0, .int .i64 0, .int .i64 0, .int .i64 0, .int .i64 0, .int .i64 0, .int .u64 0, .int .i64 0, .int .i64 0, .int .u8 0, .int .i64 0, .int .i64 0, .slice none 0 0, .slice none 0 0, .int .u8 0, .slice none 0 0, .int .i64 0, .slice none 0 0, .int .i64 0, .int .i64 0, .int .i64 0, .slice none 0 0, .slice none 0 0, .int .i64 0, .slice none 0 0, .slice none 0 0] 58)) gM [.int .u8 0, .int .i64 0, .int .i64 0, .int .i64 0, .int .i64 0, .int .i64 0, .int .i64 0, .int .i64 0, .int .u64 0, .int .i64 0, .int .i64 0, .int .u8 0, .int .i64 0, .int .i64 0, .slice none 0 0, .slice none 0 0, .int .u8 0, .slice none 0 0, .int .i64 0, .slice none 0 0, .int .i64 0, .int .i64 0, .int .i64 0, .slice none 0 0, .slice none 0 0, .int .i64 0, .slice none 0 0, .slice none 0 0] 58 := by rw [← hgM]; exact Blk.new W _ _
             have hd0 : Below W.heap.size W (W.alloc (.cells #[.int .u8 0, .int .i64 0, .int .i64 0, .int .i64 0, .int .i64 0, .int .i64 0, .int .i64 0, .int .i64 0, .int .u64 0, .int .i64 0, .int .i64 0, .int .u8 0, .int .i64 0, .int .i64 0, .slice none 0 0, .slice none 0 0, .int .u8 0, .slice none 0 0, .int .i64 0, .slice none 0 0, .int .i64 0, .int .i64 0, .int .i64 0, .slice none 0 0, .slice none 0 0, .int .i64 0, .slice none 0 0, .slice none 0 0] 58)) := (Below.refl _ _).alloc (Nat.le_refl _) _
             obtain ⟨W1, hW1⟩ : ∃ x, (W.alloc (.cells #[.int .u8 0, .int .i64 0, .int .i64 0, .int .i64 0, .int .i64 0, .int .i64 0, .int .i64 0, .int .i64 0, .int .u64 0, .int .i64 0, .int .i64 0, .int .u8 0, .int .i64 0, .int .i64 0, .slice none 0 0, .slice none 0 0, .int .u8 0, .slice none 0 0, .int .i64 0, .slice none 0 0, .int .i64 0, .int .i64 0, .int .i64 0, .slice none 0 0, .slice none 0 0, .int .i64 0, .slice none 0 0, .slice none 0 0] 58)).setCells gM 0 [d0, d1, d2, d3, d4, d5, d6, d7, d8, d9, d10, d11, d12, d13, d14, d15, d16, d17, d18, d19, d20, d21, d22, d23, d24, d25, d26, d27] = x := ⟨_, rfl⟩
             have hM1 : Blk W1 gM [d0, d1, d2, d3, d4, d5, d6, d7, d8, d9, d10, d11, d12, d13, d14, d15, d16, d17, d18, d19, d20, d21, d22, d23, d24, d25, d26, d27] 58 := by rw [← hW1]; exact Blk.sets24 [d0, d1, d2, d3, d4, d5, d6, d7, d8, d9, d10, d11, d12, d13, d14, d15, d16, d17, d18, d19, d20, d21, d22, d23, d24, d25, d26, d27] 0 _ _ hA (by simp)
             have hF1 : Fr (fun b => b = gM) (W.alloc (.cells #[.int .u8 0, .int .i64 0, .int .i64 0, .int .i64 0, .int .i64 0, .int .i64 0, .int .i64 0, .int .i64 0, .int .u64 0, .int .i64 0, .int .i64 0, .int .u8 0, .int .i64 0, .int .i64 0, .slice none 0 0, .slice none 0 0, .int .u8 0, .slice none 0 0, .int .i64 0, .slice none 0 0, .int .i64 0, .int .i64 0, .int .i64 0, .slice none 0 0, .slice none 0 0, .int .i64 0, .slice none 0 0, .slice none 0 0] 58)) W1 := by rw [← hW1]; exact Fr.sets (X := fun b => b = gM) rfl _ _ _
             have hd1 : Below W.heap.size W W1 := hF1.below hd0 hd0.size (fun b hb => by have hb' : b = gM := hb; omega)
             have hO1 := iM.ones
             show Code.wpIn _ _ _ _ _ _ _
             gi_wp2_with (first | (with_reducible refine stop_storeIn 58 rfl ?_))
             refine go_storeIn rfl rfl rfl rfl hA [d0, d1, d2, d3, d4, d5, d6, d7, d8, d9, d10, d11, d12, d13, d14, d15, d16, d17, d18, d19, d20, d21, d22, d23, d24, d25, d26, d27] rfl (by simp) (by kernel_rfl) hO1 ?_
             gi_wp2
             rw [hW1]
             refine ⟨keeps24 hd1, fun r' => ?_⟩
             rw [hsz6]
             have hX := (hU.below hd1).put (by omega) (by omega) (by omega) (by omega) r'
             have hG := grownBy_putObj' W1 (g4 + 2 + 1) (.loop r')
             have FX : Fr (fun b => b = g4 + 2 + 1) W1 (W1.putObj (g4 + 2 + 1) (.loop r')) := Fr.of_grown hG (fun k e => by injection e with e; exact e.symm)
             have hMX := hM1.fr FX (by omega)
             obtain ⟨v0, hv0⟩ : ∃ v0, Blk W g4 [v0] 39 := by
               obtain ⟨⟨v, vs, h1, _⟩, _⟩ := hU
               exact ⟨v, h1⟩
             have hv0X := (hv0.below hd1).fr FX (by omega)
             have iMX := (iM.below hd1).fr FX (fun b hb hx => by have hx' : b = g4 + 2 + 1 := hx; have hb' : B ≤ b := hb; omega)
             obtain ⟨X, hXX⟩ : ∃ x, W1.putObj (g4 + 2 + 1) (.loop r') = x := ⟨_, rfl⟩
             rw [hXX] at hX hMX iMX hv0X ⊢
             clear hXX FX hG hF1 hd0 hA hW1 hM1
             obtain ⟨⟨v5, vs, x1, x2, x3⟩, x4⟩ := hX
             have hBv5 : ∀ g, v5.ownBlock = some g → g < B := by
               have h6 := hv0X.cell (j := 0) rfl
               rw [x1.cell (j := 0) rfl] at h6
               injection h6 with h6
               rw [h6]
               exact hBv v0 hv0
             have x1c := x1.cell (j := 0) rfl
             have hnb : Below X.heap.size X (X.alloc (.cells #[d0, d1, d2, d3, d4, d5, d6, d7, d8, d9, d10, d11, d12, d13, d14, d15, d16, d17, d18, d19, d20, d21, d22, d23, d24, d25, d26, d27] 58)) := (Below.refl _ _).alloc (Nat.le_refl _) _
             have hnew := rd_blk (Blk.new X [d0, d1, d2, d3, d4, d5, d6, d7, d8, d9, d10, d11, d12, d13, d14, d15, d16, d17, d18, d19, d20, d21, d22, d23, d24, d25, d26, d27] 58)
             have hO9' := own_below x2 hnb
             have y7 := x4.2.2.2.2.2.2
             gi_wp2_with (first | (with_reducible refine stop_loadIn 58 rfl ?_) | (with_reducible refine stop_appendIn rfl ?_))
             refine go_loadIn rfl rfl (k := 0) rfl hMX [d0, d1, d2, d3, d4, d5, d6, d7, d8, d9, d10, d11, d12, d13, d14, d15, d16, d17, d18, d19, d20, d21, d22, d23, d24, d25, d26, d27] rfl Try.underlying58 rfl (by kernel_rfl) ?_
             gi_wp2_with (first | (with_reducible refine stop_appendIn rfl ?_))
             show wpListIn _ _ _ _ _ _ _ _
             refine wpListIn_append_own_at _ rfl _ _ 39 rfl (g4 + 2 + 2) 58 i0 (.agg #[.int .u8 0, .int .i64 0, .int .i64 0, .int .i64 0, .int .i64 0, .int .i64 0, .int .i64 0, .int .i64 0, .int .u64 0, .int .i64 0, .int .i64 0, .int .u8 0, .int .i64 0, .int .i64 0, .slice none 0 0, .slice none 0 0, .int .u8 0, .slice none 0 0, .int .i64 0, .slice none 0 0, .int .i64 0, .int .i64 0, .int .i64 0, .slice none 0 0, .slice none 0 0, .int .i64 0, .slice none 0 0, .slice none 0 0]) 28 352 Try.underlying39 hi hz0 hz1 hz2 rfl (by decide) v5 j vs rfl hO9' ⟨X.heap.size, 0, none⟩ 1 1 [d0, d1, d2, d3, d4, d5, d6, d7, d8, d9, d10, d11, d12, d13, d14, d15, d16, d17, d18, d19, d20, d21, d22, d23, d24, d25, d26, d27] rfl rfl (fun q u hu => hnew.at_ hu) hO1 (by unfold maxLen; omega) (by omega) (by simp; omega) ?_
             intro v7 w7 hO7 hg7 _ hv7
             obtain ⟨A7, n7, rfl, _⟩ := own_out hO7
             have lo5 := own24_blk x2
             have b7 : Blk w7 g4 [v5] 39 := ((hg7.block g4 (by simp; omega) (fun e => by have := (lo5 _ e.symm).1; omega)).trans (hnb.block _ (by omega))).trans x1
             have c7 := b7.cell (j := 0) rfl
             have f7 := b7.frozen 0
             rw [World.size_alloc] at hv7
             have HU := hide (tk_store x1 x2 x3 x4 (by omega) (by omega) (by omega) (by omega) (by omega) iMX hB hBv5 hgx hO7 hg7 hv7)
             clear hO7 hg7 hv7 hnew hO9' x1c
             gi_wp2
             exact ⟨HU.out.2, HU.out.1, hj⟩
           case done =>
             intro j w7 hU hnm hDq
             obtain ⟨⟨⟨v5, vs, x1, x2, x3⟩, y1, y2, y3, y4, ⟨y5, y5'⟩, y6, y7⟩, hj4⟩ := hU
             rw [hsz6] at hDq ⊢
             have hjN : j = gn := by omega
             rw [hjN, List.take_of_length_le (by rw [Hgl.out]; exact Nat.le_refl _)] at x3
             rw [hjN] at x2
             obtain ⟨A, rc, rfl, hRow⟩ := own_row (Q := fun b => g4 + 2 ≤ b) x2 (x3.mono (fun b hb => by have := hb.1; omega)) (by rw [List.length_map, Hgl.out]) (fun b hb => by omega)
             have hP7 := y2
             have hZ7 := y3
             have hX7 := x1
             have iD7 := y4
             have b7 := y6
             go_wp2_with (first | (with_reducible refine stop_load 30 rfl ?_) | (with_reducible refine stop_store 30 rfl ?_) | (with_reducible refine stop_load 28 rfl ?_) | (with_reducible refine stop_store 28 rfl ?_) | (with_reducible refine stop_load 49 rfl ?_) | (with_reducible refine stop_store 49 rfl ?_) | (with_reducible refine stop_load 24 rfl ?_) | (with_reducible refine stop_store 24 rfl ?_) | (with_reducible refine stop_load 58 rfl ?_) | (with_reducible refine stop_store 58 rfl ?_))
             obtain ⟨wd, hwd⟩ : ∃ x, w7.drew = x := ⟨_, rfl⟩
             have hbd : Below w7.heap.size w7 wd := by rw [← hwd]; exact (Below.refl _ _).drew
             have hPd := hP7.below hbd
             have hZd := hZ7.below hbd
             have hXd := hX7.below hbd
             have iDd := iD7.below hbd
             have bd := b7.trans (hbd.mono b7.size)
             have hS0 : Blk w7.drew gg [.int .i64 id, .int .i64 ge, .slice gA gn gc, .int .i64 v, .int .i64 se, .bool true, c6, c7, c8, c9, c10, c11, c12, .int .i64 qx] 30 ∧ Blk w7.drew g4 [.slice A gn rc] 39 := by rw [hwd]; exact ⟨hPd, hXd⟩
             refine wp_noexit24 ?_
             refine wp_region_held_drew (S := fun Z => Blk Z gg [.int .i64 id, .int .i64 ge, .slice gA gn gc, .int .i64 v, .int .i64 se, .bool true, c6, c7, c8, c9, c10, c11, c12, .int .i64 qx] 30 ∧ Blk Z g4 [.slice A gn rc] 39) (by kernel_rfl) hS0 (fun hS0 => ?_)
             refine wpAnyH_take (fuel := 3) (i := 0) (v := .agg #[.int .i64 id, .int .i64 ge, .slice gA gn gc, .int .i64 v, .int .i64 se, .bool true, c6, c7, c8, c9, c10, c11, c12, .int .i64 qx]) rfl (by kernel_rfl) (by kernel_rfl) (by kernel_rfl) (fun _ _ _ h => h) (yieldsIf_load_mid rfl 30 _ rfl gg 0 rfl [.int .i64 id, .int .i64 ge, .slice gA gn gc, .int .i64 v, .int .i64 se, .bool true, c6, c7, c8, c9, c10, c11, c12, .int .i64 qx] _ (fun w hw => hw.1.range) Try.underlying30 rfl (by kernel_rfl)) hS0 ?_
             try simp only [Act.put, List.setIfInBounds_toArray, List.set_cons_zero, List.set_cons_succ, List.getElem_toArray, List.getElem_cons_zero, List.getElem_cons_succ]
             refine wpAnyH_take (fuel := 2) (i := 1) (v := .slice A gn rc) rfl (by kernel_rfl) (by kernel_rfl) (by kernel_rfl) (fun _ _ _ h => h) (Or.inl ⟨by rfl, fun Z hZ => ?_⟩) hS0 ?_
             · have zz := Blk.cell hZ.2 (j := 0) rfl; go_simp
             try simp only [Act.put, List.setIfInBounds_toArray, List.set_cons_zero, List.set_cons_succ, List.getElem_toArray, List.getElem_cons_zero, List.getElem_cons_succ]
             rw [hwd]
             have Fe := Fr.sets (X := fun b => b = gg + 1) rfl [.int .i64 id, .int .i64 ge, .slice gA gn gc, .int .i64 v, .int .i64 se, .bool true, c6, c7, c8, c9, c10, c11, c12, .int .i64 qx] 0 wd
             obtain ⟨we, hwe⟩ : ∃ x, wd.setCells (gg + 1) 0 [.int .i64 id, .int .i64 ge, .slice gA gn gc, .int .i64 v, .int .i64 se, .bool true, c6, c7, c8, c9, c10, c11, c12, .int .i64 qx] = x := ⟨_, rfl⟩
             have hZe : Blk we (gg + 1) [.int .i64 id, .int .i64 ge, .slice gA gn gc, .int .i64 v, .int .i64 se, .bool true, c6, c7, c8, c9, c10, c11, c12, .int .i64 qx] 30 := by rw [← hwe]; exact (hZd |>.set 0 (.int .i64 id) |>.set 1 (.int .i64 ge) |>.set 2 (.slice gA gn gc) |>.set 3 (.int .i64 v) |>.set 4 (.int .i64 se) |>.set 5 (.bool true) |>.set 6 (c6) |>.set 7 (c7) |>.set 8 (c8) |>.set 9 (c9) |>.set 10 (c10) |>.set 11 (c11) |>.set 12 (c12) |>.set 13 (.int .i64 qx))
             rw [hwe] at Fe
             have hPe := hPd.fr Fe (by omega)
             have hXe := hXd.fr Fe (by omega)
             have be := Fe.below bd bd.size (fun b hb => by have hb' : b = gg + 1 := hb; omega)
             refine all_one (fuel := 1) (i := 2) (by kernel_rfl) rfl rfl (fun Kk hK => ?_)
             refine wp_store_mid 30 _ _ rfl (gg + 1) 0 #[.int .i64 id, .int .i64 ge, .slice gA gn gc, .int .i64 v, .int .i64 se, .bool true, c6, c7, c8, c9, c10, c11, c12, .int .i64 qx] rfl rfl (Blk.thereAt hZd (by simp)) (by kernel_rfl) (all_oneCell_toArray iDd.ones) ?_
             rw [hwe]
             refine hK _ _ ⟨⟨hPe, hXe⟩, ?_⟩
             clear hK Kk
             refine all_one (fuel := 0) (i := 3) (by kernel_rfl) rfl rfl (fun Kk hK => ?_)
             go_simp
             refine hK _ _ ⟨⟨hPe, hXe⟩, ?_⟩
             clear hK Kk
             refine wpAnyH_done (by kernel_rfl) ?_ _
             try simp only [Act.put, List.setIfInBounds_toArray, List.set_cons_zero, List.set_cons_succ, List.getElem_toArray, List.getElem_cons_zero, List.getElem_cons_succ]
             go_wp2
             refine leaves_marks (B := w.heap.size) [g4 + 2] _ ⟨by simp, fun k hk => by simp at hk; subst hk; exact ⟨by omega, (Fe.blk _ (by have := hbd.size; omega) (by show ¬ _ = _; omega)).trans ((hbd.block _ (by omega)).trans hDq)⟩⟩ ?_
             intro W' hca hbl
             refine ⟨_, results_cell2 rfl rfl (hca _ _ rfl hZe : Blk W' (gg + 1) [.int .i64 id, .int .i64 ge, .slice gA gn gc, .int .i64 v, .int .i64 se, .bool true, c6, c7, c8, c9, c10, c11, c12, .int .i64 qx] 30) Try.underlying30 rfl (by kernel_rfl), ?_⟩
             have hkeep : ∀ (t : Ty) {R : Nat → Prop} {x : t.Den} {cs : List Value}, t.Is _ R x cs → t.Is W' R x cs := fun t _ _ _ h => Ty.Is.keep (fun _ _ hr _ => hca.rd hr) (fun _ h => h) t _ _ h
             refine ⟨[.int .i64 id, .int .i64 ge, .slice gA gn gc, .int .i64 v, .int .i64 se, .bool true, c6, c7, c8, c9, c10, c11, c12, .int .i64 qx], A, gn, rc, by first | rfl | (rw [HFq.out]; rfl), ?_, ?_, be.trans hbl⟩
             · rw [HFq.out]
               exact hkeep tyProxy ((iDd.fr Fe (fun b hb hx => by have hx' : b = gg + 1 := hx; have hb' : gg + 1 < b := hb.1; omega)).mono (fun b hb => by have hb' : gg + 1 < b := hb.1; omega))
             · rw [HFq.out, hqq, if_pos rfl]
               exact hkeep (Ty.row tyMsg) ((hRow.below hbd).fr Fe (fun b hb hx => by have hx' : b = gg + 1 := hx; have hb' : g4 + 2 ≤ b := hb; omega)).any)
      | (have hlt0 : ¬ qu < 4611686018427387904 := by omega
         have hnq : nextQ qu = (4611686018427387904 : Int) := by unfold nextQ; rw [if_neg hlt0]
         have HF := hide (show tickD (id, (ge, gm), v, se, true, o, n, qu) = ((id, (ge, gm), v, se, true, o, n, (4611686018427387904 : Int)), if ((4611686018427387904 : Int) % 4 == 0) = true then gm.map (reqD (id, (ge, gm), v, se, true, o, n, (4611686018427387904 : Int))) else []) by
           have h0 : tickD (id, (ge, gm), v, se, true, o, n, qu) = ((id, (ge, gm), v, se, true, o, n, (nextQ qu)), if (nextQ qu % 4 == 0) = true then gm.map (reqD (id, (ge, gm), v, se, true, o, n, (nextQ qu))) else []) := by
             rw [tickD, if_neg (by rw [Q2.out]; exact fun h => Bool.noConfusion h), if_neg (by decide)]
           rw [h0, hnq]; (first | done | rfl))
         clear hnq
         obtain ⟨qx, hqx⟩ : ∃ z : Int, (4611686018427387904 : Int) = z := ⟨_, rfl⟩
         have hq0 : 0 ≤ qx ∧ qx ≤ 4611686018427387904 := by omega
         have HFq := hide (HF.out.trans (by rw [hqx]; (first | done | rfl)) : tickD (id, (ge, gm), v, se, true, o, n, qu) = ((id, (ge, gm), v, se, true, o, n, qx), if (qx % 4 == 0) = true then gm.map (reqD (id, (ge, gm), v, se, true, o, n, qx)) else []))
         obtain ⟨w4, hw4⟩ : ∃ x, w3.setCell ⟨gg, 13, none⟩ (.int .i64 qx) = x := ⟨_, rfl⟩
         have hP4 : Blk w4 gg [.int .i64 id, .int .i64 ge, .slice gA gn gc, .int .i64 v, .int .i64 se, .bool true, c6, c7, c8, c9, c10, c11, c12, .int .i64 qx] 30 := by rw [← hw4]; exact hP3.set 13 _
         have hF4 : Fr (fun b => b = gg) w3 w4 := by rw [← hw4]; exact Fr.set (X := fun b => b = gg) w3 ⟨gg, 13, none⟩ _ rfl
         have hZ4 := hZ3.fr hF4 (by omega)
         have b4 := hF4.below b3 b3.size (fun b hb => by have hb' : b = gg := hb; omega)
         have s4 := hF4.size
         have hsz4 : w4.heap.size = w3.heap.size := by rw [← hw4]; simp
         have jg4 := jg3.fr hF4 (fun b hb hx => fr0 b hb hx)
         have jo4 := jo3.fr hF4 (fun b hb hx => fr0 b hb hx)
         have jn4 := jn3.fr hF4 (fun b hb hx => fr0 b hb hx)
         have HI4 := hide (Proxy_shut (bu := true) (qu := qx) p1 p2 p3 (by omega) jg4 jo4 jn4 : tyProxy.Is w4 (fun b => w0.heap.size ≤ b) (id, (ge, gm), v, se, true, o, n, qx) [.int .i64 id, .int .i64 ge, .slice gA gn gc, .int .i64 v, .int .i64 se, .bool true, c6, c7, c8, c9, c10, c11, c12, .int .i64 qx])
         rw [hqx]
         rw [hw4]
         clear hw4 f13 y13 HF hqx jg jo jn jg3 jo3 jn3 iD1 iD2 iD3
         obtain ⟨qq, hqq⟩ : ∃ b, (qx % 4 == 0) = b := ⟨_, rfl⟩
         have hqt : qx.tmod 4 = qx % 4 := Int.tmod_eq_emod_of_nonneg hq0.1
         obtain ⟨g4, hg4⟩ : ∃ b, w3.heap.size = b := ⟨_, rfl⟩
         have hz4 : w4.heap.size = g4 := by rw [← hg4]; exact hsz4
         obtain ⟨w5, hw5⟩ : ∃ x, w4.alloc (.cells #[.slice none 0 0] 39) = x := ⟨_, rfl⟩
         have hP5 : Blk w5 gg [.int .i64 id, .int .i64 ge, .slice gA gn gc, .int .i64 v, .int .i64 se, .bool true, c6, c7, c8, c9, c10, c11, c12, .int .i64 qx] 30 := by rw [← hw5]; exact hP4.alloc _
         have hZ5 : Blk w5 (gg + 1) [.int .i64 0, .int .i64 0, .slice none 0 0, .int .i64 0, .int .i64 0, .bool false, .int .u8 0, .int .i64 0, .int .i64 0, .slice none 0 0, .slice none 0 0, .int .i64 0, .slice none 0 0, .int .i64 0] 30 := by rw [← hw5]; exact hZ4.alloc _
         have hX5 : Blk w5 g4 [.slice none 0 0] 39 := by rw [← hw5, ← hz4]; exact Blk.new w4 _ _
         have hd5 : Below w4.heap.size w4 w5 := by rw [← hw5]; exact (Below.refl _ _).alloc (Nat.le_refl _) _
         have sz5 : w5.heap.size = g4 + 1 := by rw [← hw5, World.size_alloc, hz4]
         have b5 := b4.trans (hd5.mono b4.size)
         have iD5 := HI4.out.below hd5
         have jg5 := jg4.below hd5
         have y13 := hP5.cell (j := 13) rfl
         show wpList _ _ _ _ _ _
         cases qq with
         | false =>
           go_wp2_with (first | (with_reducible refine stop_load 30 rfl ?_) | (with_reducible refine stop_store 30 rfl ?_) | (with_reducible refine stop_load 28 rfl ?_) | (with_reducible refine stop_store 28 rfl ?_) | (with_reducible refine stop_load 49 rfl ?_) | (with_reducible refine stop_store 49 rfl ?_) | (with_reducible refine stop_load 24 rfl ?_) | (with_reducible refine stop_store 24 rfl ?_) | (with_reducible refine stop_load 58 rfl ?_) | (with_reducible refine stop_store 58 rfl ?_))
           obtain ⟨wd, hwd⟩ : ∃ x, w5.drew = x := ⟨_, rfl⟩
           have hbd : Below w5.heap.size w5 wd := by rw [← hwd]; exact (Below.refl _ _).drew
           have hPd := hP5.below hbd
           have hZd := hZ5.below hbd
           have hXd := hX5.below hbd
           have iDd := iD5.below hbd
           have bd := b5.trans (hbd.mono b5.size)
           have hS0 : Blk w5.drew gg [.int .i64 id, .int .i64 ge, .slice gA gn gc, .int .i64 v, .int .i64 se, .bool true, c6, c7, c8, c9, c10, c11, c12, .int .i64 qx] 30 ∧ Blk w5.drew g4 [.slice none 0 0] 39 := by rw [hwd]; exact ⟨hPd, hXd⟩
           refine wp_noexit24 ?_
           refine wp_region_held_drew (S := fun Z => Blk Z gg [.int .i64 id, .int .i64 ge, .slice gA gn gc, .int .i64 v, .int .i64 se, .bool true, c6, c7, c8, c9, c10, c11, c12, .int .i64 qx] 30 ∧ Blk Z g4 [.slice none 0 0] 39) (by kernel_rfl) hS0 (fun hS0 => ?_)
           refine wpAnyH_take (fuel := 3) (i := 0) (v := .agg #[.int .i64 id, .int .i64 ge, .slice gA gn gc, .int .i64 v, .int .i64 se, .bool true, c6, c7, c8, c9, c10, c11, c12, .int .i64 qx]) rfl (by kernel_rfl) (by kernel_rfl) (by kernel_rfl) (fun _ _ _ h => h) (yieldsIf_load_mid rfl 30 _ rfl gg 0 rfl [.int .i64 id, .int .i64 ge, .slice gA gn gc, .int .i64 v, .int .i64 se, .bool true, c6, c7, c8, c9, c10, c11, c12, .int .i64 qx] _ (fun w hw => hw.1.range) Try.underlying30 rfl (by kernel_rfl)) hS0 ?_
           try simp only [Act.put, List.setIfInBounds_toArray, List.set_cons_zero, List.set_cons_succ, List.getElem_toArray, List.getElem_cons_zero, List.getElem_cons_succ]
           refine wpAnyH_take (fuel := 2) (i := 1) (v := .slice none 0 0) rfl (by kernel_rfl) (by kernel_rfl) (by kernel_rfl) (fun _ _ _ h => h) (Or.inl ⟨by rfl, fun Z hZ => ?_⟩) hS0 ?_
           · have zz := Blk.cell hZ.2 (j := 0) rfl; go_simp
           try simp only [Act.put, List.setIfInBounds_toArray, List.set_cons_zero, List.set_cons_succ, List.getElem_toArray, List.getElem_cons_zero, List.getElem_cons_succ]
           rw [hwd]
           have Fe := Fr.sets (X := fun b => b = gg + 1) rfl [.int .i64 id, .int .i64 ge, .slice gA gn gc, .int .i64 v, .int .i64 se, .bool true, c6, c7, c8, c9, c10, c11, c12, .int .i64 qx] 0 wd
           obtain ⟨we, hwe⟩ : ∃ x, wd.setCells (gg + 1) 0 [.int .i64 id, .int .i64 ge, .slice gA gn gc, .int .i64 v, .int .i64 se, .bool true, c6, c7, c8, c9, c10, c11, c12, .int .i64 qx] = x := ⟨_, rfl⟩
           have hZe : Blk we (gg + 1) [.int .i64 id, .int .i64 ge, .slice gA gn gc, .int .i64 v, .int .i64 se, .bool true, c6, c7, c8, c9, c10, c11, c12, .int .i64 qx] 30 := by rw [← hwe]; exact (hZd |>.set 0 (.int .i64 id) |>.set 1 (.int .i64 ge) |>.set 2 (.slice gA gn gc) |>.set 3 (.int .i64 v) |>.set 4 (.int .i64 se) |>.set 5 (.bool true) |>.set 6 (c6) |>.set 7 (c7) |>.set 8 (c8) |>.set 9 (c9) |>.set 10 (c10) |>.set 11 (c11) |>.set 12 (c12) |>.set 13 (.int .i64 qx))
           rw [hwe] at Fe
           have hPe := hPd.fr Fe (by omega)
           have hXe := hXd.fr Fe (by omega)
           have be := Fe.below bd bd.size (fun b hb => by have hb' : b = gg + 1 := hb; omega)
           refine all_one (fuel := 1) (i := 2) (by kernel_rfl) rfl rfl (fun Kk hK => ?_)
           refine wp_store_mid 30 _ _ rfl (gg + 1) 0 #[.int .i64 id, .int .i64 ge, .slice gA gn gc, .int .i64 v, .int .i64 se, .bool true, c6, c7, c8, c9, c10, c11, c12, .int .i64 qx] rfl rfl (Blk.thereAt hZd (by simp)) (by kernel_rfl) (all_oneCell_toArray iDd.ones) ?_
           rw [hwe]
           refine hK _ _ ⟨⟨hPe, hXe⟩, ?_⟩
           clear hK Kk
           refine all_one (fuel := 0) (i := 3) (by kernel_rfl) rfl rfl (fun Kk hK => ?_)
           go_simp
           refine hK _ _ ⟨⟨hPe, hXe⟩, ?_⟩
           clear hK Kk
           refine wpAnyH_done (by kernel_rfl) ?_ _
           try simp only [Act.put, List.setIfInBounds_toArray, List.set_cons_zero, List.set_cons_succ, List.getElem_toArray, List.getElem_cons_zero, List.getElem_cons_succ]
           go_wp2
           refine leaves_marks (B := w.heap.size) [] _ (MarksAt.nil _ _) ?_
           intro W' hca hbl
           refine ⟨_, results_cell2 rfl rfl (hca _ _ rfl hZe : Blk W' (gg + 1) [.int .i64 id, .int .i64 ge, .slice gA gn gc, .int .i64 v, .int .i64 se, .bool true, c6, c7, c8, c9, c10, c11, c12, .int .i64 qx] 30) Try.underlying30 rfl (by kernel_rfl), ?_⟩
           have hkeep : ∀ (t : Ty) {R : Nat → Prop} {x : t.Den} {cs : List Value}, t.Is _ R x cs → t.Is W' R x cs := fun t _ _ _ h => Ty.Is.keep (fun _ _ hr _ => hca.rd hr) (fun _ h => h) t _ _ h
           refine ⟨[.int .i64 id, .int .i64 ge, .slice gA gn gc, .int .i64 v, .int .i64 se, .bool true, c6, c7, c8, c9, c10, c11, c12, .int .i64 qx], none, 0, 0, by first | rfl | (rw [HFq.out]; rfl), ?_, by rw [HFq.out, hqq, if_neg (by decide)]; exact zeroL_is, be.trans hbl⟩
           rw [HFq.out]
           exact hkeep tyProxy ((iDd.fr Fe (fun b hb hx => by have hx' : b = gg + 1 := hx; have hb' : w0.heap.size ≤ b := hb; omega)).mono (fun b hb => Nat.le_trans s0 hb))
         | true =>
           go_wp2_with (first | (with_reducible refine stop_load 30 rfl ?_) | (with_reducible refine stop_store 30 rfl ?_) | (with_reducible refine stop_load 28 rfl ?_) | (with_reducible refine stop_store 28 rfl ?_) | (with_reducible refine stop_load 49 rfl ?_) | (with_reducible refine stop_store 49 rfl ?_) | (with_reducible refine stop_load 24 rfl ?_) | (with_reducible refine stop_store 24 rfl ?_) | (with_reducible refine stop_load 58 rfl ?_) | (with_reducible refine stop_store 58 rfl ?_))
           refine go_loadG rfl rfl (k := 0) rfl hP5 [.int .i64 id, .int .i64 ge, .slice gA gn gc, .int .i64 v, .int .i64 se, .bool true, c6, c7, c8, c9, c10, c11, c12, .int .i64 qx] rfl Try.underlying30 rfl (by kernel_rfl) ?_
           go_wp2_with (first | (with_reducible refine stop_load 30 rfl ?_) | (with_reducible refine stop_store 30 rfl ?_) | (with_reducible refine stop_load 28 rfl ?_) | (with_reducible refine stop_store 28 rfl ?_) | (with_reducible refine stop_load 49 rfl ?_) | (with_reducible refine stop_store 49 rfl ?_) | (with_reducible refine stop_load 24 rfl ?_) | (with_reducible refine stop_store 24 rfl ?_) | (with_reducible refine stop_load 58 rfl ?_) | (with_reducible refine stop_store 58 rfl ?_))
           go_fit (toAll_any _ _ _ _ _ _ _ _ _ _ _ _ _ _ w5)
           rintro xx ww ⟨rfl, rfl⟩
           obtain ⟨bp, hbp⟩ : ∃ b, w5.heap.size = b := ⟨_, rfl⟩
           obtain ⟨w6, hw6⟩ : ∃ x, w5.alloc (.cells #[.int .i64 id, .int .i64 ge, .slice gA gn gc, .int .i64 v, .int .i64 se, .bool true, c6, c7, c8, c9, c10, c11, c12, .int .i64 qx] 30) = x := ⟨_, rfl⟩
           have hd6 : Below w5.heap.size w5 w6 := by rw [← hw6]; exact (Below.refl _ _).alloc (Nat.le_refl _) _
           have hB6 : Blk w6 bp [.int .i64 id, .int .i64 ge, .slice gA gn gc, .int .i64 v, .int .i64 se, .bool true, c6, c7, c8, c9, c10, c11, c12, .int .i64 qx] 30 := by rw [← hw6, ← hbp]; exact Blk.new w5 _ _
           have hsz6 : w6.heap.size = g4 + 2 := by rw [← hw6, World.size_alloc, sz5]
           have hbp4 : bp = g4 + 1 := by rw [← hbp]; exact sz5
           have b6 := b5.trans (hd6.mono b5.size)
           have hP6 := hP5.below hd6
           have hZ6 := hZ5.below hd6
           have hX6 := hX5.below hd6
           have HI6 := hide ((HI4.out.here.below hd5).below hd6)
           have HG6 := hide ((jg4.low.below hd5).below hd6)
           rw [hw6]
           try rw [hbp]
           subst hbp4
           go_wp2_with (first | (with_reducible refine stop_load 30 rfl ?_) | (with_reducible refine stop_store 30 rfl ?_) | (with_reducible refine stop_load 28 rfl ?_) | (with_reducible refine stop_store 28 rfl ?_) | (with_reducible refine stop_load 49 rfl ?_) | (with_reducible refine stop_store 49 rfl ?_) | (with_reducible refine stop_load 24 rfl ?_) | (with_reducible refine stop_store 24 rfl ?_) | (with_reducible refine stop_load 58 rfl ?_) | (with_reducible refine stop_store 58 rfl ?_))
           have hgl6 : w4.heap.size = g4 := hz4
           have hI4 : tyProxy.Is w6 (fun b => gg + 1 < b ∧ b < g4) (id, (ge, gm), v, se, true, o, n, qx) [.int .i64 id, .int .i64 ge, .slice gA gn gc, .int .i64 v, .int .i64 se, .bool true, c6, c7, c8, c9, c10, c11, c12, .int .i64 qx] := HI6.out.mono (fun b hb => ⟨by have := hb.1; omega, by have := hb.2; omega⟩)
           have hR6 : Rd w6 gA (ints gm) ∧ ∀ a, gA = some a → ints gm ≠ [] → a.block < g4 := by
             have hj := jg4
             obtain ⟨A', n', c', e1, e2, -, -, -, -, r4, -⟩ := Group_cells hj
             injection e2 with e3 e4 e5
             subst e3
             refine ⟨(r4.below hd5).below hd6, fun a ha hne => ?_⟩
             rw [← hgl6]
             exact rd_block r4 hne a ha
           obtain ⟨i0, hi, hz0, hz1, hz2⟩ := info24_parts infoMsg24
           refine (wpIn_wide (n := 8)).1 ?_
           have hPx := hP6
           have HL6 : LightP (id, (ge, gm), v, se, true, o, n, qx) := ⟨HL.out.g, HL.out.d, HL.out.q, HL.out.n⟩
           have Hsz := hide hsz6
           clear iD5
           refine range_ownV 8 (by omega) (lb := #[.pointer (some ⟨g4 + 1, 0, none⟩)]) (by simp [Act.eval]) (enters_of Try.func81 (by kernel_rfl) rfl) (TkV (g4 + 2) g4 (id, (ge, gm), v, se, true, o, n, qx) gm) (fun j W xs h => by obtain ⟨ms, rfl, _⟩ := h; rfl) (fun j => j < gn)
             (fun j W => TkI w (g4 + 2) g4 (g4 + 1) gg [.int .i64 id, .int .i64 ge, .slice gA gn gc, .int .i64 v, .int .i64 se, .bool true, c6, c7, c8, c9, c10, c11, c12, .int .i64 qx] (id, (ge, gm), v, se, true, o, n, qx) gA gm j W ∧ j ≤ gn) (fun j W => TkI w (g4 + 2) g4 (g4 + 1) gg [.int .i64 id, .int .i64 ge, .slice gA gn gc, .int .i64 v, .int .i64 se, .bool true, c6, c7, c8, c9, c10, c11, c12, .int .i64 qx] (id, (ge, gm), v, se, true, o, n, qx) gA gm (j + 1) W ∧ j < gn) (fun _ _ => False) ?i0 ?ip ?mp (fun _ _ _ _ h => h) ?it ?round ?done (fun _ _ h => h.elim)
           case i0 =>
             intro r
             have hb2 : Below w6.heap.size w6 ((w6.alloc (.deferred (some []))).alloc (.loop r)) := ((Below.refl _ _).alloc (Nat.le_refl _) _).alloc (by simp) _
             exact ⟨⟨⟨_, [], hX6.below hb2, World.ownsRow_nil _ _ _ _, by rw [List.take_zero]; exact Ty.Rows.nil⟩, hB6.below hb2, hP6.below hb2, hZ6.below hb2, hI4.below hb2, ⟨hR6.1.below hb2, hR6.2⟩, b6.trans (hb2.mono b6.size), by simp; omega⟩, by omega⟩
           case ip => intro j W r hW h; rw [hsz6]; exact ⟨h.1.put (by omega) (by omega) (by omega) (by omega) r, h.2⟩
           case mp => intro j W r hW h; rw [hsz6]; exact ⟨h.1.put (by omega) (by omega) (by omega) (by omega) r, h.2⟩
           case it =>
             refine toAll_iter (8 - 1) (by omega) _ (g4 + 1) id ge v se gm true o n qx gA gn gc c6 c7 c8 c9 c10 c11 c12 Hgl.out hgn hid HL6 _ _ _ ?_ Hg5.out ?_ ?_ ?_
             · exact fun j W h => ⟨h.1.2.1, ⟨_, h.1.2.2.2.2.1⟩, h.1.2.2.2.2.2.1.1⟩
             · exact fun j W W' h hd => ⟨h.1.below hd, h.2⟩
             · exact fun j W W' ms h hd hm => TkV.of h.1 hd hm
             · exact fun j W h => ⟨h.1, by omega⟩
           case round =>
             intro j W xs hU hj hv hlW
             obtain ⟨ms, rfl, B, hB, hBv, iM⟩ := hv
             obtain ⟨d0, d1, d2, d3, d4, d5, d6, d7, d8, d9, d10, d11, d12, d13, d14, d15, d16, d17, d18, d19, d20, d21, d22, d23, d24, d25, d26, d27, rfl⟩ := list_28 (iM.len : ms.length = 28)
             have hlt : j < gm.length := by rw [Hgl.out]; exact hj
             have hgx : gm[j]? = some (gm.getD j 0) := by rw [List.getD_eq_getElem?_getD, List.getElem?_eq_getElem hlt]; rfl
             obtain ⟨x, hxx⟩ : ∃ x, gm.getD j 0 = x := ⟨_, rfl⟩
             rw [hxx] at hgx iM
             obtain ⟨hU, _⟩ := hU
             rw [hsz6] at hlW
             obtain ⟨gM, hgM⟩ : ∃ b, W.heap.size = b := ⟨_, rfl⟩
             have hA : Blk (W.alloc (.cells #[.int .u8 0, .int .i64 0, .int .i64 0, .int .i64 0, .int .i64 0, .int .i64 0, .int .i64 0, .int .i64 0, .int .u64 0, .int .i64 0, .int .i64 0, .int .u8 0, .int .i64 0, .int .i64 0, .slice none 0 0, .slice none 0 0, .int .u8 0, .slice none 0 0, .int .i64 0, .slice none 0 0, .int .i64 0, .int .i64 0, .int .i64 0, .slice none 0 0, .slice none 0 0, .int .i64 0, .slice none 0 0, .slice none 0 0] 58)) gM [.int .u8 0, .int .i64 0, .int .i64 0, .int .i64 0, .int .i64 0, .int .i64 0, .int .i64 0, .int .i64 0, .int .u64 0, .int .i64 0, .int .i64 0, .int .u8 0, .int .i64 0, .int .i64 0, .slice none 0 0, .slice none 0 0, .int .u8 0, .slice none 0 0, .int .i64 0, .slice none 0 0, .int .i64 0, .int .i64 0, .int .i64 0, .slice none 0 0, .slice none 0 0, .int .i64 0, .slice none 0 0, .slice none 0 0] 58 := by rw [← hgM]; exact Blk.new W _ _
             have hd0 : Below W.heap.size W (W.alloc (.cells #[.int .u8 0, .int .i64 0, .int .i64 0, .int .i64 0, .int .i64 0, .int .i64 0, .int .i64 0, .int .i64 0, .int .u64 0, .int .i64 0, .int .i64 0, .int .u8 0, .int .i64 0, .int .i64 0, .slice none 0 0, .slice none 0 0, .int .u8 0, .slice none 0 0, .int .i64 0, .slice none 0 0, .int .i64 0, .int .i64 0, .int .i64 0, .slice none 0 0, .slice none 0 0, .int .i64 0, .slice none 0 0, .slice none 0 0] 58)) := (Below.refl _ _).alloc (Nat.le_refl _) _
             obtain ⟨W1, hW1⟩ : ∃ x, (W.alloc (.cells #[.int .u8 0, .int .i64 0, .int .i64 0, .int .i64 0, .int .i64 0, .int .i64 0, .int .i64 0, .int .i64 0, .int .u64 0, .int .i64 0, .int .i64 0, .int .u8 0, .int .i64 0, .int .i64 0, .slice none 0 0, .slice none 0 0, .int .u8 0, .slice none 0 0, .int .i64 0, .slice none 0 0, .int .i64 0, .int .i64 0, .int .i64 0, .slice none 0 0, .slice none 0 0, .int .i64 0, .slice none 0 0, .slice none 0 0] 58)).setCells gM 0 [d0, d1, d2, d3, d4, d5, d6, d7, d8, d9, d10, d11, d12, d13, d14, d15, d16, d17, d18, d19, d20, d21, d22, d23, d24, d25, d26, d27] = x := ⟨_, rfl⟩
             have hM1 : Blk W1 gM [d0, d1, d2, d3, d4, d5, d6, d7, d8, d9, d10, d11, d12, d13, d14, d15, d16, d17, d18, d19, d20, d21, d22, d23, d24, d25, d26, d27] 58 := by rw [← hW1]; exact Blk.sets24 [d0, d1, d2, d3, d4, d5, d6, d7, d8, d9, d10, d11, d12, d13, d14, d15, d16, d17, d18, d19, d20, d21, d22, d23, d24, d25, d26, d27] 0 _ _ hA (by simp)
             have hF1 : Fr (fun b => b = gM) (W.alloc (.cells #[.int .u8 0, .int .i64 0, .int .i64 0, .int .i64 0, .int .i64 0, .int .i64 0, .int .i64 0, .int .i64 0, .int .u64 0, .int .i64 0, .int .i64 0, .int .u8 0, .int .i64 0, .int .i64 0, .slice none 0 0, .slice none 0 0, .int .u8 0, .slice none 0 0, .int .i64 0, .slice none 0 0, .int .i64 0, .int .i64 0, .int .i64 0, .slice none 0 0, .slice none 0 0, .int .i64 0, .slice none 0 0, .slice none 0 0] 58)) W1 := by rw [← hW1]; exact Fr.sets (X := fun b => b = gM) rfl _ _ _
             have hd1 : Below W.heap.size W W1 := hF1.below hd0 hd0.size (fun b hb => by have hb' : b = gM := hb; omega)
             have hO1 := iM.ones
             show Code.wpIn _ _ _ _ _ _ _
             gi_wp2_with (first | (with_reducible refine stop_storeIn 58 rfl ?_))
             refine go_storeIn rfl rfl rfl rfl hA [d0, d1, d2, d3, d4, d5, d6, d7, d8, d9, d10, d11, d12, d13, d14, d15, d16, d17, d18, d19, d20, d21, d22, d23, d24, d25, d26, d27] rfl (by simp) (by kernel_rfl) hO1 ?_
             gi_wp2
             rw [hW1]
             refine ⟨keeps24 hd1, fun r' => ?_⟩
             rw [hsz6]
             have hX := (hU.below hd1).put (by omega) (by omega) (by omega) (by omega) r'
             have hG := grownBy_putObj' W1 (g4 + 2 + 1) (.loop r')
             have FX : Fr (fun b => b = g4 + 2 + 1) W1 (W1.putObj (g4 + 2 + 1) (.loop r')) := Fr.of_grown hG (fun k e => by injection e with e; exact e.symm)
             have hMX := hM1.fr FX (by omega)
             obtain ⟨v0, hv0⟩ : ∃ v0, Blk W g4 [v0] 39 := by
               obtain ⟨⟨v, vs, h1, _⟩, _⟩ := hU
               exact ⟨v, h1⟩
             have hv0X := (hv0.below hd1).fr FX (by omega)
             have iMX := (iM.below hd1).fr FX (fun b hb hx => by have hx' : b = g4 + 2 + 1 := hx; have hb' : B ≤ b := hb; omega)
             obtain ⟨X, hXX⟩ : ∃ x, W1.putObj (g4 + 2 + 1) (.loop r') = x := ⟨_, rfl⟩
             rw [hXX] at hX hMX iMX hv0X ⊢
             clear hXX FX hG hF1 hd0 hA hW1 hM1
             obtain ⟨⟨v5, vs, x1, x2, x3⟩, x4⟩ := hX
             have hBv5 : ∀ g, v5.ownBlock = some g → g < B := by
               have h6 := hv0X.cell (j := 0) rfl
               rw [x1.cell (j := 0) rfl] at h6
               injection h6 with h6
               rw [h6]
               exact hBv v0 hv0
             have x1c := x1.cell (j := 0) rfl
             have hnb : Below X.heap.size X (X.alloc (.cells #[d0, d1, d2, d3, d4, d5, d6, d7, d8, d9, d10, d11, d12, d13, d14, d15, d16, d17, d18, d19, d20, d21, d22, d23, d24, d25, d26, d27] 58)) := (Below.refl _ _).alloc (Nat.le_refl _) _
             have hnew := rd_blk (Blk.new X [d0, d1, d2, d3, d4, d5, d6, d7, d8, d9, d10, d11, d12, d13, d14, d15, d16, d17, d18, d19, d20, d21, d22, d23, d24, d25, d26, d27] 58)
             have hO9' := own_below x2 hnb
             have y7 := x4.2.2.2.2.2.2
             gi_wp2_with (first | (with_reducible refine stop_loadIn 58 rfl ?_) | (with_reducible refine stop_appendIn rfl ?_))
             refine go_loadIn rfl rfl (k := 0) rfl hMX [d0, d1, d2, d3, d4, d5, d6, d7, d8, d9, d10, d11, d12, d13, d14, d15, d16, d17, d18, d19, d20, d21, d22, d23, d24, d25, d26, d27] rfl Try.underlying58 rfl (by kernel_rfl) ?_
             gi_wp2_with (first | (with_reducible refine stop_appendIn rfl ?_))
             show wpListIn _ _ _ _ _ _ _ _
             refine wpListIn_append_own_at _ rfl _ _ 39 rfl (g4 + 2 + 2) 58 i0 (.agg #[.int .u8 0, .int .i64 0, .int .i64 0, .int .i64 0, .int .i64 0, .int .i64 0, .int .i64 0, .int .i64 0, .int .u64 0, .int .i64 0, .int .i64 0, .int .u8 0, .int .i64 0, .int .i64 0, .slice none 0 0, .slice none 0 0, .int .u8 0, .slice none 0 0, .int .i64 0, .slice none 0 0, .int .i64 0, .int .i64 0, .int .i64 0, .slice none 0 0, .slice none 0 0, .int .i64 0, .slice none 0 0, .slice none 0 0]) 28 352 Try.underlying39 hi hz0 hz1 hz2 rfl (by decide) v5 j vs rfl hO9' ⟨X.heap.size, 0, none⟩ 1 1 [d0, d1, d2, d3, d4, d5, d6, d7, d8, d9, d10, d11, d12, d13, d14, d15, d16, d17, d18, d19, d20, d21, d22, d23, d24, d25, d26, d27] rfl rfl (fun q u hu => hnew.at_ hu) hO1 (by unfold maxLen; omega) (by omega) (by simp; omega) ?_
             intro v7 w7 hO7 hg7 _ hv7
             obtain ⟨A7, n7, rfl, _⟩ := own_out hO7
             have lo5 := own24_blk x2
             have b7 : Blk w7 g4 [v5] 39 := ((hg7.block g4 (by simp; omega) (fun e => by have := (lo5 _ e.symm).1; omega)).trans (hnb.block _ (by omega))).trans x1
             have c7 := b7.cell (j := 0) rfl
             have f7 := b7.frozen 0
             rw [World.size_alloc] at hv7
             have HU := hide (tk_store x1 x2 x3 x4 (by omega) (by omega) (by omega) (by omega) (by omega) iMX hB hBv5 hgx hO7 hg7 hv7)
             clear hO7 hg7 hv7 hnew hO9' x1c
             gi_wp2
             exact ⟨HU.out.2, HU.out.1, hj⟩
           case done =>
             intro j w7 hU hnm hDq
             obtain ⟨⟨⟨v5, vs, x1, x2, x3⟩, y1, y2, y3, y4, ⟨y5, y5'⟩, y6, y7⟩, hj4⟩ := hU
             rw [hsz6] at hDq ⊢
             have hjN : j = gn := by omega
             rw [hjN, List.take_of_length_le (by rw [Hgl.out]; exact Nat.le_refl _)] at x3
             rw [hjN] at x2
             obtain ⟨A, rc, rfl, hRow⟩ := own_row (Q := fun b => g4 + 2 ≤ b) x2 (x3.mono (fun b hb => by have := hb.1; omega)) (by rw [List.length_map, Hgl.out]) (fun b hb => by omega)
             have hP7 := y2
             have hZ7 := y3
             have hX7 := x1
             have iD7 := y4
             have b7 := y6
             go_wp2_with (first | (with_reducible refine stop_load 30 rfl ?_) | (with_reducible refine stop_store 30 rfl ?_) | (with_reducible refine stop_load 28 rfl ?_) | (with_reducible refine stop_store 28 rfl ?_) | (with_reducible refine stop_load 49 rfl ?_) | (with_reducible refine stop_store 49 rfl ?_) | (with_reducible refine stop_load 24 rfl ?_) | (with_reducible refine stop_store 24 rfl ?_) | (with_reducible refine stop_load 58 rfl ?_) | (with_reducible refine stop_store 58 rfl ?_))
             obtain ⟨wd, hwd⟩ : ∃ x, w7.drew = x := ⟨_, rfl⟩
             have hbd : Below w7.heap.size w7 wd := by rw [← hwd]; exact (Below.refl _ _).drew
             have hPd := hP7.below hbd
             have hZd := hZ7.below hbd
             have hXd := hX7.below hbd
             have iDd := iD7.below hbd
             have bd := b7.trans (hbd.mono b7.size)
             have hS0 : Blk w7.drew gg [.int .i64 id, .int .i64 ge, .slice gA gn gc, .int .i64 v, .int .i64 se, .bool true, c6, c7, c8, c9, c10, c11, c12, .int .i64 qx] 30 ∧ Blk w7.drew g4 [.slice A gn rc] 39 := by rw [hwd]; exact ⟨hPd, hXd⟩
             refine wp_noexit24 ?_
             refine wp_region_held_drew (S := fun Z => Blk Z gg [.int .i64 id, .int .i64 ge, .slice gA gn gc, .int .i64 v, .int .i64 se, .bool true, c6, c7, c8, c9, c10, c11, c12, .int .i64 qx] 30 ∧ Blk Z g4 [.slice A gn rc] 39) (by kernel_rfl) hS0 (fun hS0 => ?_)
             refine wpAnyH_take (fuel := 3) (i := 0) (v := .agg #[.int .i64 id, .int .i64 ge, .slice gA gn gc, .int .i64 v, .int .i64 se, .bool true, c6, c7, c8, c9, c10, c11, c12, .int .i64 qx]) rfl (by kernel_rfl) (by kernel_rfl) (by kernel_rfl) (fun _ _ _ h => h) (yieldsIf_load_mid rfl 30 _ rfl gg 0 rfl [.int .i64 id, .int .i64 ge, .slice gA gn gc, .int .i64 v, .int .i64 se, .bool true, c6, c7, c8, c9, c10, c11, c12, .int .i64 qx] _ (fun w hw => hw.1.range) Try.underlying30 rfl (by kernel_rfl)) hS0 ?_
             try simp only [Act.put, List.setIfInBounds_toArray, List.set_cons_zero, List.set_cons_succ, List.getElem_toArray, List.getElem_cons_zero, List.getElem_cons_succ]
             refine wpAnyH_take (fuel := 2) (i := 1) (v := .slice A gn rc) rfl (by kernel_rfl) (by kernel_rfl) (by kernel_rfl) (fun _ _ _ h => h) (Or.inl ⟨by rfl, fun Z hZ => ?_⟩) hS0 ?_
             · have zz := Blk.cell hZ.2 (j := 0) rfl; go_simp
             try simp only [Act.put, List.setIfInBounds_toArray, List.set_cons_zero, List.set_cons_succ, List.getElem_toArray, List.getElem_cons_zero, List.getElem_cons_succ]
             rw [hwd]
             have Fe := Fr.sets (X := fun b => b = gg + 1) rfl [.int .i64 id, .int .i64 ge, .slice gA gn gc, .int .i64 v, .int .i64 se, .bool true, c6, c7, c8, c9, c10, c11, c12, .int .i64 qx] 0 wd
             obtain ⟨we, hwe⟩ : ∃ x, wd.setCells (gg + 1) 0 [.int .i64 id, .int .i64 ge, .slice gA gn gc, .int .i64 v, .int .i64 se, .bool true, c6, c7, c8, c9, c10, c11, c12, .int .i64 qx] = x := ⟨_, rfl⟩
             have hZe : Blk we (gg + 1) [.int .i64 id, .int .i64 ge, .slice gA gn gc, .int .i64 v, .int .i64 se, .bool true, c6, c7, c8, c9, c10, c11, c12, .int .i64 qx] 30 := by rw [← hwe]; exact (hZd |>.set 0 (.int .i64 id) |>.set 1 (.int .i64 ge) |>.set 2 (.slice gA gn gc) |>.set 3 (.int .i64 v) |>.set 4 (.int .i64 se) |>.set 5 (.bool true) |>.set 6 (c6) |>.set 7 (c7) |>.set 8 (c8) |>.set 9 (c9) |>.set 10 (c10) |>.set 11 (c11) |>.set 12 (c12) |>.set 13 (.int .i64 qx))
             rw [hwe] at Fe
             have hPe := hPd.fr Fe (by omega)
             have hXe := hXd.fr Fe (by omega)
             have be := Fe.below bd bd.size (fun b hb => by have hb' : b = gg + 1 := hb; omega)
             refine all_one (fuel := 1) (i := 2) (by kernel_rfl) rfl rfl (fun Kk hK => ?_)
             refine wp_store_mid 30 _ _ rfl (gg + 1) 0 #[.int .i64 id, .int .i64 ge, .slice gA gn gc, .int .i64 v, .int .i64 se, .bool true, c6, c7, c8, c9, c10, c11, c12, .int .i64 qx] rfl rfl (Blk.thereAt hZd (by simp)) (by kernel_rfl) (all_oneCell_toArray iDd.ones) ?_
             rw [hwe]
             refine hK _ _ ⟨⟨hPe, hXe⟩, ?_⟩
             clear hK Kk
             refine all_one (fuel := 0) (i := 3) (by kernel_rfl) rfl rfl (fun Kk hK => ?_)
             go_simp
             refine hK _ _ ⟨⟨hPe, hXe⟩, ?_⟩
             clear hK Kk
             refine wpAnyH_done (by kernel_rfl) ?_ _
             try simp only [Act.put, List.setIfInBounds_toArray, List.set_cons_zero, List.set_cons_succ, List.getElem_toArray, List.getElem_cons_zero, List.getElem_cons_succ]
             go_wp2
             refine leaves_marks (B := w.heap.size) [g4 + 2] _ ⟨by simp, fun k hk => by simp at hk; subst hk; exact ⟨by omega, (Fe.blk _ (by have := hbd.size; omega) (by show ¬ _ = _; omega)).trans ((hbd.block _ (by omega)).trans hDq)⟩⟩ ?_
             intro W' hca hbl
             refine ⟨_, results_cell2 rfl rfl (hca _ _ rfl hZe : Blk W' (gg + 1) [.int .i64 id, .int .i64 ge, .slice gA gn gc, .int .i64 v, .int .i64 se, .bool true, c6, c7, c8, c9, c10, c11, c12, .int .i64 qx] 30) Try.underlying30 rfl (by kernel_rfl), ?_⟩
             have hkeep : ∀ (t : Ty) {R : Nat → Prop} {x : t.Den} {cs : List Value}, t.Is _ R x cs → t.Is W' R x cs := fun t _ _ _ h => Ty.Is.keep (fun _ _ hr _ => hca.rd hr) (fun _ h => h) t _ _ h
             refine ⟨[.int .i64 id, .int .i64 ge, .slice gA gn gc, .int .i64 v, .int .i64 se, .bool true, c6, c7, c8, c9, c10, c11, c12, .int .i64 qx], A, gn, rc, by first | rfl | (rw [HFq.out]; rfl), ?_, ?_, be.trans hbl⟩
             · rw [HFq.out]
               exact hkeep tyProxy ((iDd.fr Fe (fun b hb hx => by have hx' : b = gg + 1 := hx; have hb' : gg + 1 < b := hb.1; omega)).mono (fun b hb => by have hb' : gg + 1 < b := hb.1; omega))
             · rw [HFq.out, hqq, if_pos rfl]
               exact hkeep (Ty.row tyMsg) ((hRow.below hbd).fr Fe (fun b hb hx => by have hx' : b = gg + 1 := hx; have hb' : g4 + 2 ≤ b := hb; omega)).any)
theorem mTick_any {w : World} {Q : Nat → Prop} {x : ProxyD} {cs : List Value} (h : tyProxy.Is w Q x cs) (hL : LightP x) : Calls Try.prog 25 #[.agg cs.toArray] w fun e w' => TickIs w w' (fun _ => True) (tickD x) e :=
  (mTick2_any h hL).mono fun e w' ⟨ds, A, n, c, h1, h2, h3, h4⟩ => ⟨ds, A, n, c, h1, h2.any, h3, h4⟩
end Go.Proofs.Ytlcbelmbonaooaa
