/- Stage 24: the first request (written by gen_24m.py). -/
import Derived.Test.YtlcbelmbonaooaaF24l
import Derived.Deep.RegionHeld
namespace Go.Proofs.Ytlcbelmbonaooaa
set_option maxRecDepth 20000
open Go.RowKit Go.Px Go.Maps Go.Deep
set_option linter.unusedVariables false
set_option linter.unusedSimpArgs false
theorem rd_blk {w : World} {g : Nat} {cs : List Value} {T : TypeId} (h : Blk w g cs T) : Rd w (some ⟨g, 0, none⟩) cs := fun j x hx => ⟨_, rfl, by
  rw [Addr.add_mid, Nat.zero_add]; exact h.cell hx⟩
theorem row_one {w : World} {g : Nat} {t : Ty} {x : t.Den} {cs : List Value} {T : TypeId} {Q : Nat → Prop} (h : Blk w g cs T) (hI : t.Is w Q x cs) (hg : Q g) : (Ty.row t).Is w Q [x] [.slice (some ⟨g, 0, none⟩) 1 1] :=
  ⟨some ⟨g, 0, none⟩, 1, 1, cs, rfl, rfl, by omega, by omega, rd_blk h, fun _ a ha => by injection ha with ha; subst ha; exact hg, Ty.Rows.one hI⟩
theorem primN_bd {e : Int} {ms : List Int} {v : Int} (h : ∀ x ∈ ms, -9223372036854775808 ≤ x ∧ x ≤ 9223372036854775807) : -9223372036854775808 ≤ primN e ms v ∧ primN e ms v ≤ 9223372036854775807 := by
  unfold primN
  split
  · rcases Nat.lt_or_ge (v.toNat % ms.length) ms.length with hl | hl
    · rw [List.getD_eq_getElem?_getD, List.getElem?_eq_getElem hl]
      exact h _ (List.getElem_mem hl)
    · rw [List.getD_eq_getElem?_getD, List.getElem?_eq_none hl]
      exact ⟨by decide, by decide⟩
  · exact ⟨by decide, by decide⟩
theorem results_cell3 {P : Program} {w : World} {fn : Func} {t t2 t3 : Tmp} {T : TypeId} (h : fn.results = #[.cell t T, .tmp t2, .tmp t3]) {tmps : Array Value} {b : Nat} (hx : tmps.getD t undef = .pointer (some ⟨b, 0, none⟩)) {vs : List Value} {B : TypeId} {d : TypeDesc} (hc : Blk w b vs B)
    (hu : P.underlying T = some d) (hd : d.isRow = true) (hi : (P.info? T).map (·.size) = some vs.length) : (results fn tmps).run P w = .ok (.tuple #[.agg vs.toArray, tmps.getD t2 undef, tmps.getD t3 undef]) w := by
  have := run_loadVar_mid (P := P) w b 0 T vs d hc.range hu hd hi
  have hx' : (tmps[t]?).getD undef = .pointer (some ⟨b, 0, none⟩) := by rw [← hx]; simp [Array.getD_eq_getD_getElem?]
  simp [results, h, hx', asAddr, this]
/-- What comes of what is asked for. -/
def askD : ProxyD → OpD → GroupD → Bool → ProxyD × List MsgD × Int
  | (id, g, v, se, bu, o, n, qu), op, nx, ok => if prB (id, g, v, se, bu, o, n, qu) = false then (noP, [], 240) else if bu = true then (noP, [], 241) else if decide (4611686018427387904 ≤ se) = true then (noP, [], 240) else if ok = false then (noP, [], 240) else
      ((id, g, v, se + 1, true, op, nx, 0), [reqD (id, g, v, se + 1, true, op, nx, 0) (primN g.1 g.2 v)], 0)
/-- It is returned. -/
def AskIs (w w' : World) (Q : Nat → Prop) (r : ProxyD × List MsgD × Int) (e : Ending) : Prop :=
  ∃ ds A n c, e = .returned (.tuple #[.agg ds.toArray, .slice A n c, .int .i64 r.2.2]) ∧ tyProxy.Is w' Q r.1 ds ∧ (Ty.row tyMsg).Is w' Q r.2.1 [.slice A n c] ∧ Below w.heap.size w w'
section
variable {P : Program} {w : World} {ops : Array Oper} {rest : List Oper} {o : Oper} {a : Act} {Q : Exit → Act → World → Prop}
/-- An operation whose guard is off. -/
theorem go_skipG (hw : Region.wanted o (yielded ops a.tmps) = false) (h : wpList P ops Q rest (a.put o.dst undef) w) : Stop (wpList P ops Q (o :: rest) a w) :=
  wpList_step fun K hK => by rw [if_neg (by rw [hw]; exact Bool.false_ne_true)]; exact hK _ _ h
/-- A load of a struct, within a block, whose guard is on. -/
theorem go_loadG (hw : Region.wanted o (yielded ops a.tmps) = true) {T : TypeId} {x : Operand} (ho : o.op = .load T x) {b k : Nat} (hx : a.eval x = .pointer (some ⟨b, k, none⟩)) {cs : List Value} {d : TypeDesc} {B : TypeId} (hc : Blk w b cs B)
    (us : List Value) (hk : (cs.drop k).take us.length = us) (hu : P.underlying T = some d) (hd : d.isRow = true) (hi : (P.info? T).map (·.size) = some us.length)
    (h : wpList P ops Q rest (a.put o.dst (.agg us.toArray)) w) : Stop (wpList P ops Q (o :: rest) a w) :=
  wpList_step fun K hK => by rw [if_pos hw]; exact wp_load_mid T x ho b k hx us d (hc.part hk) hu hd hi (hK _ _ h)
end
theorem Blk.thereAt {w : World} {b k n : Nat} {cs : List Value} {B : TypeId} (h : Blk w b cs B) (hk : k + n ≤ cs.length) : w.there b k n := fun j hj => by
  have := h.there (k + j) (by omega)
  rw [Nat.zero_add] at this
  exact this
set_option maxRecDepth 20000 in
set_option maxHeartbeats 12800000 in
theorem mfirst_any {w : World} {Q : Nat → Prop} {x : ProxyD} {cs : List Value} (h : tyProxy.Is w Q x cs) (hi : 1 ≤ x.1) (hL : LightP x) :
    Calls Try.prog 51 #[.agg cs.toArray] w fun e w' => ∃ A n c, e = .returned (.slice A n c) ∧ (Ty.row tyMsg).Is w' (fun b => w.heap.size ≤ b) (firstL x) [.slice A n c] ∧ Below w.heap.size w w' := by
  have h9 := h
  obtain ⟨id, g, v, se, bu, o, n, qu, c1, c2, c6, c7, c8, c9, c10, c11, c12, rfl, rfl, b1, b2, b3, b4, hg, ho, hn⟩ := Proxy_parts h
  obtain ⟨A1, n1, k1, e1, e2, hgb, hgl, hgc, hgm, hgr, hgi⟩ := Group_cells hg
  have hpb := primN_bd (e := g.1) (v := v) hgi
  have HG := hide (fun W (hW : Below w.heap.size w W) => prim_is (v := v) (hg.below hW))
  have HR := hide (fun W (hW : Below w.heap.size w W) => mreq_any (h9.below hW) hi hpb hL)
  clear h h9 hg ho hn hgr hgi hi hL e1 e2 hgb
  obtain ⟨gg, hgg⟩ : ∃ g, w.heap.size = g := ⟨_, rfl⟩
  obtain ⟨w0, hw0⟩ : ∃ x, w.alloc (.cells #[.int .i64 id, c1, c2, .int .i64 v, .int .i64 se, .bool bu, c6, c7, c8, c9, c10, c11, c12, .int .i64 qu] 30) = x := ⟨_, rfl⟩
  have hP0 : Blk w0 gg [.int .i64 id, c1, c2, .int .i64 v, .int .i64 se, .bool bu, c6, c7, c8, c9, c10, c11, c12, .int .i64 qu] 30 := by rw [← hw0, ← hgg]; exact Blk.new w _ _
  have b0 : Below w.heap.size w w0 := by rw [← hw0]; exact (Below.refl _ _).alloc (Nat.le_refl _) _
  have pl := hP0.lt
  have Hw0 := hide hw0
  have s0 := b0.size
  clear hw0

  have y5 := hP0.cell (j := 5) rfl
  have y3 := hP0.cell (j := 3) rfl
  cases bu with
  | false =>
    have HF := hide (show firstL (id, g, v, se, false, o, n, qu) = [] from rfl)
    go_enter Try.func51, Try.ntmps51
    go_wp2_with (first | (with_reducible refine stop_load 30 rfl ?_) | (with_reducible refine stop_store 30 rfl ?_) | (with_reducible refine stop_load 24 rfl ?_) | (with_reducible refine stop_store 24 rfl ?_) | (with_reducible refine stop_load 28 rfl ?_) | (with_reducible refine stop_store 28 rfl ?_) | (with_reducible refine stop_load 58 rfl ?_) | (with_reducible refine stop_store 58 rfl ?_))
    go_ret
    exact ⟨none, 0, 0, rfl, by rw [HF.out]; exact zeroL_is, by first | exact b0 | (rw [Hw0.out]; exact b0)⟩
  | true =>
    have HF := hide (show firstL (id, g, v, se, true, o, n, qu) = [reqD (id, g, v, se, true, o, n, qu) (primN g.1 g.2 v)] from rfl)
    go_enter Try.func51, Try.ntmps51
    go_wp2_with (first | (with_reducible refine stop_load 30 rfl ?_) | (with_reducible refine stop_store 30 rfl ?_) | (with_reducible refine stop_load 24 rfl ?_) | (with_reducible refine stop_store 24 rfl ?_) | (with_reducible refine stop_load 28 rfl ?_) | (with_reducible refine stop_store 28 rfl ?_) | (with_reducible refine stop_load 58 rfl ?_) | (with_reducible refine stop_store 58 rfl ?_))
    rw [Hw0.out]
    refine go_loadM rfl rfl (k := 1) rfl hP0 [c1, c2] rfl Try.underlying24 rfl (by kernel_rfl) ?_
    go_wp2_with (first | (with_reducible refine stop_load 30 rfl ?_) | (with_reducible refine stop_store 30 rfl ?_) | (with_reducible refine stop_load 24 rfl ?_) | (with_reducible refine stop_store 24 rfl ?_) | (with_reducible refine stop_load 28 rfl ?_) | (with_reducible refine stop_store 28 rfl ?_) | (with_reducible refine stop_load 58 rfl ?_) | (with_reducible refine stop_store 58 rfl ?_))
    go_fit (HG.out w0 b0)
    rintro xx w1 ⟨rfl, hd1⟩
    have s1 := hd1.size
    have b1' := b0.trans (hd1.mono s0)
    have hP1 := hP0.below hd1
    go_wp2_with (first | (with_reducible refine stop_load 30 rfl ?_) | (with_reducible refine stop_store 30 rfl ?_) | (with_reducible refine stop_load 24 rfl ?_) | (with_reducible refine stop_store 24 rfl ?_) | (with_reducible refine stop_load 28 rfl ?_) | (with_reducible refine stop_store 28 rfl ?_) | (with_reducible refine stop_load 58 rfl ?_) | (with_reducible refine stop_store 58 rfl ?_))
    refine go_load rfl rfl rfl hP1 Try.underlying30 rfl (by kernel_rfl) ?_
    go_wp2_with (first | (with_reducible refine stop_load 30 rfl ?_) | (with_reducible refine stop_store 30 rfl ?_) | (with_reducible refine stop_load 24 rfl ?_) | (with_reducible refine stop_store 24 rfl ?_) | (with_reducible refine stop_load 28 rfl ?_) | (with_reducible refine stop_store 28 rfl ?_) | (with_reducible refine stop_load 58 rfl ?_) | (with_reducible refine stop_store 58 rfl ?_))
    go_fit (HR.out w1 b1')
    rintro xx w2 ⟨ds, rfl, iD, hd2⟩
    obtain ⟨d0, d1, d2, d3, d4, d5, d6, d7, d8, d9, d10, d11, d12, d13, d14, d15, d16, d17, d18, d19, d20, d21, d22, d23, d24, d25, d26, d27, rfl⟩ := list_28 (iD.len : ds.length = 28)
    have s2 := hd2.size
    have b2' := b1'.trans (hd2.mono b1'.size)
    obtain ⟨gm, hgm2⟩ : ∃ g, w2.heap.size = g := ⟨_, rfl⟩
    obtain ⟨w3, hw3⟩ : ∃ x, w2.alloc (.cells #[d0, d1, d2, d3, d4, d5, d6, d7, d8, d9, d10, d11, d12, d13, d14, d15, d16, d17, d18, d19, d20, d21, d22, d23, d24, d25, d26, d27] 58) = x := ⟨_, rfl⟩
    have hM3 : Blk w3 gm [d0, d1, d2, d3, d4, d5, d6, d7, d8, d9, d10, d11, d12, d13, d14, d15, d16, d17, d18, d19, d20, d21, d22, d23, d24, d25, d26, d27] 58 := by rw [← hw3, ← hgm2]; exact Blk.new w2 _ _
    have hb3 : Below w2.heap.size w2 w3 := by rw [← hw3]; exact (Below.refl _ _).alloc (Nat.le_refl _) _
    have iD3 := iD.below hb3
    have b3' := b2'.trans (hb3.mono b2'.size)
    have Hw3 := hide hw3
    have Hgm := hide hgm2
    clear hw3 hgm2
    go_wp2_with (first | (with_reducible refine stop_load 30 rfl ?_) | (with_reducible refine stop_store 30 rfl ?_) | (with_reducible refine stop_load 24 rfl ?_) | (with_reducible refine stop_store 24 rfl ?_) | (with_reducible refine stop_load 28 rfl ?_) | (with_reducible refine stop_store 28 rfl ?_) | (with_reducible refine stop_load 58 rfl ?_) | (with_reducible refine stop_store 58 rfl ?_))
    try rw [Hw3.out]
    try rw [Hgm.out]
    go_ret
    refine ⟨some ⟨gm, 0, none⟩, 1, 1, rfl, ?_, by first | exact b3' | (rw [Hw3.out]; exact b3')⟩
    rw [HF.out]
    exact row_one hM3 (iD3.mono (fun b hb => by have hb' : w1.heap.size ≤ b := hb; first | (show w.heap.size ≤ b; omega) | (show gg ≤ b; omega))) (by have := Hgm.out; first | (show w.heap.size ≤ gm; omega) | (show gg ≤ gm; omega))
end Go.Proofs.Ytlcbelmbonaooaa
