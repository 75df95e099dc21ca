/- Stage 24: messages that are alike (written by gen_24x.py). -/
import Derived.Test.YtlcbelmbonaooaaF24m
import Derived.Test.YtlcbelmbonaooaaF17q
namespace Go.Proofs.Ytlcbelmbonaooaa
set_option maxRecDepth 20000
open Go.RowKit Go.Px Go.Maps Go.Deep
set_option linter.unusedVariables false
set_option linter.unusedSimpArgs false
set_option maxRecDepth 20000 in
set_option maxHeartbeats 3200000 in
theorem Msg_partsT {w : World} {Q : Nat → Prop} {k nc : Nat} {f t e v nu cm no cl se : Int} {o : OpD} {r : ResultD} {g : GroupD} {s : StateD} {l : List EntryD} {cs : List Value} (h : tyMsg.Is w Q (k, f, t, e, v, nu, cm, no, nc, cl, se, o, r, g, s, l) cs) :
    ∃ (c11 c12 c13 c14 c15 c16 c17 c18 c19 c20 c21 c22 c23 c24 c25 c26 c27 : Value), cs = [.int .u8 k, .int .i64 f, .int .i64 t, .int .i64 e, .int .i64 v, .int .i64 nu, .int .i64 cm, .int .i64 no, .int .u64 nc, .int .i64 cl, .int .i64 se, c11, c12, c13, c14, c15, c16, c17, c18, c19, c20, c21, c22, c23, c24, c25, c26, c27] ∧ tyOp.Is w Q o [c11, c12, c13, c14, c15] ∧ tyResult.Is w Q r [c16, c17] ∧ tyGroup.Is w Q g [c18, c19] ∧ tyState.Is w Q s [c20, c21, c22, c23, c24, c25, c26] ∧ (Ty.row tyEntry).Is w Q l [c27] := by
  obtain ⟨c0, c1, c2, c3, c4, c5, c6, c7, c8, c9, c10, c11, c12, c13, c14, c15, c16, c17, c18, c19, c20, c21, c22, c23, c24, c25, c26, c27, rfl⟩ := list_28 (h.len : cs.length = 28)
  obtain ⟨⟨rfl, q0⟩, ⟨rfl, q1⟩, ⟨rfl, q2⟩, ⟨rfl, q3⟩, ⟨rfl, q4⟩, ⟨rfl, q5⟩, ⟨rfl, q6⟩, ⟨rfl, q7⟩, ⟨rfl, q8⟩, ⟨rfl, q9⟩, ⟨rfl, q10⟩, ho, hr, hg, hs, hl⟩ := h
  exact ⟨c11, c12, c13, c14, c15, c16, c17, c18, c19, c20, c21, c22, c23, c24, c25, c26, c27, rfl, ho, hr, hg, hs, hl⟩
section
variable {w : World} {Q Q' : Nat → Prop}
theorem sameO_is {x : OpD} {cs ds : List Value} (h : tyOp.Is w Q x cs) (h' : tyOp.Is w Q' x ds) : Calls Try.prog 35 #[.agg cs.toArray, .agg ds.toArray] w fun e w' => e = .returned (.bool true) ∧ Below w.heap.size w w' := by
  obtain ⟨k, a, n, d, q⟩ := x
  obtain ⟨c0, c1, c2, c3, c4, rfl⟩ := list_5 (h.len : cs.length = 5)
  obtain ⟨d0, d1, d2, d3, d4, rfl⟩ := list_5 (h'.len : ds.length = 5)
  obtain ⟨⟨rfl, q0⟩, ⟨rfl, q1⟩, ⟨rfl, q2⟩, ⟨A, n1, c, rfl, l1, l2, l3, l4, l5⟩, ⟨A2, n2, c2, rfl, m1, m2, m3, m4, m5⟩⟩ := h
  obtain ⟨⟨rfl, r0⟩, ⟨rfl, r1⟩, ⟨rfl, r2⟩, ⟨A', n1', c', rfl, l1', l2', l3', l4', l5'⟩, ⟨A2', n2', c2', rfl, m1', m2', m3', m4', m5'⟩⟩ := h'
  have := rosame_any k a n A n1 c d A2 n2 c2 q k a n A' n1' c' d A2' n2' c2' q w l1 m1 l1' m1' l4 m4 l4' m4'
  rwa [show eqO k a n d q k a n d q = true by unfold eqO; simp] at this
theorem sameR_is {x : ResultD} {cs ds : List Value} (h : tyResult.Is w Q x cs) (h' : tyResult.Is w Q' x ds) : Calls Try.prog 24 #[.agg cs.toArray, .agg ds.toArray] w fun e w' => e = .returned (.bool true) ∧ Below w.heap.size w w' := by
  obtain ⟨c0, c1, rfl⟩ := list_2 (h.len : cs.length = 2)
  obtain ⟨d0, d1, rfl⟩ := list_2 (h'.len : ds.length = 2)
  obtain ⟨A, n, c, rfl, rfl, a1, a2, a3, a4, a5⟩ := Result_cells h
  obtain ⟨B, m, d, rfl, rfl, b1, b2, b3, b4, b5⟩ := Result_cells h'
  have := rsames_any x.1 A n c x.2 x.1 B m d x.2 w a2 b2 a5 b5
  rwa [eqR_self] at this
theorem sameG_is {x : GroupD} {cs ds : List Value} (h : tyGroup.Is w Q x cs) (h' : tyGroup.Is w Q' x ds) : Calls Try.prog 41 #[.agg cs.toArray, .agg ds.toArray] w fun e w' => e = .returned (.bool true) ∧ Below w.heap.size w w' := by
  obtain ⟨c0, c1, rfl⟩ := list_2 (h.len : cs.length = 2)
  obtain ⟨d0, d1, rfl⟩ := list_2 (h'.len : ds.length = 2)
  obtain ⟨A, n, c, rfl, rfl, a1, a2, a3, a4, a5, a6⟩ := Group_cells h
  obtain ⟨B, m, d, rfl, rfl, b1, b2, b3, b4, b5, b6⟩ := Group_cells h'
  have := rsameg_any x.1 A n c x.2 x.1 B m d x.2 w a2 b2 (by omega) (by omega) a5 b5
  rwa [show eqG x.1 x.2 x.1 x.2 = true by unfold eqG eqB; simp] at this
theorem sameL_is {x : List EntryD} {a b : Value} (h : (Ty.row tyEntry).Is w Q x [a]) (h' : (Ty.row tyEntry).Is w Q' x [b]) : Calls Try.prog 63 #[a, b] w fun e w' => e = .returned (.bool true) ∧ Below w.heap.size w w' := by
  obtain ⟨A, n, c, vs, rfl, l1, l2, l3, l4, l5, l6⟩ := Row_cell h
  obtain ⟨B, m, d, us, rfl, m1, m2, m3, m4, m5, m6⟩ := Row_cell h'
  have := sameEnts_any (c := c) (c' := d) (rowAt_of (Ty.n_pos _) l1 l4 l6) (Nat.le_refl _) (rowAt_of (Ty.n_pos _) m1 m4 m6) (Nat.le_refl _) (by omega)
  rwa [decide_eq_true rfl] at this
end
set_option maxRecDepth 20000 in
set_option maxHeartbeats 12800000 in
theorem sameM_is {w : World} {Q Q' : Nat → Prop} {x : MsgD} {cs ds : List Value} (h : tyMsg.Is w Q x cs) (h' : tyMsg.Is w Q' x ds) : Calls Try.prog 44 #[.agg cs.toArray, .agg ds.toArray] w fun e w' => e = .returned (.bool true) ∧ Below w.heap.size w w' := by
  obtain ⟨k, f, t, e, v, nu, cm, no, nc, cl, se, o, r, g, s, l⟩ := x
  obtain ⟨c11, c12, c13, c14, c15, c16, c17, c18, c19, c20, c21, c22, c23, c24, c25, c26, c27, rfl, ho, hr, hg, hs, hl⟩ := Msg_partsT h
  obtain ⟨d11, d12, d13, d14, d15, d16, d17, d18, d19, d20, d21, d22, d23, d24, d25, d26, d27, rfl, jo, jr, jg, js, jl⟩ := Msg_partsT h'
  have HO := hide (fun W (hW : Below w.heap.size w W) => sameO_is (ho.below hW) (jo.below hW))
  have HR := hide (fun W (hW : Below w.heap.size w W) => sameR_is (hr.below hW) (jr.below hW))
  have HG := hide (fun W (hW : Below w.heap.size w W) => sameG_is (hg.below hW) (jg.below hW))
  have HS := hide (fun W (hW : Below w.heap.size w W) => sameSt_any (hs.below hW) (js.below hW) rfl)
  have HL := hide (fun W (hW : Below w.heap.size w W) => sameL_is (hl.below hW) (jl.below hW))
  clear h h' ho hr hg hs hl jo jr jg js jl
  obtain ⟨gg, hgg⟩ : ∃ g, w.heap.size = g := ⟨_, rfl⟩
  obtain ⟨w0, hw0⟩ : ∃ x, (w.alloc (.cells #[.int .u8 k, .int .i64 f, .int .i64 t, .int .i64 e, .int .i64 v, .int .i64 nu, .int .i64 cm, .int .i64 no, .int .u64 nc, .int .i64 cl, .int .i64 se, c11, c12, c13, c14, c15, c16, c17, c18, c19, c20, c21, c22, c23, c24, c25, c26, c27] 58)).alloc (.cells #[.int .u8 k, .int .i64 f, .int .i64 t, .int .i64 e, .int .i64 v, .int .i64 nu, .int .i64 cm, .int .i64 no, .int .u64 nc, .int .i64 cl, .int .i64 se, d11, d12, d13, d14, d15, d16, d17, d18, d19, d20, d21, d22, d23, d24, d25, d26, d27] 58) = x := ⟨_, rfl⟩
  have hA0 : Blk w0 gg [.int .u8 k, .int .i64 f, .int .i64 t, .int .i64 e, .int .i64 v, .int .i64 nu, .int .i64 cm, .int .i64 no, .int .u64 nc, .int .i64 cl, .int .i64 se, c11, c12, c13, c14, c15, c16, c17, c18, c19, c20, c21, c22, c23, c24, c25, c26, c27] 58 := by rw [← hw0, ← hgg]; exact (Blk.new w _ _).alloc _
  have hB0 : Blk w0 (gg + 1) [.int .u8 k, .int .i64 f, .int .i64 t, .int .i64 e, .int .i64 v, .int .i64 nu, .int .i64 cm, .int .i64 no, .int .u64 nc, .int .i64 cl, .int .i64 se, d11, d12, d13, d14, d15, d16, d17, d18, d19, d20, d21, d22, d23, d24, d25, d26, d27] 58 := by
    rw [← hw0, ← hgg]
    have := Blk.new (w.alloc (.cells #[.int .u8 k, .int .i64 f, .int .i64 t, .int .i64 e, .int .i64 v, .int .i64 nu, .int .i64 cm, .int .i64 no, .int .u64 nc, .int .i64 cl, .int .i64 se, c11, c12, c13, c14, c15, c16, c17, c18, c19, c20, c21, c22, c23, c24, c25, c26, c27] 58)) [.int .u8 k, .int .i64 f, .int .i64 t, .int .i64 e, .int .i64 v, .int .i64 nu, .int .i64 cm, .int .i64 no, .int .u64 nc, .int .i64 cl, .int .i64 se, d11, d12, d13, d14, d15, d16, d17, d18, d19, d20, d21, d22, d23, d24, d25, d26, d27] 58
    rwa [World.size_alloc] at this
  have b0 : Below w.heap.size w w0 := by rw [← hw0]; exact ((Below.refl _ _).alloc (Nat.le_refl _) _).alloc (by simp) _
  have Hw0 := hide hw0
  have s0 := b0.size
  have y0 := Blk.cell hA0 (j := 0) rfl; have y1 := Blk.cell hA0 (j := 1) rfl; have y2 := Blk.cell hA0 (j := 2) rfl; have y3 := Blk.cell hA0 (j := 3) rfl; have y4 := Blk.cell hA0 (j := 4) rfl; have y5 := Blk.cell hA0 (j := 5) rfl; have y6 := Blk.cell hA0 (j := 6) rfl; have y7 := Blk.cell hA0 (j := 7) rfl; have y8 := Blk.cell hA0 (j := 8) rfl; have y9 := Blk.cell hA0 (j := 9) rfl; have y10 := Blk.cell hA0 (j := 10) rfl
  have z0 := Blk.cell hB0 (j := 0) rfl; have z1 := Blk.cell hB0 (j := 1) rfl; have z2 := Blk.cell hB0 (j := 2) rfl; have z3 := Blk.cell hB0 (j := 3) rfl; have z4 := Blk.cell hB0 (j := 4) rfl; have z5 := Blk.cell hB0 (j := 5) rfl; have z6 := Blk.cell hB0 (j := 6) rfl; have z7 := Blk.cell hB0 (j := 7) rfl; have z8 := Blk.cell hB0 (j := 8) rfl; have z9 := Blk.cell hB0 (j := 9) rfl; have z10 := Blk.cell hB0 (j := 10) rfl
  rw [← hw0] at y0 y1 y2 y3 y4 y5 y6 y7 y8 y9 y10 z0 z1 z2 z3 z4 z5 z6 z7 z8 z9 z10
  clear hw0
  go_enter Try.func44, Try.ntmps44
  go_wp2_with (first | (with_reducible refine stop_load 28 rfl ?_) | (with_reducible refine stop_load 49 rfl ?_) | (with_reducible refine stop_load 24 rfl ?_) | (with_reducible refine stop_load 55 rfl ?_) | (with_reducible refine stop_load 58 rfl ?_))
  rw [Hw0.out]
  clear y0 y1 y2 y3 y4 y5 y6 y7 y8 y9 y10 z0 z1 z2 z3 z4 z5 z6 z7 z8 z9 z10
  refine go_loadG rfl rfl (k := 11) rfl hA0 [c11, c12, c13, c14, c15] rfl Try.underlying28 rfl (by kernel_rfl) ?_
  go_wp2_with (first | (with_reducible refine stop_load 28 rfl ?_) | (with_reducible refine stop_load 49 rfl ?_) | (with_reducible refine stop_load 24 rfl ?_) | (with_reducible refine stop_load 55 rfl ?_) | (with_reducible refine stop_load 58 rfl ?_))
  refine go_loadG rfl rfl (k := 11) rfl hB0 [d11, d12, d13, d14, d15] rfl Try.underlying28 rfl (by kernel_rfl) ?_
  go_wp2_with (first | (with_reducible refine stop_load 28 rfl ?_) | (with_reducible refine stop_load 49 rfl ?_) | (with_reducible refine stop_load 24 rfl ?_) | (with_reducible refine stop_load 55 rfl ?_) | (with_reducible refine stop_load 58 rfl ?_))
  go_fit (HO.out w0 b0)
  rintro xx w1 ⟨rfl, hd1⟩
  have b1 := b0.trans (hd1.mono b0.size)
  have hA1 := hA0.below hd1
  have hB1 := hB0.below hd1
  go_wp2_with (first | (with_reducible refine stop_load 28 rfl ?_) | (with_reducible refine stop_load 49 rfl ?_) | (with_reducible refine stop_load 24 rfl ?_) | (with_reducible refine stop_load 55 rfl ?_) | (with_reducible refine stop_load 58 rfl ?_))
  refine go_loadG rfl rfl (k := 16) rfl hA1 [c16, c17] rfl Try.underlying49 rfl (by kernel_rfl) ?_
  go_wp2_with (first | (with_reducible refine stop_load 28 rfl ?_) | (with_reducible refine stop_load 49 rfl ?_) | (with_reducible refine stop_load 24 rfl ?_) | (with_reducible refine stop_load 55 rfl ?_) | (with_reducible refine stop_load 58 rfl ?_))
  refine go_loadG rfl rfl (k := 16) rfl hB1 [d16, d17] rfl Try.underlying49 rfl (by kernel_rfl) ?_
  go_wp2_with (first | (with_reducible refine stop_load 28 rfl ?_) | (with_reducible refine stop_load 49 rfl ?_) | (with_reducible refine stop_load 24 rfl ?_) | (with_reducible refine stop_load 55 rfl ?_) | (with_reducible refine stop_load 58 rfl ?_))
  go_fit (HR.out w1 b1)
  rintro xx w2 ⟨rfl, hd2⟩
  have b2 := b1.trans (hd2.mono b1.size)
  have hA2 := hA1.below hd2
  have hB2 := hB1.below hd2
  go_wp2_with (first | (with_reducible refine stop_load 28 rfl ?_) | (with_reducible refine stop_load 49 rfl ?_) | (with_reducible refine stop_load 24 rfl ?_) | (with_reducible refine stop_load 55 rfl ?_) | (with_reducible refine stop_load 58 rfl ?_))
  refine go_loadG rfl rfl (k := 18) rfl hA2 [c18, c19] rfl Try.underlying24 rfl (by kernel_rfl) ?_
  go_wp2_with (first | (with_reducible refine stop_load 28 rfl ?_) | (with_reducible refine stop_load 49 rfl ?_) | (with_reducible refine stop_load 24 rfl ?_) | (with_reducible refine stop_load 55 rfl ?_) | (with_reducible refine stop_load 58 rfl ?_))
  refine go_loadG rfl rfl (k := 18) rfl hB2 [d18, d19] rfl Try.underlying24 rfl (by kernel_rfl) ?_
  go_wp2_with (first | (with_reducible refine stop_load 28 rfl ?_) | (with_reducible refine stop_load 49 rfl ?_) | (with_reducible refine stop_load 24 rfl ?_) | (with_reducible refine stop_load 55 rfl ?_) | (with_reducible refine stop_load 58 rfl ?_))
  go_fit (HG.out w2 b2)
  rintro xx w3 ⟨rfl, hd3⟩
  have b3 := b2.trans (hd3.mono b2.size)
  have hA3 := hA2.below hd3
  have hB3 := hB2.below hd3
  go_wp2_with (first | (with_reducible refine stop_load 28 rfl ?_) | (with_reducible refine stop_load 49 rfl ?_) | (with_reducible refine stop_load 24 rfl ?_) | (with_reducible refine stop_load 55 rfl ?_) | (with_reducible refine stop_load 58 rfl ?_))
  refine go_loadG rfl rfl (k := 20) rfl hA3 [c20, c21, c22, c23, c24, c25, c26] rfl Try.underlying55 rfl (by kernel_rfl) ?_
  go_wp2_with (first | (with_reducible refine stop_load 28 rfl ?_) | (with_reducible refine stop_load 49 rfl ?_) | (with_reducible refine stop_load 24 rfl ?_) | (with_reducible refine stop_load 55 rfl ?_) | (with_reducible refine stop_load 58 rfl ?_))
  refine go_loadG rfl rfl (k := 20) rfl hB3 [d20, d21, d22, d23, d24, d25, d26] rfl Try.underlying55 rfl (by kernel_rfl) ?_
  go_wp2_with (first | (with_reducible refine stop_load 28 rfl ?_) | (with_reducible refine stop_load 49 rfl ?_) | (with_reducible refine stop_load 24 rfl ?_) | (with_reducible refine stop_load 55 rfl ?_) | (with_reducible refine stop_load 58 rfl ?_))
  go_fit (HS.out w3 b3)
  rintro xx w4 ⟨rfl, hd4⟩
  have b4 := b3.trans (hd4.mono b3.size)
  have hA4 := hA3.below hd4
  have hB4 := hB3.below hd4
  have y27 := hA4.cell (j := 27) rfl
  have z27 := hB4.cell (j := 27) rfl
  go_wp2_with (first | (with_reducible refine stop_load 28 rfl ?_) | (with_reducible refine stop_load 49 rfl ?_) | (with_reducible refine stop_load 24 rfl ?_) | (with_reducible refine stop_load 55 rfl ?_) | (with_reducible refine stop_load 58 rfl ?_))
  go_fit (HL.out w4 b4)
  rintro xx w5 ⟨rfl, hd5⟩
  go_wp2
  go_ret
  exact ⟨rfl, b4.trans (hd5.mono b4.size)⟩
end Go.Proofs.Ytlcbelmbonaooaa
