/- Stage 24: the law ProxyAsks (written by gen_24z.py). -/
import Derived.Test.YtlcbelmbonaooaaF24u
import Derived.Test.YtlcbelmbonaooaaF24c
import Derived.Test.YtlcbelmbonaooaaF24w
import Derived.Test.YtlcbelmbonaooaaF24y
namespace Go.Proofs.Ytlcbelmbonaooaa
set_option maxRecDepth 20000
open Go.RowKit Go.Px Go.Maps Go.Deep
set_option linter.unusedVariables false
set_option linter.unusedSimpArgs false
theorem chk_grK (g : GroupD) : (chkE g.1 g.2 == 0) = grK g := by
  unfold chkE grK
  cases grpOk g.1 g.2 <;> rfl
set_option maxRecDepth 20000 in
set_option maxHeartbeats 25600000 in
theorem proxyAsks_walk {w : World} {Q Q' Q'' : Nat → Prop} {x : ProxyD} {op : OpD} {nx : GroupD} {cs ds es : List Value} (h : tyProxy.Is w Q x cs) (h' : tyOp.Is w Q' op ds) (h'' : tyGroup.Is w Q'' nx es) (r1 : RchP x) (r2 : RchP (0, zeroG, 0, 0, false, op, nx, 0)) :
    Calls Try.prog 4 #[.agg cs.toArray, .agg ds.toArray, .agg es.toArray] w fun e w' => e = .returned (.bool true) ∧ Below w.heap.size w w' := by
  obtain ⟨c0, c1, c2, c3, c4, c5, c6, c7, c8, c9, c10, c11, c12, c13, rfl⟩ := list_14 (h.len : cs.length = 14)
  obtain ⟨z0, z1, z2, z3, z4, rfl⟩ := list_5 (h'.len : ds.length = 5)
  obtain ⟨n0, n1, rfl⟩ := list_2 (h''.len : es.length = 2)
  have HZ := hide (fun (W : World) (hW : Below w.heap.size w W) => (Proxy_shut (bu := false) (by omega) (by omega) (by omega) (by omega) (zeroG_is (w := W) (Q := fun _ => True)) (h'.any.below hW) (h''.any.below hW) : tyProxy.Is W (fun _ => True) (0, zeroG, 0, 0, false, op, nx, 0) [.int .i64 0, .int .i64 0, .slice none 0 0, .int .i64 0, .int .i64 0, .bool false, z0, z1, z2, z3, z4, n0, n1, .int .i64 0]))
  obtain ⟨gg, hgg⟩ : ∃ g, w.heap.size = g := ⟨_, rfl⟩
  obtain ⟨w0, hw0⟩ : ∃ x, ((w.alloc (.cells #[c0, c1, c2, c3, c4, c5, c6, c7, c8, c9, c10, c11, c12, c13] 30)).alloc (.cells #[z0, z1, z2, z3, z4] 28)).alloc (.cells #[n0, n1] 24) = x := ⟨_, rfl⟩
  have hP0 : Blk w0 gg [c0, c1, c2, c3, c4, c5, c6, c7, c8, c9, c10, c11, c12, c13] 30 := by rw [← hw0, ← hgg]; exact ((Blk.new w _ _).alloc _).alloc _
  have hO0 : Blk w0 (gg + 1) [z0, z1, z2, z3, z4] 28 := by
    rw [← hw0, ← hgg]
    have := Blk.new (w.alloc (.cells #[c0, c1, c2, c3, c4, c5, c6, c7, c8, c9, c10, c11, c12, c13] 30)) [z0, z1, z2, z3, z4] 28
    rw [World.size_alloc] at this
    exact this.alloc _
  have hN0 : Blk w0 (gg + 2) [n0, n1] 24 := by
    rw [← hw0, ← hgg]
    have := Blk.new ((w.alloc (.cells #[c0, c1, c2, c3, c4, c5, c6, c7, c8, c9, c10, c11, c12, c13] 30)).alloc (.cells #[z0, z1, z2, z3, z4] 28)) [n0, n1] 24
    rw [World.size_alloc, World.size_alloc] at this
    exact this
  have b0 : Below w.heap.size w w0 := by rw [← hw0]; exact (((Below.refl _ _).alloc (Nat.le_refl _) _).alloc (by simp) _).alloc (by simp; omega) _
  have Hw0 := hide hw0
  have s0 := b0.size
  have Hh := hide h
  have Hh' := hide h'
  have Hh'' := hide h''
  clear hw0 h h' h''
  obtain ⟨ra, hra⟩ : ∃ z, askD x op zeroG (opF op == 0) = z := ⟨_, rfl⟩
  obtain ⟨rm, hrm⟩ : ∃ z, askD x zeroO nx (grK nx) = z := ⟨_, rfl⟩
  go_enter Try.func4, Try.ntmps4
  go_wp2_with (first | (with_reducible refine stop_load 30 rfl ?_) | (with_reducible refine stop_store 30 rfl ?_) | (with_reducible refine stop_load 28 rfl ?_) | (with_reducible refine stop_store 28 rfl ?_) | (with_reducible refine stop_load 49 rfl ?_) | (with_reducible refine stop_store 49 rfl ?_) | (with_reducible refine stop_load 24 rfl ?_) | (with_reducible refine stop_store 24 rfl ?_) | (with_reducible refine stop_load 58 rfl ?_) | (with_reducible refine stop_store 58 rfl ?_))
  rw [Hw0.out]
  refine go_loadG rfl rfl (k := 0) rfl hP0 [c0, c1, c2, c3, c4, c5, c6, c7, c8, c9, c10, c11, c12, c13] rfl Try.underlying30 rfl (by kernel_rfl) ?_
  go_wp2_with (first | (with_reducible refine stop_load 30 rfl ?_) | (with_reducible refine stop_store 30 rfl ?_) | (with_reducible refine stop_load 28 rfl ?_) | (with_reducible refine stop_store 28 rfl ?_) | (with_reducible refine stop_load 49 rfl ?_) | (with_reducible refine stop_store 49 rfl ?_) | (with_reducible refine stop_load 24 rfl ?_) | (with_reducible refine stop_store 24 rfl ?_) | (with_reducible refine stop_load 58 rfl ?_) | (with_reducible refine stop_store 58 rfl ?_))
  go_fit (small24_any (Hh.out.below b0) r1)
  rintro xx w1 ⟨rfl, hd1⟩
  have b1 := b0.trans (hd1.mono b0.size)
  have s1 := hd1.size
  have hP1 := hP0.below hd1
  have hO1 := hO0.below hd1
  have hN1 := hN0.below hd1
  rcases bool_two (smB x) with q1 | q1
  rotate_left
  · rw [q1]
    go_wp2_with (first | (with_reducible refine stop_load 30 rfl ?_) | (with_reducible refine stop_store 30 rfl ?_) | (with_reducible refine stop_load 28 rfl ?_) | (with_reducible refine stop_store 28 rfl ?_) | (with_reducible refine stop_load 49 rfl ?_) | (with_reducible refine stop_store 49 rfl ?_) | (with_reducible refine stop_load 24 rfl ?_) | (with_reducible refine stop_store 24 rfl ?_) | (with_reducible refine stop_load 58 rfl ?_) | (with_reducible refine stop_store 58 rfl ?_))
    repeat (refine go_skipG rfl ?_; go_wp2_with (first | (with_reducible refine stop_load 30 rfl ?_) | (with_reducible refine stop_store 30 rfl ?_) | (with_reducible refine stop_load 28 rfl ?_) | (with_reducible refine stop_store 28 rfl ?_) | (with_reducible refine stop_load 49 rfl ?_) | (with_reducible refine stop_store 49 rfl ?_) | (with_reducible refine stop_load 24 rfl ?_) | (with_reducible refine stop_store 24 rfl ?_) | (with_reducible refine stop_load 58 rfl ?_) | (with_reducible refine stop_store 58 rfl ?_)))
    go_fit (awake24_any w1)
    rintro xx wz ⟨rfl, hdz⟩
    go_wp2
    go_ret
    exact ⟨rfl, b1.trans (hdz.mono b1.size)⟩
  rw [q1]
  go_wp2_with (first | (with_reducible refine stop_load 30 rfl ?_) | (with_reducible refine stop_store 30 rfl ?_) | (with_reducible refine stop_load 28 rfl ?_) | (with_reducible refine stop_store 28 rfl ?_) | (with_reducible refine stop_load 49 rfl ?_) | (with_reducible refine stop_store 49 rfl ?_) | (with_reducible refine stop_load 24 rfl ?_) | (with_reducible refine stop_store 24 rfl ?_) | (with_reducible refine stop_load 58 rfl ?_) | (with_reducible refine stop_store 58 rfl ?_))
  refine go_loadG rfl rfl (k := 0) rfl hO1 [z0, z1, z2, z3, z4] rfl Try.underlying28 rfl (by kernel_rfl) ?_
  go_wp2_with (first | (with_reducible refine stop_load 30 rfl ?_) | (with_reducible refine stop_store 30 rfl ?_) | (with_reducible refine stop_load 28 rfl ?_) | (with_reducible refine stop_store 28 rfl ?_) | (with_reducible refine stop_load 49 rfl ?_) | (with_reducible refine stop_store 49 rfl ?_) | (with_reducible refine stop_load 24 rfl ?_) | (with_reducible refine stop_store 24 rfl ?_) | (with_reducible refine stop_load 58 rfl ?_) | (with_reducible refine stop_store 58 rfl ?_))
  refine go_loadG rfl rfl (k := 0) rfl hN1 [n0, n1] rfl Try.underlying24 rfl (by kernel_rfl) ?_
  go_wp2_with (first | (with_reducible refine stop_load 30 rfl ?_) | (with_reducible refine stop_store 30 rfl ?_) | (with_reducible refine stop_load 28 rfl ?_) | (with_reducible refine stop_store 28 rfl ?_) | (with_reducible refine stop_load 49 rfl ?_) | (with_reducible refine stop_store 49 rfl ?_) | (with_reducible refine stop_load 24 rfl ?_) | (with_reducible refine stop_store 24 rfl ?_) | (with_reducible refine stop_load 58 rfl ?_) | (with_reducible refine stop_store 58 rfl ?_))
  go_fit (small24_any (HZ.out w1 b1) r2)
  rintro xx w2 ⟨rfl, hd2⟩
  have b2 := b1.trans (hd2.mono b1.size)
  have s2 := hd2.size
  have hP2 := hP1.below hd2
  have hO2 := hO1.below hd2
  have hN2 := hN1.below hd2
  rcases bool_two (smB (0, zeroG, 0, 0, false, op, nx, 0)) with q2 | q2
  rotate_left
  · rw [q2]
    go_wp2_with (first | (with_reducible refine stop_load 30 rfl ?_) | (with_reducible refine stop_store 30 rfl ?_) | (with_reducible refine stop_load 28 rfl ?_) | (with_reducible refine stop_store 28 rfl ?_) | (with_reducible refine stop_load 49 rfl ?_) | (with_reducible refine stop_store 49 rfl ?_) | (with_reducible refine stop_load 24 rfl ?_) | (with_reducible refine stop_store 24 rfl ?_) | (with_reducible refine stop_load 58 rfl ?_) | (with_reducible refine stop_store 58 rfl ?_))
    repeat (refine go_skipG rfl ?_; go_wp2_with (first | (with_reducible refine stop_load 30 rfl ?_) | (with_reducible refine stop_store 30 rfl ?_) | (with_reducible refine stop_load 28 rfl ?_) | (with_reducible refine stop_store 28 rfl ?_) | (with_reducible refine stop_load 49 rfl ?_) | (with_reducible refine stop_store 49 rfl ?_) | (with_reducible refine stop_load 24 rfl ?_) | (with_reducible refine stop_store 24 rfl ?_) | (with_reducible refine stop_load 58 rfl ?_) | (with_reducible refine stop_store 58 rfl ?_)))
    go_fit (awake24_any w2)
    rintro xx wz ⟨rfl, hdz⟩
    go_wp2
    go_ret
    exact ⟨rfl, b2.trans (hdz.mono b2.size)⟩
  rw [q2]
  have L1 := smB_light q1
  have L2 := smB_light q2
  go_wp2_with (first | (with_reducible refine stop_load 30 rfl ?_) | (with_reducible refine stop_store 30 rfl ?_) | (with_reducible refine stop_load 28 rfl ?_) | (with_reducible refine stop_store 28 rfl ?_) | (with_reducible refine stop_load 49 rfl ?_) | (with_reducible refine stop_store 49 rfl ?_) | (with_reducible refine stop_load 24 rfl ?_) | (with_reducible refine stop_store 24 rfl ?_) | (with_reducible refine stop_load 58 rfl ?_) | (with_reducible refine stop_store 58 rfl ?_))
  refine go_loadG rfl rfl (k := 0) rfl hP2 [c0, c1, c2, c3, c4, c5, c6, c7, c8, c9, c10, c11, c12, c13] rfl Try.underlying30 rfl (by kernel_rfl) ?_
  go_wp2_with (first | (with_reducible refine stop_load 30 rfl ?_) | (with_reducible refine stop_store 30 rfl ?_) | (with_reducible refine stop_load 28 rfl ?_) | (with_reducible refine stop_store 28 rfl ?_) | (with_reducible refine stop_load 49 rfl ?_) | (with_reducible refine stop_store 49 rfl ?_) | (with_reducible refine stop_load 24 rfl ?_) | (with_reducible refine stop_store 24 rfl ?_) | (with_reducible refine stop_load 58 rfl ?_) | (with_reducible refine stop_store 58 rfl ?_))
  refine go_loadG rfl rfl (k := 0) rfl hO2 [z0, z1, z2, z3, z4] rfl Try.underlying28 rfl (by kernel_rfl) ?_
  go_wp2_with (first | (with_reducible refine stop_load 30 rfl ?_) | (with_reducible refine stop_store 30 rfl ?_) | (with_reducible refine stop_load 28 rfl ?_) | (with_reducible refine stop_store 28 rfl ?_) | (with_reducible refine stop_load 49 rfl ?_) | (with_reducible refine stop_store 49 rfl ?_) | (with_reducible refine stop_load 24 rfl ?_) | (with_reducible refine stop_store 24 rfl ?_) | (with_reducible refine stop_load 58 rfl ?_) | (with_reducible refine stop_store 58 rfl ?_))
  have hc := mAsk_any (Hh.out.below b2) (Hh'.out.below b2) L1 L2.d L2.q
  rw [asks_op, hra] at hc
  go_fit (hc)
  rintro xx w3 ⟨lA, AA, nA, cA, rfl, iA, rA, hd3⟩
  have b3 := b2.trans (hd3.mono b2.size)
  have s3 := hd3.size
  have hP3 := hP2.below hd3
  have hO3 := hO2.below hd3
  have hN3 := hN2.below hd3
  have iA_3 := iA
  have rA_3 := rA
  obtain ⟨a0, a1, a2, a3, a4, a5, a6, a7, a8, a9, a10, a11, a12, a13, rfl⟩ := list_14 (iA.len : lA.length = 14)
  obtain ⟨g7, hg7⟩ : ∃ m, w3.heap.size = m := ⟨_, rfl⟩
  obtain ⟨w3z, hw3z⟩ : ∃ x, w3.alloc (.cells #[.int .i64 0, .int .i64 0, .slice none 0 0, .int .i64 0, .int .i64 0, .bool false, .int .u8 0, .int .i64 0, .int .i64 0, .slice none 0 0, .slice none 0 0, .int .i64 0, .slice none 0 0, .int .i64 0] 30) = x := ⟨_, rfl⟩
  have hZ3 : Blk w3z g7 [.int .i64 0, .int .i64 0, .slice none 0 0, .int .i64 0, .int .i64 0, .bool false, .int .u8 0, .int .i64 0, .int .i64 0, .slice none 0 0, .slice none 0 0, .int .i64 0, .slice none 0 0, .int .i64 0] 30 := by rw [← hw3z, ← hg7]; exact Blk.new w3 _ _
  have bz3 : Below w3.heap.size w3 w3z := by rw [← hw3z]; exact (Below.refl _ _).alloc (Nat.le_refl _) _
  obtain ⟨w4, hw4⟩ : ∃ x, w3z.setRow g7 #[a0, a1, a2, a3, a4, a5, a6, a7, a8, a9, a10, a11, a12, a13] = x := ⟨_, rfl⟩
  have hF4 : Fr (fun b => b = g7) w3z w4 := by rw [← hw4]; exact Fr.row (X := fun b => b = g7) rfl w3z _
  have hA4 : Blk w4 g7 [a0, a1, a2, a3, a4, a5, a6, a7, a8, a9, a10, a11, a12, a13] 30 := by rw [← hw4]; exact hZ3.setAll [a0, a1, a2, a3, a4, a5, a6, a7, a8, a9, a10, a11, a12, a13]
  have hd4 : Below w3.heap.size w3 w4 := hF4.below bz3 bz3.size (fun b hb => by have hb' : b = g7 := hb; omega)
  have b4 := b3.trans (hd4.mono b3.size)
  have s4 := hd4.size
  have hP4 := hP3.below hd4
  have hO4 := hO3.below hd4
  have hN4 := hN3.below hd4
  have iA_4 := iA_3.below hd4
  have rA_4 := rA_3.below hd4
  have Hw3z := hide hw3z
  have Hg7 := hide hg7
  have Hst3 := hide hw4
  clear hw4 hw3z hg7
  go_wp2_with (first | (with_reducible refine stop_load 30 rfl ?_) | (with_reducible refine stop_store 30 rfl ?_) | (with_reducible refine stop_load 28 rfl ?_) | (with_reducible refine stop_store 28 rfl ?_) | (with_reducible refine stop_load 49 rfl ?_) | (with_reducible refine stop_store 49 rfl ?_) | (with_reducible refine stop_load 24 rfl ?_) | (with_reducible refine stop_store 24 rfl ?_) | (with_reducible refine stop_load 58 rfl ?_) | (with_reducible refine stop_store 58 rfl ?_))
  rw [Hw3z.out]
  try rw [Hg7.out]
  refine go_store rfl rfl rfl rfl rfl hZ3 (by kernel_rfl) rfl (us := [a0, a1, a2, a3, a4, a5, a6, a7, a8, a9, a10, a11, a12, a13]) iA.ones ?_
  rw [show w3z.setRow g7 ([a0, a1, a2, a3, a4, a5, a6, a7, a8, a9, a10, a11, a12, a13] : List Value).toArray = w4 from Hst3.out]
  go_wp2_with (first | (with_reducible refine stop_load 30 rfl ?_) | (with_reducible refine stop_store 30 rfl ?_) | (with_reducible refine stop_load 28 rfl ?_) | (with_reducible refine stop_store 28 rfl ?_) | (with_reducible refine stop_load 49 rfl ?_) | (with_reducible refine stop_store 49 rfl ?_) | (with_reducible refine stop_load 24 rfl ?_) | (with_reducible refine stop_store 24 rfl ?_) | (with_reducible refine stop_load 58 rfl ?_) | (with_reducible refine stop_store 58 rfl ?_))
  refine go_loadG rfl rfl (k := 0) rfl hP4 [c0, c1, c2, c3, c4, c5, c6, c7, c8, c9, c10, c11, c12, c13] rfl Try.underlying30 rfl (by kernel_rfl) ?_
  go_wp2_with (first | (with_reducible refine stop_load 30 rfl ?_) | (with_reducible refine stop_store 30 rfl ?_) | (with_reducible refine stop_load 28 rfl ?_) | (with_reducible refine stop_store 28 rfl ?_) | (with_reducible refine stop_load 49 rfl ?_) | (with_reducible refine stop_store 49 rfl ?_) | (with_reducible refine stop_load 24 rfl ?_) | (with_reducible refine stop_store 24 rfl ?_) | (with_reducible refine stop_load 58 rfl ?_) | (with_reducible refine stop_store 58 rfl ?_))
  refine go_loadG rfl rfl (k := 0) rfl hO4 [z0, z1, z2, z3, z4] rfl Try.underlying28 rfl (by kernel_rfl) ?_
  go_wp2_with (first | (with_reducible refine stop_load 30 rfl ?_) | (with_reducible refine stop_store 30 rfl ?_) | (with_reducible refine stop_load 28 rfl ?_) | (with_reducible refine stop_store 28 rfl ?_) | (with_reducible refine stop_load 49 rfl ?_) | (with_reducible refine stop_store 49 rfl ?_) | (with_reducible refine stop_load 24 rfl ?_) | (with_reducible refine stop_store 24 rfl ?_) | (with_reducible refine stop_load 58 rfl ?_) | (with_reducible refine stop_store 58 rfl ?_))
  have hc := rAsk_any (Hh.out.below b4) (Hh'.out.below b4)
  rw [hra] at hc
  go_fit (hc)
  rintro xx w5 ⟨lB, AB, nB, cB, rfl, iB, rB, hd5⟩
  have b5 := b4.trans (hd5.mono b4.size)
  have s5 := hd5.size
  have hP5 := hP4.below hd5
  have hO5 := hO4.below hd5
  have hN5 := hN4.below hd5
  have iA_5 := iA_4.below hd5
  have rA_5 := rA_4.below hd5
  have hA5 := hA4.below hd5
  have iB_5 := iB
  have rB_5 := rB
  obtain ⟨m0, m1, m2, m3, m4, m5, m6, m7, m8, m9, m10, m11, m12, m13, rfl⟩ := list_14 (iB.len : lB.length = 14)
  obtain ⟨g10, hg10⟩ : ∃ m, w5.heap.size = m := ⟨_, rfl⟩
  obtain ⟨w5z, hw5z⟩ : ∃ x, w5.alloc (.cells #[.int .i64 0, .int .i64 0, .slice none 0 0, .int .i64 0, .int .i64 0, .bool false, .int .u8 0, .int .i64 0, .int .i64 0, .slice none 0 0, .slice none 0 0, .int .i64 0, .slice none 0 0, .int .i64 0] 30) = x := ⟨_, rfl⟩
  have hZ5 : Blk w5z g10 [.int .i64 0, .int .i64 0, .slice none 0 0, .int .i64 0, .int .i64 0, .bool false, .int .u8 0, .int .i64 0, .int .i64 0, .slice none 0 0, .slice none 0 0, .int .i64 0, .slice none 0 0, .int .i64 0] 30 := by rw [← hw5z, ← hg10]; exact Blk.new w5 _ _
  have bz5 : Below w5.heap.size w5 w5z := by rw [← hw5z]; exact (Below.refl _ _).alloc (Nat.le_refl _) _
  obtain ⟨w6, hw6⟩ : ∃ x, w5z.setRow g10 #[m0, m1, m2, m3, m4, m5, m6, m7, m8, m9, m10, m11, m12, m13] = x := ⟨_, rfl⟩
  have hF6 : Fr (fun b => b = g10) w5z w6 := by rw [← hw6]; exact Fr.row (X := fun b => b = g10) rfl w5z _
  have hB6 : Blk w6 g10 [m0, m1, m2, m3, m4, m5, m6, m7, m8, m9, m10, m11, m12, m13] 30 := by rw [← hw6]; exact hZ5.setAll [m0, m1, m2, m3, m4, m5, m6, m7, m8, m9, m10, m11, m12, m13]
  have hd6 : Below w5.heap.size w5 w6 := hF6.below bz5 bz5.size (fun b hb => by have hb' : b = g10 := hb; omega)
  have b6 := b5.trans (hd6.mono b5.size)
  have s6 := hd6.size
  have hP6 := hP5.below hd6
  have hO6 := hO5.below hd6
  have hN6 := hN5.below hd6
  have iA_6 := iA_5.below hd6
  have rA_6 := rA_5.below hd6
  have hA6 := hA5.below hd6
  have iB_6 := iB_5.below hd6
  have rB_6 := rB_5.below hd6
  have Hw5z := hide hw5z
  have Hg10 := hide hg10
  have Hst5 := hide hw6
  clear hw6 hw5z hg10
  go_wp2_with (first | (with_reducible refine stop_load 30 rfl ?_) | (with_reducible refine stop_store 30 rfl ?_) | (with_reducible refine stop_load 28 rfl ?_) | (with_reducible refine stop_store 28 rfl ?_) | (with_reducible refine stop_load 49 rfl ?_) | (with_reducible refine stop_store 49 rfl ?_) | (with_reducible refine stop_load 24 rfl ?_) | (with_reducible refine stop_store 24 rfl ?_) | (with_reducible refine stop_load 58 rfl ?_) | (with_reducible refine stop_store 58 rfl ?_))
  rw [Hw5z.out]
  try rw [Hg10.out]
  refine go_store rfl rfl rfl rfl rfl hZ5 (by kernel_rfl) rfl (us := [m0, m1, m2, m3, m4, m5, m6, m7, m8, m9, m10, m11, m12, m13]) iB.ones ?_
  rw [show w5z.setRow g10 ([m0, m1, m2, m3, m4, m5, m6, m7, m8, m9, m10, m11, m12, m13] : List Value).toArray = w6 from Hst5.out]
  go_wp2_with (first | (with_reducible refine stop_load 30 rfl ?_) | (with_reducible refine stop_store 30 rfl ?_) | (with_reducible refine stop_load 28 rfl ?_) | (with_reducible refine stop_store 28 rfl ?_) | (with_reducible refine stop_load 49 rfl ?_) | (with_reducible refine stop_store 49 rfl ?_) | (with_reducible refine stop_load 24 rfl ?_) | (with_reducible refine stop_store 24 rfl ?_) | (with_reducible refine stop_load 58 rfl ?_) | (with_reducible refine stop_store 58 rfl ?_))
  refine go_loadG rfl rfl (k := 0) rfl hP6 [c0, c1, c2, c3, c4, c5, c6, c7, c8, c9, c10, c11, c12, c13] rfl Try.underlying30 rfl (by kernel_rfl) ?_
  go_wp2_with (first | (with_reducible refine stop_load 30 rfl ?_) | (with_reducible refine stop_store 30 rfl ?_) | (with_reducible refine stop_load 28 rfl ?_) | (with_reducible refine stop_store 28 rfl ?_) | (with_reducible refine stop_load 49 rfl ?_) | (with_reducible refine stop_store 49 rfl ?_) | (with_reducible refine stop_load 24 rfl ?_) | (with_reducible refine stop_store 24 rfl ?_) | (with_reducible refine stop_load 58 rfl ?_) | (with_reducible refine stop_store 58 rfl ?_))
  refine go_loadG rfl rfl (k := 0) rfl hN6 [n0, n1] rfl Try.underlying24 rfl (by kernel_rfl) ?_
  go_wp2_with (first | (with_reducible refine stop_load 30 rfl ?_) | (with_reducible refine stop_store 30 rfl ?_) | (with_reducible refine stop_load 28 rfl ?_) | (with_reducible refine stop_store 28 rfl ?_) | (with_reducible refine stop_load 49 rfl ?_) | (with_reducible refine stop_store 49 rfl ?_) | (with_reducible refine stop_load 24 rfl ?_) | (with_reducible refine stop_store 24 rfl ?_) | (with_reducible refine stop_load 58 rfl ?_) | (with_reducible refine stop_store 58 rfl ?_))
  have hc := mMove_any (Hh.out.below b6) (Hh''.out.below b6) L1 L2.n
  rw [asks_gr, hrm] at hc
  go_fit (hc)
  rintro xx w7 ⟨lC, AC, nC, cC, rfl, iC, rC, hd7⟩
  have b7 := b6.trans (hd7.mono b6.size)
  have s7 := hd7.size
  have hP7 := hP6.below hd7
  have hO7 := hO6.below hd7
  have hN7 := hN6.below hd7
  have iA_7 := iA_6.below hd7
  have rA_7 := rA_6.below hd7
  have hA7 := hA6.below hd7
  have iB_7 := iB_6.below hd7
  have rB_7 := rB_6.below hd7
  have hB7 := hB6.below hd7
  have iC_7 := iC
  have rC_7 := rC
  obtain ⟨p0, p1, p2, p3, p4, p5, p6, p7, p8, p9, p10, p11, p12, p13, rfl⟩ := list_14 (iC.len : lC.length = 14)
  obtain ⟨g13, hg13⟩ : ∃ m, w7.heap.size = m := ⟨_, rfl⟩
  obtain ⟨w7z, hw7z⟩ : ∃ x, w7.alloc (.cells #[.int .i64 0, .int .i64 0, .slice none 0 0, .int .i64 0, .int .i64 0, .bool false, .int .u8 0, .int .i64 0, .int .i64 0, .slice none 0 0, .slice none 0 0, .int .i64 0, .slice none 0 0, .int .i64 0] 30) = x := ⟨_, rfl⟩
  have hZ7 : Blk w7z g13 [.int .i64 0, .int .i64 0, .slice none 0 0, .int .i64 0, .int .i64 0, .bool false, .int .u8 0, .int .i64 0, .int .i64 0, .slice none 0 0, .slice none 0 0, .int .i64 0, .slice none 0 0, .int .i64 0] 30 := by rw [← hw7z, ← hg13]; exact Blk.new w7 _ _
  have bz7 : Below w7.heap.size w7 w7z := by rw [← hw7z]; exact (Below.refl _ _).alloc (Nat.le_refl _) _
  obtain ⟨w8, hw8⟩ : ∃ x, w7z.setRow g13 #[p0, p1, p2, p3, p4, p5, p6, p7, p8, p9, p10, p11, p12, p13] = x := ⟨_, rfl⟩
  have hF8 : Fr (fun b => b = g13) w7z w8 := by rw [← hw8]; exact Fr.row (X := fun b => b = g13) rfl w7z _
  have hC8 : Blk w8 g13 [p0, p1, p2, p3, p4, p5, p6, p7, p8, p9, p10, p11, p12, p13] 30 := by rw [← hw8]; exact hZ7.setAll [p0, p1, p2, p3, p4, p5, p6, p7, p8, p9, p10, p11, p12, p13]
  have hd8 : Below w7.heap.size w7 w8 := hF8.below bz7 bz7.size (fun b hb => by have hb' : b = g13 := hb; omega)
  have b8 := b7.trans (hd8.mono b7.size)
  have s8 := hd8.size
  have hP8 := hP7.below hd8
  have hO8 := hO7.below hd8
  have hN8 := hN7.below hd8
  have iA_8 := iA_7.below hd8
  have rA_8 := rA_7.below hd8
  have hA8 := hA7.below hd8
  have iB_8 := iB_7.below hd8
  have rB_8 := rB_7.below hd8
  have hB8 := hB7.below hd8
  have iC_8 := iC_7.below hd8
  have rC_8 := rC_7.below hd8
  have Hw7z := hide hw7z
  have Hg13 := hide hg13
  have Hst7 := hide hw8
  clear hw8 hw7z hg13
  go_wp2_with (first | (with_reducible refine stop_load 30 rfl ?_) | (with_reducible refine stop_store 30 rfl ?_) | (with_reducible refine stop_load 28 rfl ?_) | (with_reducible refine stop_store 28 rfl ?_) | (with_reducible refine stop_load 49 rfl ?_) | (with_reducible refine stop_store 49 rfl ?_) | (with_reducible refine stop_load 24 rfl ?_) | (with_reducible refine stop_store 24 rfl ?_) | (with_reducible refine stop_load 58 rfl ?_) | (with_reducible refine stop_store 58 rfl ?_))
  rw [Hw7z.out]
  try rw [Hg13.out]
  refine go_store rfl rfl rfl rfl rfl hZ7 (by kernel_rfl) rfl (us := [p0, p1, p2, p3, p4, p5, p6, p7, p8, p9, p10, p11, p12, p13]) iC.ones ?_
  rw [show w7z.setRow g13 ([p0, p1, p2, p3, p4, p5, p6, p7, p8, p9, p10, p11, p12, p13] : List Value).toArray = w8 from Hst7.out]
  go_wp2_with (first | (with_reducible refine stop_load 30 rfl ?_) | (with_reducible refine stop_store 30 rfl ?_) | (with_reducible refine stop_load 28 rfl ?_) | (with_reducible refine stop_store 28 rfl ?_) | (with_reducible refine stop_load 49 rfl ?_) | (with_reducible refine stop_store 49 rfl ?_) | (with_reducible refine stop_load 24 rfl ?_) | (with_reducible refine stop_store 24 rfl ?_) | (with_reducible refine stop_load 58 rfl ?_) | (with_reducible refine stop_store 58 rfl ?_))
  refine go_loadG rfl rfl (k := 0) rfl hP8 [c0, c1, c2, c3, c4, c5, c6, c7, c8, c9, c10, c11, c12, c13] rfl Try.underlying30 rfl (by kernel_rfl) ?_
  go_wp2_with (first | (with_reducible refine stop_load 30 rfl ?_) | (with_reducible refine stop_store 30 rfl ?_) | (with_reducible refine stop_load 28 rfl ?_) | (with_reducible refine stop_store 28 rfl ?_) | (with_reducible refine stop_load 49 rfl ?_) | (with_reducible refine stop_store 49 rfl ?_) | (with_reducible refine stop_load 24 rfl ?_) | (with_reducible refine stop_store 24 rfl ?_) | (with_reducible refine stop_load 58 rfl ?_) | (with_reducible refine stop_store 58 rfl ?_))
  refine go_loadG rfl rfl (k := 0) rfl hN8 [n0, n1] rfl Try.underlying24 rfl (by kernel_rfl) ?_
  go_wp2_with (first | (with_reducible refine stop_load 30 rfl ?_) | (with_reducible refine stop_store 30 rfl ?_) | (with_reducible refine stop_load 28 rfl ?_) | (with_reducible refine stop_store 28 rfl ?_) | (with_reducible refine stop_load 49 rfl ?_) | (with_reducible refine stop_store 49 rfl ?_) | (with_reducible refine stop_load 24 rfl ?_) | (with_reducible refine stop_store 24 rfl ?_) | (with_reducible refine stop_load 58 rfl ?_) | (with_reducible refine stop_store 58 rfl ?_))
  have hc := rMove_any (Hh.out.below b8) (Hh''.out.below b8)
  rw [chk_grK, hrm] at hc
  go_fit (hc)
  rintro xx w9 ⟨lD, AD, nD, cD, rfl, iD, rD, hd9⟩
  have b9 := b8.trans (hd9.mono b8.size)
  have s9 := hd9.size
  have hP9 := hP8.below hd9
  have hO9 := hO8.below hd9
  have hN9 := hN8.below hd9
  have iA_9 := iA_8.below hd9
  have rA_9 := rA_8.below hd9
  have hA9 := hA8.below hd9
  have iB_9 := iB_8.below hd9
  have rB_9 := rB_8.below hd9
  have hB9 := hB8.below hd9
  have iC_9 := iC_8.below hd9
  have rC_9 := rC_8.below hd9
  have hC9 := hC8.below hd9
  have iD_9 := iD
  have rD_9 := rD
  obtain ⟨y0, y1, y2, y3, y4, y5, y6, y7, y8, y9, y10, y11, y12, y13, rfl⟩ := list_14 (iD.len : lD.length = 14)
  obtain ⟨g16, hg16⟩ : ∃ m, w9.heap.size = m := ⟨_, rfl⟩
  obtain ⟨w9z, hw9z⟩ : ∃ x, w9.alloc (.cells #[.int .i64 0, .int .i64 0, .slice none 0 0, .int .i64 0, .int .i64 0, .bool false, .int .u8 0, .int .i64 0, .int .i64 0, .slice none 0 0, .slice none 0 0, .int .i64 0, .slice none 0 0, .int .i64 0] 30) = x := ⟨_, rfl⟩
  have hZ9 : Blk w9z g16 [.int .i64 0, .int .i64 0, .slice none 0 0, .int .i64 0, .int .i64 0, .bool false, .int .u8 0, .int .i64 0, .int .i64 0, .slice none 0 0, .slice none 0 0, .int .i64 0, .slice none 0 0, .int .i64 0] 30 := by rw [← hw9z, ← hg16]; exact Blk.new w9 _ _
  have bz9 : Below w9.heap.size w9 w9z := by rw [← hw9z]; exact (Below.refl _ _).alloc (Nat.le_refl _) _
  obtain ⟨w10, hw10⟩ : ∃ x, w9z.setRow g16 #[y0, y1, y2, y3, y4, y5, y6, y7, y8, y9, y10, y11, y12, y13] = x := ⟨_, rfl⟩
  have hF10 : Fr (fun b => b = g16) w9z w10 := by rw [← hw10]; exact Fr.row (X := fun b => b = g16) rfl w9z _
  have hD10 : Blk w10 g16 [y0, y1, y2, y3, y4, y5, y6, y7, y8, y9, y10, y11, y12, y13] 30 := by rw [← hw10]; exact hZ9.setAll [y0, y1, y2, y3, y4, y5, y6, y7, y8, y9, y10, y11, y12, y13]
  have hd10 : Below w9.heap.size w9 w10 := hF10.below bz9 bz9.size (fun b hb => by have hb' : b = g16 := hb; omega)
  have b10 := b9.trans (hd10.mono b9.size)
  have s10 := hd10.size
  have hP10 := hP9.below hd10
  have hO10 := hO9.below hd10
  have hN10 := hN9.below hd10
  have iA_10 := iA_9.below hd10
  have rA_10 := rA_9.below hd10
  have hA10 := hA9.below hd10
  have iB_10 := iB_9.below hd10
  have rB_10 := rB_9.below hd10
  have hB10 := hB9.below hd10
  have iC_10 := iC_9.below hd10
  have rC_10 := rC_9.below hd10
  have hC10 := hC9.below hd10
  have iD_10 := iD_9.below hd10
  have rD_10 := rD_9.below hd10
  have Hw9z := hide hw9z
  have Hg16 := hide hg16
  have Hst9 := hide hw10
  clear hw10 hw9z hg16
  go_wp2_with (first | (with_reducible refine stop_load 30 rfl ?_) | (with_reducible refine stop_store 30 rfl ?_) | (with_reducible refine stop_load 28 rfl ?_) | (with_reducible refine stop_store 28 rfl ?_) | (with_reducible refine stop_load 49 rfl ?_) | (with_reducible refine stop_store 49 rfl ?_) | (with_reducible refine stop_load 24 rfl ?_) | (with_reducible refine stop_store 24 rfl ?_) | (with_reducible refine stop_load 58 rfl ?_) | (with_reducible refine stop_store 58 rfl ?_))
  rw [Hw9z.out]
  try rw [Hg16.out]
  refine go_store rfl rfl rfl rfl rfl hZ9 (by kernel_rfl) rfl (us := [y0, y1, y2, y3, y4, y5, y6, y7, y8, y9, y10, y11, y12, y13]) iD.ones ?_
  rw [show w9z.setRow g16 ([y0, y1, y2, y3, y4, y5, y6, y7, y8, y9, y10, y11, y12, y13] : List Value).toArray = w10 from Hst9.out]
  go_wp2_with (first | (with_reducible refine stop_load 30 rfl ?_) | (with_reducible refine stop_store 30 rfl ?_) | (with_reducible refine stop_load 28 rfl ?_) | (with_reducible refine stop_store 28 rfl ?_) | (with_reducible refine stop_load 49 rfl ?_) | (with_reducible refine stop_store 49 rfl ?_) | (with_reducible refine stop_load 24 rfl ?_) | (with_reducible refine stop_store 24 rfl ?_) | (with_reducible refine stop_load 58 rfl ?_) | (with_reducible refine stop_store 58 rfl ?_))
  obtain ⟨e1, he1⟩ : ∃ z, ra.2.2 = z := ⟨_, rfl⟩
  obtain ⟨e2, he2⟩ : ∃ z, rm.2.2 = z := ⟨_, rfl⟩
  rw [he1, he2]
  have te1 : (e1 == e1) = true := by simp
  have te2 : (e2 == e2) = true := by simp
  clear he1 he2
  refine go_loadG rfl rfl (k := 0) rfl hA10 [a0, a1, a2, a3, a4, a5, a6, a7, a8, a9, a10, a11, a12, a13] rfl Try.underlying30 rfl (by kernel_rfl) ?_
  go_wp2_with (first | (with_reducible refine stop_load 30 rfl ?_) | (with_reducible refine stop_store 30 rfl ?_) | (with_reducible refine stop_load 28 rfl ?_) | (with_reducible refine stop_store 28 rfl ?_) | (with_reducible refine stop_load 49 rfl ?_) | (with_reducible refine stop_store 49 rfl ?_) | (with_reducible refine stop_load 24 rfl ?_) | (with_reducible refine stop_store 24 rfl ?_) | (with_reducible refine stop_load 58 rfl ?_) | (with_reducible refine stop_store 58 rfl ?_))
  refine go_loadG rfl rfl (k := 0) rfl hB10 [m0, m1, m2, m3, m4, m5, m6, m7, m8, m9, m10, m11, m12, m13] rfl Try.underlying30 rfl (by kernel_rfl) ?_
  go_wp2_with (first | (with_reducible refine stop_load 30 rfl ?_) | (with_reducible refine stop_store 30 rfl ?_) | (with_reducible refine stop_load 28 rfl ?_) | (with_reducible refine stop_store 28 rfl ?_) | (with_reducible refine stop_load 49 rfl ?_) | (with_reducible refine stop_store 49 rfl ?_) | (with_reducible refine stop_load 24 rfl ?_) | (with_reducible refine stop_store 24 rfl ?_) | (with_reducible refine stop_load 58 rfl ?_) | (with_reducible refine stop_store 58 rfl ?_))
  have hh := rprS_any iA_10 iB_10
  rw [eqPr_self] at hh
  go_fit (hh)
  rintro xx w11 ⟨rfl, hd11⟩
  have b11 := b10.trans (hd11.mono b10.size)
  have s11 := hd11.size
  have hP11 := hP10.below hd11
  have hO11 := hO10.below hd11
  have hN11 := hN10.below hd11
  have iA_11 := iA_10.below hd11
  have rA_11 := rA_10.below hd11
  have hA11 := hA10.below hd11
  have iB_11 := iB_10.below hd11
  have rB_11 := rB_10.below hd11
  have hB11 := hB10.below hd11
  have iC_11 := iC_10.below hd11
  have rC_11 := rC_10.below hd11
  have hC11 := hC10.below hd11
  have iD_11 := iD_10.below hd11
  have rD_11 := rD_10.below hd11
  have hD11 := hD10.below hd11
  go_wp2_with (first | (with_reducible refine stop_load 30 rfl ?_) | (with_reducible refine stop_store 30 rfl ?_) | (with_reducible refine stop_load 28 rfl ?_) | (with_reducible refine stop_store 28 rfl ?_) | (with_reducible refine stop_load 49 rfl ?_) | (with_reducible refine stop_store 49 rfl ?_) | (with_reducible refine stop_load 24 rfl ?_) | (with_reducible refine stop_store 24 rfl ?_) | (with_reducible refine stop_load 58 rfl ?_) | (with_reducible refine stop_store 58 rfl ?_))
  go_fit (sameAll_is rA_11 rB_11)
  rintro xx w12 ⟨rfl, hd12⟩
  have b12 := b11.trans (hd12.mono b11.size)
  have s12 := hd12.size
  have hP12 := hP11.below hd12
  have hO12 := hO11.below hd12
  have hN12 := hN11.below hd12
  have iA_12 := iA_11.below hd12
  have rA_12 := rA_11.below hd12
  have hA12 := hA11.below hd12
  have iB_12 := iB_11.below hd12
  have rB_12 := rB_11.below hd12
  have hB12 := hB11.below hd12
  have iC_12 := iC_11.below hd12
  have rC_12 := rC_11.below hd12
  have hC12 := hC11.below hd12
  have iD_12 := iD_11.below hd12
  have rD_12 := rD_11.below hd12
  have hD12 := hD11.below hd12
  go_wp2_with (first | (with_reducible refine stop_load 30 rfl ?_) | (with_reducible refine stop_store 30 rfl ?_) | (with_reducible refine stop_load 28 rfl ?_) | (with_reducible refine stop_store 28 rfl ?_) | (with_reducible refine stop_load 49 rfl ?_) | (with_reducible refine stop_store 49 rfl ?_) | (with_reducible refine stop_load 24 rfl ?_) | (with_reducible refine stop_store 24 rfl ?_) | (with_reducible refine stop_load 58 rfl ?_) | (with_reducible refine stop_store 58 rfl ?_))
  refine go_loadG rfl rfl (k := 0) rfl hC12 [p0, p1, p2, p3, p4, p5, p6, p7, p8, p9, p10, p11, p12, p13] rfl Try.underlying30 rfl (by kernel_rfl) ?_
  go_wp2_with (first | (with_reducible refine stop_load 30 rfl ?_) | (with_reducible refine stop_store 30 rfl ?_) | (with_reducible refine stop_load 28 rfl ?_) | (with_reducible refine stop_store 28 rfl ?_) | (with_reducible refine stop_load 49 rfl ?_) | (with_reducible refine stop_store 49 rfl ?_) | (with_reducible refine stop_load 24 rfl ?_) | (with_reducible refine stop_store 24 rfl ?_) | (with_reducible refine stop_load 58 rfl ?_) | (with_reducible refine stop_store 58 rfl ?_))
  refine go_loadG rfl rfl (k := 0) rfl hD12 [y0, y1, y2, y3, y4, y5, y6, y7, y8, y9, y10, y11, y12, y13] rfl Try.underlying30 rfl (by kernel_rfl) ?_
  go_wp2_with (first | (with_reducible refine stop_load 30 rfl ?_) | (with_reducible refine stop_store 30 rfl ?_) | (with_reducible refine stop_load 28 rfl ?_) | (with_reducible refine stop_store 28 rfl ?_) | (with_reducible refine stop_load 49 rfl ?_) | (with_reducible refine stop_store 49 rfl ?_) | (with_reducible refine stop_load 24 rfl ?_) | (with_reducible refine stop_store 24 rfl ?_) | (with_reducible refine stop_load 58 rfl ?_) | (with_reducible refine stop_store 58 rfl ?_))
  have hh := rprS_any iC_12 iD_12
  rw [eqPr_self] at hh
  go_fit (hh)
  rintro xx w13 ⟨rfl, hd13⟩
  have b13 := b12.trans (hd13.mono b12.size)
  have s13 := hd13.size
  have hP13 := hP12.below hd13
  have hO13 := hO12.below hd13
  have hN13 := hN12.below hd13
  have iA_13 := iA_12.below hd13
  have rA_13 := rA_12.below hd13
  have hA13 := hA12.below hd13
  have iB_13 := iB_12.below hd13
  have rB_13 := rB_12.below hd13
  have hB13 := hB12.below hd13
  have iC_13 := iC_12.below hd13
  have rC_13 := rC_12.below hd13
  have hC13 := hC12.below hd13
  have iD_13 := iD_12.below hd13
  have rD_13 := rD_12.below hd13
  have hD13 := hD12.below hd13
  go_wp2_with (first | (with_reducible refine stop_load 30 rfl ?_) | (with_reducible refine stop_store 30 rfl ?_) | (with_reducible refine stop_load 28 rfl ?_) | (with_reducible refine stop_store 28 rfl ?_) | (with_reducible refine stop_load 49 rfl ?_) | (with_reducible refine stop_store 49 rfl ?_) | (with_reducible refine stop_load 24 rfl ?_) | (with_reducible refine stop_store 24 rfl ?_) | (with_reducible refine stop_load 58 rfl ?_) | (with_reducible refine stop_store 58 rfl ?_))
  go_fit (sameAll_is rC_13 rD_13)
  rintro xx w14 ⟨rfl, hd14⟩
  have b14 := b13.trans (hd14.mono b13.size)
  have s14 := hd14.size
  have hP14 := hP13.below hd14
  have hO14 := hO13.below hd14
  have hN14 := hN13.below hd14
  have iA_14 := iA_13.below hd14
  have rA_14 := rA_13.below hd14
  have hA14 := hA13.below hd14
  have iB_14 := iB_13.below hd14
  have rB_14 := rB_13.below hd14
  have hB14 := hB13.below hd14
  have iC_14 := iC_13.below hd14
  have rC_14 := rC_13.below hd14
  have hC14 := hC13.below hd14
  have iD_14 := iD_13.below hd14
  have rD_14 := rD_13.below hd14
  have hD14 := hD13.below hd14
  go_wp2_with (first | (with_reducible refine stop_load 30 rfl ?_) | (with_reducible refine stop_store 30 rfl ?_) | (with_reducible refine stop_load 28 rfl ?_) | (with_reducible refine stop_store 28 rfl ?_) | (with_reducible refine stop_load 49 rfl ?_) | (with_reducible refine stop_store 49 rfl ?_) | (with_reducible refine stop_load 24 rfl ?_) | (with_reducible refine stop_store 24 rfl ?_) | (with_reducible refine stop_load 58 rfl ?_) | (with_reducible refine stop_store 58 rfl ?_))
  go_fit (awake24_any w14)
  rintro xx w15 ⟨rfl, hd15⟩
  have b15 := b14.trans (hd15.mono b14.size)
  have s15 := hd15.size
  have hP15 := hP14.below hd15
  have hO15 := hO14.below hd15
  have hN15 := hN14.below hd15
  have iA_15 := iA_14.below hd15
  have rA_15 := rA_14.below hd15
  have hA15 := hA14.below hd15
  have iB_15 := iB_14.below hd15
  have rB_15 := rB_14.below hd15
  have hB15 := hB14.below hd15
  have iC_15 := iC_14.below hd15
  have rC_15 := rC_14.below hd15
  have hC15 := hC14.below hd15
  have iD_15 := iD_14.below hd15
  have rD_15 := rD_14.below hd15
  have hD15 := hD14.below hd15
  go_wp2
  go_ret
  exact ⟨by first | rfl | simp, b15⟩
end Go.Proofs.Ytlcbelmbonaooaa
