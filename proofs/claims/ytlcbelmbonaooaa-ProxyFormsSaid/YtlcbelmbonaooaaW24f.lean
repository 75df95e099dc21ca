/- Stage 24: the law ProxyForms (written by gen_24u.py). -/
import Derived.Test.YtlcbelmbonaooaaGua
import Derived.Test.YtlcbelmbonaooaaF24c
namespace Go.Proofs.Ytlcbelmbonaooaa
set_option maxRecDepth 20000
open Go.RowKit Go.Px Go.Maps Go.Deep
set_option linter.unusedVariables false
set_option linter.unusedSimpArgs false
set_option maxRecDepth 20000 in
set_option maxHeartbeats 25600000 in
theorem proxyForms_walk {w : World} {Q Q' Q'' : Nat → Prop} {x y : ProxyD} {g : GroupD} {id : Int} {cs ds es : List Value} (h : tyProxy.Is w Q x cs) (h' : tyProxy.Is w Q' y ds) (h'' : tyGroup.Is w Q'' g es) (i1 : -9223372036854775808 ≤ id) (i2 : id ≤ 9223372036854775807) (r1 : RchP x) (r2 : RchP y) :
    Calls Try.prog 3 #[.agg cs.toArray, .agg ds.toArray, .int .i64 id, .agg es.toArray] w fun e w' => e = .returned (.bool true) ∧ Below w.heap.size w w' := by
  obtain ⟨c0, c1, c2, c3, c4, c5, c6, c7, c8, c9, c10, c11, c12, c13, rfl⟩ := list_14 (h.len : cs.length = 14)
  obtain ⟨e0, e1, e2, e3, e4, e5, e6, e7, e8, e9, e10, e11, e12, e13, rfl⟩ := list_14 (h'.len : ds.length = 14)
  obtain ⟨k0, k1, rfl⟩ := list_2 (h''.len : es.length = 2)
  obtain ⟨gA, gn, gc, rfl, rfl, -, gl1, -⟩ := Group_cells h''
  obtain ⟨gg, hgg⟩ : ∃ g, w.heap.size = g := ⟨_, rfl⟩
  obtain ⟨w0, hw0⟩ : ∃ x, ((w.alloc (.cells #[c0, c1, c2, c3, c4, c5, c6, c7, c8, c9, c10, c11, c12, c13] 30)).alloc (.cells #[e0, e1, e2, e3, e4, e5, e6, e7, e8, e9, e10, e11, e12, e13] 30)).alloc (.cells #[.int .i64 g.1, .slice gA gn gc] 24) = x := ⟨_, rfl⟩
  have hP0 : Blk w0 gg [c0, c1, c2, c3, c4, c5, c6, c7, c8, c9, c10, c11, c12, c13] 30 := by rw [← hw0, ← hgg]; exact ((Blk.new w _ _).alloc _).alloc _
  have hQ0 : Blk w0 (gg + 1) [e0, e1, e2, e3, e4, e5, e6, e7, e8, e9, e10, e11, e12, e13] 30 := by
    rw [← hw0, ← hgg]
    have := Blk.new (w.alloc (.cells #[c0, c1, c2, c3, c4, c5, c6, c7, c8, c9, c10, c11, c12, c13] 30)) [e0, e1, e2, e3, e4, e5, e6, e7, e8, e9, e10, e11, e12, e13] 30
    rw [World.size_alloc] at this
    exact this.alloc _
  have hG0 : Blk w0 (gg + 2) [.int .i64 g.1, .slice gA gn gc] 24 := by
    rw [← hw0, ← hgg]
    have := Blk.new ((w.alloc (.cells #[c0, c1, c2, c3, c4, c5, c6, c7, c8, c9, c10, c11, c12, c13] 30)).alloc (.cells #[e0, e1, e2, e3, e4, e5, e6, e7, e8, e9, e10, e11, e12, e13] 30)) [.int .i64 g.1, .slice gA gn gc] 24
    rw [World.size_alloc, World.size_alloc] at this
    exact this
  have b0 : Below w.heap.size w w0 := by rw [← hw0]; exact (((Below.refl _ _).alloc (Nat.le_refl _) _).alloc (by simp) _).alloc (by simp; omega) _
  have gl := hG0.lt
  have Hw0 := hide hw0
  have s0 := b0.size
  have Hh := hide h
  have Hh' := hide h'
  have Hh'' := hide h''
  clear hw0 h h' h''
  go_enter Try.func3, Try.ntmps3
  go_wp2_with (first | (with_reducible refine stop_load 30 rfl ?_) | (with_reducible refine stop_store 30 rfl ?_) | (with_reducible refine stop_load 28 rfl ?_) | (with_reducible refine stop_store 28 rfl ?_) | (with_reducible refine stop_load 49 rfl ?_) | (with_reducible refine stop_store 49 rfl ?_) | (with_reducible refine stop_load 24 rfl ?_) | (with_reducible refine stop_store 24 rfl ?_) | (with_reducible refine stop_load 58 rfl ?_) | (with_reducible refine stop_store 58 rfl ?_))
  rw [Hw0.out]
  refine go_loadG rfl rfl (k := 0) rfl hP0 [c0, c1, c2, c3, c4, c5, c6, c7, c8, c9, c10, c11, c12, c13] rfl Try.underlying30 rfl (by kernel_rfl) ?_
  go_wp2_with (first | (with_reducible refine stop_load 30 rfl ?_) | (with_reducible refine stop_store 30 rfl ?_) | (with_reducible refine stop_load 28 rfl ?_) | (with_reducible refine stop_store 28 rfl ?_) | (with_reducible refine stop_load 49 rfl ?_) | (with_reducible refine stop_store 49 rfl ?_) | (with_reducible refine stop_load 24 rfl ?_) | (with_reducible refine stop_store 24 rfl ?_) | (with_reducible refine stop_load 58 rfl ?_) | (with_reducible refine stop_store 58 rfl ?_))
  go_fit (small24_any (Hh.out.below b0) r1)
  rintro xx w1 ⟨rfl, hd1⟩
  have b1 := b0.trans (hd1.mono b0.size)
  have s1 := hd1.size
  have hP1 := hP0.below hd1
  have hQ1 := hQ0.below hd1
  have hG1 := hG0.below hd1
  rcases bool_two (smB x) with q1 | q1
  rotate_left
  · rw [q1]
    go_wp2_with (first | (with_reducible refine stop_load 30 rfl ?_) | (with_reducible refine stop_store 30 rfl ?_) | (with_reducible refine stop_load 28 rfl ?_) | (with_reducible refine stop_store 28 rfl ?_) | (with_reducible refine stop_load 49 rfl ?_) | (with_reducible refine stop_store 49 rfl ?_) | (with_reducible refine stop_load 24 rfl ?_) | (with_reducible refine stop_store 24 rfl ?_) | (with_reducible refine stop_load 58 rfl ?_) | (with_reducible refine stop_store 58 rfl ?_))
    repeat (refine go_skipG rfl ?_; go_wp2_with (first | (with_reducible refine stop_load 30 rfl ?_) | (with_reducible refine stop_store 30 rfl ?_) | (with_reducible refine stop_load 28 rfl ?_) | (with_reducible refine stop_store 28 rfl ?_) | (with_reducible refine stop_load 49 rfl ?_) | (with_reducible refine stop_store 49 rfl ?_) | (with_reducible refine stop_load 24 rfl ?_) | (with_reducible refine stop_store 24 rfl ?_) | (with_reducible refine stop_load 58 rfl ?_) | (with_reducible refine stop_store 58 rfl ?_)))
    go_fit (awake24_any w1)
    rintro xx wz ⟨rfl, hdz⟩
    go_wp2
    go_ret
    exact ⟨rfl, b1.trans (hdz.mono b1.size)⟩
  rw [q1]
  go_wp2_with (first | (with_reducible refine stop_load 30 rfl ?_) | (with_reducible refine stop_store 30 rfl ?_) | (with_reducible refine stop_load 28 rfl ?_) | (with_reducible refine stop_store 28 rfl ?_) | (with_reducible refine stop_load 49 rfl ?_) | (with_reducible refine stop_store 49 rfl ?_) | (with_reducible refine stop_load 24 rfl ?_) | (with_reducible refine stop_store 24 rfl ?_) | (with_reducible refine stop_load 58 rfl ?_) | (with_reducible refine stop_store 58 rfl ?_))
  refine go_loadG rfl rfl (k := 0) rfl hQ1 [e0, e1, e2, e3, e4, e5, e6, e7, e8, e9, e10, e11, e12, e13] rfl Try.underlying30 rfl (by kernel_rfl) ?_
  go_wp2_with (first | (with_reducible refine stop_load 30 rfl ?_) | (with_reducible refine stop_store 30 rfl ?_) | (with_reducible refine stop_load 28 rfl ?_) | (with_reducible refine stop_store 28 rfl ?_) | (with_reducible refine stop_load 49 rfl ?_) | (with_reducible refine stop_store 49 rfl ?_) | (with_reducible refine stop_load 24 rfl ?_) | (with_reducible refine stop_store 24 rfl ?_) | (with_reducible refine stop_load 58 rfl ?_) | (with_reducible refine stop_store 58 rfl ?_))
  go_fit (small24_any (Hh'.out.below b1) r2)
  rintro xx w2 ⟨rfl, hd2⟩
  have b2 := b1.trans (hd2.mono b1.size)
  have s2 := hd2.size
  have hP2 := hP1.below hd2
  have hQ2 := hQ1.below hd2
  have hG2 := hG1.below hd2
  have z1 := hG2.cell (j := 1) rfl
  rcases bool_two (smB y) with q2 | q2
  rotate_left
  · rw [q2]
    go_wp2_with (first | (with_reducible refine stop_load 30 rfl ?_) | (with_reducible refine stop_store 30 rfl ?_) | (with_reducible refine stop_load 28 rfl ?_) | (with_reducible refine stop_store 28 rfl ?_) | (with_reducible refine stop_load 49 rfl ?_) | (with_reducible refine stop_store 49 rfl ?_) | (with_reducible refine stop_load 24 rfl ?_) | (with_reducible refine stop_store 24 rfl ?_) | (with_reducible refine stop_load 58 rfl ?_) | (with_reducible refine stop_store 58 rfl ?_))
    repeat (refine go_skipG rfl ?_; go_wp2_with (first | (with_reducible refine stop_load 30 rfl ?_) | (with_reducible refine stop_store 30 rfl ?_) | (with_reducible refine stop_load 28 rfl ?_) | (with_reducible refine stop_store 28 rfl ?_) | (with_reducible refine stop_load 49 rfl ?_) | (with_reducible refine stop_store 49 rfl ?_) | (with_reducible refine stop_load 24 rfl ?_) | (with_reducible refine stop_store 24 rfl ?_) | (with_reducible refine stop_load 58 rfl ?_) | (with_reducible refine stop_store 58 rfl ?_)))
    go_fit (awake24_any w2)
    rintro xx wz ⟨rfl, hdz⟩
    go_wp2
    go_ret
    exact ⟨rfl, b2.trans (hdz.mono b2.size)⟩
  rw [q2]
  rcases Nat.lt_or_ge 40 gn with hlt | hge
  · have q3 : decide (40 < gn) = true := decide_eq_true hlt
    have q3' : decide ((40 : Int) < (gn : Int)) = true := decide_eq_true (by omega)
    go_wp2_with (first | (with_reducible refine stop_load 30 rfl ?_) | (with_reducible refine stop_store 30 rfl ?_) | (with_reducible refine stop_load 28 rfl ?_) | (with_reducible refine stop_store 28 rfl ?_) | (with_reducible refine stop_load 49 rfl ?_) | (with_reducible refine stop_store 49 rfl ?_) | (with_reducible refine stop_load 24 rfl ?_) | (with_reducible refine stop_store 24 rfl ?_) | (with_reducible refine stop_load 58 rfl ?_) | (with_reducible refine stop_store 58 rfl ?_))
    repeat (refine go_skipG rfl ?_; go_wp2_with (first | (with_reducible refine stop_load 30 rfl ?_) | (with_reducible refine stop_store 30 rfl ?_) | (with_reducible refine stop_load 28 rfl ?_) | (with_reducible refine stop_store 28 rfl ?_) | (with_reducible refine stop_load 49 rfl ?_) | (with_reducible refine stop_store 49 rfl ?_) | (with_reducible refine stop_load 24 rfl ?_) | (with_reducible refine stop_store 24 rfl ?_) | (with_reducible refine stop_load 58 rfl ?_) | (with_reducible refine stop_store 58 rfl ?_)))
    go_fit (awake24_any w2)
    rintro xx wz ⟨rfl, hdz⟩
    go_wp2
    go_ret
    exact ⟨rfl, b2.trans (hdz.mono b2.size)⟩
  have q3 : decide (40 < gn) = false := decide_eq_false (by omega)
  have q3' : decide ((40 : Int) < (gn : Int)) = false := decide_eq_false (by omega)
  have L1 := smB_light q1
  have L2 := smB_light q2
  have Lg : g.2.length ≤ 1099511627776 := by omega
  go_wp2_with (first | (with_reducible refine stop_load 30 rfl ?_) | (with_reducible refine stop_store 30 rfl ?_) | (with_reducible refine stop_load 28 rfl ?_) | (with_reducible refine stop_store 28 rfl ?_) | (with_reducible refine stop_load 49 rfl ?_) | (with_reducible refine stop_store 49 rfl ?_) | (with_reducible refine stop_load 24 rfl ?_) | (with_reducible refine stop_store 24 rfl ?_) | (with_reducible refine stop_load 58 rfl ?_) | (with_reducible refine stop_store 58 rfl ?_))
  refine go_loadG rfl rfl (k := 0) rfl hG2 [.int .i64 g.1, .slice gA gn gc] rfl Try.underlying24 rfl (by kernel_rfl) ?_
  go_wp2_with (first | (with_reducible refine stop_load 30 rfl ?_) | (with_reducible refine stop_store 30 rfl ?_) | (with_reducible refine stop_load 28 rfl ?_) | (with_reducible refine stop_store 28 rfl ?_) | (with_reducible refine stop_load 49 rfl ?_) | (with_reducible refine stop_store 49 rfl ?_) | (with_reducible refine stop_load 24 rfl ?_) | (with_reducible refine stop_store 24 rfl ?_) | (with_reducible refine stop_load 58 rfl ?_) | (with_reducible refine stop_store 58 rfl ?_))
  go_fit (mprN_any i1 i2 (Hh''.out.below b2) Lg)
  obtain ⟨xn, hxn⟩ : ∃ z, (if prB (newP id g) = true then newP id g else noP) = z := ⟨_, rfl⟩
  rw [hxn]
  rintro xx w3 ⟨las, rfl, iA, hd3⟩
  have b3 := b2.trans (hd3.mono b2.size)
  have s3 := hd3.size
  have hP3 := hP2.below hd3
  have hQ3 := hQ2.below hd3
  have hG3 := hG2.below hd3
  obtain ⟨a0, a1, a2, a3, a4, a5, a6, a7, a8, a9, a10, a11, a12, a13, rfl⟩ := list_14 (iA.len : las.length = 14)
  obtain ⟨g9, hg9⟩ : ∃ m, w3.heap.size = m := ⟨_, rfl⟩
  obtain ⟨w3z, hw3z⟩ : ∃ x, w3.alloc (.cells #[.int .i64 0, .int .i64 0, .slice none 0 0, .int .i64 0, .int .i64 0, .bool false, .int .u8 0, .int .i64 0, .int .i64 0, .slice none 0 0, .slice none 0 0, .int .i64 0, .slice none 0 0, .int .i64 0] 30) = x := ⟨_, rfl⟩
  have hZ3 : Blk w3z g9 [.int .i64 0, .int .i64 0, .slice none 0 0, .int .i64 0, .int .i64 0, .bool false, .int .u8 0, .int .i64 0, .int .i64 0, .slice none 0 0, .slice none 0 0, .int .i64 0, .slice none 0 0, .int .i64 0] 30 := by rw [← hw3z, ← hg9]; exact Blk.new w3 _ _
  have bz3 : Below w3.heap.size w3 w3z := by rw [← hw3z]; exact (Below.refl _ _).alloc (Nat.le_refl _) _
  obtain ⟨w4, hw4⟩ : ∃ x, w3z.setRow g9 #[a0, a1, a2, a3, a4, a5, a6, a7, a8, a9, a10, a11, a12, a13] = x := ⟨_, rfl⟩
  have hF4 : Fr (fun b => b = g9) w3z w4 := by rw [← hw4]; exact Fr.row (X := fun b => b = g9) rfl w3z _
  have hA4 : Blk w4 g9 [a0, a1, a2, a3, a4, a5, a6, a7, a8, a9, a10, a11, a12, a13] 30 := by rw [← hw4]; exact hZ3.setAll [a0, a1, a2, a3, a4, a5, a6, a7, a8, a9, a10, a11, a12, a13]
  have hd4 : Below w3.heap.size w3 w4 := hF4.below bz3 bz3.size (fun b hb => by have hb' : b = g9 := hb; omega)
  have b4 := b3.trans (hd4.mono b3.size)
  have s4 := hd4.size
  have hP4 := hP3.below hd4
  have hQ4 := hQ3.below hd4
  have hG4 := hG3.below hd4
  have iA4 := iA.below hd4
  have Hw3z := hide hw3z
  have Hg9 := hide hg9
  have Hst3 := hide hw4
  clear hw4 hw3z hg9
  go_wp2_with (first | (with_reducible refine stop_load 30 rfl ?_) | (with_reducible refine stop_store 30 rfl ?_) | (with_reducible refine stop_load 28 rfl ?_) | (with_reducible refine stop_store 28 rfl ?_) | (with_reducible refine stop_load 49 rfl ?_) | (with_reducible refine stop_store 49 rfl ?_) | (with_reducible refine stop_load 24 rfl ?_) | (with_reducible refine stop_store 24 rfl ?_) | (with_reducible refine stop_load 58 rfl ?_) | (with_reducible refine stop_store 58 rfl ?_))
  rw [Hw3z.out]
  try rw [Hg9.out]
  refine go_store rfl rfl rfl rfl rfl hZ3 (by kernel_rfl) rfl (us := [a0, a1, a2, a3, a4, a5, a6, a7, a8, a9, a10, a11, a12, a13]) iA.ones ?_
  rw [show w3z.setRow g9 ([a0, a1, a2, a3, a4, a5, a6, a7, a8, a9, a10, a11, a12, a13] : List Value).toArray = w4 from Hst3.out]
  go_wp2_with (first | (with_reducible refine stop_load 30 rfl ?_) | (with_reducible refine stop_store 30 rfl ?_) | (with_reducible refine stop_load 28 rfl ?_) | (with_reducible refine stop_store 28 rfl ?_) | (with_reducible refine stop_load 49 rfl ?_) | (with_reducible refine stop_store 49 rfl ?_) | (with_reducible refine stop_load 24 rfl ?_) | (with_reducible refine stop_store 24 rfl ?_) | (with_reducible refine stop_load 58 rfl ?_) | (with_reducible refine stop_store 58 rfl ?_))
  refine go_loadG rfl rfl (k := 0) rfl hG4 [.int .i64 g.1, .slice gA gn gc] rfl Try.underlying24 rfl (by kernel_rfl) ?_
  go_wp2_with (first | (with_reducible refine stop_load 30 rfl ?_) | (with_reducible refine stop_store 30 rfl ?_) | (with_reducible refine stop_load 28 rfl ?_) | (with_reducible refine stop_store 28 rfl ?_) | (with_reducible refine stop_load 49 rfl ?_) | (with_reducible refine stop_store 49 rfl ?_) | (with_reducible refine stop_load 24 rfl ?_) | (with_reducible refine stop_store 24 rfl ?_) | (with_reducible refine stop_load 58 rfl ?_) | (with_reducible refine stop_store 58 rfl ?_))
  go_fit (rprN_any i1 i2 (Hh''.out.below b4))
  rw [hxn]
  rintro xx w5 ⟨lbs, rfl, iB, hd5⟩
  have b5 := b4.trans (hd5.mono b4.size)
  have s5 := hd5.size
  have hP5 := hP4.below hd5
  have hQ5 := hQ4.below hd5
  have hG5 := hG4.below hd5
  have hA5 := hA4.below hd5
  have iA5 := iA4.below hd5
  obtain ⟨m0, m1, m2, m3, m4, m5, m6, m7, m8, m9, m10, m11, m12, m13, rfl⟩ := list_14 (iB.len : lbs.length = 14)
  obtain ⟨g11, hg11⟩ : ∃ m, w5.heap.size = m := ⟨_, rfl⟩
  obtain ⟨w5z, hw5z⟩ : ∃ x, w5.alloc (.cells #[.int .i64 0, .int .i64 0, .slice none 0 0, .int .i64 0, .int .i64 0, .bool false, .int .u8 0, .int .i64 0, .int .i64 0, .slice none 0 0, .slice none 0 0, .int .i64 0, .slice none 0 0, .int .i64 0] 30) = x := ⟨_, rfl⟩
  have hZ5 : Blk w5z g11 [.int .i64 0, .int .i64 0, .slice none 0 0, .int .i64 0, .int .i64 0, .bool false, .int .u8 0, .int .i64 0, .int .i64 0, .slice none 0 0, .slice none 0 0, .int .i64 0, .slice none 0 0, .int .i64 0] 30 := by rw [← hw5z, ← hg11]; exact Blk.new w5 _ _
  have bz5 : Below w5.heap.size w5 w5z := by rw [← hw5z]; exact (Below.refl _ _).alloc (Nat.le_refl _) _
  obtain ⟨w6, hw6⟩ : ∃ x, w5z.setRow g11 #[m0, m1, m2, m3, m4, m5, m6, m7, m8, m9, m10, m11, m12, m13] = x := ⟨_, rfl⟩
  have hF6 : Fr (fun b => b = g11) w5z w6 := by rw [← hw6]; exact Fr.row (X := fun b => b = g11) rfl w5z _
  have hB6 : Blk w6 g11 [m0, m1, m2, m3, m4, m5, m6, m7, m8, m9, m10, m11, m12, m13] 30 := by rw [← hw6]; exact hZ5.setAll [m0, m1, m2, m3, m4, m5, m6, m7, m8, m9, m10, m11, m12, m13]
  have hd6 : Below w5.heap.size w5 w6 := hF6.below bz5 bz5.size (fun b hb => by have hb' : b = g11 := hb; omega)
  have b6 := b5.trans (hd6.mono b5.size)
  have s6 := hd6.size
  have hP6 := hP5.below hd6
  have hQ6 := hQ5.below hd6
  have hG6 := hG5.below hd6
  have iB6 := iB.below hd6
  have Hw5z := hide hw5z
  have Hg11 := hide hg11
  have Hst5 := hide hw6
  clear hw6 hw5z hg11
  go_wp2_with (first | (with_reducible refine stop_load 30 rfl ?_) | (with_reducible refine stop_store 30 rfl ?_) | (with_reducible refine stop_load 28 rfl ?_) | (with_reducible refine stop_store 28 rfl ?_) | (with_reducible refine stop_load 49 rfl ?_) | (with_reducible refine stop_store 49 rfl ?_) | (with_reducible refine stop_load 24 rfl ?_) | (with_reducible refine stop_store 24 rfl ?_) | (with_reducible refine stop_load 58 rfl ?_) | (with_reducible refine stop_store 58 rfl ?_))
  rw [Hw5z.out]
  try rw [Hg11.out]
  refine go_store rfl rfl rfl rfl rfl hZ5 (by kernel_rfl) rfl (us := [m0, m1, m2, m3, m4, m5, m6, m7, m8, m9, m10, m11, m12, m13]) iB.ones ?_
  rw [show w5z.setRow g11 ([m0, m1, m2, m3, m4, m5, m6, m7, m8, m9, m10, m11, m12, m13] : List Value).toArray = w6 from Hst5.out]
  have hA6 := hA5.below hd6
  have iA6 := iA5.below hd6
  have jX := Hh.out.below b6
  have jY := Hh'.out.below b6
  obtain ⟨E, hE⟩ : ∃ b, prE x = b := ⟨_, rfl⟩
  have HE := hide hE
  obtain ⟨S, hS⟩ : ∃ b, eqPr x y = b := ⟨_, rfl⟩
  have HS := hide hS
  obtain ⟨N, hN⟩ : ∃ b, prE (newP id g) = b := ⟨_, rfl⟩
  have HN := hide hN
  have te1 : (E == E) = true := by simp
  have te2 : (S == S) = true := by simp
  have te3 : (N == N) = true := by simp
  have HX := hide (eqPr_self x)
  have HZ := hide (eqPr_self xn)
  clear hE hS
  rw [hN]
  clear hN
  go_wp2_with fail
  refine wp_region_held_drew (S := fun Z => Below w6.heap.size w6 Z) (by kernel_rfl) (Below.refl _ _).drew (fun hS0 => ?_)
  obtain ⟨Z0, hZ0⟩ : ∃ y, w6.drew = y := ⟨_, rfl⟩
  rw [hZ0] at hS0
  rw [hZ0]
  clear hZ0
  refine wpAnyH_take (fuel := 32) (i := 0) (v := .agg #[c0, c1, c2, c3, c4, c5, c6, c7, c8, c9, c10, c11, c12, c13]) rfl (by kernel_rfl) (by kernel_rfl) (by kernel_rfl) (fun _ _ _ h => h) (yieldsIf_load_mid rfl 30 _ rfl gg 0 rfl [c0, c1, c2, c3, c4, c5, c6, c7, c8, c9, c10, c11, c12, c13] _ (fun Z hZ => (hP6.below hZ).range) Try.underlying30 rfl (by kernel_rfl)) hS0 ?_
  try simp only [Act.put, List.setIfInBounds_toArray, List.set_cons_zero, List.set_cons_succ, List.getElem_toArray, List.getElem_cons_zero, List.getElem_cons_succ]
  refine wpAnyH_take (fuel := 31) (i := 2) (v := .agg #[c0, c1, c2, c3, c4, c5, c6, c7, c8, c9, c10, c11, c12, c13]) rfl (by kernel_rfl) (by kernel_rfl) (by kernel_rfl) (fun _ _ _ h => h) (yieldsIf_load_mid rfl 30 _ rfl gg 0 rfl [c0, c1, c2, c3, c4, c5, c6, c7, c8, c9, c10, c11, c12, c13] _ (fun Z hZ => (hP6.below hZ).range) Try.underlying30 rfl (by kernel_rfl)) hS0 ?_
  try simp only [Act.put, List.setIfInBounds_toArray, List.set_cons_zero, List.set_cons_succ, List.getElem_toArray, List.getElem_cons_zero, List.getElem_cons_succ]
  refine all_oneG (fuel := 30) (i := 1) (by kernel_rfl) rfl rfl (fun Kk hK => ?_)
  go_simp
  have hh := mprC_any (jX.below hS0)
  rw [HE.out] at hh
  go_fit hh
  rintro e' Z1 ⟨rfl, hd⟩
  have hS1 := hS0.trans (hd.mono hS0.size)
  clear hd
  refine hK _ _ ⟨hS1, ?_⟩
  clear hK Kk
  try simp only [Act.put, List.setIfInBounds_toArray, List.set_cons_zero, List.set_cons_succ, List.getElem_toArray, List.getElem_cons_zero, List.getElem_cons_succ]
  refine all_oneG (fuel := 29) (i := 3) (by kernel_rfl) rfl rfl (fun Kk hK => ?_)
  go_simp
  have hh := rprC_any (jX.below hS1)
  rw [HE.out] at hh
  go_fit hh
  rintro e' Z2 ⟨rfl, hd⟩
  have hS2 := hS1.trans (hd.mono hS1.size)
  clear hd
  refine hK _ _ ⟨hS2, ?_⟩
  clear hK Kk
  try simp only [Act.put, List.setIfInBounds_toArray, List.set_cons_zero, List.set_cons_succ, List.getElem_toArray, List.getElem_cons_zero, List.getElem_cons_succ]
  refine wpAnyH_take (fuel := 28) (i := 4) (v := .bool true) rfl (by kernel_rfl) (by kernel_rfl) (by kernel_rfl) (fun _ _ _ h => h) (Or.inl ⟨by rfl, fun Z hZ => ?_⟩) hS2 ?_
  · go_simp
  try simp only [Act.put, List.setIfInBounds_toArray, List.set_cons_zero, List.set_cons_succ, List.getElem_toArray, List.getElem_cons_zero, List.getElem_cons_succ]
  refine wpAnyH_take (fuel := 27) (i := 5) (v := .bool true) rfl (by kernel_rfl) (by kernel_rfl) (by kernel_rfl) (fun _ _ _ h => h) (Or.inl ⟨by rfl, fun Z hZ => ?_⟩) hS2 ?_
  · go_simp
  try simp only [Act.put, List.setIfInBounds_toArray, List.set_cons_zero, List.set_cons_succ, List.getElem_toArray, List.getElem_cons_zero, List.getElem_cons_succ]
  refine wpAnyH_take (fuel := 26) (i := 6) (v := .agg #[c0, c1, c2, c3, c4, c5, c6, c7, c8, c9, c10, c11, c12, c13]) rfl (by kernel_rfl) (by kernel_rfl) (by kernel_rfl) (fun _ _ _ h => h) (yieldsIf_load_mid rfl 30 _ rfl gg 0 rfl [c0, c1, c2, c3, c4, c5, c6, c7, c8, c9, c10, c11, c12, c13] _ (fun Z hZ => (hP6.below hZ).range) Try.underlying30 rfl (by kernel_rfl)) hS2 ?_
  try simp only [Act.put, List.setIfInBounds_toArray, List.set_cons_zero, List.set_cons_succ, List.getElem_toArray, List.getElem_cons_zero, List.getElem_cons_succ]
  refine wpAnyH_take (fuel := 25) (i := 7) (v := .agg #[e0, e1, e2, e3, e4, e5, e6, e7, e8, e9, e10, e11, e12, e13]) rfl (by kernel_rfl) (by kernel_rfl) (by kernel_rfl) (fun _ _ _ h => h) (yieldsIf_load_mid rfl 30 _ rfl (gg + 1) 0 rfl [e0, e1, e2, e3, e4, e5, e6, e7, e8, e9, e10, e11, e12, e13] _ (fun Z hZ => (hQ6.below hZ).range) Try.underlying30 rfl (by kernel_rfl)) hS2 ?_
  try simp only [Act.put, List.setIfInBounds_toArray, List.set_cons_zero, List.set_cons_succ, List.getElem_toArray, List.getElem_cons_zero, List.getElem_cons_succ]
  refine wpAnyH_take (fuel := 24) (i := 9) (v := .agg #[c0, c1, c2, c3, c4, c5, c6, c7, c8, c9, c10, c11, c12, c13]) rfl (by kernel_rfl) (by kernel_rfl) (by kernel_rfl) (fun _ _ _ h => h) (yieldsIf_load_mid rfl 30 _ rfl gg 0 rfl [c0, c1, c2, c3, c4, c5, c6, c7, c8, c9, c10, c11, c12, c13] _ (fun Z hZ => (hP6.below hZ).range) Try.underlying30 rfl (by kernel_rfl)) hS2 ?_
  try simp only [Act.put, List.setIfInBounds_toArray, List.set_cons_zero, List.set_cons_succ, List.getElem_toArray, List.getElem_cons_zero, List.getElem_cons_succ]
  refine wpAnyH_take (fuel := 23) (i := 10) (v := .agg #[e0, e1, e2, e3, e4, e5, e6, e7, e8, e9, e10, e11, e12, e13]) rfl (by kernel_rfl) (by kernel_rfl) (by kernel_rfl) (fun _ _ _ h => h) (yieldsIf_load_mid rfl 30 _ rfl (gg + 1) 0 rfl [e0, e1, e2, e3, e4, e5, e6, e7, e8, e9, e10, e11, e12, e13] _ (fun Z hZ => (hQ6.below hZ).range) Try.underlying30 rfl (by kernel_rfl)) hS2 ?_
  try simp only [Act.put, List.setIfInBounds_toArray, List.set_cons_zero, List.set_cons_succ, List.getElem_toArray, List.getElem_cons_zero, List.getElem_cons_succ]
  refine all_oneG (fuel := 22) (i := 8) (by kernel_rfl) rfl rfl (fun Kk hK => ?_)
  go_simp
  have hh := mprS_any (jX.below hS2) (jY.below hS2)
  rw [HS.out] at hh
  go_fit hh
  rintro e' Z3 ⟨rfl, hd⟩
  have hS3 := hS2.trans (hd.mono hS2.size)
  clear hd
  refine hK _ _ ⟨hS3, ?_⟩
  clear hK Kk
  try simp only [Act.put, List.setIfInBounds_toArray, List.set_cons_zero, List.set_cons_succ, List.getElem_toArray, List.getElem_cons_zero, List.getElem_cons_succ]
  refine all_oneG (fuel := 21) (i := 11) (by kernel_rfl) rfl rfl (fun Kk hK => ?_)
  go_simp
  have hh := rprS_any (jX.below hS3) (jY.below hS3)
  rw [HS.out] at hh
  go_fit hh
  rintro e' Z4 ⟨rfl, hd⟩
  have hS4 := hS3.trans (hd.mono hS3.size)
  clear hd
  refine hK _ _ ⟨hS4, ?_⟩
  clear hK Kk
  try simp only [Act.put, List.setIfInBounds_toArray, List.set_cons_zero, List.set_cons_succ, List.getElem_toArray, List.getElem_cons_zero, List.getElem_cons_succ]
  refine wpAnyH_take (fuel := 20) (i := 12) (v := .bool true) rfl (by kernel_rfl) (by kernel_rfl) (by kernel_rfl) (fun _ _ _ h => h) (Or.inl ⟨by rfl, fun Z hZ => ?_⟩) hS4 ?_
  · go_simp
  try simp only [Act.put, List.setIfInBounds_toArray, List.set_cons_zero, List.set_cons_succ, List.getElem_toArray, List.getElem_cons_zero, List.getElem_cons_succ]
  refine wpAnyH_take (fuel := 19) (i := 13) (v := .bool true) rfl (by kernel_rfl) (by kernel_rfl) (by kernel_rfl) (fun _ _ _ h => h) (Or.inl ⟨by rfl, fun Z hZ => ?_⟩) hS4 ?_
  · go_simp
  try simp only [Act.put, List.setIfInBounds_toArray, List.set_cons_zero, List.set_cons_succ, List.getElem_toArray, List.getElem_cons_zero, List.getElem_cons_succ]
  refine wpAnyH_take (fuel := 18) (i := 14) (v := .bool true) rfl (by kernel_rfl) (by kernel_rfl) (by kernel_rfl) (fun _ _ _ h => h) (Or.inl ⟨by rfl, fun Z hZ => ?_⟩) hS4 ?_
  · go_simp
  try simp only [Act.put, List.setIfInBounds_toArray, List.set_cons_zero, List.set_cons_succ, List.getElem_toArray, List.getElem_cons_zero, List.getElem_cons_succ]
  refine wpAnyH_take (fuel := 17) (i := 15) (v := .agg #[c0, c1, c2, c3, c4, c5, c6, c7, c8, c9, c10, c11, c12, c13]) rfl (by kernel_rfl) (by kernel_rfl) (by kernel_rfl) (fun _ _ _ h => h) (yieldsIf_load_mid rfl 30 _ rfl gg 0 rfl [c0, c1, c2, c3, c4, c5, c6, c7, c8, c9, c10, c11, c12, c13] _ (fun Z hZ => (hP6.below hZ).range) Try.underlying30 rfl (by kernel_rfl)) hS4 ?_
  try simp only [Act.put, List.setIfInBounds_toArray, List.set_cons_zero, List.set_cons_succ, List.getElem_toArray, List.getElem_cons_zero, List.getElem_cons_succ]
  refine wpAnyH_take (fuel := 16) (i := 16) (v := .agg #[c0, c1, c2, c3, c4, c5, c6, c7, c8, c9, c10, c11, c12, c13]) rfl (by kernel_rfl) (by kernel_rfl) (by kernel_rfl) (fun _ _ _ h => h) (yieldsIf_load_mid rfl 30 _ rfl gg 0 rfl [c0, c1, c2, c3, c4, c5, c6, c7, c8, c9, c10, c11, c12, c13] _ (fun Z hZ => (hP6.below hZ).range) Try.underlying30 rfl (by kernel_rfl)) hS4 ?_
  try simp only [Act.put, List.setIfInBounds_toArray, List.set_cons_zero, List.set_cons_succ, List.getElem_toArray, List.getElem_cons_zero, List.getElem_cons_succ]
  refine all_oneG (fuel := 15) (i := 17) (by kernel_rfl) rfl rfl (fun Kk hK => ?_)
  go_simp
  have hh := mprS_any (jX.below hS4) (jX.below hS4)
  rw [HX.out] at hh
  go_fit hh
  rintro e' Z5 ⟨rfl, hd⟩
  have hS5 := hS4.trans (hd.mono hS4.size)
  clear hd
  refine hK _ _ ⟨hS5, ?_⟩
  clear hK Kk
  try simp only [Act.put, List.setIfInBounds_toArray, List.set_cons_zero, List.set_cons_succ, List.getElem_toArray, List.getElem_cons_zero, List.getElem_cons_succ]
  refine wpAnyH_take (fuel := 14) (i := 18) (v := .bool true) rfl (by kernel_rfl) (by kernel_rfl) (by kernel_rfl) (fun _ _ _ h => h) (Or.inl ⟨by rfl, fun Z hZ => ?_⟩) hS5 ?_
  · go_simp
  try simp only [Act.put, List.setIfInBounds_toArray, List.set_cons_zero, List.set_cons_succ, List.getElem_toArray, List.getElem_cons_zero, List.getElem_cons_succ]
  refine wpAnyH_take (fuel := 13) (i := 19) (v := .bool true) rfl (by kernel_rfl) (by kernel_rfl) (by kernel_rfl) (fun _ _ _ h => h) (Or.inl ⟨by rfl, fun Z hZ => ?_⟩) hS5 ?_
  · go_simp
  try simp only [Act.put, List.setIfInBounds_toArray, List.set_cons_zero, List.set_cons_succ, List.getElem_toArray, List.getElem_cons_zero, List.getElem_cons_succ]
  refine wpAnyH_take (fuel := 12) (i := 20) (v := .agg #[a0, a1, a2, a3, a4, a5, a6, a7, a8, a9, a10, a11, a12, a13]) rfl (by kernel_rfl) (by kernel_rfl) (by kernel_rfl) (fun _ _ _ h => h) (yieldsIf_load_mid rfl 30 _ rfl g9 0 rfl [a0, a1, a2, a3, a4, a5, a6, a7, a8, a9, a10, a11, a12, a13] _ (fun Z hZ => (hA6.below hZ).range) Try.underlying30 rfl (by kernel_rfl)) hS5 ?_
  try simp only [Act.put, List.setIfInBounds_toArray, List.set_cons_zero, List.set_cons_succ, List.getElem_toArray, List.getElem_cons_zero, List.getElem_cons_succ]
  refine wpAnyH_take (fuel := 11) (i := 21) (v := .agg #[m0, m1, m2, m3, m4, m5, m6, m7, m8, m9, m10, m11, m12, m13]) rfl (by kernel_rfl) (by kernel_rfl) (by kernel_rfl) (fun _ _ _ h => h) (yieldsIf_load_mid rfl 30 _ rfl g11 0 rfl [m0, m1, m2, m3, m4, m5, m6, m7, m8, m9, m10, m11, m12, m13] _ (fun Z hZ => (hB6.below hZ).range) Try.underlying30 rfl (by kernel_rfl)) hS5 ?_
  try simp only [Act.put, List.setIfInBounds_toArray, List.set_cons_zero, List.set_cons_succ, List.getElem_toArray, List.getElem_cons_zero, List.getElem_cons_succ]
  refine all_oneG (fuel := 10) (i := 22) (by kernel_rfl) rfl rfl (fun Kk hK => ?_)
  go_simp
  have hh := rprS_any (iA6.below hS5) (iB6.below hS5)
  rw [HZ.out] at hh
  go_fit hh
  rintro e' Z6 ⟨rfl, hd⟩
  have hS6 := hS5.trans (hd.mono hS5.size)
  clear hd
  refine hK _ _ ⟨hS6, ?_⟩
  clear hK Kk
  try simp only [Act.put, List.setIfInBounds_toArray, List.set_cons_zero, List.set_cons_succ, List.getElem_toArray, List.getElem_cons_zero, List.getElem_cons_succ]
  refine wpAnyH_take (fuel := 9) (i := 23) (v := .bool true) rfl (by kernel_rfl) (by kernel_rfl) (by kernel_rfl) (fun _ _ _ h => h) (Or.inl ⟨by rfl, fun Z hZ => ?_⟩) hS6 ?_
  · go_simp
  try simp only [Act.put, List.setIfInBounds_toArray, List.set_cons_zero, List.set_cons_succ, List.getElem_toArray, List.getElem_cons_zero, List.getElem_cons_succ]
  refine wpAnyH_take (fuel := 8) (i := 24) (v := .bool true) rfl (by kernel_rfl) (by kernel_rfl) (by kernel_rfl) (fun _ _ _ h => h) (Or.inl ⟨by rfl, fun Z hZ => ?_⟩) hS6 ?_
  · go_simp
  try simp only [Act.put, List.setIfInBounds_toArray, List.set_cons_zero, List.set_cons_succ, List.getElem_toArray, List.getElem_cons_zero, List.getElem_cons_succ]
  refine wpAnyH_take (fuel := 7) (i := 25) (v := .int .i64 N) rfl (by kernel_rfl) (by kernel_rfl) (by kernel_rfl) (fun _ _ _ h => h) (Or.inl ⟨by rfl, fun Z hZ => ?_⟩) hS6 ?_
  · go_simp
  try simp only [Act.put, List.setIfInBounds_toArray, List.set_cons_zero, List.set_cons_succ, List.getElem_toArray, List.getElem_cons_zero, List.getElem_cons_succ]
  refine wpAnyH_take (fuel := 6) (i := 26) (v := .int .i64 N) rfl (by kernel_rfl) (by kernel_rfl) (by kernel_rfl) (fun _ _ _ h => h) (Or.inl ⟨by rfl, fun Z hZ => ?_⟩) hS6 ?_
  · go_simp
  try simp only [Act.put, List.setIfInBounds_toArray, List.set_cons_zero, List.set_cons_succ, List.getElem_toArray, List.getElem_cons_zero, List.getElem_cons_succ]
  refine wpAnyH_take (fuel := 5) (i := 27) (v := .bool true) rfl (by kernel_rfl) (by kernel_rfl) (by kernel_rfl) (fun _ _ _ h => h) (Or.inl ⟨by rfl, fun Z hZ => ?_⟩) hS6 ?_
  · go_simp
  try simp only [Act.put, List.setIfInBounds_toArray, List.set_cons_zero, List.set_cons_succ, List.getElem_toArray, List.getElem_cons_zero, List.getElem_cons_succ]
  refine wpAnyH_take (fuel := 4) (i := 28) (v := .bool true) rfl (by kernel_rfl) (by kernel_rfl) (by kernel_rfl) (fun _ _ _ h => h) (Or.inl ⟨by rfl, fun Z hZ => ?_⟩) hS6 ?_
  · go_simp
  try simp only [Act.put, List.setIfInBounds_toArray, List.set_cons_zero, List.set_cons_succ, List.getElem_toArray, List.getElem_cons_zero, List.getElem_cons_succ]
  refine wpAnyH_take (fuel := 3) (i := 29) (v := .bool true) rfl (by kernel_rfl) (by kernel_rfl) (by kernel_rfl) (fun _ _ _ h => h) (Or.inl ⟨by rfl, fun Z hZ => ?_⟩) hS6 ?_
  · go_simp
  try simp only [Act.put, List.setIfInBounds_toArray, List.set_cons_zero, List.set_cons_succ, List.getElem_toArray, List.getElem_cons_zero, List.getElem_cons_succ]
  refine all_oneG (fuel := 2) (i := 30) (by kernel_rfl) rfl rfl (fun Kk hK => ?_)
  go_simp
  go_fit (awake24_any Z6)
  rintro e' Z7 ⟨rfl, hd⟩
  have hS7 := hS6.trans (hd.mono hS6.size)
  clear hd
  refine hK _ _ ⟨hS7, ?_⟩
  clear hK Kk
  try simp only [Act.put, List.setIfInBounds_toArray, List.set_cons_zero, List.set_cons_succ, List.getElem_toArray, List.getElem_cons_zero, List.getElem_cons_succ]
  refine wpAnyH_take (fuel := 1) (i := 31) (v := .bool true) rfl (by kernel_rfl) (by kernel_rfl) (by kernel_rfl) (fun _ _ _ h => h) (Or.inl ⟨by rfl, fun Z hZ => ?_⟩) hS7 ?_
  · go_simp
  try simp only [Act.put, List.setIfInBounds_toArray, List.set_cons_zero, List.set_cons_succ, List.getElem_toArray, List.getElem_cons_zero, List.getElem_cons_succ]
  refine all_oneG (fuel := 0) (i := 32) (by kernel_rfl) rfl rfl (fun Kk hK => ?_)
  go_simp
  refine hK _ _ ⟨hS7, ?_⟩
  clear hK Kk
  refine wpAnyH_done (by kernel_rfl) ?_ _
  try simp only [Act.put, List.setIfInBounds_toArray, List.set_cons_zero, List.set_cons_succ, List.getElem_toArray, List.getElem_cons_zero, List.getElem_cons_succ]
  go_wp2
  go_ret
  exact ⟨by first | rfl | simp, b6.trans (hS7.mono b6.size)⟩
end Go.Proofs.Ytlcbelmbonaooaa
