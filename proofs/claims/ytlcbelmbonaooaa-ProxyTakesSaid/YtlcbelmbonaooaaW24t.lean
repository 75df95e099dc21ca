/- Stage 24: the law ProxyTakes (written by gen_24ac.py). -/
import Derived.Test.YtlcbelmbonaooaaF24z
import Derived.Test.YtlcbelmbonaooaaF24C
import Derived.Test.YtlcbelmbonaooaaF24S
import Derived.Test.YtlcbelmbonaooaaF24y
namespace Go.Proofs.Ytlcbelmbonaooaa
set_option maxRecDepth 20000
open Go.RowKit Go.Px Go.Maps Go.Deep
set_option linter.unusedVariables false
set_option linter.unusedSimpArgs false
set_option maxRecDepth 20000 in
set_option maxHeartbeats 25600000 in
theorem proxyTakes_walk {w : World} {Q Q' : Nat → Prop} {x : ProxyD} {y : MsgD} {cs ds : List Value} (h : tyProxy.Is w Q x cs) (h' : tyMsg.Is w Q' y ds) (r1 : RchP x) (r2 : RchM y) :
    Calls Try.prog 5 #[.agg cs.toArray, .agg ds.toArray] w fun e w' => e = .returned (.bool true) ∧ Below w.heap.size w w' := by
  obtain ⟨c0, c1, c2, c3, c4, c5, c6, c7, c8, c9, c10, c11, c12, c13, rfl⟩ := list_14 (h.len : cs.length = 14)
  obtain ⟨z0, z1, z2, z3, z4, z5, z6, z7, z8, z9, z10, z11, z12, z13, z14, z15, z16, z17, z18, z19, z20, z21, z22, z23, z24, z25, z26, z27, rfl⟩ := list_28 (h'.len : ds.length = 28)
  obtain ⟨gg, hgg⟩ : ∃ g, w.heap.size = g := ⟨_, rfl⟩
  obtain ⟨w0, hw0⟩ : ∃ x, (w.alloc (.cells #[c0, c1, c2, c3, c4, c5, c6, c7, c8, c9, c10, c11, c12, c13] 30)).alloc (.cells #[z0, z1, z2, z3, z4, z5, z6, z7, z8, z9, z10, z11, z12, z13, z14, z15, z16, z17, z18, z19, z20, z21, z22, z23, z24, z25, z26, z27] 58) = x := ⟨_, rfl⟩
  have hP0 : Blk w0 gg [c0, c1, c2, c3, c4, c5, c6, c7, c8, c9, c10, c11, c12, c13] 30 := by rw [← hw0, ← hgg]; exact (Blk.new w _ _).alloc _
  have hM0 : Blk w0 (gg + 1) [z0, z1, z2, z3, z4, z5, z6, z7, z8, z9, z10, z11, z12, z13, z14, z15, z16, z17, z18, z19, z20, z21, z22, z23, z24, z25, z26, z27] 58 := by
    rw [← hw0, ← hgg]
    have := Blk.new (w.alloc (.cells #[c0, c1, c2, c3, c4, c5, c6, c7, c8, c9, c10, c11, c12, c13] 30)) [z0, z1, z2, z3, z4, z5, z6, z7, z8, z9, z10, z11, z12, z13, z14, z15, z16, z17, z18, z19, z20, z21, z22, z23, z24, z25, z26, z27] 58
    rwa [World.size_alloc] at this
  have b0 : Below w.heap.size w w0 := by rw [← hw0]; exact ((Below.refl _ _).alloc (Nat.le_refl _) _).alloc (by simp) _
  have Hw0 := hide hw0
  have s0 := b0.size
  have Hh := hide h
  have Hh' := hide h'
  clear hw0 h h'
  obtain ⟨rt, hrt⟩ : ∃ z, takeD x y = z := ⟨_, rfl⟩
  go_enter Try.func5, Try.ntmps5
  go_wp2_with (first | (with_reducible refine stop_load 30 rfl ?_) | (with_reducible refine stop_store 30 rfl ?_) | (with_reducible refine stop_load 28 rfl ?_) | (with_reducible refine stop_store 28 rfl ?_) | (with_reducible refine stop_load 49 rfl ?_) | (with_reducible refine stop_store 49 rfl ?_) | (with_reducible refine stop_load 24 rfl ?_) | (with_reducible refine stop_store 24 rfl ?_) | (with_reducible refine stop_load 58 rfl ?_) | (with_reducible refine stop_store 58 rfl ?_))
  rw [Hw0.out]
  refine go_loadG rfl rfl (k := 0) rfl hP0 [c0, c1, c2, c3, c4, c5, c6, c7, c8, c9, c10, c11, c12, c13] rfl Try.underlying30 rfl (by kernel_rfl) ?_
  go_wp2_with (first | (with_reducible refine stop_load 30 rfl ?_) | (with_reducible refine stop_store 30 rfl ?_) | (with_reducible refine stop_load 28 rfl ?_) | (with_reducible refine stop_store 28 rfl ?_) | (with_reducible refine stop_load 49 rfl ?_) | (with_reducible refine stop_store 49 rfl ?_) | (with_reducible refine stop_load 24 rfl ?_) | (with_reducible refine stop_store 24 rfl ?_) | (with_reducible refine stop_load 58 rfl ?_) | (with_reducible refine stop_store 58 rfl ?_))
  go_fit (small24_any (Hh.out.below b0) r1)
  rintro xx w1 ⟨rfl, hd1⟩
  have b1 := b0.trans (hd1.mono b0.size)
  have s1 := hd1.size
  have hP1 := hP0.below hd1
  have hM1 := hM0.below hd1
  rcases bool_two (smB x) with q1 | q1
  rotate_left
  · rw [q1]
    go_wp2_with (first | (with_reducible refine stop_load 30 rfl ?_) | (with_reducible refine stop_store 30 rfl ?_) | (with_reducible refine stop_load 28 rfl ?_) | (with_reducible refine stop_store 28 rfl ?_) | (with_reducible refine stop_load 49 rfl ?_) | (with_reducible refine stop_store 49 rfl ?_) | (with_reducible refine stop_load 24 rfl ?_) | (with_reducible refine stop_store 24 rfl ?_) | (with_reducible refine stop_load 58 rfl ?_) | (with_reducible refine stop_store 58 rfl ?_))
    repeat (refine go_skipG rfl ?_; go_wp2_with (first | (with_reducible refine stop_load 30 rfl ?_) | (with_reducible refine stop_store 30 rfl ?_) | (with_reducible refine stop_load 28 rfl ?_) | (with_reducible refine stop_store 28 rfl ?_) | (with_reducible refine stop_load 49 rfl ?_) | (with_reducible refine stop_store 49 rfl ?_) | (with_reducible refine stop_load 24 rfl ?_) | (with_reducible refine stop_store 24 rfl ?_) | (with_reducible refine stop_load 58 rfl ?_) | (with_reducible refine stop_store 58 rfl ?_)))
    go_fit (awake24_any w1)
    rintro xx wz ⟨rfl, hdz⟩
    go_wp2
    go_ret
    exact ⟨rfl, b1.trans (hdz.mono b1.size)⟩
  rw [q1]
  have L1 := smB_light q1
  go_wp2_with (first | (with_reducible refine stop_load 30 rfl ?_) | (with_reducible refine stop_store 30 rfl ?_) | (with_reducible refine stop_load 28 rfl ?_) | (with_reducible refine stop_store 28 rfl ?_) | (with_reducible refine stop_load 49 rfl ?_) | (with_reducible refine stop_store 49 rfl ?_) | (with_reducible refine stop_load 24 rfl ?_) | (with_reducible refine stop_store 24 rfl ?_) | (with_reducible refine stop_load 58 rfl ?_) | (with_reducible refine stop_store 58 rfl ?_))
  refine go_loadG rfl rfl (k := 0) rfl hM1 [z0, z1, z2, z3, z4, z5, z6, z7, z8, z9, z10, z11, z12, z13, z14, z15, z16, z17, z18, z19, z20, z21, z22, z23, z24, z25, z26, z27] rfl Try.underlying58 rfl (by kernel_rfl) ?_
  go_wp2_with (first | (with_reducible refine stop_load 30 rfl ?_) | (with_reducible refine stop_store 30 rfl ?_) | (with_reducible refine stop_load 28 rfl ?_) | (with_reducible refine stop_store 28 rfl ?_) | (with_reducible refine stop_load 49 rfl ?_) | (with_reducible refine stop_store 49 rfl ?_) | (with_reducible refine stop_load 24 rfl ?_) | (with_reducible refine stop_store 24 rfl ?_) | (with_reducible refine stop_load 58 rfl ?_) | (with_reducible refine stop_store 58 rfl ?_))
  go_fit (size24_any (Hh'.out.below b1) r2)
  rintro xx w2 ⟨⟨N, rfl⟩, hd2⟩
  have b2 := b1.trans (hd2.mono b1.size)
  have s2 := hd2.size
  have hP2 := hP1.below hd2
  have hM2 := hM1.below hd2
  rcases bool_two (decide (500 < N)) with q2 | q2
  · go_wp2_with (first | (with_reducible refine stop_load 30 rfl ?_) | (with_reducible refine stop_store 30 rfl ?_) | (with_reducible refine stop_load 28 rfl ?_) | (with_reducible refine stop_store 28 rfl ?_) | (with_reducible refine stop_load 49 rfl ?_) | (with_reducible refine stop_store 49 rfl ?_) | (with_reducible refine stop_load 24 rfl ?_) | (with_reducible refine stop_store 24 rfl ?_) | (with_reducible refine stop_load 58 rfl ?_) | (with_reducible refine stop_store 58 rfl ?_))
    repeat (refine go_skipG rfl ?_; go_wp2_with (first | (with_reducible refine stop_load 30 rfl ?_) | (with_reducible refine stop_store 30 rfl ?_) | (with_reducible refine stop_load 28 rfl ?_) | (with_reducible refine stop_store 28 rfl ?_) | (with_reducible refine stop_load 49 rfl ?_) | (with_reducible refine stop_store 49 rfl ?_) | (with_reducible refine stop_load 24 rfl ?_) | (with_reducible refine stop_store 24 rfl ?_) | (with_reducible refine stop_load 58 rfl ?_) | (with_reducible refine stop_store 58 rfl ?_)))
    go_fit (awake24_any w2)
    rintro xx wz ⟨rfl, hdz⟩
    go_wp2
    go_ret
    exact ⟨rfl, b2.trans (hdz.mono b2.size)⟩
  go_wp2_with (first | (with_reducible refine stop_load 30 rfl ?_) | (with_reducible refine stop_store 30 rfl ?_) | (with_reducible refine stop_load 28 rfl ?_) | (with_reducible refine stop_store 28 rfl ?_) | (with_reducible refine stop_load 49 rfl ?_) | (with_reducible refine stop_store 49 rfl ?_) | (with_reducible refine stop_load 24 rfl ?_) | (with_reducible refine stop_store 24 rfl ?_) | (with_reducible refine stop_load 58 rfl ?_) | (with_reducible refine stop_store 58 rfl ?_))
  refine go_loadG rfl rfl (k := 0) rfl hP2 [c0, c1, c2, c3, c4, c5, c6, c7, c8, c9, c10, c11, c12, c13] rfl Try.underlying30 rfl (by kernel_rfl) ?_
  go_wp2_with (first | (with_reducible refine stop_load 30 rfl ?_) | (with_reducible refine stop_store 30 rfl ?_) | (with_reducible refine stop_load 28 rfl ?_) | (with_reducible refine stop_store 28 rfl ?_) | (with_reducible refine stop_load 49 rfl ?_) | (with_reducible refine stop_store 49 rfl ?_) | (with_reducible refine stop_load 24 rfl ?_) | (with_reducible refine stop_store 24 rfl ?_) | (with_reducible refine stop_load 58 rfl ?_) | (with_reducible refine stop_store 58 rfl ?_))
  refine go_loadG rfl rfl (k := 0) rfl hM2 [z0, z1, z2, z3, z4, z5, z6, z7, z8, z9, z10, z11, z12, z13, z14, z15, z16, z17, z18, z19, z20, z21, z22, z23, z24, z25, z26, z27] rfl Try.underlying58 rfl (by kernel_rfl) ?_
  go_wp2_with (first | (with_reducible refine stop_load 30 rfl ?_) | (with_reducible refine stop_store 30 rfl ?_) | (with_reducible refine stop_load 28 rfl ?_) | (with_reducible refine stop_store 28 rfl ?_) | (with_reducible refine stop_load 49 rfl ?_) | (with_reducible refine stop_store 49 rfl ?_) | (with_reducible refine stop_load 24 rfl ?_) | (with_reducible refine stop_store 24 rfl ?_) | (with_reducible refine stop_load 58 rfl ?_) | (with_reducible refine stop_store 58 rfl ?_))
  have hc := mTake_any (Hh.out.below b2) (Hh'.out.below b2) L1
  rw [hrt] at hc
  go_fit (hc)
  rintro xx w3 ⟨lA, AA, nA, cA, fA, rfl, iA, rA, tA, hd3⟩
  have b3 := b2.trans (hd3.mono b2.size)
  have s3 := hd3.size
  have hP3 := hP2.below hd3
  have hM3 := hM2.below hd3
  have iA_3 := iA
  have rA_3 := rA
  have tA_3 := tA
  obtain ⟨a0, a1, a2, a3, a4, a5, a6, a7, a8, a9, a10, a11, a12, a13, rfl⟩ := list_14 (iA.len : lA.length = 14)
  obtain ⟨u0, u1, rfl⟩ := list_2 (tA.len : fA.length = 2)
  obtain ⟨g5, hg5⟩ : ∃ m, w3.heap.size = m := ⟨_, rfl⟩
  obtain ⟨w3z, hw3z⟩ : ∃ x, (w3.alloc (.cells #[.int .i64 0, .int .i64 0, .slice none 0 0, .int .i64 0, .int .i64 0, .bool false, .int .u8 0, .int .i64 0, .int .i64 0, .slice none 0 0, .slice none 0 0, .int .i64 0, .slice none 0 0, .int .i64 0] 30)).alloc (.cells #[.int .u8 0, .slice none 0 0] 49) = x := ⟨_, rfl⟩
  have hZ3 : Blk w3z g5 [.int .i64 0, .int .i64 0, .slice none 0 0, .int .i64 0, .int .i64 0, .bool false, .int .u8 0, .int .i64 0, .int .i64 0, .slice none 0 0, .slice none 0 0, .int .i64 0, .slice none 0 0, .int .i64 0] 30 := by rw [← hw3z, ← hg5]; exact (Blk.new w3 _ _).alloc _
  have hY3 : Blk w3z (g5 + 1) [.int .u8 0, .slice none 0 0] 49 := by
    rw [← hw3z, ← hg5]
    have := Blk.new (w3.alloc (.cells #[.int .i64 0, .int .i64 0, .slice none 0 0, .int .i64 0, .int .i64 0, .bool false, .int .u8 0, .int .i64 0, .int .i64 0, .slice none 0 0, .slice none 0 0, .int .i64 0, .slice none 0 0, .int .i64 0] 30)) [.int .u8 0, .slice none 0 0] 49
    rwa [World.size_alloc] at this
  have bz3 : Below w3.heap.size w3 w3z := by rw [← hw3z]; exact ((Below.refl _ _).alloc (Nat.le_refl _) _).alloc (by simp) _
  have sz3 := bz3.size
  obtain ⟨w3y, hw3y⟩ : ∃ x, w3z.setRow g5 #[a0, a1, a2, a3, a4, a5, a6, a7, a8, a9, a10, a11, a12, a13] = x := ⟨_, rfl⟩
  have hFz3 : Fr (fun b => b = g5) w3z w3y := by rw [← hw3y]; exact Fr.row (X := fun b => b = g5) rfl w3z _
  have hZy3 : Blk w3y g5 [a0, a1, a2, a3, a4, a5, a6, a7, a8, a9, a10, a11, a12, a13] 30 := by rw [← hw3y]; exact hZ3.setAll [a0, a1, a2, a3, a4, a5, a6, a7, a8, a9, a10, a11, a12, a13]
  have hYy3 := hY3.fr hFz3 (by omega)
  have by3 := hFz3.below bz3 bz3.size (fun b hb => by have hb' : b = g5 := hb; omega)
  have sy3 := by3.size
  obtain ⟨w4, hw4⟩ : ∃ x, w3y.setRow (g5 + 1) #[u0, u1] = x := ⟨_, rfl⟩
  have hFy3 : Fr (fun b => b = g5 + 1) w3y w4 := by rw [← hw4]; exact Fr.row (X := fun b => b = g5 + 1) rfl w3y _
  have hA4 := hZy3.fr hFy3 (by omega)
  have gA4 : Blk w4 (g5 + 1) [u0, u1] 49 := by rw [← hw4]; exact hYy3.setAll [u0, u1]
  have hd4 : Below w3.heap.size w3 w4 := hFy3.below by3 by3.size (fun b hb => by have hb' : b = g5 + 1 := hb; omega)
  have b4 := b3.trans (hd4.mono b3.size)
  have s4 := hd4.size
  have hP4 := hP3.below hd4
  have hM4 := hM3.below hd4
  have iA_4 := iA_3.below hd4
  have rA_4 := rA_3.below hd4
  have tA_4 := tA_3.below hd4
  have Hw3z := hide hw3z
  have Hg5 := hide hg5
  have Hst3 := hide hw3y
  have Hsu3 := hide hw4
  clear hw4 hw3z hw3y hg5
  go_wp2_with (first | (with_reducible refine stop_load 30 rfl ?_) | (with_reducible refine stop_store 30 rfl ?_) | (with_reducible refine stop_load 28 rfl ?_) | (with_reducible refine stop_store 28 rfl ?_) | (with_reducible refine stop_load 49 rfl ?_) | (with_reducible refine stop_store 49 rfl ?_) | (with_reducible refine stop_load 24 rfl ?_) | (with_reducible refine stop_store 24 rfl ?_) | (with_reducible refine stop_load 58 rfl ?_) | (with_reducible refine stop_store 58 rfl ?_))
  rw [Hw3z.out]
  try rw [Hg5.out]
  refine go_store rfl rfl rfl rfl rfl hZ3 (by kernel_rfl) rfl (us := [a0, a1, a2, a3, a4, a5, a6, a7, a8, a9, a10, a11, a12, a13]) iA.ones ?_
  rw [show w3z.setRow g5 ([a0, a1, a2, a3, a4, a5, a6, a7, a8, a9, a10, a11, a12, a13] : List Value).toArray = w3y from Hst3.out]
  go_wp2_with (first | (with_reducible refine stop_load 30 rfl ?_) | (with_reducible refine stop_store 30 rfl ?_) | (with_reducible refine stop_load 28 rfl ?_) | (with_reducible refine stop_store 28 rfl ?_) | (with_reducible refine stop_load 49 rfl ?_) | (with_reducible refine stop_store 49 rfl ?_) | (with_reducible refine stop_load 24 rfl ?_) | (with_reducible refine stop_store 24 rfl ?_) | (with_reducible refine stop_load 58 rfl ?_) | (with_reducible refine stop_store 58 rfl ?_))
  refine go_store rfl rfl rfl rfl rfl hYy3 (by kernel_rfl) rfl (us := [u0, u1]) tA.ones ?_
  rw [show w3y.setRow (g5 + 1) ([u0, u1] : List Value).toArray = w4 from Hsu3.out]
  go_wp2_with (first | (with_reducible refine stop_load 30 rfl ?_) | (with_reducible refine stop_store 30 rfl ?_) | (with_reducible refine stop_load 28 rfl ?_) | (with_reducible refine stop_store 28 rfl ?_) | (with_reducible refine stop_load 49 rfl ?_) | (with_reducible refine stop_store 49 rfl ?_) | (with_reducible refine stop_load 24 rfl ?_) | (with_reducible refine stop_store 24 rfl ?_) | (with_reducible refine stop_load 58 rfl ?_) | (with_reducible refine stop_store 58 rfl ?_))
  refine go_loadG rfl rfl (k := 0) rfl hP4 [c0, c1, c2, c3, c4, c5, c6, c7, c8, c9, c10, c11, c12, c13] rfl Try.underlying30 rfl (by kernel_rfl) ?_
  go_wp2_with (first | (with_reducible refine stop_load 30 rfl ?_) | (with_reducible refine stop_store 30 rfl ?_) | (with_reducible refine stop_load 28 rfl ?_) | (with_reducible refine stop_store 28 rfl ?_) | (with_reducible refine stop_load 49 rfl ?_) | (with_reducible refine stop_store 49 rfl ?_) | (with_reducible refine stop_load 24 rfl ?_) | (with_reducible refine stop_store 24 rfl ?_) | (with_reducible refine stop_load 58 rfl ?_) | (with_reducible refine stop_store 58 rfl ?_))
  refine go_loadG rfl rfl (k := 0) rfl hM4 [z0, z1, z2, z3, z4, z5, z6, z7, z8, z9, z10, z11, z12, z13, z14, z15, z16, z17, z18, z19, z20, z21, z22, z23, z24, z25, z26, z27] rfl Try.underlying58 rfl (by kernel_rfl) ?_
  go_wp2_with (first | (with_reducible refine stop_load 30 rfl ?_) | (with_reducible refine stop_store 30 rfl ?_) | (with_reducible refine stop_load 28 rfl ?_) | (with_reducible refine stop_store 28 rfl ?_) | (with_reducible refine stop_load 49 rfl ?_) | (with_reducible refine stop_store 49 rfl ?_) | (with_reducible refine stop_load 24 rfl ?_) | (with_reducible refine stop_store 24 rfl ?_) | (with_reducible refine stop_load 58 rfl ?_) | (with_reducible refine stop_store 58 rfl ?_))
  have hc := rTake_any (Hh.out.below b4) (Hh'.out.below b4)
  rw [hrt] at hc
  go_fit (hc)
  rintro xx w5 ⟨lB, AB, nB, cB, fB, rfl, iB, rB, tB, hd5⟩
  have b5 := b4.trans (hd5.mono b4.size)
  have s5 := hd5.size
  have hP5 := hP4.below hd5
  have hM5 := hM4.below hd5
  have iA_5 := iA_4.below hd5
  have rA_5 := rA_4.below hd5
  have tA_5 := tA_4.below hd5
  have hA5 := hA4.below hd5
  have gA5 := gA4.below hd5
  have iB_5 := iB
  have rB_5 := rB
  have tB_5 := tB
  obtain ⟨m0, m1, m2, m3, m4, m5, m6, m7, m8, m9, m10, m11, m12, m13, rfl⟩ := list_14 (iB.len : lB.length = 14)
  obtain ⟨v0, v1, rfl⟩ := list_2 (tB.len : fB.length = 2)
  obtain ⟨g9, hg9⟩ : ∃ m, w5.heap.size = m := ⟨_, rfl⟩
  obtain ⟨w5z, hw5z⟩ : ∃ x, (w5.alloc (.cells #[.int .i64 0, .int .i64 0, .slice none 0 0, .int .i64 0, .int .i64 0, .bool false, .int .u8 0, .int .i64 0, .int .i64 0, .slice none 0 0, .slice none 0 0, .int .i64 0, .slice none 0 0, .int .i64 0] 30)).alloc (.cells #[.int .u8 0, .slice none 0 0] 49) = x := ⟨_, rfl⟩
  have hZ5 : Blk w5z g9 [.int .i64 0, .int .i64 0, .slice none 0 0, .int .i64 0, .int .i64 0, .bool false, .int .u8 0, .int .i64 0, .int .i64 0, .slice none 0 0, .slice none 0 0, .int .i64 0, .slice none 0 0, .int .i64 0] 30 := by rw [← hw5z, ← hg9]; exact (Blk.new w5 _ _).alloc _
  have hY5 : Blk w5z (g9 + 1) [.int .u8 0, .slice none 0 0] 49 := by
    rw [← hw5z, ← hg9]
    have := Blk.new (w5.alloc (.cells #[.int .i64 0, .int .i64 0, .slice none 0 0, .int .i64 0, .int .i64 0, .bool false, .int .u8 0, .int .i64 0, .int .i64 0, .slice none 0 0, .slice none 0 0, .int .i64 0, .slice none 0 0, .int .i64 0] 30)) [.int .u8 0, .slice none 0 0] 49
    rwa [World.size_alloc] at this
  have bz5 : Below w5.heap.size w5 w5z := by rw [← hw5z]; exact ((Below.refl _ _).alloc (Nat.le_refl _) _).alloc (by simp) _
  have sz5 := bz5.size
  obtain ⟨w5y, hw5y⟩ : ∃ x, w5z.setRow g9 #[m0, m1, m2, m3, m4, m5, m6, m7, m8, m9, m10, m11, m12, m13] = x := ⟨_, rfl⟩
  have hFz5 : Fr (fun b => b = g9) w5z w5y := by rw [← hw5y]; exact Fr.row (X := fun b => b = g9) rfl w5z _
  have hZy5 : Blk w5y g9 [m0, m1, m2, m3, m4, m5, m6, m7, m8, m9, m10, m11, m12, m13] 30 := by rw [← hw5y]; exact hZ5.setAll [m0, m1, m2, m3, m4, m5, m6, m7, m8, m9, m10, m11, m12, m13]
  have hYy5 := hY5.fr hFz5 (by omega)
  have by5 := hFz5.below bz5 bz5.size (fun b hb => by have hb' : b = g9 := hb; omega)
  have sy5 := by5.size
  obtain ⟨w6, hw6⟩ : ∃ x, w5y.setRow (g9 + 1) #[v0, v1] = x := ⟨_, rfl⟩
  have hFy5 : Fr (fun b => b = g9 + 1) w5y w6 := by rw [← hw6]; exact Fr.row (X := fun b => b = g9 + 1) rfl w5y _
  have hB6 := hZy5.fr hFy5 (by omega)
  have gB6 : Blk w6 (g9 + 1) [v0, v1] 49 := by rw [← hw6]; exact hYy5.setAll [v0, v1]
  have hd6 : Below w5.heap.size w5 w6 := hFy5.below by5 by5.size (fun b hb => by have hb' : b = g9 + 1 := hb; omega)
  have b6 := b5.trans (hd6.mono b5.size)
  have s6 := hd6.size
  have hP6 := hP5.below hd6
  have hM6 := hM5.below hd6
  have iA_6 := iA_5.below hd6
  have rA_6 := rA_5.below hd6
  have tA_6 := tA_5.below hd6
  have hA6 := hA5.below hd6
  have gA6 := gA5.below hd6
  have iB_6 := iB_5.below hd6
  have rB_6 := rB_5.below hd6
  have tB_6 := tB_5.below hd6
  have Hw5z := hide hw5z
  have Hg9 := hide hg9
  have Hst5 := hide hw5y
  have Hsu5 := hide hw6
  clear hw6 hw5z hw5y hg9
  go_wp2_with (first | (with_reducible refine stop_load 30 rfl ?_) | (with_reducible refine stop_store 30 rfl ?_) | (with_reducible refine stop_load 28 rfl ?_) | (with_reducible refine stop_store 28 rfl ?_) | (with_reducible refine stop_load 49 rfl ?_) | (with_reducible refine stop_store 49 rfl ?_) | (with_reducible refine stop_load 24 rfl ?_) | (with_reducible refine stop_store 24 rfl ?_) | (with_reducible refine stop_load 58 rfl ?_) | (with_reducible refine stop_store 58 rfl ?_))
  rw [Hw5z.out]
  try rw [Hg9.out]
  refine go_store rfl rfl rfl rfl rfl hZ5 (by kernel_rfl) rfl (us := [m0, m1, m2, m3, m4, m5, m6, m7, m8, m9, m10, m11, m12, m13]) iB.ones ?_
  rw [show w5z.setRow g9 ([m0, m1, m2, m3, m4, m5, m6, m7, m8, m9, m10, m11, m12, m13] : List Value).toArray = w5y from Hst5.out]
  go_wp2_with (first | (with_reducible refine stop_load 30 rfl ?_) | (with_reducible refine stop_store 30 rfl ?_) | (with_reducible refine stop_load 28 rfl ?_) | (with_reducible refine stop_store 28 rfl ?_) | (with_reducible refine stop_load 49 rfl ?_) | (with_reducible refine stop_store 49 rfl ?_) | (with_reducible refine stop_load 24 rfl ?_) | (with_reducible refine stop_store 24 rfl ?_) | (with_reducible refine stop_load 58 rfl ?_) | (with_reducible refine stop_store 58 rfl ?_))
  refine go_store rfl rfl rfl rfl rfl hYy5 (by kernel_rfl) rfl (us := [v0, v1]) tB.ones ?_
  rw [show w5y.setRow (g9 + 1) ([v0, v1] : List Value).toArray = w6 from Hsu5.out]
  go_wp2_with (first | (with_reducible refine stop_load 30 rfl ?_) | (with_reducible refine stop_store 30 rfl ?_) | (with_reducible refine stop_load 28 rfl ?_) | (with_reducible refine stop_store 28 rfl ?_) | (with_reducible refine stop_load 49 rfl ?_) | (with_reducible refine stop_store 49 rfl ?_) | (with_reducible refine stop_load 24 rfl ?_) | (with_reducible refine stop_store 24 rfl ?_) | (with_reducible refine stop_load 58 rfl ?_) | (with_reducible refine stop_store 58 rfl ?_))
  obtain ⟨bb, hbb⟩ : ∃ z, rt.2.2.2 = z := ⟨_, rfl⟩
  rw [hbb]
  have tb : (bb == bb) = true := by simp
  clear hbb
  refine go_loadG rfl rfl (k := 0) rfl hA6 [a0, a1, a2, a3, a4, a5, a6, a7, a8, a9, a10, a11, a12, a13] rfl Try.underlying30 rfl (by kernel_rfl) ?_
  go_wp2_with (first | (with_reducible refine stop_load 30 rfl ?_) | (with_reducible refine stop_store 30 rfl ?_) | (with_reducible refine stop_load 28 rfl ?_) | (with_reducible refine stop_store 28 rfl ?_) | (with_reducible refine stop_load 49 rfl ?_) | (with_reducible refine stop_store 49 rfl ?_) | (with_reducible refine stop_load 24 rfl ?_) | (with_reducible refine stop_store 24 rfl ?_) | (with_reducible refine stop_load 58 rfl ?_) | (with_reducible refine stop_store 58 rfl ?_))
  refine go_loadG rfl rfl (k := 0) rfl hB6 [m0, m1, m2, m3, m4, m5, m6, m7, m8, m9, m10, m11, m12, m13] rfl Try.underlying30 rfl (by kernel_rfl) ?_
  go_wp2_with (first | (with_reducible refine stop_load 30 rfl ?_) | (with_reducible refine stop_store 30 rfl ?_) | (with_reducible refine stop_load 28 rfl ?_) | (with_reducible refine stop_store 28 rfl ?_) | (with_reducible refine stop_load 49 rfl ?_) | (with_reducible refine stop_store 49 rfl ?_) | (with_reducible refine stop_load 24 rfl ?_) | (with_reducible refine stop_store 24 rfl ?_) | (with_reducible refine stop_load 58 rfl ?_) | (with_reducible refine stop_store 58 rfl ?_))
  have hh := rprS_any iA_6 iB_6
  rw [eqPr_self] at hh
  go_fit (hh)
  rintro xx w7 ⟨rfl, hd7⟩
  have b7 := b6.trans (hd7.mono b6.size)
  have s7 := hd7.size
  have hP7 := hP6.below hd7
  have hM7 := hM6.below hd7
  have iA_7 := iA_6.below hd7
  have rA_7 := rA_6.below hd7
  have tA_7 := tA_6.below hd7
  have hA7 := hA6.below hd7
  have gA7 := gA6.below hd7
  have iB_7 := iB_6.below hd7
  have rB_7 := rB_6.below hd7
  have tB_7 := tB_6.below hd7
  have hB7 := hB6.below hd7
  have gB7 := gB6.below hd7
  go_wp2_with (first | (with_reducible refine stop_load 30 rfl ?_) | (with_reducible refine stop_store 30 rfl ?_) | (with_reducible refine stop_load 28 rfl ?_) | (with_reducible refine stop_store 28 rfl ?_) | (with_reducible refine stop_load 49 rfl ?_) | (with_reducible refine stop_store 49 rfl ?_) | (with_reducible refine stop_load 24 rfl ?_) | (with_reducible refine stop_store 24 rfl ?_) | (with_reducible refine stop_load 58 rfl ?_) | (with_reducible refine stop_store 58 rfl ?_))
  go_fit (sameAll_is rA_7 rB_7)
  rintro xx w8 ⟨rfl, hd8⟩
  have b8 := b7.trans (hd8.mono b7.size)
  have s8 := hd8.size
  have hP8 := hP7.below hd8
  have hM8 := hM7.below hd8
  have iA_8 := iA_7.below hd8
  have rA_8 := rA_7.below hd8
  have tA_8 := tA_7.below hd8
  have hA8 := hA7.below hd8
  have gA8 := gA7.below hd8
  have iB_8 := iB_7.below hd8
  have rB_8 := rB_7.below hd8
  have tB_8 := tB_7.below hd8
  have hB8 := hB7.below hd8
  have gB8 := gB7.below hd8
  go_wp2_with (first | (with_reducible refine stop_load 30 rfl ?_) | (with_reducible refine stop_store 30 rfl ?_) | (with_reducible refine stop_load 28 rfl ?_) | (with_reducible refine stop_store 28 rfl ?_) | (with_reducible refine stop_load 49 rfl ?_) | (with_reducible refine stop_store 49 rfl ?_) | (with_reducible refine stop_load 24 rfl ?_) | (with_reducible refine stop_store 24 rfl ?_) | (with_reducible refine stop_load 58 rfl ?_) | (with_reducible refine stop_store 58 rfl ?_))
  refine go_loadG rfl rfl (k := 0) rfl gA8 [u0, u1] rfl Try.underlying49 rfl (by kernel_rfl) ?_
  go_wp2_with (first | (with_reducible refine stop_load 30 rfl ?_) | (with_reducible refine stop_store 30 rfl ?_) | (with_reducible refine stop_load 28 rfl ?_) | (with_reducible refine stop_store 28 rfl ?_) | (with_reducible refine stop_load 49 rfl ?_) | (with_reducible refine stop_store 49 rfl ?_) | (with_reducible refine stop_load 24 rfl ?_) | (with_reducible refine stop_store 24 rfl ?_) | (with_reducible refine stop_load 58 rfl ?_) | (with_reducible refine stop_store 58 rfl ?_))
  refine go_loadG rfl rfl (k := 0) rfl gB8 [v0, v1] rfl Try.underlying49 rfl (by kernel_rfl) ?_
  go_wp2_with (first | (with_reducible refine stop_load 30 rfl ?_) | (with_reducible refine stop_store 30 rfl ?_) | (with_reducible refine stop_load 28 rfl ?_) | (with_reducible refine stop_store 28 rfl ?_) | (with_reducible refine stop_load 49 rfl ?_) | (with_reducible refine stop_store 49 rfl ?_) | (with_reducible refine stop_load 24 rfl ?_) | (with_reducible refine stop_store 24 rfl ?_) | (with_reducible refine stop_load 58 rfl ?_) | (with_reducible refine stop_store 58 rfl ?_))
  go_fit (sameR_is tA_8 tB_8)
  rintro xx w9 ⟨rfl, hd9⟩
  have b9 := b8.trans (hd9.mono b8.size)
  have s9 := hd9.size
  have hP9 := hP8.below hd9
  have hM9 := hM8.below hd9
  have iA_9 := iA_8.below hd9
  have rA_9 := rA_8.below hd9
  have tA_9 := tA_8.below hd9
  have hA9 := hA8.below hd9
  have gA9 := gA8.below hd9
  have iB_9 := iB_8.below hd9
  have rB_9 := rB_8.below hd9
  have tB_9 := tB_8.below hd9
  have hB9 := hB8.below hd9
  have gB9 := gB8.below hd9
  go_wp2_with (first | (with_reducible refine stop_load 30 rfl ?_) | (with_reducible refine stop_store 30 rfl ?_) | (with_reducible refine stop_load 28 rfl ?_) | (with_reducible refine stop_store 28 rfl ?_) | (with_reducible refine stop_load 49 rfl ?_) | (with_reducible refine stop_store 49 rfl ?_) | (with_reducible refine stop_load 24 rfl ?_) | (with_reducible refine stop_store 24 rfl ?_) | (with_reducible refine stop_load 58 rfl ?_) | (with_reducible refine stop_store 58 rfl ?_))
  go_fit (awake24_any w9)
  rintro xx w10 ⟨rfl, hd10⟩
  have b10 := b9.trans (hd10.mono b9.size)
  have s10 := hd10.size
  have hP10 := hP9.below hd10
  have hM10 := hM9.below hd10
  have iA_10 := iA_9.below hd10
  have rA_10 := rA_9.below hd10
  have tA_10 := tA_9.below hd10
  have hA10 := hA9.below hd10
  have gA10 := gA9.below hd10
  have iB_10 := iB_9.below hd10
  have rB_10 := rB_9.below hd10
  have tB_10 := tB_9.below hd10
  have hB10 := hB9.below hd10
  have gB10 := gB9.below hd10
  go_wp2
  go_ret
  exact ⟨by first | rfl | simp, b10⟩
end Go.Proofs.Ytlcbelmbonaooaa
