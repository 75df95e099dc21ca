/- For every input within the form's reach the law ProxyTicks returns true, and each argument reads afterwards as it read before. -/
import Derived.Test.YtlcbelmbonaooaaF24u
import Derived.Test.YtlcbelmbonaooaaF24C
import Derived.Test.YtlcbelmbonaooaaF24V
import Derived.Test.YtlcbelmbonaooaaF24y
import Derived.Test.YtlcbelmbonaooaaRows
import Derived.Test.YtlcbelmbonaooaaR24
namespace Go.Proofs.Ytlcbelmbonaooaa
set_option maxRecDepth 20000
open Go.RowKit Go.Px Go.Maps Go.Deep
set_option linter.unusedVariables false
set_option linter.unusedSimpArgs false
set_option maxRecDepth 20000 in
set_option maxHeartbeats 25600000 in
theorem proxyTicks_walk {w : World} {Q : Nat → Prop} {x : ProxyD} {cs : List Value} (h : tyProxy.Is w Q x cs) (r1 : RchP x) :
    Calls Try.prog 6 #[.agg cs.toArray] w fun e w' => e = .returned (.bool true) ∧ Below w.heap.size w w' := by
  obtain ⟨c0, c1, c2, c3, c4, c5, c6, c7, c8, c9, c10, c11, c12, c13, rfl⟩ := list_14 (h.len : cs.length = 14)
  obtain ⟨gg, hgg⟩ : ∃ g, w.heap.size = g := ⟨_, rfl⟩
  obtain ⟨w0, hw0⟩ : ∃ x, w.alloc (.cells #[c0, c1, c2, c3, c4, c5, c6, c7, c8, c9, c10, c11, c12, c13] 30) = x := ⟨_, rfl⟩
  have hP0 : Blk w0 gg [c0, c1, c2, c3, c4, c5, c6, c7, c8, c9, c10, c11, c12, c13] 30 := by rw [← hw0, ← hgg]; exact Blk.new w _ _
  have b0 : Below w.heap.size w w0 := by rw [← hw0]; exact (Below.refl _ _).alloc (Nat.le_refl _) _
  have Hw0 := hide hw0
  have s0 := b0.size
  have Hh := hide h
  clear hw0 h
  obtain ⟨ra, hra⟩ : ∃ z, tickD x = z := ⟨_, rfl⟩
  go_enter Try.func6, Try.ntmps6
  go_wp2_with (first | (with_reducible refine stop_load 30 rfl ?_) | (with_reducible refine stop_store 30 rfl ?_) | (with_reducible refine stop_load 28 rfl ?_) | (with_reducible refine stop_store 28 rfl ?_) | (with_reducible refine stop_load 49 rfl ?_) | (with_reducible refine stop_store 49 rfl ?_) | (with_reducible refine stop_load 24 rfl ?_) | (with_reducible refine stop_store 24 rfl ?_) | (with_reducible refine stop_load 58 rfl ?_) | (with_reducible refine stop_store 58 rfl ?_))
  rw [Hw0.out]
  refine go_loadG rfl rfl (k := 0) rfl hP0 [c0, c1, c2, c3, c4, c5, c6, c7, c8, c9, c10, c11, c12, c13] rfl Try.underlying30 rfl (by kernel_rfl) ?_
  go_wp2_with (first | (with_reducible refine stop_load 30 rfl ?_) | (with_reducible refine stop_store 30 rfl ?_) | (with_reducible refine stop_load 28 rfl ?_) | (with_reducible refine stop_store 28 rfl ?_) | (with_reducible refine stop_load 49 rfl ?_) | (with_reducible refine stop_store 49 rfl ?_) | (with_reducible refine stop_load 24 rfl ?_) | (with_reducible refine stop_store 24 rfl ?_) | (with_reducible refine stop_load 58 rfl ?_) | (with_reducible refine stop_store 58 rfl ?_))
  go_fit (small24_any (Hh.out.below b0) r1)
  rintro xx w1 ⟨rfl, hd1⟩
  have b1 := b0.trans (hd1.mono b0.size)
  have s1 := hd1.size
  have hP1 := hP0.below hd1
  rcases bool_two (smB x) with q1 | q1
  rotate_left
  · rw [q1]
    go_wp2_with (first | (with_reducible refine stop_load 30 rfl ?_) | (with_reducible refine stop_store 30 rfl ?_) | (with_reducible refine stop_load 28 rfl ?_) | (with_reducible refine stop_store 28 rfl ?_) | (with_reducible refine stop_load 49 rfl ?_) | (with_reducible refine stop_store 49 rfl ?_) | (with_reducible refine stop_load 24 rfl ?_) | (with_reducible refine stop_store 24 rfl ?_) | (with_reducible refine stop_load 58 rfl ?_) | (with_reducible refine stop_store 58 rfl ?_))
    repeat (refine go_skipG rfl ?_; go_wp2_with (first | (with_reducible refine stop_load 30 rfl ?_) | (with_reducible refine stop_store 30 rfl ?_) | (with_reducible refine stop_load 28 rfl ?_) | (with_reducible refine stop_store 28 rfl ?_) | (with_reducible refine stop_load 49 rfl ?_) | (with_reducible refine stop_store 49 rfl ?_) | (with_reducible refine stop_load 24 rfl ?_) | (with_reducible refine stop_store 24 rfl ?_) | (with_reducible refine stop_load 58 rfl ?_) | (with_reducible refine stop_store 58 rfl ?_)))
    go_fit (awake24_any w1)
    rintro xx wz ⟨rfl, hdz⟩
    go_wp2
    go_ret
    exact ⟨rfl, b1.trans (hdz.mono b1.size)⟩
  rw [q1]
  have L1 := smB_light q1
  go_wp2_with (first | (with_reducible refine stop_load 30 rfl ?_) | (with_reducible refine stop_store 30 rfl ?_) | (with_reducible refine stop_load 28 rfl ?_) | (with_reducible refine stop_store 28 rfl ?_) | (with_reducible refine stop_load 49 rfl ?_) | (with_reducible refine stop_store 49 rfl ?_) | (with_reducible refine stop_load 24 rfl ?_) | (with_reducible refine stop_store 24 rfl ?_) | (with_reducible refine stop_load 58 rfl ?_) | (with_reducible refine stop_store 58 rfl ?_))
  refine go_loadG rfl rfl (k := 0) rfl hP1 [c0, c1, c2, c3, c4, c5, c6, c7, c8, c9, c10, c11, c12, c13] rfl Try.underlying30 rfl (by kernel_rfl) ?_
  go_wp2_with (first | (with_reducible refine stop_load 30 rfl ?_) | (with_reducible refine stop_store 30 rfl ?_) | (with_reducible refine stop_load 28 rfl ?_) | (with_reducible refine stop_store 28 rfl ?_) | (with_reducible refine stop_load 49 rfl ?_) | (with_reducible refine stop_store 49 rfl ?_) | (with_reducible refine stop_load 24 rfl ?_) | (with_reducible refine stop_store 24 rfl ?_) | (with_reducible refine stop_load 58 rfl ?_) | (with_reducible refine stop_store 58 rfl ?_))
  have hc := mTick_any (Hh.out.below b1) L1
  rw [hra] at hc
  go_fit (hc)
  rintro xx w2 ⟨lA, AA, nA, cA, rfl, iA, rA, hd2⟩
  have b2 := b1.trans (hd2.mono b1.size)
  have s2 := hd2.size
  have hP2 := hP1.below hd2
  have iA_2 := iA
  have rA_2 := rA
  obtain ⟨a0, a1, a2, a3, a4, a5, a6, a7, a8, a9, a10, a11, a12, a13, rfl⟩ := list_14 (iA.len : lA.length = 14)
  obtain ⟨g7, hg7⟩ : ∃ m, w2.heap.size = m := ⟨_, rfl⟩
  obtain ⟨w2z, hw2z⟩ : ∃ x, w2.alloc (.cells #[.int .i64 0, .int .i64 0, .slice none 0 0, .int .i64 0, .int .i64 0, .bool false, .int .u8 0, .int .i64 0, .int .i64 0, .slice none 0 0, .slice none 0 0, .int .i64 0, .slice none 0 0, .int .i64 0] 30) = x := ⟨_, rfl⟩
  have hZ2 : Blk w2z g7 [.int .i64 0, .int .i64 0, .slice none 0 0, .int .i64 0, .int .i64 0, .bool false, .int .u8 0, .int .i64 0, .int .i64 0, .slice none 0 0, .slice none 0 0, .int .i64 0, .slice none 0 0, .int .i64 0] 30 := by rw [← hw2z, ← hg7]; exact Blk.new w2 _ _
  have bz2 : Below w2.heap.size w2 w2z := by rw [← hw2z]; exact (Below.refl _ _).alloc (Nat.le_refl _) _
  obtain ⟨w3, hw3⟩ : ∃ x, w2z.setRow g7 #[a0, a1, a2, a3, a4, a5, a6, a7, a8, a9, a10, a11, a12, a13] = x := ⟨_, rfl⟩
  have hF3 : Fr (fun b => b = g7) w2z w3 := by rw [← hw3]; exact Fr.row (X := fun b => b = g7) rfl w2z _
  have hA3 : Blk w3 g7 [a0, a1, a2, a3, a4, a5, a6, a7, a8, a9, a10, a11, a12, a13] 30 := by rw [← hw3]; exact hZ2.setAll [a0, a1, a2, a3, a4, a5, a6, a7, a8, a9, a10, a11, a12, a13]
  have hd3 : Below w2.heap.size w2 w3 := hF3.below bz2 bz2.size (fun b hb => by have hb' : b = g7 := hb; omega)
  have b3 := b2.trans (hd3.mono b2.size)
  have s3 := hd3.size
  have hP3 := hP2.below hd3
  have iA_3 := iA_2.below hd3
  have rA_3 := rA_2.below hd3
  have Hw2z := hide hw2z
  have Hg7 := hide hg7
  have Hst2 := hide hw3
  clear hw3 hw2z hg7
  go_wp2_with (first | (with_reducible refine stop_load 30 rfl ?_) | (with_reducible refine stop_store 30 rfl ?_) | (with_reducible refine stop_load 28 rfl ?_) | (with_reducible refine stop_store 28 rfl ?_) | (with_reducible refine stop_load 49 rfl ?_) | (with_reducible refine stop_store 49 rfl ?_) | (with_reducible refine stop_load 24 rfl ?_) | (with_reducible refine stop_store 24 rfl ?_) | (with_reducible refine stop_load 58 rfl ?_) | (with_reducible refine stop_store 58 rfl ?_))
  rw [Hw2z.out]
  try rw [Hg7.out]
  refine go_store rfl rfl rfl rfl rfl hZ2 (by kernel_rfl) rfl (us := [a0, a1, a2, a3, a4, a5, a6, a7, a8, a9, a10, a11, a12, a13]) iA.ones ?_
  rw [show w2z.setRow g7 ([a0, a1, a2, a3, a4, a5, a6, a7, a8, a9, a10, a11, a12, a13] : List Value).toArray = w3 from Hst2.out]
  go_wp2_with (first | (with_reducible refine stop_load 30 rfl ?_) | (with_reducible refine stop_store 30 rfl ?_) | (with_reducible refine stop_load 28 rfl ?_) | (with_reducible refine stop_store 28 rfl ?_) | (with_reducible refine stop_load 49 rfl ?_) | (with_reducible refine stop_store 49 rfl ?_) | (with_reducible refine stop_load 24 rfl ?_) | (with_reducible refine stop_store 24 rfl ?_) | (with_reducible refine stop_load 58 rfl ?_) | (with_reducible refine stop_store 58 rfl ?_))
  refine go_loadG rfl rfl (k := 0) rfl hP3 [c0, c1, c2, c3, c4, c5, c6, c7, c8, c9, c10, c11, c12, c13] rfl Try.underlying30 rfl (by kernel_rfl) ?_
  go_wp2_with (first | (with_reducible refine stop_load 30 rfl ?_) | (with_reducible refine stop_store 30 rfl ?_) | (with_reducible refine stop_load 28 rfl ?_) | (with_reducible refine stop_store 28 rfl ?_) | (with_reducible refine stop_load 49 rfl ?_) | (with_reducible refine stop_store 49 rfl ?_) | (with_reducible refine stop_load 24 rfl ?_) | (with_reducible refine stop_store 24 rfl ?_) | (with_reducible refine stop_load 58 rfl ?_) | (with_reducible refine stop_store 58 rfl ?_))
  have hc := rTick_any (Hh.out.below b3)
  rw [hra] at hc
  go_fit (hc)
  rintro xx w4 ⟨lB, AB, nB, cB, rfl, iB, rB, hd4⟩
  have b4 := b3.trans (hd4.mono b3.size)
  have s4 := hd4.size
  have hP4 := hP3.below hd4
  have iA_4 := iA_3.below hd4
  have rA_4 := rA_3.below hd4
  have hA4 := hA3.below hd4
  have iB_4 := iB
  have rB_4 := rB
  obtain ⟨m0, m1, m2, m3, m4, m5, m6, m7, m8, m9, m10, m11, m12, m13, rfl⟩ := list_14 (iB.len : lB.length = 14)
  obtain ⟨g10, hg10⟩ : ∃ m, w4.heap.size = m := ⟨_, rfl⟩
  obtain ⟨w4z, hw4z⟩ : ∃ x, w4.alloc (.cells #[.int .i64 0, .int .i64 0, .slice none 0 0, .int .i64 0, .int .i64 0, .bool false, .int .u8 0, .int .i64 0, .int .i64 0, .slice none 0 0, .slice none 0 0, .int .i64 0, .slice none 0 0, .int .i64 0] 30) = x := ⟨_, rfl⟩
  have hZ4 : Blk w4z g10 [.int .i64 0, .int .i64 0, .slice none 0 0, .int .i64 0, .int .i64 0, .bool false, .int .u8 0, .int .i64 0, .int .i64 0, .slice none 0 0, .slice none 0 0, .int .i64 0, .slice none 0 0, .int .i64 0] 30 := by rw [← hw4z, ← hg10]; exact Blk.new w4 _ _
  have bz4 : Below w4.heap.size w4 w4z := by rw [← hw4z]; exact (Below.refl _ _).alloc (Nat.le_refl _) _
  obtain ⟨w5, hw5⟩ : ∃ x, w4z.setRow g10 #[m0, m1, m2, m3, m4, m5, m6, m7, m8, m9, m10, m11, m12, m13] = x := ⟨_, rfl⟩
  have hF5 : Fr (fun b => b = g10) w4z w5 := by rw [← hw5]; exact Fr.row (X := fun b => b = g10) rfl w4z _
  have hB5 : Blk w5 g10 [m0, m1, m2, m3, m4, m5, m6, m7, m8, m9, m10, m11, m12, m13] 30 := by rw [← hw5]; exact hZ4.setAll [m0, m1, m2, m3, m4, m5, m6, m7, m8, m9, m10, m11, m12, m13]
  have hd5 : Below w4.heap.size w4 w5 := hF5.below bz4 bz4.size (fun b hb => by have hb' : b = g10 := hb; omega)
  have b5 := b4.trans (hd5.mono b4.size)
  have s5 := hd5.size
  have hP5 := hP4.below hd5
  have iA_5 := iA_4.below hd5
  have rA_5 := rA_4.below hd5
  have hA5 := hA4.below hd5
  have iB_5 := iB_4.below hd5
  have rB_5 := rB_4.below hd5
  have Hw4z := hide hw4z
  have Hg10 := hide hg10
  have Hst4 := hide hw5
  clear hw5 hw4z hg10
  go_wp2_with (first | (with_reducible refine stop_load 30 rfl ?_) | (with_reducible refine stop_store 30 rfl ?_) | (with_reducible refine stop_load 28 rfl ?_) | (with_reducible refine stop_store 28 rfl ?_) | (with_reducible refine stop_load 49 rfl ?_) | (with_reducible refine stop_store 49 rfl ?_) | (with_reducible refine stop_load 24 rfl ?_) | (with_reducible refine stop_store 24 rfl ?_) | (with_reducible refine stop_load 58 rfl ?_) | (with_reducible refine stop_store 58 rfl ?_))
  rw [Hw4z.out]
  try rw [Hg10.out]
  refine go_store rfl rfl rfl rfl rfl hZ4 (by kernel_rfl) rfl (us := [m0, m1, m2, m3, m4, m5, m6, m7, m8, m9, m10, m11, m12, m13]) iB.ones ?_
  rw [show w4z.setRow g10 ([m0, m1, m2, m3, m4, m5, m6, m7, m8, m9, m10, m11, m12, m13] : List Value).toArray = w5 from Hst4.out]
  go_wp2_with (first | (with_reducible refine stop_load 30 rfl ?_) | (with_reducible refine stop_store 30 rfl ?_) | (with_reducible refine stop_load 28 rfl ?_) | (with_reducible refine stop_store 28 rfl ?_) | (with_reducible refine stop_load 49 rfl ?_) | (with_reducible refine stop_store 49 rfl ?_) | (with_reducible refine stop_load 24 rfl ?_) | (with_reducible refine stop_store 24 rfl ?_) | (with_reducible refine stop_load 58 rfl ?_) | (with_reducible refine stop_store 58 rfl ?_))
  refine go_loadG rfl rfl (k := 0) rfl hA5 [a0, a1, a2, a3, a4, a5, a6, a7, a8, a9, a10, a11, a12, a13] rfl Try.underlying30 rfl (by kernel_rfl) ?_
  go_wp2_with (first | (with_reducible refine stop_load 30 rfl ?_) | (with_reducible refine stop_store 30 rfl ?_) | (with_reducible refine stop_load 28 rfl ?_) | (with_reducible refine stop_store 28 rfl ?_) | (with_reducible refine stop_load 49 rfl ?_) | (with_reducible refine stop_store 49 rfl ?_) | (with_reducible refine stop_load 24 rfl ?_) | (with_reducible refine stop_store 24 rfl ?_) | (with_reducible refine stop_load 58 rfl ?_) | (with_reducible refine stop_store 58 rfl ?_))
  refine go_loadG rfl rfl (k := 0) rfl hB5 [m0, m1, m2, m3, m4, m5, m6, m7, m8, m9, m10, m11, m12, m13] rfl Try.underlying30 rfl (by kernel_rfl) ?_
  go_wp2_with (first | (with_reducible refine stop_load 30 rfl ?_) | (with_reducible refine stop_store 30 rfl ?_) | (with_reducible refine stop_load 28 rfl ?_) | (with_reducible refine stop_store 28 rfl ?_) | (with_reducible refine stop_load 49 rfl ?_) | (with_reducible refine stop_store 49 rfl ?_) | (with_reducible refine stop_load 24 rfl ?_) | (with_reducible refine stop_store 24 rfl ?_) | (with_reducible refine stop_load 58 rfl ?_) | (with_reducible refine stop_store 58 rfl ?_))
  have hh := rprS_any iA_5 iB_5
  rw [eqPr_self] at hh
  go_fit (hh)
  rintro xx w6 ⟨rfl, hd6⟩
  have b6 := b5.trans (hd6.mono b5.size)
  have s6 := hd6.size
  have hP6 := hP5.below hd6
  have iA_6 := iA_5.below hd6
  have rA_6 := rA_5.below hd6
  have hA6 := hA5.below hd6
  have iB_6 := iB_5.below hd6
  have rB_6 := rB_5.below hd6
  have hB6 := hB5.below hd6
  go_wp2_with (first | (with_reducible refine stop_load 30 rfl ?_) | (with_reducible refine stop_store 30 rfl ?_) | (with_reducible refine stop_load 28 rfl ?_) | (with_reducible refine stop_store 28 rfl ?_) | (with_reducible refine stop_load 49 rfl ?_) | (with_reducible refine stop_store 49 rfl ?_) | (with_reducible refine stop_load 24 rfl ?_) | (with_reducible refine stop_store 24 rfl ?_) | (with_reducible refine stop_load 58 rfl ?_) | (with_reducible refine stop_store 58 rfl ?_))
  go_fit (sameAll_is rA_6 rB_6)
  rintro xx w7 ⟨rfl, hd7⟩
  have b7 := b6.trans (hd7.mono b6.size)
  have s7 := hd7.size
  have hP7 := hP6.below hd7
  have iA_7 := iA_6.below hd7
  have rA_7 := rA_6.below hd7
  have hA7 := hA6.below hd7
  have iB_7 := iB_6.below hd7
  have rB_7 := rB_6.below hd7
  have hB7 := hB6.below hd7
  go_wp2_with (first | (with_reducible refine stop_load 30 rfl ?_) | (with_reducible refine stop_store 30 rfl ?_) | (with_reducible refine stop_load 28 rfl ?_) | (with_reducible refine stop_store 28 rfl ?_) | (with_reducible refine stop_load 49 rfl ?_) | (with_reducible refine stop_store 49 rfl ?_) | (with_reducible refine stop_load 24 rfl ?_) | (with_reducible refine stop_store 24 rfl ?_) | (with_reducible refine stop_load 58 rfl ?_) | (with_reducible refine stop_store 58 rfl ?_))
  go_fit (awake24_any w7)
  rintro xx w8 ⟨rfl, hd8⟩
  have b8 := b7.trans (hd8.mono b7.size)
  have s8 := hd8.size
  have hP8 := hP7.below hd8
  have iA_8 := iA_7.below hd8
  have rA_8 := rA_7.below hd8
  have hA8 := hA7.below hd8
  have iB_8 := iB_7.below hd8
  have rB_8 := rB_7.below hd8
  have hB8 := hB7.below hd8
  go_wp2
  go_ret
  exact ⟨by first | rfl | simp, b8⟩
end Go.Proofs.Ytlcbelmbonaooaa

namespace Go.Proofs.Ytlcbelmbonaooaa
open Go.ChangeShapes Go.WideShapes Go.ChangeAt Go.RowKit Go.Px Go.Joins Go.Deep
set_option linter.unusedVariables false

set_option maxRecDepth 100000 in
theorem proxyTicks_lifted (os : Os) (started : os.Started) (H : Type) (enc : TypeId × Value → H) :
    ReturnsInHanded {} Try.checked os 6 .any (Rows.proxyTicksSpec.pre6 enc Try.prog Try.f6 Rows.proxyTicksRow.domain false) (Rows.proxyTicksSpec.post enc Try.prog Try.f6 false true false false) := by
  refine returnsInHanded_of_change_sized (C := Try.checked) own started (by kernel_rfl) Try.func6
    (ChangeSpec.witness6 (enc := enc) (C := Try.checked) false ⟨#[], #[.agg #[.int .i64 0, .int .i64 0, .slice none 0 0, .int .i64 0, .int .i64 0, .bool false, .int .u8 0, .int .i64 0, .int .i64 0, .slice none 0 0, .slice none 0 0, .int .i64 0, .slice none 0 0, .int .i64 0]], []⟩ 8 (by kernel_rfl) (by kernel_rfl) (by kernel_rfl) (by kernel_rfl)) ?_
  intro W base args ds gs before hval0 hW _ hsz _
  have hval : ∀ (j : Nat) t v, Try.f6.params[j]? = some t → args[j]? = some v → Value.okWide Try.prog W .any base t v := hval0
  have hW' := hW
  obtain ⟨p, q, hA0, hV, rfl, hfz, hnd⟩ := hW
  have hA : DataW.TrodAll enc Try.prog W 0 (fun _ => true) true Try.f6.params.toList args.toList ds p := hA0
  rw [Try.params6] at hA hval
  obtain ⟨v0, l0, d0, e0, p0, q0, ha0, rfl, rfl, h0, r0⟩ := trodAll_cons hA
  obtain ⟨rfl, rfl, rfl⟩ := trodAll_nil r0
  obtain rfl : args = #[v0] := by cases args; simp_all
  obtain ⟨rfl, rfl⟩ := trodVars_none hV
  have L0 := light_any (t := tyProxy) (T := 30) (by kernel_rfl) (by kernel_rfl) h0 (weights_at hsz (j := 0) rfl rfl)
  obtain ⟨⟨lpa⟩, rfl, _⟩ := okWide_struct Try.underlying30 (hval 0 30 v0 rfl rfl); obtain ⟨pa, hx0⟩ := open_any (t := tyProxy) (T := 30) (by kernel_rfl) h0; have hy0 : tyProxy.Is _ _ pa lpa := hx0
  refine (proxyTicks_walk hy0 (rchP_of hy0 L0)).mono fun e W' ⟨he, hb⟩ => ?_
  subst he
  exact ⟨_, rfl, law_post laidOut rfl rfl Try.underlying4 (fun t ht => (show ∀ t ∈ Try.f6.params.toList, Try.prog.readableRec t = true ∧ t < Try.prog.types.size from by decide +kernel) t ht) hW' rfl hb⟩

theorem proxyTicks_holds : Rows.ProxyTicksSaid :=
  OpenClaim.holds_of_wide 6 Try.f6 rfl rfl rfl rfl rfl rfl rfl ⟨rfl, rfl, rfl, rfl, rfl⟩ rfl rfl rfl rfl rfl (by kernel_rfl) Try.func6 (by kernel_rfl)
    (of_decide_eq_true (by kernel_rfl)) (by unfold Func.isWrapper; first | (rw [if_pos (by decide +kernel)]; kernel_rfl) | (rw [if_neg (by decide +kernel)]; exact ⟨rfl, rfl⟩))
    (fun os started H enc _ => proxyTicks_lifted os started H enc)
end Go.Proofs.Ytlcbelmbonaooaa
