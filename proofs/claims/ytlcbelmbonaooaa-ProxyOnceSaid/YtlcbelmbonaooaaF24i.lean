/- Stage 24: copies of messages (written by gen_24i.py). -/
import Derived.Test.YtlcbelmbonaooaaF24j
namespace Go.Proofs.Ytlcbelmbonaooaa
set_option maxRecDepth 20000
open Go.RowKit Go.Px Go.Maps
set_option linter.unusedVariables false
set_option linter.unusedSimpArgs false
/-- A message that says little: no pages, no rows, no log, and its parts are not too long. -/
structure LightM (x : MsgD) : Prop where
  d : x.2.2.2.2.2.2.2.2.2.2.2.1.2.2.2.1.length ≤ 1099511627776
  q : x.2.2.2.2.2.2.2.2.2.2.2.1.2.2.2.2.length ≤ 1099511627776
  r : x.2.2.2.2.2.2.2.2.2.2.2.2.1.2.length ≤ 262144
  g : x.2.2.2.2.2.2.2.2.2.2.2.2.2.1.2.length ≤ 1099511627776
  p : x.2.2.2.2.2.2.2.2.2.2.2.2.2.2.1.2.2.1 = []
  w : x.2.2.2.2.2.2.2.2.2.2.2.2.2.2.1.2.2.2.1 = []
  s : x.2.2.2.2.2.2.2.2.2.2.2.2.2.2.1.2.2.2.2.2.length ≤ 1099511627776
  l : x.2.2.2.2.2.2.2.2.2.2.2.2.2.2.2 = []
set_option maxRecDepth 20000 in
set_option maxHeartbeats 25600000 in
theorem cloneMsg0_any {w : World} {Q : Nat → Prop} {x : MsgD} {cs : List Value} (h : tyMsg.Is w Q x cs) (hM : LightM x) :
    Calls Try.prog 92 #[.agg cs.toArray] w fun e w' => ∃ ds, e = .returned (.agg ds.toArray) ∧ tyMsg.Is w' (fun b => w.heap.size ≤ b) x ds ∧ Below w.heap.size w w' := by
  obtain ⟨k, f, t, e, v, nu, cm, no, nc, cl, se, o, r, g, s, l, c11, c12, c13, c14, c15, c16, c17, c18, c19, c20, c21, c22, c23, c24, c25, c26, c27, rfl, rfl, ho, hr, hg, hs, hl, HM⟩ := Msg_parts h
  obtain ⟨q1, q2, q3, q4, q5, q6, q7, q8⟩ := hM
  simp only at q1 q2 q3 q4 q5 q6 q7 q8
  subst q8
  obtain ⟨lA, ln, lc, lv, e27, hll, hlc, hlm, hlr, hlq, hle⟩ := hl
  obtain rfl : c27 = .slice lA ln lc := by simpa using e27
  simp only [List.length_nil] at hll
  subst hll
  obtain ⟨gg, hgg⟩ : ∃ g, w.heap.size = g := ⟨_, rfl⟩
  have HO := hide (fun W (hW : Below w.heap.size w W) => cloneOp_any (ho.below hW) q1 q2)
  have HR := hide (fun W (hW : Below w.heap.size w W) => cloneRe_any (hr.below hW) q3)
  have HG := hide (fun W (hW : Below w.heap.size w W) => cloneGr_any (hg.below hW) q4)
  have HS := hide (fun W (hW : Below w.heap.size w W) => cloneState0_any (hs.below hW) q5 q6 q7)
  have HMM := hide HM
  clear HM h ho hr hg hs q1 q2 q3 q4 q5 q6 q7 hlr hlq hle e27 hlc hlm
  obtain ⟨w0, hw0⟩ : ∃ x, (w.alloc (.cells #[.int .u8 k, .int .i64 f, .int .i64 t, .int .i64 e, .int .i64 v, .int .i64 nu, .int .i64 cm, .int .i64 no, .int .u64 nc, .int .i64 cl, .int .i64 se, c11, c12, c13, c14, c15, c16, c17, c18, c19, c20, c21, c22, c23, c24, c25, c26, .slice lA 0 lc] 58)).alloc (.cells #[.int .u8 0, .int .i64 0, .int .i64 0, .int .i64 0, .int .i64 0, .int .i64 0, .int .i64 0, .int .i64 0, .int .u64 0, .int .i64 0, .int .i64 0, .int .u8 0, .int .i64 0, .int .i64 0, .slice none 0 0, .slice none 0 0, .int .u8 0, .slice none 0 0, .int .i64 0, .slice none 0 0, .int .i64 0, .int .i64 0, .int .i64 0, .slice none 0 0, .slice none 0 0, .int .i64 0, .slice none 0 0, .slice none 0 0] 58) = x := ⟨_, rfl⟩
  have hP0 : Blk w0 gg [.int .u8 k, .int .i64 f, .int .i64 t, .int .i64 e, .int .i64 v, .int .i64 nu, .int .i64 cm, .int .i64 no, .int .u64 nc, .int .i64 cl, .int .i64 se, c11, c12, c13, c14, c15, c16, c17, c18, c19, c20, c21, c22, c23, c24, c25, c26, .slice lA 0 lc] 58 := by rw [← hw0, ← hgg]; exact (Blk.new w [.int .u8 k, .int .i64 f, .int .i64 t, .int .i64 e, .int .i64 v, .int .i64 nu, .int .i64 cm, .int .i64 no, .int .u64 nc, .int .i64 cl, .int .i64 se, c11, c12, c13, c14, c15, c16, c17, c18, c19, c20, c21, c22, c23, c24, c25, c26, .slice lA 0 lc] _).alloc _
  have hZ0 : Blk w0 (gg + 1) [.int .u8 0, .int .i64 0, .int .i64 0, .int .i64 0, .int .i64 0, .int .i64 0, .int .i64 0, .int .i64 0, .int .u64 0, .int .i64 0, .int .i64 0, .int .u8 0, .int .i64 0, .int .i64 0, .slice none 0 0, .slice none 0 0, .int .u8 0, .slice none 0 0, .int .i64 0, .slice none 0 0, .int .i64 0, .int .i64 0, .int .i64 0, .slice none 0 0, .slice none 0 0, .int .i64 0, .slice none 0 0, .slice none 0 0] 58 := by
    rw [← hw0, ← hgg]
    have := Blk.new (w.alloc (.cells #[.int .u8 k, .int .i64 f, .int .i64 t, .int .i64 e, .int .i64 v, .int .i64 nu, .int .i64 cm, .int .i64 no, .int .u64 nc, .int .i64 cl, .int .i64 se, c11, c12, c13, c14, c15, c16, c17, c18, c19, c20, c21, c22, c23, c24, c25, c26, .slice lA 0 lc] 58)) [.int .u8 0, .int .i64 0, .int .i64 0, .int .i64 0, .int .i64 0, .int .i64 0, .int .i64 0, .int .i64 0, .int .u64 0, .int .i64 0, .int .i64 0, .int .u8 0, .int .i64 0, .int .i64 0, .slice none 0 0, .slice none 0 0, .int .u8 0, .slice none 0 0, .int .i64 0, .slice none 0 0, .int .i64 0, .int .i64 0, .int .i64 0, .slice none 0 0, .slice none 0 0, .int .i64 0, .slice none 0 0, .slice none 0 0] 58
    rwa [World.size_alloc] at this
  have b0 : Below w.heap.size w w0 := by rw [← hw0]; exact ((Below.refl _ _).alloc (Nat.le_refl _) _).alloc (by simp) _
  have zl := hZ0.lt
  have Hw0 := hide hw0
  have s0 := b0.size
  clear hw0
  go_enter Try.func92, Try.ntmps92
  go_wp2_with (first | (with_reducible refine stop_load 58 rfl ?_) | (with_reducible refine stop_store 58 rfl ?_) | (with_reducible refine stop_load 28 rfl ?_) | (with_reducible refine stop_store 28 rfl ?_) | (with_reducible refine stop_load 49 rfl ?_) | (with_reducible refine stop_store 49 rfl ?_) | (with_reducible refine stop_load 24 rfl ?_) | (with_reducible refine stop_store 24 rfl ?_) | (with_reducible refine stop_load 55 rfl ?_) | (with_reducible refine stop_store 55 rfl ?_))
  rw [Hw0.out]
  refine go_loadM rfl rfl (k := 11) rfl hP0 [c11, c12, c13, c14, c15] rfl Try.underlying28 rfl (by kernel_rfl) ?_
  go_wp2_with (first | (with_reducible refine stop_load 58 rfl ?_) | (with_reducible refine stop_store 58 rfl ?_) | (with_reducible refine stop_load 28 rfl ?_) | (with_reducible refine stop_store 28 rfl ?_) | (with_reducible refine stop_load 49 rfl ?_) | (with_reducible refine stop_store 49 rfl ?_) | (with_reducible refine stop_load 24 rfl ?_) | (with_reducible refine stop_store 24 rfl ?_) | (with_reducible refine stop_load 55 rfl ?_) | (with_reducible refine stop_store 55 rfl ?_))
  go_fit (HO.out w0 b0)
  rintro xx v1 ⟨ds, rfl, iX1, hd1⟩
  obtain ⟨d11, d12, d13, d14, d15, rfl⟩ := list_5 (iX1.len : ds.length = 5)
  have sv1 := hd1.size
  have bv1 := b0.trans (hd1.mono b0.size)
  have hPv1 := hP0.below hd1
  have hZv1 := hZ0.below hd1
  go_wp2_with (first | (with_reducible refine stop_load 58 rfl ?_) | (with_reducible refine stop_store 58 rfl ?_) | (with_reducible refine stop_load 28 rfl ?_) | (with_reducible refine stop_store 28 rfl ?_) | (with_reducible refine stop_load 49 rfl ?_) | (with_reducible refine stop_store 49 rfl ?_) | (with_reducible refine stop_load 24 rfl ?_) | (with_reducible refine stop_store 24 rfl ?_) | (with_reducible refine stop_load 55 rfl ?_) | (with_reducible refine stop_store 55 rfl ?_))
  refine go_storeM rfl rfl rfl (k := 11) rfl hPv1 [d11, d12, d13, d14, d15] rfl (by simp) (by kernel_rfl) iX1.ones ?_
  obtain ⟨w1, hw1⟩ : ∃ x, v1.setCells gg 11 [d11, d12, d13, d14, d15] = x := ⟨_, rfl⟩
  have hF1 : Fr (fun b => b = gg) v1 w1 := by rw [← hw1]; exact Fr.sets (X := fun b => b = gg) rfl _ _ _
  have hP1 : Blk w1 gg [.int .u8 k, .int .i64 f, .int .i64 t, .int .i64 e, .int .i64 v, .int .i64 nu, .int .i64 cm, .int .i64 no, .int .u64 nc, .int .i64 cl, .int .i64 se, d11, d12, d13, d14, d15, c16, c17, c18, c19, c20, c21, c22, c23, c24, c25, c26, .slice lA 0 lc] 58 := by
    rw [← hw1]
    exact (((((hPv1.set 11 d11).set 12 d12).set 13 d13).set 14 d14).set 15 d15)
  have hZ1 := hZv1.fr hF1 (by omega)
  have b1 := hF1.below bv1 (by omega) (fun b hb => by have hb' : b = gg := hb; omega)
  have s1 := hF1.size
  have Hw1 := hide hw1
  clear hw1
  have iO1 := (iX1.mono (Q' := fun b => gg + 2 ≤ b) (fun b hb => by have hb' : w0.heap.size ≤ b := hb; show gg + 2 ≤ b; omega)).fr hF1 (fun b hb hx => by have hx' : b = gg := hx; have hb' : gg + 2 ≤ b := hb; omega)

  go_wp2_with (first | (with_reducible refine stop_load 58 rfl ?_) | (with_reducible refine stop_store 58 rfl ?_) | (with_reducible refine stop_load 28 rfl ?_) | (with_reducible refine stop_store 28 rfl ?_) | (with_reducible refine stop_load 49 rfl ?_) | (with_reducible refine stop_store 49 rfl ?_) | (with_reducible refine stop_load 24 rfl ?_) | (with_reducible refine stop_store 24 rfl ?_) | (with_reducible refine stop_load 55 rfl ?_) | (with_reducible refine stop_store 55 rfl ?_))
  rw [Hw1.out]
  refine go_loadM rfl rfl (k := 16) rfl hP1 [c16, c17] rfl Try.underlying49 rfl (by kernel_rfl) ?_
  go_wp2_with (first | (with_reducible refine stop_load 58 rfl ?_) | (with_reducible refine stop_store 58 rfl ?_) | (with_reducible refine stop_load 28 rfl ?_) | (with_reducible refine stop_store 28 rfl ?_) | (with_reducible refine stop_load 49 rfl ?_) | (with_reducible refine stop_store 49 rfl ?_) | (with_reducible refine stop_load 24 rfl ?_) | (with_reducible refine stop_store 24 rfl ?_) | (with_reducible refine stop_load 55 rfl ?_) | (with_reducible refine stop_store 55 rfl ?_))
  go_fit (HR.out w1 b1)
  rintro xx v2 ⟨ds, rfl, iX2, hd2⟩
  obtain ⟨d16, d17, rfl⟩ := list_2 (iX2.len : ds.length = 2)
  have sv2 := hd2.size
  have bv2 := b1.trans (hd2.mono b1.size)
  have hPv2 := hP1.below hd2
  have hZv2 := hZ1.below hd2
  go_wp2_with (first | (with_reducible refine stop_load 58 rfl ?_) | (with_reducible refine stop_store 58 rfl ?_) | (with_reducible refine stop_load 28 rfl ?_) | (with_reducible refine stop_store 28 rfl ?_) | (with_reducible refine stop_load 49 rfl ?_) | (with_reducible refine stop_store 49 rfl ?_) | (with_reducible refine stop_load 24 rfl ?_) | (with_reducible refine stop_store 24 rfl ?_) | (with_reducible refine stop_load 55 rfl ?_) | (with_reducible refine stop_store 55 rfl ?_))
  refine go_storeM rfl rfl rfl (k := 16) rfl hPv2 [d16, d17] rfl (by simp) (by kernel_rfl) iX2.ones ?_
  obtain ⟨w2, hw2⟩ : ∃ x, v2.setCells gg 16 [d16, d17] = x := ⟨_, rfl⟩
  have hF2 : Fr (fun b => b = gg) v2 w2 := by rw [← hw2]; exact Fr.sets (X := fun b => b = gg) rfl _ _ _
  have hP2 : Blk w2 gg [.int .u8 k, .int .i64 f, .int .i64 t, .int .i64 e, .int .i64 v, .int .i64 nu, .int .i64 cm, .int .i64 no, .int .u64 nc, .int .i64 cl, .int .i64 se, d11, d12, d13, d14, d15, d16, d17, c18, c19, c20, c21, c22, c23, c24, c25, c26, .slice lA 0 lc] 58 := by
    rw [← hw2]
    exact ((hPv2.set 16 d16).set 17 d17)
  have hZ2 := hZv2.fr hF2 (by omega)
  have b2 := hF2.below bv2 (by omega) (fun b hb => by have hb' : b = gg := hb; omega)
  have s2 := hF2.size
  have Hw2 := hide hw2
  clear hw2
  have iR2 := (iX2.mono (Q' := fun b => gg + 2 ≤ b) (fun b hb => by have hb' : w1.heap.size ≤ b := hb; show gg + 2 ≤ b; omega)).fr hF2 (fun b hb hx => by have hx' : b = gg := hx; have hb' : gg + 2 ≤ b := hb; omega)
  have iO2 := (iO1.below hd2).fr hF2 (fun b hb hx => by have hx' : b = gg := hx; have hb' : gg + 2 ≤ b := hb; omega)

  go_wp2_with (first | (with_reducible refine stop_load 58 rfl ?_) | (with_reducible refine stop_store 58 rfl ?_) | (with_reducible refine stop_load 28 rfl ?_) | (with_reducible refine stop_store 28 rfl ?_) | (with_reducible refine stop_load 49 rfl ?_) | (with_reducible refine stop_store 49 rfl ?_) | (with_reducible refine stop_load 24 rfl ?_) | (with_reducible refine stop_store 24 rfl ?_) | (with_reducible refine stop_load 55 rfl ?_) | (with_reducible refine stop_store 55 rfl ?_))
  rw [Hw2.out]
  refine go_loadM rfl rfl (k := 18) rfl hP2 [c18, c19] rfl Try.underlying24 rfl (by kernel_rfl) ?_
  go_wp2_with (first | (with_reducible refine stop_load 58 rfl ?_) | (with_reducible refine stop_store 58 rfl ?_) | (with_reducible refine stop_load 28 rfl ?_) | (with_reducible refine stop_store 28 rfl ?_) | (with_reducible refine stop_load 49 rfl ?_) | (with_reducible refine stop_store 49 rfl ?_) | (with_reducible refine stop_load 24 rfl ?_) | (with_reducible refine stop_store 24 rfl ?_) | (with_reducible refine stop_load 55 rfl ?_) | (with_reducible refine stop_store 55 rfl ?_))
  go_fit (HG.out w2 b2)
  rintro xx v3 ⟨ds, rfl, iX3, hd3⟩
  obtain ⟨d18, d19, rfl⟩ := list_2 (iX3.len : ds.length = 2)
  have sv3 := hd3.size
  have bv3 := b2.trans (hd3.mono b2.size)
  have hPv3 := hP2.below hd3
  have hZv3 := hZ2.below hd3
  go_wp2_with (first | (with_reducible refine stop_load 58 rfl ?_) | (with_reducible refine stop_store 58 rfl ?_) | (with_reducible refine stop_load 28 rfl ?_) | (with_reducible refine stop_store 28 rfl ?_) | (with_reducible refine stop_load 49 rfl ?_) | (with_reducible refine stop_store 49 rfl ?_) | (with_reducible refine stop_load 24 rfl ?_) | (with_reducible refine stop_store 24 rfl ?_) | (with_reducible refine stop_load 55 rfl ?_) | (with_reducible refine stop_store 55 rfl ?_))
  refine go_storeM rfl rfl rfl (k := 18) rfl hPv3 [d18, d19] rfl (by simp) (by kernel_rfl) iX3.ones ?_
  obtain ⟨w3, hw3⟩ : ∃ x, v3.setCells gg 18 [d18, d19] = x := ⟨_, rfl⟩
  have hF3 : Fr (fun b => b = gg) v3 w3 := by rw [← hw3]; exact Fr.sets (X := fun b => b = gg) rfl _ _ _
  have hP3 : Blk w3 gg [.int .u8 k, .int .i64 f, .int .i64 t, .int .i64 e, .int .i64 v, .int .i64 nu, .int .i64 cm, .int .i64 no, .int .u64 nc, .int .i64 cl, .int .i64 se, d11, d12, d13, d14, d15, d16, d17, d18, d19, c20, c21, c22, c23, c24, c25, c26, .slice lA 0 lc] 58 := by
    rw [← hw3]
    exact ((hPv3.set 18 d18).set 19 d19)
  have hZ3 := hZv3.fr hF3 (by omega)
  have b3 := hF3.below bv3 (by omega) (fun b hb => by have hb' : b = gg := hb; omega)
  have s3 := hF3.size
  have Hw3 := hide hw3
  clear hw3
  have iG3 := (iX3.mono (Q' := fun b => gg + 2 ≤ b) (fun b hb => by have hb' : w2.heap.size ≤ b := hb; show gg + 2 ≤ b; omega)).fr hF3 (fun b hb hx => by have hx' : b = gg := hx; have hb' : gg + 2 ≤ b := hb; omega)
  have iO3 := (iO2.below hd3).fr hF3 (fun b hb hx => by have hx' : b = gg := hx; have hb' : gg + 2 ≤ b := hb; omega)
  have iR3 := (iR2.below hd3).fr hF3 (fun b hb hx => by have hx' : b = gg := hx; have hb' : gg + 2 ≤ b := hb; omega)

  go_wp2_with (first | (with_reducible refine stop_load 58 rfl ?_) | (with_reducible refine stop_store 58 rfl ?_) | (with_reducible refine stop_load 28 rfl ?_) | (with_reducible refine stop_store 28 rfl ?_) | (with_reducible refine stop_load 49 rfl ?_) | (with_reducible refine stop_store 49 rfl ?_) | (with_reducible refine stop_load 24 rfl ?_) | (with_reducible refine stop_store 24 rfl ?_) | (with_reducible refine stop_load 55 rfl ?_) | (with_reducible refine stop_store 55 rfl ?_))
  rw [Hw3.out]
  refine go_loadM rfl rfl (k := 20) rfl hP3 [c20, c21, c22, c23, c24, c25, c26] rfl Try.underlying55 rfl (by kernel_rfl) ?_
  go_wp2_with (first | (with_reducible refine stop_load 58 rfl ?_) | (with_reducible refine stop_store 58 rfl ?_) | (with_reducible refine stop_load 28 rfl ?_) | (with_reducible refine stop_store 28 rfl ?_) | (with_reducible refine stop_load 49 rfl ?_) | (with_reducible refine stop_store 49 rfl ?_) | (with_reducible refine stop_load 24 rfl ?_) | (with_reducible refine stop_store 24 rfl ?_) | (with_reducible refine stop_load 55 rfl ?_) | (with_reducible refine stop_store 55 rfl ?_))
  go_fit (HS.out w3 b3)
  rintro xx v4 ⟨ds, rfl, iX4, hd4⟩
  obtain ⟨d20, d21, d22, d23, d24, d25, d26, rfl⟩ := list_7 (iX4.len : ds.length = 7)
  have sv4 := hd4.size
  have bv4 := b3.trans (hd4.mono b3.size)
  have hPv4 := hP3.below hd4
  have hZv4 := hZ3.below hd4
  go_wp2_with (first | (with_reducible refine stop_load 58 rfl ?_) | (with_reducible refine stop_store 58 rfl ?_) | (with_reducible refine stop_load 28 rfl ?_) | (with_reducible refine stop_store 28 rfl ?_) | (with_reducible refine stop_load 49 rfl ?_) | (with_reducible refine stop_store 49 rfl ?_) | (with_reducible refine stop_load 24 rfl ?_) | (with_reducible refine stop_store 24 rfl ?_) | (with_reducible refine stop_load 55 rfl ?_) | (with_reducible refine stop_store 55 rfl ?_))
  refine go_storeM rfl rfl rfl (k := 20) rfl hPv4 [d20, d21, d22, d23, d24, d25, d26] rfl (by simp) (by kernel_rfl) iX4.ones ?_
  obtain ⟨w4, hw4⟩ : ∃ x, v4.setCells gg 20 [d20, d21, d22, d23, d24, d25, d26] = x := ⟨_, rfl⟩
  have hF4 : Fr (fun b => b = gg) v4 w4 := by rw [← hw4]; exact Fr.sets (X := fun b => b = gg) rfl _ _ _
  have hP4 : Blk w4 gg [.int .u8 k, .int .i64 f, .int .i64 t, .int .i64 e, .int .i64 v, .int .i64 nu, .int .i64 cm, .int .i64 no, .int .u64 nc, .int .i64 cl, .int .i64 se, d11, d12, d13, d14, d15, d16, d17, d18, d19, d20, d21, d22, d23, d24, d25, d26, .slice lA 0 lc] 58 := by
    rw [← hw4]
    exact (((((((hPv4.set 20 d20).set 21 d21).set 22 d22).set 23 d23).set 24 d24).set 25 d25).set 26 d26)
  have hZ4 := hZv4.fr hF4 (by omega)
  have b4 := hF4.below bv4 (by omega) (fun b hb => by have hb' : b = gg := hb; omega)
  have s4 := hF4.size
  have Hw4 := hide hw4
  clear hw4
  have iS4 := (iX4.mono (Q' := fun b => gg + 2 ≤ b) (fun b hb => by have hb' : w3.heap.size ≤ b := hb; show gg + 2 ≤ b; omega)).fr hF4 (fun b hb hx => by have hx' : b = gg := hx; have hb' : gg + 2 ≤ b := hb; omega)
  have iO4 := (iO3.below hd4).fr hF4 (fun b hb hx => by have hx' : b = gg := hx; have hb' : gg + 2 ≤ b := hb; omega)
  have iR4 := (iR3.below hd4).fr hF4 (fun b hb hx => by have hx' : b = gg := hx; have hb' : gg + 2 ≤ b := hb; omega)
  have iG4 := (iG3.below hd4).fr hF4 (fun b hb hx => by have hx' : b = gg := hx; have hb' : gg + 2 ≤ b := hb; omega)

  have y27 := hP4.cell (j := 27) rfl
  have f27 := hP4.frozen 27
  obtain ⟨w5, hw5⟩ : ∃ x, w4.setCell ⟨gg, 27, none⟩ (.slice none 0 0) = x := ⟨_, rfl⟩
  have hF5 : Fr (fun b => b = gg) w4 w5 := by rw [← hw5]; exact Fr.set (X := fun b => b = gg) w4 ⟨gg, 27, none⟩ _ rfl
  have hP5 : Blk w5 gg [.int .u8 k, .int .i64 f, .int .i64 t, .int .i64 e, .int .i64 v, .int .i64 nu, .int .i64 cm, .int .i64 no, .int .u64 nc, .int .i64 cl, .int .i64 se, d11, d12, d13, d14, d15, d16, d17, d18, d19, d20, d21, d22, d23, d24, d25, d26, .slice none 0 0] 58 := by
    rw [← hw5]
    exact hP4.set 27 (.slice none 0 0)
  have hZ5 := hZ4.fr hF5 (by omega)
  have b5 := hF5.below b4 b4.size (fun b hb => by have hb' : b = gg := hb; omega)
  have s5 := hF5.size
  have Hw5 := hide hw5
  clear hw5
  rw [Hw4.out]
  go_wp2_with (first | (with_reducible refine stop_load 58 rfl ?_) | (with_reducible refine stop_store 58 rfl ?_) | (with_reducible refine stop_load 28 rfl ?_) | (with_reducible refine stop_store 28 rfl ?_) | (with_reducible refine stop_load 49 rfl ?_) | (with_reducible refine stop_store 49 rfl ?_) | (with_reducible refine stop_load 24 rfl ?_) | (with_reducible refine stop_store 24 rfl ?_) | (with_reducible refine stop_load 55 rfl ?_) | (with_reducible refine stop_store 55 rfl ?_))
  go_fit (entries0_any lA lc _)
  rintro xx wz ⟨rfl, hz⟩
  subst hz
  go_wp2_with (first | (with_reducible refine stop_load 58 rfl ?_) | (with_reducible refine stop_store 58 rfl ?_) | (with_reducible refine stop_load 28 rfl ?_) | (with_reducible refine stop_store 28 rfl ?_) | (with_reducible refine stop_load 49 rfl ?_) | (with_reducible refine stop_store 49 rfl ?_) | (with_reducible refine stop_load 24 rfl ?_) | (with_reducible refine stop_store 24 rfl ?_) | (with_reducible refine stop_load 55 rfl ?_) | (with_reducible refine stop_store 55 rfl ?_))
  rw [Hw5.out]
  refine go_load rfl rfl rfl hP5 Try.underlying58 rfl (by kernel_rfl) ?_
  go_wp2_with (first | (with_reducible refine stop_load 58 rfl ?_) | (with_reducible refine stop_store 58 rfl ?_) | (with_reducible refine stop_load 28 rfl ?_) | (with_reducible refine stop_store 28 rfl ?_) | (with_reducible refine stop_load 49 rfl ?_) | (with_reducible refine stop_store 49 rfl ?_) | (with_reducible refine stop_load 24 rfl ?_) | (with_reducible refine stop_store 24 rfl ?_) | (with_reducible refine stop_load 55 rfl ?_) | (with_reducible refine stop_store 55 rfl ?_))
  have hF : Fr (fun b => b = gg + 1) w5 (w5.setRow (gg + 1) #[.int .u8 k, .int .i64 f, .int .i64 t, .int .i64 e, .int .i64 v, .int .i64 nu, .int .i64 cm, .int .i64 no, .int .u64 nc, .int .i64 cl, .int .i64 se, d11, d12, d13, d14, d15, d16, d17, d18, d19, d20, d21, d22, d23, d24, d25, d26, .slice none 0 0]) := ⟨rfl, rfl, rfl, by simp [World.setRow], fun k _ hk => heap_setRow_other w5 (gg + 1) k _ (fun e => hk e)⟩
  have jO := ((iO4.fr hF5 (fun b hb hx => by have hx' : b = gg := hx; have hb' : gg + 2 ≤ b := hb; omega)).fr hF (fun b hb hx => by have hx' : b = gg + 1 := hx; have hb' : gg + 2 ≤ b := hb; omega))
  have jR := ((iR4.fr hF5 (fun b hb hx => by have hx' : b = gg := hx; have hb' : gg + 2 ≤ b := hb; omega)).fr hF (fun b hb hx => by have hx' : b = gg + 1 := hx; have hb' : gg + 2 ≤ b := hb; omega))
  have jG := ((iG4.fr hF5 (fun b hb hx => by have hx' : b = gg := hx; have hb' : gg + 2 ≤ b := hb; omega)).fr hF (fun b hb hx => by have hx' : b = gg + 1 := hx; have hb' : gg + 2 ≤ b := hb; omega))
  have jS := ((iS4.fr hF5 (fun b hb hx => by have hx' : b = gg := hx; have hb' : gg + 2 ≤ b := hb; omega)).fr hF (fun b hb hx => by have hx' : b = gg + 1 := hx; have hb' : gg + 2 ≤ b := hb; omega))
  have hI := HMM.out _ _ _ _ _ _ _ _ _ _ _ _ _ _ _ _ _ _ _ jO jR jG jS (show (Ty.row tyEntry).Is _ _ [] [.slice none 0 0] from ⟨none, 0, 0, [], rfl, rfl, by omega, by omega, Rd.nil, fun hn => absurd rfl hn, rows_nil⟩)
  refine go_store rfl rfl rfl rfl rfl hZ5 (by kernel_rfl) rfl (us := [.int .u8 k, .int .i64 f, .int .i64 t, .int .i64 e, .int .i64 v, .int .i64 nu, .int .i64 cm, .int .i64 no, .int .u64 nc, .int .i64 cl, .int .i64 se, d11, d12, d13, d14, d15, d16, d17, d18, d19, d20, d21, d22, d23, d24, d25, d26, .slice none 0 0]) hI.ones ?_
  go_wp2
  refine bodyPost_ret (results_cell rfl rfl (hZ5.setAll [.int .u8 k, .int .i64 f, .int .i64 t, .int .i64 e, .int .i64 v, .int .i64 nu, .int .i64 cm, .int .i64 no, .int .u64 nc, .int .i64 cl, .int .i64 se, d11, d12, d13, d14, d15, d16, d17, d18, d19, d20, d21, d22, d23, d24, d25, d26, .slice none 0 0]) Try.underlying58 rfl (by kernel_rfl)) rfl ?_
  refine ⟨[.int .u8 k, .int .i64 f, .int .i64 t, .int .i64 e, .int .i64 v, .int .i64 nu, .int .i64 cm, .int .i64 no, .int .u64 nc, .int .i64 cl, .int .i64 se, d11, d12, d13, d14, d15, d16, d17, d18, d19, d20, d21, d22, d23, d24, d25, d26, .slice none 0 0], rfl, ?_, hF.below (by first | exact b5 | (rw [← hgg]; exact b5)) (by omega) (fun b hb => by have hb' : b = gg + 1 := hb; omega)⟩
  exact hI.mono (fun b hb => by have hb' : gg + 2 ≤ b := hb; first | (show w.heap.size ≤ b; omega) | (show gg ≤ b; omega))
end Go.Proofs.Ytlcbelmbonaooaa
