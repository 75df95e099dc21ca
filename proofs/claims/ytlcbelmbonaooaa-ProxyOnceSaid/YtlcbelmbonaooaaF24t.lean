/- Stage 24: a request, and its answer (written by gen_24t.py). -/
import Derived.Test.YtlcbelmbonaooaaF24s
namespace Go.Proofs.Ytlcbelmbonaooaa
set_option maxRecDepth 20000
open Go.RowKit Go.Px Go.Maps Go.Deep
set_option linter.unusedVariables false
set_option linter.unusedSimpArgs false
def g07 : GroupD := (0, [0, 1, 2])
def flushO : OpD := (4, 0, 0, [], [])
def p1D : ProxyD := newP 5 g07
def p2D : ProxyD := (5, g07, 0, 1, true, flushO, zeroG, 0)
def mD : MsgD := (2, 0, -5, 0, 0, 0, 0, 0, 0, 5, 1, zeroO, (1, []), zeroG, zeroS, [])
theorem p1_ok : prB p1D = true := by decide
theorem p1_ask : askD p1D flushO zeroG (asksB flushO zeroG) = (p2D, [reqD p2D 0], 0) := by
  rw [show asksB flushO zeroG = true by decide]
  show askD (5, g07, 0, 0, false, (0, 0, 0, [], []), (0, []), 0) flushO zeroG true = _
  rw [askD, if_neg (by rw [show prB (5, g07, 0, 0, false, (0, 0, 0, [], []), (0, []), 0) = true from p1_ok]; decide), if_neg (by decide), if_neg (by decide), if_neg (by decide)]
  rfl
theorem p2_take : takeD p2D mD = (endD p2D mD, [], (1, []), true) := by
  have h1 : goB p2D mD = true := by
    unfold goB
    have e1 : (mD.2.2.1 == IntKind.i64.wrap (-p2D.1)) = true := by decide
    have e2 : prB p2D = true := by decide
    have e3 : msgB mD = true := by decide
    rw [e1, e2, e3]; rfl
  have h2 : ansB p2D mD = true := by decide
  unfold takeD
  rw [if_pos h1, if_pos (by decide), if_pos h2]
  rfl
theorem flush_is {w : World} {Q : Nat → Prop} : tyOp.Is w Q flushO [.int .u8 4, .int .i64 0, .int .i64 0, .slice none 0 0, .slice none 0 0] := Op_mk (by decide) (by omega) (by omega) (by omega) (by omega) rfl (by omega) (by omega) Rd.nil (fun hn => absurd rfl hn) rfl (by omega) (by omega) Rd.nil (fun hn => absurd rfl hn)
theorem mD_is {w : World} {Q : Nat → Prop} : tyMsg.Is w Q mD [.int .u8 2, .int .i64 0, .int .i64 (-5), .int .i64 0, .int .i64 0, .int .i64 0, .int .i64 0, .int .i64 0, .int .u64 0, .int .i64 5, .int .i64 1, .int .u8 0, .int .i64 0, .int .i64 0, .slice none 0 0, .slice none 0 0, .int .u8 1, .slice none 0 0, .int .i64 0, .slice none 0 0, .int .i64 0, .int .i64 0, .int .i64 0, .slice none 0 0, .slice none 0 0, .int .i64 0, .slice none 0 0, .slice none 0 0] := Msg_shut (by decide) (by omega) (by omega) (by omega) (by omega) (by omega) (by omega) (by omega) (by decide) (by omega) (by omega) zeroO_is (Result_mk (by omega) rfl (by omega) (by omega) Rd.nil (fun hn => absurd rfl hn)) zeroG_is zeroS_is zeroL_is
set_option maxRecDepth 20000 in
set_option maxHeartbeats 12800000 in
theorem awake24_any (w : World) : Calls Try.prog 9 #[] w fun e w' => e = .returned (.bool true) ∧ Below w.heap.size w w' := by
  go_enter Try.func9, Try.ntmps9
  go_wp2_with (first | (with_reducible refine stop_load 30 rfl ?_) | (with_reducible refine stop_store 30 rfl ?_) | (with_reducible refine stop_load 28 rfl ?_) | (with_reducible refine stop_store 28 rfl ?_) | (with_reducible refine stop_load 49 rfl ?_) | (with_reducible refine stop_store 49 rfl ?_) | (with_reducible refine stop_load 24 rfl ?_) | (with_reducible refine stop_store 24 rfl ?_) | (with_reducible refine stop_load 58 rfl ?_) | (with_reducible refine stop_store 58 rfl ?_))
  go_fit (group07_any w)
  rintro xx w1 ⟨A, rfl, hr, ha, hd1⟩
  have iG : tyGroup.Is w1 (fun _ => True) g07 [.int .i64 0, .slice A 3 3] := Group_mk (by omega) (by omega) rfl (by omega) (by omega) hr (fun _ _ _ => trivial) (i64rows_mk (by intro x hx; simp at hx; omega))
  go_wp2_with (first | (with_reducible refine stop_load 30 rfl ?_) | (with_reducible refine stop_store 30 rfl ?_) | (with_reducible refine stop_load 28 rfl ?_) | (with_reducible refine stop_store 28 rfl ?_) | (with_reducible refine stop_load 49 rfl ?_) | (with_reducible refine stop_store 49 rfl ?_) | (with_reducible refine stop_load 24 rfl ?_) | (with_reducible refine stop_store 24 rfl ?_) | (with_reducible refine stop_load 58 rfl ?_) | (with_reducible refine stop_store 58 rfl ?_))
  go_fit (mprN_any (by omega) (by omega) iG (by decide))
  rintro xx w2 ⟨ds, rfl, iD, hd2⟩
  have hpb : prB (newP 5 g07) = true := p1_ok
  rw [if_pos hpb] at iD
  rw [prE_ok hpb]
  have hdl : ds.length = 14 := iD.len
  have s1 := hd1.size
  have s2 := hd2.size
  have b2 := hd1.trans (hd2.mono s1)
  obtain ⟨g1, hg1⟩ : ∃ m, w2.heap.size = m := ⟨_, rfl⟩
  obtain ⟨w3, hw3⟩ : ∃ x, w2.alloc (.cells #[.int .i64 0, .int .i64 0, .slice none 0 0, .int .i64 0, .int .i64 0, .bool false, .int .u8 0, .int .i64 0, .int .i64 0, .slice none 0 0, .slice none 0 0, .int .i64 0, .slice none 0 0, .int .i64 0] 30) = x := ⟨_, rfl⟩
  have hLw3 : Blk w3 g1 [.int .i64 0, .int .i64 0, .slice none 0 0, .int .i64 0, .int .i64 0, .bool false, .int .u8 0, .int .i64 0, .int .i64 0, .slice none 0 0, .slice none 0 0, .int .i64 0, .slice none 0 0, .int .i64 0] 30 := by rw [← hw3, ← hg1]; exact Blk.new w2 _ _
  have hbw3 : Below w2.heap.size w2 w3 := by rw [← hw3]; exact (Below.refl _ _).alloc (Nat.le_refl _) _

  have b3 := b2.trans (hbw3.mono b2.size)
  have s3 := hbw3.size
  have Hw3 := hide hw3
  have Hg1 := hide hg1
  clear hw3 hg1
  go_wp2_with (first | (with_reducible refine stop_load 30 rfl ?_) | (with_reducible refine stop_store 30 rfl ?_) | (with_reducible refine stop_load 28 rfl ?_) | (with_reducible refine stop_store 28 rfl ?_) | (with_reducible refine stop_load 49 rfl ?_) | (with_reducible refine stop_store 49 rfl ?_) | (with_reducible refine stop_load 24 rfl ?_) | (with_reducible refine stop_store 24 rfl ?_) | (with_reducible refine stop_load 58 rfl ?_) | (with_reducible refine stop_store 58 rfl ?_))
  rw [Hw3.out]
  try rw [Hg1.out]
  refine go_store rfl rfl rfl rfl rfl hLw3 (by rw [hdl]; kernel_rfl) (by rw [hdl]; rfl) (us := ds) iD.ones ?_
  obtain ⟨w4, hw4⟩ : ∃ x, w3.setRow g1 ds.toArray = x := ⟨_, rfl⟩
  have hF4 : Fr (fun b => b = g1) w3 w4 := by rw [← hw4]; exact Fr.row (X := fun b => b = g1) rfl w3 ds.toArray
  have hL4 : Blk w4 g1 ds 30 := by rw [← hw4]; exact hLw3.setAll ds
  have iD4 := ((iD.here).below hbw3).fr hF4 (fun b hb hx => by have hx' : b = g1 := hx; have h2 := hb.2; have := Hg1.out; omega)
  have b4 := hF4.below b3 b3.size (fun b hb => by have hb' : b = g1 := hb; have := Hg1.out; have := b2.size; omega)
  have s4 := hF4.size
  rw [hw4]
  clear hw4
  go_wp2_with (first | (with_reducible refine stop_load 30 rfl ?_) | (with_reducible refine stop_store 30 rfl ?_) | (with_reducible refine stop_load 28 rfl ?_) | (with_reducible refine stop_store 28 rfl ?_) | (with_reducible refine stop_load 49 rfl ?_) | (with_reducible refine stop_store 49 rfl ?_) | (with_reducible refine stop_load 24 rfl ?_) | (with_reducible refine stop_store 24 rfl ?_) | (with_reducible refine stop_load 58 rfl ?_) | (with_reducible refine stop_store 58 rfl ?_))
  refine go_load rfl rfl rfl hL4 Try.underlying30 rfl (by rw [hdl]; kernel_rfl) ?_
  go_wp2_with (first | (with_reducible refine stop_load 30 rfl ?_) | (with_reducible refine stop_store 30 rfl ?_) | (with_reducible refine stop_load 28 rfl ?_) | (with_reducible refine stop_store 28 rfl ?_) | (with_reducible refine stop_load 49 rfl ?_) | (with_reducible refine stop_store 49 rfl ?_) | (with_reducible refine stop_load 24 rfl ?_) | (with_reducible refine stop_store 24 rfl ?_) | (with_reducible refine stop_load 58 rfl ?_) | (with_reducible refine stop_store 58 rfl ?_))
  have hAsk := mAsk_any iD4 (flush_is (w := w4) (Q := fun _ => True)) ⟨by decide, by decide, by decide, by decide⟩ (by decide) (by decide)
  rw [show newP 5 g07 = p1D from rfl, p1_ask] at hAsk
  go_fit hAsk
  rintro xx w5 ⟨es, A5, n5, c5, rfl, iE, iL, hd5⟩
  have hel : es.length = 14 := iE.len
  have s5 := hd5.size
  have hL5 := hL4.below hd5
  have b5 := b4.trans (hd5.mono b4.size)
  go_wp2_with (first | (with_reducible refine stop_load 30 rfl ?_) | (with_reducible refine stop_store 30 rfl ?_) | (with_reducible refine stop_load 28 rfl ?_) | (with_reducible refine stop_store 28 rfl ?_) | (with_reducible refine stop_load 49 rfl ?_) | (with_reducible refine stop_store 49 rfl ?_) | (with_reducible refine stop_load 24 rfl ?_) | (with_reducible refine stop_store 24 rfl ?_) | (with_reducible refine stop_load 58 rfl ?_) | (with_reducible refine stop_store 58 rfl ?_))
  refine go_store rfl rfl rfl rfl rfl hL5 (by rw [hel]; kernel_rfl) (by rw [hel, hdl]) (us := es) iE.ones ?_
  obtain ⟨w6, hw6⟩ : ∃ x, w5.setRow g1 es.toArray = x := ⟨_, rfl⟩
  have hF6 : Fr (fun b => b = g1) w5 w6 := by rw [← hw6]; exact Fr.row (X := fun b => b = g1) rfl w5 es.toArray
  have hL6 : Blk w6 g1 es 30 := by rw [← hw6]; exact hL5.setAll es
  have hg4 : g1 < w4.heap.size := hL4.lt
  have iE6 := iE.fr hF6 (fun b hb hx => by have hx' : b = g1 := hx; have hb' : w4.heap.size ≤ b := hb; omega)
  have iL6 := iL.fr hF6 (fun b hb hx => by have hx' : b = g1 := hx; have hb' : w4.heap.size ≤ b := hb; omega)
  have b6 := hF6.below b5 b5.size (fun b hb => by have hb' : b = g1 := hb; have := Hg1.out; have := b2.size; omega)
  have s6 := hF6.size
  rw [hw6]
  clear hw6
  go_wp2_with (first | (with_reducible refine stop_load 30 rfl ?_) | (with_reducible refine stop_store 30 rfl ?_) | (with_reducible refine stop_load 28 rfl ?_) | (with_reducible refine stop_store 28 rfl ?_) | (with_reducible refine stop_load 49 rfl ?_) | (with_reducible refine stop_store 49 rfl ?_) | (with_reducible refine stop_load 24 rfl ?_) | (with_reducible refine stop_store 24 rfl ?_) | (with_reducible refine stop_load 58 rfl ?_) | (with_reducible refine stop_store 58 rfl ?_))
  refine go_load rfl rfl rfl hL6 Try.underlying30 rfl (by rw [hel]; kernel_rfl) ?_
  go_wp2_with (first | (with_reducible refine stop_load 30 rfl ?_) | (with_reducible refine stop_store 30 rfl ?_) | (with_reducible refine stop_load 28 rfl ?_) | (with_reducible refine stop_store 28 rfl ?_) | (with_reducible refine stop_load 49 rfl ?_) | (with_reducible refine stop_store 49 rfl ?_) | (with_reducible refine stop_load 24 rfl ?_) | (with_reducible refine stop_store 24 rfl ?_) | (with_reducible refine stop_load 58 rfl ?_) | (with_reducible refine stop_store 58 rfl ?_))
  have hTk := mTake_any iE6 (mD_is (w := w6) (Q := fun _ => True)) ⟨by decide, by decide, by decide, by decide⟩
  rw [p2_take] at hTk
  go_fit hTk
  rintro xx w7 ⟨fs, A7, n7, c7, qs, rfl, iF, -, iR, hd7⟩
  obtain ⟨id, ⟨ge, gm⟩, v, se, bu, o, n, qu, c1, c2, c6, c7, c8, c9, c10, c11, c12, hx7, rfl, -⟩ := Proxy_parts iF
  obtain ⟨rfl, hbu⟩ : (5 : Int) = id ∧ false = bu := by
    have h1 := congrArg (fun p : ProxyD => p.1) hx7
    have h2 := congrArg (fun p : ProxyD => p.2.2.2.2.1) hx7
    exact ⟨h1, h2⟩
  subst hbu
  obtain ⟨r0, r1, rfl⟩ := list_2 (iR.len : qs.length = 2)
  obtain ⟨R1, rn, rc, rfl, rfl, -⟩ := Result_cells iR
  have s7 := hd7.size
  have hL7 := hL6.below hd7
  have iL7 := iL6.below hd7
  have b7 := b6.trans (hd7.mono b6.size)
  obtain ⟨g2, hg2⟩ : ∃ m, w7.heap.size = m := ⟨_, rfl⟩
  obtain ⟨w8, hw8⟩ : ∃ x, (w7.alloc (.cells #[.int .i64 0, .int .i64 0, .slice none 0 0, .int .i64 0, .int .i64 0, .bool false, .int .u8 0, .int .i64 0, .int .i64 0, .slice none 0 0, .slice none 0 0, .int .i64 0, .slice none 0 0, .int .i64 0] 30)).alloc (.cells #[.int .u8 0, .slice none 0 0] 49) = x := ⟨_, rfl⟩
  have hX8 : Blk w8 g2 [.int .i64 0, .int .i64 0, .slice none 0 0, .int .i64 0, .int .i64 0, .bool false, .int .u8 0, .int .i64 0, .int .i64 0, .slice none 0 0, .slice none 0 0, .int .i64 0, .slice none 0 0, .int .i64 0] 30 := by rw [← hw8, ← hg2]; exact (Blk.new w7 _ _).alloc _
  have hY8 : Blk w8 (g2 + 1) [.int .u8 0, .slice none 0 0] 49 := by
    rw [← hw8, ← hg2]
    have := Blk.new (w7.alloc (.cells #[.int .i64 0, .int .i64 0, .slice none 0 0, .int .i64 0, .int .i64 0, .bool false, .int .u8 0, .int .i64 0, .int .i64 0, .slice none 0 0, .slice none 0 0, .int .i64 0, .slice none 0 0, .int .i64 0] 30)) [.int .u8 0, .slice none 0 0] 49
    rwa [World.size_alloc] at this
  have hd8 : Below w7.heap.size w7 w8 := by rw [← hw8]; exact ((Below.refl _ _).alloc (Nat.le_refl _) _).alloc (by simp) _
  have b8 := b7.trans (hd8.mono b7.size)
  have hL8 := hL7.below hd8
  have iL8 := iL7.below hd8
  have hlt := hL7.lt
  have Hw8 := hide hw8
  have Hg2 := hide hg2
  have s8 := hd8.size
  clear hw8 hg2
  go_wp2_with (first | (with_reducible refine stop_load 30 rfl ?_) | (with_reducible refine stop_store 30 rfl ?_) | (with_reducible refine stop_load 28 rfl ?_) | (with_reducible refine stop_store 28 rfl ?_) | (with_reducible refine stop_load 49 rfl ?_) | (with_reducible refine stop_store 49 rfl ?_) | (with_reducible refine stop_load 24 rfl ?_) | (with_reducible refine stop_store 24 rfl ?_) | (with_reducible refine stop_load 58 rfl ?_) | (with_reducible refine stop_store 58 rfl ?_))
  rw [Hw8.out]
  try rw [Hg2.out]
  refine go_store rfl rfl rfl rfl rfl hX8 (by kernel_rfl) rfl (us := [.int .i64 5, c1, c2, .int .i64 v, .int .i64 se, .bool false, c6, c7, c8, c9, c10, c11, c12, .int .i64 qu]) iF.ones ?_
  obtain ⟨w9, hw9⟩ : ∃ x, w8.setRow g2 #[.int .i64 5, c1, c2, .int .i64 v, .int .i64 se, .bool false, c6, c7, c8, c9, c10, c11, c12, .int .i64 qu] = x := ⟨_, rfl⟩
  have hF9 : Fr (fun b => b = g2) w8 w9 := by rw [← hw9]; exact Fr.row (X := fun b => b = g2) rfl w8 _
  have hX9 : Blk w9 g2 [.int .i64 5, c1, c2, .int .i64 v, .int .i64 se, .bool false, c6, c7, c8, c9, c10, c11, c12, .int .i64 qu] 30 := by rw [← hw9]; exact hX8.setAll [.int .i64 5, c1, c2, .int .i64 v, .int .i64 se, .bool false, c6, c7, c8, c9, c10, c11, c12, .int .i64 qu]
  have hY9 := hY8.fr hF9 (by omega)
  have hg2w : w7.heap.size = g2 := Hg2.out
  have hL9 := hL8.fr hF9 (by omega)
  have iL9 := (iL7.low.below hd8).fr hF9 (fun b hb hx => by have hx' : b = g2 := hx; have hb' : b < w7.heap.size := hb; omega)
  have b9 := hF9.below b8 b8.size (fun b hb => by have hb' : b = g2 := hb; have := b7.size; omega)
  have s9 := hF9.size
  rw [hw9]
  clear hw9
  go_wp2_with (first | (with_reducible refine stop_load 30 rfl ?_) | (with_reducible refine stop_store 30 rfl ?_) | (with_reducible refine stop_load 28 rfl ?_) | (with_reducible refine stop_store 28 rfl ?_) | (with_reducible refine stop_load 49 rfl ?_) | (with_reducible refine stop_store 49 rfl ?_) | (with_reducible refine stop_load 24 rfl ?_) | (with_reducible refine stop_store 24 rfl ?_) | (with_reducible refine stop_load 58 rfl ?_) | (with_reducible refine stop_store 58 rfl ?_))
  refine go_store rfl rfl rfl rfl rfl hY9 (by kernel_rfl) rfl (us := [.int .u8 1, .slice R1 rn rc]) iR.ones ?_
  obtain ⟨wa, hwa⟩ : ∃ x, w9.setRow (g2 + 1) #[.int .u8 1, .slice R1 rn rc] = x := ⟨_, rfl⟩
  have hFa : Fr (fun b => b = g2 + 1) w9 wa := by rw [← hwa]; exact Fr.row (X := fun b => b = g2 + 1) rfl w9 _
  have hYa : Blk wa (g2 + 1) [.int .u8 1, .slice R1 rn rc] 49 := by rw [← hwa]; exact hY9.setAll [.int .u8 1, .slice R1 rn rc]
  have hXa := hX9.fr hFa (by omega)
  have hLa := hL9.fr hFa (by omega)
  have iLa := iL9.fr hFa (fun b hb hx => by have hx' : b = g2 + 1 := hx; have hb' : b < w7.heap.size := hb; omega)
  have ba := hFa.below b9 b9.size (fun b hb => by have hb' : b = g2 + 1 := hb; have := b7.size; omega)
  rw [hwa]
  clear hwa
  -- the first message
  obtain ⟨A9, n9, c9, vs, e9, hl9, -, -, hr9, -, hrw⟩ := Row_cell iLa
  obtain ⟨rfl, rfl, rfl⟩ : A5 = A9 ∧ n5 = n9 ∧ c5 = c9 := by simpa using e9
  obtain ⟨ms, hms, hmc⟩ := hrw.get (k := 0) (x := reqD p2D 0) rfl
  obtain ⟨d0, d1, d2, d3, d4, d5, d6, d7, d8, d9, d10, d11, d12, d13, d14, d15, d16, d17, d18, d19, d20, d21, d22, d23, d24, d25, d26, d27, rfl⟩ := list_28 (hms.len : ms.length = 28)
  have hd1v : d1 = .int .i64 (-5) := hms.2.1.1
  subst hd1v
  obtain ⟨pa, hpa, hpc⟩ := hr9 1 (.int .i64 (-5)) (hmc 1 _ rfl)
  subst hpa
  have hpc' : wa.cell? ⟨pa.block, pa.off + 1, none⟩ = some (.int .i64 (-5)) := hpc
  simp only [List.length_singleton] at hl9
  subst hl9
  -- es: the client that asks
  obtain ⟨id2, ⟨ge2, gm2⟩, v2, se2, bu2, o2, m2, qu2, e1, e2, e6, e7, e8, e9, e10, e11, e12, hx8, rfl, -⟩ := Proxy_parts iE
  obtain rfl : true = bu2 := congrArg (fun p : ProxyD => p.2.2.2.2.1) hx8
  have l5 := hLa.cell (j := 5) rfl
  have x5 := hXa.cell (j := 5) rfl
  have y0 := hYa.cell (j := 0) rfl
  go_wp2
  go_ret
  exact ⟨rfl, ba⟩
end Go.Proofs.Ytlcbelmbonaooaa
