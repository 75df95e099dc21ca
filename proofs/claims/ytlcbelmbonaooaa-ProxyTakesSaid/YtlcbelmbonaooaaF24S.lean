/- Stage 24: what comes of a message, as the document says (written by gen_24ab.py). -/
import Derived.Test.YtlcbelmbonaooaaF24R
import Derived.Test.YtlcbelmbonaooaaF24s
import Derived.Test.YtlcbelmbonaooaaF24d
import Derived.Test.YtlcbelmbonaooaaOrd
namespace Go.Proofs.Ytlcbelmbonaooaa
set_option maxRecDepth 20000
open Go.RowKit Go.Px Go.Maps Go.Deep
set_option linter.unusedVariables false
set_option linter.unusedSimpArgs false
set_option maxRecDepth 20000 in
set_option maxHeartbeats 51200000 in
theorem rTake_any {w : World} {Q Q' : Nat → Prop} {x : ProxyD} {y : MsgD} {cs ds : List Value} (h : tyProxy.Is w Q x cs) (h' : tyMsg.Is w Q' y ds) :
    Calls Try.prog 23 #[.agg cs.toArray, .agg ds.toArray] w fun e w' => TakeIs w w' (fun _ => True) (takeD x y) e := by
  have hMb : ∀ {k f t e v nu cm no nc cl se o r g s l}, y = (k, f, t, e, v, nu, cm, no, nc, cl, se, o, r, g, s, l) → (-9223372036854775808 ≤ v ∧ v ≤ 9223372036854775807) := fun he => (Msg_bds (he ▸ h')).2
  have HM' := hide h'
  obtain ⟨id, ⟨ge, gm⟩, v, se, bu, o, n, qu, c1, c2, c6, c7, c8, c9, c10, c11, c12, rfl, rfl, p1, p2, p3, p4, hg, ho, hn⟩ := Proxy_parts h
  obtain ⟨gA, gn, gc, rfl, rfl, gb, -, -, -, -, gi⟩ := Group_cells hg
  obtain ⟨k, f, t, e, mv, nu, cm, no, nc, cl, ms, mo, ⟨rk, rd⟩, ⟨me, mm⟩, s, l, m11, m12, m13, m14, m15, m16, m17, m18, m19, m20, m21, m22, m23, m24, m25, m26, m27, rfl, rfl, ko, kr, kg, ks, kl, KM⟩ := Msg_parts h'
  have hvb := hMb rfl
  obtain ⟨rA, rn, rc, rfl, rfl, -⟩ := Result_cells kr
  obtain ⟨mA, mn, mc, rfl, rfl, mb, -, -, -, -, mi⟩ := Group_cells kg
  have HM2 := hide (show tyMsg.Is w Q' (k, f, t, e, mv, nu, cm, no, nc, cl, ms, mo, (rk, rd), (me, mm), s, l) [.int .u8 k, .int .i64 f, .int .i64 t, .int .i64 e, .int .i64 mv, .int .i64 nu, .int .i64 cm, .int .i64 no, .int .u64 nc, .int .i64 cl, .int .i64 ms, m11, m12, m13, m14, m15, .int .u8 rk, .slice rA rn rc, .int .i64 me, .slice mA mn mc, m20, m21, m22, m23, m24, m25, m26, m27] from HM'.out)
  have HP := hide (show tyProxy.Is w (fun b => b < w.heap.size) (id, (ge, gm), v, se, bu, o, n, qu) [.int .i64 id, .int .i64 ge, .slice gA gn gc, .int .i64 v, .int .i64 se, .bool bu, c6, c7, c8, c9, c10, c11, c12, .int .i64 qu] from h.low)
  have HI := hide (fun (W : World) (hW : Below w.heap.size w W) (u : Int) (hu : -9223372036854775808 ≤ u ∧ u ≤ 9223372036854775807) => (Proxy_shut (bu := false) p1 hu p3 p4 (hg.low.below hW) (zeroO_is (w := W) (Q := (fun b => b < w.heap.size))) (zeroG_is (w := W) (Q := (fun b => b < w.heap.size))) : tyProxy.Is W (fun b => b < w.heap.size) (id, (ge, gm), u, se, false, zeroO, zeroG, qu) [.int .i64 id, .int .i64 ge, .slice gA gn gc, .int .i64 u, .int .i64 se, .bool false, .int .u8 0, .int .i64 0, .int .i64 0, .slice none 0 0, .slice none 0 0, .int .i64 0, .slice none 0 0, .int .i64 qu]))
  have HN := hide (fun (W : World) (hW : Below w.heap.size w W) => (Proxy_shut (bu := bu) (qu := 0) p1 hvb p3 (by omega) (kg.low.below hW) (ho.low.below hW) (hn.low.below hW) : tyProxy.Is W (fun b => b < w.heap.size) (id, (me, mm), mv, se, bu, o, n, 0) [.int .i64 id, .int .i64 me, .slice mA mn mc, .int .i64 mv, .int .i64 se, .bool bu, c6, c7, c8, c9, c10, c11, c12, .int .i64 0]))
  have HRr := hide (fun (W : World) (hW : Below w.heap.size w W) => kr.low.below hW)
  have HCg := hide (fun W (hW : Below w.heap.size w W) => rcheck_is (kg.below hW))
  have HLd := hide (fun W (hW : Below w.heap.size w W) => lead_is (v := mv) (kg.below hW))
  have hpb := primN_bd (e := me) (v := mv) mi
  clear h h' hg ho hn ko kr kg ks kl KM hMb HM' gi mi
  obtain ⟨gg, hgg⟩ : ∃ g, w.heap.size = g := ⟨_, rfl⟩
  obtain ⟨w0, hw0⟩ : ∃ x, (((w.alloc (.cells #[.int .i64 id, .int .i64 ge, .slice gA gn gc, .int .i64 v, .int .i64 se, .bool bu, c6, c7, c8, c9, c10, c11, c12, .int .i64 qu] 30)).alloc (.cells #[.int .u8 k, .int .i64 f, .int .i64 t, .int .i64 e, .int .i64 mv, .int .i64 nu, .int .i64 cm, .int .i64 no, .int .u64 nc, .int .i64 cl, .int .i64 ms, m11, m12, m13, m14, m15, .int .u8 rk, .slice rA rn rc, .int .i64 me, .slice mA mn mc, m20, m21, m22, m23, m24, m25, m26, m27] 58)).alloc (.cells #[.int .i64 0, .int .i64 0, .slice none 0 0, .int .i64 0, .int .i64 0, .bool false, .int .u8 0, .int .i64 0, .int .i64 0, .slice none 0 0, .slice none 0 0, .int .i64 0, .slice none 0 0, .int .i64 0] 30)).alloc (.cells #[.int .u8 0, .slice none 0 0] 49) = x := ⟨_, rfl⟩
  have hP0 : Blk w0 gg [.int .i64 id, .int .i64 ge, .slice gA gn gc, .int .i64 v, .int .i64 se, .bool bu, c6, c7, c8, c9, c10, c11, c12, .int .i64 qu] 30 := by rw [← hw0, ← hgg]; exact (((Blk.new w _ _).alloc _).alloc _).alloc _
  have hM0 : Blk w0 (gg + 1) [.int .u8 k, .int .i64 f, .int .i64 t, .int .i64 e, .int .i64 mv, .int .i64 nu, .int .i64 cm, .int .i64 no, .int .u64 nc, .int .i64 cl, .int .i64 ms, m11, m12, m13, m14, m15, .int .u8 rk, .slice rA rn rc, .int .i64 me, .slice mA mn mc, m20, m21, m22, m23, m24, m25, m26, m27] 58 := by
    rw [← hw0, ← hgg]
    have := Blk.new (w.alloc (.cells #[.int .i64 id, .int .i64 ge, .slice gA gn gc, .int .i64 v, .int .i64 se, .bool bu, c6, c7, c8, c9, c10, c11, c12, .int .i64 qu] 30)) [.int .u8 k, .int .i64 f, .int .i64 t, .int .i64 e, .int .i64 mv, .int .i64 nu, .int .i64 cm, .int .i64 no, .int .u64 nc, .int .i64 cl, .int .i64 ms, m11, m12, m13, m14, m15, .int .u8 rk, .slice rA rn rc, .int .i64 me, .slice mA mn mc, m20, m21, m22, m23, m24, m25, m26, m27] 58
    rw [World.size_alloc] at this
    exact (this.alloc _).alloc _
  have hZ0 : Blk w0 (gg + 2) [.int .i64 0, .int .i64 0, .slice none 0 0, .int .i64 0, .int .i64 0, .bool false, .int .u8 0, .int .i64 0, .int .i64 0, .slice none 0 0, .slice none 0 0, .int .i64 0, .slice none 0 0, .int .i64 0] 30 := by
    rw [← hw0, ← hgg]
    have := Blk.new ((w.alloc (.cells #[.int .i64 id, .int .i64 ge, .slice gA gn gc, .int .i64 v, .int .i64 se, .bool bu, c6, c7, c8, c9, c10, c11, c12, .int .i64 qu] 30)).alloc (.cells #[.int .u8 k, .int .i64 f, .int .i64 t, .int .i64 e, .int .i64 mv, .int .i64 nu, .int .i64 cm, .int .i64 no, .int .u64 nc, .int .i64 cl, .int .i64 ms, m11, m12, m13, m14, m15, .int .u8 rk, .slice rA rn rc, .int .i64 me, .slice mA mn mc, m20, m21, m22, m23, m24, m25, m26, m27] 58)) [.int .i64 0, .int .i64 0, .slice none 0 0, .int .i64 0, .int .i64 0, .bool false, .int .u8 0, .int .i64 0, .int .i64 0, .slice none 0 0, .slice none 0 0, .int .i64 0, .slice none 0 0, .int .i64 0] 30
    rw [World.size_alloc, World.size_alloc] at this
    exact this.alloc _
  have hR0 : Blk w0 (gg + 3) [.int .u8 0, .slice none 0 0] 49 := by
    rw [← hw0, ← hgg]
    have := Blk.new (((w.alloc (.cells #[.int .i64 id, .int .i64 ge, .slice gA gn gc, .int .i64 v, .int .i64 se, .bool bu, c6, c7, c8, c9, c10, c11, c12, .int .i64 qu] 30)).alloc (.cells #[.int .u8 k, .int .i64 f, .int .i64 t, .int .i64 e, .int .i64 mv, .int .i64 nu, .int .i64 cm, .int .i64 no, .int .u64 nc, .int .i64 cl, .int .i64 ms, m11, m12, m13, m14, m15, .int .u8 rk, .slice rA rn rc, .int .i64 me, .slice mA mn mc, m20, m21, m22, m23, m24, m25, m26, m27] 58)).alloc (.cells #[.int .i64 0, .int .i64 0, .slice none 0 0, .int .i64 0, .int .i64 0, .bool false, .int .u8 0, .int .i64 0, .int .i64 0, .slice none 0 0, .slice none 0 0, .int .i64 0, .slice none 0 0, .int .i64 0] 30)) [.int .u8 0, .slice none 0 0] 49
    rw [World.size_alloc, World.size_alloc, World.size_alloc] at this
    exact this
  have b0 : Below w.heap.size w w0 := by rw [← hw0]; exact ((((Below.refl _ _).alloc (Nat.le_refl _) _).alloc (by simp) _).alloc (by simp; omega) _).alloc (by simp; omega) _
  have rl := hR0.lt
  have Hw0 := hide hw0
  have s0 := b0.size
  have iD0 := HP.out.below b0
  clear hw0
  obtain ⟨ni, hni⟩ : ∃ x, IntKind.i64.wrap (-id) = x := ⟨_, rfl⟩
  have hni' : wrap64 (-id) = ni := by rw [← hni, IntWalk.i64_left]
  have HGo := hide (show goB (id, (ge, gm), v, se, bu, o, n, qu) (k, f, t, e, mv, nu, cm, no, nc, cl, ms, mo, (rk, rd), (me, mm), s, l) = ((t == ni) && (prB (id, (ge, gm), v, se, bu, o, n, qu) && msgB (k, f, t, e, mv, nu, cm, no, nc, cl, ms, mo, (rk, rd), (me, mm), s, l))) by rw [← hni]; rfl)
  go_enter Try.func23, Try.ntmps23
  go_wp2_with (first | (with_reducible refine stop_load 30 rfl ?_) | (with_reducible refine stop_store 30 rfl ?_) | (with_reducible refine stop_load 28 rfl ?_) | (with_reducible refine stop_store 28 rfl ?_) | (with_reducible refine stop_load 49 rfl ?_) | (with_reducible refine stop_store 49 rfl ?_) | (with_reducible refine stop_load 24 rfl ?_) | (with_reducible refine stop_store 24 rfl ?_) | (with_reducible refine stop_load 58 rfl ?_) | (with_reducible refine stop_store 58 rfl ?_))
  rw [Hw0.out]
  refine go_loadG rfl rfl (k := 0) rfl hP0 [.int .i64 id, .int .i64 ge, .slice gA gn gc, .int .i64 v, .int .i64 se, .bool bu, c6, c7, c8, c9, c10, c11, c12, .int .i64 qu] rfl Try.underlying30 rfl (by kernel_rfl) ?_
  go_wp2_with (first | (with_reducible refine stop_load 30 rfl ?_) | (with_reducible refine stop_store 30 rfl ?_) | (with_reducible refine stop_load 28 rfl ?_) | (with_reducible refine stop_store 28 rfl ?_) | (with_reducible refine stop_load 49 rfl ?_) | (with_reducible refine stop_store 49 rfl ?_) | (with_reducible refine stop_load 24 rfl ?_) | (with_reducible refine stop_store 24 rfl ?_) | (with_reducible refine stop_load 58 rfl ?_) | (with_reducible refine stop_store 58 rfl ?_))
  go_fit (rprC_any iD0)
  rintro xx w1 ⟨rfl, hd1⟩
  have b1 := b0.trans (hd1.mono b0.size)
  have s1 := hd1.size
  have hP1 := hP0.below hd1
  have hM1 := hM0.below hd1
  have hZ1 := hZ0.below hd1
  have hR1 := hR0.below hd1
  have iD1 := iD0.below hd1
  rcases bool_two (prB (id, (ge, gm), v, se, bu, o, n, qu)) with q2 | q2
  rotate_left
  · have HF := hide (show takeD (id, (ge, gm), v, se, bu, o, n, qu) (k, f, t, e, mv, nu, cm, no, nc, cl, ms, mo, (rk, rd), (me, mm), s, l) = nopD (id, (ge, gm), v, se, bu, o, n, qu) by unfold takeD; rw [HGo.out, q2, Bool.false_and, Bool.and_false, if_neg Bool.false_ne_true])
    rw [prE_no q2]
    clear q2
    go_wp2_with (first | (with_reducible refine stop_load 30 rfl ?_) | (with_reducible refine stop_store 30 rfl ?_) | (with_reducible refine stop_load 28 rfl ?_) | (with_reducible refine stop_store 28 rfl ?_) | (with_reducible refine stop_load 49 rfl ?_) | (with_reducible refine stop_store 49 rfl ?_) | (with_reducible refine stop_load 24 rfl ?_) | (with_reducible refine stop_store 24 rfl ?_) | (with_reducible refine stop_load 58 rfl ?_) | (with_reducible refine stop_store 58 rfl ?_))
    repeat (refine go_skipG rfl ?_; go_wp2_with (first | (with_reducible refine stop_load 30 rfl ?_) | (with_reducible refine stop_store 30 rfl ?_) | (with_reducible refine stop_load 28 rfl ?_) | (with_reducible refine stop_store 28 rfl ?_) | (with_reducible refine stop_load 49 rfl ?_) | (with_reducible refine stop_store 49 rfl ?_) | (with_reducible refine stop_load 24 rfl ?_) | (with_reducible refine stop_store 24 rfl ?_) | (with_reducible refine stop_load 58 rfl ?_) | (with_reducible refine stop_store 58 rfl ?_)))
    refine go_loadG rfl rfl (k := 0) rfl hP1 [.int .i64 id, .int .i64 ge, .slice gA gn gc, .int .i64 v, .int .i64 se, .bool bu, c6, c7, c8, c9, c10, c11, c12, .int .i64 qu] rfl Try.underlying30 rfl (by kernel_rfl) ?_
    go_wp2_with (first | (with_reducible refine stop_load 30 rfl ?_) | (with_reducible refine stop_store 30 rfl ?_) | (with_reducible refine stop_load 28 rfl ?_) | (with_reducible refine stop_store 28 rfl ?_) | (with_reducible refine stop_load 49 rfl ?_) | (with_reducible refine stop_store 49 rfl ?_) | (with_reducible refine stop_load 24 rfl ?_) | (with_reducible refine stop_store 24 rfl ?_) | (with_reducible refine stop_load 58 rfl ?_) | (with_reducible refine stop_store 58 rfl ?_))
    refine go_store rfl rfl rfl rfl rfl hZ1 (by kernel_rfl) rfl (us := [.int .i64 id, .int .i64 ge, .slice gA gn gc, .int .i64 v, .int .i64 se, .bool bu, c6, c7, c8, c9, c10, c11, c12, .int .i64 qu]) iD1.ones ?_
    obtain ⟨wy, hwy⟩ : ∃ x, w1.setRow (gg + 2) #[.int .i64 id, .int .i64 ge, .slice gA gn gc, .int .i64 v, .int .i64 se, .bool bu, c6, c7, c8, c9, c10, c11, c12, .int .i64 qu] = x := ⟨_, rfl⟩
    have hFy : Fr (fun b => b = gg + 2) w1 wy := by rw [← hwy]; exact Fr.row (X := fun b => b = gg + 2) rfl w1 _
    have hZy : Blk wy (gg + 2) [.int .i64 id, .int .i64 ge, .slice gA gn gc, .int .i64 v, .int .i64 se, .bool bu, c6, c7, c8, c9, c10, c11, c12, .int .i64 qu] 30 := by rw [← hwy]; exact hZ1.setAll [.int .i64 id, .int .i64 ge, .slice gA gn gc, .int .i64 v, .int .i64 se, .bool bu, c6, c7, c8, c9, c10, c11, c12, .int .i64 qu]
    have hRy := hR1.fr hFy (by omega)
    have iDy := iD1.fr hFy (fun b hb hx => by have hx' : b = gg + 2 := hx; have hb' : b < w.heap.size := hb; omega)
    have by' := hFy.below b1 b1.size (fun b hb => by have hb' : b = gg + 2 := hb; omega)
    have sy := hFy.size
    rw [hwy]
    clear hwy
    go_wp2_with (first | (with_reducible refine stop_load 30 rfl ?_) | (with_reducible refine stop_store 30 rfl ?_) | (with_reducible refine stop_load 28 rfl ?_) | (with_reducible refine stop_store 28 rfl ?_) | (with_reducible refine stop_load 49 rfl ?_) | (with_reducible refine stop_store 49 rfl ?_) | (with_reducible refine stop_load 24 rfl ?_) | (with_reducible refine stop_store 24 rfl ?_) | (with_reducible refine stop_load 58 rfl ?_) | (with_reducible refine stop_store 58 rfl ?_))
    refine go_store rfl rfl rfl rfl rfl hRy (by kernel_rfl) rfl (us := [.int .u8 0, .slice none 0 0]) (zeroR_is (w := w) (Q := fun _ => True)).ones ?_
    go_wp2
    have hF := Fr.row (X := fun b => b = gg + 3) rfl wy #[.int .u8 0, .slice none 0 0]
    refine bodyPost_ret (results_cell4 rfl rfl rfl (hZy.fr hF (by omega)) (hRy.setAll [.int .u8 0, .slice none 0 0]) Try.underlying30 rfl (by kernel_rfl) Try.underlying49 rfl (by kernel_rfl)) rfl ?_
    refine TakeIs.to ?_ HF.out
    refine ⟨[.int .i64 id, .int .i64 ge, .slice gA gn gc, .int .i64 v, .int .i64 se, .bool bu, c6, c7, c8, c9, c10, c11, c12, .int .i64 qu], none, 0, 0, [.int .u8 0, .slice none 0 0], rfl, ?_, zeroL_is, zeroR_is, hF.below (by first | exact by' | (rw [← hgg]; exact by')) (by omega) (fun b hb => by have hb' : b = gg + 3 := hb; omega)⟩
    exact (iDy.fr hF (fun b hb hx => by have hx' : b = gg + 3 := hx; have hb' : b < w.heap.size := hb; omega)).any
  have hid := prB_id q2
  rw [prE_ok q2]
  have Q2 := hide q2
  clear q2
  go_wp2_with (first | (with_reducible refine stop_load 30 rfl ?_) | (with_reducible refine stop_store 30 rfl ?_) | (with_reducible refine stop_load 28 rfl ?_) | (with_reducible refine stop_store 28 rfl ?_) | (with_reducible refine stop_load 49 rfl ?_) | (with_reducible refine stop_store 49 rfl ?_) | (with_reducible refine stop_load 24 rfl ?_) | (with_reducible refine stop_store 24 rfl ?_) | (with_reducible refine stop_load 58 rfl ?_) | (with_reducible refine stop_store 58 rfl ?_))
  refine go_loadG rfl rfl (k := 0) rfl hM1 [.int .u8 k, .int .i64 f, .int .i64 t, .int .i64 e, .int .i64 mv, .int .i64 nu, .int .i64 cm, .int .i64 no, .int .u64 nc, .int .i64 cl, .int .i64 ms, m11, m12, m13, m14, m15, .int .u8 rk, .slice rA rn rc, .int .i64 me, .slice mA mn mc, m20, m21, m22, m23, m24, m25, m26, m27] rfl Try.underlying58 rfl (by kernel_rfl) ?_
  go_wp2_with (first | (with_reducible refine stop_load 30 rfl ?_) | (with_reducible refine stop_store 30 rfl ?_) | (with_reducible refine stop_load 28 rfl ?_) | (with_reducible refine stop_store 28 rfl ?_) | (with_reducible refine stop_load 49 rfl ?_) | (with_reducible refine stop_store 49 rfl ?_) | (with_reducible refine stop_load 24 rfl ?_) | (with_reducible refine stop_store 24 rfl ?_) | (with_reducible refine stop_load 58 rfl ?_) | (with_reducible refine stop_store 58 rfl ?_))
  go_fit (rcheckM_is (HM2.out.below b1))
  rintro xx w2 ⟨rfl, hd2⟩
  have b2 := b1.trans (hd2.mono b1.size)
  have s2 := hd2.size
  have hP2 := hP1.below hd2
  have hM2 := hM1.below hd2
  have hZ2 := hZ1.below hd2
  have hR2 := hR1.below hd2
  have iD2 := iD1.below hd2
  have z2 := hM2.cell (j := 2) rfl
  have y0 := hP2.cell (j := 0) rfl
  rcases bool_two (msgB (k, f, t, e, mv, nu, cm, no, nc, cl, ms, mo, (rk, rd), (me, mm), s, l)) with q3 | q3
  rotate_left
  · have HF := hide (show takeD (id, (ge, gm), v, se, bu, o, n, qu) (k, f, t, e, mv, nu, cm, no, nc, cl, ms, mo, (rk, rd), (me, mm), s, l) = nopD (id, (ge, gm), v, se, bu, o, n, qu) by unfold takeD; rw [HGo.out, q3, Bool.and_false, Bool.and_false, if_neg Bool.false_ne_true])
    rw [mE_no q3]
    clear q3
    go_wp2_with (first | (with_reducible refine stop_load 30 rfl ?_) | (with_reducible refine stop_store 30 rfl ?_) | (with_reducible refine stop_load 28 rfl ?_) | (with_reducible refine stop_store 28 rfl ?_) | (with_reducible refine stop_load 49 rfl ?_) | (with_reducible refine stop_store 49 rfl ?_) | (with_reducible refine stop_load 24 rfl ?_) | (with_reducible refine stop_store 24 rfl ?_) | (with_reducible refine stop_load 58 rfl ?_) | (with_reducible refine stop_store 58 rfl ?_))
    repeat (refine go_skipG rfl ?_; go_wp2_with (first | (with_reducible refine stop_load 30 rfl ?_) | (with_reducible refine stop_store 30 rfl ?_) | (with_reducible refine stop_load 28 rfl ?_) | (with_reducible refine stop_store 28 rfl ?_) | (with_reducible refine stop_load 49 rfl ?_) | (with_reducible refine stop_store 49 rfl ?_) | (with_reducible refine stop_load 24 rfl ?_) | (with_reducible refine stop_store 24 rfl ?_) | (with_reducible refine stop_load 58 rfl ?_) | (with_reducible refine stop_store 58 rfl ?_)))
    refine go_loadG rfl rfl (k := 0) rfl hP2 [.int .i64 id, .int .i64 ge, .slice gA gn gc, .int .i64 v, .int .i64 se, .bool bu, c6, c7, c8, c9, c10, c11, c12, .int .i64 qu] rfl Try.underlying30 rfl (by kernel_rfl) ?_
    go_wp2_with (first | (with_reducible refine stop_load 30 rfl ?_) | (with_reducible refine stop_store 30 rfl ?_) | (with_reducible refine stop_load 28 rfl ?_) | (with_reducible refine stop_store 28 rfl ?_) | (with_reducible refine stop_load 49 rfl ?_) | (with_reducible refine stop_store 49 rfl ?_) | (with_reducible refine stop_load 24 rfl ?_) | (with_reducible refine stop_store 24 rfl ?_) | (with_reducible refine stop_load 58 rfl ?_) | (with_reducible refine stop_store 58 rfl ?_))
    refine go_store rfl rfl rfl rfl rfl hZ2 (by kernel_rfl) rfl (us := [.int .i64 id, .int .i64 ge, .slice gA gn gc, .int .i64 v, .int .i64 se, .bool bu, c6, c7, c8, c9, c10, c11, c12, .int .i64 qu]) iD2.ones ?_
    obtain ⟨wy, hwy⟩ : ∃ x, w2.setRow (gg + 2) #[.int .i64 id, .int .i64 ge, .slice gA gn gc, .int .i64 v, .int .i64 se, .bool bu, c6, c7, c8, c9, c10, c11, c12, .int .i64 qu] = x := ⟨_, rfl⟩
    have hFy : Fr (fun b => b = gg + 2) w2 wy := by rw [← hwy]; exact Fr.row (X := fun b => b = gg + 2) rfl w2 _
    have hZy : Blk wy (gg + 2) [.int .i64 id, .int .i64 ge, .slice gA gn gc, .int .i64 v, .int .i64 se, .bool bu, c6, c7, c8, c9, c10, c11, c12, .int .i64 qu] 30 := by rw [← hwy]; exact hZ2.setAll [.int .i64 id, .int .i64 ge, .slice gA gn gc, .int .i64 v, .int .i64 se, .bool bu, c6, c7, c8, c9, c10, c11, c12, .int .i64 qu]
    have hRy := hR2.fr hFy (by omega)
    have iDy := iD2.fr hFy (fun b hb hx => by have hx' : b = gg + 2 := hx; have hb' : b < w.heap.size := hb; omega)
    have by' := hFy.below b2 b2.size (fun b hb => by have hb' : b = gg + 2 := hb; omega)
    have sy := hFy.size
    rw [hwy]
    clear hwy
    go_wp2_with (first | (with_reducible refine stop_load 30 rfl ?_) | (with_reducible refine stop_store 30 rfl ?_) | (with_reducible refine stop_load 28 rfl ?_) | (with_reducible refine stop_store 28 rfl ?_) | (with_reducible refine stop_load 49 rfl ?_) | (with_reducible refine stop_store 49 rfl ?_) | (with_reducible refine stop_load 24 rfl ?_) | (with_reducible refine stop_store 24 rfl ?_) | (with_reducible refine stop_load 58 rfl ?_) | (with_reducible refine stop_store 58 rfl ?_))
    refine go_store rfl rfl rfl rfl rfl hRy (by kernel_rfl) rfl (us := [.int .u8 0, .slice none 0 0]) (zeroR_is (w := w) (Q := fun _ => True)).ones ?_
    go_wp2
    have hF := Fr.row (X := fun b => b = gg + 3) rfl wy #[.int .u8 0, .slice none 0 0]
    refine bodyPost_ret (results_cell4 rfl rfl rfl (hZy.fr hF (by omega)) (hRy.setAll [.int .u8 0, .slice none 0 0]) Try.underlying30 rfl (by kernel_rfl) Try.underlying49 rfl (by kernel_rfl)) rfl ?_
    refine TakeIs.to ?_ HF.out
    refine ⟨[.int .i64 id, .int .i64 ge, .slice gA gn gc, .int .i64 v, .int .i64 se, .bool bu, c6, c7, c8, c9, c10, c11, c12, .int .i64 qu], none, 0, 0, [.int .u8 0, .slice none 0 0], rfl, ?_, zeroL_is, zeroR_is, hF.below (by first | exact by' | (rw [← hgg]; exact by')) (by omega) (fun b hb => by have hb' : b = gg + 3 := hb; omega)⟩
    exact (iDy.fr hF (fun b hb hx => by have hx' : b = gg + 3 := hx; have hb' : b < w.heap.size := hb; omega)).any
  have hre := msgB_re q3
  rw [mE_ok q3]
  have Q3' := hide q3
  clear q3
  rcases bool_two (t == ni) with q1 | q1
  rotate_left
  · have q1' : (t != ni) = true := by simp only [bne, q1]; rfl
    have HF := hide (show takeD (id, (ge, gm), v, se, bu, o, n, qu) (k, f, t, e, mv, nu, cm, no, nc, cl, ms, mo, (rk, rd), (me, mm), s, l) = nopD (id, (ge, gm), v, se, bu, o, n, qu) by unfold takeD; rw [HGo.out, q1, Bool.false_and, if_neg Bool.false_ne_true])
    clear q1
    go_wp2_with (first | (with_reducible refine stop_load 30 rfl ?_) | (with_reducible refine stop_store 30 rfl ?_) | (with_reducible refine stop_load 28 rfl ?_) | (with_reducible refine stop_store 28 rfl ?_) | (with_reducible refine stop_load 49 rfl ?_) | (with_reducible refine stop_store 49 rfl ?_) | (with_reducible refine stop_load 24 rfl ?_) | (with_reducible refine stop_store 24 rfl ?_) | (with_reducible refine stop_load 58 rfl ?_) | (with_reducible refine stop_store 58 rfl ?_))
    repeat (refine go_skipG rfl ?_; go_wp2_with (first | (with_reducible refine stop_load 30 rfl ?_) | (with_reducible refine stop_store 30 rfl ?_) | (with_reducible refine stop_load 28 rfl ?_) | (with_reducible refine stop_store 28 rfl ?_) | (with_reducible refine stop_load 49 rfl ?_) | (with_reducible refine stop_store 49 rfl ?_) | (with_reducible refine stop_load 24 rfl ?_) | (with_reducible refine stop_store 24 rfl ?_) | (with_reducible refine stop_load 58 rfl ?_) | (with_reducible refine stop_store 58 rfl ?_)))
    refine go_loadG rfl rfl (k := 0) rfl hP2 [.int .i64 id, .int .i64 ge, .slice gA gn gc, .int .i64 v, .int .i64 se, .bool bu, c6, c7, c8, c9, c10, c11, c12, .int .i64 qu] rfl Try.underlying30 rfl (by kernel_rfl) ?_
    go_wp2_with (first | (with_reducible refine stop_load 30 rfl ?_) | (with_reducible refine stop_store 30 rfl ?_) | (with_reducible refine stop_load 28 rfl ?_) | (with_reducible refine stop_store 28 rfl ?_) | (with_reducible refine stop_load 49 rfl ?_) | (with_reducible refine stop_store 49 rfl ?_) | (with_reducible refine stop_load 24 rfl ?_) | (with_reducible refine stop_store 24 rfl ?_) | (with_reducible refine stop_load 58 rfl ?_) | (with_reducible refine stop_store 58 rfl ?_))
    refine go_store rfl rfl rfl rfl rfl hZ2 (by kernel_rfl) rfl (us := [.int .i64 id, .int .i64 ge, .slice gA gn gc, .int .i64 v, .int .i64 se, .bool bu, c6, c7, c8, c9, c10, c11, c12, .int .i64 qu]) iD2.ones ?_
    obtain ⟨wy, hwy⟩ : ∃ x, w2.setRow (gg + 2) #[.int .i64 id, .int .i64 ge, .slice gA gn gc, .int .i64 v, .int .i64 se, .bool bu, c6, c7, c8, c9, c10, c11, c12, .int .i64 qu] = x := ⟨_, rfl⟩
    have hFy : Fr (fun b => b = gg + 2) w2 wy := by rw [← hwy]; exact Fr.row (X := fun b => b = gg + 2) rfl w2 _
    have hZy : Blk wy (gg + 2) [.int .i64 id, .int .i64 ge, .slice gA gn gc, .int .i64 v, .int .i64 se, .bool bu, c6, c7, c8, c9, c10, c11, c12, .int .i64 qu] 30 := by rw [← hwy]; exact hZ2.setAll [.int .i64 id, .int .i64 ge, .slice gA gn gc, .int .i64 v, .int .i64 se, .bool bu, c6, c7, c8, c9, c10, c11, c12, .int .i64 qu]
    have hRy := hR2.fr hFy (by omega)
    have iDy := iD2.fr hFy (fun b hb hx => by have hx' : b = gg + 2 := hx; have hb' : b < w.heap.size := hb; omega)
    have by' := hFy.below b2 b2.size (fun b hb => by have hb' : b = gg + 2 := hb; omega)
    have sy := hFy.size
    rw [hwy]
    clear hwy
    go_wp2_with (first | (with_reducible refine stop_load 30 rfl ?_) | (with_reducible refine stop_store 30 rfl ?_) | (with_reducible refine stop_load 28 rfl ?_) | (with_reducible refine stop_store 28 rfl ?_) | (with_reducible refine stop_load 49 rfl ?_) | (with_reducible refine stop_store 49 rfl ?_) | (with_reducible refine stop_load 24 rfl ?_) | (with_reducible refine stop_store 24 rfl ?_) | (with_reducible refine stop_load 58 rfl ?_) | (with_reducible refine stop_store 58 rfl ?_))
    refine go_store rfl rfl rfl rfl rfl hRy (by kernel_rfl) rfl (us := [.int .u8 0, .slice none 0 0]) (zeroR_is (w := w) (Q := fun _ => True)).ones ?_
    go_wp2
    have hF := Fr.row (X := fun b => b = gg + 3) rfl wy #[.int .u8 0, .slice none 0 0]
    refine bodyPost_ret (results_cell4 rfl rfl rfl (hZy.fr hF (by omega)) (hRy.setAll [.int .u8 0, .slice none 0 0]) Try.underlying30 rfl (by kernel_rfl) Try.underlying49 rfl (by kernel_rfl)) rfl ?_
    refine TakeIs.to ?_ HF.out
    refine ⟨[.int .i64 id, .int .i64 ge, .slice gA gn gc, .int .i64 v, .int .i64 se, .bool bu, c6, c7, c8, c9, c10, c11, c12, .int .i64 qu], none, 0, 0, [.int .u8 0, .slice none 0 0], rfl, ?_, zeroL_is, zeroR_is, hF.below (by first | exact by' | (rw [← hgg]; exact by')) (by omega) (fun b hb => by have hb' : b = gg + 3 := hb; omega)⟩
    exact (iDy.fr hF (fun b hb hx => by have hx' : b = gg + 3 := hx; have hb' : b < w.heap.size := hb; omega)).any
  have q1' : (t != ni) = false := by simp only [bne, q1]; rfl
  have Q3 := hide (show goB (id, (ge, gm), v, se, bu, o, n, qu) (k, f, t, e, mv, nu, cm, no, nc, cl, ms, mo, (rk, rd), (me, mm), s, l) = true by rw [HGo.out, q1, Q2.out, Q3'.out]; rfl)
  clear q1
  have z0 := hM2.cell (j := 0) rfl; have z3 := hM2.cell (j := 3) rfl; have z4 := hM2.cell (j := 4) rfl; have z9 := hM2.cell (j := 9) rfl; have z10 := hM2.cell (j := 10) rfl; have z16 := hM2.cell (j := 16) rfl; have z18 := hM2.cell (j := 18) rfl
  have y1 := hP2.cell (j := 1) rfl; have y3 := hP2.cell (j := 3) rfl; have y4 := hP2.cell (j := 4) rfl; have y5 := hP2.cell (j := 5) rfl
  rcases bool_two ((k : Int) == 2) with k2 | k2
  · have HA := hide (show ansB (id, (ge, gm), v, se, bu, o, n, qu) (k, f, t, e, mv, nu, cm, no, nc, cl, ms, mo, (rk, rd), (me, mm), s, l) = (bu && ((ms == se) && ((cl == id) && (decide (e ≤ ge) && ((rk : Int) != 0))))) from rfl)
    cases bu with
    | false =>
      have HF := hide (show takeD (id, (ge, gm), v, se, false, o, n, qu) (k, f, t, e, mv, nu, cm, no, nc, cl, ms, mo, (rk, rd), (me, mm), s, l) = nopD (id, (ge, gm), v, se, false, o, n, qu) by unfold takeD; rw [if_pos Q3.out, if_pos k2, HA.out, Bool.false_and, if_neg Bool.false_ne_true])
      go_wp2_with (first | (with_reducible refine stop_load 30 rfl ?_) | (with_reducible refine stop_store 30 rfl ?_) | (with_reducible refine stop_load 28 rfl ?_) | (with_reducible refine stop_store 28 rfl ?_) | (with_reducible refine stop_load 49 rfl ?_) | (with_reducible refine stop_store 49 rfl ?_) | (with_reducible refine stop_load 24 rfl ?_) | (with_reducible refine stop_store 24 rfl ?_) | (with_reducible refine stop_load 58 rfl ?_) | (with_reducible refine stop_store 58 rfl ?_))
      repeat (refine go_skipG rfl ?_; go_wp2_with (first | (with_reducible refine stop_load 30 rfl ?_) | (with_reducible refine stop_store 30 rfl ?_) | (with_reducible refine stop_load 28 rfl ?_) | (with_reducible refine stop_store 28 rfl ?_) | (with_reducible refine stop_load 49 rfl ?_) | (with_reducible refine stop_store 49 rfl ?_) | (with_reducible refine stop_load 24 rfl ?_) | (with_reducible refine stop_store 24 rfl ?_) | (with_reducible refine stop_load 58 rfl ?_) | (with_reducible refine stop_store 58 rfl ?_)))
      refine go_loadG rfl rfl (k := 0) rfl hP2 [.int .i64 id, .int .i64 ge, .slice gA gn gc, .int .i64 v, .int .i64 se, .bool false, c6, c7, c8, c9, c10, c11, c12, .int .i64 qu] rfl Try.underlying30 rfl (by kernel_rfl) ?_
      go_wp2_with (first | (with_reducible refine stop_load 30 rfl ?_) | (with_reducible refine stop_store 30 rfl ?_) | (with_reducible refine stop_load 28 rfl ?_) | (with_reducible refine stop_store 28 rfl ?_) | (with_reducible refine stop_load 49 rfl ?_) | (with_reducible refine stop_store 49 rfl ?_) | (with_reducible refine stop_load 24 rfl ?_) | (with_reducible refine stop_store 24 rfl ?_) | (with_reducible refine stop_load 58 rfl ?_) | (with_reducible refine stop_store 58 rfl ?_))
      refine go_store rfl rfl rfl rfl rfl hZ2 (by kernel_rfl) rfl (us := [.int .i64 id, .int .i64 ge, .slice gA gn gc, .int .i64 v, .int .i64 se, .bool false, c6, c7, c8, c9, c10, c11, c12, .int .i64 qu]) iD2.ones ?_
      obtain ⟨wy, hwy⟩ : ∃ x, w2.setRow (gg + 2) #[.int .i64 id, .int .i64 ge, .slice gA gn gc, .int .i64 v, .int .i64 se, .bool false, c6, c7, c8, c9, c10, c11, c12, .int .i64 qu] = x := ⟨_, rfl⟩
      have hFy : Fr (fun b => b = gg + 2) w2 wy := by rw [← hwy]; exact Fr.row (X := fun b => b = gg + 2) rfl w2 _
      have hZy : Blk wy (gg + 2) [.int .i64 id, .int .i64 ge, .slice gA gn gc, .int .i64 v, .int .i64 se, .bool false, c6, c7, c8, c9, c10, c11, c12, .int .i64 qu] 30 := by rw [← hwy]; exact hZ2.setAll [.int .i64 id, .int .i64 ge, .slice gA gn gc, .int .i64 v, .int .i64 se, .bool false, c6, c7, c8, c9, c10, c11, c12, .int .i64 qu]
      have hRy := hR2.fr hFy (by omega)
      have iDy := iD2.fr hFy (fun b hb hx => by have hx' : b = gg + 2 := hx; have hb' : b < w.heap.size := hb; omega)
      have by' := hFy.below b2 b2.size (fun b hb => by have hb' : b = gg + 2 := hb; omega)
      have sy := hFy.size
      rw [hwy]
      clear hwy
      go_wp2_with (first | (with_reducible refine stop_load 30 rfl ?_) | (with_reducible refine stop_store 30 rfl ?_) | (with_reducible refine stop_load 28 rfl ?_) | (with_reducible refine stop_store 28 rfl ?_) | (with_reducible refine stop_load 49 rfl ?_) | (with_reducible refine stop_store 49 rfl ?_) | (with_reducible refine stop_load 24 rfl ?_) | (with_reducible refine stop_store 24 rfl ?_) | (with_reducible refine stop_load 58 rfl ?_) | (with_reducible refine stop_store 58 rfl ?_))
      refine go_store rfl rfl rfl rfl rfl hRy (by kernel_rfl) rfl (us := [.int .u8 0, .slice none 0 0]) (zeroR_is (w := w) (Q := fun _ => True)).ones ?_
      go_wp2
      have hF := Fr.row (X := fun b => b = gg + 3) rfl wy #[.int .u8 0, .slice none 0 0]
      refine bodyPost_ret (results_cell4 rfl rfl rfl (hZy.fr hF (by omega)) (hRy.setAll [.int .u8 0, .slice none 0 0]) Try.underlying30 rfl (by kernel_rfl) Try.underlying49 rfl (by kernel_rfl)) rfl ?_
      refine TakeIs.to ?_ HF.out
      refine ⟨[.int .i64 id, .int .i64 ge, .slice gA gn gc, .int .i64 v, .int .i64 se, .bool false, c6, c7, c8, c9, c10, c11, c12, .int .i64 qu], none, 0, 0, [.int .u8 0, .slice none 0 0], rfl, ?_, zeroL_is, zeroR_is, hF.below (by first | exact by' | (rw [← hgg]; exact by')) (by omega) (fun b hb => by have hb' : b = gg + 3 := hb; omega)⟩
      exact (iDy.fr hF (fun b hb hx => by have hx' : b = gg + 3 := hx; have hb' : b < w.heap.size := hb; omega)).any
    | true =>
      rcases bool_two (ms == se) with u1 | u1
      rotate_left
      · have u1' : (ms != se) = true := by simp only [bne, u1]; rfl
        have HF := hide (show takeD (id, (ge, gm), v, se, true, o, n, qu) (k, f, t, e, mv, nu, cm, no, nc, cl, ms, mo, (rk, rd), (me, mm), s, l) = nopD (id, (ge, gm), v, se, true, o, n, qu) by unfold takeD; rw [if_pos Q3.out, if_pos k2, HA.out]; simp only [u1, Bool.true_and, Bool.false_and, Bool.false_eq_true, if_false])
        go_wp2_with (first | (with_reducible refine stop_load 30 rfl ?_) | (with_reducible refine stop_store 30 rfl ?_) | (with_reducible refine stop_load 28 rfl ?_) | (with_reducible refine stop_store 28 rfl ?_) | (with_reducible refine stop_load 49 rfl ?_) | (with_reducible refine stop_store 49 rfl ?_) | (with_reducible refine stop_load 24 rfl ?_) | (with_reducible refine stop_store 24 rfl ?_) | (with_reducible refine stop_load 58 rfl ?_) | (with_reducible refine stop_store 58 rfl ?_))
        repeat (refine go_skipG rfl ?_; go_wp2_with (first | (with_reducible refine stop_load 30 rfl ?_) | (with_reducible refine stop_store 30 rfl ?_) | (with_reducible refine stop_load 28 rfl ?_) | (with_reducible refine stop_store 28 rfl ?_) | (with_reducible refine stop_load 49 rfl ?_) | (with_reducible refine stop_store 49 rfl ?_) | (with_reducible refine stop_load 24 rfl ?_) | (with_reducible refine stop_store 24 rfl ?_) | (with_reducible refine stop_load 58 rfl ?_) | (with_reducible refine stop_store 58 rfl ?_)))
        refine go_loadG rfl rfl (k := 0) rfl hP2 [.int .i64 id, .int .i64 ge, .slice gA gn gc, .int .i64 v, .int .i64 se, .bool true, c6, c7, c8, c9, c10, c11, c12, .int .i64 qu] rfl Try.underlying30 rfl (by kernel_rfl) ?_
        go_wp2_with (first | (with_reducible refine stop_load 30 rfl ?_) | (with_reducible refine stop_store 30 rfl ?_) | (with_reducible refine stop_load 28 rfl ?_) | (with_reducible refine stop_store 28 rfl ?_) | (with_reducible refine stop_load 49 rfl ?_) | (with_reducible refine stop_store 49 rfl ?_) | (with_reducible refine stop_load 24 rfl ?_) | (with_reducible refine stop_store 24 rfl ?_) | (with_reducible refine stop_load 58 rfl ?_) | (with_reducible refine stop_store 58 rfl ?_))
        refine go_store rfl rfl rfl rfl rfl hZ2 (by kernel_rfl) rfl (us := [.int .i64 id, .int .i64 ge, .slice gA gn gc, .int .i64 v, .int .i64 se, .bool true, c6, c7, c8, c9, c10, c11, c12, .int .i64 qu]) iD2.ones ?_
        obtain ⟨wy, hwy⟩ : ∃ x, w2.setRow (gg + 2) #[.int .i64 id, .int .i64 ge, .slice gA gn gc, .int .i64 v, .int .i64 se, .bool true, c6, c7, c8, c9, c10, c11, c12, .int .i64 qu] = x := ⟨_, rfl⟩
        have hFy : Fr (fun b => b = gg + 2) w2 wy := by rw [← hwy]; exact Fr.row (X := fun b => b = gg + 2) rfl w2 _
        have hZy : Blk wy (gg + 2) [.int .i64 id, .int .i64 ge, .slice gA gn gc, .int .i64 v, .int .i64 se, .bool true, c6, c7, c8, c9, c10, c11, c12, .int .i64 qu] 30 := by rw [← hwy]; exact hZ2.setAll [.int .i64 id, .int .i64 ge, .slice gA gn gc, .int .i64 v, .int .i64 se, .bool true, c6, c7, c8, c9, c10, c11, c12, .int .i64 qu]
        have hRy := hR2.fr hFy (by omega)
        have iDy := iD2.fr hFy (fun b hb hx => by have hx' : b = gg + 2 := hx; have hb' : b < w.heap.size := hb; omega)
        have by' := hFy.below b2 b2.size (fun b hb => by have hb' : b = gg + 2 := hb; omega)
        have sy := hFy.size
        rw [hwy]
        clear hwy
        go_wp2_with (first | (with_reducible refine stop_load 30 rfl ?_) | (with_reducible refine stop_store 30 rfl ?_) | (with_reducible refine stop_load 28 rfl ?_) | (with_reducible refine stop_store 28 rfl ?_) | (with_reducible refine stop_load 49 rfl ?_) | (with_reducible refine stop_store 49 rfl ?_) | (with_reducible refine stop_load 24 rfl ?_) | (with_reducible refine stop_store 24 rfl ?_) | (with_reducible refine stop_load 58 rfl ?_) | (with_reducible refine stop_store 58 rfl ?_))
        refine go_store rfl rfl rfl rfl rfl hRy (by kernel_rfl) rfl (us := [.int .u8 0, .slice none 0 0]) (zeroR_is (w := w) (Q := fun _ => True)).ones ?_
        go_wp2
        have hF := Fr.row (X := fun b => b = gg + 3) rfl wy #[.int .u8 0, .slice none 0 0]
        refine bodyPost_ret (results_cell4 rfl rfl rfl (hZy.fr hF (by omega)) (hRy.setAll [.int .u8 0, .slice none 0 0]) Try.underlying30 rfl (by kernel_rfl) Try.underlying49 rfl (by kernel_rfl)) rfl ?_
        refine TakeIs.to ?_ HF.out
        refine ⟨[.int .i64 id, .int .i64 ge, .slice gA gn gc, .int .i64 v, .int .i64 se, .bool true, c6, c7, c8, c9, c10, c11, c12, .int .i64 qu], none, 0, 0, [.int .u8 0, .slice none 0 0], rfl, ?_, zeroL_is, zeroR_is, hF.below (by first | exact by' | (rw [← hgg]; exact by')) (by omega) (fun b hb => by have hb' : b = gg + 3 := hb; omega)⟩
        exact (iDy.fr hF (fun b hb hx => by have hx' : b = gg + 3 := hx; have hb' : b < w.heap.size := hb; omega)).any
      have u1' : (ms != se) = false := by simp only [bne, u1]; rfl
      rcases bool_two (cl == id) with u2 | u2
      rotate_left
      · have u2' : (cl != id) = true := by simp only [bne, u2]; rfl
        have HF := hide (show takeD (id, (ge, gm), v, se, true, o, n, qu) (k, f, t, e, mv, nu, cm, no, nc, cl, ms, mo, (rk, rd), (me, mm), s, l) = nopD (id, (ge, gm), v, se, true, o, n, qu) by unfold takeD; rw [if_pos Q3.out, if_pos k2, HA.out]; simp only [u1, u2, Bool.true_and, Bool.false_and, Bool.false_eq_true, if_false])
        go_wp2_with (first | (with_reducible refine stop_load 30 rfl ?_) | (with_reducible refine stop_store 30 rfl ?_) | (with_reducible refine stop_load 28 rfl ?_) | (with_reducible refine stop_store 28 rfl ?_) | (with_reducible refine stop_load 49 rfl ?_) | (with_reducible refine stop_store 49 rfl ?_) | (with_reducible refine stop_load 24 rfl ?_) | (with_reducible refine stop_store 24 rfl ?_) | (with_reducible refine stop_load 58 rfl ?_) | (with_reducible refine stop_store 58 rfl ?_))
        repeat (refine go_skipG rfl ?_; go_wp2_with (first | (with_reducible refine stop_load 30 rfl ?_) | (with_reducible refine stop_store 30 rfl ?_) | (with_reducible refine stop_load 28 rfl ?_) | (with_reducible refine stop_store 28 rfl ?_) | (with_reducible refine stop_load 49 rfl ?_) | (with_reducible refine stop_store 49 rfl ?_) | (with_reducible refine stop_load 24 rfl ?_) | (with_reducible refine stop_store 24 rfl ?_) | (with_reducible refine stop_load 58 rfl ?_) | (with_reducible refine stop_store 58 rfl ?_)))
        refine go_loadG rfl rfl (k := 0) rfl hP2 [.int .i64 id, .int .i64 ge, .slice gA gn gc, .int .i64 v, .int .i64 se, .bool true, c6, c7, c8, c9, c10, c11, c12, .int .i64 qu] rfl Try.underlying30 rfl (by kernel_rfl) ?_
        go_wp2_with (first | (with_reducible refine stop_load 30 rfl ?_) | (with_reducible refine stop_store 30 rfl ?_) | (with_reducible refine stop_load 28 rfl ?_) | (with_reducible refine stop_store 28 rfl ?_) | (with_reducible refine stop_load 49 rfl ?_) | (with_reducible refine stop_store 49 rfl ?_) | (with_reducible refine stop_load 24 rfl ?_) | (with_reducible refine stop_store 24 rfl ?_) | (with_reducible refine stop_load 58 rfl ?_) | (with_reducible refine stop_store 58 rfl ?_))
        refine go_store rfl rfl rfl rfl rfl hZ2 (by kernel_rfl) rfl (us := [.int .i64 id, .int .i64 ge, .slice gA gn gc, .int .i64 v, .int .i64 se, .bool true, c6, c7, c8, c9, c10, c11, c12, .int .i64 qu]) iD2.ones ?_
        obtain ⟨wy, hwy⟩ : ∃ x, w2.setRow (gg + 2) #[.int .i64 id, .int .i64 ge, .slice gA gn gc, .int .i64 v, .int .i64 se, .bool true, c6, c7, c8, c9, c10, c11, c12, .int .i64 qu] = x := ⟨_, rfl⟩
        have hFy : Fr (fun b => b = gg + 2) w2 wy := by rw [← hwy]; exact Fr.row (X := fun b => b = gg + 2) rfl w2 _
        have hZy : Blk wy (gg + 2) [.int .i64 id, .int .i64 ge, .slice gA gn gc, .int .i64 v, .int .i64 se, .bool true, c6, c7, c8, c9, c10, c11, c12, .int .i64 qu] 30 := by rw [← hwy]; exact hZ2.setAll [.int .i64 id, .int .i64 ge, .slice gA gn gc, .int .i64 v, .int .i64 se, .bool true, c6, c7, c8, c9, c10, c11, c12, .int .i64 qu]
        have hRy := hR2.fr hFy (by omega)
        have iDy := iD2.fr hFy (fun b hb hx => by have hx' : b = gg + 2 := hx; have hb' : b < w.heap.size := hb; omega)
        have by' := hFy.below b2 b2.size (fun b hb => by have hb' : b = gg + 2 := hb; omega)
        have sy := hFy.size
        rw [hwy]
        clear hwy
        go_wp2_with (first | (with_reducible refine stop_load 30 rfl ?_) | (with_reducible refine stop_store 30 rfl ?_) | (with_reducible refine stop_load 28 rfl ?_) | (with_reducible refine stop_store 28 rfl ?_) | (with_reducible refine stop_load 49 rfl ?_) | (with_reducible refine stop_store 49 rfl ?_) | (with_reducible refine stop_load 24 rfl ?_) | (with_reducible refine stop_store 24 rfl ?_) | (with_reducible refine stop_load 58 rfl ?_) | (with_reducible refine stop_store 58 rfl ?_))
        refine go_store rfl rfl rfl rfl rfl hRy (by kernel_rfl) rfl (us := [.int .u8 0, .slice none 0 0]) (zeroR_is (w := w) (Q := fun _ => True)).ones ?_
        go_wp2
        have hF := Fr.row (X := fun b => b = gg + 3) rfl wy #[.int .u8 0, .slice none 0 0]
        refine bodyPost_ret (results_cell4 rfl rfl rfl (hZy.fr hF (by omega)) (hRy.setAll [.int .u8 0, .slice none 0 0]) Try.underlying30 rfl (by kernel_rfl) Try.underlying49 rfl (by kernel_rfl)) rfl ?_
        refine TakeIs.to ?_ HF.out
        refine ⟨[.int .i64 id, .int .i64 ge, .slice gA gn gc, .int .i64 v, .int .i64 se, .bool true, c6, c7, c8, c9, c10, c11, c12, .int .i64 qu], none, 0, 0, [.int .u8 0, .slice none 0 0], rfl, ?_, zeroL_is, zeroR_is, hF.below (by first | exact by' | (rw [← hgg]; exact by')) (by omega) (fun b hb => by have hb' : b = gg + 3 := hb; omega)⟩
        exact (iDy.fr hF (fun b hb hx => by have hx' : b = gg + 3 := hx; have hb' : b < w.heap.size := hb; omega)).any
      have u2' : (cl != id) = false := by simp only [bne, u2]; rfl
      rcases bool_two (decide (e ≤ ge)) with u3 | u3
      rotate_left
      · have u3' : decide (ge < e) = true := decide_eq_true (by have := of_decide_eq_false u3; omega)
        have HF := hide (show takeD (id, (ge, gm), v, se, true, o, n, qu) (k, f, t, e, mv, nu, cm, no, nc, cl, ms, mo, (rk, rd), (me, mm), s, l) = nopD (id, (ge, gm), v, se, true, o, n, qu) by unfold takeD; rw [if_pos Q3.out, if_pos k2, HA.out]; simp only [u1, u2, u3, Bool.true_and, Bool.false_and, Bool.false_eq_true, if_false])
        go_wp2_with (first | (with_reducible refine stop_load 30 rfl ?_) | (with_reducible refine stop_store 30 rfl ?_) | (with_reducible refine stop_load 28 rfl ?_) | (with_reducible refine stop_store 28 rfl ?_) | (with_reducible refine stop_load 49 rfl ?_) | (with_reducible refine stop_store 49 rfl ?_) | (with_reducible refine stop_load 24 rfl ?_) | (with_reducible refine stop_store 24 rfl ?_) | (with_reducible refine stop_load 58 rfl ?_) | (with_reducible refine stop_store 58 rfl ?_))
        repeat (refine go_skipG rfl ?_; go_wp2_with (first | (with_reducible refine stop_load 30 rfl ?_) | (with_reducible refine stop_store 30 rfl ?_) | (with_reducible refine stop_load 28 rfl ?_) | (with_reducible refine stop_store 28 rfl ?_) | (with_reducible refine stop_load 49 rfl ?_) | (with_reducible refine stop_store 49 rfl ?_) | (with_reducible refine stop_load 24 rfl ?_) | (with_reducible refine stop_store 24 rfl ?_) | (with_reducible refine stop_load 58 rfl ?_) | (with_reducible refine stop_store 58 rfl ?_)))
        refine go_loadG rfl rfl (k := 0) rfl hP2 [.int .i64 id, .int .i64 ge, .slice gA gn gc, .int .i64 v, .int .i64 se, .bool true, c6, c7, c8, c9, c10, c11, c12, .int .i64 qu] rfl Try.underlying30 rfl (by kernel_rfl) ?_
        go_wp2_with (first | (with_reducible refine stop_load 30 rfl ?_) | (with_reducible refine stop_store 30 rfl ?_) | (with_reducible refine stop_load 28 rfl ?_) | (with_reducible refine stop_store 28 rfl ?_) | (with_reducible refine stop_load 49 rfl ?_) | (with_reducible refine stop_store 49 rfl ?_) | (with_reducible refine stop_load 24 rfl ?_) | (with_reducible refine stop_store 24 rfl ?_) | (with_reducible refine stop_load 58 rfl ?_) | (with_reducible refine stop_store 58 rfl ?_))
        refine go_store rfl rfl rfl rfl rfl hZ2 (by kernel_rfl) rfl (us := [.int .i64 id, .int .i64 ge, .slice gA gn gc, .int .i64 v, .int .i64 se, .bool true, c6, c7, c8, c9, c10, c11, c12, .int .i64 qu]) iD2.ones ?_
        obtain ⟨wy, hwy⟩ : ∃ x, w2.setRow (gg + 2) #[.int .i64 id, .int .i64 ge, .slice gA gn gc, .int .i64 v, .int .i64 se, .bool true, c6, c7, c8, c9, c10, c11, c12, .int .i64 qu] = x := ⟨_, rfl⟩
        have hFy : Fr (fun b => b = gg + 2) w2 wy := by rw [← hwy]; exact Fr.row (X := fun b => b = gg + 2) rfl w2 _
        have hZy : Blk wy (gg + 2) [.int .i64 id, .int .i64 ge, .slice gA gn gc, .int .i64 v, .int .i64 se, .bool true, c6, c7, c8, c9, c10, c11, c12, .int .i64 qu] 30 := by rw [← hwy]; exact hZ2.setAll [.int .i64 id, .int .i64 ge, .slice gA gn gc, .int .i64 v, .int .i64 se, .bool true, c6, c7, c8, c9, c10, c11, c12, .int .i64 qu]
        have hRy := hR2.fr hFy (by omega)
        have iDy := iD2.fr hFy (fun b hb hx => by have hx' : b = gg + 2 := hx; have hb' : b < w.heap.size := hb; omega)
        have by' := hFy.below b2 b2.size (fun b hb => by have hb' : b = gg + 2 := hb; omega)
        have sy := hFy.size
        rw [hwy]
        clear hwy
        go_wp2_with (first | (with_reducible refine stop_load 30 rfl ?_) | (with_reducible refine stop_store 30 rfl ?_) | (with_reducible refine stop_load 28 rfl ?_) | (with_reducible refine stop_store 28 rfl ?_) | (with_reducible refine stop_load 49 rfl ?_) | (with_reducible refine stop_store 49 rfl ?_) | (with_reducible refine stop_load 24 rfl ?_) | (with_reducible refine stop_store 24 rfl ?_) | (with_reducible refine stop_load 58 rfl ?_) | (with_reducible refine stop_store 58 rfl ?_))
        refine go_store rfl rfl rfl rfl rfl hRy (by kernel_rfl) rfl (us := [.int .u8 0, .slice none 0 0]) (zeroR_is (w := w) (Q := fun _ => True)).ones ?_
        go_wp2
        have hF := Fr.row (X := fun b => b = gg + 3) rfl wy #[.int .u8 0, .slice none 0 0]
        refine bodyPost_ret (results_cell4 rfl rfl rfl (hZy.fr hF (by omega)) (hRy.setAll [.int .u8 0, .slice none 0 0]) Try.underlying30 rfl (by kernel_rfl) Try.underlying49 rfl (by kernel_rfl)) rfl ?_
        refine TakeIs.to ?_ HF.out
        refine ⟨[.int .i64 id, .int .i64 ge, .slice gA gn gc, .int .i64 v, .int .i64 se, .bool true, c6, c7, c8, c9, c10, c11, c12, .int .i64 qu], none, 0, 0, [.int .u8 0, .slice none 0 0], rfl, ?_, zeroL_is, zeroR_is, hF.below (by first | exact by' | (rw [← hgg]; exact by')) (by omega) (fun b hb => by have hb' : b = gg + 3 := hb; omega)⟩
        exact (iDy.fr hF (fun b hb hx => by have hx' : b = gg + 3 := hx; have hb' : b < w.heap.size := hb; omega)).any
      have u3' : decide (ge < e) = false := decide_eq_false (by have := of_decide_eq_true u3; omega)
      rcases bool_two ((rk : Int) != 0) with u4 | u4
      rotate_left
      · have u4' : ((rk : Int) == 0) = true := by rw [← Bool.not_eq_false']; exact u4
        have HF := hide (show takeD (id, (ge, gm), v, se, true, o, n, qu) (k, f, t, e, mv, nu, cm, no, nc, cl, ms, mo, (rk, rd), (me, mm), s, l) = nopD (id, (ge, gm), v, se, true, o, n, qu) by unfold takeD; rw [if_pos Q3.out, if_pos k2, HA.out]; simp only [u1, u2, u3, u4, Bool.true_and, Bool.false_and, Bool.false_eq_true, if_false])
        go_wp2_with (first | (with_reducible refine stop_load 30 rfl ?_) | (with_reducible refine stop_store 30 rfl ?_) | (with_reducible refine stop_load 28 rfl ?_) | (with_reducible refine stop_store 28 rfl ?_) | (with_reducible refine stop_load 49 rfl ?_) | (with_reducible refine stop_store 49 rfl ?_) | (with_reducible refine stop_load 24 rfl ?_) | (with_reducible refine stop_store 24 rfl ?_) | (with_reducible refine stop_load 58 rfl ?_) | (with_reducible refine stop_store 58 rfl ?_))
        repeat (refine go_skipG rfl ?_; go_wp2_with (first | (with_reducible refine stop_load 30 rfl ?_) | (with_reducible refine stop_store 30 rfl ?_) | (with_reducible refine stop_load 28 rfl ?_) | (with_reducible refine stop_store 28 rfl ?_) | (with_reducible refine stop_load 49 rfl ?_) | (with_reducible refine stop_store 49 rfl ?_) | (with_reducible refine stop_load 24 rfl ?_) | (with_reducible refine stop_store 24 rfl ?_) | (with_reducible refine stop_load 58 rfl ?_) | (with_reducible refine stop_store 58 rfl ?_)))
        refine go_loadG rfl rfl (k := 0) rfl hP2 [.int .i64 id, .int .i64 ge, .slice gA gn gc, .int .i64 v, .int .i64 se, .bool true, c6, c7, c8, c9, c10, c11, c12, .int .i64 qu] rfl Try.underlying30 rfl (by kernel_rfl) ?_
        go_wp2_with (first | (with_reducible refine stop_load 30 rfl ?_) | (with_reducible refine stop_store 30 rfl ?_) | (with_reducible refine stop_load 28 rfl ?_) | (with_reducible refine stop_store 28 rfl ?_) | (with_reducible refine stop_load 49 rfl ?_) | (with_reducible refine stop_store 49 rfl ?_) | (with_reducible refine stop_load 24 rfl ?_) | (with_reducible refine stop_store 24 rfl ?_) | (with_reducible refine stop_load 58 rfl ?_) | (with_reducible refine stop_store 58 rfl ?_))
        refine go_store rfl rfl rfl rfl rfl hZ2 (by kernel_rfl) rfl (us := [.int .i64 id, .int .i64 ge, .slice gA gn gc, .int .i64 v, .int .i64 se, .bool true, c6, c7, c8, c9, c10, c11, c12, .int .i64 qu]) iD2.ones ?_
        obtain ⟨wy, hwy⟩ : ∃ x, w2.setRow (gg + 2) #[.int .i64 id, .int .i64 ge, .slice gA gn gc, .int .i64 v, .int .i64 se, .bool true, c6, c7, c8, c9, c10, c11, c12, .int .i64 qu] = x := ⟨_, rfl⟩
        have hFy : Fr (fun b => b = gg + 2) w2 wy := by rw [← hwy]; exact Fr.row (X := fun b => b = gg + 2) rfl w2 _
        have hZy : Blk wy (gg + 2) [.int .i64 id, .int .i64 ge, .slice gA gn gc, .int .i64 v, .int .i64 se, .bool true, c6, c7, c8, c9, c10, c11, c12, .int .i64 qu] 30 := by rw [← hwy]; exact hZ2.setAll [.int .i64 id, .int .i64 ge, .slice gA gn gc, .int .i64 v, .int .i64 se, .bool true, c6, c7, c8, c9, c10, c11, c12, .int .i64 qu]
        have hRy := hR2.fr hFy (by omega)
        have iDy := iD2.fr hFy (fun b hb hx => by have hx' : b = gg + 2 := hx; have hb' : b < w.heap.size := hb; omega)
        have by' := hFy.below b2 b2.size (fun b hb => by have hb' : b = gg + 2 := hb; omega)
        have sy := hFy.size
        rw [hwy]
        clear hwy
        go_wp2_with (first | (with_reducible refine stop_load 30 rfl ?_) | (with_reducible refine stop_store 30 rfl ?_) | (with_reducible refine stop_load 28 rfl ?_) | (with_reducible refine stop_store 28 rfl ?_) | (with_reducible refine stop_load 49 rfl ?_) | (with_reducible refine stop_store 49 rfl ?_) | (with_reducible refine stop_load 24 rfl ?_) | (with_reducible refine stop_store 24 rfl ?_) | (with_reducible refine stop_load 58 rfl ?_) | (with_reducible refine stop_store 58 rfl ?_))
        refine go_store rfl rfl rfl rfl rfl hRy (by kernel_rfl) rfl (us := [.int .u8 0, .slice none 0 0]) (zeroR_is (w := w) (Q := fun _ => True)).ones ?_
        go_wp2
        have hF := Fr.row (X := fun b => b = gg + 3) rfl wy #[.int .u8 0, .slice none 0 0]
        refine bodyPost_ret (results_cell4 rfl rfl rfl (hZy.fr hF (by omega)) (hRy.setAll [.int .u8 0, .slice none 0 0]) Try.underlying30 rfl (by kernel_rfl) Try.underlying49 rfl (by kernel_rfl)) rfl ?_
        refine TakeIs.to ?_ HF.out
        refine ⟨[.int .i64 id, .int .i64 ge, .slice gA gn gc, .int .i64 v, .int .i64 se, .bool true, c6, c7, c8, c9, c10, c11, c12, .int .i64 qu], none, 0, 0, [.int .u8 0, .slice none 0 0], rfl, ?_, zeroL_is, zeroR_is, hF.below (by first | exact by' | (rw [← hgg]; exact by')) (by omega) (fun b hb => by have hb' : b = gg + 3 := hb; omega)⟩
        exact (iDy.fr hF (fun b hb hx => by have hx' : b = gg + 3 := hx; have hb' : b < w.heap.size := hb; omega)).any
      have u4' : ((rk : Int) == 0) = false := by rw [← Bool.not_eq_true']; exact u4
      have HF0 := hide (show takeD (id, (ge, gm), v, se, true, o, n, qu) (k, f, t, e, mv, nu, cm, no, nc, cl, ms, mo, (rk, rd), (me, mm), s, l) = (endD (id, (ge, gm), v, se, true, o, n, qu) (k, f, t, e, mv, nu, cm, no, nc, cl, ms, mo, (rk, rd), (me, mm), s, l), [], (rk, rd), true) by unfold takeD; rw [if_pos Q3.out, if_pos k2, if_pos (show ansB (id, (ge, gm), v, se, true, o, n, qu) (k, f, t, e, mv, nu, cm, no, nc, cl, ms, mo, (rk, rd), (me, mm), s, l) = true by rw [HA.out]; simp only [u1, u2, u3, u4, Bool.true_and])])
      have f5 := hP2.frozen 5
      obtain ⟨wA, hwA⟩ : ∃ x, w2.setCell ⟨gg, 5, none⟩ (.bool false) = x := ⟨_, rfl⟩
      have hPA : Blk wA gg [.int .i64 id, .int .i64 ge, .slice gA gn gc, .int .i64 v, .int .i64 se, .bool false, c6, c7, c8, c9, c10, c11, c12, .int .i64 qu] 30 := by rw [← hwA]; exact hP2.set 5 _
      have hFA : Fr (fun b => b = gg) w2 wA := by rw [← hwA]; exact Fr.set (X := fun b => b = gg) w2 ⟨gg, 5, none⟩ _ rfl
      have hMA := hM2.fr hFA (by omega)
      have hZA := hZ2.fr hFA (by omega)
      have hRA := hR2.fr hFA (by omega)
      have bA := hFA.below b2 b2.size (fun b hb => by have hb' : b = gg := hb; omega)
      have sA := hFA.size
      have HwA := hide hwA
      clear hwA
      go_wp2_with (first | (with_reducible refine stop_load 30 rfl ?_) | (with_reducible refine stop_store 30 rfl ?_) | (with_reducible refine stop_load 28 rfl ?_) | (with_reducible refine stop_store 28 rfl ?_) | (with_reducible refine stop_load 49 rfl ?_) | (with_reducible refine stop_store 49 rfl ?_) | (with_reducible refine stop_load 24 rfl ?_) | (with_reducible refine stop_store 24 rfl ?_) | (with_reducible refine stop_load 58 rfl ?_) | (with_reducible refine stop_store 58 rfl ?_))
      rw [HwA.out]
      refine go_storeM rfl rfl rfl (k := 6) rfl hPA [.int .u8 0, .int .i64 0, .int .i64 0, .slice none 0 0, .slice none 0 0] rfl (by simp) (by kernel_rfl) (zeroO_is (w := w) (Q := fun _ => True)).ones ?_
      obtain ⟨wB, hwB⟩ : ∃ x, wA.setCells gg 6 [.int .u8 0, .int .i64 0, .int .i64 0, .slice none 0 0, .slice none 0 0] = x := ⟨_, rfl⟩
      have hPB : Blk wB gg [.int .i64 id, .int .i64 ge, .slice gA gn gc, .int .i64 v, .int .i64 se, .bool false, .int .u8 0, .int .i64 0, .int .i64 0, .slice none 0 0, .slice none 0 0, c11, c12, .int .i64 qu] 30 := by rw [← hwB]; exact (((((hPA.set 6 (.int .u8 0)).set 7 (.int .i64 0)).set 8 (.int .i64 0)).set 9 (.slice none 0 0)).set 10 (.slice none 0 0))
      have hFB : Fr (fun b => b = gg) wA wB := by rw [← hwB]; exact Fr.sets (X := fun b => b = gg) rfl _ _ _
      have hMB := hMA.fr hFB (by omega)
      have hZB := hZA.fr hFB (by omega)
      have hRB := hRA.fr hFB (by omega)
      have bB := hFB.below bA bA.size (fun b hb => by have hb' : b = gg := hb; omega)
      have sB := hFB.size
      rw [hwB]
      clear hwB
      go_wp2_with (first | (with_reducible refine stop_load 30 rfl ?_) | (with_reducible refine stop_store 30 rfl ?_) | (with_reducible refine stop_load 28 rfl ?_) | (with_reducible refine stop_store 28 rfl ?_) | (with_reducible refine stop_load 49 rfl ?_) | (with_reducible refine stop_store 49 rfl ?_) | (with_reducible refine stop_load 24 rfl ?_) | (with_reducible refine stop_store 24 rfl ?_) | (with_reducible refine stop_load 58 rfl ?_) | (with_reducible refine stop_store 58 rfl ?_))
      refine go_storeM rfl rfl rfl (k := 11) rfl hPB [.int .i64 0, .slice none 0 0] rfl (by simp) (by kernel_rfl) (zeroG_is (w := w) (Q := fun _ => True)).ones ?_
      obtain ⟨wC, hwC⟩ : ∃ x, wB.setCells gg 11 [.int .i64 0, .slice none 0 0] = x := ⟨_, rfl⟩
      have hPC : Blk wC gg [.int .i64 id, .int .i64 ge, .slice gA gn gc, .int .i64 v, .int .i64 se, .bool false, .int .u8 0, .int .i64 0, .int .i64 0, .slice none 0 0, .slice none 0 0, .int .i64 0, .slice none 0 0, .int .i64 qu] 30 := by rw [← hwC]; exact ((hPB.set 11 (.int .i64 0)).set 12 (.slice none 0 0))
      have hFC : Fr (fun b => b = gg) wB wC := by rw [← hwC]; exact Fr.sets (X := fun b => b = gg) rfl _ _ _
      have hMC := hMB.fr hFC (by omega)
      have hZC := hZB.fr hFC (by omega)
      have hRC := hRB.fr hFC (by omega)
      have bC := hFC.below bB bB.size (fun b hb => by have hb' : b = gg := hb; omega)
      have sC := hFC.size
      rw [hwC]
      clear hwC
      clear f5 z0 z2 z3 z4 z9 z10 z16 z18 y0 y1 y3 y4 y5
      have y1 := hPC.cell (j := 1) rfl
      have y3 := hPC.cell (j := 3) rfl
      have f3 := hPC.frozen 3
      have z3 := hMC.cell (j := 3) rfl
      have z4 := hMC.cell (j := 4) rfl
      rcases bool_two (e == ge) with q | q
      rotate_left
      · have HF := hide (show takeD (id, (ge, gm), v, se, true, o, n, qu) (k, f, t, e, mv, nu, cm, no, nc, cl, ms, mo, (rk, rd), (me, mm), s, l) = ((id, (ge, gm), v, se, false, zeroO, zeroG, qu), [], (rk, rd), true) by
          rw [HF0.out]
          show ((id, (ge, gm), if (e == ge) = true then max v mv else v, se, false, zeroO, zeroG, qu), [], (rk, rd), true) = _
          rw [if_neg (by rw [q]; decide)])
        have hI := HI.out wC bC v p2
        go_wp2_with (first | (with_reducible refine stop_load 30 rfl ?_) | (with_reducible refine stop_store 30 rfl ?_) | (with_reducible refine stop_load 28 rfl ?_) | (with_reducible refine stop_store 28 rfl ?_) | (with_reducible refine stop_load 49 rfl ?_) | (with_reducible refine stop_store 49 rfl ?_) | (with_reducible refine stop_load 24 rfl ?_) | (with_reducible refine stop_store 24 rfl ?_) | (with_reducible refine stop_load 58 rfl ?_) | (with_reducible refine stop_store 58 rfl ?_))
        obtain ⟨wd, hwd⟩ : ∃ x, wC.drew = x := ⟨_, rfl⟩
        have hbd : Below wC.heap.size wC wd := by rw [← hwd]; exact (Below.refl _ _).drew
        have hPd := hPC.below hbd
        have hMd := hMC.below hbd
        have hZd := hZC.below hbd
        have hRd := hRC.below hbd
        have bd := bC.trans (hbd.mono bC.size)
        have sd := hbd.size
        have hId := hI.below hbd
        have hRR := HRr.out wd bd
        have hS0 : Blk wC.drew gg [.int .i64 id, .int .i64 ge, .slice gA gn gc, .int .i64 v, .int .i64 se, .bool false, .int .u8 0, .int .i64 0, .int .i64 0, .slice none 0 0, .slice none 0 0, .int .i64 0, .slice none 0 0, .int .i64 qu] 30 ∧ Blk wC.drew (gg + 1) [.int .u8 k, .int .i64 f, .int .i64 t, .int .i64 e, .int .i64 mv, .int .i64 nu, .int .i64 cm, .int .i64 no, .int .u64 nc, .int .i64 cl, .int .i64 ms, m11, m12, m13, m14, m15, .int .u8 rk, .slice rA rn rc, .int .i64 me, .slice mA mn mc, m20, m21, m22, m23, m24, m25, m26, m27] 58 := by rw [hwd]; exact ⟨hPd, hMd⟩
        refine wp_region_held_drew (S := fun Z => Blk Z gg [.int .i64 id, .int .i64 ge, .slice gA gn gc, .int .i64 v, .int .i64 se, .bool false, .int .u8 0, .int .i64 0, .int .i64 0, .slice none 0 0, .slice none 0 0, .int .i64 0, .slice none 0 0, .int .i64 qu] 30 ∧ Blk Z (gg + 1) [.int .u8 k, .int .i64 f, .int .i64 t, .int .i64 e, .int .i64 mv, .int .i64 nu, .int .i64 cm, .int .i64 no, .int .u64 nc, .int .i64 cl, .int .i64 ms, m11, m12, m13, m14, m15, .int .u8 rk, .slice rA rn rc, .int .i64 me, .slice mA mn mc, m20, m21, m22, m23, m24, m25, m26, m27] 58) (by kernel_rfl) hS0 (fun hS0 => ?_)
        refine wpAnyH_take (fuel := 6) (i := 0) (v := .agg #[.int .i64 id, .int .i64 ge, .slice gA gn gc, .int .i64 v, .int .i64 se, .bool false, .int .u8 0, .int .i64 0, .int .i64 0, .slice none 0 0, .slice none 0 0, .int .i64 0, .slice none 0 0, .int .i64 qu]) rfl (by kernel_rfl) (by kernel_rfl) (by kernel_rfl) (fun _ _ _ h => h) (yieldsIf_load_mid rfl 30 _ rfl gg 0 rfl [.int .i64 id, .int .i64 ge, .slice gA gn gc, .int .i64 v, .int .i64 se, .bool false, .int .u8 0, .int .i64 0, .int .i64 0, .slice none 0 0, .slice none 0 0, .int .i64 0, .slice none 0 0, .int .i64 qu] _ (fun w hw => hw.1.range) Try.underlying30 rfl (by kernel_rfl)) hS0 ?_
        refine wpAnyH_take (fuel := 5) (i := 1) (v := .pointer (some ⟨gg + 1, 16, none⟩)) rfl (by kernel_rfl) (by kernel_rfl) (by kernel_rfl) (fun _ _ _ h => h) (Or.inl ⟨by rfl, fun Z hZ => ?_⟩) hS0 ?_
        · go_simp
        refine wpAnyH_take (fuel := 4) (i := 2) (v := .agg #[.int .u8 rk, .slice rA rn rc]) rfl (by kernel_rfl) (by kernel_rfl) (by kernel_rfl) (fun _ _ _ h => h) (yieldsIf_load_mid rfl 49 _ rfl (gg + 1) 16 rfl [.int .u8 rk, .slice rA rn rc] _ (fun w hw => hw.2.part rfl) Try.underlying49 rfl (by kernel_rfl)) hS0 ?_
        rw [hwd]
        refine all_one (fuel := 3) (i := 3) (by kernel_rfl) rfl rfl (fun Kk hK => ?_)
        refine oper_store rfl rfl rfl rfl rfl hZd (by kernel_rfl) rfl (us := [.int .i64 id, .int .i64 ge, .slice gA gn gc, .int .i64 v, .int .i64 se, .bool false, .int .u8 0, .int .i64 0, .int .i64 0, .slice none 0 0, .slice none 0 0, .int .i64 0, .slice none 0 0, .int .i64 qu]) hId.ones ?_
        obtain ⟨we, hwe⟩ : ∃ x, wd.setRow (gg + 2) #[.int .i64 id, .int .i64 ge, .slice gA gn gc, .int .i64 v, .int .i64 se, .bool false, .int .u8 0, .int .i64 0, .int .i64 0, .slice none 0 0, .slice none 0 0, .int .i64 0, .slice none 0 0, .int .i64 qu] = x := ⟨_, rfl⟩
        have hFe : Fr (fun b => b = gg + 2) wd we := by rw [← hwe]; exact Fr.row (X := fun b => b = gg + 2) rfl wd _
        have hZe : Blk we (gg + 2) [.int .i64 id, .int .i64 ge, .slice gA gn gc, .int .i64 v, .int .i64 se, .bool false, .int .u8 0, .int .i64 0, .int .i64 0, .slice none 0 0, .slice none 0 0, .int .i64 0, .slice none 0 0, .int .i64 qu] 30 := by rw [← hwe]; exact hZd.setAll [.int .i64 id, .int .i64 ge, .slice gA gn gc, .int .i64 v, .int .i64 se, .bool false, .int .u8 0, .int .i64 0, .int .i64 0, .slice none 0 0, .slice none 0 0, .int .i64 0, .slice none 0 0, .int .i64 qu]
        have hPe := hPd.fr hFe (by omega)
        have hMe := hMd.fr hFe (by omega)
        have hRe := hRd.fr hFe (by omega)
        have hIe := hId.fr hFe (fun b hb hx => by have hx' : b = gg + 2 := hx; have hb' : b < w.heap.size := hb; omega)
        have hRRe := hRR.fr hFe (fun b hb hx => by have hx' : b = gg + 2 := hx; have hb' : b < w.heap.size := hb; omega)
        have be := hFe.below bd bd.size (fun b hb => by have hb' : b = gg + 2 := hb; omega)
        have se' := hFe.size
        rw [hwe]
        refine hK _ _ ⟨⟨hPe, hMe⟩, ?_⟩
        clear hK Kk hwe
        refine all_one (fuel := 2) (i := 4) (by kernel_rfl) rfl rfl (fun Kk hK => ?_)
        go_simp
        refine hK _ _ ⟨⟨hPe, hMe⟩, ?_⟩
        clear hK Kk
        refine all_one (fuel := 1) (i := 5) (by kernel_rfl) rfl rfl (fun Kk hK => ?_)
        refine oper_store rfl rfl rfl rfl rfl hRe (by kernel_rfl) rfl (us := [.int .u8 rk, .slice rA rn rc]) hRRe.ones ?_
        obtain ⟨wg, hwg⟩ : ∃ x, we.setRow (gg + 3) #[.int .u8 rk, .slice rA rn rc] = x := ⟨_, rfl⟩
        have hFg : Fr (fun b => b = gg + 3) we wg := by rw [← hwg]; exact Fr.row (X := fun b => b = gg + 3) rfl we _
        have hRg : Blk wg (gg + 3) [.int .u8 rk, .slice rA rn rc] 49 := by rw [← hwg]; exact hRe.setAll [.int .u8 rk, .slice rA rn rc]
        have hPg := hPe.fr hFg (by omega)
        have hMg := hMe.fr hFg (by omega)
        have hZg := hZe.fr hFg (by omega)
        have hIg := hIe.fr hFg (fun b hb hx => by have hx' : b = gg + 3 := hx; have hb' : b < w.heap.size := hb; omega)
        have hRRg := hRRe.fr hFg (fun b hb hx => by have hx' : b = gg + 3 := hx; have hb' : b < w.heap.size := hb; omega)
        have bg := hFg.below be be.size (fun b hb => by have hb' : b = gg + 3 := hb; omega)
        rw [hwg]
        refine hK _ _ ⟨⟨hPg, hMg⟩, ?_⟩
        clear hK Kk hwg
        refine all_one (fuel := 0) (i := 6) (by kernel_rfl) rfl rfl (fun Kk hK => ?_)
        go_simp
        refine hK _ _ ⟨⟨hPg, hMg⟩, ?_⟩
        clear hK Kk
        refine wpAnyH_done (by kernel_rfl) ?_ _
        try simp only [Act.put, List.setIfInBounds_toArray, List.set_cons_zero, List.set_cons_succ, List.getElem_toArray, List.getElem_cons_zero, List.getElem_cons_succ]
        go_wp2
        refine bodyPost_ret (results_cell4 rfl rfl rfl hZg hRg Try.underlying30 rfl (by kernel_rfl) Try.underlying49 rfl (by kernel_rfl)) rfl ?_
        refine TakeIs.to ?_ HF.out
        exact ⟨[.int .i64 id, .int .i64 ge, .slice gA gn gc, .int .i64 v, .int .i64 se, .bool false, .int .u8 0, .int .i64 0, .int .i64 0, .slice none 0 0, .slice none 0 0, .int .i64 0, .slice none 0 0, .int .i64 qu], none, 0, 0, [.int .u8 rk, .slice rA rn rc], rfl, hIg.any, zeroL_is, hRRg.any, by first | exact bg | (rw [← hgg]; exact bg)⟩
      · have hR := hide (show takeD (id, (ge, gm), v, se, true, o, n, qu) (k, f, t, e, mv, nu, cm, no, nc, cl, ms, mo, (rk, rd), (me, mm), s, l) = ((id, (ge, gm), max v mv, se, false, zeroO, zeroG, qu), [], (rk, rd), true) by
          rw [HF0.out]
          show ((id, (ge, gm), if (e == ge) = true then max v mv else v, se, false, zeroO, zeroG, qu), [], (rk, rd), true) = _
          rw [if_pos q])
        go_wp2_with (first | (with_reducible refine stop_load 30 rfl ?_) | (with_reducible refine stop_store 30 rfl ?_) | (with_reducible refine stop_load 28 rfl ?_) | (with_reducible refine stop_store 28 rfl ?_) | (with_reducible refine stop_load 49 rfl ?_) | (with_reducible refine stop_store 49 rfl ?_) | (with_reducible refine stop_load 24 rfl ?_) | (with_reducible refine stop_store 24 rfl ?_) | (with_reducible refine stop_load 58 rfl ?_) | (with_reducible refine stop_store 58 rfl ?_))
        all_goals first
          | (have hmx : max v mv = mv := by omega
             have HF := hR.out
             rw [hmx] at HF
             replace HF := hide HF
             obtain ⟨wD, hwD⟩ : ∃ x, wC.setCell ⟨gg, 3, none⟩ (.int .i64 mv) = x := ⟨_, rfl⟩
             have hPD : Blk wD gg [.int .i64 id, .int .i64 ge, .slice gA gn gc, .int .i64 mv, .int .i64 se, .bool false, .int .u8 0, .int .i64 0, .int .i64 0, .slice none 0 0, .slice none 0 0, .int .i64 0, .slice none 0 0, .int .i64 qu] 30 := by rw [← hwD]; exact hPC.set 3 _
             have hFD : Fr (fun b => b = gg) wC wD := by rw [← hwD]; exact Fr.set (X := fun b => b = gg) wC ⟨gg, 3, none⟩ _ rfl
             have hMD := hMC.fr hFD (by omega)
             have hZD := hZC.fr hFD (by omega)
             have hRD := hRC.fr hFD (by omega)
             have bD := hFD.below bC bC.size (fun b hb => by have hb' : b = gg := hb; omega)
             have sD := hFD.size
             rw [hwD]
             clear hwD
             have hI := HI.out wD bD mv hvb
             obtain ⟨wd, hwd⟩ : ∃ x, wD.drew = x := ⟨_, rfl⟩
             have hbd : Below wD.heap.size wD wd := by rw [← hwd]; exact (Below.refl _ _).drew
             have hPd := hPD.below hbd
             have hMd := hMD.below hbd
             have hZd := hZD.below hbd
             have hRd := hRD.below hbd
             have bd := bD.trans (hbd.mono bD.size)
             have sd := hbd.size
             have hId := hI.below hbd
             have hRR := HRr.out wd bd
             have hS0 : Blk wD.drew gg [.int .i64 id, .int .i64 ge, .slice gA gn gc, .int .i64 mv, .int .i64 se, .bool false, .int .u8 0, .int .i64 0, .int .i64 0, .slice none 0 0, .slice none 0 0, .int .i64 0, .slice none 0 0, .int .i64 qu] 30 ∧ Blk wD.drew (gg + 1) [.int .u8 k, .int .i64 f, .int .i64 t, .int .i64 e, .int .i64 mv, .int .i64 nu, .int .i64 cm, .int .i64 no, .int .u64 nc, .int .i64 cl, .int .i64 ms, m11, m12, m13, m14, m15, .int .u8 rk, .slice rA rn rc, .int .i64 me, .slice mA mn mc, m20, m21, m22, m23, m24, m25, m26, m27] 58 := by rw [hwd]; exact ⟨hPd, hMd⟩
             refine wp_region_held_drew (S := fun Z => Blk Z gg [.int .i64 id, .int .i64 ge, .slice gA gn gc, .int .i64 mv, .int .i64 se, .bool false, .int .u8 0, .int .i64 0, .int .i64 0, .slice none 0 0, .slice none 0 0, .int .i64 0, .slice none 0 0, .int .i64 qu] 30 ∧ Blk Z (gg + 1) [.int .u8 k, .int .i64 f, .int .i64 t, .int .i64 e, .int .i64 mv, .int .i64 nu, .int .i64 cm, .int .i64 no, .int .u64 nc, .int .i64 cl, .int .i64 ms, m11, m12, m13, m14, m15, .int .u8 rk, .slice rA rn rc, .int .i64 me, .slice mA mn mc, m20, m21, m22, m23, m24, m25, m26, m27] 58) (by kernel_rfl) hS0 (fun hS0 => ?_)
             refine wpAnyH_take (fuel := 6) (i := 0) (v := .agg #[.int .i64 id, .int .i64 ge, .slice gA gn gc, .int .i64 mv, .int .i64 se, .bool false, .int .u8 0, .int .i64 0, .int .i64 0, .slice none 0 0, .slice none 0 0, .int .i64 0, .slice none 0 0, .int .i64 qu]) rfl (by kernel_rfl) (by kernel_rfl) (by kernel_rfl) (fun _ _ _ h => h) (yieldsIf_load_mid rfl 30 _ rfl gg 0 rfl [.int .i64 id, .int .i64 ge, .slice gA gn gc, .int .i64 mv, .int .i64 se, .bool false, .int .u8 0, .int .i64 0, .int .i64 0, .slice none 0 0, .slice none 0 0, .int .i64 0, .slice none 0 0, .int .i64 qu] _ (fun w hw => hw.1.range) Try.underlying30 rfl (by kernel_rfl)) hS0 ?_
             refine wpAnyH_take (fuel := 5) (i := 1) (v := .pointer (some ⟨gg + 1, 16, none⟩)) rfl (by kernel_rfl) (by kernel_rfl) (by kernel_rfl) (fun _ _ _ h => h) (Or.inl ⟨by rfl, fun Z hZ => ?_⟩) hS0 ?_
             · go_simp
             refine wpAnyH_take (fuel := 4) (i := 2) (v := .agg #[.int .u8 rk, .slice rA rn rc]) rfl (by kernel_rfl) (by kernel_rfl) (by kernel_rfl) (fun _ _ _ h => h) (yieldsIf_load_mid rfl 49 _ rfl (gg + 1) 16 rfl [.int .u8 rk, .slice rA rn rc] _ (fun w hw => hw.2.part rfl) Try.underlying49 rfl (by kernel_rfl)) hS0 ?_
             rw [hwd]
             refine all_one (fuel := 3) (i := 3) (by kernel_rfl) rfl rfl (fun Kk hK => ?_)
             refine oper_store rfl rfl rfl rfl rfl hZd (by kernel_rfl) rfl (us := [.int .i64 id, .int .i64 ge, .slice gA gn gc, .int .i64 mv, .int .i64 se, .bool false, .int .u8 0, .int .i64 0, .int .i64 0, .slice none 0 0, .slice none 0 0, .int .i64 0, .slice none 0 0, .int .i64 qu]) hId.ones ?_
             obtain ⟨we, hwe⟩ : ∃ x, wd.setRow (gg + 2) #[.int .i64 id, .int .i64 ge, .slice gA gn gc, .int .i64 mv, .int .i64 se, .bool false, .int .u8 0, .int .i64 0, .int .i64 0, .slice none 0 0, .slice none 0 0, .int .i64 0, .slice none 0 0, .int .i64 qu] = x := ⟨_, rfl⟩
             have hFe : Fr (fun b => b = gg + 2) wd we := by rw [← hwe]; exact Fr.row (X := fun b => b = gg + 2) rfl wd _
             have hZe : Blk we (gg + 2) [.int .i64 id, .int .i64 ge, .slice gA gn gc, .int .i64 mv, .int .i64 se, .bool false, .int .u8 0, .int .i64 0, .int .i64 0, .slice none 0 0, .slice none 0 0, .int .i64 0, .slice none 0 0, .int .i64 qu] 30 := by rw [← hwe]; exact hZd.setAll [.int .i64 id, .int .i64 ge, .slice gA gn gc, .int .i64 mv, .int .i64 se, .bool false, .int .u8 0, .int .i64 0, .int .i64 0, .slice none 0 0, .slice none 0 0, .int .i64 0, .slice none 0 0, .int .i64 qu]
             have hPe := hPd.fr hFe (by omega)
             have hMe := hMd.fr hFe (by omega)
             have hRe := hRd.fr hFe (by omega)
             have hIe := hId.fr hFe (fun b hb hx => by have hx' : b = gg + 2 := hx; have hb' : b < w.heap.size := hb; omega)
             have hRRe := hRR.fr hFe (fun b hb hx => by have hx' : b = gg + 2 := hx; have hb' : b < w.heap.size := hb; omega)
             have be := hFe.below bd bd.size (fun b hb => by have hb' : b = gg + 2 := hb; omega)
             have se' := hFe.size
             rw [hwe]
             refine hK _ _ ⟨⟨hPe, hMe⟩, ?_⟩
             clear hK Kk hwe
             refine all_one (fuel := 2) (i := 4) (by kernel_rfl) rfl rfl (fun Kk hK => ?_)
             go_simp
             refine hK _ _ ⟨⟨hPe, hMe⟩, ?_⟩
             clear hK Kk
             refine all_one (fuel := 1) (i := 5) (by kernel_rfl) rfl rfl (fun Kk hK => ?_)
             refine oper_store rfl rfl rfl rfl rfl hRe (by kernel_rfl) rfl (us := [.int .u8 rk, .slice rA rn rc]) hRRe.ones ?_
             obtain ⟨wg, hwg⟩ : ∃ x, we.setRow (gg + 3) #[.int .u8 rk, .slice rA rn rc] = x := ⟨_, rfl⟩
             have hFg : Fr (fun b => b = gg + 3) we wg := by rw [← hwg]; exact Fr.row (X := fun b => b = gg + 3) rfl we _
             have hRg : Blk wg (gg + 3) [.int .u8 rk, .slice rA rn rc] 49 := by rw [← hwg]; exact hRe.setAll [.int .u8 rk, .slice rA rn rc]
             have hPg := hPe.fr hFg (by omega)
             have hMg := hMe.fr hFg (by omega)
             have hZg := hZe.fr hFg (by omega)
             have hIg := hIe.fr hFg (fun b hb hx => by have hx' : b = gg + 3 := hx; have hb' : b < w.heap.size := hb; omega)
             have hRRg := hRRe.fr hFg (fun b hb hx => by have hx' : b = gg + 3 := hx; have hb' : b < w.heap.size := hb; omega)
             have bg := hFg.below be be.size (fun b hb => by have hb' : b = gg + 3 := hb; omega)
             rw [hwg]
             refine hK _ _ ⟨⟨hPg, hMg⟩, ?_⟩
             clear hK Kk hwg
             refine all_one (fuel := 0) (i := 6) (by kernel_rfl) rfl rfl (fun Kk hK => ?_)
             go_simp
             refine hK _ _ ⟨⟨hPg, hMg⟩, ?_⟩
             clear hK Kk
             refine wpAnyH_done (by kernel_rfl) ?_ _
             try simp only [Act.put, List.setIfInBounds_toArray, List.set_cons_zero, List.set_cons_succ, List.getElem_toArray, List.getElem_cons_zero, List.getElem_cons_succ]
             go_wp2
             refine bodyPost_ret (results_cell4 rfl rfl rfl hZg hRg Try.underlying30 rfl (by kernel_rfl) Try.underlying49 rfl (by kernel_rfl)) rfl ?_
             refine TakeIs.to ?_ HF.out
             exact ⟨[.int .i64 id, .int .i64 ge, .slice gA gn gc, .int .i64 mv, .int .i64 se, .bool false, .int .u8 0, .int .i64 0, .int .i64 0, .slice none 0 0, .slice none 0 0, .int .i64 0, .slice none 0 0, .int .i64 qu], none, 0, 0, [.int .u8 rk, .slice rA rn rc], rfl, hIg.any, zeroL_is, hRRg.any, by first | exact bg | (rw [← hgg]; exact bg)⟩)
          | (have hmx : max v mv = v := by omega
             have HF := hR.out
             rw [hmx] at HF
             replace HF := hide HF
             obtain ⟨wD, hwD⟩ : ∃ x, wC.setCell ⟨gg, 3, none⟩ (.int .i64 v) = x := ⟨_, rfl⟩
             have hPD : Blk wD gg [.int .i64 id, .int .i64 ge, .slice gA gn gc, .int .i64 v, .int .i64 se, .bool false, .int .u8 0, .int .i64 0, .int .i64 0, .slice none 0 0, .slice none 0 0, .int .i64 0, .slice none 0 0, .int .i64 qu] 30 := by rw [← hwD]; exact hPC.set 3 _
             have hFD : Fr (fun b => b = gg) wC wD := by rw [← hwD]; exact Fr.set (X := fun b => b = gg) wC ⟨gg, 3, none⟩ _ rfl
             have hMD := hMC.fr hFD (by omega)
             have hZD := hZC.fr hFD (by omega)
             have hRD := hRC.fr hFD (by omega)
             have bD := hFD.below bC bC.size (fun b hb => by have hb' : b = gg := hb; omega)
             have sD := hFD.size
             rw [hwD]
             clear hwD
             have hI := HI.out wD bD v p2
             obtain ⟨wd, hwd⟩ : ∃ x, wD.drew = x := ⟨_, rfl⟩
             have hbd : Below wD.heap.size wD wd := by rw [← hwd]; exact (Below.refl _ _).drew
             have hPd := hPD.below hbd
             have hMd := hMD.below hbd
             have hZd := hZD.below hbd
             have hRd := hRD.below hbd
             have bd := bD.trans (hbd.mono bD.size)
             have sd := hbd.size
             have hId := hI.below hbd
             have hRR := HRr.out wd bd
             have hS0 : Blk wD.drew gg [.int .i64 id, .int .i64 ge, .slice gA gn gc, .int .i64 v, .int .i64 se, .bool false, .int .u8 0, .int .i64 0, .int .i64 0, .slice none 0 0, .slice none 0 0, .int .i64 0, .slice none 0 0, .int .i64 qu] 30 ∧ Blk wD.drew (gg + 1) [.int .u8 k, .int .i64 f, .int .i64 t, .int .i64 e, .int .i64 mv, .int .i64 nu, .int .i64 cm, .int .i64 no, .int .u64 nc, .int .i64 cl, .int .i64 ms, m11, m12, m13, m14, m15, .int .u8 rk, .slice rA rn rc, .int .i64 me, .slice mA mn mc, m20, m21, m22, m23, m24, m25, m26, m27] 58 := by rw [hwd]; exact ⟨hPd, hMd⟩
             refine wp_region_held_drew (S := fun Z => Blk Z gg [.int .i64 id, .int .i64 ge, .slice gA gn gc, .int .i64 v, .int .i64 se, .bool false, .int .u8 0, .int .i64 0, .int .i64 0, .slice none 0 0, .slice none 0 0, .int .i64 0, .slice none 0 0, .int .i64 qu] 30 ∧ Blk Z (gg + 1) [.int .u8 k, .int .i64 f, .int .i64 t, .int .i64 e, .int .i64 mv, .int .i64 nu, .int .i64 cm, .int .i64 no, .int .u64 nc, .int .i64 cl, .int .i64 ms, m11, m12, m13, m14, m15, .int .u8 rk, .slice rA rn rc, .int .i64 me, .slice mA mn mc, m20, m21, m22, m23, m24, m25, m26, m27] 58) (by kernel_rfl) hS0 (fun hS0 => ?_)
             refine wpAnyH_take (fuel := 6) (i := 0) (v := .agg #[.int .i64 id, .int .i64 ge, .slice gA gn gc, .int .i64 v, .int .i64 se, .bool false, .int .u8 0, .int .i64 0, .int .i64 0, .slice none 0 0, .slice none 0 0, .int .i64 0, .slice none 0 0, .int .i64 qu]) rfl (by kernel_rfl) (by kernel_rfl) (by kernel_rfl) (fun _ _ _ h => h) (yieldsIf_load_mid rfl 30 _ rfl gg 0 rfl [.int .i64 id, .int .i64 ge, .slice gA gn gc, .int .i64 v, .int .i64 se, .bool false, .int .u8 0, .int .i64 0, .int .i64 0, .slice none 0 0, .slice none 0 0, .int .i64 0, .slice none 0 0, .int .i64 qu] _ (fun w hw => hw.1.range) Try.underlying30 rfl (by kernel_rfl)) hS0 ?_
             refine wpAnyH_take (fuel := 5) (i := 1) (v := .pointer (some ⟨gg + 1, 16, none⟩)) rfl (by kernel_rfl) (by kernel_rfl) (by kernel_rfl) (fun _ _ _ h => h) (Or.inl ⟨by rfl, fun Z hZ => ?_⟩) hS0 ?_
             · go_simp
             refine wpAnyH_take (fuel := 4) (i := 2) (v := .agg #[.int .u8 rk, .slice rA rn rc]) rfl (by kernel_rfl) (by kernel_rfl) (by kernel_rfl) (fun _ _ _ h => h) (yieldsIf_load_mid rfl 49 _ rfl (gg + 1) 16 rfl [.int .u8 rk, .slice rA rn rc] _ (fun w hw => hw.2.part rfl) Try.underlying49 rfl (by kernel_rfl)) hS0 ?_
             rw [hwd]
             refine all_one (fuel := 3) (i := 3) (by kernel_rfl) rfl rfl (fun Kk hK => ?_)
             refine oper_store rfl rfl rfl rfl rfl hZd (by kernel_rfl) rfl (us := [.int .i64 id, .int .i64 ge, .slice gA gn gc, .int .i64 v, .int .i64 se, .bool false, .int .u8 0, .int .i64 0, .int .i64 0, .slice none 0 0, .slice none 0 0, .int .i64 0, .slice none 0 0, .int .i64 qu]) hId.ones ?_
             obtain ⟨we, hwe⟩ : ∃ x, wd.setRow (gg + 2) #[.int .i64 id, .int .i64 ge, .slice gA gn gc, .int .i64 v, .int .i64 se, .bool false, .int .u8 0, .int .i64 0, .int .i64 0, .slice none 0 0, .slice none 0 0, .int .i64 0, .slice none 0 0, .int .i64 qu] = x := ⟨_, rfl⟩
             have hFe : Fr (fun b => b = gg + 2) wd we := by rw [← hwe]; exact Fr.row (X := fun b => b = gg + 2) rfl wd _
             have hZe : Blk we (gg + 2) [.int .i64 id, .int .i64 ge, .slice gA gn gc, .int .i64 v, .int .i64 se, .bool false, .int .u8 0, .int .i64 0, .int .i64 0, .slice none 0 0, .slice none 0 0, .int .i64 0, .slice none 0 0, .int .i64 qu] 30 := by rw [← hwe]; exact hZd.setAll [.int .i64 id, .int .i64 ge, .slice gA gn gc, .int .i64 v, .int .i64 se, .bool false, .int .u8 0, .int .i64 0, .int .i64 0, .slice none 0 0, .slice none 0 0, .int .i64 0, .slice none 0 0, .int .i64 qu]
             have hPe := hPd.fr hFe (by omega)
             have hMe := hMd.fr hFe (by omega)
             have hRe := hRd.fr hFe (by omega)
             have hIe := hId.fr hFe (fun b hb hx => by have hx' : b = gg + 2 := hx; have hb' : b < w.heap.size := hb; omega)
             have hRRe := hRR.fr hFe (fun b hb hx => by have hx' : b = gg + 2 := hx; have hb' : b < w.heap.size := hb; omega)
             have be := hFe.below bd bd.size (fun b hb => by have hb' : b = gg + 2 := hb; omega)
             have se' := hFe.size
             rw [hwe]
             refine hK _ _ ⟨⟨hPe, hMe⟩, ?_⟩
             clear hK Kk hwe
             refine all_one (fuel := 2) (i := 4) (by kernel_rfl) rfl rfl (fun Kk hK => ?_)
             go_simp
             refine hK _ _ ⟨⟨hPe, hMe⟩, ?_⟩
             clear hK Kk
             refine all_one (fuel := 1) (i := 5) (by kernel_rfl) rfl rfl (fun Kk hK => ?_)
             refine oper_store rfl rfl rfl rfl rfl hRe (by kernel_rfl) rfl (us := [.int .u8 rk, .slice rA rn rc]) hRRe.ones ?_
             obtain ⟨wg, hwg⟩ : ∃ x, we.setRow (gg + 3) #[.int .u8 rk, .slice rA rn rc] = x := ⟨_, rfl⟩
             have hFg : Fr (fun b => b = gg + 3) we wg := by rw [← hwg]; exact Fr.row (X := fun b => b = gg + 3) rfl we _
             have hRg : Blk wg (gg + 3) [.int .u8 rk, .slice rA rn rc] 49 := by rw [← hwg]; exact hRe.setAll [.int .u8 rk, .slice rA rn rc]
             have hPg := hPe.fr hFg (by omega)
             have hMg := hMe.fr hFg (by omega)
             have hZg := hZe.fr hFg (by omega)
             have hIg := hIe.fr hFg (fun b hb hx => by have hx' : b = gg + 3 := hx; have hb' : b < w.heap.size := hb; omega)
             have hRRg := hRRe.fr hFg (fun b hb hx => by have hx' : b = gg + 3 := hx; have hb' : b < w.heap.size := hb; omega)
             have bg := hFg.below be be.size (fun b hb => by have hb' : b = gg + 3 := hb; omega)
             rw [hwg]
             refine hK _ _ ⟨⟨hPg, hMg⟩, ?_⟩
             clear hK Kk hwg
             refine all_one (fuel := 0) (i := 6) (by kernel_rfl) rfl rfl (fun Kk hK => ?_)
             go_simp
             refine hK _ _ ⟨⟨hPg, hMg⟩, ?_⟩
             clear hK Kk
             refine wpAnyH_done (by kernel_rfl) ?_ _
             try simp only [Act.put, List.setIfInBounds_toArray, List.set_cons_zero, List.set_cons_succ, List.getElem_toArray, List.getElem_cons_zero, List.getElem_cons_succ]
             go_wp2
             refine bodyPost_ret (results_cell4 rfl rfl rfl hZg hRg Try.underlying30 rfl (by kernel_rfl) Try.underlying49 rfl (by kernel_rfl)) rfl ?_
             refine TakeIs.to ?_ HF.out
             exact ⟨[.int .i64 id, .int .i64 ge, .slice gA gn gc, .int .i64 v, .int .i64 se, .bool false, .int .u8 0, .int .i64 0, .int .i64 0, .slice none 0 0, .slice none 0 0, .int .i64 0, .slice none 0 0, .int .i64 qu], none, 0, 0, [.int .u8 rk, .slice rA rn rc], rfl, hIg.any, zeroL_is, hRRg.any, by first | exact bg | (rw [← hgg]; exact bg)⟩)
  · rcases bool_two ((k : Int) == 14) with k14 | k14
    rotate_left
    · have HF := hide (show takeD (id, (ge, gm), v, se, bu, o, n, qu) (k, f, t, e, mv, nu, cm, no, nc, cl, ms, mo, (rk, rd), (me, mm), s, l) = nopD (id, (ge, gm), v, se, bu, o, n, qu) by unfold takeD; rw [if_pos Q3.out, if_neg (by rw [k2]; decide), if_neg (by rw [k14]; decide)])
      go_wp2_with (first | (with_reducible refine stop_load 30 rfl ?_) | (with_reducible refine stop_store 30 rfl ?_) | (with_reducible refine stop_load 28 rfl ?_) | (with_reducible refine stop_store 28 rfl ?_) | (with_reducible refine stop_load 49 rfl ?_) | (with_reducible refine stop_store 49 rfl ?_) | (with_reducible refine stop_load 24 rfl ?_) | (with_reducible refine stop_store 24 rfl ?_) | (with_reducible refine stop_load 58 rfl ?_) | (with_reducible refine stop_store 58 rfl ?_))
      refine go_loadG rfl rfl (k := 0) rfl hP2 [.int .i64 id, .int .i64 ge, .slice gA gn gc, .int .i64 v, .int .i64 se, .bool bu, c6, c7, c8, c9, c10, c11, c12, .int .i64 qu] rfl Try.underlying30 rfl (by kernel_rfl) ?_
      go_wp2_with (first | (with_reducible refine stop_load 30 rfl ?_) | (with_reducible refine stop_store 30 rfl ?_) | (with_reducible refine stop_load 28 rfl ?_) | (with_reducible refine stop_store 28 rfl ?_) | (with_reducible refine stop_load 49 rfl ?_) | (with_reducible refine stop_store 49 rfl ?_) | (with_reducible refine stop_load 24 rfl ?_) | (with_reducible refine stop_store 24 rfl ?_) | (with_reducible refine stop_load 58 rfl ?_) | (with_reducible refine stop_store 58 rfl ?_))
      refine go_store rfl rfl rfl rfl rfl hZ2 (by kernel_rfl) rfl (us := [.int .i64 id, .int .i64 ge, .slice gA gn gc, .int .i64 v, .int .i64 se, .bool bu, c6, c7, c8, c9, c10, c11, c12, .int .i64 qu]) iD2.ones ?_
      obtain ⟨wy, hwy⟩ : ∃ x, w2.setRow (gg + 2) #[.int .i64 id, .int .i64 ge, .slice gA gn gc, .int .i64 v, .int .i64 se, .bool bu, c6, c7, c8, c9, c10, c11, c12, .int .i64 qu] = x := ⟨_, rfl⟩
      have hFy : Fr (fun b => b = gg + 2) w2 wy := by rw [← hwy]; exact Fr.row (X := fun b => b = gg + 2) rfl w2 _
      have hZy : Blk wy (gg + 2) [.int .i64 id, .int .i64 ge, .slice gA gn gc, .int .i64 v, .int .i64 se, .bool bu, c6, c7, c8, c9, c10, c11, c12, .int .i64 qu] 30 := by rw [← hwy]; exact hZ2.setAll [.int .i64 id, .int .i64 ge, .slice gA gn gc, .int .i64 v, .int .i64 se, .bool bu, c6, c7, c8, c9, c10, c11, c12, .int .i64 qu]
      have hRy := hR2.fr hFy (by omega)
      have iDy := iD2.fr hFy (fun b hb hx => by have hx' : b = gg + 2 := hx; have hb' : b < w.heap.size := hb; omega)
      have by' := hFy.below b2 b2.size (fun b hb => by have hb' : b = gg + 2 := hb; omega)
      have sy := hFy.size
      rw [hwy]
      clear hwy
      go_wp2_with (first | (with_reducible refine stop_load 30 rfl ?_) | (with_reducible refine stop_store 30 rfl ?_) | (with_reducible refine stop_load 28 rfl ?_) | (with_reducible refine stop_store 28 rfl ?_) | (with_reducible refine stop_load 49 rfl ?_) | (with_reducible refine stop_store 49 rfl ?_) | (with_reducible refine stop_load 24 rfl ?_) | (with_reducible refine stop_store 24 rfl ?_) | (with_reducible refine stop_load 58 rfl ?_) | (with_reducible refine stop_store 58 rfl ?_))
      refine go_store rfl rfl rfl rfl rfl hRy (by kernel_rfl) rfl (us := [.int .u8 0, .slice none 0 0]) (zeroR_is (w := w) (Q := fun _ => True)).ones ?_
      go_wp2
      have hF := Fr.row (X := fun b => b = gg + 3) rfl wy #[.int .u8 0, .slice none 0 0]
      refine bodyPost_ret (results_cell4 rfl rfl rfl (hZy.fr hF (by omega)) (hRy.setAll [.int .u8 0, .slice none 0 0]) Try.underlying30 rfl (by kernel_rfl) Try.underlying49 rfl (by kernel_rfl)) rfl ?_
      refine TakeIs.to ?_ HF.out
      refine ⟨[.int .i64 id, .int .i64 ge, .slice gA gn gc, .int .i64 v, .int .i64 se, .bool bu, c6, c7, c8, c9, c10, c11, c12, .int .i64 qu], none, 0, 0, [.int .u8 0, .slice none 0 0], rfl, ?_, zeroL_is, zeroR_is, hF.below (by first | exact by' | (rw [← hgg]; exact by')) (by omega) (fun b hb => by have hb' : b = gg + 3 := hb; omega)⟩
      exact (iDy.fr hF (fun b hb hx => by have hx' : b = gg + 3 := hx; have hb' : b < w.heap.size := hb; omega)).any
    go_wp2_with (first | (with_reducible refine stop_load 30 rfl ?_) | (with_reducible refine stop_store 30 rfl ?_) | (with_reducible refine stop_load 28 rfl ?_) | (with_reducible refine stop_store 28 rfl ?_) | (with_reducible refine stop_load 49 rfl ?_) | (with_reducible refine stop_store 49 rfl ?_) | (with_reducible refine stop_load 24 rfl ?_) | (with_reducible refine stop_store 24 rfl ?_) | (with_reducible refine stop_load 58 rfl ?_) | (with_reducible refine stop_store 58 rfl ?_))
    refine go_loadG rfl rfl (k := 18) rfl hM2 [.int .i64 me, .slice mA mn mc] rfl Try.underlying24 rfl (by kernel_rfl) ?_
    go_wp2_with (first | (with_reducible refine stop_load 30 rfl ?_) | (with_reducible refine stop_store 30 rfl ?_) | (with_reducible refine stop_load 28 rfl ?_) | (with_reducible refine stop_store 28 rfl ?_) | (with_reducible refine stop_load 49 rfl ?_) | (with_reducible refine stop_store 49 rfl ?_) | (with_reducible refine stop_load 24 rfl ?_) | (with_reducible refine stop_store 24 rfl ?_) | (with_reducible refine stop_load 58 rfl ?_) | (with_reducible refine stop_store 58 rfl ?_))
    have hcg := HCg.out w2 b2
    have HNw := hide (show newB (id, (ge, gm), v, se, bu, o, n, qu) (k, f, t, e, mv, nu, cm, no, nc, cl, ms, mo, (rk, rd), (me, mm), s, l) = (grpOk me mm && ((me == e) && decide (ge < e))) from rfl)
    rcases bool_two (grpOk me mm) with q4 | q4
    rotate_left
    · have HF := hide (show takeD (id, (ge, gm), v, se, bu, o, n, qu) (k, f, t, e, mv, nu, cm, no, nc, cl, ms, mo, (rk, rd), (me, mm), s, l) = nopD (id, (ge, gm), v, se, bu, o, n, qu) by unfold takeD; rw [if_pos Q3.out, if_neg (by rw [k2]; decide), if_pos k14, HNw.out, q4, Bool.false_and, if_neg Bool.false_ne_true])
      rw [show chkE me mm = 130 from chk_bad q4] at hcg
      go_fit (hcg)
      rintro xx w3 ⟨rfl, hd3⟩
      have b3 := b2.trans (hd3.mono b2.size)
      have s3 := hd3.size
      have hP3 := hP2.below hd3
      have hM3 := hM2.below hd3
      have hZ3 := hZ2.below hd3
      have hR3 := hR2.below hd3
      have iD3 := iD2.below hd3
      go_wp2_with (first | (with_reducible refine stop_load 30 rfl ?_) | (with_reducible refine stop_store 30 rfl ?_) | (with_reducible refine stop_load 28 rfl ?_) | (with_reducible refine stop_store 28 rfl ?_) | (with_reducible refine stop_load 49 rfl ?_) | (with_reducible refine stop_store 49 rfl ?_) | (with_reducible refine stop_load 24 rfl ?_) | (with_reducible refine stop_store 24 rfl ?_) | (with_reducible refine stop_load 58 rfl ?_) | (with_reducible refine stop_store 58 rfl ?_))
      repeat (refine go_skipG rfl ?_; go_wp2_with (first | (with_reducible refine stop_load 30 rfl ?_) | (with_reducible refine stop_store 30 rfl ?_) | (with_reducible refine stop_load 28 rfl ?_) | (with_reducible refine stop_store 28 rfl ?_) | (with_reducible refine stop_load 49 rfl ?_) | (with_reducible refine stop_store 49 rfl ?_) | (with_reducible refine stop_load 24 rfl ?_) | (with_reducible refine stop_store 24 rfl ?_) | (with_reducible refine stop_load 58 rfl ?_) | (with_reducible refine stop_store 58 rfl ?_)))
      refine go_loadG rfl rfl (k := 0) rfl hP3 [.int .i64 id, .int .i64 ge, .slice gA gn gc, .int .i64 v, .int .i64 se, .bool bu, c6, c7, c8, c9, c10, c11, c12, .int .i64 qu] rfl Try.underlying30 rfl (by kernel_rfl) ?_
      go_wp2_with (first | (with_reducible refine stop_load 30 rfl ?_) | (with_reducible refine stop_store 30 rfl ?_) | (with_reducible refine stop_load 28 rfl ?_) | (with_reducible refine stop_store 28 rfl ?_) | (with_reducible refine stop_load 49 rfl ?_) | (with_reducible refine stop_store 49 rfl ?_) | (with_reducible refine stop_load 24 rfl ?_) | (with_reducible refine stop_store 24 rfl ?_) | (with_reducible refine stop_load 58 rfl ?_) | (with_reducible refine stop_store 58 rfl ?_))
      refine go_store rfl rfl rfl rfl rfl hZ3 (by kernel_rfl) rfl (us := [.int .i64 id, .int .i64 ge, .slice gA gn gc, .int .i64 v, .int .i64 se, .bool bu, c6, c7, c8, c9, c10, c11, c12, .int .i64 qu]) iD3.ones ?_
      obtain ⟨wy, hwy⟩ : ∃ x, w3.setRow (gg + 2) #[.int .i64 id, .int .i64 ge, .slice gA gn gc, .int .i64 v, .int .i64 se, .bool bu, c6, c7, c8, c9, c10, c11, c12, .int .i64 qu] = x := ⟨_, rfl⟩
      have hFy : Fr (fun b => b = gg + 2) w3 wy := by rw [← hwy]; exact Fr.row (X := fun b => b = gg + 2) rfl w3 _
      have hZy : Blk wy (gg + 2) [.int .i64 id, .int .i64 ge, .slice gA gn gc, .int .i64 v, .int .i64 se, .bool bu, c6, c7, c8, c9, c10, c11, c12, .int .i64 qu] 30 := by rw [← hwy]; exact hZ3.setAll [.int .i64 id, .int .i64 ge, .slice gA gn gc, .int .i64 v, .int .i64 se, .bool bu, c6, c7, c8, c9, c10, c11, c12, .int .i64 qu]
      have hRy := hR3.fr hFy (by omega)
      have iDy := iD3.fr hFy (fun b hb hx => by have hx' : b = gg + 2 := hx; have hb' : b < w.heap.size := hb; omega)
      have by' := hFy.below b3 b3.size (fun b hb => by have hb' : b = gg + 2 := hb; omega)
      have sy := hFy.size
      rw [hwy]
      clear hwy
      go_wp2_with (first | (with_reducible refine stop_load 30 rfl ?_) | (with_reducible refine stop_store 30 rfl ?_) | (with_reducible refine stop_load 28 rfl ?_) | (with_reducible refine stop_store 28 rfl ?_) | (with_reducible refine stop_load 49 rfl ?_) | (with_reducible refine stop_store 49 rfl ?_) | (with_reducible refine stop_load 24 rfl ?_) | (with_reducible refine stop_store 24 rfl ?_) | (with_reducible refine stop_load 58 rfl ?_) | (with_reducible refine stop_store 58 rfl ?_))
      refine go_store rfl rfl rfl rfl rfl hRy (by kernel_rfl) rfl (us := [.int .u8 0, .slice none 0 0]) (zeroR_is (w := w) (Q := fun _ => True)).ones ?_
      go_wp2
      have hF := Fr.row (X := fun b => b = gg + 3) rfl wy #[.int .u8 0, .slice none 0 0]
      refine bodyPost_ret (results_cell4 rfl rfl rfl (hZy.fr hF (by omega)) (hRy.setAll [.int .u8 0, .slice none 0 0]) Try.underlying30 rfl (by kernel_rfl) Try.underlying49 rfl (by kernel_rfl)) rfl ?_
      refine TakeIs.to ?_ HF.out
      refine ⟨[.int .i64 id, .int .i64 ge, .slice gA gn gc, .int .i64 v, .int .i64 se, .bool bu, c6, c7, c8, c9, c10, c11, c12, .int .i64 qu], none, 0, 0, [.int .u8 0, .slice none 0 0], rfl, ?_, zeroL_is, zeroR_is, hF.below (by first | exact by' | (rw [← hgg]; exact by')) (by omega) (fun b hb => by have hb' : b = gg + 3 := hb; omega)⟩
      exact (iDy.fr hF (fun b hb hx => by have hx' : b = gg + 3 := hx; have hb' : b < w.heap.size := hb; omega)).any
    rw [show chkE me mm = 0 from chk_ok q4] at hcg
    go_fit (hcg)
    rintro xx w3 ⟨rfl, hd3⟩
    have b3 := b2.trans (hd3.mono b2.size)
    have s3 := hd3.size
    have hP3 := hP2.below hd3
    have hM3 := hM2.below hd3
    have hZ3 := hZ2.below hd3
    have hR3 := hR2.below hd3
    have iD3 := iD2.below hd3
    clear z0 z2 z3 z4 z9 z10 z16 z18 y0 y1 y3 y4 y5
    have z3 := hM3.cell (j := 3) rfl; have z4 := hM3.cell (j := 4) rfl; have z18 := hM3.cell (j := 18) rfl
    have y1 := hP3.cell (j := 1) rfl; have y3 := hP3.cell (j := 3) rfl; have y5 := hP3.cell (j := 5) rfl
    rcases bool_two (me == e) with q5 | q5
    rotate_left
    · have q5' : (me != e) = true := by simp only [bne, q5]; rfl
      have HF := hide (show takeD (id, (ge, gm), v, se, bu, o, n, qu) (k, f, t, e, mv, nu, cm, no, nc, cl, ms, mo, (rk, rd), (me, mm), s, l) = nopD (id, (ge, gm), v, se, bu, o, n, qu) by unfold takeD; rw [if_pos Q3.out, if_neg (by rw [k2]; decide), if_pos k14, HNw.out, q5, Bool.false_and, Bool.and_false, if_neg Bool.false_ne_true])
      go_wp2_with (first | (with_reducible refine stop_load 30 rfl ?_) | (with_reducible refine stop_store 30 rfl ?_) | (with_reducible refine stop_load 28 rfl ?_) | (with_reducible refine stop_store 28 rfl ?_) | (with_reducible refine stop_load 49 rfl ?_) | (with_reducible refine stop_store 49 rfl ?_) | (with_reducible refine stop_load 24 rfl ?_) | (with_reducible refine stop_store 24 rfl ?_) | (with_reducible refine stop_load 58 rfl ?_) | (with_reducible refine stop_store 58 rfl ?_))
      repeat (refine go_skipG rfl ?_; go_wp2_with (first | (with_reducible refine stop_load 30 rfl ?_) | (with_reducible refine stop_store 30 rfl ?_) | (with_reducible refine stop_load 28 rfl ?_) | (with_reducible refine stop_store 28 rfl ?_) | (with_reducible refine stop_load 49 rfl ?_) | (with_reducible refine stop_store 49 rfl ?_) | (with_reducible refine stop_load 24 rfl ?_) | (with_reducible refine stop_store 24 rfl ?_) | (with_reducible refine stop_load 58 rfl ?_) | (with_reducible refine stop_store 58 rfl ?_)))
      refine go_loadG rfl rfl (k := 0) rfl hP3 [.int .i64 id, .int .i64 ge, .slice gA gn gc, .int .i64 v, .int .i64 se, .bool bu, c6, c7, c8, c9, c10, c11, c12, .int .i64 qu] rfl Try.underlying30 rfl (by kernel_rfl) ?_
      go_wp2_with (first | (with_reducible refine stop_load 30 rfl ?_) | (with_reducible refine stop_store 30 rfl ?_) | (with_reducible refine stop_load 28 rfl ?_) | (with_reducible refine stop_store 28 rfl ?_) | (with_reducible refine stop_load 49 rfl ?_) | (with_reducible refine stop_store 49 rfl ?_) | (with_reducible refine stop_load 24 rfl ?_) | (with_reducible refine stop_store 24 rfl ?_) | (with_reducible refine stop_load 58 rfl ?_) | (with_reducible refine stop_store 58 rfl ?_))
      refine go_store rfl rfl rfl rfl rfl hZ3 (by kernel_rfl) rfl (us := [.int .i64 id, .int .i64 ge, .slice gA gn gc, .int .i64 v, .int .i64 se, .bool bu, c6, c7, c8, c9, c10, c11, c12, .int .i64 qu]) iD3.ones ?_
      obtain ⟨wy, hwy⟩ : ∃ x, w3.setRow (gg + 2) #[.int .i64 id, .int .i64 ge, .slice gA gn gc, .int .i64 v, .int .i64 se, .bool bu, c6, c7, c8, c9, c10, c11, c12, .int .i64 qu] = x := ⟨_, rfl⟩
      have hFy : Fr (fun b => b = gg + 2) w3 wy := by rw [← hwy]; exact Fr.row (X := fun b => b = gg + 2) rfl w3 _
      have hZy : Blk wy (gg + 2) [.int .i64 id, .int .i64 ge, .slice gA gn gc, .int .i64 v, .int .i64 se, .bool bu, c6, c7, c8, c9, c10, c11, c12, .int .i64 qu] 30 := by rw [← hwy]; exact hZ3.setAll [.int .i64 id, .int .i64 ge, .slice gA gn gc, .int .i64 v, .int .i64 se, .bool bu, c6, c7, c8, c9, c10, c11, c12, .int .i64 qu]
      have hRy := hR3.fr hFy (by omega)
      have iDy := iD3.fr hFy (fun b hb hx => by have hx' : b = gg + 2 := hx; have hb' : b < w.heap.size := hb; omega)
      have by' := hFy.below b3 b3.size (fun b hb => by have hb' : b = gg + 2 := hb; omega)
      have sy := hFy.size
      rw [hwy]
      clear hwy
      go_wp2_with (first | (with_reducible refine stop_load 30 rfl ?_) | (with_reducible refine stop_store 30 rfl ?_) | (with_reducible refine stop_load 28 rfl ?_) | (with_reducible refine stop_store 28 rfl ?_) | (with_reducible refine stop_load 49 rfl ?_) | (with_reducible refine stop_store 49 rfl ?_) | (with_reducible refine stop_load 24 rfl ?_) | (with_reducible refine stop_store 24 rfl ?_) | (with_reducible refine stop_load 58 rfl ?_) | (with_reducible refine stop_store 58 rfl ?_))
      refine go_store rfl rfl rfl rfl rfl hRy (by kernel_rfl) rfl (us := [.int .u8 0, .slice none 0 0]) (zeroR_is (w := w) (Q := fun _ => True)).ones ?_
      go_wp2
      have hF := Fr.row (X := fun b => b = gg + 3) rfl wy #[.int .u8 0, .slice none 0 0]
      refine bodyPost_ret (results_cell4 rfl rfl rfl (hZy.fr hF (by omega)) (hRy.setAll [.int .u8 0, .slice none 0 0]) Try.underlying30 rfl (by kernel_rfl) Try.underlying49 rfl (by kernel_rfl)) rfl ?_
      refine TakeIs.to ?_ HF.out
      refine ⟨[.int .i64 id, .int .i64 ge, .slice gA gn gc, .int .i64 v, .int .i64 se, .bool bu, c6, c7, c8, c9, c10, c11, c12, .int .i64 qu], none, 0, 0, [.int .u8 0, .slice none 0 0], rfl, ?_, zeroL_is, zeroR_is, hF.below (by first | exact by' | (rw [← hgg]; exact by')) (by omega) (fun b hb => by have hb' : b = gg + 3 := hb; omega)⟩
      exact (iDy.fr hF (fun b hb hx => by have hx' : b = gg + 3 := hx; have hb' : b < w.heap.size := hb; omega)).any
    have q5' : (me != e) = false := by simp only [bne, q5]; rfl
    rcases bool_two (decide (ge < e)) with q6 | q6
    rotate_left
    · have q6' : decide (e ≤ ge) = true := decide_eq_true (by have := of_decide_eq_false q6; omega)
      have HF := hide (show takeD (id, (ge, gm), v, se, bu, o, n, qu) (k, f, t, e, mv, nu, cm, no, nc, cl, ms, mo, (rk, rd), (me, mm), s, l) = nopD (id, (ge, gm), v, se, bu, o, n, qu) by unfold takeD; rw [if_pos Q3.out, if_neg (by rw [k2]; decide), if_pos k14, HNw.out, q6, Bool.and_false, Bool.and_false, if_neg Bool.false_ne_true])
      go_wp2_with (first | (with_reducible refine stop_load 30 rfl ?_) | (with_reducible refine stop_store 30 rfl ?_) | (with_reducible refine stop_load 28 rfl ?_) | (with_reducible refine stop_store 28 rfl ?_) | (with_reducible refine stop_load 49 rfl ?_) | (with_reducible refine stop_store 49 rfl ?_) | (with_reducible refine stop_load 24 rfl ?_) | (with_reducible refine stop_store 24 rfl ?_) | (with_reducible refine stop_load 58 rfl ?_) | (with_reducible refine stop_store 58 rfl ?_))
      repeat (refine go_skipG rfl ?_; go_wp2_with (first | (with_reducible refine stop_load 30 rfl ?_) | (with_reducible refine stop_store 30 rfl ?_) | (with_reducible refine stop_load 28 rfl ?_) | (with_reducible refine stop_store 28 rfl ?_) | (with_reducible refine stop_load 49 rfl ?_) | (with_reducible refine stop_store 49 rfl ?_) | (with_reducible refine stop_load 24 rfl ?_) | (with_reducible refine stop_store 24 rfl ?_) | (with_reducible refine stop_load 58 rfl ?_) | (with_reducible refine stop_store 58 rfl ?_)))
      refine go_loadG rfl rfl (k := 0) rfl hP3 [.int .i64 id, .int .i64 ge, .slice gA gn gc, .int .i64 v, .int .i64 se, .bool bu, c6, c7, c8, c9, c10, c11, c12, .int .i64 qu] rfl Try.underlying30 rfl (by kernel_rfl) ?_
      go_wp2_with (first | (with_reducible refine stop_load 30 rfl ?_) | (with_reducible refine stop_store 30 rfl ?_) | (with_reducible refine stop_load 28 rfl ?_) | (with_reducible refine stop_store 28 rfl ?_) | (with_reducible refine stop_load 49 rfl ?_) | (with_reducible refine stop_store 49 rfl ?_) | (with_reducible refine stop_load 24 rfl ?_) | (with_reducible refine stop_store 24 rfl ?_) | (with_reducible refine stop_load 58 rfl ?_) | (with_reducible refine stop_store 58 rfl ?_))
      refine go_store rfl rfl rfl rfl rfl hZ3 (by kernel_rfl) rfl (us := [.int .i64 id, .int .i64 ge, .slice gA gn gc, .int .i64 v, .int .i64 se, .bool bu, c6, c7, c8, c9, c10, c11, c12, .int .i64 qu]) iD3.ones ?_
      obtain ⟨wy, hwy⟩ : ∃ x, w3.setRow (gg + 2) #[.int .i64 id, .int .i64 ge, .slice gA gn gc, .int .i64 v, .int .i64 se, .bool bu, c6, c7, c8, c9, c10, c11, c12, .int .i64 qu] = x := ⟨_, rfl⟩
      have hFy : Fr (fun b => b = gg + 2) w3 wy := by rw [← hwy]; exact Fr.row (X := fun b => b = gg + 2) rfl w3 _
      have hZy : Blk wy (gg + 2) [.int .i64 id, .int .i64 ge, .slice gA gn gc, .int .i64 v, .int .i64 se, .bool bu, c6, c7, c8, c9, c10, c11, c12, .int .i64 qu] 30 := by rw [← hwy]; exact hZ3.setAll [.int .i64 id, .int .i64 ge, .slice gA gn gc, .int .i64 v, .int .i64 se, .bool bu, c6, c7, c8, c9, c10, c11, c12, .int .i64 qu]
      have hRy := hR3.fr hFy (by omega)
      have iDy := iD3.fr hFy (fun b hb hx => by have hx' : b = gg + 2 := hx; have hb' : b < w.heap.size := hb; omega)
      have by' := hFy.below b3 b3.size (fun b hb => by have hb' : b = gg + 2 := hb; omega)
      have sy := hFy.size
      rw [hwy]
      clear hwy
      go_wp2_with (first | (with_reducible refine stop_load 30 rfl ?_) | (with_reducible refine stop_store 30 rfl ?_) | (with_reducible refine stop_load 28 rfl ?_) | (with_reducible refine stop_store 28 rfl ?_) | (with_reducible refine stop_load 49 rfl ?_) | (with_reducible refine stop_store 49 rfl ?_) | (with_reducible refine stop_load 24 rfl ?_) | (with_reducible refine stop_store 24 rfl ?_) | (with_reducible refine stop_load 58 rfl ?_) | (with_reducible refine stop_store 58 rfl ?_))
      refine go_store rfl rfl rfl rfl rfl hRy (by kernel_rfl) rfl (us := [.int .u8 0, .slice none 0 0]) (zeroR_is (w := w) (Q := fun _ => True)).ones ?_
      go_wp2
      have hF := Fr.row (X := fun b => b = gg + 3) rfl wy #[.int .u8 0, .slice none 0 0]
      refine bodyPost_ret (results_cell4 rfl rfl rfl (hZy.fr hF (by omega)) (hRy.setAll [.int .u8 0, .slice none 0 0]) Try.underlying30 rfl (by kernel_rfl) Try.underlying49 rfl (by kernel_rfl)) rfl ?_
      refine TakeIs.to ?_ HF.out
      refine ⟨[.int .i64 id, .int .i64 ge, .slice gA gn gc, .int .i64 v, .int .i64 se, .bool bu, c6, c7, c8, c9, c10, c11, c12, .int .i64 qu], none, 0, 0, [.int .u8 0, .slice none 0 0], rfl, ?_, zeroL_is, zeroR_is, hF.below (by first | exact by' | (rw [← hgg]; exact by')) (by omega) (fun b hb => by have hb' : b = gg + 3 := hb; omega)⟩
      exact (iDy.fr hF (fun b hb hx => by have hx' : b = gg + 3 := hx; have hb' : b < w.heap.size := hb; omega)).any
    have q6' : decide (e ≤ ge) = false := decide_eq_false (by have := of_decide_eq_true q6; omega)
    have HF0 := hide (show takeD (id, (ge, gm), v, se, bu, o, n, qu) (k, f, t, e, mv, nu, cm, no, nc, cl, ms, mo, (rk, rd), (me, mm), s, l) = (newD (id, (ge, gm), v, se, bu, o, n, qu) (k, f, t, e, mv, nu, cm, no, nc, cl, ms, mo, (rk, rd), (me, mm), s, l), firstL (newD (id, (ge, gm), v, se, bu, o, n, qu) (k, f, t, e, mv, nu, cm, no, nc, cl, ms, mo, (rk, rd), (me, mm), s, l)), (0, []), false) by unfold takeD; rw [if_pos Q3.out, if_neg (by rw [k2]; decide), if_pos k14, if_pos (show newB (id, (ge, gm), v, se, bu, o, n, qu) (k, f, t, e, mv, nu, cm, no, nc, cl, ms, mo, (rk, rd), (me, mm), s, l) = true by rw [HNw.out, q4, q5, q6]; rfl)])
    go_wp2_with (first | (with_reducible refine stop_load 30 rfl ?_) | (with_reducible refine stop_store 30 rfl ?_) | (with_reducible refine stop_load 28 rfl ?_) | (with_reducible refine stop_store 28 rfl ?_) | (with_reducible refine stop_load 49 rfl ?_) | (with_reducible refine stop_store 49 rfl ?_) | (with_reducible refine stop_load 24 rfl ?_) | (with_reducible refine stop_store 24 rfl ?_) | (with_reducible refine stop_load 58 rfl ?_) | (with_reducible refine stop_store 58 rfl ?_))
    clear z3 z4 z18 y1 y3 y5
    obtain ⟨wd, hwd⟩ : ∃ x, w3.drew = x := ⟨_, rfl⟩
    have hbd : Below w3.heap.size w3 wd := by rw [← hwd]; exact (Below.refl _ _).drew
    have hPd := hP3.below hbd
    have hMd := hM3.below hbd
    have hZd := hZ3.below hbd
    have hRd := hR3.below hbd
    have bd := b3.trans (hbd.mono b3.size)
    have sd := hbd.size
    have hS0 : Blk w3.drew (gg + 1) [.int .u8 k, .int .i64 f, .int .i64 t, .int .i64 e, .int .i64 mv, .int .i64 nu, .int .i64 cm, .int .i64 no, .int .u64 nc, .int .i64 cl, .int .i64 ms, m11, m12, m13, m14, m15, .int .u8 rk, .slice rA rn rc, .int .i64 me, .slice mA mn mc, m20, m21, m22, m23, m24, m25, m26, m27] 58 := by rw [hwd]; exact hMd
    refine wp_region_held_drew (S := fun Z => Blk Z (gg + 1) [.int .u8 k, .int .i64 f, .int .i64 t, .int .i64 e, .int .i64 mv, .int .i64 nu, .int .i64 cm, .int .i64 no, .int .u64 nc, .int .i64 cl, .int .i64 ms, m11, m12, m13, m14, m15, .int .u8 rk, .slice rA rn rc, .int .i64 me, .slice mA mn mc, m20, m21, m22, m23, m24, m25, m26, m27] 58) (by kernel_rfl) hS0 (fun hS0 => ?_)
    refine wpAnyH_take (fuel := 9) (i := 0) (v := .pointer (some ⟨gg + 1, 18, none⟩)) rfl (by kernel_rfl) (by kernel_rfl) (by kernel_rfl) (fun _ _ _ h => h) (Or.inl ⟨by rfl, fun Z hZ => ?_⟩) hS0 ?_
    · go_simp
    refine wpAnyH_take (fuel := 8) (i := 1) (v := .agg #[.int .i64 me, .slice mA mn mc]) rfl (by kernel_rfl) (by kernel_rfl) (by kernel_rfl) (fun _ _ _ h => h) (yieldsIf_load_mid rfl 24 _ rfl (gg + 1) 18 rfl [.int .i64 me, .slice mA mn mc] _ (fun w hw => hw.part rfl) Try.underlying24 rfl (by kernel_rfl)) hS0 ?_
    refine wpAnyH_take (fuel := 7) (i := 2) (v := .pointer (some ⟨gg + 1, 4, none⟩)) rfl (by kernel_rfl) (by kernel_rfl) (by kernel_rfl) (fun _ _ _ h => h) (Or.inl ⟨by rfl, fun Z hZ => ?_⟩) hS0 ?_
    · go_simp
    refine wpAnyH_take (fuel := 6) (i := 3) (v := .int .i64 mv) rfl (by kernel_rfl) (by kernel_rfl) (by kernel_rfl) (fun _ _ _ h => h) (Or.inl ⟨by rfl, fun Z hZ => ?_⟩) hS0 ?_
    · have zz := Blk.cell hZ (j := 4) rfl; go_simp
    rw [hwd]
    refine all_one (fuel := 5) (i := 4) (by kernel_rfl) rfl rfl (fun Kk hK => ?_)
    go_simp
    refine hK _ _ ⟨hMd, ?_⟩
    clear hK Kk
    refine all_one (fuel := 4) (i := 5) (by kernel_rfl) rfl rfl (fun Kk hK => ?_)
    refine wp_store_mid 24 _ _ rfl gg 1 #[.int .i64 me, .slice mA mn mc] rfl rfl (Blk.thereAt hPd (by simp)) (by kernel_rfl) (all_oneCell_toArray (by intro u hu; simp only [List.mem_cons, List.not_mem_nil, or_false] at hu; rcases hu with rfl | rfl <;> rfl)) ?_
    obtain ⟨wE, hwE⟩ : ∃ x, wd.setCells gg 1 [.int .i64 me, .slice mA mn mc] = x := ⟨_, rfl⟩
    have hPE : Blk wE gg [.int .i64 id, .int .i64 me, .slice mA mn mc, .int .i64 v, .int .i64 se, .bool bu, c6, c7, c8, c9, c10, c11, c12, .int .i64 qu] 30 := by rw [← hwE]; exact ((hPd.set 1 (.int .i64 me)).set 2 (.slice mA mn mc))
    have hFE : Fr (fun b => b = gg) wd wE := by rw [← hwE]; exact Fr.sets (X := fun b => b = gg) rfl _ _ _
    have hME := hMd.fr hFE (by omega)
    have hZE := hZd.fr hFE (by omega)
    have hRE := hRd.fr hFE (by omega)
    have bE := hFE.below bd bd.size (fun b hb => by have hb' : b = gg := hb; omega)
    have sE := hFE.size
    rw [hwE]
    clear hwE
    refine hK _ _ ⟨hME, ?_⟩
    clear hK Kk
    refine all_one (fuel := 3) (i := 6) (by kernel_rfl) rfl rfl (fun Kk hK => ?_)
    go_simp
    refine hK _ _ ⟨hME, ?_⟩
    clear hK Kk
    refine all_one (fuel := 2) (i := 7) (by kernel_rfl) rfl rfl (fun Kk hK => ?_)
    have y3 := hPE.cell (j := 3) rfl
    have f3 := hPE.frozen 3
    go_simp
    obtain ⟨wF, hwF⟩ : ∃ x, wE.setCell ⟨gg, 3, none⟩ (.int .i64 mv) = x := ⟨_, rfl⟩
    have hPF : Blk wF gg [.int .i64 id, .int .i64 me, .slice mA mn mc, .int .i64 mv, .int .i64 se, .bool bu, c6, c7, c8, c9, c10, c11, c12, .int .i64 qu] 30 := by rw [← hwF]; exact hPE.set 3 _
    have hFF : Fr (fun b => b = gg) wE wF := by rw [← hwF]; exact Fr.set (X := fun b => b = gg) wE ⟨gg, 3, none⟩ _ rfl
    have hMF := hME.fr hFF (by omega)
    have hZF := hZE.fr hFF (by omega)
    have hRF := hRE.fr hFF (by omega)
    have bF := hFF.below bE bE.size (fun b hb => by have hb' : b = gg := hb; omega)
    have sF := hFF.size
    rw [hwF]
    clear hwF
    refine hK _ _ ⟨hMF, ?_⟩
    clear hK Kk
    refine all_one (fuel := 1) (i := 8) (by kernel_rfl) rfl rfl (fun Kk hK => ?_)
    go_simp
    refine hK _ _ ⟨hMF, ?_⟩
    clear hK Kk
    refine all_one (fuel := 0) (i := 9) (by kernel_rfl) rfl rfl (fun Kk hK => ?_)
    have y13 := hPF.cell (j := 13) rfl
    have f13 := hPF.frozen 13
    go_simp
    obtain ⟨wG, hwG⟩ : ∃ x, wF.setCell ⟨gg, 13, none⟩ (.int .i64 0) = x := ⟨_, rfl⟩
    have hPG : Blk wG gg [.int .i64 id, .int .i64 me, .slice mA mn mc, .int .i64 mv, .int .i64 se, .bool bu, c6, c7, c8, c9, c10, c11, c12, .int .i64 0] 30 := by rw [← hwG]; exact hPF.set 13 _
    have hFG : Fr (fun b => b = gg) wF wG := by rw [← hwG]; exact Fr.set (X := fun b => b = gg) wF ⟨gg, 13, none⟩ _ rfl
    have hMG := hMF.fr hFG (by omega)
    have hZG := hZF.fr hFG (by omega)
    have hRG := hRF.fr hFG (by omega)
    have bG := hFG.below bF bF.size (fun b hb => by have hb' : b = gg := hb; omega)
    have sG := hFG.size
    rw [hwG]
    clear hwG
    refine hK _ _ ⟨hMG, ?_⟩
    clear hK Kk
    refine wpAnyH_done (by kernel_rfl) ?_ _
    try simp only [Act.put, List.setIfInBounds_toArray, List.set_cons_zero, List.set_cons_succ, List.getElem_toArray, List.getElem_cons_zero, List.getElem_cons_succ]
    have iDG := HN.out wG bG
    have y5 := hPG.cell (j := 5) rfl
    cases bu with
    | false =>
      have HF := hide (show takeD (id, (ge, gm), v, se, false, o, n, qu) (k, f, t, e, mv, nu, cm, no, nc, cl, ms, mo, (rk, rd), (me, mm), s, l) = ((id, (me, mm), mv, se, false, o, n, 0), [], (0, []), false) by rw [HF0.out]; rfl)
      go_wp2_with (first | (with_reducible refine stop_load 30 rfl ?_) | (with_reducible refine stop_store 30 rfl ?_) | (with_reducible refine stop_load 28 rfl ?_) | (with_reducible refine stop_store 28 rfl ?_) | (with_reducible refine stop_load 49 rfl ?_) | (with_reducible refine stop_store 49 rfl ?_) | (with_reducible refine stop_load 24 rfl ?_) | (with_reducible refine stop_store 24 rfl ?_) | (with_reducible refine stop_load 58 rfl ?_) | (with_reducible refine stop_store 58 rfl ?_))
      refine go_loadG rfl rfl (k := 0) rfl hPG [.int .i64 id, .int .i64 me, .slice mA mn mc, .int .i64 mv, .int .i64 se, .bool false, c6, c7, c8, c9, c10, c11, c12, .int .i64 0] rfl Try.underlying30 rfl (by kernel_rfl) ?_
      go_wp2_with (first | (with_reducible refine stop_load 30 rfl ?_) | (with_reducible refine stop_store 30 rfl ?_) | (with_reducible refine stop_load 28 rfl ?_) | (with_reducible refine stop_store 28 rfl ?_) | (with_reducible refine stop_load 49 rfl ?_) | (with_reducible refine stop_store 49 rfl ?_) | (with_reducible refine stop_load 24 rfl ?_) | (with_reducible refine stop_store 24 rfl ?_) | (with_reducible refine stop_load 58 rfl ?_) | (with_reducible refine stop_store 58 rfl ?_))
      refine go_store rfl rfl rfl rfl rfl hZG (by kernel_rfl) rfl (us := [.int .i64 id, .int .i64 me, .slice mA mn mc, .int .i64 mv, .int .i64 se, .bool false, c6, c7, c8, c9, c10, c11, c12, .int .i64 0]) iDG.ones ?_
      obtain ⟨wy, hwy⟩ : ∃ x, wG.setRow (gg + 2) #[.int .i64 id, .int .i64 me, .slice mA mn mc, .int .i64 mv, .int .i64 se, .bool false, c6, c7, c8, c9, c10, c11, c12, .int .i64 0] = x := ⟨_, rfl⟩
      have hFy : Fr (fun b => b = gg + 2) wG wy := by rw [← hwy]; exact Fr.row (X := fun b => b = gg + 2) rfl wG _
      have hZy : Blk wy (gg + 2) [.int .i64 id, .int .i64 me, .slice mA mn mc, .int .i64 mv, .int .i64 se, .bool false, c6, c7, c8, c9, c10, c11, c12, .int .i64 0] 30 := by rw [← hwy]; exact hZG.setAll [.int .i64 id, .int .i64 me, .slice mA mn mc, .int .i64 mv, .int .i64 se, .bool false, c6, c7, c8, c9, c10, c11, c12, .int .i64 0]
      have hRy := hRG.fr hFy (by omega)
      have iDy := iDG.fr hFy (fun b hb hx => by have hx' : b = gg + 2 := hx; have hb' : b < w.heap.size := hb; omega)
      have by' := hFy.below bG bG.size (fun b hb => by have hb' : b = gg + 2 := hb; omega)
      have sy := hFy.size
      rw [hwy]
      clear hwy
      go_wp2_with (first | (with_reducible refine stop_load 30 rfl ?_) | (with_reducible refine stop_store 30 rfl ?_) | (with_reducible refine stop_load 28 rfl ?_) | (with_reducible refine stop_store 28 rfl ?_) | (with_reducible refine stop_load 49 rfl ?_) | (with_reducible refine stop_store 49 rfl ?_) | (with_reducible refine stop_load 24 rfl ?_) | (with_reducible refine stop_store 24 rfl ?_) | (with_reducible refine stop_load 58 rfl ?_) | (with_reducible refine stop_store 58 rfl ?_))
      refine go_store rfl rfl rfl rfl rfl hRy (by kernel_rfl) rfl (us := [.int .u8 0, .slice none 0 0]) (zeroR_is (w := w) (Q := fun _ => True)).ones ?_
      go_wp2
      have hF := Fr.row (X := fun b => b = gg + 3) rfl wy #[.int .u8 0, .slice none 0 0]
      refine bodyPost_ret (results_cell4 rfl rfl rfl (hZy.fr hF (by omega)) (hRy.setAll [.int .u8 0, .slice none 0 0]) Try.underlying30 rfl (by kernel_rfl) Try.underlying49 rfl (by kernel_rfl)) rfl ?_
      refine TakeIs.to ?_ HF.out
      refine ⟨[.int .i64 id, .int .i64 me, .slice mA mn mc, .int .i64 mv, .int .i64 se, .bool false, c6, c7, c8, c9, c10, c11, c12, .int .i64 0], none, 0, 0, [.int .u8 0, .slice none 0 0], rfl, ?_, zeroL_is, zeroR_is, hF.below (by first | exact by' | (rw [← hgg]; exact by')) (by omega) (fun b hb => by have hb' : b = gg + 3 := hb; omega)⟩
      exact (iDy.fr hF (fun b hb hx => by have hx' : b = gg + 3 := hx; have hb' : b < w.heap.size := hb; omega)).any
    | true =>
      have HF := hide (show takeD (id, (ge, gm), v, se, true, o, n, qu) (k, f, t, e, mv, nu, cm, no, nc, cl, ms, mo, (rk, rd), (me, mm), s, l) = ((id, (me, mm), mv, se, true, o, n, 0), [reqD (id, (me, mm), mv, se, true, o, n, 0) (primN me mm mv)], (0, []), false) by rw [HF0.out]; rfl)
      go_wp2_with (first | (with_reducible refine stop_load 30 rfl ?_) | (with_reducible refine stop_store 30 rfl ?_) | (with_reducible refine stop_load 28 rfl ?_) | (with_reducible refine stop_store 28 rfl ?_) | (with_reducible refine stop_load 49 rfl ?_) | (with_reducible refine stop_store 49 rfl ?_) | (with_reducible refine stop_load 24 rfl ?_) | (with_reducible refine stop_store 24 rfl ?_) | (with_reducible refine stop_load 58 rfl ?_) | (with_reducible refine stop_store 58 rfl ?_))
      obtain ⟨wf, hwf⟩ : ∃ x, wG.drew = x := ⟨_, rfl⟩
      have hbf : Below wG.heap.size wG wf := by rw [← hwf]; exact (Below.refl _ _).drew
      have hPf := hPG.below hbf
      have hMf := hMG.below hbf
      have hZf := hZG.below hbf
      have hRf := hRG.below hbf
      have bf := bG.trans (hbf.mono bG.size)
      have sf := hbf.size
      have jf := iDG.below hbf
      have hS0 : Blk wG.drew gg [.int .i64 id, .int .i64 me, .slice mA mn mc, .int .i64 mv, .int .i64 se, .bool true, c6, c7, c8, c9, c10, c11, c12, .int .i64 0] 30 := by rw [hwf]; exact hPf
      refine wp_region_held_drew (S := fun Z => Blk Z gg [.int .i64 id, .int .i64 me, .slice mA mn mc, .int .i64 mv, .int .i64 se, .bool true, c6, c7, c8, c9, c10, c11, c12, .int .i64 0] 30) (by kernel_rfl) hS0 (fun hS0 => ?_)
      refine wpAnyH_take (fuel := 13) (i := 0) (v := .agg #[.int .i64 id, .int .i64 me, .slice mA mn mc, .int .i64 mv, .int .i64 se, .bool true, c6, c7, c8, c9, c10, c11, c12, .int .i64 0]) rfl (by kernel_rfl) (by kernel_rfl) (by kernel_rfl) (fun _ _ _ h => h) (yieldsIf_load_mid rfl 30 _ rfl gg 0 rfl [.int .i64 id, .int .i64 me, .slice mA mn mc, .int .i64 mv, .int .i64 se, .bool true, c6, c7, c8, c9, c10, c11, c12, .int .i64 0] _ (fun w hw => hw.range) Try.underlying30 rfl (by kernel_rfl)) hS0 ?_
      refine wpAnyH_take (fuel := 12) (i := 1) (v := .agg #[.int .i64 id, .int .i64 me, .slice mA mn mc, .int .i64 mv, .int .i64 se, .bool true, c6, c7, c8, c9, c10, c11, c12, .int .i64 0]) rfl (by kernel_rfl) (by kernel_rfl) (by kernel_rfl) (fun _ _ _ h => h) (yieldsIf_load_mid rfl 30 _ rfl gg 0 rfl [.int .i64 id, .int .i64 me, .slice mA mn mc, .int .i64 mv, .int .i64 se, .bool true, c6, c7, c8, c9, c10, c11, c12, .int .i64 0] _ (fun w hw => hw.range) Try.underlying30 rfl (by kernel_rfl)) hS0 ?_
      refine wpAnyH_take (fuel := 11) (i := 2) (v := .pointer (some ⟨gg, 1, none⟩)) rfl (by kernel_rfl) (by kernel_rfl) (by kernel_rfl) (fun _ _ _ h => h) (Or.inl ⟨by rfl, fun Z hZ => ?_⟩) hS0 ?_
      · go_simp
      refine wpAnyH_take (fuel := 10) (i := 3) (v := .agg #[.int .i64 me, .slice mA mn mc]) rfl (by kernel_rfl) (by kernel_rfl) (by kernel_rfl) (fun _ _ _ h => h) (yieldsIf_load_mid rfl 24 _ rfl gg 1 rfl [.int .i64 me, .slice mA mn mc] _ (fun w hw => hw.part rfl) Try.underlying24 rfl (by kernel_rfl)) hS0 ?_
      refine wpAnyH_take (fuel := 9) (i := 4) (v := .pointer (some ⟨gg, 3, none⟩)) rfl (by kernel_rfl) (by kernel_rfl) (by kernel_rfl) (fun _ _ _ h => h) (Or.inl ⟨by rfl, fun Z hZ => ?_⟩) hS0 ?_
      · go_simp
      refine wpAnyH_take (fuel := 8) (i := 5) (v := .int .i64 mv) rfl (by kernel_rfl) (by kernel_rfl) (by kernel_rfl) (fun _ _ _ h => h) (Or.inl ⟨by rfl, fun Z hZ => ?_⟩) hS0 ?_
      · have zz := Blk.cell hZ (j := 3) rfl; go_simp
      refine wpAnyH_take (fuel := 7) (i := 9) (v := .agg #[.int .u8 0, .slice none 0 0]) rfl (by kernel_rfl) (by kernel_rfl) (by kernel_rfl) (fun _ _ _ h => h) (Or.inl ⟨by rfl, fun Z hZ => ?_⟩) hS0 ?_
      · go_simp
      rw [hwf]
      refine all_one (fuel := 6) (i := 6) (by kernel_rfl) rfl rfl (fun Kk hK => ?_)
      go_simp
      go_fit (HLd.out wf bf)
      rintro e' w6 ⟨rfl, hd6⟩
      have b6 := bf.trans (hd6.mono bf.size)
      have s6 := hd6.size
      have hP6 := hPf.below hd6
      have hZ6 := hZf.below hd6
      have hR6 := hRf.below hd6
      have j6 := jf.below hd6
      refine hK _ _ ⟨hP6, ?_⟩
      clear hK Kk
      refine all_one (fuel := 5) (i := 7) (by kernel_rfl) rfl rfl (fun Kk hK => ?_)
      go_simp
      go_fit (rreq_any j6 hid hpb)
      rintro e' w7 ⟨ms', rfl, iM7, hd7⟩
      obtain ⟨d0, d1, d2, d3, d4, d5, d6, d7, d8, d9, d10, d11, d12, d13, d14, d15, d16, d17, d18, d19, d20, d21, d22, d23, d24, d25, d26, d27, rfl⟩ := list_28 (iM7.len : ms'.length = 28)
      have b7 := b6.trans (hd7.mono b6.size)
      have s7 := hd7.size
      have hP7 := hP6.below hd7
      have hZ7 := hZ6.below hd7
      have hR7 := hR6.below hd7
      have j7 := j6.below hd7
      refine hK _ _ ⟨hP7, ?_⟩
      clear hK Kk
      refine all_two (fuel := 4) (i := 8) (j := 10) (by kernel_rfl) rfl rfl rfl rfl (fun Kk hK => ?_) (fun Kk hK => ?_)
      · obtain ⟨gm7, hgm7⟩ : ∃ m, w7.heap.size = m := ⟨_, rfl⟩
        obtain ⟨w8, hw8⟩ : ∃ x, w7.alloc (.cells #[d0, d1, d2, d3, d4, d5, d6, d7, d8, d9, d10, d11, d12, d13, d14, d15, d16, d17, d18, d19, d20, d21, d22, d23, d24, d25, d26, d27] 58) = x := ⟨_, rfl⟩
        have hX8 : Blk w8 gm7 [d0, d1, d2, d3, d4, d5, d6, d7, d8, d9, d10, d11, d12, d13, d14, d15, d16, d17, d18, d19, d20, d21, d22, d23, d24, d25, d26, d27] 58 := by rw [← hw8, ← hgm7]; exact Blk.new w7 _ _
        have hb8 : Below w7.heap.size w7 w8 := by rw [← hw8]; exact (Below.refl _ _).alloc (Nat.le_refl _) _
        have b8 := b7.trans (hb8.mono b7.size)
        have s8 := hb8.size
        have hP8 := hP7.below hb8
        have hZ8 := hZ7.below hb8
        have hR8 := hR7.below hb8
        have j8 := j7.below hb8
        go_simp
        try rw [hw8]
        try rw [hgm7]
        have iM8 := iM7.below hb8
        refine hK _ _ ⟨hP8, ?_⟩
        clear hK Kk
        refine all_one (fuel := 3) (i := 10) (by kernel_rfl) rfl rfl (fun Kk hK => ?_)
        refine oper_store rfl rfl rfl rfl rfl hZ8 (by kernel_rfl) rfl (us := [.int .i64 id, .int .i64 me, .slice mA mn mc, .int .i64 mv, .int .i64 se, .bool true, c6, c7, c8, c9, c10, c11, c12, .int .i64 0]) j8.ones ?_
        obtain ⟨w9, hw9⟩ : ∃ x, w8.setRow (gg + 2) #[.int .i64 id, .int .i64 me, .slice mA mn mc, .int .i64 mv, .int .i64 se, .bool true, c6, c7, c8, c9, c10, c11, c12, .int .i64 0] = x := ⟨_, rfl⟩
        have hF9 : Fr (fun b => b = gg + 2) w8 w9 := by rw [← hw9]; exact Fr.row (X := fun b => b = gg + 2) rfl w8 _
        have hZ9 : Blk w9 (gg + 2) [.int .i64 id, .int .i64 me, .slice mA mn mc, .int .i64 mv, .int .i64 se, .bool true, c6, c7, c8, c9, c10, c11, c12, .int .i64 0] 30 := by rw [← hw9]; exact hZ8.setAll [.int .i64 id, .int .i64 me, .slice mA mn mc, .int .i64 mv, .int .i64 se, .bool true, c6, c7, c8, c9, c10, c11, c12, .int .i64 0]
        have hP9 := hP8.fr hF9 (by omega)
        have hR9 := hR8.fr hF9 (by omega)
        have j9 := j8.fr hF9 (fun b hb hx => by have hx' : b = gg + 2 := hx; have hb' : b < w.heap.size := hb; omega)
        have s9 := hF9.size
        have b9 := hF9.below b8 b8.size (fun b hb => by have hb' : b = gg + 2 := hb; omega)
        rw [hw9]
        have hX9 := hX8.fr hF9 (by omega)
        have iM9 := iM8.fr hF9 (fun b hb hx => by have hx' : b = gg + 2 := hx; have hb' : b < w.heap.size := hb; omega)
        refine hK _ _ ⟨hP9, ?_⟩
        clear hK Kk
        refine all_one (fuel := 2) (i := 11) (by kernel_rfl) rfl rfl (fun Kk hK => ?_)
        go_simp
        refine hK _ _ ⟨hP9, ?_⟩
        clear hK Kk
        refine all_one (fuel := 1) (i := 12) (by kernel_rfl) rfl rfl (fun Kk hK => ?_)
        refine oper_store rfl rfl rfl rfl rfl hR9 (by kernel_rfl) rfl (us := [.int .u8 0, .slice none 0 0]) (zeroR_is (w := w) (Q := fun _ => True)).ones ?_
        obtain ⟨wj, hwj⟩ : ∃ x, w9.setRow (gg + 3) #[.int .u8 0, .slice none 0 0] = x := ⟨_, rfl⟩
        have hFj : Fr (fun b => b = gg + 3) w9 wj := by rw [← hwj]; exact Fr.row (X := fun b => b = gg + 3) rfl w9 _
        have hRj : Blk wj (gg + 3) [.int .u8 0, .slice none 0 0] 49 := by rw [← hwj]; exact hR9.setAll [.int .u8 0, .slice none 0 0]
        have hPj := hP9.fr hFj (by omega)
        have hZj := hZ9.fr hFj (by omega)
        have hXj := hX9.fr hFj (by omega)
        have jj := j9.fr hFj (fun b hb hx => by have hx' : b = gg + 3 := hx; have hb' : b < w.heap.size := hb; omega)
        have iMj := iM9.fr hFj (fun b hb hx => by have hx' : b = gg + 3 := hx; have hb' : b < w.heap.size := hb; omega)
        have bj := hFj.below b9 b9.size (fun b hb => by have hb' : b = gg + 3 := hb; omega)
        rw [hwj]
        refine hK _ _ ⟨hPj, ?_⟩
        clear hK Kk hwj
        refine all_one (fuel := 0) (i := 13) (by kernel_rfl) rfl rfl (fun Kk hK => ?_)
        go_simp
        refine hK _ _ ⟨hPj, ?_⟩
        clear hK Kk
        refine wpAnyH_done (by kernel_rfl) ?_ _
        try simp only [Act.put, List.setIfInBounds_toArray, List.set_cons_zero, List.set_cons_succ, List.getElem_toArray, List.getElem_cons_zero, List.getElem_cons_succ]
        go_wp2
        refine bodyPost_ret (results_cell4 rfl rfl rfl hZj hRj Try.underlying30 rfl (by kernel_rfl) Try.underlying49 rfl (by kernel_rfl)) rfl ?_
        refine TakeIs.to ?_ HF.out
        exact ⟨[.int .i64 id, .int .i64 me, .slice mA mn mc, .int .i64 mv, .int .i64 se, .bool true, c6, c7, c8, c9, c10, c11, c12, .int .i64 0], some ⟨gm7, 0, none⟩, 1, 1, [.int .u8 0, .slice none 0 0], rfl, jj.any, row_one hXj iMj.any trivial, zeroR_is, by first | exact bj | (rw [← hgg]; exact bj)⟩
      · refine oper_store rfl rfl rfl rfl rfl hZ7 (by kernel_rfl) rfl (us := [.int .i64 id, .int .i64 me, .slice mA mn mc, .int .i64 mv, .int .i64 se, .bool true, c6, c7, c8, c9, c10, c11, c12, .int .i64 0]) j7.ones ?_
        obtain ⟨w8, hw8⟩ : ∃ x, w7.setRow (gg + 2) #[.int .i64 id, .int .i64 me, .slice mA mn mc, .int .i64 mv, .int .i64 se, .bool true, c6, c7, c8, c9, c10, c11, c12, .int .i64 0] = x := ⟨_, rfl⟩
        have hF8 : Fr (fun b => b = gg + 2) w7 w8 := by rw [← hw8]; exact Fr.row (X := fun b => b = gg + 2) rfl w7 _
        have hZ8 : Blk w8 (gg + 2) [.int .i64 id, .int .i64 me, .slice mA mn mc, .int .i64 mv, .int .i64 se, .bool true, c6, c7, c8, c9, c10, c11, c12, .int .i64 0] 30 := by rw [← hw8]; exact hZ7.setAll [.int .i64 id, .int .i64 me, .slice mA mn mc, .int .i64 mv, .int .i64 se, .bool true, c6, c7, c8, c9, c10, c11, c12, .int .i64 0]
        have hP8 := hP7.fr hF8 (by omega)
        have hR8 := hR7.fr hF8 (by omega)
        have j8 := j7.fr hF8 (fun b hb hx => by have hx' : b = gg + 2 := hx; have hb' : b < w.heap.size := hb; omega)
        have s8 := hF8.size
        have b8 := hF8.below b7 b7.size (fun b hb => by have hb' : b = gg + 2 := hb; omega)
        rw [hw8]
        have iM8 := iM7.fr hF8 (fun b hb hx => by have hx' : b = gg + 2 := hx; have hb' : b < w.heap.size := hb; omega)
        refine hK _ _ ⟨hP8, ?_⟩
        clear hK Kk
        refine all_one (fuel := 3) (i := 8) (by kernel_rfl) rfl rfl (fun Kk hK => ?_)
        obtain ⟨gm7, hgm7⟩ : ∃ m, w8.heap.size = m := ⟨_, rfl⟩
        obtain ⟨w9, hw9⟩ : ∃ x, w8.alloc (.cells #[d0, d1, d2, d3, d4, d5, d6, d7, d8, d9, d10, d11, d12, d13, d14, d15, d16, d17, d18, d19, d20, d21, d22, d23, d24, d25, d26, d27] 58) = x := ⟨_, rfl⟩
        have hX9 : Blk w9 gm7 [d0, d1, d2, d3, d4, d5, d6, d7, d8, d9, d10, d11, d12, d13, d14, d15, d16, d17, d18, d19, d20, d21, d22, d23, d24, d25, d26, d27] 58 := by rw [← hw9, ← hgm7]; exact Blk.new w8 _ _
        have hb9 : Below w8.heap.size w8 w9 := by rw [← hw9]; exact (Below.refl _ _).alloc (Nat.le_refl _) _
        have b9 := b8.trans (hb9.mono b8.size)
        have s9 := hb9.size
        have hP9 := hP8.below hb9
        have hZ9 := hZ8.below hb9
        have hR9 := hR8.below hb9
        have j9 := j8.below hb9
        go_simp
        try rw [hw9]
        try rw [hgm7]
        have iM9 := iM8.below hb9
        refine hK _ _ ⟨hP9, ?_⟩
        clear hK Kk
        refine all_one (fuel := 2) (i := 11) (by kernel_rfl) rfl rfl (fun Kk hK => ?_)
        go_simp
        refine hK _ _ ⟨hP9, ?_⟩
        clear hK Kk
        refine all_one (fuel := 1) (i := 12) (by kernel_rfl) rfl rfl (fun Kk hK => ?_)
        refine oper_store rfl rfl rfl rfl rfl hR9 (by kernel_rfl) rfl (us := [.int .u8 0, .slice none 0 0]) (zeroR_is (w := w) (Q := fun _ => True)).ones ?_
        obtain ⟨wj, hwj⟩ : ∃ x, w9.setRow (gg + 3) #[.int .u8 0, .slice none 0 0] = x := ⟨_, rfl⟩
        have hFj : Fr (fun b => b = gg + 3) w9 wj := by rw [← hwj]; exact Fr.row (X := fun b => b = gg + 3) rfl w9 _
        have hRj : Blk wj (gg + 3) [.int .u8 0, .slice none 0 0] 49 := by rw [← hwj]; exact hR9.setAll [.int .u8 0, .slice none 0 0]
        have hPj := hP9.fr hFj (by omega)
        have hZj := hZ9.fr hFj (by omega)
        have hXj := hX9.fr hFj (by omega)
        have jj := j9.fr hFj (fun b hb hx => by have hx' : b = gg + 3 := hx; have hb' : b < w.heap.size := hb; omega)
        have iMj := iM9.fr hFj (fun b hb hx => by have hx' : b = gg + 3 := hx; have hb' : b < w.heap.size := hb; omega)
        have bj := hFj.below b9 b9.size (fun b hb => by have hb' : b = gg + 3 := hb; omega)
        rw [hwj]
        refine hK _ _ ⟨hPj, ?_⟩
        clear hK Kk hwj
        refine all_one (fuel := 0) (i := 13) (by kernel_rfl) rfl rfl (fun Kk hK => ?_)
        go_simp
        refine hK _ _ ⟨hPj, ?_⟩
        clear hK Kk
        refine wpAnyH_done (by kernel_rfl) ?_ _
        try simp only [Act.put, List.setIfInBounds_toArray, List.set_cons_zero, List.set_cons_succ, List.getElem_toArray, List.getElem_cons_zero, List.getElem_cons_succ]
        go_wp2
        refine bodyPost_ret (results_cell4 rfl rfl rfl hZj hRj Try.underlying30 rfl (by kernel_rfl) Try.underlying49 rfl (by kernel_rfl)) rfl ?_
        refine TakeIs.to ?_ HF.out
        exact ⟨[.int .i64 id, .int .i64 me, .slice mA mn mc, .int .i64 mv, .int .i64 se, .bool true, c6, c7, c8, c9, c10, c11, c12, .int .i64 0], some ⟨gm7, 0, none⟩, 1, 1, [.int .u8 0, .slice none 0 0], rfl, jj.any, row_one hXj iMj.any trivial, zeroR_is, by first | exact bj | (rw [← hgg]; exact bj)⟩
end Go.Proofs.Ytlcbelmbonaooaa
