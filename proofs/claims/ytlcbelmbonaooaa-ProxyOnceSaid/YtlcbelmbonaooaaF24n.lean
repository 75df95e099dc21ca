/- Stage 24: what is asked for (written by gen_24m.py). -/
import Derived.Test.YtlcbelmbonaooaaF24m
import Derived.Test.YtlcbelmbonaooaaOrd
namespace Go.Proofs.Ytlcbelmbonaooaa
set_option maxRecDepth 20000
open Go.RowKit Go.Px Go.Maps Go.Deep
set_option linter.unusedVariables false
set_option linter.unusedSimpArgs false
set_option maxRecDepth 20000 in
set_option maxHeartbeats 25600000 in
theorem begin_any {w : World} {Q Q' Q'' : Nat → Prop} {x : ProxyD} {op : OpD} {nx : GroupD} {cs ds es : List Value} (h : tyProxy.Is w Q x cs) (ho' : tyOp.Is w Q' op ds) (hn' : tyGroup.Is w Q'' nx es) (hL : LightP x) (l1 : op.2.2.2.1.length ≤ 1099511627776) (l2 : op.2.2.2.2.length ≤ 1099511627776) (l3 : nx.2.length ≤ 1099511627776) :
    Calls Try.prog 42 #[.agg cs.toArray, .agg ds.toArray, .agg es.toArray] w fun e w' => AskIs w w' (fun b => w.heap.size ≤ b) (askD x op nx (asksB op nx)) e := by
  have h9 := h
  obtain ⟨id, g, v, se, bu, o, n, qu, c1, c2, c6, c7, c8, c9, c10, c11, c12, rfl, rfl, b1, b2, b3, b4, hg, ho, hn⟩ := Proxy_parts h
  obtain ⟨z0, z1, z2, z3, z4, rfl⟩ := list_5 (ho'.len : ds.length = 5)
  obtain ⟨r0, r1, rfl⟩ := list_2 (hn'.len : es.length = 2)
  have HOne := hide (And.intro ho'.ones hn'.ones)
  have HC := hide (fun W (hW : Below w.heap.size w W) => mprC_any (h9.below hW))
  have HA := hide (fun W (hW : Below w.heap.size w W) => asks_any (ho'.below hW) (hn'.below hW))
  have hrep := hide (show prB (id, g, v, se, bu, o, n, qu) = true → 1 ≤ id from fun hp => by
    have h1 : serB id = true := by
      unfold prB at hp
      rw [Bool.and_eq_true] at hp; exact hp.1
    unfold serB at h1
    exact (of_decide_eq_true h1).1)
  have hI := hide (fun (W : World) (hW : Below w.heap.size w W) (h1 : se + 1 ≤ 9223372036854775807) => (Proxy_shut (bu := true) (se := se + 1) (qu := 0) b1 b2 (by omega) (by omega) (hg.any.below hW) (ho'.any.below hW) (hn'.any.below hW) : tyProxy.Is W (fun _ => True) _ _))
  obtain ⟨gg, hgg⟩ : ∃ g, w.heap.size = g := ⟨_, rfl⟩
  have hLC := hide (fun (W : World) (ii : tyProxy.Is W (fun _ => True) (id, g, v, se + 1, true, op, nx, 0) [.int .i64 id, c1, c2, .int .i64 v, .int .i64 (se + 1), .bool true, z0, z1, z2, z3, z4, r0, r1, .int .i64 0]) => cloneProxy_any ii hL.g l1 l2 l3)
  have hLF := hide (show LightP (id, g, v, se + 1, true, op, nx, 0) from ⟨hL.g, l1, l2, l3⟩)
  clear h h9 hg ho hn ho' hn' hL l1 l2 l3
  obtain ⟨w0, hw0⟩ : ∃ x, (((w.alloc (.cells #[.int .i64 id, c1, c2, .int .i64 v, .int .i64 se, .bool bu, c6, c7, c8, c9, c10, c11, c12, .int .i64 qu] 30)).alloc (.cells #[z0, z1, z2, z3, z4] 28)).alloc (.cells #[r0, r1] 24)).alloc (.cells #[.int .i64 0, .int .i64 0, .slice none 0 0, .int .i64 0, .int .i64 0, .bool false, .int .u8 0, .int .i64 0, .int .i64 0, .slice none 0 0, .slice none 0 0, .int .i64 0, .slice none 0 0, .int .i64 0] 30) = x := ⟨_, rfl⟩
  have hP0 : Blk w0 gg [.int .i64 id, c1, c2, .int .i64 v, .int .i64 se, .bool bu, c6, c7, c8, c9, c10, c11, c12, .int .i64 qu] 30 := by rw [← hw0, ← hgg]; exact (((Blk.new w _ _).alloc _).alloc _).alloc _
  have hO0 : Blk w0 (gg + 1) [z0, z1, z2, z3, z4] 28 := by
    rw [← hw0, ← hgg]
    have := Blk.new (w.alloc (.cells #[.int .i64 id, c1, c2, .int .i64 v, .int .i64 se, .bool bu, c6, c7, c8, c9, c10, c11, c12, .int .i64 qu] 30)) [z0, z1, z2, z3, z4] 28
    rw [World.size_alloc] at this
    exact (this.alloc _).alloc _
  have hN0 : Blk w0 (gg + 2) [r0, r1] 24 := by
    rw [← hw0, ← hgg]
    have := Blk.new ((w.alloc (.cells #[.int .i64 id, c1, c2, .int .i64 v, .int .i64 se, .bool bu, c6, c7, c8, c9, c10, c11, c12, .int .i64 qu] 30)).alloc (.cells #[z0, z1, z2, z3, z4] 28)) [r0, r1] 24
    rw [World.size_alloc, World.size_alloc] at this
    exact this.alloc _
  have hR0 : Blk w0 (gg + 3) [.int .i64 0, .int .i64 0, .slice none 0 0, .int .i64 0, .int .i64 0, .bool false, .int .u8 0, .int .i64 0, .int .i64 0, .slice none 0 0, .slice none 0 0, .int .i64 0, .slice none 0 0, .int .i64 0] 30 := by
    rw [← hw0, ← hgg]
    have := Blk.new (((w.alloc (.cells #[.int .i64 id, c1, c2, .int .i64 v, .int .i64 se, .bool bu, c6, c7, c8, c9, c10, c11, c12, .int .i64 qu] 30)).alloc (.cells #[z0, z1, z2, z3, z4] 28)).alloc (.cells #[r0, r1] 24)) [.int .i64 0, .int .i64 0, .slice none 0 0, .int .i64 0, .int .i64 0, .bool false, .int .u8 0, .int .i64 0, .int .i64 0, .slice none 0 0, .slice none 0 0, .int .i64 0, .slice none 0 0, .int .i64 0] 30
    rw [World.size_alloc, World.size_alloc, World.size_alloc] at this
    exact this
  have b0 : Below w.heap.size w w0 := by rw [← hw0]; exact ((((Below.refl _ _).alloc (Nat.le_refl _) _).alloc (by simp) _).alloc (by simp; omega) _).alloc (by simp; omega) _
  have rl := hR0.lt
  have Hw0 := hide hw0
  have s0 := b0.size
  clear hw0
  go_enter Try.func42, Try.ntmps42
  go_wp2_with (first | (with_reducible refine stop_load 30 rfl ?_) | (with_reducible refine stop_store 30 rfl ?_) | (with_reducible refine stop_load 24 rfl ?_) | (with_reducible refine stop_store 24 rfl ?_) | (with_reducible refine stop_load 28 rfl ?_) | (with_reducible refine stop_store 28 rfl ?_) | (with_reducible refine stop_load 58 rfl ?_) | (with_reducible refine stop_store 58 rfl ?_))
  rw [Hw0.out]
  refine go_load rfl rfl rfl hP0 Try.underlying30 rfl (by kernel_rfl) ?_
  go_wp2_with (first | (with_reducible refine stop_load 30 rfl ?_) | (with_reducible refine stop_store 30 rfl ?_) | (with_reducible refine stop_load 24 rfl ?_) | (with_reducible refine stop_store 24 rfl ?_) | (with_reducible refine stop_load 28 rfl ?_) | (with_reducible refine stop_store 28 rfl ?_) | (with_reducible refine stop_load 58 rfl ?_) | (with_reducible refine stop_store 58 rfl ?_))
  go_fit (HC.out w0 b0)
  rintro xx w1 ⟨rfl, hd1⟩
  have s1 := hd1.size
  have b1' := b0.trans (hd1.mono s0)
  have hP1 := hP0.below hd1
  have hO1 := hO0.below hd1
  have hN1 := hN0.below hd1
  have hR1 := hR0.below hd1
  have y4 := hP1.cell (j := 4) rfl
  have y5 := hP1.cell (j := 5) rfl
  rcases bool_two (prB (id, g, v, se, bu, o, n, qu)) with q | q
  rotate_left
  · have HF := hide (show askD (id, g, v, se, bu, o, n, qu) op nx (asksB op nx) = (noP, [], 240) by rw [askD, if_pos q])
    rw [prE_no q]
    go_wp2_with (first | (with_reducible refine stop_load 30 rfl ?_) | (with_reducible refine stop_store 30 rfl ?_) | (with_reducible refine stop_load 24 rfl ?_) | (with_reducible refine stop_store 24 rfl ?_) | (with_reducible refine stop_load 28 rfl ?_) | (with_reducible refine stop_store 28 rfl ?_) | (with_reducible refine stop_load 58 rfl ?_) | (with_reducible refine stop_store 58 rfl ?_))
    refine go_store rfl rfl rfl rfl rfl hR1 (by kernel_rfl) rfl (us := [.int .i64 0, .int .i64 0, .slice none 0 0, .int .i64 0, .int .i64 0, .bool false, .int .u8 0, .int .i64 0, .int .i64 0, .slice none 0 0, .slice none 0 0, .int .i64 0, .slice none 0 0, .int .i64 0]) (noP_is (w := w) (Q := fun _ => True)).ones ?_
    go_wp2
    refine bodyPost_ret (results_cell3 rfl rfl (hR1.setAll [.int .i64 0, .int .i64 0, .slice none 0 0, .int .i64 0, .int .i64 0, .bool false, .int .u8 0, .int .i64 0, .int .i64 0, .slice none 0 0, .slice none 0 0, .int .i64 0, .slice none 0 0, .int .i64 0]) Try.underlying30 rfl (by kernel_rfl)) rfl ?_
    have hF := Fr.row (X := fun b => b = gg + 3) rfl w1 #[.int .i64 0, .int .i64 0, .slice none 0 0, .int .i64 0, .int .i64 0, .bool false, .int .u8 0, .int .i64 0, .int .i64 0, .slice none 0 0, .slice none 0 0, .int .i64 0, .slice none 0 0, .int .i64 0]
    refine ⟨[.int .i64 0, .int .i64 0, .slice none 0 0, .int .i64 0, .int .i64 0, .bool false, .int .u8 0, .int .i64 0, .int .i64 0, .slice none 0 0, .slice none 0 0, .int .i64 0, .slice none 0 0, .int .i64 0], none, 0, 0, by rw [HF.out]; (first | done | rfl), by rw [HF.out]; exact noP_is, by rw [HF.out]; exact zeroL_is, hF.below (by first | exact b1' | (rw [← hgg]; exact b1')) (by omega) (fun b hb => by have hb' : b = gg + 3 := hb; omega)⟩

  have hid := hrep.out q
  rw [prE_ok q]
  cases bu with
  | true =>
    have HF := hide (show askD (id, g, v, se, true, o, n, qu) op nx (asksB op nx) = (noP, [], 241) by rw [askD, if_neg (by rw [q]; exact fun h => Bool.noConfusion h), if_pos rfl])
    go_wp2_with (first | (with_reducible refine stop_load 30 rfl ?_) | (with_reducible refine stop_store 30 rfl ?_) | (with_reducible refine stop_load 24 rfl ?_) | (with_reducible refine stop_store 24 rfl ?_) | (with_reducible refine stop_load 28 rfl ?_) | (with_reducible refine stop_store 28 rfl ?_) | (with_reducible refine stop_load 58 rfl ?_) | (with_reducible refine stop_store 58 rfl ?_))
    refine go_store rfl rfl rfl rfl rfl hR1 (by kernel_rfl) rfl (us := [.int .i64 0, .int .i64 0, .slice none 0 0, .int .i64 0, .int .i64 0, .bool false, .int .u8 0, .int .i64 0, .int .i64 0, .slice none 0 0, .slice none 0 0, .int .i64 0, .slice none 0 0, .int .i64 0]) (noP_is (w := w) (Q := fun _ => True)).ones ?_
    go_wp2
    refine bodyPost_ret (results_cell3 rfl rfl (hR1.setAll [.int .i64 0, .int .i64 0, .slice none 0 0, .int .i64 0, .int .i64 0, .bool false, .int .u8 0, .int .i64 0, .int .i64 0, .slice none 0 0, .slice none 0 0, .int .i64 0, .slice none 0 0, .int .i64 0]) Try.underlying30 rfl (by kernel_rfl)) rfl ?_
    have hF := Fr.row (X := fun b => b = gg + 3) rfl w1 #[.int .i64 0, .int .i64 0, .slice none 0 0, .int .i64 0, .int .i64 0, .bool false, .int .u8 0, .int .i64 0, .int .i64 0, .slice none 0 0, .slice none 0 0, .int .i64 0, .slice none 0 0, .int .i64 0]
    refine ⟨[.int .i64 0, .int .i64 0, .slice none 0 0, .int .i64 0, .int .i64 0, .bool false, .int .u8 0, .int .i64 0, .int .i64 0, .slice none 0 0, .slice none 0 0, .int .i64 0, .slice none 0 0, .int .i64 0], none, 0, 0, by rw [HF.out]; (first | done | rfl), by rw [HF.out]; exact noP_is, by rw [HF.out]; exact zeroL_is, hF.below (by first | exact b1' | (rw [← hgg]; exact b1')) (by omega) (fun b hb => by have hb' : b = gg + 3 := hb; omega)⟩

  | false =>
    rcases bool_two (decide (4611686018427387904 ≤ se)) with q2 | q2
    · have HF := hide (show askD (id, g, v, se, false, o, n, qu) op nx (asksB op nx) = (noP, [], 240) by rw [askD, if_neg (by rw [q]; exact fun h => Bool.noConfusion h), if_neg (by decide), if_pos q2])
      go_wp2_with (first | (with_reducible refine stop_load 30 rfl ?_) | (with_reducible refine stop_store 30 rfl ?_) | (with_reducible refine stop_load 24 rfl ?_) | (with_reducible refine stop_store 24 rfl ?_) | (with_reducible refine stop_load 28 rfl ?_) | (with_reducible refine stop_store 28 rfl ?_) | (with_reducible refine stop_load 58 rfl ?_) | (with_reducible refine stop_store 58 rfl ?_))
      refine go_skipG rfl ?_
      go_wp2_with (first | (with_reducible refine stop_load 30 rfl ?_) | (with_reducible refine stop_store 30 rfl ?_) | (with_reducible refine stop_load 24 rfl ?_) | (with_reducible refine stop_store 24 rfl ?_) | (with_reducible refine stop_load 28 rfl ?_) | (with_reducible refine stop_store 28 rfl ?_) | (with_reducible refine stop_load 58 rfl ?_) | (with_reducible refine stop_store 58 rfl ?_))
      refine go_skipG rfl ?_
      go_wp2_with (first | (with_reducible refine stop_load 30 rfl ?_) | (with_reducible refine stop_store 30 rfl ?_) | (with_reducible refine stop_load 24 rfl ?_) | (with_reducible refine stop_store 24 rfl ?_) | (with_reducible refine stop_load 28 rfl ?_) | (with_reducible refine stop_store 28 rfl ?_) | (with_reducible refine stop_load 58 rfl ?_) | (with_reducible refine stop_store 58 rfl ?_))
      refine go_store rfl rfl rfl rfl rfl hR1 (by kernel_rfl) rfl (us := [.int .i64 0, .int .i64 0, .slice none 0 0, .int .i64 0, .int .i64 0, .bool false, .int .u8 0, .int .i64 0, .int .i64 0, .slice none 0 0, .slice none 0 0, .int .i64 0, .slice none 0 0, .int .i64 0]) (noP_is (w := w) (Q := fun _ => True)).ones ?_
      go_wp2
      refine bodyPost_ret (results_cell3 rfl rfl (hR1.setAll [.int .i64 0, .int .i64 0, .slice none 0 0, .int .i64 0, .int .i64 0, .bool false, .int .u8 0, .int .i64 0, .int .i64 0, .slice none 0 0, .slice none 0 0, .int .i64 0, .slice none 0 0, .int .i64 0]) Try.underlying30 rfl (by kernel_rfl)) rfl ?_
      have hF := Fr.row (X := fun b => b = gg + 3) rfl w1 #[.int .i64 0, .int .i64 0, .slice none 0 0, .int .i64 0, .int .i64 0, .bool false, .int .u8 0, .int .i64 0, .int .i64 0, .slice none 0 0, .slice none 0 0, .int .i64 0, .slice none 0 0, .int .i64 0]
      refine ⟨[.int .i64 0, .int .i64 0, .slice none 0 0, .int .i64 0, .int .i64 0, .bool false, .int .u8 0, .int .i64 0, .int .i64 0, .slice none 0 0, .slice none 0 0, .int .i64 0, .slice none 0 0, .int .i64 0], none, 0, 0, by rw [HF.out]; (first | done | rfl), by rw [HF.out]; exact noP_is, by rw [HF.out]; exact zeroL_is, hF.below (by first | exact b1' | (rw [← hgg]; exact b1')) (by omega) (fun b hb => by have hb' : b = gg + 3 := hb; omega)⟩

    have hse : se + 1 ≤ 4611686018427387904 := by have := of_decide_eq_false q2; omega
    have hwr : IntKind.i64.wrap (se + 1) = se + 1 := IntWalk.i64_in _ (by omega)
    go_wp2_with (first | (with_reducible refine stop_load 30 rfl ?_) | (with_reducible refine stop_store 30 rfl ?_) | (with_reducible refine stop_load 24 rfl ?_) | (with_reducible refine stop_store 24 rfl ?_) | (with_reducible refine stop_load 28 rfl ?_) | (with_reducible refine stop_store 28 rfl ?_) | (with_reducible refine stop_load 58 rfl ?_) | (with_reducible refine stop_store 58 rfl ?_))
    refine go_loadG rfl rfl (k := 0) rfl hO1 [z0, z1, z2, z3, z4] rfl Try.underlying28 rfl (by kernel_rfl) ?_
    go_wp2_with (first | (with_reducible refine stop_load 30 rfl ?_) | (with_reducible refine stop_store 30 rfl ?_) | (with_reducible refine stop_load 24 rfl ?_) | (with_reducible refine stop_store 24 rfl ?_) | (with_reducible refine stop_load 28 rfl ?_) | (with_reducible refine stop_store 28 rfl ?_) | (with_reducible refine stop_load 58 rfl ?_) | (with_reducible refine stop_store 58 rfl ?_))
    refine go_loadG rfl rfl (k := 0) rfl hN1 [r0, r1] rfl Try.underlying24 rfl (by kernel_rfl) ?_
    go_wp2_with (first | (with_reducible refine stop_load 30 rfl ?_) | (with_reducible refine stop_store 30 rfl ?_) | (with_reducible refine stop_load 24 rfl ?_) | (with_reducible refine stop_store 24 rfl ?_) | (with_reducible refine stop_load 28 rfl ?_) | (with_reducible refine stop_store 28 rfl ?_) | (with_reducible refine stop_load 58 rfl ?_) | (with_reducible refine stop_store 58 rfl ?_))
    go_fit (HA.out w1 b1')
    rintro xx w2 ⟨rfl, hd2⟩
    have s2 := hd2.size
    have b2' := b1'.trans (hd2.mono b1'.size)
    have hP2 := hP1.below hd2
    have hO2 := hO1.below hd2
    have hN2 := hN1.below hd2
    have hR2 := hR1.below hd2
    clear y4 y5
    rcases bool_two (asksB op nx) with q3 | q3
    rotate_left
    · have HF := hide (show askD (id, g, v, se, false, o, n, qu) op nx (asksB op nx) = (noP, [], 240) by rw [askD, if_neg (by rw [q]; exact fun h => Bool.noConfusion h), if_neg (by decide), if_neg (by rw [q2]; decide), if_pos q3])
      rw [q3]
      go_wp2_with (first | (with_reducible refine stop_load 30 rfl ?_) | (with_reducible refine stop_store 30 rfl ?_) | (with_reducible refine stop_load 24 rfl ?_) | (with_reducible refine stop_store 24 rfl ?_) | (with_reducible refine stop_load 28 rfl ?_) | (with_reducible refine stop_store 28 rfl ?_) | (with_reducible refine stop_load 58 rfl ?_) | (with_reducible refine stop_store 58 rfl ?_))
      refine go_store rfl rfl rfl rfl rfl hR2 (by kernel_rfl) rfl (us := [.int .i64 0, .int .i64 0, .slice none 0 0, .int .i64 0, .int .i64 0, .bool false, .int .u8 0, .int .i64 0, .int .i64 0, .slice none 0 0, .slice none 0 0, .int .i64 0, .slice none 0 0, .int .i64 0]) (noP_is (w := w) (Q := fun _ => True)).ones ?_
      go_wp2
      refine bodyPost_ret (results_cell3 rfl rfl (hR2.setAll [.int .i64 0, .int .i64 0, .slice none 0 0, .int .i64 0, .int .i64 0, .bool false, .int .u8 0, .int .i64 0, .int .i64 0, .slice none 0 0, .slice none 0 0, .int .i64 0, .slice none 0 0, .int .i64 0]) Try.underlying30 rfl (by kernel_rfl)) rfl ?_
      have hF := Fr.row (X := fun b => b = gg + 3) rfl w2 #[.int .i64 0, .int .i64 0, .slice none 0 0, .int .i64 0, .int .i64 0, .bool false, .int .u8 0, .int .i64 0, .int .i64 0, .slice none 0 0, .slice none 0 0, .int .i64 0, .slice none 0 0, .int .i64 0]
      refine ⟨[.int .i64 0, .int .i64 0, .slice none 0 0, .int .i64 0, .int .i64 0, .bool false, .int .u8 0, .int .i64 0, .int .i64 0, .slice none 0 0, .slice none 0 0, .int .i64 0, .slice none 0 0, .int .i64 0], none, 0, 0, by rw [HF.out]; (first | done | rfl), by rw [HF.out]; exact noP_is, by rw [HF.out]; exact zeroL_is, hF.below (by first | exact b2' | (rw [← hgg]; exact b2')) (by omega) (fun b hb => by have hb' : b = gg + 3 := hb; omega)⟩

    have HF := hide (show askD (id, g, v, se, false, o, n, qu) op nx (asksB op nx) = ((id, g, v, se + 1, true, op, nx, 0), [reqD (id, g, v, se + 1, true, op, nx, 0) (primN g.1 g.2 v)], 0) by rw [askD, if_neg (by rw [q]; exact fun h => Bool.noConfusion h), if_neg (by decide), if_neg (by rw [q2]; decide), if_neg (by rw [q3]; decide)])
    rw [q3]
    have y4 := hP2.cell (j := 4) rfl
    have f4 := hP2.frozen 4
    obtain ⟨wA, hwA⟩ : ∃ x, w2.setCell ⟨gg, 4, none⟩ (.int .i64 (se + 1)) = x := ⟨_, rfl⟩
    have hPA : Blk wA gg [.int .i64 id, c1, c2, .int .i64 v, .int .i64 (se + 1), .bool false, c6, c7, c8, c9, c10, c11, c12, .int .i64 qu] 30 := by rw [← hwA]; exact hP2.set 4 _
    have hFA : Fr (fun b => b = gg) w2 wA := by rw [← hwA]; exact Fr.set (X := fun b => b = gg) w2 ⟨gg, 4, none⟩ _ rfl
    have hOA := hO2.fr hFA (by omega)
    have hNA := hN2.fr hFA (by omega)
    have hRA := hR2.fr hFA (by omega)
    have bA := hFA.below b2' b2'.size (fun b hb => by have hb' : b = gg := hb; omega)
    have HwA := hide hwA
    have sA := hFA.size
    clear hwA
    go_wp2_with (first | (with_reducible refine stop_load 30 rfl ?_) | (with_reducible refine stop_store 30 rfl ?_) | (with_reducible refine stop_load 24 rfl ?_) | (with_reducible refine stop_store 24 rfl ?_) | (with_reducible refine stop_load 28 rfl ?_) | (with_reducible refine stop_store 28 rfl ?_) | (with_reducible refine stop_load 58 rfl ?_) | (with_reducible refine stop_store 58 rfl ?_))
    rw [HwA.out]
    obtain ⟨wd, hwd⟩ : ∃ x, wA.drew = x := ⟨_, rfl⟩
    have hbd : Below wA.heap.size wA wd := by rw [← hwd]; exact (Below.refl _ _).drew
    have hPd := hPA.below hbd
    have hOd := hOA.below hbd
    have hNd := hNA.below hbd
    have hRd := hRA.below hbd
    have bd := bA.trans (hbd.mono bA.size)
    have sd := hbd.size
    have hS0 : Blk wA.drew (gg + 1) [z0, z1, z2, z3, z4] 28 ∧ Blk wA.drew (gg + 2) [r0, r1] 24 := by rw [hwd]; exact ⟨hOd, hNd⟩
    refine wp_region_held_drew (S := fun Z => Blk Z (gg + 1) [z0, z1, z2, z3, z4] 28 ∧ Blk Z (gg + 2) [r0, r1] 24) (by kernel_rfl) hS0 (fun hS0 => ?_)
    refine wpAnyH_take (fuel := 9) (i := 0) (v := .agg #[z0, z1, z2, z3, z4]) rfl (by kernel_rfl) (by kernel_rfl) (by kernel_rfl) (fun _ _ _ h => h) (yieldsIf_load_mid rfl 28 _ rfl (gg + 1) 0 rfl [z0, z1, z2, z3, z4] _ (fun w hw => hw.1.range) Try.underlying28 rfl (by kernel_rfl)) hS0 ?_
    refine wpAnyH_take (fuel := 8) (i := 1) (v := .agg #[r0, r1]) rfl (by kernel_rfl) (by kernel_rfl) (by kernel_rfl) (fun _ _ _ h => h) (yieldsIf_load_mid rfl 24 _ rfl (gg + 2) 0 rfl [r0, r1] _ (fun w hw => hw.2.range) Try.underlying24 rfl (by kernel_rfl)) hS0 ?_
    refine wpAnyH_take (fuel := 7) (i := 2) (v := .pointer (some ⟨gg, 5, none⟩)) rfl (by kernel_rfl) (by kernel_rfl) (by kernel_rfl) (fun _ _ _ h => h) (Or.inl ⟨by rfl, fun Z hZ => ?_⟩) hS0 ?_
    · go_simp
    rw [hwd]
    have y5 := hPd.cell (j := 5) rfl
    have f5 := hPd.frozen 5
    refine all_one (fuel := 6) (i := 3) (by kernel_rfl) rfl rfl (fun Kk hK => ?_)
    go_simp
    obtain ⟨wB, hwB⟩ : ∃ x, wd.setCell ⟨gg, 5, none⟩ (.bool true) = x := ⟨_, rfl⟩
    have hPB : Blk wB gg [.int .i64 id, c1, c2, .int .i64 v, .int .i64 (se + 1), .bool true, c6, c7, c8, c9, c10, c11, c12, .int .i64 qu] 30 := by rw [← hwB]; exact hPd.set 5 _
    have hFwB : Fr (fun b => b = gg) wd wB := by rw [← hwB]; exact Fr.set (X := fun b => b = gg) wd ⟨gg, 5, none⟩ _ rfl
    have hOB := hOd.fr hFwB (by omega)
    have hNB := hNd.fr hFwB (by omega)
    have hRB := hRd.fr hFwB (by omega)
    have bB := hFwB.below bd bd.size (fun b hb => by have hb' : b = gg := hb; omega)
    have swB := hFwB.size
    rw [hwB]
    refine hK _ _ ⟨⟨hOB, hNB⟩, ?_⟩
    clear hK Kk
    refine all_one (fuel := 5) (i := 4) (by kernel_rfl) rfl rfl (fun Kk hK => ?_)
    go_simp
    refine hK _ _ ⟨⟨hOB, hNB⟩, ?_⟩
    clear hK Kk
    refine all_one (fuel := 4) (i := 5) (by kernel_rfl) rfl rfl (fun Kk hK => ?_)
    refine wp_store_mid 28 _ _ rfl gg 6 #[z0, z1, z2, z3, z4] rfl rfl (Blk.thereAt hPB (by simp)) (by kernel_rfl) (all_oneCell_toArray HOne.out.1) ?_
    obtain ⟨wC, hwC⟩ : ∃ x, wB.setCells gg 6 [z0, z1, z2, z3, z4] = x := ⟨_, rfl⟩
    have hPC : Blk wC gg [.int .i64 id, c1, c2, .int .i64 v, .int .i64 (se + 1), .bool true, z0, z1, z2, z3, z4, c11, c12, .int .i64 qu] 30 := by rw [← hwC]; exact (((((hPB.set 6 (z0)).set 7 (z1)).set 8 (z2)).set 9 (z3)).set 10 (z4))
    have hFwC : Fr (fun b => b = gg) wB wC := by rw [← hwC]; exact Fr.sets (X := fun b => b = gg) rfl _ _ _
    have hOC := hOB.fr hFwC (by omega)
    have hNC := hNB.fr hFwC (by omega)
    have hRC := hRB.fr hFwC (by omega)
    have bC := hFwC.below bB bB.size (fun b hb => by have hb' : b = gg := hb; omega)
    have swC := hFwC.size
    rw [hwC]
    refine hK _ _ ⟨⟨hOC, hNC⟩, ?_⟩
    clear hK Kk
    refine all_one (fuel := 3) (i := 6) (by kernel_rfl) rfl rfl (fun Kk hK => ?_)
    go_simp
    refine hK _ _ ⟨⟨hOC, hNC⟩, ?_⟩
    clear hK Kk
    refine all_one (fuel := 2) (i := 7) (by kernel_rfl) rfl rfl (fun Kk hK => ?_)
    refine wp_store_mid 24 _ _ rfl gg 11 #[r0, r1] rfl rfl (Blk.thereAt hPC (by simp)) (by kernel_rfl) (all_oneCell_toArray HOne.out.2) ?_
    obtain ⟨wD, hwD⟩ : ∃ x, wC.setCells gg 11 [r0, r1] = x := ⟨_, rfl⟩
    have hPD : Blk wD gg [.int .i64 id, c1, c2, .int .i64 v, .int .i64 (se + 1), .bool true, z0, z1, z2, z3, z4, r0, r1, .int .i64 qu] 30 := by rw [← hwD]; exact ((hPC.set 11 (r0)).set 12 (r1))
    have hFwD : Fr (fun b => b = gg) wC wD := by rw [← hwD]; exact Fr.sets (X := fun b => b = gg) rfl _ _ _
    have hOD := hOC.fr hFwD (by omega)
    have hND := hNC.fr hFwD (by omega)
    have hRD := hRC.fr hFwD (by omega)
    have bD := hFwD.below bC bC.size (fun b hb => by have hb' : b = gg := hb; omega)
    have swD := hFwD.size
    rw [hwD]
    refine hK _ _ ⟨⟨hOD, hND⟩, ?_⟩
    clear hK Kk
    refine all_one (fuel := 1) (i := 8) (by kernel_rfl) rfl rfl (fun Kk hK => ?_)
    have y13 := hPD.cell (j := 13) rfl
    have f13 := hPD.frozen 13
    go_simp
    refine hK _ _ ⟨⟨hOD, hND⟩, ?_⟩
    clear hK Kk
    refine all_one (fuel := 0) (i := 9) (by kernel_rfl) rfl rfl (fun Kk hK => ?_)
    go_simp
    obtain ⟨wE, hwE⟩ : ∃ x, wD.setCell ⟨gg, 13, none⟩ (.int .i64 0) = x := ⟨_, rfl⟩
    have hPE : Blk wE gg [.int .i64 id, c1, c2, .int .i64 v, .int .i64 (se + 1), .bool true, z0, z1, z2, z3, z4, r0, r1, .int .i64 0] 30 := by rw [← hwE]; exact hPD.set 13 _
    have hFwE : Fr (fun b => b = gg) wD wE := by rw [← hwE]; exact Fr.set (X := fun b => b = gg) wD ⟨gg, 13, none⟩ _ rfl
    have hOE := hOD.fr hFwE (by omega)
    have hNE := hND.fr hFwE (by omega)
    have hRE := hRD.fr hFwE (by omega)
    have bE := hFwE.below bD bD.size (fun b hb => by have hb' : b = gg := hb; omega)
    have swE := hFwE.size
    rw [hwE]
    refine hK _ _ ⟨⟨hOE, hNE⟩, ?_⟩
    clear hK Kk
    refine wpAnyH_done (by kernel_rfl) ?_ _
    try simp only [Act.put, List.setIfInBounds_toArray, List.set_cons_zero, List.set_cons_succ, List.getElem_toArray, List.getElem_cons_zero, List.getElem_cons_succ]
    have HwE := hide hwE
    clear hwE hwD hwC hwB hwd y4 y5 f4 f5 y13 f13
    go_wp2_with (first | (with_reducible refine stop_load 30 rfl ?_) | (with_reducible refine stop_store 30 rfl ?_) | (with_reducible refine stop_load 24 rfl ?_) | (with_reducible refine stop_store 24 rfl ?_) | (with_reducible refine stop_load 28 rfl ?_) | (with_reducible refine stop_store 28 rfl ?_) | (with_reducible refine stop_load 58 rfl ?_) | (with_reducible refine stop_store 58 rfl ?_))
    refine go_load rfl rfl rfl hPE Try.underlying30 rfl (by kernel_rfl) ?_
    go_wp2_with (first | (with_reducible refine stop_load 30 rfl ?_) | (with_reducible refine stop_store 30 rfl ?_) | (with_reducible refine stop_load 24 rfl ?_) | (with_reducible refine stop_store 24 rfl ?_) | (with_reducible refine stop_load 28 rfl ?_) | (with_reducible refine stop_store 28 rfl ?_) | (with_reducible refine stop_load 58 rfl ?_) | (with_reducible refine stop_store 58 rfl ?_))
    go_fit (hLC.out wE (hI.out wE bE (by omega)))
    rintro xx w5 ⟨ds, rfl, iD, hd5⟩
    have hdl : ds.length = 14 := iD.len
    have s5 := hd5.size
    have b5 := bE.trans (hd5.mono bE.size)
    have hP5 := hPE.below hd5
    have hR5 := hRE.below hd5
    go_wp2_with (first | (with_reducible refine stop_load 30 rfl ?_) | (with_reducible refine stop_store 30 rfl ?_) | (with_reducible refine stop_load 24 rfl ?_) | (with_reducible refine stop_store 24 rfl ?_) | (with_reducible refine stop_load 28 rfl ?_) | (with_reducible refine stop_store 28 rfl ?_) | (with_reducible refine stop_load 58 rfl ?_) | (with_reducible refine stop_store 58 rfl ?_))
    refine go_store rfl rfl rfl rfl rfl hP5 (by rw [hdl]; kernel_rfl) (by rw [hdl]; rfl) (us := ds) iD.ones ?_
    obtain ⟨w6, hw6⟩ : ∃ x, w5.setRow gg ds.toArray = x := ⟨_, rfl⟩
    have hF6 : Fr (fun b => b = gg) w5 w6 := by rw [← hw6]; exact Fr.row (X := fun b => b = gg) rfl w5 ds.toArray
    have hP6 : Blk w6 gg ds 30 := by rw [← hw6]; exact hP5.setAll ds
    have hR6 := hR5.fr hF6 (by omega)
    have iD6 := iD.fr hF6 (fun b hb hx => by have hx' : b = gg := hx; have hb' : wE.heap.size ≤ b := hb; omega)
    have b6 := hF6.below b5 b5.size (fun b hb => by have hb' : b = gg := hb; omega)
    have s6 := hF6.size
    rw [hw6]
    clear hw6
    go_wp2_with (first | (with_reducible refine stop_load 30 rfl ?_) | (with_reducible refine stop_store 30 rfl ?_) | (with_reducible refine stop_load 24 rfl ?_) | (with_reducible refine stop_store 24 rfl ?_) | (with_reducible refine stop_load 28 rfl ?_) | (with_reducible refine stop_store 28 rfl ?_) | (with_reducible refine stop_load 58 rfl ?_) | (with_reducible refine stop_store 58 rfl ?_))
    obtain ⟨wf, hwf⟩ : ∃ x, w6.drew = x := ⟨_, rfl⟩
    have hbf : Below w6.heap.size w6 wf := by rw [← hwf]; exact (Below.refl _ _).drew
    have hPf := hP6.below hbf
    have hRf := hR6.below hbf
    have iDf := iD6.below hbf
    have bf := b6.trans (hbf.mono b6.size)
    have sf := hbf.size
    have hS0 : Blk w6.drew gg ds 30 := by rw [hwf]; exact hPf
    refine wp_region_held_drew (S := fun Z => Blk Z gg ds 30) (by kernel_rfl) hS0 (fun hS0 => ?_)
    refine wpAnyH_take (fuel := 5) (i := 0) (v := .agg ds.toArray) rfl (by kernel_rfl) (by kernel_rfl) (by kernel_rfl) (fun _ _ _ h => h) (yieldsIf_load_mid rfl 30 _ rfl gg 0 rfl ds _ (fun w hw => hw.range) Try.underlying30 rfl (by rw [hdl]; kernel_rfl)) hS0 ?_
    refine wpAnyH_take (fuel := 4) (i := 1) (v := .agg ds.toArray) rfl (by kernel_rfl) (by kernel_rfl) (by kernel_rfl) (fun _ _ _ h => h) (yieldsIf_load_mid rfl 30 _ rfl gg 0 rfl ds _ (fun w hw => hw.range) Try.underlying30 rfl (by rw [hdl]; kernel_rfl)) hS0 ?_
    rw [hwf]
    refine all_one (fuel := 3) (i := 2) (by kernel_rfl) rfl rfl (fun Kk hK => ?_)
    go_simp
    go_fit (mfirst_any iDf hid hLF.out)
    rintro xx w7 ⟨A7, n7, c7, rfl, iL7, hd7⟩
    have s7 := hd7.size
    have b7 := bf.trans (hd7.mono bf.size)
    have hP7 := hPf.below hd7
    have hR7 := hRf.below hd7
    have iD7 := iDf.below hd7
    refine hK _ _ ⟨hP7, ?_⟩
    clear hK Kk
    refine all_one (fuel := 2) (i := 3) (by kernel_rfl) rfl rfl (fun Kk hK => ?_)
    refine oper_store rfl rfl rfl rfl rfl hR7 (by rw [hdl]; kernel_rfl) (by rw [hdl]; rfl) (us := ds) iD7.ones ?_
    obtain ⟨w8, hw8⟩ : ∃ x, w7.setRow (gg + 3) ds.toArray = x := ⟨_, rfl⟩
    have hF8 : Fr (fun b => b = gg + 3) w7 w8 := by rw [← hw8]; exact Fr.row (X := fun b => b = gg + 3) rfl w7 ds.toArray
    have hR8 : Blk w8 (gg + 3) ds 30 := by rw [← hw8]; exact hR7.setAll ds
    have hP8 := hP7.fr hF8 (by omega)
    have iD8 := iD7.fr hF8 (fun b hb hx => by have hx' : b = gg + 3 := hx; have hb' : wE.heap.size ≤ b := hb; omega)
    have iL8 := iL7.fr hF8 (fun b hb hx => by have hx' : b = gg + 3 := hx; have hb' : wf.heap.size ≤ b := hb; omega)
    have b8 := hF8.below b7 b7.size (fun b hb => by have hb' : b = gg + 3 := hb; omega)
    rw [hw8]
    refine hK _ _ ⟨hP8, ?_⟩
    clear hK Kk
    refine all_one (fuel := 1) (i := 4) (by kernel_rfl) rfl rfl (fun Kk hK => ?_)
    go_simp
    refine hK _ _ ⟨hP8, ?_⟩
    clear hK Kk
    refine all_one (fuel := 0) (i := 5) (by kernel_rfl) rfl rfl (fun Kk hK => ?_)
    go_simp
    refine hK _ _ ⟨hP8, ?_⟩
    clear hK Kk
    refine wpAnyH_done (by kernel_rfl) ?_ _
    try simp only [Act.put, List.setIfInBounds_toArray, List.set_cons_zero, List.set_cons_succ, List.getElem_toArray, List.getElem_cons_zero, List.getElem_cons_succ]
    go_wp2
    refine bodyPost_ret (results_cell3 rfl rfl hR8 Try.underlying30 rfl (by rw [hdl]; kernel_rfl)) rfl ?_
    refine ⟨ds, A7, n7, c7, by rw [HF.out]; (first | done | rfl), ?_, ?_, by first | exact b8 | (rw [← hgg]; exact b8)⟩
    · rw [HF.out]
      exact iD8.mono (fun b hb => by have hb' : wE.heap.size ≤ b := hb; first | (show w.heap.size ≤ b; omega) | (show gg ≤ b; omega))
    · rw [HF.out]
      exact iL8.mono (fun b hb => by have hb' : wf.heap.size ≤ b := hb; first | (show w.heap.size ≤ b; omega) | (show gg ≤ b; omega))
end Go.Proofs.Ytlcbelmbonaooaa
