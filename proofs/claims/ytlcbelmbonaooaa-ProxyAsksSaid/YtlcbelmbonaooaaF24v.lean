/- Stage 24: what is asked for, as the document says (written by gen_24v.py). -/
import Derived.Test.YtlcbelmbonaooaaF24s
import Derived.Test.YtlcbelmbonaooaaF24d
import Derived.Test.YtlcbelmbonaooaaOrd
namespace Go.Proofs.Ytlcbelmbonaooaa
set_option maxRecDepth 20000
open Go.RowKit Go.Px Go.Maps Go.Deep
set_option linter.unusedVariables false
set_option linter.unusedSimpArgs false
set_option maxRecDepth 20000 in
set_option maxHeartbeats 25600000 in
theorem rasks_any {w : World} {Q : Nat → Prop} {x : ProxyD} {op : OpD} {nx : GroupD} {okk : Bool} {cs ds es : List Value} (h : tyProxy.Is w Q x cs) (ho' : tyOp.Is w Q op ds) (hn' : tyGroup.Is w Q nx es) :
    Calls Try.prog 43 #[.agg cs.toArray, .agg ds.toArray, .agg es.toArray, .bool okk] w fun e w' => AskIs w w' (fun b => Q b ∨ w.heap.size ≤ b) (askD x op nx okk) e := by
  have h9 := h
  obtain ⟨id, g, v, se, bu, o, n, qu, c1, c2, c6, c7, c8, c9, c10, c11, c12, rfl, rfl, b1, b2, b3, b4, hg, ho, hn⟩ := Proxy_parts h
  obtain ⟨A1, n1, k1, e1, e2, hgb, hgl, hgc, hgm, hgr, hgi⟩ := Group_cells hg
  have hpb := primN_bd (e := g.1) (v := v) hgi
  obtain ⟨z0, z1, z2, z3, z4, rfl⟩ := list_5 (ho'.len : ds.length = 5)
  obtain ⟨r0, r1, rfl⟩ := list_2 (hn'.len : es.length = 2)
  have HOne := hide (And.intro ho'.ones hn'.ones)
  have HC := hide (fun W (hW : Below w.heap.size w W) => rprC_any (h9.below hW))
  have HGl := hide (fun W (hW : Below w.heap.size w W) => lead_is (v := v) (hg.below hW))
  have hI := hide (fun (W : World) (hW : Below w.heap.size w W) (h1 : se + 1 ≤ 9223372036854775807) => (Proxy_shut (bu := true) (se := se + 1) (qu := 0) b1 b2 (by omega) (by omega) (hg.here.below hW) (ho'.here.below hW) (hn'.here.below hW) : tyProxy.Is W (fun b => Q b ∧ b < w.heap.size) (id, g, v, se + 1, true, op, nx, 0) [.int .i64 id, c1, c2, .int .i64 v, .int .i64 (se + 1), .bool true, z0, z1, z2, z3, z4, r0, r1, .int .i64 0]))
  obtain ⟨gg, hgg⟩ : ∃ g, w.heap.size = g := ⟨_, rfl⟩
  clear h h9 hg ho hn ho' hn' hgr hgi e1 e2 hgb
  obtain ⟨w0, hw0⟩ : ∃ x, (((w.alloc (.cells #[.int .i64 id, c1, c2, .int .i64 v, .int .i64 se, .bool bu, c6, c7, c8, c9, c10, c11, c12, .int .i64 qu] 30)).alloc (.cells #[z0, z1, z2, z3, z4] 28)).alloc (.cells #[r0, r1] 24)).alloc (.cells #[.int .i64 0, .int .i64 0, .slice none 0 0, .int .i64 0, .int .i64 0, .bool false, .int .u8 0, .int .i64 0, .int .i64 0, .slice none 0 0, .slice none 0 0, .int .i64 0, .slice none 0 0, .int .i64 0] 30) = x := ⟨_, rfl⟩
  have hP0 : Blk w0 gg [.int .i64 id, c1, c2, .int .i64 v, .int .i64 se, .bool bu, c6, c7, c8, c9, c10, c11, c12, .int .i64 qu] 30 := by rw [← hw0, ← hgg]; exact (((Blk.new w _ _).alloc _).alloc _).alloc _
  have hO0 : Blk w0 (gg + 1) [z0, z1, z2, z3, z4] 28 := by
    rw [← hw0, ← hgg]
    have := Blk.new (w.alloc (.cells #[.int .i64 id, c1, c2, .int .i64 v, .int .i64 se, .bool bu, c6, c7, c8, c9, c10, c11, c12, .int .i64 qu] 30)) [z0, z1, z2, z3, z4] 28
    rw [World.size_alloc] at this
    exact (this.alloc _).alloc _
  have hN0 : Blk w0 (gg + 2) [r0, r1] 24 := by
    rw [← hw0, ← hgg]
    have := Blk.new ((w.alloc (.cells #[.int .i64 id, c1, c2, .int .i64 v, .int .i64 se, .bool bu, c6, c7, c8, c9, c10, c11, c12, .int .i64 qu] 30)).alloc (.cells #[z0, z1, z2, z3, z4] 28)) [r0, r1] 24
    rw [World.size_alloc, World.size_alloc] at this
    exact this.alloc _
  have hR0 : Blk w0 (gg + 3) [.int .i64 0, .int .i64 0, .slice none 0 0, .int .i64 0, .int .i64 0, .bool false, .int .u8 0, .int .i64 0, .int .i64 0, .slice none 0 0, .slice none 0 0, .int .i64 0, .slice none 0 0, .int .i64 0] 30 := by
    rw [← hw0, ← hgg]
    have := Blk.new (((w.alloc (.cells #[.int .i64 id, c1, c2, .int .i64 v, .int .i64 se, .bool bu, c6, c7, c8, c9, c10, c11, c12, .int .i64 qu] 30)).alloc (.cells #[z0, z1, z2, z3, z4] 28)).alloc (.cells #[r0, r1] 24)) [.int .i64 0, .int .i64 0, .slice none 0 0, .int .i64 0, .int .i64 0, .bool false, .int .u8 0, .int .i64 0, .int .i64 0, .slice none 0 0, .slice none 0 0, .int .i64 0, .slice none 0 0, .int .i64 0] 30
    rw [World.size_alloc, World.size_alloc, World.size_alloc] at this
    exact this
  have b0 : Below w.heap.size w w0 := by rw [← hw0]; exact ((((Below.refl _ _).alloc (Nat.le_refl _) _).alloc (by simp) _).alloc (by simp; omega) _).alloc (by simp; omega) _
  have rl := hR0.lt
  have Hw0 := hide hw0
  have s0 := b0.size
  clear hw0
  go_enter Try.func43, Try.ntmps43
  go_wp2_with (first | (with_reducible refine stop_load 30 rfl ?_) | (with_reducible refine stop_store 30 rfl ?_) | (with_reducible refine stop_load 24 rfl ?_) | (with_reducible refine stop_store 24 rfl ?_) | (with_reducible refine stop_load 28 rfl ?_) | (with_reducible refine stop_store 28 rfl ?_) | (with_reducible refine stop_load 58 rfl ?_) | (with_reducible refine stop_store 58 rfl ?_))
  rw [Hw0.out]
  refine go_loadG rfl rfl (k := 0) rfl hP0 [.int .i64 id, c1, c2, .int .i64 v, .int .i64 se, .bool bu, c6, c7, c8, c9, c10, c11, c12, .int .i64 qu] rfl Try.underlying30 rfl (by kernel_rfl) ?_
  go_wp2_with (first | (with_reducible refine stop_load 30 rfl ?_) | (with_reducible refine stop_store 30 rfl ?_) | (with_reducible refine stop_load 24 rfl ?_) | (with_reducible refine stop_store 24 rfl ?_) | (with_reducible refine stop_load 28 rfl ?_) | (with_reducible refine stop_store 28 rfl ?_) | (with_reducible refine stop_load 58 rfl ?_) | (with_reducible refine stop_store 58 rfl ?_))
  go_fit (HC.out w0 b0)
  rintro xx w1 ⟨rfl, hd1⟩
  have s1 := hd1.size
  have b1' := b0.trans (hd1.mono s0)
  have hP1 := hP0.below hd1
  have hO1 := hO0.below hd1
  have hN1 := hN0.below hd1
  have hR1 := hR0.below hd1
  have y4 := hP1.cell (j := 4) rfl
  have y5 := hP1.cell (j := 5) rfl
  rcases bool_two (prB (id, g, v, se, bu, o, n, qu)) with q | q
  rotate_left
  · have HF := hide (show askD (id, g, v, se, bu, o, n, qu) op nx okk = (noP, [], 240) by rw [askD, if_pos q])
    rw [prE_no q]
    go_wp2_with (first | (with_reducible refine stop_load 30 rfl ?_) | (with_reducible refine stop_store 30 rfl ?_) | (with_reducible refine stop_load 24 rfl ?_) | (with_reducible refine stop_store 24 rfl ?_) | (with_reducible refine stop_load 28 rfl ?_) | (with_reducible refine stop_store 28 rfl ?_) | (with_reducible refine stop_load 58 rfl ?_) | (with_reducible refine stop_store 58 rfl ?_))
    refine go_store rfl rfl rfl rfl rfl hR1 (by kernel_rfl) rfl (us := [.int .i64 0, .int .i64 0, .slice none 0 0, .int .i64 0, .int .i64 0, .bool false, .int .u8 0, .int .i64 0, .int .i64 0, .slice none 0 0, .slice none 0 0, .int .i64 0, .slice none 0 0, .int .i64 0]) (noP_is (w := w) (Q := fun _ => True)).ones ?_
    go_wp2
    refine bodyPost_ret (results_cell3 rfl rfl (hR1.setAll [.int .i64 0, .int .i64 0, .slice none 0 0, .int .i64 0, .int .i64 0, .bool false, .int .u8 0, .int .i64 0, .int .i64 0, .slice none 0 0, .slice none 0 0, .int .i64 0, .slice none 0 0, .int .i64 0]) Try.underlying30 rfl (by kernel_rfl)) rfl ?_
    have hF := Fr.row (X := fun b => b = gg + 3) rfl w1 #[.int .i64 0, .int .i64 0, .slice none 0 0, .int .i64 0, .int .i64 0, .bool false, .int .u8 0, .int .i64 0, .int .i64 0, .slice none 0 0, .slice none 0 0, .int .i64 0, .slice none 0 0, .int .i64 0]
    refine ⟨[.int .i64 0, .int .i64 0, .slice none 0 0, .int .i64 0, .int .i64 0, .bool false, .int .u8 0, .int .i64 0, .int .i64 0, .slice none 0 0, .slice none 0 0, .int .i64 0, .slice none 0 0, .int .i64 0], none, 0, 0, by rw [HF.out]; (first | done | rfl), by rw [HF.out]; exact noP_is, by rw [HF.out]; exact zeroL_is, hF.below (by first | exact b1' | (rw [← hgg]; exact b1')) (by omega) (fun b hb => by have hb' : b = gg + 3 := hb; omega)⟩

  have hid := prB_id q
  rw [prE_ok q]
  cases bu with
  | true =>
    have HF := hide (show askD (id, g, v, se, true, o, n, qu) op nx okk = (noP, [], 241) by rw [askD, if_neg (by rw [q]; exact fun h => Bool.noConfusion h), if_pos rfl])
    go_wp2_with (first | (with_reducible refine stop_load 30 rfl ?_) | (with_reducible refine stop_store 30 rfl ?_) | (with_reducible refine stop_load 24 rfl ?_) | (with_reducible refine stop_store 24 rfl ?_) | (with_reducible refine stop_load 28 rfl ?_) | (with_reducible refine stop_store 28 rfl ?_) | (with_reducible refine stop_load 58 rfl ?_) | (with_reducible refine stop_store 58 rfl ?_))
    refine go_store rfl rfl rfl rfl rfl hR1 (by kernel_rfl) rfl (us := [.int .i64 0, .int .i64 0, .slice none 0 0, .int .i64 0, .int .i64 0, .bool false, .int .u8 0, .int .i64 0, .int .i64 0, .slice none 0 0, .slice none 0 0, .int .i64 0, .slice none 0 0, .int .i64 0]) (noP_is (w := w) (Q := fun _ => True)).ones ?_
    go_wp2
    refine bodyPost_ret (results_cell3 rfl rfl (hR1.setAll [.int .i64 0, .int .i64 0, .slice none 0 0, .int .i64 0, .int .i64 0, .bool false, .int .u8 0, .int .i64 0, .int .i64 0, .slice none 0 0, .slice none 0 0, .int .i64 0, .slice none 0 0, .int .i64 0]) Try.underlying30 rfl (by kernel_rfl)) rfl ?_
    have hF := Fr.row (X := fun b => b = gg + 3) rfl w1 #[.int .i64 0, .int .i64 0, .slice none 0 0, .int .i64 0, .int .i64 0, .bool false, .int .u8 0, .int .i64 0, .int .i64 0, .slice none 0 0, .slice none 0 0, .int .i64 0, .slice none 0 0, .int .i64 0]
    refine ⟨[.int .i64 0, .int .i64 0, .slice none 0 0, .int .i64 0, .int .i64 0, .bool false, .int .u8 0, .int .i64 0, .int .i64 0, .slice none 0 0, .slice none 0 0, .int .i64 0, .slice none 0 0, .int .i64 0], none, 0, 0, by rw [HF.out]; (first | done | rfl), by rw [HF.out]; exact noP_is, by rw [HF.out]; exact zeroL_is, hF.below (by first | exact b1' | (rw [← hgg]; exact b1')) (by omega) (fun b hb => by have hb' : b = gg + 3 := hb; omega)⟩

  | false =>
    rcases bool_two (decide (4611686018427387904 ≤ se)) with q2 | q2
    · have HF := hide (show askD (id, g, v, se, false, o, n, qu) op nx okk = (noP, [], 240) by rw [askD, if_neg (by rw [q]; exact fun h => Bool.noConfusion h), if_neg (by decide), if_pos q2])
      go_wp2_with (first | (with_reducible refine stop_load 30 rfl ?_) | (with_reducible refine stop_store 30 rfl ?_) | (with_reducible refine stop_load 24 rfl ?_) | (with_reducible refine stop_store 24 rfl ?_) | (with_reducible refine stop_load 28 rfl ?_) | (with_reducible refine stop_store 28 rfl ?_) | (with_reducible refine stop_load 58 rfl ?_) | (with_reducible refine stop_store 58 rfl ?_))
      refine go_store rfl rfl rfl rfl rfl hR1 (by kernel_rfl) rfl (us := [.int .i64 0, .int .i64 0, .slice none 0 0, .int .i64 0, .int .i64 0, .bool false, .int .u8 0, .int .i64 0, .int .i64 0, .slice none 0 0, .slice none 0 0, .int .i64 0, .slice none 0 0, .int .i64 0]) (noP_is (w := w) (Q := fun _ => True)).ones ?_
      go_wp2
      refine bodyPost_ret (results_cell3 rfl rfl (hR1.setAll [.int .i64 0, .int .i64 0, .slice none 0 0, .int .i64 0, .int .i64 0, .bool false, .int .u8 0, .int .i64 0, .int .i64 0, .slice none 0 0, .slice none 0 0, .int .i64 0, .slice none 0 0, .int .i64 0]) Try.underlying30 rfl (by kernel_rfl)) rfl ?_
      have hF := Fr.row (X := fun b => b = gg + 3) rfl w1 #[.int .i64 0, .int .i64 0, .slice none 0 0, .int .i64 0, .int .i64 0, .bool false, .int .u8 0, .int .i64 0, .int .i64 0, .slice none 0 0, .slice none 0 0, .int .i64 0, .slice none 0 0, .int .i64 0]
      refine ⟨[.int .i64 0, .int .i64 0, .slice none 0 0, .int .i64 0, .int .i64 0, .bool false, .int .u8 0, .int .i64 0, .int .i64 0, .slice none 0 0, .slice none 0 0, .int .i64 0, .slice none 0 0, .int .i64 0], none, 0, 0, by rw [HF.out]; (first | done | rfl), by rw [HF.out]; exact noP_is, by rw [HF.out]; exact zeroL_is, hF.below (by first | exact b1' | (rw [← hgg]; exact b1')) (by omega) (fun b hb => by have hb' : b = gg + 3 := hb; omega)⟩

    cases okk with
    | false =>
      have HF := hide (show askD (id, g, v, se, false, o, n, qu) op nx false = (noP, [], 240) by rw [askD, if_neg (by rw [q]; exact fun h => Bool.noConfusion h), if_neg (by decide), if_neg (by rw [q2]; decide), if_pos rfl])
      go_wp2_with (first | (with_reducible refine stop_load 30 rfl ?_) | (with_reducible refine stop_store 30 rfl ?_) | (with_reducible refine stop_load 24 rfl ?_) | (with_reducible refine stop_store 24 rfl ?_) | (with_reducible refine stop_load 28 rfl ?_) | (with_reducible refine stop_store 28 rfl ?_) | (with_reducible refine stop_load 58 rfl ?_) | (with_reducible refine stop_store 58 rfl ?_))
      refine go_store rfl rfl rfl rfl rfl hR1 (by kernel_rfl) rfl (us := [.int .i64 0, .int .i64 0, .slice none 0 0, .int .i64 0, .int .i64 0, .bool false, .int .u8 0, .int .i64 0, .int .i64 0, .slice none 0 0, .slice none 0 0, .int .i64 0, .slice none 0 0, .int .i64 0]) (noP_is (w := w) (Q := fun _ => True)).ones ?_
      go_wp2
      refine bodyPost_ret (results_cell3 rfl rfl (hR1.setAll [.int .i64 0, .int .i64 0, .slice none 0 0, .int .i64 0, .int .i64 0, .bool false, .int .u8 0, .int .i64 0, .int .i64 0, .slice none 0 0, .slice none 0 0, .int .i64 0, .slice none 0 0, .int .i64 0]) Try.underlying30 rfl (by kernel_rfl)) rfl ?_
      have hF := Fr.row (X := fun b => b = gg + 3) rfl w1 #[.int .i64 0, .int .i64 0, .slice none 0 0, .int .i64 0, .int .i64 0, .bool false, .int .u8 0, .int .i64 0, .int .i64 0, .slice none 0 0, .slice none 0 0, .int .i64 0, .slice none 0 0, .int .i64 0]
      refine ⟨[.int .i64 0, .int .i64 0, .slice none 0 0, .int .i64 0, .int .i64 0, .bool false, .int .u8 0, .int .i64 0, .int .i64 0, .slice none 0 0, .slice none 0 0, .int .i64 0, .slice none 0 0, .int .i64 0], none, 0, 0, by rw [HF.out]; (first | done | rfl), by rw [HF.out]; exact noP_is, by rw [HF.out]; exact zeroL_is, hF.below (by first | exact b1' | (rw [← hgg]; exact b1')) (by omega) (fun b hb => by have hb' : b = gg + 3 := hb; omega)⟩

    | true =>
      have hse : se + 1 ≤ 4611686018427387904 := by have := of_decide_eq_false q2; omega
      have hwr : IntKind.i64.wrap (se + 1) = se + 1 := IntWalk.i64_in _ (by omega)
      have HF := hide (show askD (id, g, v, se, false, o, n, qu) op nx true = ((id, g, v, se + 1, true, op, nx, 0), [reqD (id, g, v, se + 1, true, op, nx, 0) (primN g.1 g.2 v)], 0) by rw [askD, if_neg (by rw [q]; exact fun h => Bool.noConfusion h), if_neg (by decide), if_neg (by rw [q2]; decide), if_neg (by decide)])
      have f4 := hP1.frozen 4
      obtain ⟨wA, hwA⟩ : ∃ x, w1.setCell ⟨gg, 4, none⟩ (.int .i64 (se + 1)) = x := ⟨_, rfl⟩
      have hPA : Blk wA gg [.int .i64 id, c1, c2, .int .i64 v, .int .i64 (se + 1), .bool false, c6, c7, c8, c9, c10, c11, c12, .int .i64 qu] 30 := by rw [← hwA]; exact hP1.set 4 _
      have hFA : Fr (fun b => b = gg) w1 wA := by rw [← hwA]; exact Fr.set (X := fun b => b = gg) w1 ⟨gg, 4, none⟩ _ rfl
      have hOA := hO1.fr hFA (by omega)
      have hNA := hN1.fr hFA (by omega)
      have hRA := hR1.fr hFA (by omega)
      have bA := hFA.below b1' b1'.size (fun b hb => by have hb' : b = gg := hb; omega)
      have HwA := hide hwA
      have sA := hFA.size
      clear hwA
      go_wp2_with (first | (with_reducible refine stop_load 30 rfl ?_) | (with_reducible refine stop_store 30 rfl ?_) | (with_reducible refine stop_load 24 rfl ?_) | (with_reducible refine stop_store 24 rfl ?_) | (with_reducible refine stop_load 28 rfl ?_) | (with_reducible refine stop_store 28 rfl ?_) | (with_reducible refine stop_load 58 rfl ?_) | (with_reducible refine stop_store 58 rfl ?_))
      rw [HwA.out]
      clear y4 y5 f4
      obtain ⟨wd, hwd⟩ : ∃ x, wA.drew = x := ⟨_, rfl⟩
      have hbd : Below wA.heap.size wA wd := by rw [← hwd]; exact (Below.refl _ _).drew
      have hPd := hPA.below hbd
      have hOd := hOA.below hbd
      have hNd := hNA.below hbd
      have hRd := hRA.below hbd
      have bd := bA.trans (hbd.mono bA.size)
      have sd := hbd.size
      have hS0 : Blk wA.drew (gg + 1) [z0, z1, z2, z3, z4] 28 ∧ Blk wA.drew (gg + 2) [r0, r1] 24 := by rw [hwd]; exact ⟨hOd, hNd⟩
      refine wp_region_held_drew (S := fun Z => Blk Z (gg + 1) [z0, z1, z2, z3, z4] 28 ∧ Blk Z (gg + 2) [r0, r1] 24) (by kernel_rfl) hS0 (fun hS0 => ?_)
      refine wpAnyH_take (fuel := 9) (i := 0) (v := .agg #[z0, z1, z2, z3, z4]) rfl (by kernel_rfl) (by kernel_rfl) (by kernel_rfl) (fun _ _ _ h => h) (yieldsIf_load_mid rfl 28 _ rfl (gg + 1) 0 rfl [z0, z1, z2, z3, z4] _ (fun w hw => hw.1.range) Try.underlying28 rfl (by kernel_rfl)) hS0 ?_
      refine wpAnyH_take (fuel := 8) (i := 1) (v := .agg #[r0, r1]) rfl (by kernel_rfl) (by kernel_rfl) (by kernel_rfl) (fun _ _ _ h => h) (yieldsIf_load_mid rfl 24 _ rfl (gg + 2) 0 rfl [r0, r1] _ (fun w hw => hw.2.range) Try.underlying24 rfl (by kernel_rfl)) hS0 ?_
      refine wpAnyH_take (fuel := 7) (i := 2) (v := .pointer (some ⟨gg, 5, none⟩)) rfl (by kernel_rfl) (by kernel_rfl) (by kernel_rfl) (fun _ _ _ h => h) (Or.inl ⟨by rfl, fun Z hZ => ?_⟩) hS0 ?_
      · go_simp
      rw [hwd]
      have y5 := hPd.cell (j := 5) rfl
      have f5 := hPd.frozen 5
      refine all_one (fuel := 6) (i := 3) (by kernel_rfl) rfl rfl (fun Kk hK => ?_)
      go_simp
      obtain ⟨wB, hwB⟩ : ∃ x, wd.setCell ⟨gg, 5, none⟩ (.bool true) = x := ⟨_, rfl⟩
      have hPB : Blk wB gg [.int .i64 id, c1, c2, .int .i64 v, .int .i64 (se + 1), .bool true, c6, c7, c8, c9, c10, c11, c12, .int .i64 qu] 30 := by rw [← hwB]; exact hPd.set 5 _
      have hFwB : Fr (fun b => b = gg) wd wB := by rw [← hwB]; exact Fr.set (X := fun b => b = gg) wd ⟨gg, 5, none⟩ _ rfl
      have hOB := hOd.fr hFwB (by omega)
      have hNB := hNd.fr hFwB (by omega)
      have hRB := hRd.fr hFwB (by omega)
      have bB := hFwB.below bd bd.size (fun b hb => by have hb' : b = gg := hb; omega)
      have swB := hFwB.size
      rw [hwB]
      refine hK _ _ ⟨⟨hOB, hNB⟩, ?_⟩
      clear hK Kk
      refine all_one (fuel := 5) (i := 4) (by kernel_rfl) rfl rfl (fun Kk hK => ?_)
      go_simp
      refine hK _ _ ⟨⟨hOB, hNB⟩, ?_⟩
      clear hK Kk
      refine all_one (fuel := 4) (i := 5) (by kernel_rfl) rfl rfl (fun Kk hK => ?_)
      refine wp_store_mid 28 _ _ rfl gg 6 #[z0, z1, z2, z3, z4] rfl rfl (Blk.thereAt hPB (by simp)) (by kernel_rfl) (all_oneCell_toArray HOne.out.1) ?_
      obtain ⟨wC, hwC⟩ : ∃ x, wB.setCells gg 6 [z0, z1, z2, z3, z4] = x := ⟨_, rfl⟩
      have hPC : Blk wC gg [.int .i64 id, c1, c2, .int .i64 v, .int .i64 (se + 1), .bool true, z0, z1, z2, z3, z4, c11, c12, .int .i64 qu] 30 := by rw [← hwC]; exact (((((hPB.set 6 (z0)).set 7 (z1)).set 8 (z2)).set 9 (z3)).set 10 (z4))
      have hFwC : Fr (fun b => b = gg) wB wC := by rw [← hwC]; exact Fr.sets (X := fun b => b = gg) rfl _ _ _
      have hOC := hOB.fr hFwC (by omega)
      have hNC := hNB.fr hFwC (by omega)
      have hRC := hRB.fr hFwC (by omega)
      have bC := hFwC.below bB bB.size (fun b hb => by have hb' : b = gg := hb; omega)
      have swC := hFwC.size
      rw [hwC]
      refine hK _ _ ⟨⟨hOC, hNC⟩, ?_⟩
      clear hK Kk
      refine all_one (fuel := 3) (i := 6) (by kernel_rfl) rfl rfl (fun Kk hK => ?_)
      go_simp
      refine hK _ _ ⟨⟨hOC, hNC⟩, ?_⟩
      clear hK Kk
      refine all_one (fuel := 2) (i := 7) (by kernel_rfl) rfl rfl (fun Kk hK => ?_)
      refine wp_store_mid 24 _ _ rfl gg 11 #[r0, r1] rfl rfl (Blk.thereAt hPC (by simp)) (by kernel_rfl) (all_oneCell_toArray HOne.out.2) ?_
      obtain ⟨wD, hwD⟩ : ∃ x, wC.setCells gg 11 [r0, r1] = x := ⟨_, rfl⟩
      have hPD : Blk wD gg [.int .i64 id, c1, c2, .int .i64 v, .int .i64 (se + 1), .bool true, z0, z1, z2, z3, z4, r0, r1, .int .i64 qu] 30 := by rw [← hwD]; exact ((hPC.set 11 (r0)).set 12 (r1))
      have hFwD : Fr (fun b => b = gg) wC wD := by rw [← hwD]; exact Fr.sets (X := fun b => b = gg) rfl _ _ _
      have hOD := hOC.fr hFwD (by omega)
      have hND := hNC.fr hFwD (by omega)
      have hRD := hRC.fr hFwD (by omega)
      have bD := hFwD.below bC bC.size (fun b hb => by have hb' : b = gg := hb; omega)
      have swD := hFwD.size
      rw [hwD]
      refine hK _ _ ⟨⟨hOD, hND⟩, ?_⟩
      clear hK Kk
      refine all_one (fuel := 1) (i := 8) (by kernel_rfl) rfl rfl (fun Kk hK => ?_)
      have y13 := hPD.cell (j := 13) rfl
      have f13 := hPD.frozen 13
      go_simp
      refine hK _ _ ⟨⟨hOD, hND⟩, ?_⟩
      clear hK Kk
      refine all_one (fuel := 0) (i := 9) (by kernel_rfl) rfl rfl (fun Kk hK => ?_)
      go_simp
      obtain ⟨wE, hwE⟩ : ∃ x, wD.setCell ⟨gg, 13, none⟩ (.int .i64 0) = x := ⟨_, rfl⟩
      have hPE : Blk wE gg [.int .i64 id, c1, c2, .int .i64 v, .int .i64 (se + 1), .bool true, z0, z1, z2, z3, z4, r0, r1, .int .i64 0] 30 := by rw [← hwE]; exact hPD.set 13 _
      have hFwE : Fr (fun b => b = gg) wD wE := by rw [← hwE]; exact Fr.set (X := fun b => b = gg) wD ⟨gg, 13, none⟩ _ rfl
      have hOE := hOD.fr hFwE (by omega)
      have hNE := hND.fr hFwE (by omega)
      have hRE := hRD.fr hFwE (by omega)
      have bE := hFwE.below bD bD.size (fun b hb => by have hb' : b = gg := hb; omega)
      have swE := hFwE.size
      rw [hwE]
      refine hK _ _ ⟨⟨hOE, hNE⟩, ?_⟩
      clear hK Kk
      refine wpAnyH_done (by kernel_rfl) ?_ _
      try simp only [Act.put, List.setIfInBounds_toArray, List.set_cons_zero, List.set_cons_succ, List.getElem_toArray, List.getElem_cons_zero, List.getElem_cons_succ]
      have HwE := hide hwE
      clear hwE hwD hwC hwB hwd y5 f5 y13 f13
      go_wp2_with (first | (with_reducible refine stop_load 30 rfl ?_) | (with_reducible refine stop_store 30 rfl ?_) | (with_reducible refine stop_load 24 rfl ?_) | (with_reducible refine stop_store 24 rfl ?_) | (with_reducible refine stop_load 28 rfl ?_) | (with_reducible refine stop_store 28 rfl ?_) | (with_reducible refine stop_load 58 rfl ?_) | (with_reducible refine stop_store 58 rfl ?_))
      have jE := hI.out wE bE (by omega)
      obtain ⟨wf, hwf⟩ : ∃ x, wE.drew = x := ⟨_, rfl⟩
      have hbf : Below wE.heap.size wE wf := by rw [← hwf]; exact (Below.refl _ _).drew
      have hPf := hPE.below hbf
      have hRf := hRE.below hbf
      have jf := jE.below hbf
      have bf := bE.trans (hbf.mono bE.size)
      have sf := hbf.size
      have hS0 : Blk wE.drew gg [.int .i64 id, c1, c2, .int .i64 v, .int .i64 (se + 1), .bool true, z0, z1, z2, z3, z4, r0, r1, .int .i64 0] 30 := by rw [hwf]; exact hPf
      refine wp_region_held_drew (S := fun Z => Blk Z gg [.int .i64 id, c1, c2, .int .i64 v, .int .i64 (se + 1), .bool true, z0, z1, z2, z3, z4, r0, r1, .int .i64 0] 30) (by kernel_rfl) hS0 (fun hS0 => ?_)
      refine wpAnyH_take (fuel := 11) (i := 0) (v := .agg #[.int .i64 id, c1, c2, .int .i64 v, .int .i64 (se + 1), .bool true, z0, z1, z2, z3, z4, r0, r1, .int .i64 0]) rfl (by kernel_rfl) (by kernel_rfl) (by kernel_rfl) (fun _ _ _ h => h) (yieldsIf_load_mid rfl 30 _ rfl gg 0 rfl [.int .i64 id, c1, c2, .int .i64 v, .int .i64 (se + 1), .bool true, z0, z1, z2, z3, z4, r0, r1, .int .i64 0] _ (fun w hw => hw.range) Try.underlying30 rfl (by kernel_rfl)) hS0 ?_
      refine wpAnyH_take (fuel := 10) (i := 1) (v := .agg #[.int .i64 id, c1, c2, .int .i64 v, .int .i64 (se + 1), .bool true, z0, z1, z2, z3, z4, r0, r1, .int .i64 0]) rfl (by kernel_rfl) (by kernel_rfl) (by kernel_rfl) (fun _ _ _ h => h) (yieldsIf_load_mid rfl 30 _ rfl gg 0 rfl [.int .i64 id, c1, c2, .int .i64 v, .int .i64 (se + 1), .bool true, z0, z1, z2, z3, z4, r0, r1, .int .i64 0] _ (fun w hw => hw.range) Try.underlying30 rfl (by kernel_rfl)) hS0 ?_
      refine wpAnyH_take (fuel := 9) (i := 2) (v := .pointer (some ⟨gg, 1, none⟩)) rfl (by kernel_rfl) (by kernel_rfl) (by kernel_rfl) (fun _ _ _ h => h) (Or.inl ⟨by rfl, fun Z hZ => ?_⟩) hS0 ?_
      · go_simp
      refine wpAnyH_take (fuel := 8) (i := 3) (v := .agg #[c1, c2]) rfl (by kernel_rfl) (by kernel_rfl) (by kernel_rfl) (fun _ _ _ h => h) (yieldsIf_load_mid rfl 24 _ rfl gg 1 rfl [c1, c2] _ (fun w hw => hw.part rfl) Try.underlying24 rfl (by kernel_rfl)) hS0 ?_
      refine wpAnyH_take (fuel := 7) (i := 4) (v := .pointer (some ⟨gg, 3, none⟩)) rfl (by kernel_rfl) (by kernel_rfl) (by kernel_rfl) (fun _ _ _ h => h) (Or.inl ⟨by rfl, fun Z hZ => ?_⟩) hS0 ?_
      · go_simp
      refine wpAnyH_take (fuel := 6) (i := 5) (v := .int .i64 v) rfl (by kernel_rfl) (by kernel_rfl) (by kernel_rfl) (fun _ _ _ h => h) (Or.inl ⟨by rfl, fun Z hZ => ?_⟩) hS0 ?_
      · have zz := Blk.cell hZ (j := 3) rfl; go_simp
      rw [hwf]
      refine all_one (fuel := 5) (i := 6) (by kernel_rfl) rfl rfl (fun Kk hK => ?_)
      go_simp
      go_fit (HGl.out wf bf)
      rintro e' w6 ⟨rfl, hd6⟩
      have b6 := bf.trans (hd6.mono bf.size)
      have s6 := hd6.size
      have hP6 := hPf.below hd6
      have hR6 := hRf.below hd6
      have j6 := jf.below hd6
      refine hK _ _ ⟨hP6, ?_⟩
      clear hK Kk
      refine all_one (fuel := 4) (i := 7) (by kernel_rfl) rfl rfl (fun Kk hK => ?_)
      go_simp
      go_fit (rreq_any j6 hid hpb)
      rintro e' w7 ⟨ms, rfl, iM7, hd7⟩
      obtain ⟨d0, d1, d2, d3, d4, d5, d6, d7, d8, d9, d10, d11, d12, d13, d14, d15, d16, d17, d18, d19, d20, d21, d22, d23, d24, d25, d26, d27, rfl⟩ := list_28 (iM7.len : ms.length = 28)
      have b7 := b6.trans (hd7.mono b6.size)
      have s7 := hd7.size
      have hP7 := hP6.below hd7
      have hR7 := hR6.below hd7
      have j7 := j6.below hd7
      refine hK _ _ ⟨hP7, ?_⟩
      clear hK Kk
      refine all_two (fuel := 3) (i := 8) (j := 9) (by kernel_rfl) rfl rfl rfl rfl (fun Kk hK => ?_) (fun Kk hK => ?_)
      · obtain ⟨gm, hgm⟩ : ∃ m, w7.heap.size = m := ⟨_, rfl⟩
        obtain ⟨w8, hw8⟩ : ∃ x, w7.alloc (.cells #[d0, d1, d2, d3, d4, d5, d6, d7, d8, d9, d10, d11, d12, d13, d14, d15, d16, d17, d18, d19, d20, d21, d22, d23, d24, d25, d26, d27] 58) = x := ⟨_, rfl⟩
        have hX8 : Blk w8 gm [d0, d1, d2, d3, d4, d5, d6, d7, d8, d9, d10, d11, d12, d13, d14, d15, d16, d17, d18, d19, d20, d21, d22, d23, d24, d25, d26, d27] 58 := by rw [← hw8, ← hgm]; exact Blk.new w7 _ _
        have hb8 : Below w7.heap.size w7 w8 := by rw [← hw8]; exact (Below.refl _ _).alloc (Nat.le_refl _) _
        have b8 := b7.trans (hb8.mono b7.size)
        have s8 := hb8.size
        have hP8 := hP7.below hb8
        have hR8 := hR7.below hb8
        go_simp
        try rw [hw8]
        try rw [hgm]
        have iM8 := iM7.below hb8
        have j8 := j7.below hb8
        refine hK _ _ ⟨hP8, ?_⟩
        clear hK Kk
        refine all_one (fuel := 2) (i := 9) (by kernel_rfl) rfl rfl (fun Kk hK => ?_)
        refine oper_store rfl rfl rfl rfl rfl hR8 (by kernel_rfl) rfl (us := [.int .i64 id, c1, c2, .int .i64 v, .int .i64 (se + 1), .bool true, z0, z1, z2, z3, z4, r0, r1, .int .i64 0]) j8.ones ?_
        obtain ⟨w9, hw9⟩ : ∃ x, w8.setRow (gg + 3) #[.int .i64 id, c1, c2, .int .i64 v, .int .i64 (se + 1), .bool true, z0, z1, z2, z3, z4, r0, r1, .int .i64 0] = x := ⟨_, rfl⟩
        have hF9 : Fr (fun b => b = gg + 3) w8 w9 := by rw [← hw9]; exact Fr.row (X := fun b => b = gg + 3) rfl w8 _
        have hR9 : Blk w9 (gg + 3) [.int .i64 id, c1, c2, .int .i64 v, .int .i64 (se + 1), .bool true, z0, z1, z2, z3, z4, r0, r1, .int .i64 0] 30 := by rw [← hw9]; exact hR8.setAll [.int .i64 id, c1, c2, .int .i64 v, .int .i64 (se + 1), .bool true, z0, z1, z2, z3, z4, r0, r1, .int .i64 0]
        have hP9 := hP8.fr hF9 (by omega)
        have s9 := hF9.size
        have b9 := hF9.below b8 b8.size (fun b hb => by have hb' : b = gg + 3 := hb; omega)
        rw [hw9]
        have hX9 := hX8.fr hF9 (by omega)
        have iM9 := iM8.fr hF9 (fun b hb hx => by have hx' : b = gg + 3 := hx; have hb' : b < w.heap.size := hb.2; omega)
        refine hK _ _ ⟨hP9, ?_⟩
        clear hK Kk
        refine all_one (fuel := 1) (i := 10) (by kernel_rfl) rfl rfl (fun Kk hK => ?_)
        go_simp
        refine hK _ _ ⟨hP9, ?_⟩
        clear hK Kk
        refine all_one (fuel := 0) (i := 11) (by kernel_rfl) rfl rfl (fun Kk hK => ?_)
        go_simp
        refine hK _ _ ⟨hP9, ?_⟩
        clear hK Kk
        refine wpAnyH_done (by kernel_rfl) ?_ _
        try simp only [Act.put, List.setIfInBounds_toArray, List.set_cons_zero, List.set_cons_succ, List.getElem_toArray, List.getElem_cons_zero, List.getElem_cons_succ]
        go_wp2
        refine bodyPost_ret (results_cell3 rfl rfl hR9 Try.underlying30 rfl (by kernel_rfl)) rfl ?_
        refine ⟨[.int .i64 id, c1, c2, .int .i64 v, .int .i64 (se + 1), .bool true, z0, z1, z2, z3, z4, r0, r1, .int .i64 0], some ⟨gm, 0, none⟩, 1, 1, by rw [HF.out]; (first | done | rfl), by rw [HF.out]; exact (hI.out w9 (by first | exact b9 | (rw [← hgg]; exact b9)) (by omega)).mono (fun b hb => Or.inl hb.1), by rw [HF.out]; exact row_one hX9 (iM9.mono (fun b hb => Or.inl hb.1)) (Or.inr (by first | (show w.heap.size ≤ gm; omega) | (show gg ≤ gm; omega))), by first | exact b9 | (rw [← hgg]; exact b9)⟩
      · refine oper_store rfl rfl rfl rfl rfl hR7 (by kernel_rfl) rfl (us := [.int .i64 id, c1, c2, .int .i64 v, .int .i64 (se + 1), .bool true, z0, z1, z2, z3, z4, r0, r1, .int .i64 0]) j7.ones ?_
        obtain ⟨w8, hw8⟩ : ∃ x, w7.setRow (gg + 3) #[.int .i64 id, c1, c2, .int .i64 v, .int .i64 (se + 1), .bool true, z0, z1, z2, z3, z4, r0, r1, .int .i64 0] = x := ⟨_, rfl⟩
        have hF8 : Fr (fun b => b = gg + 3) w7 w8 := by rw [← hw8]; exact Fr.row (X := fun b => b = gg + 3) rfl w7 _
        have hR8 : Blk w8 (gg + 3) [.int .i64 id, c1, c2, .int .i64 v, .int .i64 (se + 1), .bool true, z0, z1, z2, z3, z4, r0, r1, .int .i64 0] 30 := by rw [← hw8]; exact hR7.setAll [.int .i64 id, c1, c2, .int .i64 v, .int .i64 (se + 1), .bool true, z0, z1, z2, z3, z4, r0, r1, .int .i64 0]
        have hP8 := hP7.fr hF8 (by omega)
        have s8 := hF8.size
        have b8 := hF8.below b7 b7.size (fun b hb => by have hb' : b = gg + 3 := hb; omega)
        rw [hw8]
        refine hK _ _ ⟨hP8, ?_⟩
        clear hK Kk
        refine all_one (fuel := 2) (i := 8) (by kernel_rfl) rfl rfl (fun Kk hK => ?_)
        obtain ⟨gm, hgm⟩ : ∃ m, w8.heap.size = m := ⟨_, rfl⟩
        obtain ⟨w9, hw9⟩ : ∃ x, w8.alloc (.cells #[d0, d1, d2, d3, d4, d5, d6, d7, d8, d9, d10, d11, d12, d13, d14, d15, d16, d17, d18, d19, d20, d21, d22, d23, d24, d25, d26, d27] 58) = x := ⟨_, rfl⟩
        have hX9 : Blk w9 gm [d0, d1, d2, d3, d4, d5, d6, d7, d8, d9, d10, d11, d12, d13, d14, d15, d16, d17, d18, d19, d20, d21, d22, d23, d24, d25, d26, d27] 58 := by rw [← hw9, ← hgm]; exact Blk.new w8 _ _
        have hb9 : Below w8.heap.size w8 w9 := by rw [← hw9]; exact (Below.refl _ _).alloc (Nat.le_refl _) _
        have b9 := b8.trans (hb9.mono b8.size)
        have s9 := hb9.size
        have hP9 := hP8.below hb9
        have hR9 := hR8.below hb9
        go_simp
        try rw [hw9]
        try rw [hgm]
        have iM9 := (iM7.fr hF8 (fun b hb hx => by have hx' : b = gg + 3 := hx; have hb' : b < w.heap.size := hb.2; omega)).below hb9
        have j8 := j7.fr hF8 (fun b hb hx => by have hx' : b = gg + 3 := hx; have hb' : b < w.heap.size := hb.2; omega)
        refine hK _ _ ⟨hP9, ?_⟩
        clear hK Kk
        refine all_one (fuel := 1) (i := 10) (by kernel_rfl) rfl rfl (fun Kk hK => ?_)
        go_simp
        refine hK _ _ ⟨hP9, ?_⟩
        clear hK Kk
        refine all_one (fuel := 0) (i := 11) (by kernel_rfl) rfl rfl (fun Kk hK => ?_)
        go_simp
        refine hK _ _ ⟨hP9, ?_⟩
        clear hK Kk
        refine wpAnyH_done (by kernel_rfl) ?_ _
        try simp only [Act.put, List.setIfInBounds_toArray, List.set_cons_zero, List.set_cons_succ, List.getElem_toArray, List.getElem_cons_zero, List.getElem_cons_succ]
        go_wp2
        refine bodyPost_ret (results_cell3 rfl rfl hR9 Try.underlying30 rfl (by kernel_rfl)) rfl ?_
        refine ⟨[.int .i64 id, c1, c2, .int .i64 v, .int .i64 (se + 1), .bool true, z0, z1, z2, z3, z4, r0, r1, .int .i64 0], some ⟨gm, 0, none⟩, 1, 1, by rw [HF.out]; (first | done | rfl), by rw [HF.out]; exact (hI.out w9 (by first | exact b9 | (rw [← hgg]; exact b9)) (by omega)).mono (fun b hb => Or.inl hb.1), by rw [HF.out]; exact row_one hX9 (iM9.mono (fun b hb => Or.inl hb.1)) (Or.inr (by first | (show w.heap.size ≤ gm; omega) | (show gg ≤ gm; omega))), by first | exact b9 | (rw [← hgg]; exact b9)⟩
end Go.Proofs.Ytlcbelmbonaooaa
