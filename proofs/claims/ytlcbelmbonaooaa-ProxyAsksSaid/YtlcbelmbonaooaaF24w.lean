/- Stage 24: Ask and Move, as the document says (written by gen_24w.py). -/
import Derived.Test.YtlcbelmbonaooaaF24v
namespace Go.Proofs.Ytlcbelmbonaooaa
set_option maxRecDepth 20000
open Go.RowKit Go.Px Go.Maps Go.Deep
set_option linter.unusedVariables false
set_option linter.unusedSimpArgs false
set_option maxRecDepth 20000 in
set_option maxHeartbeats 12800000 in
theorem rAsk_any {w : World} {Q Q' : Nat → Prop} {x : ProxyD} {y : OpD} {cs ds : List Value} (h : tyProxy.Is w Q x cs) (h' : tyOp.Is w Q' y ds) :
    Calls Try.prog 17 #[.agg cs.toArray, .agg ds.toArray] w fun e w' => AskIs w w' (fun _ => True) (askD x y zeroG (opF y == 0)) e := by
  obtain ⟨c0, c1, c2, c3, c4, c5, c6, c7, c8, c9, c10, c11, c12, c13, rfl⟩ := list_14 (h.len : cs.length = 14)
  obtain ⟨z0, z1, z2, z3, z4, rfl⟩ := list_5 (h'.len : ds.length = 5)
  obtain ⟨ff, hff⟩ : ∃ z, opF y = z := ⟨_, rfl⟩
  rw [hff]
  have HFF := hide hff
  have Hh := hide h.low
  have Hh' := hide h'.low
  clear h h' hff
  obtain ⟨gg, hgg⟩ : ∃ g, w.heap.size = g := ⟨_, rfl⟩
  obtain ⟨w0, hw0⟩ : ∃ x, ((w.alloc (.cells #[c0, c1, c2, c3, c4, c5, c6, c7, c8, c9, c10, c11, c12, c13] 30)).alloc (.cells #[z0, z1, z2, z3, z4] 28)).alloc (.cells #[.int .i64 0, .int .i64 0, .slice none 0 0, .int .i64 0, .int .i64 0, .bool false, .int .u8 0, .int .i64 0, .int .i64 0, .slice none 0 0, .slice none 0 0, .int .i64 0, .slice none 0 0, .int .i64 0] 30) = x := ⟨_, rfl⟩
  have hP0 : Blk w0 gg [c0, c1, c2, c3, c4, c5, c6, c7, c8, c9, c10, c11, c12, c13] 30 := by rw [← hw0, ← hgg]; exact ((Blk.new w _ _).alloc _).alloc _
  have hO0 : Blk w0 (gg + 1) [z0, z1, z2, z3, z4] 28 := by
    rw [← hw0, ← hgg]
    have := Blk.new (w.alloc (.cells #[c0, c1, c2, c3, c4, c5, c6, c7, c8, c9, c10, c11, c12, c13] 30)) [z0, z1, z2, z3, z4] 28
    rw [World.size_alloc] at this
    exact this.alloc _
  have hR0 : Blk w0 (gg + 2) [.int .i64 0, .int .i64 0, .slice none 0 0, .int .i64 0, .int .i64 0, .bool false, .int .u8 0, .int .i64 0, .int .i64 0, .slice none 0 0, .slice none 0 0, .int .i64 0, .slice none 0 0, .int .i64 0] 30 := by
    rw [← hw0, ← hgg]
    have := Blk.new ((w.alloc (.cells #[c0, c1, c2, c3, c4, c5, c6, c7, c8, c9, c10, c11, c12, c13] 30)).alloc (.cells #[z0, z1, z2, z3, z4] 28)) [.int .i64 0, .int .i64 0, .slice none 0 0, .int .i64 0, .int .i64 0, .bool false, .int .u8 0, .int .i64 0, .int .i64 0, .slice none 0 0, .slice none 0 0, .int .i64 0, .slice none 0 0, .int .i64 0] 30
    rw [World.size_alloc, World.size_alloc] at this
    exact this
  have b0 : Below w.heap.size w w0 := by rw [← hw0]; exact (((Below.refl _ _).alloc (Nat.le_refl _) _).alloc (by simp) _).alloc (by simp; omega) _
  have rl := hR0.lt
  have Hw0 := hide hw0
  have s0 := b0.size
  clear hw0
  go_enter Try.func17, Try.ntmps17
  go_wp2_with (first | (with_reducible refine stop_load 30 rfl ?_) | (with_reducible refine stop_store 30 rfl ?_) | (with_reducible refine stop_load 28 rfl ?_) | (with_reducible refine stop_store 28 rfl ?_) | (with_reducible refine stop_load 49 rfl ?_) | (with_reducible refine stop_store 49 rfl ?_) | (with_reducible refine stop_load 24 rfl ?_) | (with_reducible refine stop_store 24 rfl ?_) | (with_reducible refine stop_load 58 rfl ?_) | (with_reducible refine stop_store 58 rfl ?_))
  rw [Hw0.out]
  obtain ⟨wd, hwd⟩ : ∃ x, w0.drew = x := ⟨_, rfl⟩
  have hbd : Below w0.heap.size w0 wd := by rw [← hwd]; exact (Below.refl _ _).drew
  have hPd := hP0.below hbd
  have hOd := hO0.below hbd
  have hRd := hR0.below hbd
  have bd := b0.trans (hbd.mono b0.size)
  have sd := hbd.size
  have hS0 : Blk w0.drew gg [c0, c1, c2, c3, c4, c5, c6, c7, c8, c9, c10, c11, c12, c13] 30 ∧ Blk w0.drew (gg + 1) [z0, z1, z2, z3, z4] 28 := by rw [hwd]; exact ⟨hPd, hOd⟩
  refine wp_region_held_drew (S := fun Z => Blk Z gg [c0, c1, c2, c3, c4, c5, c6, c7, c8, c9, c10, c11, c12, c13] 30 ∧ Blk Z (gg + 1) [z0, z1, z2, z3, z4] 28) (by kernel_rfl) hS0 (fun hS0 => ?_)
  refine wpAnyH_take (fuel := 12) (i := 0) (v := .agg #[c0, c1, c2, c3, c4, c5, c6, c7, c8, c9, c10, c11, c12, c13]) rfl (by kernel_rfl) (by kernel_rfl) (by kernel_rfl) (fun _ _ _ h => h) (yieldsIf_load_mid rfl 30 _ rfl gg 0 rfl [c0, c1, c2, c3, c4, c5, c6, c7, c8, c9, c10, c11, c12, c13] _ (fun w hw => hw.1.range) Try.underlying30 rfl (by kernel_rfl)) hS0 ?_
  refine wpAnyH_take (fuel := 11) (i := 1) (v := .agg #[z0, z1, z2, z3, z4]) rfl (by kernel_rfl) (by kernel_rfl) (by kernel_rfl) (fun _ _ _ h => h) (yieldsIf_load_mid rfl 28 _ rfl (gg + 1) 0 rfl [z0, z1, z2, z3, z4] _ (fun w hw => hw.2.range) Try.underlying28 rfl (by kernel_rfl)) hS0 ?_
  refine wpAnyH_take (fuel := 10) (i := 2) (v := .agg #[.int .i64 0, .slice none 0 0]) rfl (by kernel_rfl) (by kernel_rfl) (by kernel_rfl) (fun _ _ _ h => h) (Or.inl ⟨by rfl, fun Z hZ => ?_⟩) hS0 ?_
  · go_simp
  refine wpAnyH_take (fuel := 9) (i := 3) (v := .agg #[z0, z1, z2, z3, z4]) rfl (by kernel_rfl) (by kernel_rfl) (by kernel_rfl) (fun _ _ _ h => h) (yieldsIf_load_mid rfl 28 _ rfl (gg + 1) 0 rfl [z0, z1, z2, z3, z4] _ (fun w hw => hw.2.range) Try.underlying28 rfl (by kernel_rfl)) hS0 ?_
  rw [hwd]
  refine all_one (fuel := 8) (i := 4) (by kernel_rfl) rfl rfl (fun Kk hK => ?_)
  go_simp
  have hh := rform_is (Hh'.out.below bd)
  rw [HFF.out] at hh
  go_fit hh
  rintro e' w1 ⟨rfl, hd1⟩
  have b1 := bd.trans (hd1.mono bd.size)
  have s1 := hd1.size
  have hP1 := hPd.below hd1
  have hO1 := hOd.below hd1
  have hR1 := hRd.below hd1
  refine hK _ _ ⟨⟨hP1, hO1⟩, ?_⟩
  clear hK Kk
  refine wpAnyH_take (fuel := 7) (i := 5) (v := .bool (ff == 0)) rfl (by kernel_rfl) (by kernel_rfl) (by kernel_rfl) (fun _ _ _ h => h) (Or.inl ⟨by rfl, fun Z hZ => ?_⟩) ⟨hP1, hO1⟩ ?_
  · go_simp
  refine all_one (fuel := 6) (i := 6) (by kernel_rfl) rfl rfl (fun Kk hK => ?_)
  go_simp
  go_fit (rasks_any (okk := (ff == 0)) (Hh.out.below b1) (Hh'.out.below b1) (zeroG_is (w := w1) (Q := fun b => b < w.heap.size)))
  rintro e' w2 ⟨es, A, nn, cc, rfl, iD, iL, hd2⟩
  obtain ⟨e0, e1, e2, e3, e4, e5, e6, e7, e8, e9, e10, e11, e12, e13, rfl⟩ := list_14 (iD.len : es.length = 14)
  obtain ⟨er, her⟩ : ∃ z, (askD x y zeroG (ff == 0)).2.2 = z := ⟨_, rfl⟩
  rw [her]
  have b2 := b1.trans (hd2.mono b1.size)
  have s2 := hd2.size
  have hP2 := hP1.below hd2
  have hO2 := hO1.below hd2
  have hR2 := hR1.below hd2
  refine hK _ _ ⟨⟨hP2, hO2⟩, ?_⟩
  clear hK Kk
  refine wpAnyH_take (fuel := 5) (i := 7) (v := .agg #[e0, e1, e2, e3, e4, e5, e6, e7, e8, e9, e10, e11, e12, e13]) rfl (by kernel_rfl) (by kernel_rfl) (by kernel_rfl) (fun _ _ _ h => h) (Or.inl ⟨by rfl, fun Z hZ => ?_⟩) ⟨hP2, hO2⟩ ?_
  · go_simp
  refine wpAnyH_take (fuel := 4) (i := 8) (v := .slice A nn cc) rfl (by kernel_rfl) (by kernel_rfl) (by kernel_rfl) (fun _ _ _ h => h) (Or.inl ⟨by rfl, fun Z hZ => ?_⟩) ⟨hP2, hO2⟩ ?_
  · go_simp
  refine wpAnyH_take (fuel := 3) (i := 9) (v := .int .i64 er) rfl (by kernel_rfl) (by kernel_rfl) (by kernel_rfl) (fun _ _ _ h => h) (Or.inl ⟨by rfl, fun Z hZ => ?_⟩) ⟨hP2, hO2⟩ ?_
  · go_simp
  refine all_one (fuel := 2) (i := 10) (by kernel_rfl) rfl rfl (fun Kk hK => ?_)
  refine oper_store rfl rfl rfl rfl rfl hR2 (by kernel_rfl) rfl (us := [e0, e1, e2, e3, e4, e5, e6, e7, e8, e9, e10, e11, e12, e13]) iD.ones ?_
  obtain ⟨w3, hw3⟩ : ∃ x, w2.setRow (gg + 2) #[e0, e1, e2, e3, e4, e5, e6, e7, e8, e9, e10, e11, e12, e13] = x := ⟨_, rfl⟩
  have hF3 : Fr (fun b => b = gg + 2) w2 w3 := by rw [← hw3]; exact Fr.row (X := fun b => b = gg + 2) rfl w2 _
  have hR3 : Blk w3 (gg + 2) [e0, e1, e2, e3, e4, e5, e6, e7, e8, e9, e10, e11, e12, e13] 30 := by rw [← hw3]; exact hR2.setAll [e0, e1, e2, e3, e4, e5, e6, e7, e8, e9, e10, e11, e12, e13]
  have hP3 := hP2.fr hF3 (by omega)
  have hO3 := hO2.fr hF3 (by omega)
  have iD3 := iD.fr hF3 (fun b hb hx => by have hx' : b = gg + 2 := hx; have hb' : b < w.heap.size ∨ w1.heap.size ≤ b := hb; omega)
  have iL3 := iL.fr hF3 (fun b hb hx => by have hx' : b = gg + 2 := hx; have hb' : b < w.heap.size ∨ w1.heap.size ≤ b := hb; omega)
  have b3 := hF3.below b2 b2.size (fun b hb => by have hb' : b = gg + 2 := hb; omega)
  rw [hw3]
  refine hK _ _ ⟨⟨hP3, hO3⟩, ?_⟩
  clear hK Kk
  refine all_one (fuel := 1) (i := 11) (by kernel_rfl) rfl rfl (fun Kk hK => ?_)
  go_simp
  refine hK _ _ ⟨⟨hP3, hO3⟩, ?_⟩
  clear hK Kk
  refine all_one (fuel := 0) (i := 12) (by kernel_rfl) rfl rfl (fun Kk hK => ?_)
  go_simp
  refine hK _ _ ⟨⟨hP3, hO3⟩, ?_⟩
  clear hK Kk
  refine wpAnyH_done (by kernel_rfl) ?_ _
  try simp only [Act.put, List.setIfInBounds_toArray, List.set_cons_zero, List.set_cons_succ, List.getElem_toArray, List.getElem_cons_zero, List.getElem_cons_succ]
  go_wp2
  refine bodyPost_ret (results_cell3 rfl rfl hR3 Try.underlying30 rfl (by kernel_rfl)) rfl ?_
  exact ⟨[e0, e1, e2, e3, e4, e5, e6, e7, e8, e9, e10, e11, e12, e13], A, nn, cc, by rw [her]; (first | done | rfl), iD3.any, iL3.any, by first | exact b3 | (rw [← hgg]; exact b3)⟩
set_option maxRecDepth 20000 in
set_option maxHeartbeats 12800000 in
theorem rMove_any {w : World} {Q Q' : Nat → Prop} {x : ProxyD} {y : GroupD} {cs ds : List Value} (h : tyProxy.Is w Q x cs) (h' : tyGroup.Is w Q' y ds) :
    Calls Try.prog 19 #[.agg cs.toArray, .agg ds.toArray] w fun e w' => AskIs w w' (fun _ => True) (askD x zeroO y (chkE y.1 y.2 == 0)) e := by
  obtain ⟨c0, c1, c2, c3, c4, c5, c6, c7, c8, c9, c10, c11, c12, c13, rfl⟩ := list_14 (h.len : cs.length = 14)
  obtain ⟨z0, z1, rfl⟩ := list_2 (h'.len : ds.length = 2)
  obtain ⟨ff, hff⟩ : ∃ z, chkE y.1 y.2 = z := ⟨_, rfl⟩
  rw [hff]
  have HFF := hide hff
  have Hh := hide h.low
  have Hh' := hide h'.low
  clear h h' hff
  obtain ⟨gg, hgg⟩ : ∃ g, w.heap.size = g := ⟨_, rfl⟩
  obtain ⟨w0, hw0⟩ : ∃ x, ((w.alloc (.cells #[c0, c1, c2, c3, c4, c5, c6, c7, c8, c9, c10, c11, c12, c13] 30)).alloc (.cells #[z0, z1] 24)).alloc (.cells #[.int .i64 0, .int .i64 0, .slice none 0 0, .int .i64 0, .int .i64 0, .bool false, .int .u8 0, .int .i64 0, .int .i64 0, .slice none 0 0, .slice none 0 0, .int .i64 0, .slice none 0 0, .int .i64 0] 30) = x := ⟨_, rfl⟩
  have hP0 : Blk w0 gg [c0, c1, c2, c3, c4, c5, c6, c7, c8, c9, c10, c11, c12, c13] 30 := by rw [← hw0, ← hgg]; exact ((Blk.new w _ _).alloc _).alloc _
  have hO0 : Blk w0 (gg + 1) [z0, z1] 24 := by
    rw [← hw0, ← hgg]
    have := Blk.new (w.alloc (.cells #[c0, c1, c2, c3, c4, c5, c6, c7, c8, c9, c10, c11, c12, c13] 30)) [z0, z1] 24
    rw [World.size_alloc] at this
    exact this.alloc _
  have hR0 : Blk w0 (gg + 2) [.int .i64 0, .int .i64 0, .slice none 0 0, .int .i64 0, .int .i64 0, .bool false, .int .u8 0, .int .i64 0, .int .i64 0, .slice none 0 0, .slice none 0 0, .int .i64 0, .slice none 0 0, .int .i64 0] 30 := by
    rw [← hw0, ← hgg]
    have := Blk.new ((w.alloc (.cells #[c0, c1, c2, c3, c4, c5, c6, c7, c8, c9, c10, c11, c12, c13] 30)).alloc (.cells #[z0, z1] 24)) [.int .i64 0, .int .i64 0, .slice none 0 0, .int .i64 0, .int .i64 0, .bool false, .int .u8 0, .int .i64 0, .int .i64 0, .slice none 0 0, .slice none 0 0, .int .i64 0, .slice none 0 0, .int .i64 0] 30
    rw [World.size_alloc, World.size_alloc] at this
    exact this
  have b0 : Below w.heap.size w w0 := by rw [← hw0]; exact (((Below.refl _ _).alloc (Nat.le_refl _) _).alloc (by simp) _).alloc (by simp; omega) _
  have rl := hR0.lt
  have Hw0 := hide hw0
  have s0 := b0.size
  clear hw0
  go_enter Try.func19, Try.ntmps19
  go_wp2_with (first | (with_reducible refine stop_load 30 rfl ?_) | (with_reducible refine stop_store 30 rfl ?_) | (with_reducible refine stop_load 28 rfl ?_) | (with_reducible refine stop_store 28 rfl ?_) | (with_reducible refine stop_load 49 rfl ?_) | (with_reducible refine stop_store 49 rfl ?_) | (with_reducible refine stop_load 24 rfl ?_) | (with_reducible refine stop_store 24 rfl ?_) | (with_reducible refine stop_load 58 rfl ?_) | (with_reducible refine stop_store 58 rfl ?_))
  rw [Hw0.out]
  obtain ⟨wd, hwd⟩ : ∃ x, w0.drew = x := ⟨_, rfl⟩
  have hbd : Below w0.heap.size w0 wd := by rw [← hwd]; exact (Below.refl _ _).drew
  have hPd := hP0.below hbd
  have hOd := hO0.below hbd
  have hRd := hR0.below hbd
  have bd := b0.trans (hbd.mono b0.size)
  have sd := hbd.size
  have hS0 : Blk w0.drew gg [c0, c1, c2, c3, c4, c5, c6, c7, c8, c9, c10, c11, c12, c13] 30 ∧ Blk w0.drew (gg + 1) [z0, z1] 24 := by rw [hwd]; exact ⟨hPd, hOd⟩
  refine wp_region_held_drew (S := fun Z => Blk Z gg [c0, c1, c2, c3, c4, c5, c6, c7, c8, c9, c10, c11, c12, c13] 30 ∧ Blk Z (gg + 1) [z0, z1] 24) (by kernel_rfl) hS0 (fun hS0 => ?_)
  refine wpAnyH_take (fuel := 12) (i := 0) (v := .agg #[c0, c1, c2, c3, c4, c5, c6, c7, c8, c9, c10, c11, c12, c13]) rfl (by kernel_rfl) (by kernel_rfl) (by kernel_rfl) (fun _ _ _ h => h) (yieldsIf_load_mid rfl 30 _ rfl gg 0 rfl [c0, c1, c2, c3, c4, c5, c6, c7, c8, c9, c10, c11, c12, c13] _ (fun w hw => hw.1.range) Try.underlying30 rfl (by kernel_rfl)) hS0 ?_
  refine wpAnyH_take (fuel := 11) (i := 1) (v := .agg #[.int .u8 0, .int .i64 0, .int .i64 0, .slice none 0 0, .slice none 0 0]) rfl (by kernel_rfl) (by kernel_rfl) (by kernel_rfl) (fun _ _ _ h => h) (Or.inl ⟨by rfl, fun Z hZ => ?_⟩) hS0 ?_
  · go_simp
  refine wpAnyH_take (fuel := 10) (i := 2) (v := .agg #[z0, z1]) rfl (by kernel_rfl) (by kernel_rfl) (by kernel_rfl) (fun _ _ _ h => h) (yieldsIf_load_mid rfl 24 _ rfl (gg + 1) 0 rfl [z0, z1] _ (fun w hw => hw.2.range) Try.underlying24 rfl (by kernel_rfl)) hS0 ?_
  refine wpAnyH_take (fuel := 9) (i := 3) (v := .agg #[z0, z1]) rfl (by kernel_rfl) (by kernel_rfl) (by kernel_rfl) (fun _ _ _ h => h) (yieldsIf_load_mid rfl 24 _ rfl (gg + 1) 0 rfl [z0, z1] _ (fun w hw => hw.2.range) Try.underlying24 rfl (by kernel_rfl)) hS0 ?_
  rw [hwd]
  refine all_one (fuel := 8) (i := 4) (by kernel_rfl) rfl rfl (fun Kk hK => ?_)
  go_simp
  have hh := rcheck_is (Hh'.out.below bd)
  rw [HFF.out] at hh
  go_fit hh
  rintro e' w1 ⟨rfl, hd1⟩
  have b1 := bd.trans (hd1.mono bd.size)
  have s1 := hd1.size
  have hP1 := hPd.below hd1
  have hO1 := hOd.below hd1
  have hR1 := hRd.below hd1
  refine hK _ _ ⟨⟨hP1, hO1⟩, ?_⟩
  clear hK Kk
  refine wpAnyH_take (fuel := 7) (i := 5) (v := .bool (ff == 0)) rfl (by kernel_rfl) (by kernel_rfl) (by kernel_rfl) (fun _ _ _ h => h) (Or.inl ⟨by rfl, fun Z hZ => ?_⟩) ⟨hP1, hO1⟩ ?_
  · go_simp
  refine all_one (fuel := 6) (i := 6) (by kernel_rfl) rfl rfl (fun Kk hK => ?_)
  go_simp
  go_fit (rasks_any (okk := (ff == 0)) (Hh.out.below b1) (zeroO_is (w := w1) (Q := fun b => b < w.heap.size)) (Hh'.out.below b1))
  rintro e' w2 ⟨es, A, nn, cc, rfl, iD, iL, hd2⟩
  obtain ⟨e0, e1, e2, e3, e4, e5, e6, e7, e8, e9, e10, e11, e12, e13, rfl⟩ := list_14 (iD.len : es.length = 14)
  obtain ⟨er, her⟩ : ∃ z, (askD x zeroO y (ff == 0)).2.2 = z := ⟨_, rfl⟩
  rw [her]
  have b2 := b1.trans (hd2.mono b1.size)
  have s2 := hd2.size
  have hP2 := hP1.below hd2
  have hO2 := hO1.below hd2
  have hR2 := hR1.below hd2
  refine hK _ _ ⟨⟨hP2, hO2⟩, ?_⟩
  clear hK Kk
  refine wpAnyH_take (fuel := 5) (i := 7) (v := .agg #[e0, e1, e2, e3, e4, e5, e6, e7, e8, e9, e10, e11, e12, e13]) rfl (by kernel_rfl) (by kernel_rfl) (by kernel_rfl) (fun _ _ _ h => h) (Or.inl ⟨by rfl, fun Z hZ => ?_⟩) ⟨hP2, hO2⟩ ?_
  · go_simp
  refine wpAnyH_take (fuel := 4) (i := 8) (v := .slice A nn cc) rfl (by kernel_rfl) (by kernel_rfl) (by kernel_rfl) (fun _ _ _ h => h) (Or.inl ⟨by rfl, fun Z hZ => ?_⟩) ⟨hP2, hO2⟩ ?_
  · go_simp
  refine wpAnyH_take (fuel := 3) (i := 9) (v := .int .i64 er) rfl (by kernel_rfl) (by kernel_rfl) (by kernel_rfl) (fun _ _ _ h => h) (Or.inl ⟨by rfl, fun Z hZ => ?_⟩) ⟨hP2, hO2⟩ ?_
  · go_simp
  refine all_one (fuel := 2) (i := 10) (by kernel_rfl) rfl rfl (fun Kk hK => ?_)
  refine oper_store rfl rfl rfl rfl rfl hR2 (by kernel_rfl) rfl (us := [e0, e1, e2, e3, e4, e5, e6, e7, e8, e9, e10, e11, e12, e13]) iD.ones ?_
  obtain ⟨w3, hw3⟩ : ∃ x, w2.setRow (gg + 2) #[e0, e1, e2, e3, e4, e5, e6, e7, e8, e9, e10, e11, e12, e13] = x := ⟨_, rfl⟩
  have hF3 : Fr (fun b => b = gg + 2) w2 w3 := by rw [← hw3]; exact Fr.row (X := fun b => b = gg + 2) rfl w2 _
  have hR3 : Blk w3 (gg + 2) [e0, e1, e2, e3, e4, e5, e6, e7, e8, e9, e10, e11, e12, e13] 30 := by rw [← hw3]; exact hR2.setAll [e0, e1, e2, e3, e4, e5, e6, e7, e8, e9, e10, e11, e12, e13]
  have hP3 := hP2.fr hF3 (by omega)
  have hO3 := hO2.fr hF3 (by omega)
  have iD3 := iD.fr hF3 (fun b hb hx => by have hx' : b = gg + 2 := hx; have hb' : b < w.heap.size ∨ w1.heap.size ≤ b := hb; omega)
  have iL3 := iL.fr hF3 (fun b hb hx => by have hx' : b = gg + 2 := hx; have hb' : b < w.heap.size ∨ w1.heap.size ≤ b := hb; omega)
  have b3 := hF3.below b2 b2.size (fun b hb => by have hb' : b = gg + 2 := hb; omega)
  rw [hw3]
  refine hK _ _ ⟨⟨hP3, hO3⟩, ?_⟩
  clear hK Kk
  refine all_one (fuel := 1) (i := 11) (by kernel_rfl) rfl rfl (fun Kk hK => ?_)
  go_simp
  refine hK _ _ ⟨⟨hP3, hO3⟩, ?_⟩
  clear hK Kk
  refine all_one (fuel := 0) (i := 12) (by kernel_rfl) rfl rfl (fun Kk hK => ?_)
  go_simp
  refine hK _ _ ⟨⟨hP3, hO3⟩, ?_⟩
  clear hK Kk
  refine wpAnyH_done (by kernel_rfl) ?_ _
  try simp only [Act.put, List.setIfInBounds_toArray, List.set_cons_zero, List.set_cons_succ, List.getElem_toArray, List.getElem_cons_zero, List.getElem_cons_succ]
  go_wp2
  refine bodyPost_ret (results_cell3 rfl rfl hR3 Try.underlying30 rfl (by kernel_rfl)) rfl ?_
  exact ⟨[e0, e1, e2, e3, e4, e5, e6, e7, e8, e9, e10, e11, e12, e13], A, nn, cc, by rw [her]; (first | done | rfl), iD3.any, iL3.any, by first | exact b3 | (rw [← hgg]; exact b3)⟩
end Go.Proofs.Ytlcbelmbonaooaa
