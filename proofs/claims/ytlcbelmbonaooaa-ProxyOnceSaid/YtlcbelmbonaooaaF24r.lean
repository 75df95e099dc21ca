/- Stage 24: what is an answer, what is news (written by gen_24r.py). -/
import Derived.Test.YtlcbelmbonaooaaF24o
namespace Go.Proofs.Ytlcbelmbonaooaa
set_option maxRecDepth 20000
open Go.RowKit Go.Px Go.Maps Go.Deep
set_option linter.unusedVariables false
set_option linter.unusedSimpArgs false
theorem Msg_bds {w : World} {Q : Nat → Prop} {k : Nat} {f t e v nu cm no : Int} {nc : Nat} {cl se : Int} {o : OpD} {r : ResultD} {g : GroupD} {s : StateD} {l : List EntryD} {cs : List Value} (h : tyMsg.Is w Q (k, f, t, e, v, nu, cm, no, nc, cl, se, o, r, g, s, l) cs) : k < 256 ∧ (-9223372036854775808 ≤ v ∧ v ≤ 9223372036854775807) := by
  obtain ⟨c0, c1, c2, c3, c4, c5, c6, c7, c8, c9, c10, c11, c12, c13, c14, c15, c16, c17, c18, c19, c20, c21, c22, c23, c24, c25, c26, c27, rfl⟩ := list_28 (h.len : cs.length = 28)
  exact ⟨h.1.2, h.2.2.2.2.1.2⟩
/-- Is a message the answer? -/
def ansB : ProxyD → MsgD → Bool
  | (id, g, v, se, bu, o, n, qu), (k, f, t, e, mv, nu, cm, no, nc, cl, ms, mo, r, mg, s, l) => bu && ((ms == se) && ((cl == id) && (decide (e ≤ g.1) && ((r.1 : Int) != 0))))
/-- Does it tell a later group? -/
def newB : ProxyD → MsgD → Bool
  | (id, g, v, se, bu, o, n, qu), (k, f, t, e, mv, nu, cm, no, nc, cl, ms, mo, r, mg, s, l) => grK mg && ((mg.1 == e) && decide (g.1 < e))
/-- The client behind its answer. -/
def endD : ProxyD → MsgD → ProxyD
  | (id, g, v, se, bu, o, n, qu), (k, f, t, e, mv, nu, cm, no, nc, cl, ms, mo, r, mg, s, l) => (id, g, if (e == g.1) = true then max v mv else v, se, false, zeroO, zeroG, qu)
theorem results_cell4 {P : Program} {w : World} {fn : Func} {t t2 t3 t4 : Tmp} {T T3 : TypeId} (h : fn.results = #[.cell t T, .tmp t2, .cell t3 T3, .tmp t4]) {tmps : Array Value} {b b3 : Nat} (hx : tmps.getD t undef = .pointer (some ⟨b, 0, none⟩)) (hx3 : tmps.getD t3 undef = .pointer (some ⟨b3, 0, none⟩)) {vs us : List Value} {B B3 : TypeId} {d d3 : TypeDesc} (hc : Blk w b vs B) (hc3 : Blk w b3 us B3)
    (hu : P.underlying T = some d) (hd : d.isRow = true) (hi : (P.info? T).map (·.size) = some vs.length) (hu3 : P.underlying T3 = some d3) (hd3 : d3.isRow = true) (hi3 : (P.info? T3).map (·.size) = some us.length) : (results fn tmps).run P w = .ok (.tuple #[.agg vs.toArray, tmps.getD t2 undef, .agg us.toArray, tmps.getD t4 undef]) w := by
  have h1 := run_loadVar_mid (P := P) w b 0 T vs d hc.range hu hd hi
  have h3 := run_loadVar_mid (P := P) w b3 0 T3 us d3 hc3.range hu3 hd3 hi3
  have hx' : (tmps[t]?).getD undef = .pointer (some ⟨b, 0, none⟩) := by rw [← hx]; simp [Array.getD_eq_getD_getElem?]
  have hx3' : (tmps[t3]?).getD undef = .pointer (some ⟨b3, 0, none⟩) := by rw [← hx3]; simp [Array.getD_eq_getD_getElem?]
  simp [results, h, hx', hx3', asAddr, h1, h3]
set_option maxRecDepth 20000 in
set_option maxHeartbeats 12800000 in
theorem answers_is {w : World} {Q Q' : Nat → Prop} {x : ProxyD} {y : MsgD} {cs ds : List Value} (h : tyProxy.Is w Q x cs) (h' : tyMsg.Is w Q' y ds) :
    Calls Try.prog 46 #[.agg cs.toArray, .agg ds.toArray] w fun e w' => e = .returned (.bool (ansB x y)) ∧ Below w.heap.size w w' := by
  obtain ⟨id, ⟨ge, gm⟩, v, se, bu, o, n, qu, c1, c2, c6, c7, c8, c9, c10, c11, c12, rfl, rfl, b1, b2, b3, b4, hg, ho, hn⟩ := Proxy_parts h
  obtain ⟨gA, gn, gc, rfl, rfl, gb, gl1, gl2, gl3, gl4, gl5⟩ := Group_cells hg
  obtain ⟨k, f, t, e, mv, nu, cm, no, nc, cl, ms, mo, ⟨rk, rd⟩, ⟨me, mm⟩, s, l, m11, m12, m13, m14, m15, m16, m17, m18, m19, m20, m21, m22, m23, m24, m25, m26, m27, rfl, rfl, ko, kr, kg, ks, kl, KM⟩ := Msg_parts h'
  obtain ⟨rA, rn, rc, rfl, rfl, rb, rl1, rl2, rl3, rl4⟩ := Result_cells kr
  obtain ⟨mA, mn, mc, rfl, rfl, mb, ml1, ml2, ml3, ml4, ml5⟩ := Group_cells kg
  simp only at gb gl1 gl2 gl3 gl4 gl5 rb rl1 rl2 rl3 rl4 mb ml1 ml2 ml3 ml4 ml5
  have HV := hide (show ansB (id, (ge, gm), v, se, bu, o, n, qu) (k, f, t, e, mv, nu, cm, no, nc, cl, ms, mo, (rk, rd), (me, mm), s, l) = (bu && ((ms == se) && ((cl == id) && (decide (e ≤ ge) && ((rk : Int) != 0))))) from rfl)
  clear h h' hg ho hn gl1 gl2 gl3 gl4 gl5 ko kr kg ks kl KM rl1 rl2 rl3 rl4 ml1 ml2 ml3 ml4 ml5 b1 b2 b3 b4 gb rb mb
  obtain ⟨gg, hgg⟩ : ∃ g, w.heap.size = g := ⟨_, rfl⟩
  obtain ⟨w0, hw0⟩ : ∃ x, (w.alloc (.cells #[.int .i64 id, .int .i64 ge, .slice gA gn gc, .int .i64 v, .int .i64 se, .bool bu, c6, c7, c8, c9, c10, c11, c12, .int .i64 qu] 30)).alloc (.cells #[.int .u8 k, .int .i64 f, .int .i64 t, .int .i64 e, .int .i64 mv, .int .i64 nu, .int .i64 cm, .int .i64 no, .int .u64 nc, .int .i64 cl, .int .i64 ms, m11, m12, m13, m14, m15, .int .u8 rk, .slice rA rn rc, .int .i64 me, .slice mA mn mc, m20, m21, m22, m23, m24, m25, m26, m27] 58) = x := ⟨_, rfl⟩
  have hP0 : Blk w0 gg [.int .i64 id, .int .i64 ge, .slice gA gn gc, .int .i64 v, .int .i64 se, .bool bu, c6, c7, c8, c9, c10, c11, c12, .int .i64 qu] 30 := by rw [← hw0, ← hgg]; exact (Blk.new w _ _).alloc _
  have hM0 : Blk w0 (gg + 1) [.int .u8 k, .int .i64 f, .int .i64 t, .int .i64 e, .int .i64 mv, .int .i64 nu, .int .i64 cm, .int .i64 no, .int .u64 nc, .int .i64 cl, .int .i64 ms, m11, m12, m13, m14, m15, .int .u8 rk, .slice rA rn rc, .int .i64 me, .slice mA mn mc, m20, m21, m22, m23, m24, m25, m26, m27] 58 := by
    rw [← hw0, ← hgg]
    have := Blk.new (w.alloc (.cells #[.int .i64 id, .int .i64 ge, .slice gA gn gc, .int .i64 v, .int .i64 se, .bool bu, c6, c7, c8, c9, c10, c11, c12, .int .i64 qu] 30)) [.int .u8 k, .int .i64 f, .int .i64 t, .int .i64 e, .int .i64 mv, .int .i64 nu, .int .i64 cm, .int .i64 no, .int .u64 nc, .int .i64 cl, .int .i64 ms, m11, m12, m13, m14, m15, .int .u8 rk, .slice rA rn rc, .int .i64 me, .slice mA mn mc, m20, m21, m22, m23, m24, m25, m26, m27] 58
    rwa [World.size_alloc] at this
  have b0 : Below w.heap.size w w0 := by rw [← hw0]; exact ((Below.refl _ _).alloc (Nat.le_refl _) _).alloc (by simp) _
  have ml := hM0.lt
  have Hw0 := hide hw0
  have s0 := b0.size
  clear hw0
  have y0 := hP0.cell (j := 0) rfl; have y1 := hP0.cell (j := 1) rfl; have y4 := hP0.cell (j := 4) rfl; have y5 := hP0.cell (j := 5) rfl
  have z3 := hM0.cell (j := 3) rfl; have z9 := hM0.cell (j := 9) rfl; have z10 := hM0.cell (j := 10) rfl; have z16 := hM0.cell (j := 16) rfl
  cases bu with
  | false =>
    have HR := hide (show ansB (id, (ge, gm), v, se, false, o, n, qu) (k, f, t, e, mv, nu, cm, no, nc, cl, ms, mo, (rk, rd), (me, mm), s, l) = false by rw [HV.out]; rfl)
    go_enter Try.func46, Try.ntmps46
    go_wp2
    go_ret
    exact ⟨by rw [HR.out]; (first | done | rfl), by first | exact b0 | (rw [Hw0.out]; exact b0)⟩
  | true =>
    rcases bool_two (ms == se) with q2 | q2
    rotate_left
    · have HR := hide (show ansB (id, (ge, gm), v, se, true, o, n, qu) (k, f, t, e, mv, nu, cm, no, nc, cl, ms, mo, (rk, rd), (me, mm), s, l) = false by rw [HV.out]; simp only [q2, Bool.true_and, Bool.false_and])
      go_enter Try.func46, Try.ntmps46
      go_wp2
      go_ret
      exact ⟨by rw [HR.out]; (first | done | rfl), by first | exact b0 | (rw [Hw0.out]; exact b0)⟩
    rcases bool_two (cl == id) with q3 | q3
    rotate_left
    · have HR := hide (show ansB (id, (ge, gm), v, se, true, o, n, qu) (k, f, t, e, mv, nu, cm, no, nc, cl, ms, mo, (rk, rd), (me, mm), s, l) = false by rw [HV.out]; simp only [q2, q3, Bool.true_and, Bool.false_and])
      go_enter Try.func46, Try.ntmps46
      go_wp2
      go_ret
      exact ⟨by rw [HR.out]; (first | done | rfl), by first | exact b0 | (rw [Hw0.out]; exact b0)⟩
    rcases bool_two (decide (e ≤ ge)) with q4 | q4
    rotate_left
    · have HR := hide (show ansB (id, (ge, gm), v, se, true, o, n, qu) (k, f, t, e, mv, nu, cm, no, nc, cl, ms, mo, (rk, rd), (me, mm), s, l) = false by rw [HV.out]; simp only [q2, q3, q4, Bool.true_and, Bool.false_and])
      go_enter Try.func46, Try.ntmps46
      go_wp2
      go_ret
      exact ⟨by rw [HR.out]; (first | done | rfl), by first | exact b0 | (rw [Hw0.out]; exact b0)⟩
    rcases bool_two ((rk : Int) != 0) with q5 | q5
    rotate_left
    · have HR := hide (show ansB (id, (ge, gm), v, se, true, o, n, qu) (k, f, t, e, mv, nu, cm, no, nc, cl, ms, mo, (rk, rd), (me, mm), s, l) = false by rw [HV.out]; simp only [q2, q3, q4, q5, Bool.true_and, Bool.false_and])
      go_enter Try.func46, Try.ntmps46
      go_wp2
      go_ret
      exact ⟨by rw [HR.out]; (first | done | rfl), by first | exact b0 | (rw [Hw0.out]; exact b0)⟩
    have HR := hide (show ansB (id, (ge, gm), v, se, true, o, n, qu) (k, f, t, e, mv, nu, cm, no, nc, cl, ms, mo, (rk, rd), (me, mm), s, l) = true by rw [HV.out]; simp only [q2, q3, q4, q5, Bool.true_and])
    go_enter Try.func46, Try.ntmps46
    go_wp2
    go_ret
    exact ⟨by rw [HR.out]; (first | done | rfl), by first | exact b0 | (rw [Hw0.out]; exact b0)⟩
set_option maxRecDepth 20000 in
set_option maxHeartbeats 12800000 in
theorem newer_is {w : World} {Q Q' : Nat → Prop} {x : ProxyD} {y : MsgD} {cs ds : List Value} (h : tyProxy.Is w Q x cs) (h' : tyMsg.Is w Q' y ds) :
    Calls Try.prog 49 #[.agg cs.toArray, .agg ds.toArray] w fun e w' => e = .returned (.bool (newB x y)) ∧ Below w.heap.size w w' := by
  obtain ⟨id, ⟨ge, gm⟩, v, se, bu, o, n, qu, c1, c2, c6, c7, c8, c9, c10, c11, c12, rfl, rfl, b1, b2, b3, b4, hg, ho, hn⟩ := Proxy_parts h
  obtain ⟨gA, gn, gc, rfl, rfl, gb, gl1, gl2, gl3, gl4, gl5⟩ := Group_cells hg
  obtain ⟨k, f, t, e, mv, nu, cm, no, nc, cl, ms, mo, ⟨rk, rd⟩, ⟨me, mm⟩, s, l, m11, m12, m13, m14, m15, m16, m17, m18, m19, m20, m21, m22, m23, m24, m25, m26, m27, rfl, rfl, ko, kr, kg, ks, kl, KM⟩ := Msg_parts h'
  obtain ⟨rA, rn, rc, rfl, rfl, rb, rl1, rl2, rl3, rl4⟩ := Result_cells kr
  obtain ⟨mA, mn, mc, rfl, rfl, mb, ml1, ml2, ml3, ml4, ml5⟩ := Group_cells kg
  simp only at gb gl1 gl2 gl3 gl4 gl5 rb rl1 rl2 rl3 rl4 mb ml1 ml2 ml3 ml4 ml5
  obtain ⟨mk, hmk⟩ : ∃ b, grK (me, mm) = b := ⟨_, rfl⟩
  have HV := hide (show newB (id, (ge, gm), v, se, bu, o, n, qu) (k, f, t, e, mv, nu, cm, no, nc, cl, ms, mo, (rk, rd), (me, mm), s, l) = (mk && ((me == e) && decide (ge < e))) by rw [← hmk]; rfl)
  have Hmk := hide hmk
  have HG := hide (fun W (hW : Below w.heap.size w W) => mayGroup_is (kg.below hW))
  clear hmk
  clear h h' hg ho hn gl1 gl2 gl3 gl4 gl5 ko kr kg ks kl KM rl1 rl2 rl3 rl4 ml1 ml2 ml3 ml4 ml5 b1 b2 b3 b4 gb rb mb
  obtain ⟨gg, hgg⟩ : ∃ g, w.heap.size = g := ⟨_, rfl⟩
  obtain ⟨w0, hw0⟩ : ∃ x, (w.alloc (.cells #[.int .i64 id, .int .i64 ge, .slice gA gn gc, .int .i64 v, .int .i64 se, .bool bu, c6, c7, c8, c9, c10, c11, c12, .int .i64 qu] 30)).alloc (.cells #[.int .u8 k, .int .i64 f, .int .i64 t, .int .i64 e, .int .i64 mv, .int .i64 nu, .int .i64 cm, .int .i64 no, .int .u64 nc, .int .i64 cl, .int .i64 ms, m11, m12, m13, m14, m15, .int .u8 rk, .slice rA rn rc, .int .i64 me, .slice mA mn mc, m20, m21, m22, m23, m24, m25, m26, m27] 58) = x := ⟨_, rfl⟩
  have hP0 : Blk w0 gg [.int .i64 id, .int .i64 ge, .slice gA gn gc, .int .i64 v, .int .i64 se, .bool bu, c6, c7, c8, c9, c10, c11, c12, .int .i64 qu] 30 := by rw [← hw0, ← hgg]; exact (Blk.new w _ _).alloc _
  have hM0 : Blk w0 (gg + 1) [.int .u8 k, .int .i64 f, .int .i64 t, .int .i64 e, .int .i64 mv, .int .i64 nu, .int .i64 cm, .int .i64 no, .int .u64 nc, .int .i64 cl, .int .i64 ms, m11, m12, m13, m14, m15, .int .u8 rk, .slice rA rn rc, .int .i64 me, .slice mA mn mc, m20, m21, m22, m23, m24, m25, m26, m27] 58 := by
    rw [← hw0, ← hgg]
    have := Blk.new (w.alloc (.cells #[.int .i64 id, .int .i64 ge, .slice gA gn gc, .int .i64 v, .int .i64 se, .bool bu, c6, c7, c8, c9, c10, c11, c12, .int .i64 qu] 30)) [.int .u8 k, .int .i64 f, .int .i64 t, .int .i64 e, .int .i64 mv, .int .i64 nu, .int .i64 cm, .int .i64 no, .int .u64 nc, .int .i64 cl, .int .i64 ms, m11, m12, m13, m14, m15, .int .u8 rk, .slice rA rn rc, .int .i64 me, .slice mA mn mc, m20, m21, m22, m23, m24, m25, m26, m27] 58
    rwa [World.size_alloc] at this
  have b0 : Below w.heap.size w w0 := by rw [← hw0]; exact ((Below.refl _ _).alloc (Nat.le_refl _) _).alloc (by simp) _
  have ml := hM0.lt
  have Hw0 := hide hw0
  have s0 := b0.size
  clear hw0
  have y1 := hP0.cell (j := 1) rfl
  have z3 := hM0.cell (j := 3) rfl; have z18 := hM0.cell (j := 18) rfl
  go_enter Try.func49, Try.ntmps49
  go_wp2_with (first | (with_reducible refine stop_load 30 rfl ?_) | (with_reducible refine stop_load 28 rfl ?_) | (with_reducible refine stop_load 49 rfl ?_) | (with_reducible refine stop_load 24 rfl ?_) | (with_reducible refine stop_load 58 rfl ?_))
  rw [Hw0.out]
  refine go_loadG rfl rfl (k := 18) rfl hM0 [.int .i64 me, .slice mA mn mc] rfl Try.underlying24 rfl (by kernel_rfl) ?_
  go_wp2_with (first | (with_reducible refine stop_load 30 rfl ?_) | (with_reducible refine stop_load 28 rfl ?_) | (with_reducible refine stop_load 49 rfl ?_) | (with_reducible refine stop_load 24 rfl ?_) | (with_reducible refine stop_load 58 rfl ?_))
  go_fit (HG.out w0 b0)
  rw [Hmk.out]
  rintro xx w1 ⟨rfl, hd1⟩
  have hP1 := hP0.below hd1
  have hM1 := hM0.below hd1
  have y1 := hP1.cell (j := 1) rfl
  have z3 := hM1.cell (j := 3) rfl
  have z18 := hM1.cell (j := 18) rfl

  cases mk with
  | false =>
    have HR := hide (show newB (id, (ge, gm), v, se, bu, o, n, qu) (k, f, t, e, mv, nu, cm, no, nc, cl, ms, mo, (rk, rd), (me, mm), s, l) = false by rw [HV.out]; rfl)
    go_wp2
    go_ret
    exact ⟨by rw [HR.out]; (first | done | rfl), b0.trans (hd1.mono s0)⟩
  | true =>
    rcases bool_two (me == e) with q2 | q2
    rotate_left
    · have HR := hide (show newB (id, (ge, gm), v, se, bu, o, n, qu) (k, f, t, e, mv, nu, cm, no, nc, cl, ms, mo, (rk, rd), (me, mm), s, l) = false by rw [HV.out]; simp only [q2, Bool.true_and, Bool.false_and])
      go_wp2
      go_ret
      exact ⟨by rw [HR.out]; (first | done | rfl), b0.trans (hd1.mono s0)⟩
    rcases bool_two (decide (ge < e)) with q3 | q3
    rotate_left
    · have HR := hide (show newB (id, (ge, gm), v, se, bu, o, n, qu) (k, f, t, e, mv, nu, cm, no, nc, cl, ms, mo, (rk, rd), (me, mm), s, l) = false by rw [HV.out]; simp only [q2, q3, Bool.true_and, Bool.false_and])
      go_wp2
      go_ret
      exact ⟨by rw [HR.out]; (first | done | rfl), b0.trans (hd1.mono s0)⟩
    have HR := hide (show newB (id, (ge, gm), v, se, bu, o, n, qu) (k, f, t, e, mv, nu, cm, no, nc, cl, ms, mo, (rk, rd), (me, mm), s, l) = true by rw [HV.out]; simp only [q2, q3, Bool.true_and])
    go_wp2
    go_ret
    exact ⟨by rw [HR.out]; (first | done | rfl), b0.trans (hd1.mono s0)⟩
set_option maxRecDepth 20000 in
set_option maxHeartbeats 12800000 in
theorem ended_is {w : World} {Q Q' : Nat → Prop} {x : ProxyD} {y : MsgD} {cs ds : List Value} (h : tyProxy.Is w Q x cs) (h' : tyMsg.Is w Q' y ds) :
    Calls Try.prog 47 #[.agg cs.toArray, .agg ds.toArray] w fun e w' => ∃ es, e = .returned (.agg es.toArray) ∧ tyProxy.Is w' Q (endD x y) es ∧ Below w.heap.size w w' := by
  obtain ⟨id, ⟨ge, gm⟩, v, se, bu, o, n, qu, c1, c2, c6, c7, c8, c9, c10, c11, c12, rfl, rfl, b1, b2, b3, b4, hg, ho, hn⟩ := Proxy_parts h
  obtain ⟨gA, gn, gc, rfl, rfl, gb, gl1, gl2, gl3, gl4, gl5⟩ := Group_cells hg
  have hMb : ∀ {k f t e v nu cm no nc cl se o r g s l}, y = (k, f, t, e, v, nu, cm, no, nc, cl, se, o, r, g, s, l) → (-9223372036854775808 ≤ v ∧ v ≤ 9223372036854775807) := fun he => (Msg_bds (he ▸ h')).2
  obtain ⟨k, f, t, e, mv, nu, cm, no, nc, cl, ms, mo, ⟨rk, rd⟩, ⟨me, mm⟩, s, l, m11, m12, m13, m14, m15, m16, m17, m18, m19, m20, m21, m22, m23, m24, m25, m26, m27, rfl, rfl, ko, kr, kg, ks, kl, KM⟩ := Msg_parts h'
  obtain ⟨rA, rn, rc, rfl, rfl, rb, rl1, rl2, rl3, rl4⟩ := Result_cells kr
  obtain ⟨mA, mn, mc, rfl, rfl, mb, ml1, ml2, ml3, ml4, ml5⟩ := Group_cells kg
  simp only at gb gl1 gl2 gl3 gl4 gl5 rb rl1 rl2 rl3 rl4 mb ml1 ml2 ml3 ml4 ml5
  have hvb := hMb rfl
  clear hMb
  have HI := hide (fun (W : World) (hW : Below w.heap.size w W) (u : Int) (hu : -9223372036854775808 ≤ u ∧ u ≤ 9223372036854775807) => (Proxy_shut (bu := false) b1 hu b3 b4 (hg.here.below hW) (zeroO_is (w := W) (Q := fun b => Q b ∧ b < w.heap.size)) (zeroG_is (w := W) (Q := fun b => Q b ∧ b < w.heap.size)) : tyProxy.Is W (fun b => Q b ∧ b < w.heap.size) (id, (ge, gm), u, se, false, zeroO, zeroG, qu) [.int .i64 id, .int .i64 ge, .slice gA gn gc, .int .i64 u, .int .i64 se, .bool false, .int .u8 0, .int .i64 0, .int .i64 0, .slice none 0 0, .slice none 0 0, .int .i64 0, .slice none 0 0, .int .i64 qu]))
  have hv2 := hide b2
  clear h h' hg ho hn gl1 gl2 gl3 gl4 gl5 ko kr kg ks kl KM rl1 rl2 rl3 rl4 ml1 ml2 ml3 ml4 ml5 b1 b2 b3 b4 gb rb mb
  obtain ⟨gg, hgg⟩ : ∃ g, w.heap.size = g := ⟨_, rfl⟩
  obtain ⟨w0, hw0⟩ : ∃ x, ((w.alloc (.cells #[.int .i64 id, .int .i64 ge, .slice gA gn gc, .int .i64 v, .int .i64 se, .bool false, c6, c7, c8, c9, c10, c11, c12, .int .i64 qu] 30)).alloc (.cells #[.int .u8 k, .int .i64 f, .int .i64 t, .int .i64 e, .int .i64 mv, .int .i64 nu, .int .i64 cm, .int .i64 no, .int .u64 nc, .int .i64 cl, .int .i64 ms, m11, m12, m13, m14, m15, .int .u8 rk, .slice rA rn rc, .int .i64 me, .slice mA mn mc, m20, m21, m22, m23, m24, m25, m26, m27] 58)).alloc (.cells #[.int .i64 0, .int .i64 0, .slice none 0 0, .int .i64 0, .int .i64 0, .bool false, .int .u8 0, .int .i64 0, .int .i64 0, .slice none 0 0, .slice none 0 0, .int .i64 0, .slice none 0 0, .int .i64 0] 30) = x := ⟨_, rfl⟩
  have hP0 : Blk w0 gg [.int .i64 id, .int .i64 ge, .slice gA gn gc, .int .i64 v, .int .i64 se, .bool false, c6, c7, c8, c9, c10, c11, c12, .int .i64 qu] 30 := by rw [← hw0, ← hgg]; exact ((Blk.new w _ _).alloc _).alloc _
  have hM0 : Blk w0 (gg + 1) [.int .u8 k, .int .i64 f, .int .i64 t, .int .i64 e, .int .i64 mv, .int .i64 nu, .int .i64 cm, .int .i64 no, .int .u64 nc, .int .i64 cl, .int .i64 ms, m11, m12, m13, m14, m15, .int .u8 rk, .slice rA rn rc, .int .i64 me, .slice mA mn mc, m20, m21, m22, m23, m24, m25, m26, m27] 58 := by
    rw [← hw0, ← hgg]
    have := Blk.new (w.alloc (.cells #[.int .i64 id, .int .i64 ge, .slice gA gn gc, .int .i64 v, .int .i64 se, .bool false, c6, c7, c8, c9, c10, c11, c12, .int .i64 qu] 30)) [.int .u8 k, .int .i64 f, .int .i64 t, .int .i64 e, .int .i64 mv, .int .i64 nu, .int .i64 cm, .int .i64 no, .int .u64 nc, .int .i64 cl, .int .i64 ms, m11, m12, m13, m14, m15, .int .u8 rk, .slice rA rn rc, .int .i64 me, .slice mA mn mc, m20, m21, m22, m23, m24, m25, m26, m27] 58
    rw [World.size_alloc] at this
    exact this.alloc _
  have hZ0 : Blk w0 (gg + 2) [.int .i64 0, .int .i64 0, .slice none 0 0, .int .i64 0, .int .i64 0, .bool false, .int .u8 0, .int .i64 0, .int .i64 0, .slice none 0 0, .slice none 0 0, .int .i64 0, .slice none 0 0, .int .i64 0] 30 := by
    rw [← hw0, ← hgg]
    have := Blk.new ((w.alloc (.cells #[.int .i64 id, .int .i64 ge, .slice gA gn gc, .int .i64 v, .int .i64 se, .bool false, c6, c7, c8, c9, c10, c11, c12, .int .i64 qu] 30)).alloc (.cells #[.int .u8 k, .int .i64 f, .int .i64 t, .int .i64 e, .int .i64 mv, .int .i64 nu, .int .i64 cm, .int .i64 no, .int .u64 nc, .int .i64 cl, .int .i64 ms, m11, m12, m13, m14, m15, .int .u8 rk, .slice rA rn rc, .int .i64 me, .slice mA mn mc, m20, m21, m22, m23, m24, m25, m26, m27] 58)) [.int .i64 0, .int .i64 0, .slice none 0 0, .int .i64 0, .int .i64 0, .bool false, .int .u8 0, .int .i64 0, .int .i64 0, .slice none 0 0, .slice none 0 0, .int .i64 0, .slice none 0 0, .int .i64 0] 30
    rw [World.size_alloc, World.size_alloc] at this
    exact this
  have b0 : Below w.heap.size w w0 := by rw [← hw0]; exact (((Below.refl _ _).alloc (Nat.le_refl _) _).alloc (by simp) _).alloc (by simp; omega) _
  have zl := hZ0.lt
  have ml := hM0.lt
  have Hw0 := hide hw0
  have s0 := b0.size
  clear hw0
  go_enter Try.func47, Try.ntmps47
  go_wp2_with (first | (with_reducible refine stop_load 30 rfl ?_) | (with_reducible refine stop_store 30 rfl ?_) | (with_reducible refine stop_load 28 rfl ?_) | (with_reducible refine stop_store 28 rfl ?_) | (with_reducible refine stop_load 49 rfl ?_) | (with_reducible refine stop_store 49 rfl ?_) | (with_reducible refine stop_load 24 rfl ?_) | (with_reducible refine stop_store 24 rfl ?_) | (with_reducible refine stop_load 58 rfl ?_) | (with_reducible refine stop_store 58 rfl ?_))
  rw [Hw0.out]
  refine go_storeM rfl rfl rfl (k := 6) rfl hP0 [.int .u8 0, .int .i64 0, .int .i64 0, .slice none 0 0, .slice none 0 0] rfl (by simp) (by kernel_rfl) (zeroO_is (w := w) (Q := fun _ => True)).ones ?_
  obtain ⟨wB, hwB⟩ : ∃ x, w0.setCells gg 6 [.int .u8 0, .int .i64 0, .int .i64 0, .slice none 0 0, .slice none 0 0] = x := ⟨_, rfl⟩
  have hPB : Blk wB gg [.int .i64 id, .int .i64 ge, .slice gA gn gc, .int .i64 v, .int .i64 se, .bool false, .int .u8 0, .int .i64 0, .int .i64 0, .slice none 0 0, .slice none 0 0, c11, c12, .int .i64 qu] 30 := by rw [← hwB]; exact (((((hP0.set 6 (.int .u8 0)).set 7 (.int .i64 0)).set 8 (.int .i64 0)).set 9 (.slice none 0 0)).set 10 (.slice none 0 0))
  have hFB : Fr (fun b => b = gg) w0 wB := by rw [← hwB]; exact Fr.sets (X := fun b => b = gg) rfl _ _ _
  have hMB := hM0.fr hFB (by omega)
  have hZB := hZ0.fr hFB (by omega)
  have bB := hFB.below b0 b0.size (fun b hb => by have hb' : b = gg := hb; omega)
  have sB := hFB.size
  rw [hwB]
  go_wp2_with (first | (with_reducible refine stop_load 30 rfl ?_) | (with_reducible refine stop_store 30 rfl ?_) | (with_reducible refine stop_load 28 rfl ?_) | (with_reducible refine stop_store 28 rfl ?_) | (with_reducible refine stop_load 49 rfl ?_) | (with_reducible refine stop_store 49 rfl ?_) | (with_reducible refine stop_load 24 rfl ?_) | (with_reducible refine stop_store 24 rfl ?_) | (with_reducible refine stop_load 58 rfl ?_) | (with_reducible refine stop_store 58 rfl ?_))
  refine go_storeM rfl rfl rfl (k := 11) rfl hPB [.int .i64 0, .slice none 0 0] rfl (by simp) (by kernel_rfl) (zeroG_is (w := w) (Q := fun _ => True)).ones ?_
  obtain ⟨wC, hwC⟩ : ∃ x, wB.setCells gg 11 [.int .i64 0, .slice none 0 0] = x := ⟨_, rfl⟩
  have hPC : Blk wC gg [.int .i64 id, .int .i64 ge, .slice gA gn gc, .int .i64 v, .int .i64 se, .bool false, .int .u8 0, .int .i64 0, .int .i64 0, .slice none 0 0, .slice none 0 0, .int .i64 0, .slice none 0 0, .int .i64 qu] 30 := by rw [← hwC]; exact ((hPB.set 11 (.int .i64 0)).set 12 (.slice none 0 0))
  have hFC : Fr (fun b => b = gg) wB wC := by rw [← hwC]; exact Fr.sets (X := fun b => b = gg) rfl _ _ _
  have hMC := hMB.fr hFC (by omega)
  have hZC := hZB.fr hFC (by omega)
  have bC := hFC.below bB bB.size (fun b hb => by have hb' : b = gg := hb; omega)
  have sC := hFC.size
  rw [hwC]
  clear hwB hwC
  have y1 := hPC.cell (j := 1) rfl
  have y3 := hPC.cell (j := 3) rfl
  have f3 := hPC.frozen 3
  have z3 := hMC.cell (j := 3) rfl
  have z4 := hMC.cell (j := 4) rfl
  rcases bool_two (e == ge) with q | q
  rotate_left
  · have HR := hide (show endD (id, (ge, gm), v, se, bu, o, n, qu) (k, f, t, e, mv, nu, cm, no, nc, cl, ms, mo, (rk, rd), (me, mm), s, l) = (id, (ge, gm), v, se, false, zeroO, zeroG, qu) by
      show (id, (ge, gm), if (e == ge) = true then max v mv else v, se, false, zeroO, zeroG, qu) = _
      rw [if_neg (by rw [q]; decide)])
    have hI := HI.out wC bC v hv2.out
    go_wp2_with (first | (with_reducible refine stop_load 30 rfl ?_) | (with_reducible refine stop_store 30 rfl ?_) | (with_reducible refine stop_load 28 rfl ?_) | (with_reducible refine stop_store 28 rfl ?_) | (with_reducible refine stop_load 49 rfl ?_) | (with_reducible refine stop_store 49 rfl ?_) | (with_reducible refine stop_load 24 rfl ?_) | (with_reducible refine stop_store 24 rfl ?_) | (with_reducible refine stop_load 58 rfl ?_) | (with_reducible refine stop_store 58 rfl ?_))
    refine go_loadG rfl rfl (k := 0) rfl hPC [.int .i64 id, .int .i64 ge, .slice gA gn gc, .int .i64 v, .int .i64 se, .bool false, .int .u8 0, .int .i64 0, .int .i64 0, .slice none 0 0, .slice none 0 0, .int .i64 0, .slice none 0 0, .int .i64 qu] rfl Try.underlying30 rfl (by kernel_rfl) ?_
    go_wp2_with (first | (with_reducible refine stop_load 30 rfl ?_) | (with_reducible refine stop_store 30 rfl ?_) | (with_reducible refine stop_load 28 rfl ?_) | (with_reducible refine stop_store 28 rfl ?_) | (with_reducible refine stop_load 49 rfl ?_) | (with_reducible refine stop_store 49 rfl ?_) | (with_reducible refine stop_load 24 rfl ?_) | (with_reducible refine stop_store 24 rfl ?_) | (with_reducible refine stop_load 58 rfl ?_) | (with_reducible refine stop_store 58 rfl ?_))
    refine go_store rfl rfl rfl rfl rfl hZC (by kernel_rfl) rfl (us := [.int .i64 id, .int .i64 ge, .slice gA gn gc, .int .i64 v, .int .i64 se, .bool false, .int .u8 0, .int .i64 0, .int .i64 0, .slice none 0 0, .slice none 0 0, .int .i64 0, .slice none 0 0, .int .i64 qu]) hI.ones ?_
    go_wp2
    refine bodyPost_ret (results_cell rfl rfl (hZC.setAll [.int .i64 id, .int .i64 ge, .slice gA gn gc, .int .i64 v, .int .i64 se, .bool false, .int .u8 0, .int .i64 0, .int .i64 0, .slice none 0 0, .slice none 0 0, .int .i64 0, .slice none 0 0, .int .i64 qu]) Try.underlying30 rfl (by kernel_rfl)) rfl ?_
    have hF := Fr.row (X := fun b => b = gg + 2) rfl wC #[.int .i64 id, .int .i64 ge, .slice gA gn gc, .int .i64 v, .int .i64 se, .bool false, .int .u8 0, .int .i64 0, .int .i64 0, .slice none 0 0, .slice none 0 0, .int .i64 0, .slice none 0 0, .int .i64 qu]
    refine ⟨[.int .i64 id, .int .i64 ge, .slice gA gn gc, .int .i64 v, .int .i64 se, .bool false, .int .u8 0, .int .i64 0, .int .i64 0, .slice none 0 0, .slice none 0 0, .int .i64 0, .slice none 0 0, .int .i64 qu], rfl, ?_, hF.below (by first | exact bC | (rw [← hgg]; exact bC)) (by omega) (fun b hb => by have hb' : b = gg + 2 := hb; omega)⟩
    rw [HR.out]
    exact (hI.fr hF (fun b hb hx => by have hx' : b = gg + 2 := hx; have hb' := hb.2; omega)).mono (fun b hb => hb.1)
  · have hR := hide (show endD (id, (ge, gm), v, se, bu, o, n, qu) (k, f, t, e, mv, nu, cm, no, nc, cl, ms, mo, (rk, rd), (me, mm), s, l) = (id, (ge, gm), max v mv, se, false, zeroO, zeroG, qu) by
      show (id, (ge, gm), if (e == ge) = true then max v mv else v, se, false, zeroO, zeroG, qu) = _
      rw [if_pos q])
    go_wp2_with (first | (with_reducible refine stop_load 30 rfl ?_) | (with_reducible refine stop_store 30 rfl ?_) | (with_reducible refine stop_load 28 rfl ?_) | (with_reducible refine stop_store 28 rfl ?_) | (with_reducible refine stop_load 49 rfl ?_) | (with_reducible refine stop_store 49 rfl ?_) | (with_reducible refine stop_load 24 rfl ?_) | (with_reducible refine stop_store 24 rfl ?_) | (with_reducible refine stop_load 58 rfl ?_) | (with_reducible refine stop_store 58 rfl ?_))
    all_goals first
      | (have hmx : max v mv = mv := by omega
         have HR := hR.out
         rw [hmx] at HR
         replace HR := hide HR
         obtain ⟨wD, hwD⟩ : ∃ x, wC.setCell ⟨gg, 3, none⟩ (.int .i64 mv) = x := ⟨_, rfl⟩
         have hPD : Blk wD gg [.int .i64 id, .int .i64 ge, .slice gA gn gc, .int .i64 mv, .int .i64 se, .bool false, .int .u8 0, .int .i64 0, .int .i64 0, .slice none 0 0, .slice none 0 0, .int .i64 0, .slice none 0 0, .int .i64 qu] 30 := by rw [← hwD]; exact hPC.set 3 _
         have hFD : Fr (fun b => b = gg) wC wD := by rw [← hwD]; exact Fr.set (X := fun b => b = gg) wC ⟨gg, 3, none⟩ _ rfl
         have hZD := hZC.fr hFD (by omega)
         have sD := hFD.size
         have bD := hFD.below bC bC.size (fun b hb => by have hb' : b = gg := hb; omega)
         have hI := HI.out wD bD mv hvb
         rw [hwD]
         refine go_loadG rfl rfl (k := 0) rfl hPD [.int .i64 id, .int .i64 ge, .slice gA gn gc, .int .i64 mv, .int .i64 se, .bool false, .int .u8 0, .int .i64 0, .int .i64 0, .slice none 0 0, .slice none 0 0, .int .i64 0, .slice none 0 0, .int .i64 qu] rfl Try.underlying30 rfl (by kernel_rfl) ?_
         go_wp2_with (first | (with_reducible refine stop_load 30 rfl ?_) | (with_reducible refine stop_store 30 rfl ?_) | (with_reducible refine stop_load 28 rfl ?_) | (with_reducible refine stop_store 28 rfl ?_) | (with_reducible refine stop_load 49 rfl ?_) | (with_reducible refine stop_store 49 rfl ?_) | (with_reducible refine stop_load 24 rfl ?_) | (with_reducible refine stop_store 24 rfl ?_) | (with_reducible refine stop_load 58 rfl ?_) | (with_reducible refine stop_store 58 rfl ?_))
         refine go_store rfl rfl rfl rfl rfl hZD (by kernel_rfl) rfl (us := [.int .i64 id, .int .i64 ge, .slice gA gn gc, .int .i64 mv, .int .i64 se, .bool false, .int .u8 0, .int .i64 0, .int .i64 0, .slice none 0 0, .slice none 0 0, .int .i64 0, .slice none 0 0, .int .i64 qu]) hI.ones ?_
         go_wp2
         refine bodyPost_ret (results_cell rfl rfl (hZD.setAll [.int .i64 id, .int .i64 ge, .slice gA gn gc, .int .i64 mv, .int .i64 se, .bool false, .int .u8 0, .int .i64 0, .int .i64 0, .slice none 0 0, .slice none 0 0, .int .i64 0, .slice none 0 0, .int .i64 qu]) Try.underlying30 rfl (by kernel_rfl)) rfl ?_
         have hF := Fr.row (X := fun b => b = gg + 2) rfl wD #[.int .i64 id, .int .i64 ge, .slice gA gn gc, .int .i64 mv, .int .i64 se, .bool false, .int .u8 0, .int .i64 0, .int .i64 0, .slice none 0 0, .slice none 0 0, .int .i64 0, .slice none 0 0, .int .i64 qu]
         refine ⟨[.int .i64 id, .int .i64 ge, .slice gA gn gc, .int .i64 mv, .int .i64 se, .bool false, .int .u8 0, .int .i64 0, .int .i64 0, .slice none 0 0, .slice none 0 0, .int .i64 0, .slice none 0 0, .int .i64 qu], rfl, ?_, hF.below (by first | exact bD | (rw [← hgg]; exact bD)) (by omega) (fun b hb => by have hb' : b = gg + 2 := hb; omega)⟩
         rw [HR.out]
         exact (hI.fr hF (fun b hb hx => by have hx' : b = gg + 2 := hx; have hb' := hb.2; omega)).mono (fun b hb => hb.1))
      | (have hmx : max v mv = v := by omega
         have HR := hR.out
         rw [hmx] at HR
         replace HR := hide HR
         obtain ⟨wD, hwD⟩ : ∃ x, wC.setCell ⟨gg, 3, none⟩ (.int .i64 v) = x := ⟨_, rfl⟩
         have hPD : Blk wD gg [.int .i64 id, .int .i64 ge, .slice gA gn gc, .int .i64 v, .int .i64 se, .bool false, .int .u8 0, .int .i64 0, .int .i64 0, .slice none 0 0, .slice none 0 0, .int .i64 0, .slice none 0 0, .int .i64 qu] 30 := by rw [← hwD]; exact hPC.set 3 _
         have hFD : Fr (fun b => b = gg) wC wD := by rw [← hwD]; exact Fr.set (X := fun b => b = gg) wC ⟨gg, 3, none⟩ _ rfl
         have hZD := hZC.fr hFD (by omega)
         have sD := hFD.size
         have bD := hFD.below bC bC.size (fun b hb => by have hb' : b = gg := hb; omega)
         have hI := HI.out wD bD v hv2.out
         rw [hwD]
         refine go_loadG rfl rfl (k := 0) rfl hPD [.int .i64 id, .int .i64 ge, .slice gA gn gc, .int .i64 v, .int .i64 se, .bool false, .int .u8 0, .int .i64 0, .int .i64 0, .slice none 0 0, .slice none 0 0, .int .i64 0, .slice none 0 0, .int .i64 qu] rfl Try.underlying30 rfl (by kernel_rfl) ?_
         go_wp2_with (first | (with_reducible refine stop_load 30 rfl ?_) | (with_reducible refine stop_store 30 rfl ?_) | (with_reducible refine stop_load 28 rfl ?_) | (with_reducible refine stop_store 28 rfl ?_) | (with_reducible refine stop_load 49 rfl ?_) | (with_reducible refine stop_store 49 rfl ?_) | (with_reducible refine stop_load 24 rfl ?_) | (with_reducible refine stop_store 24 rfl ?_) | (with_reducible refine stop_load 58 rfl ?_) | (with_reducible refine stop_store 58 rfl ?_))
         refine go_store rfl rfl rfl rfl rfl hZD (by kernel_rfl) rfl (us := [.int .i64 id, .int .i64 ge, .slice gA gn gc, .int .i64 v, .int .i64 se, .bool false, .int .u8 0, .int .i64 0, .int .i64 0, .slice none 0 0, .slice none 0 0, .int .i64 0, .slice none 0 0, .int .i64 qu]) hI.ones ?_
         go_wp2
         refine bodyPost_ret (results_cell rfl rfl (hZD.setAll [.int .i64 id, .int .i64 ge, .slice gA gn gc, .int .i64 v, .int .i64 se, .bool false, .int .u8 0, .int .i64 0, .int .i64 0, .slice none 0 0, .slice none 0 0, .int .i64 0, .slice none 0 0, .int .i64 qu]) Try.underlying30 rfl (by kernel_rfl)) rfl ?_
         have hF := Fr.row (X := fun b => b = gg + 2) rfl wD #[.int .i64 id, .int .i64 ge, .slice gA gn gc, .int .i64 v, .int .i64 se, .bool false, .int .u8 0, .int .i64 0, .int .i64 0, .slice none 0 0, .slice none 0 0, .int .i64 0, .slice none 0 0, .int .i64 qu]
         refine ⟨[.int .i64 id, .int .i64 ge, .slice gA gn gc, .int .i64 v, .int .i64 se, .bool false, .int .u8 0, .int .i64 0, .int .i64 0, .slice none 0 0, .slice none 0 0, .int .i64 0, .slice none 0 0, .int .i64 qu], rfl, ?_, hF.below (by first | exact bD | (rw [← hgg]; exact bD)) (by omega) (fun b hb => by have hb' : b = gg + 2 := hb; omega)⟩
         rw [HR.out]
         exact (hI.fr hF (fun b hb hx => by have hx' : b = gg + 2 := hx; have hb' := hb.2; omega)).mono (fun b hb => hb.1))
end Go.Proofs.Ytlcbelmbonaooaa
