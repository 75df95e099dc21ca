/- Stage 24: what comes of a message (written by gen_24s.py). -/
import Derived.Test.YtlcbelmbonaooaaF24q
import Derived.Test.YtlcbelmbonaooaaF24r
import Derived.Test.YtlcbelmbonaooaaOrd
namespace Go.Proofs.Ytlcbelmbonaooaa
set_option maxRecDepth 20000
open Go.RowKit Go.Px Go.Maps Go.Deep
set_option linter.unusedVariables false
set_option linter.unusedSimpArgs false
def nopD (p : ProxyD) : ProxyD × List MsgD × ResultD × Bool := (p, [], (0, []), false)
/-- The client that knows a later group. -/
def newD : ProxyD → MsgD → ProxyD
  | (id, g, v, se, bu, o, n, qu), (k, f, t, e, mv, nu, cm, no, nc, cl, ms, mo, r, mg, s, l) => (id, mg, mv, se, bu, o, n, 0)
/-- Is a message for a client, and may both be? -/
def goB (p : ProxyD) (m : MsgD) : Bool := (m.2.2.1 == IntKind.i64.wrap (-p.1)) && (prB p && msgB m)
/-- What comes of a message. -/
def takeD (p : ProxyD) (m : MsgD) : ProxyD × List MsgD × ResultD × Bool :=
  if goB p m = true then (if ((m.1 : Int) == 2) = true then (if ansB p m = true then (endD p m, [], m.2.2.2.2.2.2.2.2.2.2.2.2.1, true) else nopD p) else (if ((m.1 : Int) == 14) = true then (if newB p m = true then (newD p m, firstL (newD p m), (0, []), false) else nopD p) else nopD p)) else nopD p
def TakeIs (w w' : World) (Q : Nat → Prop) (r : ProxyD × List MsgD × ResultD × Bool) (e : Ending) : Prop :=
  ∃ ds A n c es, e = .returned (.tuple #[.agg ds.toArray, .slice A n c, .agg es.toArray, .bool r.2.2.2]) ∧ tyProxy.Is w' Q r.1 ds ∧ (Ty.row tyMsg).Is w' Q r.2.1 [.slice A n c] ∧ tyResult.Is w' Q r.2.2.1 es ∧ Below w.heap.size w w'
theorem TakeIs.to {w w' : World} {Q : Nat → Prop} {r r' : ProxyD × List MsgD × ResultD × Bool} {e : Ending} (h : TakeIs w w' Q r e) (hr : r' = r) : TakeIs w w' Q r' e := hr ▸ h
theorem msgB_re {k nc : Nat} {f t e v nu cm no cl se : Int} {o : OpD} {r : ResultD} {g : GroupD} {s : StateD} {l : List EntryD} (h : msgB (k, f, t, e, v, nu, cm, no, nc, cl, se, o, r, g, s, l) = true) : r.2.length ≤ 262144 := by
  have h1 : reK r = true := by
    simp only [msgB, Bool.and_eq_true] at h
    exact h.2.2.2.2.2.1
  unfold reK reN reF at h1
  rw [Bool.or_eq_true] at h1
  rcases h1 with h1 | h1
  · rw [Bool.and_eq_true] at h1
    have := beq_iff_eq.1 h1.2
    omega
  · have h2 := beq_iff_eq.1 h1
    unfold rsE at h2
    split at h2
    · rename_i h3
      unfold rsP at h3
      omega
    · cases h2
theorem newB_len {p : ProxyD} {k nc : Nat} {f t e v nu cm no cl se : Int} {o : OpD} {r : ResultD} {g : GroupD} {s : StateD} {l : List EntryD} (h : newB p (k, f, t, e, v, nu, cm, no, nc, cl, se, o, r, g, s, l) = true) : g.2.length ≤ 1099511627776 := by
  obtain ⟨id, pg, pv, pse, bu, po, n, qu⟩ := p
  simp only [newB, Bool.and_eq_true] at h
  have := grpOk_len (show grpOk g.1 g.2 = true from h.1)
  omega
theorem prB_id {p : ProxyD} (hp : prB p = true) : 1 ≤ p.1 := by
  have h1 : serB p.1 = true := by
    unfold prB at hp
    rw [Bool.and_eq_true] at hp; exact hp.1
  unfold serB at h1
  exact (of_decide_eq_true h1).1
set_option maxRecDepth 20000 in
set_option maxHeartbeats 51200000 in
theorem mTake_any {w : World} {Q Q' : Nat → Prop} {x : ProxyD} {y : MsgD} {cs ds : List Value} (h : tyProxy.Is w Q x cs) (h' : tyMsg.Is w Q' y ds) (hL : LightP x) :
    Calls Try.prog 22 #[.agg cs.toArray, .agg ds.toArray] w fun e w' => TakeIs w w' (fun b => w.heap.size ≤ b) (takeD x y) e := by
  obtain ⟨a0, a1, a2, a3, a4, a5, a6, a7, a8, a9, a10, a11, a12, a13, rfl⟩ := list_14 (h.len : cs.length = 14)
  have hMb : ∀ {k f t e v nu cm no nc cl se o r g s l}, y = (k, f, t, e, v, nu, cm, no, nc, cl, se, o, r, g, s, l) → (-9223372036854775808 ≤ v ∧ v ≤ 9223372036854775807) := fun he => (Msg_bds (he ▸ h')).2
  obtain ⟨k, f, t, e, mv, nu, cm, no, nc, cl, ms, mo, ⟨rk, rd⟩, ⟨me, mm⟩, s, l, m11, m12, m13, m14, m15, m16, m17, m18, m19, m20, m21, m22, m23, m24, m25, m26, m27, rfl, rfl, ko, kr, kg, ks, kl, KM⟩ := Msg_parts h'
  have hvb := hMb rfl
  obtain ⟨rA, rn, rc, rfl, rfl, -⟩ := Result_cells kr
  obtain ⟨mA, mn, mc, rfl, rfl, -⟩ := Group_cells kg
  simp only
  have HCl := hide (fun W (hW : Below w.heap.size w W) => cloneProxy_any (h.below hW) hL.g hL.d hL.q hL.n)
  have HCr := hide (fun W (hW : Below w.heap.size w W) (h8 : rd.length ≤ 262144) => cloneRe_any (kr.below hW) h8)
  have HCg := hide (fun W (hW : Below w.heap.size w W) (h8 : mm.length ≤ 1099511627776) => cloneGr_any (kg.below hW) h8)
  have HM' := hide h'
  clear h h' ko kr kg ks kl KM hMb
  obtain ⟨gg, hgg⟩ : ∃ g, w.heap.size = g := ⟨_, rfl⟩
  obtain ⟨w0, hw0⟩ : ∃ x, (((w.alloc (.cells #[a0, a1, a2, a3, a4, a5, a6, a7, a8, a9, a10, a11, a12, a13] 30)).alloc (.cells #[.int .u8 k, .int .i64 f, .int .i64 t, .int .i64 e, .int .i64 mv, .int .i64 nu, .int .i64 cm, .int .i64 no, .int .u64 nc, .int .i64 cl, .int .i64 ms, m11, m12, m13, m14, m15, .int .u8 rk, .slice rA rn rc, .int .i64 me, .slice mA mn mc, m20, m21, m22, m23, m24, m25, m26, m27] 58)).alloc (.cells #[.int .i64 0, .int .i64 0, .slice none 0 0, .int .i64 0, .int .i64 0, .bool false, .int .u8 0, .int .i64 0, .int .i64 0, .slice none 0 0, .slice none 0 0, .int .i64 0, .slice none 0 0, .int .i64 0] 30)).alloc (.cells #[.int .u8 0, .slice none 0 0] 49) = x := ⟨_, rfl⟩
  have hP0 : Blk w0 gg [a0, a1, a2, a3, a4, a5, a6, a7, a8, a9, a10, a11, a12, a13] 30 := by rw [← hw0, ← hgg]; exact (((Blk.new w _ _).alloc _).alloc _).alloc _
  have hM0 : Blk w0 (gg + 1) [.int .u8 k, .int .i64 f, .int .i64 t, .int .i64 e, .int .i64 mv, .int .i64 nu, .int .i64 cm, .int .i64 no, .int .u64 nc, .int .i64 cl, .int .i64 ms, m11, m12, m13, m14, m15, .int .u8 rk, .slice rA rn rc, .int .i64 me, .slice mA mn mc, m20, m21, m22, m23, m24, m25, m26, m27] 58 := by
    rw [← hw0, ← hgg]
    have := Blk.new (w.alloc (.cells #[a0, a1, a2, a3, a4, a5, a6, a7, a8, a9, a10, a11, a12, a13] 30)) [.int .u8 k, .int .i64 f, .int .i64 t, .int .i64 e, .int .i64 mv, .int .i64 nu, .int .i64 cm, .int .i64 no, .int .u64 nc, .int .i64 cl, .int .i64 ms, m11, m12, m13, m14, m15, .int .u8 rk, .slice rA rn rc, .int .i64 me, .slice mA mn mc, m20, m21, m22, m23, m24, m25, m26, m27] 58
    rw [World.size_alloc] at this
    exact (this.alloc _).alloc _
  have hZ0 : Blk w0 (gg + 2) [.int .i64 0, .int .i64 0, .slice none 0 0, .int .i64 0, .int .i64 0, .bool false, .int .u8 0, .int .i64 0, .int .i64 0, .slice none 0 0, .slice none 0 0, .int .i64 0, .slice none 0 0, .int .i64 0] 30 := by
    rw [← hw0, ← hgg]
    have := Blk.new ((w.alloc (.cells #[a0, a1, a2, a3, a4, a5, a6, a7, a8, a9, a10, a11, a12, a13] 30)).alloc (.cells #[.int .u8 k, .int .i64 f, .int .i64 t, .int .i64 e, .int .i64 mv, .int .i64 nu, .int .i64 cm, .int .i64 no, .int .u64 nc, .int .i64 cl, .int .i64 ms, m11, m12, m13, m14, m15, .int .u8 rk, .slice rA rn rc, .int .i64 me, .slice mA mn mc, m20, m21, m22, m23, m24, m25, m26, m27] 58)) [.int .i64 0, .int .i64 0, .slice none 0 0, .int .i64 0, .int .i64 0, .bool false, .int .u8 0, .int .i64 0, .int .i64 0, .slice none 0 0, .slice none 0 0, .int .i64 0, .slice none 0 0, .int .i64 0] 30
    rw [World.size_alloc, World.size_alloc] at this
    exact this.alloc _
  have hR0 : Blk w0 (gg + 3) [.int .u8 0, .slice none 0 0] 49 := by
    rw [← hw0, ← hgg]
    have := Blk.new (((w.alloc (.cells #[a0, a1, a2, a3, a4, a5, a6, a7, a8, a9, a10, a11, a12, a13] 30)).alloc (.cells #[.int .u8 k, .int .i64 f, .int .i64 t, .int .i64 e, .int .i64 mv, .int .i64 nu, .int .i64 cm, .int .i64 no, .int .u64 nc, .int .i64 cl, .int .i64 ms, m11, m12, m13, m14, m15, .int .u8 rk, .slice rA rn rc, .int .i64 me, .slice mA mn mc, m20, m21, m22, m23, m24, m25, m26, m27] 58)).alloc (.cells #[.int .i64 0, .int .i64 0, .slice none 0 0, .int .i64 0, .int .i64 0, .bool false, .int .u8 0, .int .i64 0, .int .i64 0, .slice none 0 0, .slice none 0 0, .int .i64 0, .slice none 0 0, .int .i64 0] 30)) [.int .u8 0, .slice none 0 0] 49
    rw [World.size_alloc, World.size_alloc, World.size_alloc] at this
    exact this
  have b0 : Below w.heap.size w w0 := by rw [← hw0]; exact ((((Below.refl _ _).alloc (Nat.le_refl _) _).alloc (by simp) _).alloc (by simp; omega) _).alloc (by simp; omega) _
  have rl := hR0.lt
  have Hw0 := hide hw0
  have s0 := b0.size
  clear hw0
  go_enter Try.func22, Try.ntmps22
  go_wp2_with (first | (with_reducible refine stop_load 30 rfl ?_) | (with_reducible refine stop_store 30 rfl ?_) | (with_reducible refine stop_load 28 rfl ?_) | (with_reducible refine stop_store 28 rfl ?_) | (with_reducible refine stop_load 49 rfl ?_) | (with_reducible refine stop_store 49 rfl ?_) | (with_reducible refine stop_load 24 rfl ?_) | (with_reducible refine stop_store 24 rfl ?_) | (with_reducible refine stop_load 58 rfl ?_) | (with_reducible refine stop_store 58 rfl ?_))
  rw [Hw0.out]
  refine go_loadG rfl rfl (k := 0) rfl hP0 [a0, a1, a2, a3, a4, a5, a6, a7, a8, a9, a10, a11, a12, a13] rfl Try.underlying30 rfl (by kernel_rfl) ?_
  go_wp2_with (first | (with_reducible refine stop_load 30 rfl ?_) | (with_reducible refine stop_store 30 rfl ?_) | (with_reducible refine stop_load 28 rfl ?_) | (with_reducible refine stop_store 28 rfl ?_) | (with_reducible refine stop_load 49 rfl ?_) | (with_reducible refine stop_store 49 rfl ?_) | (with_reducible refine stop_load 24 rfl ?_) | (with_reducible refine stop_store 24 rfl ?_) | (with_reducible refine stop_load 58 rfl ?_) | (with_reducible refine stop_store 58 rfl ?_))
  go_fit (HCl.out w0 b0)
  rintro xx w1 ⟨ds, rfl, iD1, hd1⟩
  obtain ⟨id, g, v, se, bu, o, n, qu, c1, c2, c6, c7, c8, c9, c10, c11, c12, rfl, rfl, p1, p2, p3, p4, hg, ho, hn⟩ := Proxy_parts iD1
  have s1 := hd1.size
  have b1 := b0.trans (hd1.mono s0)
  have hP1 := hP0.below hd1
  have hM1 := hM0.below hd1
  have hZ1 := hZ0.below hd1
  have hR1 := hR0.below hd1
  go_wp2_with (first | (with_reducible refine stop_load 30 rfl ?_) | (with_reducible refine stop_store 30 rfl ?_) | (with_reducible refine stop_load 28 rfl ?_) | (with_reducible refine stop_store 28 rfl ?_) | (with_reducible refine stop_load 49 rfl ?_) | (with_reducible refine stop_store 49 rfl ?_) | (with_reducible refine stop_load 24 rfl ?_) | (with_reducible refine stop_store 24 rfl ?_) | (with_reducible refine stop_load 58 rfl ?_) | (with_reducible refine stop_store 58 rfl ?_))
  refine go_store rfl rfl rfl rfl rfl hP1 (by kernel_rfl) rfl (us := [.int .i64 id, c1, c2, .int .i64 v, .int .i64 se, .bool bu, c6, c7, c8, c9, c10, c11, c12, .int .i64 qu]) iD1.ones ?_
  obtain ⟨w2, hw2⟩ : ∃ x, w1.setRow gg #[.int .i64 id, c1, c2, .int .i64 v, .int .i64 se, .bool bu, c6, c7, c8, c9, c10, c11, c12, .int .i64 qu] = x := ⟨_, rfl⟩
  have hF2 : Fr (fun b => b = gg) w1 w2 := by rw [← hw2]; exact Fr.row (X := fun b => b = gg) rfl w1 _
  have hP2 : Blk w2 gg [.int .i64 id, c1, c2, .int .i64 v, .int .i64 se, .bool bu, c6, c7, c8, c9, c10, c11, c12, .int .i64 qu] 30 := by rw [← hw2]; exact hP1.setAll [.int .i64 id, c1, c2, .int .i64 v, .int .i64 se, .bool bu, c6, c7, c8, c9, c10, c11, c12, .int .i64 qu]
  have hM2 := hM1.fr hF2 (by omega)
  have hZ2 := hZ1.fr hF2 (by omega)
  have hR2 := hR1.fr hF2 (by omega)
  have fr0 : ∀ b, w0.heap.size ≤ b → ¬ b = gg := fun b hb => by omega
  have iD2 := iD1.fr hF2 (fun b hb hx => fr0 b hb hx)
  have jg := hg.fr hF2 (fun b hb hx => fr0 b hb hx)
  have jo := ho.fr hF2 (fun b hb hx => fr0 b hb hx)
  have jn := hn.fr hF2 (fun b hb hx => fr0 b hb hx)
  have b2 := hF2.below b1 b1.size (fun b hb => by have hb' : b = gg := hb; omega)
  have s2 := hF2.size
  rw [hw2]
  clear hw2 hg ho hn hF2
  obtain ⟨ni, hni⟩ : ∃ x, IntKind.i64.wrap (-id) = x := ⟨_, rfl⟩
  have hni' : wrap64 (-id) = ni := by rw [← hni, IntWalk.i64_left]
  have HGo := hide (show goB (id, g, v, se, bu, o, n, qu) (k, f, t, e, mv, nu, cm, no, nc, cl, ms, mo, (rk, rd), (me, mm), s, l) = ((t == ni) && (prB (id, g, v, se, bu, o, n, qu) && msgB (k, f, t, e, mv, nu, cm, no, nc, cl, ms, mo, (rk, rd), (me, mm), s, l))) by rw [← hni]; rfl)
  have z2 := hM2.cell (j := 2) rfl
  have y0 := hP2.cell (j := 0) rfl
  rcases bool_two (t == ni) with q1 | q1
  rotate_left
  · have q1' : (t != ni) = true := by simp only [bne, q1]; rfl
    have HF := hide (show takeD (id, g, v, se, bu, o, n, qu) (k, f, t, e, mv, nu, cm, no, nc, cl, ms, mo, (rk, rd), (me, mm), s, l) = nopD (id, g, v, se, bu, o, n, qu) by unfold takeD; rw [HGo.out, q1, Bool.false_and, if_neg Bool.false_ne_true])
    clear q1
    go_wp2_with (first | (with_reducible refine stop_load 30 rfl ?_) | (with_reducible refine stop_store 30 rfl ?_) | (with_reducible refine stop_load 28 rfl ?_) | (with_reducible refine stop_store 28 rfl ?_) | (with_reducible refine stop_load 49 rfl ?_) | (with_reducible refine stop_store 49 rfl ?_) | (with_reducible refine stop_load 24 rfl ?_) | (with_reducible refine stop_store 24 rfl ?_) | (with_reducible refine stop_load 58 rfl ?_) | (with_reducible refine stop_store 58 rfl ?_))
    repeat (refine go_skipG rfl ?_; go_wp2_with (first | (with_reducible refine stop_load 30 rfl ?_) | (with_reducible refine stop_store 30 rfl ?_) | (with_reducible refine stop_load 28 rfl ?_) | (with_reducible refine stop_store 28 rfl ?_) | (with_reducible refine stop_load 49 rfl ?_) | (with_reducible refine stop_store 49 rfl ?_) | (with_reducible refine stop_load 24 rfl ?_) | (with_reducible refine stop_store 24 rfl ?_) | (with_reducible refine stop_load 58 rfl ?_) | (with_reducible refine stop_store 58 rfl ?_)))
    refine go_loadG rfl rfl (k := 0) rfl hP2 [.int .i64 id, c1, c2, .int .i64 v, .int .i64 se, .bool bu, c6, c7, c8, c9, c10, c11, c12, .int .i64 qu] rfl Try.underlying30 rfl (by kernel_rfl) ?_
    go_wp2_with (first | (with_reducible refine stop_load 30 rfl ?_) | (with_reducible refine stop_store 30 rfl ?_) | (with_reducible refine stop_load 28 rfl ?_) | (with_reducible refine stop_store 28 rfl ?_) | (with_reducible refine stop_load 49 rfl ?_) | (with_reducible refine stop_store 49 rfl ?_) | (with_reducible refine stop_load 24 rfl ?_) | (with_reducible refine stop_store 24 rfl ?_) | (with_reducible refine stop_load 58 rfl ?_) | (with_reducible refine stop_store 58 rfl ?_))
    refine go_store rfl rfl rfl rfl rfl hZ2 (by kernel_rfl) rfl (us := [.int .i64 id, c1, c2, .int .i64 v, .int .i64 se, .bool bu, c6, c7, c8, c9, c10, c11, c12, .int .i64 qu]) iD2.ones ?_
    obtain ⟨wy, hwy⟩ : ∃ x, w2.setRow (gg + 2) #[.int .i64 id, c1, c2, .int .i64 v, .int .i64 se, .bool bu, c6, c7, c8, c9, c10, c11, c12, .int .i64 qu] = x := ⟨_, rfl⟩
    have hFy : Fr (fun b => b = gg + 2) w2 wy := by rw [← hwy]; exact Fr.row (X := fun b => b = gg + 2) rfl w2 _
    have hZy : Blk wy (gg + 2) [.int .i64 id, c1, c2, .int .i64 v, .int .i64 se, .bool bu, c6, c7, c8, c9, c10, c11, c12, .int .i64 qu] 30 := by rw [← hwy]; exact hZ2.setAll [.int .i64 id, c1, c2, .int .i64 v, .int .i64 se, .bool bu, c6, c7, c8, c9, c10, c11, c12, .int .i64 qu]
    have hRy := hR2.fr hFy (by omega)
    have iDy := iD2.fr hFy (fun b hb hx => by have hx' : b = gg + 2 := hx; have hb' : w0.heap.size ≤ b := hb; omega)
    have by' := hFy.below b2 b2.size (fun b hb => by have hb' : b = gg + 2 := hb; omega)
    have sy := hFy.size
    rw [hwy]
    clear hwy
    go_wp2_with (first | (with_reducible refine stop_load 30 rfl ?_) | (with_reducible refine stop_store 30 rfl ?_) | (with_reducible refine stop_load 28 rfl ?_) | (with_reducible refine stop_store 28 rfl ?_) | (with_reducible refine stop_load 49 rfl ?_) | (with_reducible refine stop_store 49 rfl ?_) | (with_reducible refine stop_load 24 rfl ?_) | (with_reducible refine stop_store 24 rfl ?_) | (with_reducible refine stop_load 58 rfl ?_) | (with_reducible refine stop_store 58 rfl ?_))
    refine go_store rfl rfl rfl rfl rfl hRy (by kernel_rfl) rfl (us := [.int .u8 0, .slice none 0 0]) (zeroR_is (w := w) (Q := fun _ => True)).ones ?_
    go_wp2
    have hF := Fr.row (X := fun b => b = gg + 3) rfl wy #[.int .u8 0, .slice none 0 0]
    refine bodyPost_ret (results_cell4 rfl rfl rfl (hZy.fr hF (by omega)) (hRy.setAll [.int .u8 0, .slice none 0 0]) Try.underlying30 rfl (by kernel_rfl) Try.underlying49 rfl (by kernel_rfl)) rfl ?_
    refine TakeIs.to ?_ HF.out
    refine ⟨[.int .i64 id, c1, c2, .int .i64 v, .int .i64 se, .bool bu, c6, c7, c8, c9, c10, c11, c12, .int .i64 qu], none, 0, 0, [.int .u8 0, .slice none 0 0], rfl, ?_, zeroL_is, zeroR_is, hF.below (by first | exact by' | (rw [← hgg]; exact by')) (by omega) (fun b hb => by have hb' : b = gg + 3 := hb; omega)⟩
    exact (iDy.fr hF (fun b hb hx => by have hx' : b = gg + 3 := hx; have hb' : w0.heap.size ≤ b := hb; omega)).mono (fun b hb => by have hb' : w0.heap.size ≤ b := hb; first | (show w.heap.size ≤ b; omega) | (show gg ≤ b; omega))
  have q1' : (t != ni) = false := by simp only [bne, q1]; rfl
  have Q1 := hide q1
  clear q1
  go_wp2_with (first | (with_reducible refine stop_load 30 rfl ?_) | (with_reducible refine stop_store 30 rfl ?_) | (with_reducible refine stop_load 28 rfl ?_) | (with_reducible refine stop_store 28 rfl ?_) | (with_reducible refine stop_load 49 rfl ?_) | (with_reducible refine stop_store 49 rfl ?_) | (with_reducible refine stop_load 24 rfl ?_) | (with_reducible refine stop_store 24 rfl ?_) | (with_reducible refine stop_load 58 rfl ?_) | (with_reducible refine stop_store 58 rfl ?_))
  refine go_loadG rfl rfl (k := 0) rfl hP2 [.int .i64 id, c1, c2, .int .i64 v, .int .i64 se, .bool bu, c6, c7, c8, c9, c10, c11, c12, .int .i64 qu] rfl Try.underlying30 rfl (by kernel_rfl) ?_
  go_wp2_with (first | (with_reducible refine stop_load 30 rfl ?_) | (with_reducible refine stop_store 30 rfl ?_) | (with_reducible refine stop_load 28 rfl ?_) | (with_reducible refine stop_store 28 rfl ?_) | (with_reducible refine stop_load 49 rfl ?_) | (with_reducible refine stop_store 49 rfl ?_) | (with_reducible refine stop_load 24 rfl ?_) | (with_reducible refine stop_store 24 rfl ?_) | (with_reducible refine stop_load 58 rfl ?_) | (with_reducible refine stop_store 58 rfl ?_))
  go_fit (mprC_any iD2)
  rintro xx w3 ⟨rfl, hd3⟩
  have b3 := b2.trans (hd3.mono b2.size)
  have s3 := hd3.size
  have hP3 := hP2.below hd3
  have hM3 := hM2.below hd3
  have hZ3 := hZ2.below hd3
  have hR3 := hR2.below hd3
  have iD3 := iD2.below hd3
  rcases bool_two (prB (id, g, v, se, bu, o, n, qu)) with q2 | q2
  rotate_left
  · have HF := hide (show takeD (id, g, v, se, bu, o, n, qu) (k, f, t, e, mv, nu, cm, no, nc, cl, ms, mo, (rk, rd), (me, mm), s, l) = nopD (id, g, v, se, bu, o, n, qu) by unfold takeD; rw [HGo.out, q2, Bool.false_and, Bool.and_false, if_neg Bool.false_ne_true])
    rw [prE_no q2]
    clear q2
    go_wp2_with (first | (with_reducible refine stop_load 30 rfl ?_) | (with_reducible refine stop_store 30 rfl ?_) | (with_reducible refine stop_load 28 rfl ?_) | (with_reducible refine stop_store 28 rfl ?_) | (with_reducible refine stop_load 49 rfl ?_) | (with_reducible refine stop_store 49 rfl ?_) | (with_reducible refine stop_load 24 rfl ?_) | (with_reducible refine stop_store 24 rfl ?_) | (with_reducible refine stop_load 58 rfl ?_) | (with_reducible refine stop_store 58 rfl ?_))
    repeat (refine go_skipG rfl ?_; go_wp2_with (first | (with_reducible refine stop_load 30 rfl ?_) | (with_reducible refine stop_store 30 rfl ?_) | (with_reducible refine stop_load 28 rfl ?_) | (with_reducible refine stop_store 28 rfl ?_) | (with_reducible refine stop_load 49 rfl ?_) | (with_reducible refine stop_store 49 rfl ?_) | (with_reducible refine stop_load 24 rfl ?_) | (with_reducible refine stop_store 24 rfl ?_) | (with_reducible refine stop_load 58 rfl ?_) | (with_reducible refine stop_store 58 rfl ?_)))
    refine go_loadG rfl rfl (k := 0) rfl hP3 [.int .i64 id, c1, c2, .int .i64 v, .int .i64 se, .bool bu, c6, c7, c8, c9, c10, c11, c12, .int .i64 qu] rfl Try.underlying30 rfl (by kernel_rfl) ?_
    go_wp2_with (first | (with_reducible refine stop_load 30 rfl ?_) | (with_reducible refine stop_store 30 rfl ?_) | (with_reducible refine stop_load 28 rfl ?_) | (with_reducible refine stop_store 28 rfl ?_) | (with_reducible refine stop_load 49 rfl ?_) | (with_reducible refine stop_store 49 rfl ?_) | (with_reducible refine stop_load 24 rfl ?_) | (with_reducible refine stop_store 24 rfl ?_) | (with_reducible refine stop_load 58 rfl ?_) | (with_reducible refine stop_store 58 rfl ?_))
    refine go_store rfl rfl rfl rfl rfl hZ3 (by kernel_rfl) rfl (us := [.int .i64 id, c1, c2, .int .i64 v, .int .i64 se, .bool bu, c6, c7, c8, c9, c10, c11, c12, .int .i64 qu]) iD3.ones ?_
    obtain ⟨wy, hwy⟩ : ∃ x, w3.setRow (gg + 2) #[.int .i64 id, c1, c2, .int .i64 v, .int .i64 se, .bool bu, c6, c7, c8, c9, c10, c11, c12, .int .i64 qu] = x := ⟨_, rfl⟩
    have hFy : Fr (fun b => b = gg + 2) w3 wy := by rw [← hwy]; exact Fr.row (X := fun b => b = gg + 2) rfl w3 _
    have hZy : Blk wy (gg + 2) [.int .i64 id, c1, c2, .int .i64 v, .int .i64 se, .bool bu, c6, c7, c8, c9, c10, c11, c12, .int .i64 qu] 30 := by rw [← hwy]; exact hZ3.setAll [.int .i64 id, c1, c2, .int .i64 v, .int .i64 se, .bool bu, c6, c7, c8, c9, c10, c11, c12, .int .i64 qu]
    have hRy := hR3.fr hFy (by omega)
    have iDy := iD3.fr hFy (fun b hb hx => by have hx' : b = gg + 2 := hx; have hb' : w0.heap.size ≤ b := hb; omega)
    have by' := hFy.below b3 b3.size (fun b hb => by have hb' : b = gg + 2 := hb; omega)
    have sy := hFy.size
    rw [hwy]
    clear hwy
    go_wp2_with (first | (with_reducible refine stop_load 30 rfl ?_) | (with_reducible refine stop_store 30 rfl ?_) | (with_reducible refine stop_load 28 rfl ?_) | (with_reducible refine stop_store 28 rfl ?_) | (with_reducible refine stop_load 49 rfl ?_) | (with_reducible refine stop_store 49 rfl ?_) | (with_reducible refine stop_load 24 rfl ?_) | (with_reducible refine stop_store 24 rfl ?_) | (with_reducible refine stop_load 58 rfl ?_) | (with_reducible refine stop_store 58 rfl ?_))
    refine go_store rfl rfl rfl rfl rfl hRy (by kernel_rfl) rfl (us := [.int .u8 0, .slice none 0 0]) (zeroR_is (w := w) (Q := fun _ => True)).ones ?_
    go_wp2
    have hF := Fr.row (X := fun b => b = gg + 3) rfl wy #[.int .u8 0, .slice none 0 0]
    refine bodyPost_ret (results_cell4 rfl rfl rfl (hZy.fr hF (by omega)) (hRy.setAll [.int .u8 0, .slice none 0 0]) Try.underlying30 rfl (by kernel_rfl) Try.underlying49 rfl (by kernel_rfl)) rfl ?_
    refine TakeIs.to ?_ HF.out
    refine ⟨[.int .i64 id, c1, c2, .int .i64 v, .int .i64 se, .bool bu, c6, c7, c8, c9, c10, c11, c12, .int .i64 qu], none, 0, 0, [.int .u8 0, .slice none 0 0], rfl, ?_, zeroL_is, zeroR_is, hF.below (by first | exact by' | (rw [← hgg]; exact by')) (by omega) (fun b hb => by have hb' : b = gg + 3 := hb; omega)⟩
    exact (iDy.fr hF (fun b hb hx => by have hx' : b = gg + 3 := hx; have hb' : w0.heap.size ≤ b := hb; omega)).mono (fun b hb => by have hb' : w0.heap.size ≤ b := hb; first | (show w.heap.size ≤ b; omega) | (show gg ≤ b; omega))
  have hid := prB_id q2
  rw [prE_ok q2]
  have Q2 := hide q2
  clear q2
  go_wp2_with (first | (with_reducible refine stop_load 30 rfl ?_) | (with_reducible refine stop_store 30 rfl ?_) | (with_reducible refine stop_load 28 rfl ?_) | (with_reducible refine stop_store 28 rfl ?_) | (with_reducible refine stop_load 49 rfl ?_) | (with_reducible refine stop_store 49 rfl ?_) | (with_reducible refine stop_load 24 rfl ?_) | (with_reducible refine stop_store 24 rfl ?_) | (with_reducible refine stop_load 58 rfl ?_) | (with_reducible refine stop_store 58 rfl ?_))
  refine go_loadG rfl rfl (k := 0) rfl hM3 [.int .u8 k, .int .i64 f, .int .i64 t, .int .i64 e, .int .i64 mv, .int .i64 nu, .int .i64 cm, .int .i64 no, .int .u64 nc, .int .i64 cl, .int .i64 ms, m11, m12, m13, m14, m15, .int .u8 rk, .slice rA rn rc, .int .i64 me, .slice mA mn mc, m20, m21, m22, m23, m24, m25, m26, m27] rfl Try.underlying58 rfl (by kernel_rfl) ?_
  go_wp2_with (first | (with_reducible refine stop_load 30 rfl ?_) | (with_reducible refine stop_store 30 rfl ?_) | (with_reducible refine stop_load 28 rfl ?_) | (with_reducible refine stop_store 28 rfl ?_) | (with_reducible refine stop_load 49 rfl ?_) | (with_reducible refine stop_store 49 rfl ?_) | (with_reducible refine stop_load 24 rfl ?_) | (with_reducible refine stop_store 24 rfl ?_) | (with_reducible refine stop_load 58 rfl ?_) | (with_reducible refine stop_store 58 rfl ?_))
  go_fit (check_is (HM'.out.below b3))
  rintro xx w4 ⟨rfl, hd4⟩
  have b4 := b3.trans (hd4.mono b3.size)
  have s4 := hd4.size
  have hP4 := hP3.below hd4
  have hM4 := hM3.below hd4
  have hZ4 := hZ3.below hd4
  have hR4 := hR3.below hd4
  have iD4 := iD3.below hd4
  rcases bool_two (msgB (k, f, t, e, mv, nu, cm, no, nc, cl, ms, mo, (rk, rd), (me, mm), s, l)) with q3 | q3
  rotate_left
  · have HF := hide (show takeD (id, g, v, se, bu, o, n, qu) (k, f, t, e, mv, nu, cm, no, nc, cl, ms, mo, (rk, rd), (me, mm), s, l) = nopD (id, g, v, se, bu, o, n, qu) by unfold takeD; rw [HGo.out, q3, Bool.and_false, Bool.and_false, if_neg Bool.false_ne_true])
    rw [mE_no q3]
    clear q3
    go_wp2_with (first | (with_reducible refine stop_load 30 rfl ?_) | (with_reducible refine stop_store 30 rfl ?_) | (with_reducible refine stop_load 28 rfl ?_) | (with_reducible refine stop_store 28 rfl ?_) | (with_reducible refine stop_load 49 rfl ?_) | (with_reducible refine stop_store 49 rfl ?_) | (with_reducible refine stop_load 24 rfl ?_) | (with_reducible refine stop_store 24 rfl ?_) | (with_reducible refine stop_load 58 rfl ?_) | (with_reducible refine stop_store 58 rfl ?_))
    refine go_loadG rfl rfl (k := 0) rfl hP4 [.int .i64 id, c1, c2, .int .i64 v, .int .i64 se, .bool bu, c6, c7, c8, c9, c10, c11, c12, .int .i64 qu] rfl Try.underlying30 rfl (by kernel_rfl) ?_
    go_wp2_with (first | (with_reducible refine stop_load 30 rfl ?_) | (with_reducible refine stop_store 30 rfl ?_) | (with_reducible refine stop_load 28 rfl ?_) | (with_reducible refine stop_store 28 rfl ?_) | (with_reducible refine stop_load 49 rfl ?_) | (with_reducible refine stop_store 49 rfl ?_) | (with_reducible refine stop_load 24 rfl ?_) | (with_reducible refine stop_store 24 rfl ?_) | (with_reducible refine stop_load 58 rfl ?_) | (with_reducible refine stop_store 58 rfl ?_))
    refine go_store rfl rfl rfl rfl rfl hZ4 (by kernel_rfl) rfl (us := [.int .i64 id, c1, c2, .int .i64 v, .int .i64 se, .bool bu, c6, c7, c8, c9, c10, c11, c12, .int .i64 qu]) iD4.ones ?_
    obtain ⟨wy, hwy⟩ : ∃ x, w4.setRow (gg + 2) #[.int .i64 id, c1, c2, .int .i64 v, .int .i64 se, .bool bu, c6, c7, c8, c9, c10, c11, c12, .int .i64 qu] = x := ⟨_, rfl⟩
    have hFy : Fr (fun b => b = gg + 2) w4 wy := by rw [← hwy]; exact Fr.row (X := fun b => b = gg + 2) rfl w4 _
    have hZy : Blk wy (gg + 2) [.int .i64 id, c1, c2, .int .i64 v, .int .i64 se, .bool bu, c6, c7, c8, c9, c10, c11, c12, .int .i64 qu] 30 := by rw [← hwy]; exact hZ4.setAll [.int .i64 id, c1, c2, .int .i64 v, .int .i64 se, .bool bu, c6, c7, c8, c9, c10, c11, c12, .int .i64 qu]
    have hRy := hR4.fr hFy (by omega)
    have iDy := iD4.fr hFy (fun b hb hx => by have hx' : b = gg + 2 := hx; have hb' : w0.heap.size ≤ b := hb; omega)
    have by' := hFy.below b4 b4.size (fun b hb => by have hb' : b = gg + 2 := hb; omega)
    have sy := hFy.size
    rw [hwy]
    clear hwy
    go_wp2_with (first | (with_reducible refine stop_load 30 rfl ?_) | (with_reducible refine stop_store 30 rfl ?_) | (with_reducible refine stop_load 28 rfl ?_) | (with_reducible refine stop_store 28 rfl ?_) | (with_reducible refine stop_load 49 rfl ?_) | (with_reducible refine stop_store 49 rfl ?_) | (with_reducible refine stop_load 24 rfl ?_) | (with_reducible refine stop_store 24 rfl ?_) | (with_reducible refine stop_load 58 rfl ?_) | (with_reducible refine stop_store 58 rfl ?_))
    refine go_store rfl rfl rfl rfl rfl hRy (by kernel_rfl) rfl (us := [.int .u8 0, .slice none 0 0]) (zeroR_is (w := w) (Q := fun _ => True)).ones ?_
    go_wp2
    have hF := Fr.row (X := fun b => b = gg + 3) rfl wy #[.int .u8 0, .slice none 0 0]
    refine bodyPost_ret (results_cell4 rfl rfl rfl (hZy.fr hF (by omega)) (hRy.setAll [.int .u8 0, .slice none 0 0]) Try.underlying30 rfl (by kernel_rfl) Try.underlying49 rfl (by kernel_rfl)) rfl ?_
    refine TakeIs.to ?_ HF.out
    refine ⟨[.int .i64 id, c1, c2, .int .i64 v, .int .i64 se, .bool bu, c6, c7, c8, c9, c10, c11, c12, .int .i64 qu], none, 0, 0, [.int .u8 0, .slice none 0 0], rfl, ?_, zeroL_is, zeroR_is, hF.below (by first | exact by' | (rw [← hgg]; exact by')) (by omega) (fun b hb => by have hb' : b = gg + 3 := hb; omega)⟩
    exact (iDy.fr hF (fun b hb hx => by have hx' : b = gg + 3 := hx; have hb' : w0.heap.size ≤ b := hb; omega)).mono (fun b hb => by have hb' : w0.heap.size ≤ b := hb; first | (show w.heap.size ≤ b; omega) | (show gg ≤ b; omega))
  have hre := msgB_re q3
  rw [mE_ok q3]
  have Q3 := hide (show goB (id, g, v, se, bu, o, n, qu) (k, f, t, e, mv, nu, cm, no, nc, cl, ms, mo, (rk, rd), (me, mm), s, l) = true by rw [HGo.out, Q1.out, Q2.out, q3]; rfl)
  clear q3 z2 y0
  have z0 := hM4.cell (j := 0) rfl
  rcases bool_two ((k : Int) == 2) with k2 | k2
  · go_wp2_with (first | (with_reducible refine stop_load 30 rfl ?_) | (with_reducible refine stop_store 30 rfl ?_) | (with_reducible refine stop_load 28 rfl ?_) | (with_reducible refine stop_store 28 rfl ?_) | (with_reducible refine stop_load 49 rfl ?_) | (with_reducible refine stop_store 49 rfl ?_) | (with_reducible refine stop_load 24 rfl ?_) | (with_reducible refine stop_store 24 rfl ?_) | (with_reducible refine stop_load 58 rfl ?_) | (with_reducible refine stop_store 58 rfl ?_))
    refine go_loadG rfl rfl (k := 0) rfl hP4 [.int .i64 id, c1, c2, .int .i64 v, .int .i64 se, .bool bu, c6, c7, c8, c9, c10, c11, c12, .int .i64 qu] rfl Try.underlying30 rfl (by kernel_rfl) ?_
    go_wp2_with (first | (with_reducible refine stop_load 30 rfl ?_) | (with_reducible refine stop_store 30 rfl ?_) | (with_reducible refine stop_load 28 rfl ?_) | (with_reducible refine stop_store 28 rfl ?_) | (with_reducible refine stop_load 49 rfl ?_) | (with_reducible refine stop_store 49 rfl ?_) | (with_reducible refine stop_load 24 rfl ?_) | (with_reducible refine stop_store 24 rfl ?_) | (with_reducible refine stop_load 58 rfl ?_) | (with_reducible refine stop_store 58 rfl ?_))
    refine go_loadG rfl rfl (k := 0) rfl hM4 [.int .u8 k, .int .i64 f, .int .i64 t, .int .i64 e, .int .i64 mv, .int .i64 nu, .int .i64 cm, .int .i64 no, .int .u64 nc, .int .i64 cl, .int .i64 ms, m11, m12, m13, m14, m15, .int .u8 rk, .slice rA rn rc, .int .i64 me, .slice mA mn mc, m20, m21, m22, m23, m24, m25, m26, m27] rfl Try.underlying58 rfl (by kernel_rfl) ?_
    go_wp2_with (first | (with_reducible refine stop_load 30 rfl ?_) | (with_reducible refine stop_store 30 rfl ?_) | (with_reducible refine stop_load 28 rfl ?_) | (with_reducible refine stop_store 28 rfl ?_) | (with_reducible refine stop_load 49 rfl ?_) | (with_reducible refine stop_store 49 rfl ?_) | (with_reducible refine stop_load 24 rfl ?_) | (with_reducible refine stop_store 24 rfl ?_) | (with_reducible refine stop_load 58 rfl ?_) | (with_reducible refine stop_store 58 rfl ?_))
    go_fit (answers_is iD4 (HM'.out.below b4))
    rintro xx w5 ⟨rfl, hd5⟩
    have b5 := b4.trans (hd5.mono b4.size)
    have s5 := hd5.size
    have hP5 := hP4.below hd5
    have hM5 := hM4.below hd5
    have hZ5 := hZ4.below hd5
    have hR5 := hR4.below hd5
    have iD5 := iD4.below hd5
    rcases bool_two (ansB (id, g, v, se, bu, o, n, qu) (k, f, t, e, mv, nu, cm, no, nc, cl, ms, mo, (rk, rd), (me, mm), s, l)) with q4 | q4
    rotate_left
    · have HF := hide (show takeD (id, g, v, se, bu, o, n, qu) (k, f, t, e, mv, nu, cm, no, nc, cl, ms, mo, (rk, rd), (me, mm), s, l) = nopD (id, g, v, se, bu, o, n, qu) by unfold takeD; rw [if_pos Q3.out, if_pos k2, q4, if_neg Bool.false_ne_true])
      rw [q4]
      clear q4
      go_wp2_with (first | (with_reducible refine stop_load 30 rfl ?_) | (with_reducible refine stop_store 30 rfl ?_) | (with_reducible refine stop_load 28 rfl ?_) | (with_reducible refine stop_store 28 rfl ?_) | (with_reducible refine stop_load 49 rfl ?_) | (with_reducible refine stop_store 49 rfl ?_) | (with_reducible refine stop_load 24 rfl ?_) | (with_reducible refine stop_store 24 rfl ?_) | (with_reducible refine stop_load 58 rfl ?_) | (with_reducible refine stop_store 58 rfl ?_))
      refine go_loadG rfl rfl (k := 0) rfl hP5 [.int .i64 id, c1, c2, .int .i64 v, .int .i64 se, .bool bu, c6, c7, c8, c9, c10, c11, c12, .int .i64 qu] rfl Try.underlying30 rfl (by kernel_rfl) ?_
      go_wp2_with (first | (with_reducible refine stop_load 30 rfl ?_) | (with_reducible refine stop_store 30 rfl ?_) | (with_reducible refine stop_load 28 rfl ?_) | (with_reducible refine stop_store 28 rfl ?_) | (with_reducible refine stop_load 49 rfl ?_) | (with_reducible refine stop_store 49 rfl ?_) | (with_reducible refine stop_load 24 rfl ?_) | (with_reducible refine stop_store 24 rfl ?_) | (with_reducible refine stop_load 58 rfl ?_) | (with_reducible refine stop_store 58 rfl ?_))
      refine go_store rfl rfl rfl rfl rfl hZ5 (by kernel_rfl) rfl (us := [.int .i64 id, c1, c2, .int .i64 v, .int .i64 se, .bool bu, c6, c7, c8, c9, c10, c11, c12, .int .i64 qu]) iD5.ones ?_
      obtain ⟨wy, hwy⟩ : ∃ x, w5.setRow (gg + 2) #[.int .i64 id, c1, c2, .int .i64 v, .int .i64 se, .bool bu, c6, c7, c8, c9, c10, c11, c12, .int .i64 qu] = x := ⟨_, rfl⟩
      have hFy : Fr (fun b => b = gg + 2) w5 wy := by rw [← hwy]; exact Fr.row (X := fun b => b = gg + 2) rfl w5 _
      have hZy : Blk wy (gg + 2) [.int .i64 id, c1, c2, .int .i64 v, .int .i64 se, .bool bu, c6, c7, c8, c9, c10, c11, c12, .int .i64 qu] 30 := by rw [← hwy]; exact hZ5.setAll [.int .i64 id, c1, c2, .int .i64 v, .int .i64 se, .bool bu, c6, c7, c8, c9, c10, c11, c12, .int .i64 qu]
      have hRy := hR5.fr hFy (by omega)
      have iDy := iD5.fr hFy (fun b hb hx => by have hx' : b = gg + 2 := hx; have hb' : w0.heap.size ≤ b := hb; omega)
      have by' := hFy.below b5 b5.size (fun b hb => by have hb' : b = gg + 2 := hb; omega)
      have sy := hFy.size
      rw [hwy]
      clear hwy
      go_wp2_with (first | (with_reducible refine stop_load 30 rfl ?_) | (with_reducible refine stop_store 30 rfl ?_) | (with_reducible refine stop_load 28 rfl ?_) | (with_reducible refine stop_store 28 rfl ?_) | (with_reducible refine stop_load 49 rfl ?_) | (with_reducible refine stop_store 49 rfl ?_) | (with_reducible refine stop_load 24 rfl ?_) | (with_reducible refine stop_store 24 rfl ?_) | (with_reducible refine stop_load 58 rfl ?_) | (with_reducible refine stop_store 58 rfl ?_))
      refine go_store rfl rfl rfl rfl rfl hRy (by kernel_rfl) rfl (us := [.int .u8 0, .slice none 0 0]) (zeroR_is (w := w) (Q := fun _ => True)).ones ?_
      go_wp2
      have hF := Fr.row (X := fun b => b = gg + 3) rfl wy #[.int .u8 0, .slice none 0 0]
      refine bodyPost_ret (results_cell4 rfl rfl rfl (hZy.fr hF (by omega)) (hRy.setAll [.int .u8 0, .slice none 0 0]) Try.underlying30 rfl (by kernel_rfl) Try.underlying49 rfl (by kernel_rfl)) rfl ?_
      refine TakeIs.to ?_ HF.out
      refine ⟨[.int .i64 id, c1, c2, .int .i64 v, .int .i64 se, .bool bu, c6, c7, c8, c9, c10, c11, c12, .int .i64 qu], none, 0, 0, [.int .u8 0, .slice none 0 0], rfl, ?_, zeroL_is, zeroR_is, hF.below (by first | exact by' | (rw [← hgg]; exact by')) (by omega) (fun b hb => by have hb' : b = gg + 3 := hb; omega)⟩
      exact (iDy.fr hF (fun b hb hx => by have hx' : b = gg + 3 := hx; have hb' : w0.heap.size ≤ b := hb; omega)).mono (fun b hb => by have hb' : w0.heap.size ≤ b := hb; first | (show w.heap.size ≤ b; omega) | (show gg ≤ b; omega))
    have HF := hide (show takeD (id, g, v, se, bu, o, n, qu) (k, f, t, e, mv, nu, cm, no, nc, cl, ms, mo, (rk, rd), (me, mm), s, l) = (endD (id, g, v, se, bu, o, n, qu) (k, f, t, e, mv, nu, cm, no, nc, cl, ms, mo, (rk, rd), (me, mm), s, l), [], (rk, rd), true) by unfold takeD; rw [if_pos Q3.out, if_pos k2, if_pos q4])
    rw [q4]
    clear q4
    go_wp2_with (first | (with_reducible refine stop_load 30 rfl ?_) | (with_reducible refine stop_store 30 rfl ?_) | (with_reducible refine stop_load 28 rfl ?_) | (with_reducible refine stop_store 28 rfl ?_) | (with_reducible refine stop_load 49 rfl ?_) | (with_reducible refine stop_store 49 rfl ?_) | (with_reducible refine stop_load 24 rfl ?_) | (with_reducible refine stop_store 24 rfl ?_) | (with_reducible refine stop_load 58 rfl ?_) | (with_reducible refine stop_store 58 rfl ?_))
    obtain ⟨wd, hwd⟩ : ∃ x, w5.drew = x := ⟨_, rfl⟩
    have hbd : Below w5.heap.size w5 wd := by rw [← hwd]; exact (Below.refl _ _).drew
    have hPd := hP5.below hbd
    have hMd := hM5.below hbd
    have hZd := hZ5.below hbd
    have hRd := hR5.below hbd
    have bd := b5.trans (hbd.mono b5.size)
    have sd := hbd.size
    have iDd := iD5.below hbd
    have hS0 : Blk w5.drew gg [.int .i64 id, c1, c2, .int .i64 v, .int .i64 se, .bool bu, c6, c7, c8, c9, c10, c11, c12, .int .i64 qu] 30 ∧ Blk w5.drew (gg + 1) [.int .u8 k, .int .i64 f, .int .i64 t, .int .i64 e, .int .i64 mv, .int .i64 nu, .int .i64 cm, .int .i64 no, .int .u64 nc, .int .i64 cl, .int .i64 ms, m11, m12, m13, m14, m15, .int .u8 rk, .slice rA rn rc, .int .i64 me, .slice mA mn mc, m20, m21, m22, m23, m24, m25, m26, m27] 58 := by rw [hwd]; exact ⟨hPd, hMd⟩
    refine wp_region_held_drew (S := fun Z => Blk Z gg [.int .i64 id, c1, c2, .int .i64 v, .int .i64 se, .bool bu, c6, c7, c8, c9, c10, c11, c12, .int .i64 qu] 30 ∧ Blk Z (gg + 1) [.int .u8 k, .int .i64 f, .int .i64 t, .int .i64 e, .int .i64 mv, .int .i64 nu, .int .i64 cm, .int .i64 no, .int .u64 nc, .int .i64 cl, .int .i64 ms, m11, m12, m13, m14, m15, .int .u8 rk, .slice rA rn rc, .int .i64 me, .slice mA mn mc, m20, m21, m22, m23, m24, m25, m26, m27] 58) (by kernel_rfl) hS0 (fun hS0 => ?_)
    refine wpAnyH_take (fuel := 9) (i := 0) (v := .agg #[.int .i64 id, c1, c2, .int .i64 v, .int .i64 se, .bool bu, c6, c7, c8, c9, c10, c11, c12, .int .i64 qu]) rfl (by kernel_rfl) (by kernel_rfl) (by kernel_rfl) (fun _ _ _ h => h) (yieldsIf_load_mid rfl 30 _ rfl gg 0 rfl [.int .i64 id, c1, c2, .int .i64 v, .int .i64 se, .bool bu, c6, c7, c8, c9, c10, c11, c12, .int .i64 qu] _ (fun w hw => hw.1.range) Try.underlying30 rfl (by kernel_rfl)) hS0 ?_
    refine wpAnyH_take (fuel := 8) (i := 1) (v := .agg #[.int .u8 k, .int .i64 f, .int .i64 t, .int .i64 e, .int .i64 mv, .int .i64 nu, .int .i64 cm, .int .i64 no, .int .u64 nc, .int .i64 cl, .int .i64 ms, m11, m12, m13, m14, m15, .int .u8 rk, .slice rA rn rc, .int .i64 me, .slice mA mn mc, m20, m21, m22, m23, m24, m25, m26, m27]) rfl (by kernel_rfl) (by kernel_rfl) (by kernel_rfl) (fun _ _ _ h => h) (yieldsIf_load_mid rfl 58 _ rfl (gg + 1) 0 rfl [.int .u8 k, .int .i64 f, .int .i64 t, .int .i64 e, .int .i64 mv, .int .i64 nu, .int .i64 cm, .int .i64 no, .int .u64 nc, .int .i64 cl, .int .i64 ms, m11, m12, m13, m14, m15, .int .u8 rk, .slice rA rn rc, .int .i64 me, .slice mA mn mc, m20, m21, m22, m23, m24, m25, m26, m27] _ (fun w hw => hw.2.range) Try.underlying58 rfl (by kernel_rfl)) hS0 ?_
    refine wpAnyH_take (fuel := 7) (i := 3) (v := .pointer (some ⟨gg + 1, 16, none⟩)) rfl (by kernel_rfl) (by kernel_rfl) (by kernel_rfl) (fun _ _ _ h => h) (Or.inl ⟨by rfl, fun Z hZ => ?_⟩) hS0 ?_
    · go_simp
    refine wpAnyH_take (fuel := 6) (i := 4) (v := .agg #[.int .u8 rk, .slice rA rn rc]) rfl (by kernel_rfl) (by kernel_rfl) (by kernel_rfl) (fun _ _ _ h => h) (yieldsIf_load_mid rfl 49 _ rfl (gg + 1) 16 rfl [.int .u8 rk, .slice rA rn rc] _ (fun w hw => hw.2.part rfl) Try.underlying49 rfl (by kernel_rfl)) hS0 ?_
    rw [hwd]
    refine all_one (fuel := 5) (i := 2) (by kernel_rfl) rfl rfl (fun Kk hK => ?_)
    go_simp
    go_fit (ended_is iDd (HM'.out.below bd))
    rintro e' w6 ⟨es, rfl, iE, hd6⟩
    have hel : es.length = 14 := iE.len
    have b6 := bd.trans (hd6.mono bd.size)
    have s6 := hd6.size
    have hP6 := hPd.below hd6
    have hM6 := hMd.below hd6
    have hZ6 := hZd.below hd6
    have hR6 := hRd.below hd6
    refine hK _ _ ⟨⟨hP6, hM6⟩, ?_⟩
    clear hK Kk
    refine all_one (fuel := 4) (i := 5) (by kernel_rfl) rfl rfl (fun Kk hK => ?_)
    go_simp
    go_fit (HCr.out w6 b6 hre)
    rintro e' w7 ⟨fs, rfl, iF, hd7⟩
    have hfl : fs.length = 2 := iF.len
    have b7 := b6.trans (hd7.mono b6.size)
    have s7 := hd7.size
    have hP7 := hP6.below hd7
    have hM7 := hM6.below hd7
    have hZ7 := hZ6.below hd7
    have hR7 := hR6.below hd7
    have iE7 := iE.below hd7
    refine hK _ _ ⟨⟨hP7, hM7⟩, ?_⟩
    clear hK Kk
    refine all_one (fuel := 3) (i := 6) (by kernel_rfl) rfl rfl (fun Kk hK => ?_)
    refine oper_store rfl rfl rfl rfl rfl hZ7 (by rw [hel]; kernel_rfl) (by rw [hel]; rfl) (us := es) iE7.ones ?_
    obtain ⟨w8, hw8⟩ : ∃ x, w7.setRow (gg + 2) es.toArray = x := ⟨_, rfl⟩
    have hF8 : Fr (fun b => b = gg + 2) w7 w8 := by rw [← hw8]; exact Fr.row (X := fun b => b = gg + 2) rfl w7 es.toArray
    have hZ8 : Blk w8 (gg + 2) es 30 := by rw [← hw8]; exact hZ7.setAll es
    have hP8 := hP7.fr hF8 (by omega)
    have hM8 := hM7.fr hF8 (by omega)
    have hR8 := hR7.fr hF8 (by omega)
    have iE8 := iE7.fr hF8 (fun b hb hx => by have hx' : b = gg + 2 := hx; have hb' : w0.heap.size ≤ b := hb; omega)
    have iF8 := iF.fr hF8 (fun b hb hx => by have hx' : b = gg + 2 := hx; have hb' : w6.heap.size ≤ b := hb; omega)
    have b8 := hF8.below b7 b7.size (fun b hb => by have hb' : b = gg + 2 := hb; omega)
    have s8 := hF8.size
    rw [hw8]
    refine hK _ _ ⟨⟨hP8, hM8⟩, ?_⟩
    clear hK Kk hw8
    refine all_one (fuel := 2) (i := 7) (by kernel_rfl) rfl rfl (fun Kk hK => ?_)
    go_simp
    refine hK _ _ ⟨⟨hP8, hM8⟩, ?_⟩
    clear hK Kk
    refine all_one (fuel := 1) (i := 8) (by kernel_rfl) rfl rfl (fun Kk hK => ?_)
    refine oper_store rfl rfl rfl rfl rfl hR8 (by rw [hfl]; kernel_rfl) (by rw [hfl]; rfl) (us := fs) iF8.ones ?_
    obtain ⟨w9, hw9⟩ : ∃ x, w8.setRow (gg + 3) fs.toArray = x := ⟨_, rfl⟩
    have hF9 : Fr (fun b => b = gg + 3) w8 w9 := by rw [← hw9]; exact Fr.row (X := fun b => b = gg + 3) rfl w8 fs.toArray
    have hR9 : Blk w9 (gg + 3) fs 49 := by rw [← hw9]; exact hR8.setAll fs
    have hP9 := hP8.fr hF9 (by omega)
    have hM9 := hM8.fr hF9 (by omega)
    have hZ9 := hZ8.fr hF9 (by omega)
    have iE9 := iE8.fr hF9 (fun b hb hx => by have hx' : b = gg + 3 := hx; have hb' : w0.heap.size ≤ b := hb; omega)
    have iF9 := iF8.fr hF9 (fun b hb hx => by have hx' : b = gg + 3 := hx; have hb' : w6.heap.size ≤ b := hb; omega)
    have b9 := hF9.below b8 b8.size (fun b hb => by have hb' : b = gg + 3 := hb; omega)
    rw [hw9]
    refine hK _ _ ⟨⟨hP9, hM9⟩, ?_⟩
    clear hK Kk hw9
    refine all_one (fuel := 0) (i := 9) (by kernel_rfl) rfl rfl (fun Kk hK => ?_)
    go_simp
    refine hK _ _ ⟨⟨hP9, hM9⟩, ?_⟩
    clear hK Kk
    refine wpAnyH_done (by kernel_rfl) ?_ _
    try simp only [Act.put, List.setIfInBounds_toArray, List.set_cons_zero, List.set_cons_succ, List.getElem_toArray, List.getElem_cons_zero, List.getElem_cons_succ]
    go_wp2
    refine bodyPost_ret (results_cell4 rfl rfl rfl hZ9 hR9 Try.underlying30 rfl (by rw [hel]; kernel_rfl) Try.underlying49 rfl (by rw [hfl]; kernel_rfl)) rfl ?_
    refine TakeIs.to ?_ HF.out
    refine ⟨es, none, 0, 0, fs, rfl, ?_, zeroL_is, ?_, by first | exact b9 | (rw [← hgg]; exact b9)⟩
    · exact iE9.mono (fun b hb => by have hb' : w0.heap.size ≤ b := hb; first | (show w.heap.size ≤ b; omega) | (show gg ≤ b; omega))
    · exact iF9.mono (fun b hb => by have hb' : w6.heap.size ≤ b := hb; first | (show w.heap.size ≤ b; omega) | (show gg ≤ b; omega))
  · have z0' := z0
    rcases bool_two ((k : Int) == 14) with k14 | k14
    rotate_left
    · have HF := hide (show takeD (id, g, v, se, bu, o, n, qu) (k, f, t, e, mv, nu, cm, no, nc, cl, ms, mo, (rk, rd), (me, mm), s, l) = nopD (id, g, v, se, bu, o, n, qu) by unfold takeD; rw [if_pos Q3.out, if_neg (by rw [k2]; decide), if_neg (by rw [k14]; decide)])
      go_wp2_with (first | (with_reducible refine stop_load 30 rfl ?_) | (with_reducible refine stop_store 30 rfl ?_) | (with_reducible refine stop_load 28 rfl ?_) | (with_reducible refine stop_store 28 rfl ?_) | (with_reducible refine stop_load 49 rfl ?_) | (with_reducible refine stop_store 49 rfl ?_) | (with_reducible refine stop_load 24 rfl ?_) | (with_reducible refine stop_store 24 rfl ?_) | (with_reducible refine stop_load 58 rfl ?_) | (with_reducible refine stop_store 58 rfl ?_))
      refine go_loadG rfl rfl (k := 0) rfl hP4 [.int .i64 id, c1, c2, .int .i64 v, .int .i64 se, .bool bu, c6, c7, c8, c9, c10, c11, c12, .int .i64 qu] rfl Try.underlying30 rfl (by kernel_rfl) ?_
      go_wp2_with (first | (with_reducible refine stop_load 30 rfl ?_) | (with_reducible refine stop_store 30 rfl ?_) | (with_reducible refine stop_load 28 rfl ?_) | (with_reducible refine stop_store 28 rfl ?_) | (with_reducible refine stop_load 49 rfl ?_) | (with_reducible refine stop_store 49 rfl ?_) | (with_reducible refine stop_load 24 rfl ?_) | (with_reducible refine stop_store 24 rfl ?_) | (with_reducible refine stop_load 58 rfl ?_) | (with_reducible refine stop_store 58 rfl ?_))
      refine go_store rfl rfl rfl rfl rfl hZ4 (by kernel_rfl) rfl (us := [.int .i64 id, c1, c2, .int .i64 v, .int .i64 se, .bool bu, c6, c7, c8, c9, c10, c11, c12, .int .i64 qu]) iD4.ones ?_
      obtain ⟨wy, hwy⟩ : ∃ x, w4.setRow (gg + 2) #[.int .i64 id, c1, c2, .int .i64 v, .int .i64 se, .bool bu, c6, c7, c8, c9, c10, c11, c12, .int .i64 qu] = x := ⟨_, rfl⟩
      have hFy : Fr (fun b => b = gg + 2) w4 wy := by rw [← hwy]; exact Fr.row (X := fun b => b = gg + 2) rfl w4 _
      have hZy : Blk wy (gg + 2) [.int .i64 id, c1, c2, .int .i64 v, .int .i64 se, .bool bu, c6, c7, c8, c9, c10, c11, c12, .int .i64 qu] 30 := by rw [← hwy]; exact hZ4.setAll [.int .i64 id, c1, c2, .int .i64 v, .int .i64 se, .bool bu, c6, c7, c8, c9, c10, c11, c12, .int .i64 qu]
      have hRy := hR4.fr hFy (by omega)
      have iDy := iD4.fr hFy (fun b hb hx => by have hx' : b = gg + 2 := hx; have hb' : w0.heap.size ≤ b := hb; omega)
      have by' := hFy.below b4 b4.size (fun b hb => by have hb' : b = gg + 2 := hb; omega)
      have sy := hFy.size
      rw [hwy]
      clear hwy
      go_wp2_with (first | (with_reducible refine stop_load 30 rfl ?_) | (with_reducible refine stop_store 30 rfl ?_) | (with_reducible refine stop_load 28 rfl ?_) | (with_reducible refine stop_store 28 rfl ?_) | (with_reducible refine stop_load 49 rfl ?_) | (with_reducible refine stop_store 49 rfl ?_) | (with_reducible refine stop_load 24 rfl ?_) | (with_reducible refine stop_store 24 rfl ?_) | (with_reducible refine stop_load 58 rfl ?_) | (with_reducible refine stop_store 58 rfl ?_))
      refine go_store rfl rfl rfl rfl rfl hRy (by kernel_rfl) rfl (us := [.int .u8 0, .slice none 0 0]) (zeroR_is (w := w) (Q := fun _ => True)).ones ?_
      go_wp2
      have hF := Fr.row (X := fun b => b = gg + 3) rfl wy #[.int .u8 0, .slice none 0 0]
      refine bodyPost_ret (results_cell4 rfl rfl rfl (hZy.fr hF (by omega)) (hRy.setAll [.int .u8 0, .slice none 0 0]) Try.underlying30 rfl (by kernel_rfl) Try.underlying49 rfl (by kernel_rfl)) rfl ?_
      refine TakeIs.to ?_ HF.out
      refine ⟨[.int .i64 id, c1, c2, .int .i64 v, .int .i64 se, .bool bu, c6, c7, c8, c9, c10, c11, c12, .int .i64 qu], none, 0, 0, [.int .u8 0, .slice none 0 0], rfl, ?_, zeroL_is, zeroR_is, hF.below (by first | exact by' | (rw [← hgg]; exact by')) (by omega) (fun b hb => by have hb' : b = gg + 3 := hb; omega)⟩
      exact (iDy.fr hF (fun b hb hx => by have hx' : b = gg + 3 := hx; have hb' : w0.heap.size ≤ b := hb; omega)).mono (fun b hb => by have hb' : w0.heap.size ≤ b := hb; first | (show w.heap.size ≤ b; omega) | (show gg ≤ b; omega))
    go_wp2_with (first | (with_reducible refine stop_load 30 rfl ?_) | (with_reducible refine stop_store 30 rfl ?_) | (with_reducible refine stop_load 28 rfl ?_) | (with_reducible refine stop_store 28 rfl ?_) | (with_reducible refine stop_load 49 rfl ?_) | (with_reducible refine stop_store 49 rfl ?_) | (with_reducible refine stop_load 24 rfl ?_) | (with_reducible refine stop_store 24 rfl ?_) | (with_reducible refine stop_load 58 rfl ?_) | (with_reducible refine stop_store 58 rfl ?_))
    refine go_loadG rfl rfl (k := 0) rfl hP4 [.int .i64 id, c1, c2, .int .i64 v, .int .i64 se, .bool bu, c6, c7, c8, c9, c10, c11, c12, .int .i64 qu] rfl Try.underlying30 rfl (by kernel_rfl) ?_
    go_wp2_with (first | (with_reducible refine stop_load 30 rfl ?_) | (with_reducible refine stop_store 30 rfl ?_) | (with_reducible refine stop_load 28 rfl ?_) | (with_reducible refine stop_store 28 rfl ?_) | (with_reducible refine stop_load 49 rfl ?_) | (with_reducible refine stop_store 49 rfl ?_) | (with_reducible refine stop_load 24 rfl ?_) | (with_reducible refine stop_store 24 rfl ?_) | (with_reducible refine stop_load 58 rfl ?_) | (with_reducible refine stop_store 58 rfl ?_))
    refine go_loadG rfl rfl (k := 0) rfl hM4 [.int .u8 k, .int .i64 f, .int .i64 t, .int .i64 e, .int .i64 mv, .int .i64 nu, .int .i64 cm, .int .i64 no, .int .u64 nc, .int .i64 cl, .int .i64 ms, m11, m12, m13, m14, m15, .int .u8 rk, .slice rA rn rc, .int .i64 me, .slice mA mn mc, m20, m21, m22, m23, m24, m25, m26, m27] rfl Try.underlying58 rfl (by kernel_rfl) ?_
    go_wp2_with (first | (with_reducible refine stop_load 30 rfl ?_) | (with_reducible refine stop_store 30 rfl ?_) | (with_reducible refine stop_load 28 rfl ?_) | (with_reducible refine stop_store 28 rfl ?_) | (with_reducible refine stop_load 49 rfl ?_) | (with_reducible refine stop_store 49 rfl ?_) | (with_reducible refine stop_load 24 rfl ?_) | (with_reducible refine stop_store 24 rfl ?_) | (with_reducible refine stop_load 58 rfl ?_) | (with_reducible refine stop_store 58 rfl ?_))
    go_fit (newer_is iD4 (HM'.out.below b4))
    rintro xx w5 ⟨rfl, hd5⟩
    have b5 := b4.trans (hd5.mono b4.size)
    have s5 := hd5.size
    have hP5 := hP4.below hd5
    have hM5 := hM4.below hd5
    have hZ5 := hZ4.below hd5
    have hR5 := hR4.below hd5
    have iD5 := iD4.below hd5
    rcases bool_two (newB (id, g, v, se, bu, o, n, qu) (k, f, t, e, mv, nu, cm, no, nc, cl, ms, mo, (rk, rd), (me, mm), s, l)) with q4 | q4
    rotate_left
    · have HF := hide (show takeD (id, g, v, se, bu, o, n, qu) (k, f, t, e, mv, nu, cm, no, nc, cl, ms, mo, (rk, rd), (me, mm), s, l) = nopD (id, g, v, se, bu, o, n, qu) by unfold takeD; rw [if_pos Q3.out, if_neg (by rw [k2]; decide), if_pos k14, q4, if_neg Bool.false_ne_true])
      rw [q4]
      clear q4
      go_wp2_with (first | (with_reducible refine stop_load 30 rfl ?_) | (with_reducible refine stop_store 30 rfl ?_) | (with_reducible refine stop_load 28 rfl ?_) | (with_reducible refine stop_store 28 rfl ?_) | (with_reducible refine stop_load 49 rfl ?_) | (with_reducible refine stop_store 49 rfl ?_) | (with_reducible refine stop_load 24 rfl ?_) | (with_reducible refine stop_store 24 rfl ?_) | (with_reducible refine stop_load 58 rfl ?_) | (with_reducible refine stop_store 58 rfl ?_))
      refine go_loadG rfl rfl (k := 0) rfl hP5 [.int .i64 id, c1, c2, .int .i64 v, .int .i64 se, .bool bu, c6, c7, c8, c9, c10, c11, c12, .int .i64 qu] rfl Try.underlying30 rfl (by kernel_rfl) ?_
      go_wp2_with (first | (with_reducible refine stop_load 30 rfl ?_) | (with_reducible refine stop_store 30 rfl ?_) | (with_reducible refine stop_load 28 rfl ?_) | (with_reducible refine stop_store 28 rfl ?_) | (with_reducible refine stop_load 49 rfl ?_) | (with_reducible refine stop_store 49 rfl ?_) | (with_reducible refine stop_load 24 rfl ?_) | (with_reducible refine stop_store 24 rfl ?_) | (with_reducible refine stop_load 58 rfl ?_) | (with_reducible refine stop_store 58 rfl ?_))
      refine go_store rfl rfl rfl rfl rfl hZ5 (by kernel_rfl) rfl (us := [.int .i64 id, c1, c2, .int .i64 v, .int .i64 se, .bool bu, c6, c7, c8, c9, c10, c11, c12, .int .i64 qu]) iD5.ones ?_
      obtain ⟨wy, hwy⟩ : ∃ x, w5.setRow (gg + 2) #[.int .i64 id, c1, c2, .int .i64 v, .int .i64 se, .bool bu, c6, c7, c8, c9, c10, c11, c12, .int .i64 qu] = x := ⟨_, rfl⟩
      have hFy : Fr (fun b => b = gg + 2) w5 wy := by rw [← hwy]; exact Fr.row (X := fun b => b = gg + 2) rfl w5 _
      have hZy : Blk wy (gg + 2) [.int .i64 id, c1, c2, .int .i64 v, .int .i64 se, .bool bu, c6, c7, c8, c9, c10, c11, c12, .int .i64 qu] 30 := by rw [← hwy]; exact hZ5.setAll [.int .i64 id, c1, c2, .int .i64 v, .int .i64 se, .bool bu, c6, c7, c8, c9, c10, c11, c12, .int .i64 qu]
      have hRy := hR5.fr hFy (by omega)
      have iDy := iD5.fr hFy (fun b hb hx => by have hx' : b = gg + 2 := hx; have hb' : w0.heap.size ≤ b := hb; omega)
      have by' := hFy.below b5 b5.size (fun b hb => by have hb' : b = gg + 2 := hb; omega)
      have sy := hFy.size
      rw [hwy]
      clear hwy
      go_wp2_with (first | (with_reducible refine stop_load 30 rfl ?_) | (with_reducible refine stop_store 30 rfl ?_) | (with_reducible refine stop_load 28 rfl ?_) | (with_reducible refine stop_store 28 rfl ?_) | (with_reducible refine stop_load 49 rfl ?_) | (with_reducible refine stop_store 49 rfl ?_) | (with_reducible refine stop_load 24 rfl ?_) | (with_reducible refine stop_store 24 rfl ?_) | (with_reducible refine stop_load 58 rfl ?_) | (with_reducible refine stop_store 58 rfl ?_))
      refine go_store rfl rfl rfl rfl rfl hRy (by kernel_rfl) rfl (us := [.int .u8 0, .slice none 0 0]) (zeroR_is (w := w) (Q := fun _ => True)).ones ?_
      go_wp2
      have hF := Fr.row (X := fun b => b = gg + 3) rfl wy #[.int .u8 0, .slice none 0 0]
      refine bodyPost_ret (results_cell4 rfl rfl rfl (hZy.fr hF (by omega)) (hRy.setAll [.int .u8 0, .slice none 0 0]) Try.underlying30 rfl (by kernel_rfl) Try.underlying49 rfl (by kernel_rfl)) rfl ?_
      refine TakeIs.to ?_ HF.out
      refine ⟨[.int .i64 id, c1, c2, .int .i64 v, .int .i64 se, .bool bu, c6, c7, c8, c9, c10, c11, c12, .int .i64 qu], none, 0, 0, [.int .u8 0, .slice none 0 0], rfl, ?_, zeroL_is, zeroR_is, hF.below (by first | exact by' | (rw [← hgg]; exact by')) (by omega) (fun b hb => by have hb' : b = gg + 3 := hb; omega)⟩
      exact (iDy.fr hF (fun b hb hx => by have hx' : b = gg + 3 := hx; have hb' : w0.heap.size ≤ b := hb; omega)).mono (fun b hb => by have hb' : w0.heap.size ≤ b := hb; first | (show w.heap.size ≤ b; omega) | (show gg ≤ b; omega))
    have HF := hide (show takeD (id, g, v, se, bu, o, n, qu) (k, f, t, e, mv, nu, cm, no, nc, cl, ms, mo, (rk, rd), (me, mm), s, l) = (newD (id, g, v, se, bu, o, n, qu) (k, f, t, e, mv, nu, cm, no, nc, cl, ms, mo, (rk, rd), (me, mm), s, l), firstL (newD (id, g, v, se, bu, o, n, qu) (k, f, t, e, mv, nu, cm, no, nc, cl, ms, mo, (rk, rd), (me, mm), s, l)), (0, []), false) by unfold takeD; rw [if_pos Q3.out, if_neg (by rw [k2]; decide), if_pos k14, if_pos q4])
    have hml := newB_len q4
    rw [q4]
    clear q4
    go_wp2_with (first | (with_reducible refine stop_load 30 rfl ?_) | (with_reducible refine stop_store 30 rfl ?_) | (with_reducible refine stop_load 28 rfl ?_) | (with_reducible refine stop_store 28 rfl ?_) | (with_reducible refine stop_load 49 rfl ?_) | (with_reducible refine stop_store 49 rfl ?_) | (with_reducible refine stop_load 24 rfl ?_) | (with_reducible refine stop_store 24 rfl ?_) | (with_reducible refine stop_load 58 rfl ?_) | (with_reducible refine stop_store 58 rfl ?_))
    obtain ⟨wd, hwd⟩ : ∃ x, w5.drew = x := ⟨_, rfl⟩
    have hbd : Below w5.heap.size w5 wd := by rw [← hwd]; exact (Below.refl _ _).drew
    have hPd := hP5.below hbd
    have hMd := hM5.below hbd
    have hZd := hZ5.below hbd
    have hRd := hR5.below hbd
    have bd := b5.trans (hbd.mono b5.size)
    have sd := hbd.size
    have iDd := iD5.below hbd
    have hS0 : Blk w5.drew (gg + 1) [.int .u8 k, .int .i64 f, .int .i64 t, .int .i64 e, .int .i64 mv, .int .i64 nu, .int .i64 cm, .int .i64 no, .int .u64 nc, .int .i64 cl, .int .i64 ms, m11, m12, m13, m14, m15, .int .u8 rk, .slice rA rn rc, .int .i64 me, .slice mA mn mc, m20, m21, m22, m23, m24, m25, m26, m27] 58 := by rw [hwd]; exact hMd
    have jg5 := ((jg.below (((hd3.mono (Nat.le_refl _)).trans (hd4.mono s3)).trans (hd5.mono (by omega)))).below hbd)
    have jo5 := ((jo.below (((hd3.mono (Nat.le_refl _)).trans (hd4.mono s3)).trans (hd5.mono (by omega)))).below hbd)
    have jn5 := ((jn.below (((hd3.mono (Nat.le_refl _)).trans (hd4.mono s3)).trans (hd5.mono (by omega)))).below hbd)
    clear jg jo jn
    refine wp_region_held_drew (S := fun Z => Blk Z (gg + 1) [.int .u8 k, .int .i64 f, .int .i64 t, .int .i64 e, .int .i64 mv, .int .i64 nu, .int .i64 cm, .int .i64 no, .int .u64 nc, .int .i64 cl, .int .i64 ms, m11, m12, m13, m14, m15, .int .u8 rk, .slice rA rn rc, .int .i64 me, .slice mA mn mc, m20, m21, m22, m23, m24, m25, m26, m27] 58) (by kernel_rfl) hS0 (fun hS0 => ?_)
    refine wpAnyH_take (fuel := 10) (i := 0) (v := .pointer (some ⟨gg + 1, 18, none⟩)) rfl (by kernel_rfl) (by kernel_rfl) (by kernel_rfl) (fun _ _ _ h => h) (Or.inl ⟨by rfl, fun Z hZ => ?_⟩) hS0 ?_
    · go_simp
    refine wpAnyH_take (fuel := 9) (i := 1) (v := .agg #[.int .i64 me, .slice mA mn mc]) rfl (by kernel_rfl) (by kernel_rfl) (by kernel_rfl) (fun _ _ _ h => h) (yieldsIf_load_mid rfl 24 _ rfl (gg + 1) 18 rfl [.int .i64 me, .slice mA mn mc] _ (fun w hw => hw.part rfl) Try.underlying24 rfl (by kernel_rfl)) hS0 ?_
    refine wpAnyH_take (fuel := 8) (i := 3) (v := .pointer (some ⟨gg + 1, 4, none⟩)) rfl (by kernel_rfl) (by kernel_rfl) (by kernel_rfl) (fun _ _ _ h => h) (Or.inl ⟨by rfl, fun Z hZ => ?_⟩) hS0 ?_
    · go_simp
    refine wpAnyH_take (fuel := 7) (i := 4) (v := .int .i64 mv) rfl (by kernel_rfl) (by kernel_rfl) (by kernel_rfl) (fun _ _ _ h => h) (Or.inl ⟨by rfl, fun Z hZ => ?_⟩) hS0 ?_
    · have zz := Blk.cell hZ (j := 4) rfl; go_simp
    rw [hwd]
    refine all_one (fuel := 6) (i := 2) (by kernel_rfl) rfl rfl (fun Kk hK => ?_)
    go_simp
    go_fit (HCg.out wd bd hml)
    rintro e' w6 ⟨es, rfl, iG6, hd6⟩
    obtain ⟨d0, d1, rfl⟩ := list_2 (iG6.len : es.length = 2)
    have b6 := bd.trans (hd6.mono bd.size)
    have s6 := hd6.size
    have hP6 := hPd.below hd6
    have hM6 := hMd.below hd6
    have hZ6 := hZd.below hd6
    have hR6 := hRd.below hd6
    have io6 := jo5.below hd6
    have in6 := jn5.below hd6
    refine hK _ _ ⟨hM6, ?_⟩
    clear hK Kk
    refine all_one (fuel := 5) (i := 5) (by kernel_rfl) rfl rfl (fun Kk hK => ?_)
    go_simp
    refine hK _ _ ⟨hM6, ?_⟩
    clear hK Kk
    refine all_one (fuel := 4) (i := 6) (by kernel_rfl) rfl rfl (fun Kk hK => ?_)
    refine wp_store_mid 24 _ _ rfl gg 1 #[d0, d1] rfl rfl (Blk.thereAt hP6 (by simp)) (by kernel_rfl) (all_oneCell_toArray iG6.ones) ?_
    obtain ⟨w7, hw7⟩ : ∃ x, w6.setCells gg 1 [d0, d1] = x := ⟨_, rfl⟩
    have hP7 : Blk w7 gg [.int .i64 id, d0, d1, .int .i64 v, .int .i64 se, .bool bu, c6, c7, c8, c9, c10, c11, c12, .int .i64 qu] 30 := by rw [← hw7]; exact ((hP6.set 1 (d0)).set 2 (d1))
    have hF7 : Fr (fun b => b = gg) w6 w7 := by rw [← hw7]; exact Fr.sets (X := fun b => b = gg) rfl _ _ _
    have hM7 := hM6.fr hF7 (by omega)
    have hZ7 := hZ6.fr hF7 (by omega)
    have hR7 := hR6.fr hF7 (by omega)
    have iG7 := iG6.fr hF7 (fun b hb hx => by have hx' : b = gg := hx; have hb' : wd.heap.size ≤ b := hb; omega)
    have io7 := io6.fr hF7 (fun b hb hx => fr0 b hb hx)
    have in7 := in6.fr hF7 (fun b hb hx => fr0 b hb hx)
    have b7 := hF7.below b6 b6.size (fun b hb => by have hb' : b = gg := hb; omega)
    have s7 := hF7.size
    rw [hw7]
    clear hw7
    refine hK _ _ ⟨hM7, ?_⟩
    clear hK Kk
    refine all_one (fuel := 3) (i := 7) (by kernel_rfl) rfl rfl (fun Kk hK => ?_)
    go_simp
    refine hK _ _ ⟨hM7, ?_⟩
    clear hK Kk
    refine all_one (fuel := 2) (i := 8) (by kernel_rfl) rfl rfl (fun Kk hK => ?_)
    have y3 := hP7.cell (j := 3) rfl
    have f3 := hP7.frozen 3
    go_simp
    obtain ⟨w8, hw8⟩ : ∃ x, w7.setCell ⟨gg, 3, none⟩ (.int .i64 mv) = x := ⟨_, rfl⟩
    have hP8 : Blk w8 gg [.int .i64 id, d0, d1, .int .i64 mv, .int .i64 se, .bool bu, c6, c7, c8, c9, c10, c11, c12, .int .i64 qu] 30 := by rw [← hw8]; exact hP7.set 3 _
    have hF8 : Fr (fun b => b = gg) w7 w8 := by rw [← hw8]; exact Fr.set (X := fun b => b = gg) w7 ⟨gg, 3, none⟩ _ rfl
    have hM8 := hM7.fr hF8 (by omega)
    have hZ8 := hZ7.fr hF8 (by omega)
    have hR8 := hR7.fr hF8 (by omega)
    have iG8 := iG7.fr hF8 (fun b hb hx => by have hx' : b = gg := hx; have hb' : wd.heap.size ≤ b := hb; omega)
    have io8 := io7.fr hF8 (fun b hb hx => fr0 b hb hx)
    have in8 := in7.fr hF8 (fun b hb hx => fr0 b hb hx)
    have b8 := hF8.below b7 b7.size (fun b hb => by have hb' : b = gg := hb; omega)
    have s8 := hF8.size
    rw [hw8]
    clear hw8
    refine hK _ _ ⟨hM8, ?_⟩
    clear hK Kk
    refine all_one (fuel := 1) (i := 9) (by kernel_rfl) rfl rfl (fun Kk hK => ?_)
    go_simp
    refine hK _ _ ⟨hM8, ?_⟩
    clear hK Kk
    refine all_one (fuel := 0) (i := 10) (by kernel_rfl) rfl rfl (fun Kk hK => ?_)
    have y13 := hP8.cell (j := 13) rfl
    have f13 := hP8.frozen 13
    go_simp
    obtain ⟨w9, hw9⟩ : ∃ x, w8.setCell ⟨gg, 13, none⟩ (.int .i64 0) = x := ⟨_, rfl⟩
    have hP9 : Blk w9 gg [.int .i64 id, d0, d1, .int .i64 mv, .int .i64 se, .bool bu, c6, c7, c8, c9, c10, c11, c12, .int .i64 0] 30 := by rw [← hw9]; exact hP8.set 13 _
    have hF9 : Fr (fun b => b = gg) w8 w9 := by rw [← hw9]; exact Fr.set (X := fun b => b = gg) w8 ⟨gg, 13, none⟩ _ rfl
    have hM9 := hM8.fr hF9 (by omega)
    have hZ9 := hZ8.fr hF9 (by omega)
    have hR9 := hR8.fr hF9 (by omega)
    have iG9 := iG8.fr hF9 (fun b hb hx => by have hx' : b = gg := hx; have hb' : wd.heap.size ≤ b := hb; omega)
    have io9 := io8.fr hF9 (fun b hb hx => fr0 b hb hx)
    have in9 := in8.fr hF9 (fun b hb hx => fr0 b hb hx)
    have b9 := hF9.below b8 b8.size (fun b hb => by have hb' : b = gg := hb; omega)
    have s9 := hF9.size
    rw [hw9]
    clear hw9
    refine hK _ _ ⟨hM9, ?_⟩
    clear hK Kk
    refine wpAnyH_done (by kernel_rfl) ?_ _
    try simp only [Act.put, List.setIfInBounds_toArray, List.set_cons_zero, List.set_cons_succ, List.getElem_toArray, List.getElem_cons_zero, List.getElem_cons_succ]
    have hNI : tyProxy.Is w9 (fun b => w0.heap.size ≤ b) (id, (me, mm), mv, se, bu, o, n, 0) [.int .i64 id, d0, d1, .int .i64 mv, .int .i64 se, .bool bu, c6, c7, c8, c9, c10, c11, c12, .int .i64 0] := Proxy_shut p1 hvb p3 (by omega) (iG9.mono (fun b hb => by have hb' : wd.heap.size ≤ b := hb; show w0.heap.size ≤ b; omega)) io9 in9
    have hLF := hide (show LightP (id, (me, mm), mv, se, bu, o, n, 0) from ⟨hml, hL.d, hL.q, hL.n⟩)
    go_wp2_with (first | (with_reducible refine stop_load 30 rfl ?_) | (with_reducible refine stop_store 30 rfl ?_) | (with_reducible refine stop_load 28 rfl ?_) | (with_reducible refine stop_store 28 rfl ?_) | (with_reducible refine stop_load 49 rfl ?_) | (with_reducible refine stop_store 49 rfl ?_) | (with_reducible refine stop_load 24 rfl ?_) | (with_reducible refine stop_store 24 rfl ?_) | (with_reducible refine stop_load 58 rfl ?_) | (with_reducible refine stop_store 58 rfl ?_))
    obtain ⟨wf, hwf⟩ : ∃ x, w9.drew = x := ⟨_, rfl⟩
    have hbf : Below w9.heap.size w9 wf := by rw [← hwf]; exact (Below.refl _ _).drew
    have hPf := hP9.below hbf
    have hZf := hZ9.below hbf
    have hRf := hR9.below hbf
    have iDf := hNI.below hbf
    have bf := b9.trans (hbf.mono b9.size)
    have sf := hbf.size
    have hS0 : Blk w9.drew gg [.int .i64 id, d0, d1, .int .i64 mv, .int .i64 se, .bool bu, c6, c7, c8, c9, c10, c11, c12, .int .i64 0] 30 := by rw [hwf]; exact hPf
    refine wp_region_held_drew (S := fun Z => Blk Z gg [.int .i64 id, d0, d1, .int .i64 mv, .int .i64 se, .bool bu, c6, c7, c8, c9, c10, c11, c12, .int .i64 0] 30) (by kernel_rfl) hS0 (fun hS0 => ?_)
    refine wpAnyH_take (fuel := 7) (i := 0) (v := .agg #[.int .i64 id, d0, d1, .int .i64 mv, .int .i64 se, .bool bu, c6, c7, c8, c9, c10, c11, c12, .int .i64 0]) rfl (by kernel_rfl) (by kernel_rfl) (by kernel_rfl) (fun _ _ _ h => h) (yieldsIf_load_mid rfl 30 _ rfl gg 0 rfl [.int .i64 id, d0, d1, .int .i64 mv, .int .i64 se, .bool bu, c6, c7, c8, c9, c10, c11, c12, .int .i64 0] _ (fun w hw => hw.range) Try.underlying30 rfl (by kernel_rfl)) hS0 ?_
    refine wpAnyH_take (fuel := 6) (i := 1) (v := .agg #[.int .i64 id, d0, d1, .int .i64 mv, .int .i64 se, .bool bu, c6, c7, c8, c9, c10, c11, c12, .int .i64 0]) rfl (by kernel_rfl) (by kernel_rfl) (by kernel_rfl) (fun _ _ _ h => h) (yieldsIf_load_mid rfl 30 _ rfl gg 0 rfl [.int .i64 id, d0, d1, .int .i64 mv, .int .i64 se, .bool bu, c6, c7, c8, c9, c10, c11, c12, .int .i64 0] _ (fun w hw => hw.range) Try.underlying30 rfl (by kernel_rfl)) hS0 ?_
    refine wpAnyH_take (fuel := 5) (i := 3) (v := .agg #[.int .u8 0, .slice none 0 0]) rfl (by kernel_rfl) (by kernel_rfl) (by kernel_rfl) (fun _ _ _ h => h) (Or.inl ⟨by rfl, fun Z hZ => ?_⟩) hS0 ?_
    · go_simp
    rw [hwf]
    refine all_one (fuel := 4) (i := 2) (by kernel_rfl) rfl rfl (fun Kk hK => ?_)
    go_simp
    go_fit (mfirst_any iDf hid hLF.out)
    rintro xx wg ⟨A7, n7, k7, rfl, iL7, hd7⟩
    have s7' := hd7.size
    have bg := bf.trans (hd7.mono bf.size)
    have hPg := hPf.below hd7
    have hZg := hZf.below hd7
    have hRg := hRf.below hd7
    have iDg := iDf.below hd7
    refine hK _ _ ⟨hPg, ?_⟩
    clear hK Kk
    refine all_one (fuel := 3) (i := 4) (by kernel_rfl) rfl rfl (fun Kk hK => ?_)
    refine oper_store rfl rfl rfl rfl rfl hZg (by kernel_rfl) rfl (us := [.int .i64 id, d0, d1, .int .i64 mv, .int .i64 se, .bool bu, c6, c7, c8, c9, c10, c11, c12, .int .i64 0]) iDg.ones ?_
    obtain ⟨wh, hwh⟩ : ∃ x, wg.setRow (gg + 2) #[.int .i64 id, d0, d1, .int .i64 mv, .int .i64 se, .bool bu, c6, c7, c8, c9, c10, c11, c12, .int .i64 0] = x := ⟨_, rfl⟩
    have hFh : Fr (fun b => b = gg + 2) wg wh := by rw [← hwh]; exact Fr.row (X := fun b => b = gg + 2) rfl wg _
    have hZh : Blk wh (gg + 2) [.int .i64 id, d0, d1, .int .i64 mv, .int .i64 se, .bool bu, c6, c7, c8, c9, c10, c11, c12, .int .i64 0] 30 := by rw [← hwh]; exact hZg.setAll [.int .i64 id, d0, d1, .int .i64 mv, .int .i64 se, .bool bu, c6, c7, c8, c9, c10, c11, c12, .int .i64 0]
    have hPh := hPg.fr hFh (by omega)
    have hRh := hRg.fr hFh (by omega)
    have iDh := iDg.fr hFh (fun b hb hx => by have hx' : b = gg + 2 := hx; have hb' : w0.heap.size ≤ b := hb; omega)
    have iLh := iL7.fr hFh (fun b hb hx => by have hx' : b = gg + 2 := hx; have hb' : wf.heap.size ≤ b := hb; omega)
    have bh := hFh.below bg bg.size (fun b hb => by have hb' : b = gg + 2 := hb; omega)
    have sh := hFh.size
    rw [hwh]
    refine hK _ _ ⟨hPh, ?_⟩
    clear hK Kk hwh
    refine all_one (fuel := 2) (i := 5) (by kernel_rfl) rfl rfl (fun Kk hK => ?_)
    go_simp
    refine hK _ _ ⟨hPh, ?_⟩
    clear hK Kk
    refine all_one (fuel := 1) (i := 6) (by kernel_rfl) rfl rfl (fun Kk hK => ?_)
    refine oper_store rfl rfl rfl rfl rfl hRh (by kernel_rfl) rfl (us := [.int .u8 0, .slice none 0 0]) (zeroR_is (w := w) (Q := fun _ => True)).ones ?_
    obtain ⟨wi, hwi⟩ : ∃ x, wh.setRow (gg + 3) #[.int .u8 0, .slice none 0 0] = x := ⟨_, rfl⟩
    have hFi : Fr (fun b => b = gg + 3) wh wi := by rw [← hwi]; exact Fr.row (X := fun b => b = gg + 3) rfl wh _
    have hRi : Blk wi (gg + 3) [.int .u8 0, .slice none 0 0] 49 := by rw [← hwi]; exact hRh.setAll [.int .u8 0, .slice none 0 0]
    have hPi := hPh.fr hFi (by omega)
    have hZi := hZh.fr hFi (by omega)
    have iDi := iDh.fr hFi (fun b hb hx => by have hx' : b = gg + 3 := hx; have hb' : w0.heap.size ≤ b := hb; omega)
    have iLi := iLh.fr hFi (fun b hb hx => by have hx' : b = gg + 3 := hx; have hb' : wf.heap.size ≤ b := hb; omega)
    have bi := hFi.below bh bh.size (fun b hb => by have hb' : b = gg + 3 := hb; omega)
    rw [hwi]
    refine hK _ _ ⟨hPi, ?_⟩
    clear hK Kk hwi
    refine all_one (fuel := 0) (i := 7) (by kernel_rfl) rfl rfl (fun Kk hK => ?_)
    go_simp
    refine hK _ _ ⟨hPi, ?_⟩
    clear hK Kk
    refine wpAnyH_done (by kernel_rfl) ?_ _
    try simp only [Act.put, List.setIfInBounds_toArray, List.set_cons_zero, List.set_cons_succ, List.getElem_toArray, List.getElem_cons_zero, List.getElem_cons_succ]
    go_wp2
    refine bodyPost_ret (results_cell4 rfl rfl rfl hZi hRi Try.underlying30 rfl (by kernel_rfl) Try.underlying49 rfl (by kernel_rfl)) rfl ?_
    refine TakeIs.to ?_ HF.out
    refine ⟨[.int .i64 id, d0, d1, .int .i64 mv, .int .i64 se, .bool bu, c6, c7, c8, c9, c10, c11, c12, .int .i64 0], A7, n7, k7, [.int .u8 0, .slice none 0 0], rfl, ?_, ?_, zeroR_is, by first | exact bi | (rw [← hgg]; exact bi)⟩
    · exact iDi.mono (fun b hb => by have hb' : w0.heap.size ≤ b := hb; first | (show w.heap.size ≤ b; omega) | (show gg ≤ b; omega))
    · exact iLi.mono (fun b hb => by have hb' : wf.heap.size ≤ b := hb; first | (show w.heap.size ≤ b; omega) | (show gg ≤ b; omega))
end Go.Proofs.Ytlcbelmbonaooaa
