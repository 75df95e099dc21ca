/- Stage 24: clients opened one level; requests (written by gen_24l.py). -/
import Derived.Test.YtlcbelmbonaooaaF24g
import Derived.Test.YtlcbelmbonaooaaF24i
import Derived.Test.YtlcbelmbonaooaaF24k
namespace Go.Proofs.Ytlcbelmbonaooaa
set_option maxRecDepth 20000
open Go.RowKit Go.Px Go.Maps
set_option linter.unusedVariables false
theorem Group_cells {w : World} {Q : Nat → Prop} {g : GroupD} {a b : Value} (h : tyGroup.Is w Q g [a, b]) : ∃ A n c, a = .int .i64 g.1 ∧ b = .slice A n c ∧ (-9223372036854775808 ≤ g.1 ∧ g.1 ≤ 9223372036854775807) ∧ g.2.length = n ∧ n ≤ c ∧ c ≤ 9223372036854775807 ∧ Rd w A (ints g.2) ∧ ∀ x ∈ g.2, -9223372036854775808 ≤ x ∧ x ≤ 9223372036854775807 := by
  obtain ⟨ge, gm⟩ := g
  obtain ⟨⟨rfl, q⟩, ⟨A, n, c, vs, rfl, hl, hc, hm, hr, hq, he⟩⟩ := h
  obtain ⟨hmi, hri⟩ := i64rows he
  subst hmi
  exact ⟨A, n, c, rfl, rfl, q, hl, hc, hm, hr, hri⟩
theorem Result_cells {w : World} {Q : Nat → Prop} {g : ResultD} {a b : Value} (h : tyResult.Is w Q g [a, b]) : ∃ A n c, a = .int .u8 g.1 ∧ b = .slice A n c ∧ g.1 < 256 ∧ g.2.length = n ∧ n ≤ c ∧ c ≤ 9223372036854775807 ∧ Rd w A (bys g.2) := by
  obtain ⟨ge, gm⟩ := g
  obtain ⟨⟨rfl, q⟩, ⟨A, n, c, rfl, hl, hc, hm, hr, hq⟩⟩ := h
  exact ⟨A, n, c, rfl, rfl, q, hl, hc, hm, hr⟩
theorem Row_cell {w : World} {Q : Nat → Prop} {t : Ty} {l : List t.Den} {a : Value} (h : (Ty.row t).Is w Q l [a]) : ∃ A n c vs, a = .slice A n c ∧ l.length = n ∧ n ≤ c ∧ c ≤ 9223372036854775807 ∧ Rd w A vs ∧ (l ≠ [] → ∀ b, A = some b → Q b.block) ∧ t.Rows w Q l vs := h
set_option maxRecDepth 20000 in
set_option maxHeartbeats 3200000 in
theorem Proxy_parts {w : World} {Q : Nat → Prop} {x : ProxyD} {cs : List Value} (h : tyProxy.Is w Q x cs) :
    ∃ (id : Int) (g : GroupD) (v se : Int) (bu : Bool) (o : OpD) (n : GroupD) (qu : Int) (c1 c2 c6 c7 c8 c9 c10 c11 c12 : Value),
      x = (id, g, v, se, bu, o, n, qu) ∧ cs = [.int .i64 id, c1, c2, .int .i64 v, .int .i64 se, .bool bu, c6, c7, c8, c9, c10, c11, c12, .int .i64 qu] ∧ (-9223372036854775808 ≤ id ∧ id ≤ 9223372036854775807) ∧ (-9223372036854775808 ≤ v ∧ v ≤ 9223372036854775807) ∧ (-9223372036854775808 ≤ se ∧ se ≤ 9223372036854775807) ∧ (-9223372036854775808 ≤ qu ∧ qu ≤ 9223372036854775807) ∧ tyGroup.Is w Q g [c1, c2] ∧ tyOp.Is w Q o [c6, c7, c8, c9, c10] ∧ tyGroup.Is w Q n [c11, c12] := by
  obtain ⟨c0, c1, c2, c3, c4, c5, c6, c7, c8, c9, c10, c11, c12, c13, rfl⟩ := list_14 (h.len : cs.length = 14)
  obtain ⟨id, g, v, se, bu, o, n, qu⟩ := x
  obtain ⟨⟨rfl, q0⟩, hg, ⟨rfl, q3⟩, ⟨rfl, q4⟩, rfl, ho, hn, ⟨rfl, q13⟩⟩ := h
  exact ⟨id, g, v, se, bu, o, n, qu, c1, c2, c6, c7, c8, c9, c10, c11, c12, rfl, rfl, q0, q3, q4, q13, hg, ho, hn⟩
theorem Proxy_shut {W : World} {Q : Nat → Prop} {id v se qu : Int} {bu : Bool} {g n : GroupD} {o : OpD} {c1 c2 c6 c7 c8 c9 c10 c11 c12 : Value} (b1 : -9223372036854775808 ≤ id ∧ id ≤ 9223372036854775807) (b2 : -9223372036854775808 ≤ v ∧ v ≤ 9223372036854775807) (b3 : -9223372036854775808 ≤ se ∧ se ≤ 9223372036854775807) (b4 : -9223372036854775808 ≤ qu ∧ qu ≤ 9223372036854775807) (hg : tyGroup.Is W Q g [c1, c2]) (ho : tyOp.Is W Q o [c6, c7, c8, c9, c10]) (hn : tyGroup.Is W Q n [c11, c12]) :
    tyProxy.Is W Q (id, g, v, se, bu, o, n, qu) [.int .i64 id, c1, c2, .int .i64 v, .int .i64 se, .bool bu, c6, c7, c8, c9, c10, c11, c12, .int .i64 qu] := ⟨⟨rfl, b1⟩, hg, ⟨rfl, b2⟩, ⟨rfl, b3⟩, rfl, ho, hn, ⟨rfl, b4⟩⟩
set_option maxRecDepth 20000 in
set_option maxHeartbeats 3200000 in
theorem Msg_shut {W : World} {Q : Nat → Prop} {k nc : Nat} {f t e v nu cm no cl se : Int} {o : OpD} {r : ResultD} {g : GroupD} {s : StateD} {l : List EntryD} {d11 d12 d13 d14 d15 d16 d17 d18 d19 d20 d21 d22 d23 d24 d25 d26 d27 : Value} (q_k : k < 256) (q_f : -9223372036854775808 ≤ f ∧ f ≤ 9223372036854775807) (q_t : -9223372036854775808 ≤ t ∧ t ≤ 9223372036854775807) (q_e : -9223372036854775808 ≤ e ∧ e ≤ 9223372036854775807) (q_v : -9223372036854775808 ≤ v ∧ v ≤ 9223372036854775807) (q_nu : -9223372036854775808 ≤ nu ∧ nu ≤ 9223372036854775807) (q_cm : -9223372036854775808 ≤ cm ∧ cm ≤ 9223372036854775807) (q_no : -9223372036854775808 ≤ no ∧ no ≤ 9223372036854775807) (q_nc : nc < 18446744073709551616) (q_cl : -9223372036854775808 ≤ cl ∧ cl ≤ 9223372036854775807) (q_se : -9223372036854775808 ≤ se ∧ se ≤ 9223372036854775807)
    (jo : tyOp.Is W Q o [d11, d12, d13, d14, d15]) (jr : tyResult.Is W Q r [d16, d17]) (jg : tyGroup.Is W Q g [d18, d19]) (js : tyState.Is W Q s [d20, d21, d22, d23, d24, d25, d26]) (jl : (Ty.row tyEntry).Is W Q l [d27]) :
    tyMsg.Is W Q (k, f, t, e, v, nu, cm, no, nc, cl, se, o, r, g, s, l) [.int .u8 k, .int .i64 f, .int .i64 t, .int .i64 e, .int .i64 v, .int .i64 nu, .int .i64 cm, .int .i64 no, .int .u64 nc, .int .i64 cl, .int .i64 se, d11, d12, d13, d14, d15, d16, d17, d18, d19, d20, d21, d22, d23, d24, d25, d26, d27] := ⟨⟨rfl, q_k⟩, ⟨rfl, q_f⟩, ⟨rfl, q_t⟩, ⟨rfl, q_e⟩, ⟨rfl, q_v⟩, ⟨rfl, q_nu⟩, ⟨rfl, q_cm⟩, ⟨rfl, q_no⟩, ⟨rfl, q_nc⟩, ⟨rfl, q_cl⟩, ⟨rfl, q_se⟩, jo, jr, jg, js, jl⟩
/-- A client's request to a node. -/
def reqD : ProxyD → Int → MsgD
  | (id, g, v, se, bu, o, n, qu), to => (1, -id, to, g.1, 0, 0, 0, 0, 0, 0, se, o, (0, []), n, zeroS, [])
/-- The request to the primary, if it is busy. -/
def firstL (p : ProxyD) : List MsgD := if p.2.2.2.2.1 = true then [reqD p (primN p.2.1.1 p.2.1.2 p.2.2.1)] else []
/-- What of a client is copied is not too long. -/
structure LightP (x : ProxyD) : Prop where
  g : x.2.1.2.length ≤ 1099511627776
  d : x.2.2.2.2.2.1.2.2.2.1.length ≤ 1099511627776
  q : x.2.2.2.2.2.1.2.2.2.2.length ≤ 1099511627776
  n : x.2.2.2.2.2.2.1.2.length ≤ 1099511627776
theorem zeroR_is {w : World} {Q : Nat → Prop} : tyResult.Is w Q (0, []) [.int .u8 0, .slice none 0 0] := Result_mk (by omega) rfl (by omega) (by omega) Rd.nil (fun hn => absurd rfl hn)
theorem zeroL_is {w : World} {Q : Nat → Prop} {t : Ty} : (Ty.row t).Is w Q [] [.slice none 0 0] := ⟨none, 0, 0, [], rfl, rfl, by omega, by omega, Rd.nil, fun hn => absurd rfl hn, Ty.Rows.nil⟩
end Go.Proofs.Ytlcbelmbonaooaa
namespace Go.Proofs.Ytlcbelmbonaooaa
set_option maxRecDepth 20000
open Go.RowKit Go.Px Go.Maps
set_option linter.unusedVariables false
set_option linter.unusedSimpArgs false
set_option maxRecDepth 20000 in
set_option maxHeartbeats 12800000 in
theorem mreq_any {w : World} {Q : Nat → Prop} {x : ProxyD} {cs : List Value} {to : Int} (h : tyProxy.Is w Q x cs) (hi : 1 ≤ x.1) (ht : -9223372036854775808 ≤ to ∧ to ≤ 9223372036854775807) (hL : LightP x) :
    Calls Try.prog 72 #[.agg cs.toArray, .int .i64 to] w fun e w' => ∃ ds, e = .returned (.agg ds.toArray) ∧ tyMsg.Is w' (fun b => w.heap.size ≤ b) (reqD x to) ds ∧ Below w.heap.size w w' := by
  obtain ⟨id, g, v, se, bu, o, n, qu, c1, c2, c6, c7, c8, c9, c10, c11, c12, rfl, rfl, b1, b2, b3, b4, hg, ho, hn⟩ := Proxy_parts h
  simp only at hi
  obtain ⟨ge, gm⟩ := g
  obtain ⟨A1, n1, k1, rfl, rfl, hge, -⟩ := Group_cells hg
  simp only at hge
  have hM := hide (fun (W : World) (R : Nat → Prop) (jo : tyOp.Is W R o [c6, c7, c8, c9, c10]) (jn : tyGroup.Is W R n [c11, c12]) => (Msg_shut (k := 1) (f := -id) (t := to) (e := ge) (v := 0) (nu := 0) (cm := 0) (no := 0) (nc := 0) (cl := 0) (se := se) (by omega) (by omega) ht hge (by omega) (by omega) (by omega) (by omega) (by omega) (by omega) b3 jo (zeroR_is (w := W) (Q := R)) jn (zeroS_is (w := W) (Q := R)) zeroL_is : tyMsg.Is W R (reqD (id, (ge, gm), v, se, bu, o, n, qu) to) [.int .u8 1, .int .i64 (-id), .int .i64 to, .int .i64 ge, .int .i64 0, .int .i64 0, .int .i64 0, .int .i64 0, .int .u64 0, .int .i64 0, .int .i64 se, c6, c7, c8, c9, c10, .int .u8 0, .slice none 0 0, c11, c12, .int .i64 0, .int .i64 0, .int .i64 0, .slice none 0 0, .slice none 0 0, .int .i64 0, .slice none 0 0, .slice none 0 0]))
  have hneg : IntKind.i64.wrap (-id) = -id := by
    exact IntWalk.i64_in _ (by omega)
  obtain ⟨gg, hgg⟩ : ∃ g, w.heap.size = g := ⟨_, rfl⟩
  obtain ⟨w0, hw0⟩ : ∃ x, (w.alloc (.cells #[.int .i64 id, .int .i64 ge, .slice A1 n1 k1, .int .i64 v, .int .i64 se, .bool bu, c6, c7, c8, c9, c10, c11, c12, .int .i64 qu] 30)).alloc (.cells #[.int .u8 0, .int .i64 0, .int .i64 0, .int .i64 0, .int .i64 0, .int .i64 0, .int .i64 0, .int .i64 0, .int .u64 0, .int .i64 0, .int .i64 0, .int .u8 0, .int .i64 0, .int .i64 0, .slice none 0 0, .slice none 0 0, .int .u8 0, .slice none 0 0, .int .i64 0, .slice none 0 0, .int .i64 0, .int .i64 0, .int .i64 0, .slice none 0 0, .slice none 0 0, .int .i64 0, .slice none 0 0, .slice none 0 0] 58) = x := ⟨_, rfl⟩
  have hP0 : Blk w0 gg [.int .i64 id, .int .i64 ge, .slice A1 n1 k1, .int .i64 v, .int .i64 se, .bool bu, c6, c7, c8, c9, c10, c11, c12, .int .i64 qu] 30 := by rw [← hw0, ← hgg]; exact (Blk.new w [.int .i64 id, .int .i64 ge, .slice A1 n1 k1, .int .i64 v, .int .i64 se, .bool bu, c6, c7, c8, c9, c10, c11, c12, .int .i64 qu] _).alloc _
  have hZ0 : Blk w0 (gg + 1) [.int .u8 0, .int .i64 0, .int .i64 0, .int .i64 0, .int .i64 0, .int .i64 0, .int .i64 0, .int .i64 0, .int .u64 0, .int .i64 0, .int .i64 0, .int .u8 0, .int .i64 0, .int .i64 0, .slice none 0 0, .slice none 0 0, .int .u8 0, .slice none 0 0, .int .i64 0, .slice none 0 0, .int .i64 0, .int .i64 0, .int .i64 0, .slice none 0 0, .slice none 0 0, .int .i64 0, .slice none 0 0, .slice none 0 0] 58 := by
    rw [← hw0, ← hgg]
    have := Blk.new (w.alloc (.cells #[.int .i64 id, .int .i64 ge, .slice A1 n1 k1, .int .i64 v, .int .i64 se, .bool bu, c6, c7, c8, c9, c10, c11, c12, .int .i64 qu] 30)) [.int .u8 0, .int .i64 0, .int .i64 0, .int .i64 0, .int .i64 0, .int .i64 0, .int .i64 0, .int .i64 0, .int .u64 0, .int .i64 0, .int .i64 0, .int .u8 0, .int .i64 0, .int .i64 0, .slice none 0 0, .slice none 0 0, .int .u8 0, .slice none 0 0, .int .i64 0, .slice none 0 0, .int .i64 0, .int .i64 0, .int .i64 0, .slice none 0 0, .slice none 0 0, .int .i64 0, .slice none 0 0, .slice none 0 0] 58
    rwa [World.size_alloc] at this
  have b0 : Below w.heap.size w w0 := by rw [← hw0]; exact ((Below.refl _ _).alloc (Nat.le_refl _) _).alloc (by simp) _
  have zl := hZ0.lt
  have Hw0 := hide hw0
  have s0 := b0.size
  obtain ⟨l1, l2, l3, l4⟩ := hL
  have hC := hide (cloneMsg0_any (hM.out w0 Q (ho.below b0) (hn.below b0)) ⟨l2, l3, Nat.zero_le _, l4, rfl, rfl, Nat.zero_le _, rfl⟩)
  clear l1 l2 l3 l4 hM
  clear hw0 h hg ho hn
  have y0 := hP0.cell (j := 0) rfl
  have y1 := hP0.cell (j := 1) rfl
  have y4 := hP0.cell (j := 4) rfl
  go_enter Try.func72, Try.ntmps72
  go_wp2_with (first | (with_reducible refine stop_load 28 rfl ?_) | (with_reducible refine stop_store 28 rfl ?_) | (with_reducible refine stop_load 24 rfl ?_) | (with_reducible refine stop_store 24 rfl ?_) | (with_reducible refine stop_load 58 rfl ?_) | (with_reducible refine stop_store 58 rfl ?_))
  rw [Hw0.out]
  refine go_loadM rfl rfl (k := 6) rfl hP0 [c6, c7, c8, c9, c10] rfl Try.underlying28 rfl (by kernel_rfl) ?_
  go_wp2_with (first | (with_reducible refine stop_load 28 rfl ?_) | (with_reducible refine stop_store 28 rfl ?_) | (with_reducible refine stop_load 24 rfl ?_) | (with_reducible refine stop_store 24 rfl ?_) | (with_reducible refine stop_load 58 rfl ?_) | (with_reducible refine stop_store 58 rfl ?_))
  refine go_loadM rfl rfl (k := 11) rfl hP0 [c11, c12] rfl Try.underlying24 rfl (by kernel_rfl) ?_
  go_wp2_with (first | (with_reducible refine stop_load 28 rfl ?_) | (with_reducible refine stop_store 28 rfl ?_) | (with_reducible refine stop_load 24 rfl ?_) | (with_reducible refine stop_store 24 rfl ?_) | (with_reducible refine stop_load 58 rfl ?_) | (with_reducible refine stop_store 58 rfl ?_))
  go_fit hC.out
  rintro xx w1 ⟨ds, rfl, iD, hd1⟩
  have hdl : ds.length = 28 := iD.len
  have hZ1 := hZ0.below hd1
  have s1 := hd1.size
  have b1' := b0.trans (hd1.mono s0)
  go_wp2_with (first | (with_reducible refine stop_load 28 rfl ?_) | (with_reducible refine stop_store 28 rfl ?_) | (with_reducible refine stop_load 24 rfl ?_) | (with_reducible refine stop_store 24 rfl ?_) | (with_reducible refine stop_load 58 rfl ?_) | (with_reducible refine stop_store 58 rfl ?_))
  refine go_store rfl rfl rfl rfl rfl hZ1 (by rw [hdl]; kernel_rfl) (by rw [hdl]; rfl) (us := ds) iD.ones ?_
  go_wp2
  refine bodyPost_ret (results_cell rfl rfl (hZ1.setAll ds) Try.underlying58 rfl (by rw [hdl]; kernel_rfl)) rfl ?_
  have hF := Fr.row (X := fun b => b = gg + 1) rfl w1 ds.toArray
  refine ⟨ds, rfl, ?_, hF.below (by first | exact b1' | (rw [← hgg]; exact b1')) (by omega) (fun b hb => by have hb' : b = gg + 1 := hb; omega)⟩
  exact (iD.fr hF (fun b hb hx => by have hx' : b = gg + 1 := hx; have hb' : w0.heap.size ≤ b := hb; omega)).mono (fun b hb => by have hb' : w0.heap.size ≤ b := hb; first | (show w.heap.size ≤ b; omega) | (show gg ≤ b; omega))
set_option maxRecDepth 20000 in
set_option maxHeartbeats 12800000 in
theorem rreq_any {w : World} {Q : Nat → Prop} {x : ProxyD} {cs : List Value} {to : Int} (h : tyProxy.Is w Q x cs) (hi : 1 ≤ x.1) (ht : -9223372036854775808 ≤ to ∧ to ≤ 9223372036854775807) :
    Calls Try.prog 53 #[.agg cs.toArray, .int .i64 to] w fun e w' => ∃ ds, e = .returned (.agg ds.toArray) ∧ tyMsg.Is w' (fun b => Q b) (reqD x to) ds ∧ Below w.heap.size w w' := by
  obtain ⟨id, g, v, se, bu, o, n, qu, c1, c2, c6, c7, c8, c9, c10, c11, c12, rfl, rfl, b1, b2, b3, b4, hg, ho, hn⟩ := Proxy_parts h
  simp only at hi
  obtain ⟨ge, gm⟩ := g
  obtain ⟨A1, n1, k1, rfl, rfl, hge, -⟩ := Group_cells hg
  simp only at hge
  have hM := hide (fun (W : World) (R : Nat → Prop) (jo : tyOp.Is W R o [c6, c7, c8, c9, c10]) (jn : tyGroup.Is W R n [c11, c12]) => (Msg_shut (k := 1) (f := -id) (t := to) (e := ge) (v := 0) (nu := 0) (cm := 0) (no := 0) (nc := 0) (cl := 0) (se := se) (by omega) (by omega) ht hge (by omega) (by omega) (by omega) (by omega) (by omega) (by omega) b3 jo (zeroR_is (w := W) (Q := R)) jn (zeroS_is (w := W) (Q := R)) zeroL_is : tyMsg.Is W R (reqD (id, (ge, gm), v, se, bu, o, n, qu) to) [.int .u8 1, .int .i64 (-id), .int .i64 to, .int .i64 ge, .int .i64 0, .int .i64 0, .int .i64 0, .int .i64 0, .int .u64 0, .int .i64 0, .int .i64 se, c6, c7, c8, c9, c10, .int .u8 0, .slice none 0 0, c11, c12, .int .i64 0, .int .i64 0, .int .i64 0, .slice none 0 0, .slice none 0 0, .int .i64 0, .slice none 0 0, .slice none 0 0]))
  have hneg : IntKind.i64.wrap (-id) = -id := by
    exact IntWalk.i64_in _ (by omega)
  obtain ⟨gg, hgg⟩ : ∃ g, w.heap.size = g := ⟨_, rfl⟩
  obtain ⟨w0, hw0⟩ : ∃ x, (w.alloc (.cells #[.int .i64 id, .int .i64 ge, .slice A1 n1 k1, .int .i64 v, .int .i64 se, .bool bu, c6, c7, c8, c9, c10, c11, c12, .int .i64 qu] 30)).alloc (.cells #[.int .u8 0, .int .i64 0, .int .i64 0, .int .i64 0, .int .i64 0, .int .i64 0, .int .i64 0, .int .i64 0, .int .u64 0, .int .i64 0, .int .i64 0, .int .u8 0, .int .i64 0, .int .i64 0, .slice none 0 0, .slice none 0 0, .int .u8 0, .slice none 0 0, .int .i64 0, .slice none 0 0, .int .i64 0, .int .i64 0, .int .i64 0, .slice none 0 0, .slice none 0 0, .int .i64 0, .slice none 0 0, .slice none 0 0] 58) = x := ⟨_, rfl⟩
  have hP0 : Blk w0 gg [.int .i64 id, .int .i64 ge, .slice A1 n1 k1, .int .i64 v, .int .i64 se, .bool bu, c6, c7, c8, c9, c10, c11, c12, .int .i64 qu] 30 := by rw [← hw0, ← hgg]; exact (Blk.new w [.int .i64 id, .int .i64 ge, .slice A1 n1 k1, .int .i64 v, .int .i64 se, .bool bu, c6, c7, c8, c9, c10, c11, c12, .int .i64 qu] _).alloc _
  have hZ0 : Blk w0 (gg + 1) [.int .u8 0, .int .i64 0, .int .i64 0, .int .i64 0, .int .i64 0, .int .i64 0, .int .i64 0, .int .i64 0, .int .u64 0, .int .i64 0, .int .i64 0, .int .u8 0, .int .i64 0, .int .i64 0, .slice none 0 0, .slice none 0 0, .int .u8 0, .slice none 0 0, .int .i64 0, .slice none 0 0, .int .i64 0, .int .i64 0, .int .i64 0, .slice none 0 0, .slice none 0 0, .int .i64 0, .slice none 0 0, .slice none 0 0] 58 := by
    rw [← hw0, ← hgg]
    have := Blk.new (w.alloc (.cells #[.int .i64 id, .int .i64 ge, .slice A1 n1 k1, .int .i64 v, .int .i64 se, .bool bu, c6, c7, c8, c9, c10, c11, c12, .int .i64 qu] 30)) [.int .u8 0, .int .i64 0, .int .i64 0, .int .i64 0, .int .i64 0, .int .i64 0, .int .i64 0, .int .i64 0, .int .u64 0, .int .i64 0, .int .i64 0, .int .u8 0, .int .i64 0, .int .i64 0, .slice none 0 0, .slice none 0 0, .int .u8 0, .slice none 0 0, .int .i64 0, .slice none 0 0, .int .i64 0, .int .i64 0, .int .i64 0, .slice none 0 0, .slice none 0 0, .int .i64 0, .slice none 0 0, .slice none 0 0] 58
    rwa [World.size_alloc] at this
  have b0 : Below w.heap.size w w0 := by rw [← hw0]; exact ((Below.refl _ _).alloc (Nat.le_refl _) _).alloc (by simp) _
  have zl := hZ0.lt
  have Hw0 := hide hw0
  have s0 := b0.size
  have hI := hM.out w0 _ (ho.here.below b0) (hn.here.below b0)
  clear hM
  clear hw0 h hg ho hn
  have y0 := hP0.cell (j := 0) rfl
  have y1 := hP0.cell (j := 1) rfl
  have y4 := hP0.cell (j := 4) rfl
  go_enter Try.func53, Try.ntmps53
  go_wp2_with (first | (with_reducible refine stop_load 28 rfl ?_) | (with_reducible refine stop_store 28 rfl ?_) | (with_reducible refine stop_load 24 rfl ?_) | (with_reducible refine stop_store 24 rfl ?_) | (with_reducible refine stop_load 58 rfl ?_) | (with_reducible refine stop_store 58 rfl ?_))
  rw [Hw0.out]
  refine go_loadM rfl rfl (k := 6) rfl hP0 [c6, c7, c8, c9, c10] rfl Try.underlying28 rfl (by kernel_rfl) ?_
  go_wp2_with (first | (with_reducible refine stop_load 28 rfl ?_) | (with_reducible refine stop_store 28 rfl ?_) | (with_reducible refine stop_load 24 rfl ?_) | (with_reducible refine stop_store 24 rfl ?_) | (with_reducible refine stop_load 58 rfl ?_) | (with_reducible refine stop_store 58 rfl ?_))
  refine go_loadM rfl rfl (k := 11) rfl hP0 [c11, c12] rfl Try.underlying24 rfl (by kernel_rfl) ?_
  go_wp2_with (first | (with_reducible refine stop_load 28 rfl ?_) | (with_reducible refine stop_store 28 rfl ?_) | (with_reducible refine stop_load 24 rfl ?_) | (with_reducible refine stop_store 24 rfl ?_) | (with_reducible refine stop_load 58 rfl ?_) | (with_reducible refine stop_store 58 rfl ?_))
  refine go_store rfl rfl rfl rfl rfl hZ0 (by kernel_rfl) rfl (us := [.int .u8 1, .int .i64 (-id), .int .i64 to, .int .i64 ge, .int .i64 0, .int .i64 0, .int .i64 0, .int .i64 0, .int .u64 0, .int .i64 0, .int .i64 se, c6, c7, c8, c9, c10, .int .u8 0, .slice none 0 0, c11, c12, .int .i64 0, .int .i64 0, .int .i64 0, .slice none 0 0, .slice none 0 0, .int .i64 0, .slice none 0 0, .slice none 0 0]) hI.ones ?_
  go_wp2
  refine bodyPost_ret (results_cell rfl rfl (hZ0.setAll [.int .u8 1, .int .i64 (-id), .int .i64 to, .int .i64 ge, .int .i64 0, .int .i64 0, .int .i64 0, .int .i64 0, .int .u64 0, .int .i64 0, .int .i64 se, c6, c7, c8, c9, c10, .int .u8 0, .slice none 0 0, c11, c12, .int .i64 0, .int .i64 0, .int .i64 0, .slice none 0 0, .slice none 0 0, .int .i64 0, .slice none 0 0, .slice none 0 0]) Try.underlying58 rfl (by kernel_rfl)) rfl ?_
  have hF := Fr.row (X := fun b => b = gg + 1) rfl w0 #[.int .u8 1, .int .i64 (-id), .int .i64 to, .int .i64 ge, .int .i64 0, .int .i64 0, .int .i64 0, .int .i64 0, .int .u64 0, .int .i64 0, .int .i64 se, c6, c7, c8, c9, c10, .int .u8 0, .slice none 0 0, c11, c12, .int .i64 0, .int .i64 0, .int .i64 0, .slice none 0 0, .slice none 0 0, .int .i64 0, .slice none 0 0, .slice none 0 0]
  refine ⟨[.int .u8 1, .int .i64 (-id), .int .i64 to, .int .i64 ge, .int .i64 0, .int .i64 0, .int .i64 0, .int .i64 0, .int .u64 0, .int .i64 0, .int .i64 se, c6, c7, c8, c9, c10, .int .u8 0, .slice none 0 0, c11, c12, .int .i64 0, .int .i64 0, .int .i64 0, .slice none 0 0, .slice none 0 0, .int .i64 0, .slice none 0 0, .slice none 0 0], rfl, ?_, hF.below (by first | exact b0 | (rw [← hgg]; exact b0)) (by omega) (fun b hb => by have hb' : b = gg + 1 := hb; omega)⟩
  exact (hI.fr hF (fun b hb hx => by have hx' : b = gg + 1 := hx; have hb' := hb.2; omega)).mono (fun b hb => hb.1)
end Go.Proofs.Ytlcbelmbonaooaa
