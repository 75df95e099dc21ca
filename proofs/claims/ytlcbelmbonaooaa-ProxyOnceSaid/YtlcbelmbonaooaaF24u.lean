/- Stage 24: the law's small (written by gen_24u.py). -/
import Derived.Test.YtlcbelmbonaooaaF24t
namespace Go.Proofs.Ytlcbelmbonaooaa
set_option maxRecDepth 20000
open Go.RowKit Go.Px Go.Maps Go.Deep
set_option linter.unusedVariables false
set_option linter.unusedSimpArgs false
theorem Op_cells {w : World} {Q : Nat → Prop} {o : OpD} {a b c d e : Value} (h : tyOp.Is w Q o [a, b, c, d, e]) : ∃ A n k A2 n2 k2, a = .int .u8 o.1 ∧ b = .int .i64 o.2.1 ∧ c = .int .i64 o.2.2.1 ∧ d = .slice A n k ∧ e = .slice A2 n2 k2 ∧ o.1 < 256 ∧ o.2.2.2.1.length = n ∧ o.2.2.2.2.length = n2 ∧ n ≤ k ∧ k ≤ 9223372036854775807 ∧ n2 ≤ k2 ∧ k2 ≤ 9223372036854775807 := by
  obtain ⟨k, p, q, x, y⟩ := o
  obtain ⟨⟨rfl, q0⟩, ⟨rfl, q1⟩, ⟨rfl, q2⟩, ⟨A, n, c, rfl, l1, l2, l3, l4, l5⟩, ⟨A2, n2, c2, rfl, m1, m2, m3, m4, m5⟩⟩ := h
  exact ⟨A, n, c, A2, n2, c2, rfl, rfl, rfl, rfl, rfl, q0, l1, m1, l2, l3, m2, m3⟩
/-- Rows within reach. -/
structure RchP (x : ProxyD) : Prop where
  g : x.2.1.2.length ≤ 140737488351232
  d : x.2.2.2.2.2.1.2.2.2.1.length ≤ 140737488351232
  q : x.2.2.2.2.2.1.2.2.2.2.length ≤ 140737488351232
  n : x.2.2.2.2.2.2.1.2.length ≤ 140737488351232
/-- Can a client be looked at? -/
def smB (x : ProxyD) : Bool := decide (x.2.1.2.length + x.2.2.2.2.2.2.1.2.length ≤ 40) && decide (x.2.2.2.2.2.1.2.2.2.1.length + x.2.2.2.2.2.1.2.2.2.2.length ≤ 5000)
theorem smB_light {x : ProxyD} (h : smB x = true) : LightP x := by
  unfold smB at h
  rw [Bool.and_eq_true] at h
  have h1 := of_decide_eq_true h.1
  have h2 := of_decide_eq_true h.2
  exact ⟨by omega, by omega, by omega, by omega⟩
set_option maxRecDepth 20000 in
set_option maxHeartbeats 3200000 in
theorem small24_any {w : World} {Q : Nat → Prop} {x : ProxyD} {cs : List Value} (h : tyProxy.Is w Q x cs) (hR : RchP x) : Calls Try.prog 8 #[.agg cs.toArray] w fun e w' => e = .returned (.bool (smB x)) ∧ Below w.heap.size w w' := by
  obtain ⟨id, ⟨ge, gm⟩, v, se, bu, ⟨ok, oa, on, od, oo⟩, ⟨ne, nm⟩, qu, c1, c2, c6, c7, c8, c9, c10, c11, c12, rfl, rfl, -, -, -, -, hg, ho, hn⟩ := Proxy_parts h
  obtain ⟨gA, gn, gc, rfl, rfl, -, gl1, -⟩ := Group_cells hg
  obtain ⟨nA, nn, nc, rfl, rfl, -, nl1, -⟩ := Group_cells hn
  obtain ⟨dA, dn, dc, oA, oln, oc, rfl, rfl, rfl, rfl, rfl, -, dl1, ol1, -⟩ := Op_cells ho
  obtain ⟨r1, r2, r3, r4⟩ := hR
  simp only at gl1 nl1 dl1 ol1 r1 r2 r3 r4
  have HV := hide (show smB (id, (ge, gm), v, se, bu, (ok, oa, on, od, oo), (ne, nm), qu) = (decide (gn + nn ≤ 40) && decide (dn + oln ≤ 5000)) by show (decide (gm.length + nm.length ≤ 40) && decide (od.length + oo.length ≤ 5000)) = _; rw [gl1, nl1, dl1, ol1])
  have g1 : gn ≤ 140737488351232 := by omega
  have g2 : nn ≤ 140737488351232 := by omega
  have g3 : dn ≤ 140737488351232 := by omega
  have g4 : oln ≤ 140737488351232 := by omega
  clear h hg ho hn gl1 nl1 dl1 ol1 r1 r2 r3 r4
  obtain ⟨w0, hw0⟩ : ∃ x, w.alloc (.cells #[.int .i64 id, .int .i64 ge, .slice gA gn gc, .int .i64 v, .int .i64 se, .bool bu, .int .u8 ok, .int .i64 oa, .int .i64 on, .slice dA dn dc, .slice oA oln oc, .int .i64 ne, .slice nA nn nc, .int .i64 qu] 30) = x := ⟨_, rfl⟩
  have hB0 : Blk w0 w.heap.size [.int .i64 id, .int .i64 ge, .slice gA gn gc, .int .i64 v, .int .i64 se, .bool bu, .int .u8 ok, .int .i64 oa, .int .i64 on, .slice dA dn dc, .slice oA oln oc, .int .i64 ne, .slice nA nn nc, .int .i64 qu] 30 := by rw [← hw0]; exact Blk.new w _ _
  have hb0 : Below w.heap.size w w0 := by rw [← hw0]; exact (Below.refl _ _).alloc (Nat.le_refl _) _
  have Hw0 := hide hw0
  have y2 := hB0.cell (j := 2) rfl
  have y9 := hB0.cell (j := 9) rfl
  have y10 := hB0.cell (j := 10) rfl
  have y12 := hB0.cell (j := 12) rfl
  rw [← hw0] at y2 y9 y10 y12
  clear hw0
  have u1 : IntKind.i64.wrap ((gn : Int) + (nn : Int)) = (gn : Int) + (nn : Int) := IntWalk.i64_in _ (by omega)
  have u2 : IntKind.i64.wrap ((dn : Int) + (oln : Int)) = (dn : Int) + (oln : Int) := IntWalk.i64_in _ (by omega)
  rcases bool_two (decide (gn + nn ≤ 40)) with q1 | q1
  · have q1' : decide ((gn : Int) + (nn : Int) ≤ 40) = true := decide_eq_true (by have := of_decide_eq_true q1; omega)
    rcases bool_two (decide (dn + oln ≤ 5000)) with q2 | q2
    · have q2' : decide ((dn : Int) + (oln : Int) ≤ 5000) = true := decide_eq_true (by have := of_decide_eq_true q2; omega)
      have HR := hide (show smB (id, (ge, gm), v, se, bu, (ok, oa, on, od, oo), (ne, nm), qu) = true by rw [HV.out, q1, q2]; rfl)
      clear q1 q2
      go_enter Try.func8, Try.ntmps8
      go_wp2
      go_ret
      exact ⟨by rw [HR.out]; (first | done | rfl), by first | exact hb0 | (rw [Hw0.out]; exact hb0)⟩
    · have q2' : decide ((dn : Int) + (oln : Int) ≤ 5000) = false := decide_eq_false (by have := of_decide_eq_false q2; omega)
      have HR := hide (show smB (id, (ge, gm), v, se, bu, (ok, oa, on, od, oo), (ne, nm), qu) = false by rw [HV.out, q1, q2]; rfl)
      clear q1 q2
      go_enter Try.func8, Try.ntmps8
      go_wp2
      go_ret
      exact ⟨by rw [HR.out]; (first | done | rfl), by first | exact hb0 | (rw [Hw0.out]; exact hb0)⟩
  · have q1' : decide ((gn : Int) + (nn : Int) ≤ 40) = false := decide_eq_false (by have := of_decide_eq_false q1; omega)
    have HR := hide (show smB (id, (ge, gm), v, se, bu, (ok, oa, on, od, oo), (ne, nm), qu) = false by rw [HV.out, q1]; rfl)
    clear q1
    go_enter Try.func8, Try.ntmps8
    go_wp2
    go_ret
    exact ⟨by rw [HR.out]; (first | done | rfl), by first | exact hb0 | (rw [Hw0.out]; exact hb0)⟩
end Go.Proofs.Ytlcbelmbonaooaa
