/- Stage 24: about how much a message has (written by gen_24ac.py). -/
import Derived.Test.YtlcbelmbonaooaaF24p
import Derived.Test.YtlcbelmbonaooaaF24u
namespace Go.Proofs.Ytlcbelmbonaooaa
set_option maxRecDepth 20000
open Go.RowKit Go.Px Go.Maps Go.Deep
set_option linter.unusedVariables false
set_option linter.unusedSimpArgs false
/-- Rows within reach. -/
structure RchM (x : MsgD) : Prop where
  l : x.2.2.2.2.2.2.2.2.2.2.2.2.2.2.2.length ≤ 140737488351232
  p : x.2.2.2.2.2.2.2.2.2.2.2.2.2.2.1.2.2.1.length ≤ 140737488351232
  w : x.2.2.2.2.2.2.2.2.2.2.2.2.2.2.1.2.2.2.1.length ≤ 140737488351232
  g : x.2.2.2.2.2.2.2.2.2.2.2.2.2.1.2.length ≤ 140737488351232
  d : x.2.2.2.2.2.2.2.2.2.2.2.1.2.2.2.1.length ≤ 140737488351232
  q : x.2.2.2.2.2.2.2.2.2.2.2.1.2.2.2.2.length ≤ 140737488351232
  r : x.2.2.2.2.2.2.2.2.2.2.2.2.1.2.length ≤ 140737488351232
set_option maxRecDepth 20000 in
set_option maxHeartbeats 6400000 in
/-- A number, whichever. -/
theorem size24_any {w : World} {Q : Nat → Prop} {x : MsgD} {cs : List Value} (h : tyMsg.Is w Q x cs) (hR : RchM x) : Calls Try.prog 21 #[.agg cs.toArray] w fun e w' => (∃ N : Int, e = .returned (.int .i64 N)) ∧ Below w.heap.size w w' := by
  obtain ⟨k, f, t, e, v, nu, cm, no, nc, cl, se, o, r, g, s, l, c11, c12, c13, c14, c15, c16, c17, c18, c19, c20, c21, c22, c23, c24, c25, c26, c27, rfl, rfl, ho, hr, hg, hs, hl, -⟩ := Msg_parts h
  obtain ⟨ok, oa, on, od, oo⟩ := o
  obtain ⟨rk, rd⟩ := r
  obtain ⟨me, mm⟩ := g
  obtain ⟨dA, dn, dc, qA, qn, qc, rfl, rfl, rfl, rfl, rfl, -, dl1, ol1, -⟩ := Op_cells ho
  obtain ⟨rA, rn, rc, rfl, rfl, -, rl1, -⟩ := Result_cells hr
  obtain ⟨mA, mn, mc, rfl, rfl, -, ml1, -⟩ := Group_cells hg
  obtain ⟨num, b, z, ps, rs, sg, pA, wA, pn, pc, wn, wc, vs, vs2, c5, c6, rfl, hsc, -, -, -, ⟨pl1, -⟩, ⟨wl1, -⟩, -⟩ := State_parts hs
  obtain ⟨lA, ln, lc, lv, rfl, ll1, -⟩ := Row_cell hl
  simp only [List.cons.injEq, and_true] at hsc
  obtain ⟨rfl, rfl, rfl, rfl, rfl, rfl, rfl⟩ := hsc
  obtain ⟨a1, a2, a3, a4, a5, a6, a7⟩ := hR
  simp only at a1 a2 a3 a4 a5 a6 a7 dl1 ol1 rl1 ml1
  have u1 : ln ≤ 140737488351232 := by omega
  have u2 : pn ≤ 140737488351232 := by omega
  have u3 : wn ≤ 140737488351232 := by omega
  have u4 : mn ≤ 140737488351232 := by omega
  have u5 : dn ≤ 140737488351232 := by omega
  have u6 : qn ≤ 140737488351232 := by omega
  have u7 : rn ≤ 140737488351232 := by omega
  clear h ho hr hg hs hl dl1 ol1 rl1 ml1 pl1 wl1 ll1 a1 a2 a3 a4 a5 a6 a7
  obtain ⟨w0, hw0⟩ : ∃ x, w.alloc (.cells #[.int .u8 k, .int .i64 f, .int .i64 t, .int .i64 e, .int .i64 v, .int .i64 nu, .int .i64 cm, .int .i64 no, .int .u64 nc, .int .i64 cl, .int .i64 se, .int .u8 ok, .int .i64 oa, .int .i64 on, .slice dA dn dc, .slice qA qn qc, .int .u8 rk, .slice rA rn rc, .int .i64 me, .slice mA mn mc, .int .i64 num, .int .i64 b, .int .i64 z, .slice pA pn pc, .slice wA wn wc, c25, c26, .slice lA ln lc] 58) = x := ⟨_, rfl⟩
  have hB0 : Blk w0 w.heap.size [.int .u8 k, .int .i64 f, .int .i64 t, .int .i64 e, .int .i64 v, .int .i64 nu, .int .i64 cm, .int .i64 no, .int .u64 nc, .int .i64 cl, .int .i64 se, .int .u8 ok, .int .i64 oa, .int .i64 on, .slice dA dn dc, .slice qA qn qc, .int .u8 rk, .slice rA rn rc, .int .i64 me, .slice mA mn mc, .int .i64 num, .int .i64 b, .int .i64 z, .slice pA pn pc, .slice wA wn wc, c25, c26, .slice lA ln lc] 58 := by rw [← hw0]; exact Blk.new w _ _
  have hb0 : Below w.heap.size w w0 := by rw [← hw0]; exact (Below.refl _ _).alloc (Nat.le_refl _) _
  have Hw0 := hide hw0
  have y14 := hB0.cell (j := 14) rfl; have y15 := hB0.cell (j := 15) rfl; have y17 := hB0.cell (j := 17) rfl; have y19 := hB0.cell (j := 19) rfl; have y21 := hB0.cell (j := 21) rfl; have y22 := hB0.cell (j := 22) rfl; have y23 := hB0.cell (j := 23) rfl; have y24 := hB0.cell (j := 24) rfl; have y27 := hB0.cell (j := 27) rfl
  rw [← hw0] at y14 y15 y17 y19 y21 y22 y23 y24 y27
  clear hw0
  rcases bool_two (decide (64 < b)) with q1 | q1
  · go_enter Try.func21, Try.ntmps21
    go_wp2
    go_ret
    exact ⟨⟨_, rfl⟩, by first | exact hb0 | (rw [Hw0.out]; exact hb0)⟩
  rcases bool_two (decide (64 < z)) with q2 | q2
  · go_enter Try.func21, Try.ntmps21
    go_wp2
    go_ret
    exact ⟨⟨_, rfl⟩, by first | exact hb0 | (rw [Hw0.out]; exact hb0)⟩
  · go_enter Try.func21, Try.ntmps21
    go_wp2
    go_ret
    exact ⟨⟨_, rfl⟩, by first | exact hb0 | (rw [Hw0.out]; exact hb0)⟩
end Go.Proofs.Ytlcbelmbonaooaa
