/- Stage 24: what a message has (written by gen_24p.py). -/
import Derived.Test.YtlcbelmbonaooaaF24m
namespace Go.Proofs.Ytlcbelmbonaooaa
set_option maxRecDepth 20000
open Go.RowKit Go.Px Go.Maps Go.Deep
set_option linter.unusedVariables false
set_option linter.unusedSimpArgs false
theorem State_parts {w : World} {Q : Nat → Prop} {s : StateD} {cs : List Value} (h : tyState.Is w Q s cs) : ∃ (num b z : Int) (ps : List PageD) (rs : List RowD) (g : GroupD) (A A2 : Option Addr) (n c n2 c2 : Nat) (vs vs2 : List Value) (c5 c6 : Value),
    s = (num, (b, z), ps, rs, g) ∧ cs = [.int .i64 num, .int .i64 b, .int .i64 z, .slice A n c, .slice A2 n2 c2, c5, c6] ∧ (-9223372036854775808 ≤ num ∧ num ≤ 9223372036854775807) ∧ (-9223372036854775808 ≤ b ∧ b ≤ 9223372036854775807) ∧ (-9223372036854775808 ≤ z ∧ z ≤ 9223372036854775807) ∧ (ps.length = n ∧ n ≤ c ∧ c ≤ 9223372036854775807 ∧ Rd w A vs ∧ tyPage.Rows w Q ps vs) ∧ (rs.length = n2 ∧ n2 ≤ c2 ∧ c2 ≤ 9223372036854775807 ∧ Rd w A2 vs2 ∧ tyRow.Rows w Q rs vs2) ∧ tyGroup.Is w Q g [c5, c6] := by
  obtain ⟨c0, c1, c2, c3, c4, c5, c6, rfl⟩ := list_7 (h.len : cs.length = 7)
  obtain ⟨num, ⟨b, z⟩, ps, rs, g⟩ := s
  obtain ⟨⟨rfl, q0⟩, ⟨⟨rfl, q1⟩, ⟨rfl, q2⟩⟩, ⟨A, n, c, vs, rfl, l1, l2, l3, l4, l5, l6⟩, ⟨A2, n2, c2, vs2, rfl, m1, m2, m3, m4, m5, m6⟩, hg⟩ := h
  exact ⟨num, b, z, ps, rs, g, A, A2, n, c, n2, c2, vs, vs2, c5, c6, rfl, rfl, q0, q1, q2, ⟨l1, l2, l3, l4, l6⟩, ⟨m1, m2, m3, m4, m6⟩, hg⟩
theorem eq_nil_len {α : Type} [DecidableEq α] (l : List α) : decide (l = []) = ((l.length : Int) == 0) := by
  cases l with
  | nil => rfl
  | cons a l => simp; omega
theorem stN_eq (num b z : Int) (ps : List PageD) (rs : List RowD) (g : GroupD) : stN (num, (b, z), ps, rs, g) = ((num == 0) && ((b == 0) && ((z == 0) && (((ps.length : Int) == 0) && (((rs.length : Int) == 0) && grN g))))) := by
  have e1 : decide (ps = []) = ((ps.length : Int) == 0) := by
    cases ps with
    | nil => rfl
    | cons a l => simp; omega
  have e2 : sameB rs [] = ((rs.length : Int) == 0) := by
    unfold sameB
    cases rs with
    | nil => rfl
    | cons a l => simp; omega
  have e3 : eqG g.1 g.2 0 [] = grN g := by
    obtain ⟨ge, gm⟩ := g
    cases gm with
    | nil => simp [eqG, eqB, grN, ngB]
    | cons a l => simp [eqG, eqB, grN, ngB]; omega
  show ((num == 0) && ((b == 0) && ((z == 0) && (decide (ps = []) && (sameB rs [] && eqG g.1 g.2 0 []))))) = _
  rw [e1, e2, e3]
set_option maxRecDepth 20000 in
set_option maxHeartbeats 6400000 in
theorem noState_is {w : World} {Q : Nat → Prop} {x : StateD} {cs : List Value} (h : tyState.Is w Q x cs) : Calls Try.prog 86 #[.agg cs.toArray] w fun e w' => e = .returned (.bool (stN x)) ∧ Below w.heap.size w w' := by
  obtain ⟨num, b, z, ps, rs, g, A, A2, n, c, n2, c2, vs, vs2, c5, c6, rfl, rfl, -, -, -, ⟨hl, -⟩, ⟨hl2, -⟩, hg⟩ := State_parts h
  have HV := hide (show stN (num, (b, z), ps, rs, g) = ((num == 0) && ((b == 0) && ((z == 0) && (((n : Int) == 0) && (((n2 : Int) == 0) && grN g))))) by rw [stN_eq, hl, hl2])
  have HG := hide (fun W (hW : Below w.heap.size w W) => noGroup_is (hg.below hW))
  clear h hg hl hl2
  obtain ⟨w0, hw0⟩ : ∃ x, w.alloc (.cells #[.int .i64 num, .int .i64 b, .int .i64 z, .slice A n c, .slice A2 n2 c2, c5, c6] 55) = x := ⟨_, rfl⟩
  have hB : Blk w0 w.heap.size [.int .i64 num, .int .i64 b, .int .i64 z, .slice A n c, .slice A2 n2 c2, c5, c6] 55 := by rw [← hw0]; exact Blk.new w _ _
  have hb0 : Below w.heap.size w w0 := by rw [← hw0]; exact (Below.refl _ _).alloc (Nat.le_refl _) _
  have Hw0 := hide hw0
  clear hw0
  have y0 := Blk.cell hB (j := 0) rfl; have y1 := Blk.cell hB (j := 1) rfl; have y2 := Blk.cell hB (j := 2) rfl; have y3 := Blk.cell hB (j := 3) rfl; have y4 := Blk.cell hB (j := 4) rfl
  rcases bool_two (num == 0) with a1 | a1
  rotate_left
  · have HR := hide (show stN (num, (b, z), ps, rs, g) = false by rw [HV.out]; simp only [a1, Bool.true_and, Bool.false_and])
    go_enter Try.func86, Try.ntmps86
    go_wp2_with (first | (with_reducible refine stop_load 51 rfl ?_) | (with_reducible refine stop_load 24 rfl ?_))
    try rw [Hw0.out]
    repeat (refine go_skipG rfl ?_; go_wp2_with (first | (with_reducible refine stop_load 51 rfl ?_) | (with_reducible refine stop_load 24 rfl ?_)))
    go_wp2_with (first | (with_reducible refine stop_load 51 rfl ?_) | (with_reducible refine stop_load 24 rfl ?_))
    repeat (refine go_skipG rfl ?_; go_wp2_with (first | (with_reducible refine stop_load 51 rfl ?_) | (with_reducible refine stop_load 24 rfl ?_)))
    try go_wp2
    go_ret
    exact ⟨by rw [HR.out]; (first | done | rfl), by first | exact hb0 | (rw [Hw0.out]; exact hb0)⟩
  rcases bool_two (b == 0) with a2 | a2
  rotate_left
  · have HR := hide (show stN (num, (b, z), ps, rs, g) = false by rw [HV.out]; simp only [a1, a2, Bool.true_and, Bool.false_and])
    go_enter Try.func86, Try.ntmps86
    go_wp2_with (first | (with_reducible refine stop_load 51 rfl ?_) | (with_reducible refine stop_load 24 rfl ?_))
    try rw [Hw0.out]
    refine go_loadG rfl rfl (k := 1) rfl hB [.int .i64 b, .int .i64 z] rfl Try.underlying51 rfl (by kernel_rfl) ?_
    go_wp2_with (first | (with_reducible refine stop_load 51 rfl ?_) | (with_reducible refine stop_load 24 rfl ?_))
    repeat (refine go_skipG rfl ?_; go_wp2_with (first | (with_reducible refine stop_load 51 rfl ?_) | (with_reducible refine stop_load 24 rfl ?_)))
    try go_wp2
    go_ret
    exact ⟨by rw [HR.out]; (first | done | rfl), by first | exact hb0 | (rw [Hw0.out]; exact hb0)⟩
  rcases bool_two (z == 0) with a3 | a3
  rotate_left
  · have HR := hide (show stN (num, (b, z), ps, rs, g) = false by rw [HV.out]; simp only [a1, a2, a3, Bool.true_and, Bool.false_and])
    go_enter Try.func86, Try.ntmps86
    go_wp2_with (first | (with_reducible refine stop_load 51 rfl ?_) | (with_reducible refine stop_load 24 rfl ?_))
    try rw [Hw0.out]
    refine go_loadG rfl rfl (k := 1) rfl hB [.int .i64 b, .int .i64 z] rfl Try.underlying51 rfl (by kernel_rfl) ?_
    go_wp2_with (first | (with_reducible refine stop_load 51 rfl ?_) | (with_reducible refine stop_load 24 rfl ?_))
    repeat (refine go_skipG rfl ?_; go_wp2_with (first | (with_reducible refine stop_load 51 rfl ?_) | (with_reducible refine stop_load 24 rfl ?_)))
    try go_wp2
    go_ret
    exact ⟨by rw [HR.out]; (first | done | rfl), by first | exact hb0 | (rw [Hw0.out]; exact hb0)⟩
  rcases bool_two ((n : Int) == 0) with a4 | a4
  rotate_left
  · have HR := hide (show stN (num, (b, z), ps, rs, g) = false by rw [HV.out]; simp only [a1, a2, a3, a4, Bool.true_and, Bool.false_and])
    go_enter Try.func86, Try.ntmps86
    go_wp2_with (first | (with_reducible refine stop_load 51 rfl ?_) | (with_reducible refine stop_load 24 rfl ?_))
    try rw [Hw0.out]
    refine go_loadG rfl rfl (k := 1) rfl hB [.int .i64 b, .int .i64 z] rfl Try.underlying51 rfl (by kernel_rfl) ?_
    go_wp2_with (first | (with_reducible refine stop_load 51 rfl ?_) | (with_reducible refine stop_load 24 rfl ?_))
    repeat (refine go_skipG rfl ?_; go_wp2_with (first | (with_reducible refine stop_load 51 rfl ?_) | (with_reducible refine stop_load 24 rfl ?_)))
    try go_wp2
    go_ret
    exact ⟨by rw [HR.out]; (first | done | rfl), by first | exact hb0 | (rw [Hw0.out]; exact hb0)⟩
  rcases bool_two ((n2 : Int) == 0) with a5 | a5
  rotate_left
  · have HR := hide (show stN (num, (b, z), ps, rs, g) = false by rw [HV.out]; simp only [a1, a2, a3, a4, a5, Bool.true_and, Bool.false_and])
    go_enter Try.func86, Try.ntmps86
    go_wp2_with (first | (with_reducible refine stop_load 51 rfl ?_) | (with_reducible refine stop_load 24 rfl ?_))
    try rw [Hw0.out]
    refine go_loadG rfl rfl (k := 1) rfl hB [.int .i64 b, .int .i64 z] rfl Try.underlying51 rfl (by kernel_rfl) ?_
    go_wp2_with (first | (with_reducible refine stop_load 51 rfl ?_) | (with_reducible refine stop_load 24 rfl ?_))
    repeat (refine go_skipG rfl ?_; go_wp2_with (first | (with_reducible refine stop_load 51 rfl ?_) | (with_reducible refine stop_load 24 rfl ?_)))
    try go_wp2
    go_ret
    exact ⟨by rw [HR.out]; (first | done | rfl), by first | exact hb0 | (rw [Hw0.out]; exact hb0)⟩
  have HR := hide (show stN (num, (b, z), ps, rs, g) = grN g by rw [HV.out]; simp only [a1, a2, a3, a4, a5, Bool.true_and])
  go_enter Try.func86, Try.ntmps86
  go_wp2_with (first | (with_reducible refine stop_load 51 rfl ?_) | (with_reducible refine stop_load 24 rfl ?_))
  try rw [Hw0.out]
  refine go_loadG rfl rfl (k := 1) rfl hB [.int .i64 b, .int .i64 z] rfl Try.underlying51 rfl (by kernel_rfl) ?_
  go_wp2_with (first | (with_reducible refine stop_load 51 rfl ?_) | (with_reducible refine stop_load 24 rfl ?_))
  refine go_loadG rfl rfl (k := 5) rfl hB [c5, c6] rfl Try.underlying24 rfl (by kernel_rfl) ?_
  go_wp2_with (first | (with_reducible refine stop_load 51 rfl ?_) | (with_reducible refine stop_load 24 rfl ?_))
  go_fit (HG.out w0 hb0)
  rintro xx w1 ⟨rfl, hd1⟩
  go_wp2
  go_ret
  exact ⟨by rw [HR.out]; (first | done | rfl), hb0.trans (hd1.mono hb0.size)⟩
/-- What a message has: a bit for each part. -/
def parN (b1 b2 b3 b4 : Bool) : Int := (if b1 = true then 0 else 1) + ((if b2 = true then 0 else 2) + ((if b3 = true then 0 else 4) + (if b4 = true then 0 else 8)))
def mprt : MsgD → Int
  | (k, f, t, e, v, nu, cm, no, nc, cl, se, o, r, g, s, l) => parN (opN o) (reN r) (grN g) (stN s)
set_option maxRecDepth 20000 in
set_option maxHeartbeats 12800000 in
theorem parts_is {w : World} {Q : Nat → Prop} {x : MsgD} {cs : List Value} (h : tyMsg.Is w Q x cs) : Calls Try.prog 65 #[.agg cs.toArray] w fun e w' => e = .returned (.int .i64 (mprt x)) ∧ Below w.heap.size w w' := by
  obtain ⟨k, f, t, e, v, nu, cm, no, nc, cl, se, o, r, g, s, l, c11, c12, c13, c14, c15, c16, c17, c18, c19, c20, c21, c22, c23, c24, c25, c26, c27, rfl, rfl, ho, hr, hg, hs, hl, HM⟩ := Msg_parts h
  obtain ⟨rk, rd⟩ := r
  obtain ⟨rA, rn, rc, rfl, rfl, -, hrl, -⟩ := Result_cells hr
  simp only at hrl
  have HO := hide (fun W (hW : Below w.heap.size w W) => noOp_is (ho.below hW))
  have HG := hide (fun W (hW : Below w.heap.size w W) => noGroup_is (hg.below hW))
  have HS := hide (fun W (hW : Below w.heap.size w W) => noState_is (hs.below hW))
  have HQ := hide (show reN (rk, rd) = (((rk : Int) == 0) && ((rn : Int) == 0)) by show ((rk == 0) && ((rd.length : Int) == 0)) = _; rw [hrl, ← u8_zero rk])
  obtain ⟨o1, ho1⟩ : ∃ b, opN o = b := ⟨_, rfl⟩
  obtain ⟨g1, hg1⟩ : ∃ b, grN g = b := ⟨_, rfl⟩
  obtain ⟨s1, hs1⟩ : ∃ b, stN s = b := ⟨_, rfl⟩
  obtain ⟨r1, hr1⟩ : ∃ b, reN (rk, rd) = b := ⟨_, rfl⟩
  have HV := hide (show mprt (k, f, t, e, v, nu, cm, no, nc, cl, se, o, (rk, rd), g, s, l) = parN o1 r1 g1 s1 by rw [← ho1, ← hg1, ← hs1, ← hr1]; rfl)
  have Ho1 := hide ho1
  have Hg1 := hide hg1
  have Hs1 := hide hs1
  have Hr1 := hide hr1
  clear h HM ho hr hg hs hl hrl ho1 hg1 hs1 hr1
  obtain ⟨w0, hw0⟩ : ∃ x, w.alloc (.cells #[.int .u8 k, .int .i64 f, .int .i64 t, .int .i64 e, .int .i64 v, .int .i64 nu, .int .i64 cm, .int .i64 no, .int .u64 nc, .int .i64 cl, .int .i64 se, c11, c12, c13, c14, c15, .int .u8 rk, .slice rA rn rc, c18, c19, c20, c21, c22, c23, c24, c25, c26, c27] 58) = x := ⟨_, rfl⟩
  have hB0 : Blk w0 w.heap.size [.int .u8 k, .int .i64 f, .int .i64 t, .int .i64 e, .int .i64 v, .int .i64 nu, .int .i64 cm, .int .i64 no, .int .u64 nc, .int .i64 cl, .int .i64 se, c11, c12, c13, c14, c15, .int .u8 rk, .slice rA rn rc, c18, c19, c20, c21, c22, c23, c24, c25, c26, c27] 58 := by rw [← hw0]; exact Blk.new w _ _
  have hb0 : Below w.heap.size w w0 := by rw [← hw0]; exact (Below.refl _ _).alloc (Nat.le_refl _) _
  have Hw0 := hide hw0
  clear hw0
  go_enter Try.func65, Try.ntmps65
  go_wp2_with (first | (with_reducible refine stop_load 28 rfl ?_) | (with_reducible refine stop_load 24 rfl ?_) | (with_reducible refine stop_load 55 rfl ?_))
  rw [Hw0.out]
  refine go_loadG rfl rfl (k := 11) rfl hB0 [c11, c12, c13, c14, c15] rfl Try.underlying28 rfl (by kernel_rfl) ?_
  go_wp2_with (first | (with_reducible refine stop_load 28 rfl ?_) | (with_reducible refine stop_load 24 rfl ?_) | (with_reducible refine stop_load 55 rfl ?_))
  go_fit (HO.out w0 hb0)
  rw [Ho1.out]
  rintro xx w1 ⟨rfl, hd1⟩
  have hb1 := hb0.trans (hd1.mono hb0.size)
  have hB1 := hB0.below hd1
  have y16 := hB1.cell (j := 16) rfl
  have y17 := hB1.cell (j := 17) rfl
  have hrs : (((rk : Int) == 0) = false ∧ r1 = false) ∨ (((rk : Int) == 0) = true ∧ decide (0 < rn) = true ∧ r1 = false) ∨ (((rk : Int) == 0) = true ∧ decide (0 < rn) = false ∧ r1 = true) := by
    rw [← Hr1.out, HQ.out]
    rcases bool_two ((rk : Int) == 0) with q | q
    · rcases Nat.eq_zero_or_pos rn with q2 | q2
      · subst q2; right; right; rw [q]; exact ⟨rfl, rfl, rfl⟩
      · right; left; rw [q]; exact ⟨rfl, decide_eq_true (by omega), by rw [Bool.true_and, beq_eq_false_iff_ne]; omega⟩
    · left; rw [q]; exact ⟨rfl, rfl⟩
  clear HQ
  have e0_1 : bits BinOp.or .i64 0 1 = 1 := by decide
  have e0_2 : bits BinOp.or .i64 0 2 = 2 := by decide
  have e1_2 : bits BinOp.or .i64 1 2 = 3 := by decide
  have e0_4 : bits BinOp.or .i64 0 4 = 4 := by decide
  have e1_4 : bits BinOp.or .i64 1 4 = 5 := by decide
  have e2_4 : bits BinOp.or .i64 2 4 = 6 := by decide
  have e3_4 : bits BinOp.or .i64 3 4 = 7 := by decide
  have e0_8 : bits BinOp.or .i64 0 8 = 8 := by decide
  have e1_8 : bits BinOp.or .i64 1 8 = 9 := by decide
  have e2_8 : bits BinOp.or .i64 2 8 = 10 := by decide
  have e3_8 : bits BinOp.or .i64 3 8 = 11 := by decide
  have e4_8 : bits BinOp.or .i64 4 8 = 12 := by decide
  have e5_8 : bits BinOp.or .i64 5 8 = 13 := by decide
  have e6_8 : bits BinOp.or .i64 6 8 = 14 := by decide
  have e7_8 : bits BinOp.or .i64 7 8 = 15 := by decide
  cases o1 with
  | false =>
    rcases hrs with ⟨q1, q3⟩ | ⟨q1, q2, q3⟩ | ⟨q1, q2, q3⟩
    · have q1' : ((rk : Int) != 0) = true := by simp only [bne, q1]; rfl
      subst q3
      go_wp2_with (first | (with_reducible refine stop_load 28 rfl ?_) | (with_reducible refine stop_load 24 rfl ?_) | (with_reducible refine stop_load 55 rfl ?_))
      refine go_loadG rfl rfl (k := 18) rfl hB1 [c18, c19] rfl Try.underlying24 rfl (by kernel_rfl) ?_
      go_wp2_with (first | (with_reducible refine stop_load 28 rfl ?_) | (with_reducible refine stop_load 24 rfl ?_) | (with_reducible refine stop_load 55 rfl ?_))
      go_fit (HG.out w1 hb1)
      rw [Hg1.out]
      rintro xx w2 ⟨rfl, hd2⟩
      have hb2 := hb1.trans (hd2.mono hb1.size)
      have hB2 := hB1.below hd2
      cases g1 with
      | false =>
        go_wp2_with (first | (with_reducible refine stop_load 28 rfl ?_) | (with_reducible refine stop_load 24 rfl ?_) | (with_reducible refine stop_load 55 rfl ?_))
        refine go_loadG rfl rfl (k := 20) rfl hB2 [c20, c21, c22, c23, c24, c25, c26] rfl Try.underlying55 rfl (by kernel_rfl) ?_
        go_wp2_with (first | (with_reducible refine stop_load 28 rfl ?_) | (with_reducible refine stop_load 24 rfl ?_) | (with_reducible refine stop_load 55 rfl ?_))
        go_fit (HS.out w2 hb2)
        rw [Hs1.out]
        rintro xx w3 ⟨rfl, hd3⟩
        have hb3 := hb2.trans (hd3.mono hb2.size)
        cases s1 with
        | false =>
          go_wp2
          go_ret
          exact ⟨by rw [HV.out]; rfl, hb3⟩
        | true =>
          go_wp2
          go_ret
          exact ⟨by rw [HV.out]; rfl, hb3⟩
      | true =>
        go_wp2_with (first | (with_reducible refine stop_load 28 rfl ?_) | (with_reducible refine stop_load 24 rfl ?_) | (with_reducible refine stop_load 55 rfl ?_))
        refine go_loadG rfl rfl (k := 20) rfl hB2 [c20, c21, c22, c23, c24, c25, c26] rfl Try.underlying55 rfl (by kernel_rfl) ?_
        go_wp2_with (first | (with_reducible refine stop_load 28 rfl ?_) | (with_reducible refine stop_load 24 rfl ?_) | (with_reducible refine stop_load 55 rfl ?_))
        go_fit (HS.out w2 hb2)
        rw [Hs1.out]
        rintro xx w3 ⟨rfl, hd3⟩
        have hb3 := hb2.trans (hd3.mono hb2.size)
        cases s1 with
        | false =>
          go_wp2
          go_ret
          exact ⟨by rw [HV.out]; rfl, hb3⟩
        | true =>
          go_wp2
          go_ret
          exact ⟨by rw [HV.out]; rfl, hb3⟩
    · have q1' : ((rk : Int) != 0) = false := by simp only [bne, q1]; rfl
      subst q3
      go_wp2_with (first | (with_reducible refine stop_load 28 rfl ?_) | (with_reducible refine stop_load 24 rfl ?_) | (with_reducible refine stop_load 55 rfl ?_))
      refine go_loadG rfl rfl (k := 18) rfl hB1 [c18, c19] rfl Try.underlying24 rfl (by kernel_rfl) ?_
      go_wp2_with (first | (with_reducible refine stop_load 28 rfl ?_) | (with_reducible refine stop_load 24 rfl ?_) | (with_reducible refine stop_load 55 rfl ?_))
      go_fit (HG.out w1 hb1)
      rw [Hg1.out]
      rintro xx w2 ⟨rfl, hd2⟩
      have hb2 := hb1.trans (hd2.mono hb1.size)
      have hB2 := hB1.below hd2
      cases g1 with
      | false =>
        go_wp2_with (first | (with_reducible refine stop_load 28 rfl ?_) | (with_reducible refine stop_load 24 rfl ?_) | (with_reducible refine stop_load 55 rfl ?_))
        refine go_loadG rfl rfl (k := 20) rfl hB2 [c20, c21, c22, c23, c24, c25, c26] rfl Try.underlying55 rfl (by kernel_rfl) ?_
        go_wp2_with (first | (with_reducible refine stop_load 28 rfl ?_) | (with_reducible refine stop_load 24 rfl ?_) | (with_reducible refine stop_load 55 rfl ?_))
        go_fit (HS.out w2 hb2)
        rw [Hs1.out]
        rintro xx w3 ⟨rfl, hd3⟩
        have hb3 := hb2.trans (hd3.mono hb2.size)
        cases s1 with
        | false =>
          go_wp2
          go_ret
          exact ⟨by rw [HV.out]; rfl, hb3⟩
        | true =>
          go_wp2
          go_ret
          exact ⟨by rw [HV.out]; rfl, hb3⟩
      | true =>
        go_wp2_with (first | (with_reducible refine stop_load 28 rfl ?_) | (with_reducible refine stop_load 24 rfl ?_) | (with_reducible refine stop_load 55 rfl ?_))
        refine go_loadG rfl rfl (k := 20) rfl hB2 [c20, c21, c22, c23, c24, c25, c26] rfl Try.underlying55 rfl (by kernel_rfl) ?_
        go_wp2_with (first | (with_reducible refine stop_load 28 rfl ?_) | (with_reducible refine stop_load 24 rfl ?_) | (with_reducible refine stop_load 55 rfl ?_))
        go_fit (HS.out w2 hb2)
        rw [Hs1.out]
        rintro xx w3 ⟨rfl, hd3⟩
        have hb3 := hb2.trans (hd3.mono hb2.size)
        cases s1 with
        | false =>
          go_wp2
          go_ret
          exact ⟨by rw [HV.out]; rfl, hb3⟩
        | true =>
          go_wp2
          go_ret
          exact ⟨by rw [HV.out]; rfl, hb3⟩
    · have q1' : ((rk : Int) != 0) = false := by simp only [bne, q1]; rfl
      subst q3
      go_wp2_with (first | (with_reducible refine stop_load 28 rfl ?_) | (with_reducible refine stop_load 24 rfl ?_) | (with_reducible refine stop_load 55 rfl ?_))
      refine go_loadG rfl rfl (k := 18) rfl hB1 [c18, c19] rfl Try.underlying24 rfl (by kernel_rfl) ?_
      go_wp2_with (first | (with_reducible refine stop_load 28 rfl ?_) | (with_reducible refine stop_load 24 rfl ?_) | (with_reducible refine stop_load 55 rfl ?_))
      go_fit (HG.out w1 hb1)
      rw [Hg1.out]
      rintro xx w2 ⟨rfl, hd2⟩
      have hb2 := hb1.trans (hd2.mono hb1.size)
      have hB2 := hB1.below hd2
      cases g1 with
      | false =>
        go_wp2_with (first | (with_reducible refine stop_load 28 rfl ?_) | (with_reducible refine stop_load 24 rfl ?_) | (with_reducible refine stop_load 55 rfl ?_))
        refine go_loadG rfl rfl (k := 20) rfl hB2 [c20, c21, c22, c23, c24, c25, c26] rfl Try.underlying55 rfl (by kernel_rfl) ?_
        go_wp2_with (first | (with_reducible refine stop_load 28 rfl ?_) | (with_reducible refine stop_load 24 rfl ?_) | (with_reducible refine stop_load 55 rfl ?_))
        go_fit (HS.out w2 hb2)
        rw [Hs1.out]
        rintro xx w3 ⟨rfl, hd3⟩
        have hb3 := hb2.trans (hd3.mono hb2.size)
        cases s1 with
        | false =>
          go_wp2
          go_ret
          exact ⟨by rw [HV.out]; rfl, hb3⟩
        | true =>
          go_wp2
          go_ret
          exact ⟨by rw [HV.out]; rfl, hb3⟩
      | true =>
        go_wp2_with (first | (with_reducible refine stop_load 28 rfl ?_) | (with_reducible refine stop_load 24 rfl ?_) | (with_reducible refine stop_load 55 rfl ?_))
        refine go_loadG rfl rfl (k := 20) rfl hB2 [c20, c21, c22, c23, c24, c25, c26] rfl Try.underlying55 rfl (by kernel_rfl) ?_
        go_wp2_with (first | (with_reducible refine stop_load 28 rfl ?_) | (with_reducible refine stop_load 24 rfl ?_) | (with_reducible refine stop_load 55 rfl ?_))
        go_fit (HS.out w2 hb2)
        rw [Hs1.out]
        rintro xx w3 ⟨rfl, hd3⟩
        have hb3 := hb2.trans (hd3.mono hb2.size)
        cases s1 with
        | false =>
          go_wp2
          go_ret
          exact ⟨by rw [HV.out]; rfl, hb3⟩
        | true =>
          go_wp2
          go_ret
          exact ⟨by rw [HV.out]; rfl, hb3⟩
  | true =>
    rcases hrs with ⟨q1, q3⟩ | ⟨q1, q2, q3⟩ | ⟨q1, q2, q3⟩
    · have q1' : ((rk : Int) != 0) = true := by simp only [bne, q1]; rfl
      subst q3
      go_wp2_with (first | (with_reducible refine stop_load 28 rfl ?_) | (with_reducible refine stop_load 24 rfl ?_) | (with_reducible refine stop_load 55 rfl ?_))
      refine go_loadG rfl rfl (k := 18) rfl hB1 [c18, c19] rfl Try.underlying24 rfl (by kernel_rfl) ?_
      go_wp2_with (first | (with_reducible refine stop_load 28 rfl ?_) | (with_reducible refine stop_load 24 rfl ?_) | (with_reducible refine stop_load 55 rfl ?_))
      go_fit (HG.out w1 hb1)
      rw [Hg1.out]
      rintro xx w2 ⟨rfl, hd2⟩
      have hb2 := hb1.trans (hd2.mono hb1.size)
      have hB2 := hB1.below hd2
      cases g1 with
      | false =>
        go_wp2_with (first | (with_reducible refine stop_load 28 rfl ?_) | (with_reducible refine stop_load 24 rfl ?_) | (with_reducible refine stop_load 55 rfl ?_))
        refine go_loadG rfl rfl (k := 20) rfl hB2 [c20, c21, c22, c23, c24, c25, c26] rfl Try.underlying55 rfl (by kernel_rfl) ?_
        go_wp2_with (first | (with_reducible refine stop_load 28 rfl ?_) | (with_reducible refine stop_load 24 rfl ?_) | (with_reducible refine stop_load 55 rfl ?_))
        go_fit (HS.out w2 hb2)
        rw [Hs1.out]
        rintro xx w3 ⟨rfl, hd3⟩
        have hb3 := hb2.trans (hd3.mono hb2.size)
        cases s1 with
        | false =>
          go_wp2
          go_ret
          exact ⟨by rw [HV.out]; rfl, hb3⟩
        | true =>
          go_wp2
          go_ret
          exact ⟨by rw [HV.out]; rfl, hb3⟩
      | true =>
        go_wp2_with (first | (with_reducible refine stop_load 28 rfl ?_) | (with_reducible refine stop_load 24 rfl ?_) | (with_reducible refine stop_load 55 rfl ?_))
        refine go_loadG rfl rfl (k := 20) rfl hB2 [c20, c21, c22, c23, c24, c25, c26] rfl Try.underlying55 rfl (by kernel_rfl) ?_
        go_wp2_with (first | (with_reducible refine stop_load 28 rfl ?_) | (with_reducible refine stop_load 24 rfl ?_) | (with_reducible refine stop_load 55 rfl ?_))
        go_fit (HS.out w2 hb2)
        rw [Hs1.out]
        rintro xx w3 ⟨rfl, hd3⟩
        have hb3 := hb2.trans (hd3.mono hb2.size)
        cases s1 with
        | false =>
          go_wp2
          go_ret
          exact ⟨by rw [HV.out]; rfl, hb3⟩
        | true =>
          go_wp2
          go_ret
          exact ⟨by rw [HV.out]; rfl, hb3⟩
    · have q1' : ((rk : Int) != 0) = false := by simp only [bne, q1]; rfl
      subst q3
      go_wp2_with (first | (with_reducible refine stop_load 28 rfl ?_) | (with_reducible refine stop_load 24 rfl ?_) | (with_reducible refine stop_load 55 rfl ?_))
      refine go_loadG rfl rfl (k := 18) rfl hB1 [c18, c19] rfl Try.underlying24 rfl (by kernel_rfl) ?_
      go_wp2_with (first | (with_reducible refine stop_load 28 rfl ?_) | (with_reducible refine stop_load 24 rfl ?_) | (with_reducible refine stop_load 55 rfl ?_))
      go_fit (HG.out w1 hb1)
      rw [Hg1.out]
      rintro xx w2 ⟨rfl, hd2⟩
      have hb2 := hb1.trans (hd2.mono hb1.size)
      have hB2 := hB1.below hd2
      cases g1 with
      | false =>
        go_wp2_with (first | (with_reducible refine stop_load 28 rfl ?_) | (with_reducible refine stop_load 24 rfl ?_) | (with_reducible refine stop_load 55 rfl ?_))
        refine go_loadG rfl rfl (k := 20) rfl hB2 [c20, c21, c22, c23, c24, c25, c26] rfl Try.underlying55 rfl (by kernel_rfl) ?_
        go_wp2_with (first | (with_reducible refine stop_load 28 rfl ?_) | (with_reducible refine stop_load 24 rfl ?_) | (with_reducible refine stop_load 55 rfl ?_))
        go_fit (HS.out w2 hb2)
        rw [Hs1.out]
        rintro xx w3 ⟨rfl, hd3⟩
        have hb3 := hb2.trans (hd3.mono hb2.size)
        cases s1 with
        | false =>
          go_wp2
          go_ret
          exact ⟨by rw [HV.out]; rfl, hb3⟩
        | true =>
          go_wp2
          go_ret
          exact ⟨by rw [HV.out]; rfl, hb3⟩
      | true =>
        go_wp2_with (first | (with_reducible refine stop_load 28 rfl ?_) | (with_reducible refine stop_load 24 rfl ?_) | (with_reducible refine stop_load 55 rfl ?_))
        refine go_loadG rfl rfl (k := 20) rfl hB2 [c20, c21, c22, c23, c24, c25, c26] rfl Try.underlying55 rfl (by kernel_rfl) ?_
        go_wp2_with (first | (with_reducible refine stop_load 28 rfl ?_) | (with_reducible refine stop_load 24 rfl ?_) | (with_reducible refine stop_load 55 rfl ?_))
        go_fit (HS.out w2 hb2)
        rw [Hs1.out]
        rintro xx w3 ⟨rfl, hd3⟩
        have hb3 := hb2.trans (hd3.mono hb2.size)
        cases s1 with
        | false =>
          go_wp2
          go_ret
          exact ⟨by rw [HV.out]; rfl, hb3⟩
        | true =>
          go_wp2
          go_ret
          exact ⟨by rw [HV.out]; rfl, hb3⟩
    · have q1' : ((rk : Int) != 0) = false := by simp only [bne, q1]; rfl
      subst q3
      go_wp2_with (first | (with_reducible refine stop_load 28 rfl ?_) | (with_reducible refine stop_load 24 rfl ?_) | (with_reducible refine stop_load 55 rfl ?_))
      refine go_loadG rfl rfl (k := 18) rfl hB1 [c18, c19] rfl Try.underlying24 rfl (by kernel_rfl) ?_
      go_wp2_with (first | (with_reducible refine stop_load 28 rfl ?_) | (with_reducible refine stop_load 24 rfl ?_) | (with_reducible refine stop_load 55 rfl ?_))
      go_fit (HG.out w1 hb1)
      rw [Hg1.out]
      rintro xx w2 ⟨rfl, hd2⟩
      have hb2 := hb1.trans (hd2.mono hb1.size)
      have hB2 := hB1.below hd2
      cases g1 with
      | false =>
        go_wp2_with (first | (with_reducible refine stop_load 28 rfl ?_) | (with_reducible refine stop_load 24 rfl ?_) | (with_reducible refine stop_load 55 rfl ?_))
        refine go_loadG rfl rfl (k := 20) rfl hB2 [c20, c21, c22, c23, c24, c25, c26] rfl Try.underlying55 rfl (by kernel_rfl) ?_
        go_wp2_with (first | (with_reducible refine stop_load 28 rfl ?_) | (with_reducible refine stop_load 24 rfl ?_) | (with_reducible refine stop_load 55 rfl ?_))
        go_fit (HS.out w2 hb2)
        rw [Hs1.out]
        rintro xx w3 ⟨rfl, hd3⟩
        have hb3 := hb2.trans (hd3.mono hb2.size)
        cases s1 with
        | false =>
          go_wp2
          go_ret
          exact ⟨by rw [HV.out]; rfl, hb3⟩
        | true =>
          go_wp2
          go_ret
          exact ⟨by rw [HV.out]; rfl, hb3⟩
      | true =>
        go_wp2_with (first | (with_reducible refine stop_load 28 rfl ?_) | (with_reducible refine stop_load 24 rfl ?_) | (with_reducible refine stop_load 55 rfl ?_))
        refine go_loadG rfl rfl (k := 20) rfl hB2 [c20, c21, c22, c23, c24, c25, c26] rfl Try.underlying55 rfl (by kernel_rfl) ?_
        go_wp2_with (first | (with_reducible refine stop_load 28 rfl ?_) | (with_reducible refine stop_load 24 rfl ?_) | (with_reducible refine stop_load 55 rfl ?_))
        go_fit (HS.out w2 hb2)
        rw [Hs1.out]
        rintro xx w3 ⟨rfl, hd3⟩
        have hb3 := hb2.trans (hd3.mono hb2.size)
        cases s1 with
        | false =>
          go_wp2
          go_ret
          exact ⟨by rw [HV.out]; rfl, hb3⟩
        | true =>
          go_wp2
          go_ret
          exact ⟨by rw [HV.out]; rfl, hb3⟩
end Go.Proofs.Ytlcbelmbonaooaa
