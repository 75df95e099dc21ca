/- Stage 24: which messages may be (written by gen_24q.py). -/
import Derived.Test.YtlcbelmbonaooaaF24p
namespace Go.Proofs.Ytlcbelmbonaooaa
set_option maxRecDepth 20000
open Go.RowKit Go.Px Go.Maps Go.Deep
set_option linter.unusedVariables false
set_option linter.unusedSimpArgs false
/-- Which kinds there are. -/
def kinB (k : Nat) : Bool := decide (1 ≤ k ∧ k ≤ 14)
def numsB (e v nu cm no cl se : Int) : Bool := numB e && (numB v && (numB nu && (numB cm && (numB no && (numB cl && numB se)))))
/-- May a message be? -/
def msgB : MsgD → Bool
  | (k, f, t, e, v, nu, cm, no, nc, cl, se, o, r, g, s, l) => kinB k && (endB f && (endB t && (numsB e v nu cm no cl se && (opK o && (reK r && (grZ g && (stK s && entsB l)))))))
def mE (x : MsgD) : Int := if msgB x = true then 0 else 160
theorem mE_ok {x : MsgD} (h : msgB x = true) : mE x = 0 := if_pos h
theorem mE_no {x : MsgD} (h : msgB x = false) : mE x = 160 := if_neg (by rw [h]; decide)
theorem ix7_0 (a0 a1 a2 a3 a4 a5 a6 : Int) (w : World) : Sem.run Try.prog (Instr.index 98 (.agg #[.int .i64 a0, .int .i64 a1, .int .i64 a2, .int .i64 a3, .int .i64 a4, .int .i64 a5, .int .i64 a6]) (.int .i64 0)) w = .ok (.int .i64 a0) w := rfl
theorem ix7_1 (a0 a1 a2 a3 a4 a5 a6 : Int) (w : World) : Sem.run Try.prog (Instr.index 98 (.agg #[.int .i64 a0, .int .i64 a1, .int .i64 a2, .int .i64 a3, .int .i64 a4, .int .i64 a5, .int .i64 a6]) (.int .i64 1)) w = .ok (.int .i64 a1) w := rfl
theorem ix7_2 (a0 a1 a2 a3 a4 a5 a6 : Int) (w : World) : Sem.run Try.prog (Instr.index 98 (.agg #[.int .i64 a0, .int .i64 a1, .int .i64 a2, .int .i64 a3, .int .i64 a4, .int .i64 a5, .int .i64 a6]) (.int .i64 2)) w = .ok (.int .i64 a2) w := rfl
theorem ix7_3 (a0 a1 a2 a3 a4 a5 a6 : Int) (w : World) : Sem.run Try.prog (Instr.index 98 (.agg #[.int .i64 a0, .int .i64 a1, .int .i64 a2, .int .i64 a3, .int .i64 a4, .int .i64 a5, .int .i64 a6]) (.int .i64 3)) w = .ok (.int .i64 a3) w := rfl
theorem ix7_4 (a0 a1 a2 a3 a4 a5 a6 : Int) (w : World) : Sem.run Try.prog (Instr.index 98 (.agg #[.int .i64 a0, .int .i64 a1, .int .i64 a2, .int .i64 a3, .int .i64 a4, .int .i64 a5, .int .i64 a6]) (.int .i64 4)) w = .ok (.int .i64 a4) w := rfl
theorem ix7_5 (a0 a1 a2 a3 a4 a5 a6 : Int) (w : World) : Sem.run Try.prog (Instr.index 98 (.agg #[.int .i64 a0, .int .i64 a1, .int .i64 a2, .int .i64 a3, .int .i64 a4, .int .i64 a5, .int .i64 a6]) (.int .i64 5)) w = .ok (.int .i64 a5) w := rfl
theorem ix7_6 (a0 a1 a2 a3 a4 a5 a6 : Int) (w : World) : Sem.run Try.prog (Instr.index 98 (.agg #[.int .i64 a0, .int .i64 a1, .int .i64 a2, .int .i64 a3, .int .i64 a4, .int .i64 a5, .int .i64 a6]) (.int .i64 6)) w = .ok (.int .i64 a6) w := rfl
set_option maxRecDepth 20000 in
set_option maxHeartbeats 51200000 in
theorem check_is {w : World} {Q : Nat → Prop} {x : MsgD} {cs : List Value} (h : tyMsg.Is w Q x cs) : Calls Try.prog 45 #[.agg cs.toArray] w fun e w' => e = .returned (.int .i64 (mE x)) ∧ Below w.heap.size w w' := by
  have h9 := h
  obtain ⟨k, f, t, e, v, nu, cm, no, nc, cl, se, o, r, g, s, l, c11, c12, c13, c14, c15, c16, c17, c18, c19, c20, c21, c22, c23, c24, c25, c26, c27, rfl, rfl, ho, hr, hg, hs, hl, HM⟩ := Msg_parts h
  obtain ⟨lA, ln, lc, lv, rfl, hll, hlc, hlm, hlr, hlq, hle⟩ := Row_cell hl
  have hRA := rowAt_of (Ty.n_pos _) hll hlr hle
  have HP := hide (fun W (hW : Below w.heap.size w W) => parts_is (h9.below hW))
  have HO := hide (fun W (hW : Below w.heap.size w W) => form_is (ho.below hW))
  have HRe := hide (fun W (hW : Below w.heap.size w W) => result_is (hr.below hW))
  have HG := hide (fun W (hW : Below w.heap.size w W) => mayGroup_is (hg.below hW))
  have HS := hide (fun W (hW : Below w.heap.size w W) => mayState_any (hs.below hW))
  have HE := hide (fun W (hW : Below w.heap.size w W) => mayEntries_any (c := lc) (RowAt.go hRA hW) hW.size (by omega))
  obtain ⟨o1, ho1⟩ : ∃ b, opN o = b := ⟨_, rfl⟩
  obtain ⟨r1, hr1⟩ : ∃ b, reN r = b := ⟨_, rfl⟩
  obtain ⟨g1, hg1⟩ : ∃ b, grN g = b := ⟨_, rfl⟩
  obtain ⟨s1, hs1⟩ : ∃ b, stN s = b := ⟨_, rfl⟩
  obtain ⟨of, hof⟩ : ∃ b, opF o = b := ⟨_, rfl⟩
  obtain ⟨rf, hrf⟩ : ∃ b, reF r = b := ⟨_, rfl⟩
  obtain ⟨gk, hgk⟩ : ∃ b, grK g = b := ⟨_, rfl⟩
  obtain ⟨sk, hsk⟩ : ∃ b, stateB s = b := ⟨_, rfl⟩
  obtain ⟨en, hen⟩ : ∃ b, entsB l = b := ⟨_, rfl⟩
  have HV := hide (show msgB (k, f, t, e, v, nu, cm, no, nc, cl, se, o, r, g, s, l) = (kinB k && (endB f && (endB t && (numsB e v nu cm no cl se && ((o1 || (of == 0)) && ((r1 || (rf == 0)) && ((g1 || gk) && ((s1 || sk) && en)))))))) by rw [← ho1, ← hr1, ← hg1, ← hs1, ← hof, ← hrf, ← hgk, ← hsk, ← hen]; rfl)
  have HPP := hide (show mprt (k, f, t, e, v, nu, cm, no, nc, cl, se, o, r, g, s, l) = parN o1 r1 g1 s1 by rw [← ho1, ← hr1, ← hg1, ← hs1]; rfl)
  have Hof := hide hof
  have Hrf := hide hrf
  have Hgk := hide hgk
  have Hsk := hide hsk
  have Hen := hide hen
  clear h h9 HM ho hr hg hs hl hll hlc hlm hlr hlq hle hRA ho1 hr1 hg1 hs1 hof hrf hgk hsk hen
  obtain ⟨w0, hw0⟩ : ∃ x, w.alloc (.cells #[.int .u8 k, .int .i64 f, .int .i64 t, .int .i64 e, .int .i64 v, .int .i64 nu, .int .i64 cm, .int .i64 no, .int .u64 nc, .int .i64 cl, .int .i64 se, c11, c12, c13, c14, c15, c16, c17, c18, c19, c20, c21, c22, c23, c24, c25, c26, .slice lA ln lc] 58) = x := ⟨_, rfl⟩
  have hB0 : Blk w0 w.heap.size [.int .u8 k, .int .i64 f, .int .i64 t, .int .i64 e, .int .i64 v, .int .i64 nu, .int .i64 cm, .int .i64 no, .int .u64 nc, .int .i64 cl, .int .i64 se, c11, c12, c13, c14, c15, c16, c17, c18, c19, c20, c21, c22, c23, c24, c25, c26, .slice lA ln lc] 58 := by rw [← hw0]; exact Blk.new w _ _
  have hb0 : Below w.heap.size w w0 := by rw [← hw0]; exact (Below.refl _ _).alloc (Nat.le_refl _) _
  have Hw0 := hide hw0
  clear hw0
  have y0 := Blk.cell hB0 (j := 0) rfl; have y1 := Blk.cell hB0 (j := 1) rfl; have y2 := Blk.cell hB0 (j := 2) rfl; have y3 := Blk.cell hB0 (j := 3) rfl; have y4 := Blk.cell hB0 (j := 4) rfl; have y5 := Blk.cell hB0 (j := 5) rfl; have y6 := Blk.cell hB0 (j := 6) rfl; have y7 := Blk.cell hB0 (j := 7) rfl; have y8 := Blk.cell hB0 (j := 8) rfl; have y9 := Blk.cell hB0 (j := 9) rfl; have y10 := Blk.cell hB0 (j := 10) rfl
  rcases Nat.eq_zero_or_pos k with hk0 | hk0
  · have HK := hide (show kinB k = false from decide_eq_false (by omega))
    have hk1 : decide ((k : Int) < 1) = true := decide_eq_true (by omega)
    clear hk0
    have HR := hide (mE_no (show msgB (k, f, t, e, v, nu, cm, no, nc, cl, se, o, r, g, s, l) = false by rw [HV.out]; simp only [HK.out, Bool.true_and, Bool.false_and, Bool.and_false, Bool.or_false, Bool.false_or, Bool.true_or]))
    go_enter Try.func45, Try.ntmps45
    go_wp2_with (first | (with_reducible refine stop_load 28 rfl ?_) | (with_reducible refine stop_load 49 rfl ?_) | (with_reducible refine stop_load 24 rfl ?_) | (with_reducible refine stop_load 55 rfl ?_) | (with_reducible refine stop_load 58 rfl ?_))
    go_ret
    exact ⟨by rw [HR.out]; (first | done | rfl), by first | exact hb0 | (rw [Hw0.out]; exact hb0)⟩
  have hk1 : decide ((k : Int) < 1) = false := decide_eq_false (by omega)
  rcases bool_two (decide ((14 : Int) < (k : Int))) with hk2 | hk2
  · have HK := hide (show kinB k = false from decide_eq_false (by have := of_decide_eq_true hk2; omega))
    have HR := hide (mE_no (show msgB (k, f, t, e, v, nu, cm, no, nc, cl, se, o, r, g, s, l) = false by rw [HV.out]; simp only [HK.out, Bool.true_and, Bool.false_and, Bool.and_false, Bool.or_false, Bool.false_or, Bool.true_or]))
    go_enter Try.func45, Try.ntmps45
    go_wp2_with (first | (with_reducible refine stop_load 28 rfl ?_) | (with_reducible refine stop_load 49 rfl ?_) | (with_reducible refine stop_load 24 rfl ?_) | (with_reducible refine stop_load 55 rfl ?_) | (with_reducible refine stop_load 58 rfl ?_))
    go_ret
    exact ⟨by rw [HR.out]; (first | done | rfl), by first | exact hb0 | (rw [Hw0.out]; exact hb0)⟩
  have HK := hide (show kinB k = true from decide_eq_true (by have := of_decide_eq_false hk2; omega))
  rcases bool_two (endB f) with q1 | q1
  rotate_left
  · have H1 := hide q1
    have HR := hide (mE_no (show msgB (k, f, t, e, v, nu, cm, no, nc, cl, se, o, r, g, s, l) = false by rw [HV.out]; simp only [HK.out, H1.out, Bool.true_and, Bool.false_and, Bool.and_false, Bool.or_false, Bool.false_or, Bool.true_or]))
    clear q1
    go_enter Try.func45, Try.ntmps45
    go_wp2_with (first | (with_reducible refine stop_load 28 rfl ?_) | (with_reducible refine stop_load 49 rfl ?_) | (with_reducible refine stop_load 24 rfl ?_) | (with_reducible refine stop_load 55 rfl ?_) | (with_reducible refine stop_load 58 rfl ?_))
    try rw [Hw0.out]
    go_fit (isEnd_any f w0)
    rw [H1.out]
    rintro xx wz ⟨rfl, rfl⟩
    go_wp2
    go_ret
    exact ⟨by rw [HR.out]; (first | done | rfl), hb0⟩
  have H1 := hide q1
  clear q1
  rcases bool_two (endB t) with q1 | q1
  rotate_left
  · have H2 := hide q1
    have HR := hide (mE_no (show msgB (k, f, t, e, v, nu, cm, no, nc, cl, se, o, r, g, s, l) = false by rw [HV.out]; simp only [HK.out, H1.out, H2.out, Bool.true_and, Bool.false_and, Bool.and_false, Bool.or_false, Bool.false_or, Bool.true_or]))
    clear q1
    go_enter Try.func45, Try.ntmps45
    go_wp2_with (first | (with_reducible refine stop_load 28 rfl ?_) | (with_reducible refine stop_load 49 rfl ?_) | (with_reducible refine stop_load 24 rfl ?_) | (with_reducible refine stop_load 55 rfl ?_) | (with_reducible refine stop_load 58 rfl ?_))
    try rw [Hw0.out]
    go_fit (isEnd_any f w0)
    rw [H1.out]
    rintro xx wz ⟨rfl, rfl⟩
    go_wp2_with (first | (with_reducible refine stop_load 28 rfl ?_) | (with_reducible refine stop_load 49 rfl ?_) | (with_reducible refine stop_load 24 rfl ?_) | (with_reducible refine stop_load 55 rfl ?_) | (with_reducible refine stop_load 58 rfl ?_))
    go_fit (isEnd_any t w0)
    rw [H2.out]
    rintro xx wz ⟨rfl, rfl⟩
    go_wp2
    go_ret
    exact ⟨by rw [HR.out]; (first | done | rfl), hb0⟩
  have H2 := hide q1
  clear q1
  go_enter Try.func45, Try.ntmps45
  go_wp2_with (first | (with_reducible refine stop_load 28 rfl ?_) | (with_reducible refine stop_load 49 rfl ?_) | (with_reducible refine stop_load 24 rfl ?_) | (with_reducible refine stop_load 55 rfl ?_) | (with_reducible refine stop_load 58 rfl ?_))
  try rw [Hw0.out]
  go_fit (isEnd_any f w0)
  rw [H1.out]
  rintro xx wz ⟨rfl, rfl⟩
  go_wp2_with (first | (with_reducible refine stop_load 28 rfl ?_) | (with_reducible refine stop_load 49 rfl ?_) | (with_reducible refine stop_load 24 rfl ?_) | (with_reducible refine stop_load 55 rfl ?_) | (with_reducible refine stop_load 58 rfl ?_))
  go_fit (isEnd_any t w0)
  rw [H2.out]
  rintro xx wz ⟨rfl, rfl⟩
  go_wp2_with (first | (with_reducible refine stop_load 28 rfl ?_) | (with_reducible refine stop_load 49 rfl ?_) | (with_reducible refine stop_load 24 rfl ?_) | (with_reducible refine stop_load 55 rfl ?_) | (with_reducible refine stop_load 58 rfl ?_))

  go_loopw [41] (fun iv wr => ∃ j : Nat, j ≤ 7 ∧ iv = .int .i64 j ∧ w0 = wr ∧ Hid (1 ≤ j → numB e = true) ∧ Hid (2 ≤ j → numB v = true) ∧ Hid (3 ≤ j → numB nu = true) ∧ Hid (4 ≤ j → numB cm = true) ∧ Hid (5 ≤ j → numB no = true) ∧ Hid (6 ≤ j → numB cl = true) ∧ Hid (7 ≤ j → numB se = true)) (fun iv _ => 7 - (intOf iv).toNat)
  case atStart => exact ⟨0, by omega, rfl, rfl, hide (by omega), hide (by omega), hide (by omega), hide (by omega), hide (by omega), hide (by omega), hide (by omega)⟩
  case round =>
    obtain ⟨j, hj, rfl, rfl, u0, u1, u2, u3, u4, u5, u6⟩ := hrel
    rcases (show j = 0 ∨ j = 1 ∨ j = 2 ∨ j = 3 ∨ j = 4 ∨ j = 5 ∨ j = 6 ∨ j = 7 by omega) with rfl | rfl | rfl | rfl | rfl | rfl | rfl | rfl
    · have ix := ix7_0 e v nu cm no cl se w0
      rcases bool_two (numB e) with q1 | q1
      rotate_left
      · have Hn := hide q1
        have HN := hide (show numsB e v nu cm no cl se = false by unfold numsB; simp only [Hn.out, Bool.true_and, Bool.false_and, Bool.and_false])
        have HR := hide (mE_no (show msgB (k, f, t, e, v, nu, cm, no, nc, cl, se, o, r, g, s, l) = false by rw [HV.out]; simp only [HK.out, H1.out, H2.out, HN.out, Bool.true_and, Bool.false_and, Bool.and_false, Bool.or_false, Bool.false_or, Bool.true_or]))
        clear q1
        go_wp2_with (first | (with_reducible refine stop_load 28 rfl ?_) | (with_reducible refine stop_load 49 rfl ?_) | (with_reducible refine stop_load 24 rfl ?_) | (with_reducible refine stop_load 55 rfl ?_) | (with_reducible refine stop_load 58 rfl ?_))
        go_fit (number_any e _)
        rw [Hn.out]
        rintro xx wz ⟨rfl, rfl⟩
        go_wp2
        go_ret
        exact ⟨by rw [HR.out]; (first | done | rfl), hb0⟩
      have Hn := hide q1
      clear q1
      go_wp2_with (first | (with_reducible refine stop_load 28 rfl ?_) | (with_reducible refine stop_load 49 rfl ?_) | (with_reducible refine stop_load 24 rfl ?_) | (with_reducible refine stop_load 55 rfl ?_) | (with_reducible refine stop_load 58 rfl ?_))
      go_fit (number_any e _)
      rw [Hn.out]
      rintro xx wz ⟨rfl, rfl⟩
      go_wp2
      go_roundw
      case rel => exact ⟨1, by omega, rfl, by first | trivial | rfl, hide (fun _ => Hn.out), hide (by omega), hide (by omega), hide (by omega), hide (by omega), hide (by omega), hide (by omega)⟩
      case measure => simp [intOf]
    · have ix := ix7_1 e v nu cm no cl se w0
      rcases bool_two (numB v) with q1 | q1
      rotate_left
      · have Hn := hide q1
        have HN := hide (show numsB e v nu cm no cl se = false by unfold numsB; simp only [u0.out (by omega), Hn.out, Bool.true_and, Bool.false_and, Bool.and_false])
        have HR := hide (mE_no (show msgB (k, f, t, e, v, nu, cm, no, nc, cl, se, o, r, g, s, l) = false by rw [HV.out]; simp only [HK.out, H1.out, H2.out, HN.out, Bool.true_and, Bool.false_and, Bool.and_false, Bool.or_false, Bool.false_or, Bool.true_or]))
        clear q1
        go_wp2_with (first | (with_reducible refine stop_load 28 rfl ?_) | (with_reducible refine stop_load 49 rfl ?_) | (with_reducible refine stop_load 24 rfl ?_) | (with_reducible refine stop_load 55 rfl ?_) | (with_reducible refine stop_load 58 rfl ?_))
        go_fit (number_any v _)
        rw [Hn.out]
        rintro xx wz ⟨rfl, rfl⟩
        go_wp2
        go_ret
        exact ⟨by rw [HR.out]; (first | done | rfl), hb0⟩
      have Hn := hide q1
      clear q1
      go_wp2_with (first | (with_reducible refine stop_load 28 rfl ?_) | (with_reducible refine stop_load 49 rfl ?_) | (with_reducible refine stop_load 24 rfl ?_) | (with_reducible refine stop_load 55 rfl ?_) | (with_reducible refine stop_load 58 rfl ?_))
      go_fit (number_any v _)
      rw [Hn.out]
      rintro xx wz ⟨rfl, rfl⟩
      go_wp2
      go_roundw
      case rel => exact ⟨2, by omega, rfl, by first | trivial | rfl, hide (fun _ => u0.out (by omega)), hide (fun _ => Hn.out), hide (by omega), hide (by omega), hide (by omega), hide (by omega), hide (by omega)⟩
      case measure => simp [intOf]
    · have ix := ix7_2 e v nu cm no cl se w0
      rcases bool_two (numB nu) with q1 | q1
      rotate_left
      · have Hn := hide q1
        have HN := hide (show numsB e v nu cm no cl se = false by unfold numsB; simp only [u0.out (by omega), u1.out (by omega), Hn.out, Bool.true_and, Bool.false_and, Bool.and_false])
        have HR := hide (mE_no (show msgB (k, f, t, e, v, nu, cm, no, nc, cl, se, o, r, g, s, l) = false by rw [HV.out]; simp only [HK.out, H1.out, H2.out, HN.out, Bool.true_and, Bool.false_and, Bool.and_false, Bool.or_false, Bool.false_or, Bool.true_or]))
        clear q1
        go_wp2_with (first | (with_reducible refine stop_load 28 rfl ?_) | (with_reducible refine stop_load 49 rfl ?_) | (with_reducible refine stop_load 24 rfl ?_) | (with_reducible refine stop_load 55 rfl ?_) | (with_reducible refine stop_load 58 rfl ?_))
        go_fit (number_any nu _)
        rw [Hn.out]
        rintro xx wz ⟨rfl, rfl⟩
        go_wp2
        go_ret
        exact ⟨by rw [HR.out]; (first | done | rfl), hb0⟩
      have Hn := hide q1
      clear q1
      go_wp2_with (first | (with_reducible refine stop_load 28 rfl ?_) | (with_reducible refine stop_load 49 rfl ?_) | (with_reducible refine stop_load 24 rfl ?_) | (with_reducible refine stop_load 55 rfl ?_) | (with_reducible refine stop_load 58 rfl ?_))
      go_fit (number_any nu _)
      rw [Hn.out]
      rintro xx wz ⟨rfl, rfl⟩
      go_wp2
      go_roundw
      case rel => exact ⟨3, by omega, rfl, by first | trivial | rfl, hide (fun _ => u0.out (by omega)), hide (fun _ => u1.out (by omega)), hide (fun _ => Hn.out), hide (by omega), hide (by omega), hide (by omega), hide (by omega)⟩
      case measure => simp [intOf]
    · have ix := ix7_3 e v nu cm no cl se w0
      rcases bool_two (numB cm) with q1 | q1
      rotate_left
      · have Hn := hide q1
        have HN := hide (show numsB e v nu cm no cl se = false by unfold numsB; simp only [u0.out (by omega), u1.out (by omega), u2.out (by omega), Hn.out, Bool.true_and, Bool.false_and, Bool.and_false])
        have HR := hide (mE_no (show msgB (k, f, t, e, v, nu, cm, no, nc, cl, se, o, r, g, s, l) = false by rw [HV.out]; simp only [HK.out, H1.out, H2.out, HN.out, Bool.true_and, Bool.false_and, Bool.and_false, Bool.or_false, Bool.false_or, Bool.true_or]))
        clear q1
        go_wp2_with (first | (with_reducible refine stop_load 28 rfl ?_) | (with_reducible refine stop_load 49 rfl ?_) | (with_reducible refine stop_load 24 rfl ?_) | (with_reducible refine stop_load 55 rfl ?_) | (with_reducible refine stop_load 58 rfl ?_))
        go_fit (number_any cm _)
        rw [Hn.out]
        rintro xx wz ⟨rfl, rfl⟩
        go_wp2
        go_ret
        exact ⟨by rw [HR.out]; (first | done | rfl), hb0⟩
      have Hn := hide q1
      clear q1
      go_wp2_with (first | (with_reducible refine stop_load 28 rfl ?_) | (with_reducible refine stop_load 49 rfl ?_) | (with_reducible refine stop_load 24 rfl ?_) | (with_reducible refine stop_load 55 rfl ?_) | (with_reducible refine stop_load 58 rfl ?_))
      go_fit (number_any cm _)
      rw [Hn.out]
      rintro xx wz ⟨rfl, rfl⟩
      go_wp2
      go_roundw
      case rel => exact ⟨4, by omega, rfl, by first | trivial | rfl, hide (fun _ => u0.out (by omega)), hide (fun _ => u1.out (by omega)), hide (fun _ => u2.out (by omega)), hide (fun _ => Hn.out), hide (by omega), hide (by omega), hide (by omega)⟩
      case measure => simp [intOf]
    · have ix := ix7_4 e v nu cm no cl se w0
      rcases bool_two (numB no) with q1 | q1
      rotate_left
      · have Hn := hide q1
        have HN := hide (show numsB e v nu cm no cl se = false by unfold numsB; simp only [u0.out (by omega), u1.out (by omega), u2.out (by omega), u3.out (by omega), Hn.out, Bool.true_and, Bool.false_and, Bool.and_false])
        have HR := hide (mE_no (show msgB (k, f, t, e, v, nu, cm, no, nc, cl, se, o, r, g, s, l) = false by rw [HV.out]; simp only [HK.out, H1.out, H2.out, HN.out, Bool.true_and, Bool.false_and, Bool.and_false, Bool.or_false, Bool.false_or, Bool.true_or]))
        clear q1
        go_wp2_with (first | (with_reducible refine stop_load 28 rfl ?_) | (with_reducible refine stop_load 49 rfl ?_) | (with_reducible refine stop_load 24 rfl ?_) | (with_reducible refine stop_load 55 rfl ?_) | (with_reducible refine stop_load 58 rfl ?_))
        go_fit (number_any no _)
        rw [Hn.out]
        rintro xx wz ⟨rfl, rfl⟩
        go_wp2
        go_ret
        exact ⟨by rw [HR.out]; (first | done | rfl), hb0⟩
      have Hn := hide q1
      clear q1
      go_wp2_with (first | (with_reducible refine stop_load 28 rfl ?_) | (with_reducible refine stop_load 49 rfl ?_) | (with_reducible refine stop_load 24 rfl ?_) | (with_reducible refine stop_load 55 rfl ?_) | (with_reducible refine stop_load 58 rfl ?_))
      go_fit (number_any no _)
      rw [Hn.out]
      rintro xx wz ⟨rfl, rfl⟩
      go_wp2
      go_roundw
      case rel => exact ⟨5, by omega, rfl, by first | trivial | rfl, hide (fun _ => u0.out (by omega)), hide (fun _ => u1.out (by omega)), hide (fun _ => u2.out (by omega)), hide (fun _ => u3.out (by omega)), hide (fun _ => Hn.out), hide (by omega), hide (by omega)⟩
      case measure => simp [intOf]
    · have ix := ix7_5 e v nu cm no cl se w0
      rcases bool_two (numB cl) with q1 | q1
      rotate_left
      · have Hn := hide q1
        have HN := hide (show numsB e v nu cm no cl se = false by unfold numsB; simp only [u0.out (by omega), u1.out (by omega), u2.out (by omega), u3.out (by omega), u4.out (by omega), Hn.out, Bool.true_and, Bool.false_and, Bool.and_false])
        have HR := hide (mE_no (show msgB (k, f, t, e, v, nu, cm, no, nc, cl, se, o, r, g, s, l) = false by rw [HV.out]; simp only [HK.out, H1.out, H2.out, HN.out, Bool.true_and, Bool.false_and, Bool.and_false, Bool.or_false, Bool.false_or, Bool.true_or]))
        clear q1
        go_wp2_with (first | (with_reducible refine stop_load 28 rfl ?_) | (with_reducible refine stop_load 49 rfl ?_) | (with_reducible refine stop_load 24 rfl ?_) | (with_reducible refine stop_load 55 rfl ?_) | (with_reducible refine stop_load 58 rfl ?_))
        go_fit (number_any cl _)
        rw [Hn.out]
        rintro xx wz ⟨rfl, rfl⟩
        go_wp2
        go_ret
        exact ⟨by rw [HR.out]; (first | done | rfl), hb0⟩
      have Hn := hide q1
      clear q1
      go_wp2_with (first | (with_reducible refine stop_load 28 rfl ?_) | (with_reducible refine stop_load 49 rfl ?_) | (with_reducible refine stop_load 24 rfl ?_) | (with_reducible refine stop_load 55 rfl ?_) | (with_reducible refine stop_load 58 rfl ?_))
      go_fit (number_any cl _)
      rw [Hn.out]
      rintro xx wz ⟨rfl, rfl⟩
      go_wp2
      go_roundw
      case rel => exact ⟨6, by omega, rfl, by first | trivial | rfl, hide (fun _ => u0.out (by omega)), hide (fun _ => u1.out (by omega)), hide (fun _ => u2.out (by omega)), hide (fun _ => u3.out (by omega)), hide (fun _ => u4.out (by omega)), hide (fun _ => Hn.out), hide (by omega)⟩
      case measure => simp [intOf]
    · have ix := ix7_6 e v nu cm no cl se w0
      rcases bool_two (numB se) with q1 | q1
      rotate_left
      · have Hn := hide q1
        have HN := hide (show numsB e v nu cm no cl se = false by unfold numsB; simp only [u0.out (by omega), u1.out (by omega), u2.out (by omega), u3.out (by omega), u4.out (by omega), u5.out (by omega), Hn.out, Bool.true_and, Bool.false_and, Bool.and_false])
        have HR := hide (mE_no (show msgB (k, f, t, e, v, nu, cm, no, nc, cl, se, o, r, g, s, l) = false by rw [HV.out]; simp only [HK.out, H1.out, H2.out, HN.out, Bool.true_and, Bool.false_and, Bool.and_false, Bool.or_false, Bool.false_or, Bool.true_or]))
        clear q1
        go_wp2_with (first | (with_reducible refine stop_load 28 rfl ?_) | (with_reducible refine stop_load 49 rfl ?_) | (with_reducible refine stop_load 24 rfl ?_) | (with_reducible refine stop_load 55 rfl ?_) | (with_reducible refine stop_load 58 rfl ?_))
        go_fit (number_any se _)
        rw [Hn.out]
        rintro xx wz ⟨rfl, rfl⟩
        go_wp2
        go_ret
        exact ⟨by rw [HR.out]; (first | done | rfl), hb0⟩
      have Hn := hide q1
      clear q1
      go_wp2_with (first | (with_reducible refine stop_load 28 rfl ?_) | (with_reducible refine stop_load 49 rfl ?_) | (with_reducible refine stop_load 24 rfl ?_) | (with_reducible refine stop_load 55 rfl ?_) | (with_reducible refine stop_load 58 rfl ?_))
      go_fit (number_any se _)
      rw [Hn.out]
      rintro xx wz ⟨rfl, rfl⟩
      go_wp2
      go_roundw
      case rel => exact ⟨7, by omega, rfl, by first | trivial | rfl, hide (fun _ => u0.out (by omega)), hide (fun _ => u1.out (by omega)), hide (fun _ => u2.out (by omega)), hide (fun _ => u3.out (by omega)), hide (fun _ => u4.out (by omega)), hide (fun _ => u5.out (by omega)), hide (fun _ => Hn.out)⟩
      case measure => simp [intOf]
    · have HN := hide (show numsB e v nu cm no cl se = true by unfold numsB; simp only [u0.out (by omega), u1.out (by omega), u2.out (by omega), u3.out (by omega), u4.out (by omega), u5.out (by omega), u6.out (by omega), Bool.true_and])
      clear u0 u1 u2 u3 u4 u5 u6
      go_wp2_with (first | (with_reducible refine stop_load 28 rfl ?_) | (with_reducible refine stop_load 49 rfl ?_) | (with_reducible refine stop_load 24 rfl ?_) | (with_reducible refine stop_load 55 rfl ?_) | (with_reducible refine stop_load 58 rfl ?_))
      refine go_loadG rfl rfl (k := 0) rfl hB0 [.int .u8 k, .int .i64 f, .int .i64 t, .int .i64 e, .int .i64 v, .int .i64 nu, .int .i64 cm, .int .i64 no, .int .u64 nc, .int .i64 cl, .int .i64 se, c11, c12, c13, c14, c15, c16, c17, c18, c19, c20, c21, c22, c23, c24, c25, c26, .slice lA ln lc] rfl Try.underlying58 rfl (by kernel_rfl) ?_
      go_wp2_with (first | (with_reducible refine stop_load 28 rfl ?_) | (with_reducible refine stop_load 49 rfl ?_) | (with_reducible refine stop_load 24 rfl ?_) | (with_reducible refine stop_load 55 rfl ?_) | (with_reducible refine stop_load 58 rfl ?_))
      go_fit (HP.out w0 hb0)
      rw [HPP.out]
      rintro xx w1 ⟨rfl, hd1⟩
      have hb1 := hb0.trans (hd1.mono hb0.size)
      have hB1 := hB0.below hd1
      clear y0 y1 y2 y3 y4 y5 y6 y7 y8 y9 y10
      have x27 := hB1.cell (j := 27) rfl
      cases o1 with
      | false =>
        cases r1 with
        | false =>
          cases g1 with
          | false =>
            cases s1 with
            | false =>
              rw [show parN false false false false = 15 from by decide]
              have a1 : bits BinOp.and .i64 15 1 = 1 := by decide
              have a2 : bits BinOp.and .i64 15 2 = 2 := by decide
              have a4 : bits BinOp.and .i64 15 4 = 4 := by decide
              have a8 : bits BinOp.and .i64 15 8 = 8 := by decide
              go_wp2_with (first | (with_reducible refine stop_load 28 rfl ?_) | (with_reducible refine stop_load 49 rfl ?_) | (with_reducible refine stop_load 24 rfl ?_) | (with_reducible refine stop_load 55 rfl ?_) | (with_reducible refine stop_load 58 rfl ?_))
              refine go_loadG rfl rfl (k := 11) rfl hB1 [c11, c12, c13, c14, c15] rfl Try.underlying28 rfl (by kernel_rfl) ?_
              go_wp2_with (first | (with_reducible refine stop_load 28 rfl ?_) | (with_reducible refine stop_load 49 rfl ?_) | (with_reducible refine stop_load 24 rfl ?_) | (with_reducible refine stop_load 55 rfl ?_) | (with_reducible refine stop_load 58 rfl ?_))
              go_fit (HO.out w1 hb1)
              rw [Hof.out]
              rintro xx w2 ⟨rfl, hd2⟩
              have hb2 := hb1.trans (hd2.mono hb1.size)
              have hB2 := hB1.below hd2
              clear x27
              have x27 := hB2.cell (j := 27) rfl
              rcases bool_two (of == 0) with p0 | p0
              rotate_left
              · have p0' : (of != 0) = true := by simp only [bne, p0]; rfl
                have Q0 := hide p0
                have HR := hide (mE_no (show msgB (k, f, t, e, v, nu, cm, no, nc, cl, se, o, r, g, s, l) = false by rw [HV.out]; simp only [HK.out, H1.out, H2.out, HN.out, Q0.out, Bool.true_and, Bool.false_and, Bool.and_false, Bool.or_false, Bool.false_or, Bool.true_or]))
                clear p0
                go_wp2
                go_ret
                exact ⟨by rw [HR.out]; (first | done | rfl), hb2⟩
              have p0' : (of != 0) = false := by simp only [bne, p0]; rfl
              have Q0 := hide p0
              clear p0
              go_wp2_with (first | (with_reducible refine stop_load 28 rfl ?_) | (with_reducible refine stop_load 49 rfl ?_) | (with_reducible refine stop_load 24 rfl ?_) | (with_reducible refine stop_load 55 rfl ?_) | (with_reducible refine stop_load 58 rfl ?_))
              refine go_loadG rfl rfl (k := 16) rfl hB2 [c16, c17] rfl Try.underlying49 rfl (by kernel_rfl) ?_
              go_wp2_with (first | (with_reducible refine stop_load 28 rfl ?_) | (with_reducible refine stop_load 49 rfl ?_) | (with_reducible refine stop_load 24 rfl ?_) | (with_reducible refine stop_load 55 rfl ?_) | (with_reducible refine stop_load 58 rfl ?_))
              go_fit (HRe.out w2 hb2)
              rw [Hrf.out]
              rintro xx w3 ⟨rfl, hd3⟩
              have hb3 := hb2.trans (hd3.mono hb2.size)
              have hB3 := hB2.below hd3
              clear x27
              have x27 := hB3.cell (j := 27) rfl
              rcases bool_two (rf == 0) with p1 | p1
              rotate_left
              · have p1' : (rf != 0) = true := by simp only [bne, p1]; rfl
                have Q1 := hide p1
                have HR := hide (mE_no (show msgB (k, f, t, e, v, nu, cm, no, nc, cl, se, o, r, g, s, l) = false by rw [HV.out]; simp only [HK.out, H1.out, H2.out, HN.out, Q0.out, Q1.out, Bool.true_and, Bool.false_and, Bool.and_false, Bool.or_false, Bool.false_or, Bool.true_or]))
                clear p1
                go_wp2
                go_ret
                exact ⟨by rw [HR.out]; (first | done | rfl), hb3⟩
              have p1' : (rf != 0) = false := by simp only [bne, p1]; rfl
              have Q1 := hide p1
              clear p1
              go_wp2_with (first | (with_reducible refine stop_load 28 rfl ?_) | (with_reducible refine stop_load 49 rfl ?_) | (with_reducible refine stop_load 24 rfl ?_) | (with_reducible refine stop_load 55 rfl ?_) | (with_reducible refine stop_load 58 rfl ?_))
              refine go_loadG rfl rfl (k := 18) rfl hB3 [c18, c19] rfl Try.underlying24 rfl (by kernel_rfl) ?_
              go_wp2_with (first | (with_reducible refine stop_load 28 rfl ?_) | (with_reducible refine stop_load 49 rfl ?_) | (with_reducible refine stop_load 24 rfl ?_) | (with_reducible refine stop_load 55 rfl ?_) | (with_reducible refine stop_load 58 rfl ?_))
              go_fit (HG.out w3 hb3)
              rw [Hgk.out]
              rintro xx w4 ⟨rfl, hd4⟩
              have hb4 := hb3.trans (hd4.mono hb3.size)
              have hB4 := hB3.below hd4
              clear x27
              have x27 := hB4.cell (j := 27) rfl
              rcases bool_two gk with p2 | p2
              rotate_left
              · have Q2 := hide p2
                have HR := hide (mE_no (show msgB (k, f, t, e, v, nu, cm, no, nc, cl, se, o, r, g, s, l) = false by rw [HV.out]; simp only [HK.out, H1.out, H2.out, HN.out, Q0.out, Q1.out, Q2.out, Bool.true_and, Bool.false_and, Bool.and_false, Bool.or_false, Bool.false_or, Bool.true_or]))
                rw [p2]
                clear p2
                go_wp2
                go_ret
                exact ⟨by rw [HR.out]; (first | done | rfl), hb4⟩
              have Q2 := hide p2
              rw [p2]
              clear p2
              go_wp2_with (first | (with_reducible refine stop_load 28 rfl ?_) | (with_reducible refine stop_load 49 rfl ?_) | (with_reducible refine stop_load 24 rfl ?_) | (with_reducible refine stop_load 55 rfl ?_) | (with_reducible refine stop_load 58 rfl ?_))
              refine go_loadG rfl rfl (k := 20) rfl hB4 [c20, c21, c22, c23, c24, c25, c26] rfl Try.underlying55 rfl (by kernel_rfl) ?_
              go_wp2_with (first | (with_reducible refine stop_load 28 rfl ?_) | (with_reducible refine stop_load 49 rfl ?_) | (with_reducible refine stop_load 24 rfl ?_) | (with_reducible refine stop_load 55 rfl ?_) | (with_reducible refine stop_load 58 rfl ?_))
              go_fit (HS.out w4 hb4)
              rw [Hsk.out]
              rintro xx w5 ⟨rfl, hd5⟩
              have hb5 := hb4.trans (hd5.mono hb4.size)
              have hB5 := hB4.below hd5
              clear x27
              have x27 := hB5.cell (j := 27) rfl
              rcases bool_two sk with p3 | p3
              rotate_left
              · have Q3 := hide p3
                have HR := hide (mE_no (show msgB (k, f, t, e, v, nu, cm, no, nc, cl, se, o, r, g, s, l) = false by rw [HV.out]; simp only [HK.out, H1.out, H2.out, HN.out, Q0.out, Q1.out, Q2.out, Q3.out, Bool.true_and, Bool.false_and, Bool.and_false, Bool.or_false, Bool.false_or, Bool.true_or]))
                rw [p3]
                clear p3
                go_wp2
                go_ret
                exact ⟨by rw [HR.out]; (first | done | rfl), hb5⟩
              have Q3 := hide p3
              rw [p3]
              clear p3
              rcases bool_two en with q5 | q5
              · have H5 := hide q5
                have HR := hide (mE_ok (show msgB (k, f, t, e, v, nu, cm, no, nc, cl, se, o, r, g, s, l) = true by rw [HV.out]; simp only [HK.out, H1.out, H2.out, HN.out, Q0.out, Q1.out, Q2.out, Q3.out, H5.out, Bool.true_and, Bool.and_true, Bool.false_and, Bool.and_false, Bool.or_false, Bool.false_or, Bool.true_or]))
                clear q5
                go_wp2_with (first | (with_reducible refine stop_load 28 rfl ?_) | (with_reducible refine stop_load 49 rfl ?_) | (with_reducible refine stop_load 24 rfl ?_) | (with_reducible refine stop_load 55 rfl ?_) | (with_reducible refine stop_load 58 rfl ?_))
                go_fit (HE.out w5 hb5)
                rw [Hen.out, H5.out]
                rintro xx v5 ⟨rfl, hdv⟩
                go_wp2
                go_ret
                exact ⟨by rw [HR.out]; (first | done | rfl), hb5.trans (hdv.mono hb5.size)⟩
              · have H5 := hide q5
                have HR := hide (mE_no (show msgB (k, f, t, e, v, nu, cm, no, nc, cl, se, o, r, g, s, l) = false by rw [HV.out]; simp only [HK.out, H1.out, H2.out, HN.out, Q0.out, Q1.out, Q2.out, Q3.out, H5.out, Bool.true_and, Bool.false_and, Bool.and_false, Bool.or_false, Bool.false_or, Bool.true_or]))
                clear q5
                go_wp2_with (first | (with_reducible refine stop_load 28 rfl ?_) | (with_reducible refine stop_load 49 rfl ?_) | (with_reducible refine stop_load 24 rfl ?_) | (with_reducible refine stop_load 55 rfl ?_) | (with_reducible refine stop_load 58 rfl ?_))
                go_fit (HE.out w5 hb5)
                rw [Hen.out, H5.out]
                rintro xx v5 ⟨rfl, hdv⟩
                go_wp2
                go_ret
                exact ⟨by rw [HR.out]; (first | done | rfl), hb5.trans (hdv.mono hb5.size)⟩
            | true =>
              rw [show parN false false false true = 7 from by decide]
              have a1 : bits BinOp.and .i64 7 1 = 1 := by decide
              have a2 : bits BinOp.and .i64 7 2 = 2 := by decide
              have a4 : bits BinOp.and .i64 7 4 = 4 := by decide
              have a8 : bits BinOp.and .i64 7 8 = 0 := by decide
              go_wp2_with (first | (with_reducible refine stop_load 28 rfl ?_) | (with_reducible refine stop_load 49 rfl ?_) | (with_reducible refine stop_load 24 rfl ?_) | (with_reducible refine stop_load 55 rfl ?_) | (with_reducible refine stop_load 58 rfl ?_))
              refine go_loadG rfl rfl (k := 11) rfl hB1 [c11, c12, c13, c14, c15] rfl Try.underlying28 rfl (by kernel_rfl) ?_
              go_wp2_with (first | (with_reducible refine stop_load 28 rfl ?_) | (with_reducible refine stop_load 49 rfl ?_) | (with_reducible refine stop_load 24 rfl ?_) | (with_reducible refine stop_load 55 rfl ?_) | (with_reducible refine stop_load 58 rfl ?_))
              go_fit (HO.out w1 hb1)
              rw [Hof.out]
              rintro xx w2 ⟨rfl, hd2⟩
              have hb2 := hb1.trans (hd2.mono hb1.size)
              have hB2 := hB1.below hd2
              clear x27
              have x27 := hB2.cell (j := 27) rfl
              rcases bool_two (of == 0) with p0 | p0
              rotate_left
              · have p0' : (of != 0) = true := by simp only [bne, p0]; rfl
                have Q0 := hide p0
                have HR := hide (mE_no (show msgB (k, f, t, e, v, nu, cm, no, nc, cl, se, o, r, g, s, l) = false by rw [HV.out]; simp only [HK.out, H1.out, H2.out, HN.out, Q0.out, Bool.true_and, Bool.false_and, Bool.and_false, Bool.or_false, Bool.false_or, Bool.true_or]))
                clear p0
                go_wp2
                go_ret
                exact ⟨by rw [HR.out]; (first | done | rfl), hb2⟩
              have p0' : (of != 0) = false := by simp only [bne, p0]; rfl
              have Q0 := hide p0
              clear p0
              go_wp2_with (first | (with_reducible refine stop_load 28 rfl ?_) | (with_reducible refine stop_load 49 rfl ?_) | (with_reducible refine stop_load 24 rfl ?_) | (with_reducible refine stop_load 55 rfl ?_) | (with_reducible refine stop_load 58 rfl ?_))
              refine go_loadG rfl rfl (k := 16) rfl hB2 [c16, c17] rfl Try.underlying49 rfl (by kernel_rfl) ?_
              go_wp2_with (first | (with_reducible refine stop_load 28 rfl ?_) | (with_reducible refine stop_load 49 rfl ?_) | (with_reducible refine stop_load 24 rfl ?_) | (with_reducible refine stop_load 55 rfl ?_) | (with_reducible refine stop_load 58 rfl ?_))
              go_fit (HRe.out w2 hb2)
              rw [Hrf.out]
              rintro xx w3 ⟨rfl, hd3⟩
              have hb3 := hb2.trans (hd3.mono hb2.size)
              have hB3 := hB2.below hd3
              clear x27
              have x27 := hB3.cell (j := 27) rfl
              rcases bool_two (rf == 0) with p1 | p1
              rotate_left
              · have p1' : (rf != 0) = true := by simp only [bne, p1]; rfl
                have Q1 := hide p1
                have HR := hide (mE_no (show msgB (k, f, t, e, v, nu, cm, no, nc, cl, se, o, r, g, s, l) = false by rw [HV.out]; simp only [HK.out, H1.out, H2.out, HN.out, Q0.out, Q1.out, Bool.true_and, Bool.false_and, Bool.and_false, Bool.or_false, Bool.false_or, Bool.true_or]))
                clear p1
                go_wp2
                go_ret
                exact ⟨by rw [HR.out]; (first | done | rfl), hb3⟩
              have p1' : (rf != 0) = false := by simp only [bne, p1]; rfl
              have Q1 := hide p1
              clear p1
              go_wp2_with (first | (with_reducible refine stop_load 28 rfl ?_) | (with_reducible refine stop_load 49 rfl ?_) | (with_reducible refine stop_load 24 rfl ?_) | (with_reducible refine stop_load 55 rfl ?_) | (with_reducible refine stop_load 58 rfl ?_))
              refine go_loadG rfl rfl (k := 18) rfl hB3 [c18, c19] rfl Try.underlying24 rfl (by kernel_rfl) ?_
              go_wp2_with (first | (with_reducible refine stop_load 28 rfl ?_) | (with_reducible refine stop_load 49 rfl ?_) | (with_reducible refine stop_load 24 rfl ?_) | (with_reducible refine stop_load 55 rfl ?_) | (with_reducible refine stop_load 58 rfl ?_))
              go_fit (HG.out w3 hb3)
              rw [Hgk.out]
              rintro xx w4 ⟨rfl, hd4⟩
              have hb4 := hb3.trans (hd4.mono hb3.size)
              have hB4 := hB3.below hd4
              clear x27
              have x27 := hB4.cell (j := 27) rfl
              rcases bool_two gk with p2 | p2
              rotate_left
              · have Q2 := hide p2
                have HR := hide (mE_no (show msgB (k, f, t, e, v, nu, cm, no, nc, cl, se, o, r, g, s, l) = false by rw [HV.out]; simp only [HK.out, H1.out, H2.out, HN.out, Q0.out, Q1.out, Q2.out, Bool.true_and, Bool.false_and, Bool.and_false, Bool.or_false, Bool.false_or, Bool.true_or]))
                rw [p2]
                clear p2
                go_wp2
                go_ret
                exact ⟨by rw [HR.out]; (first | done | rfl), hb4⟩
              have Q2 := hide p2
              rw [p2]
              clear p2
              go_wp2_with (first | (with_reducible refine stop_load 28 rfl ?_) | (with_reducible refine stop_load 49 rfl ?_) | (with_reducible refine stop_load 24 rfl ?_) | (with_reducible refine stop_load 55 rfl ?_) | (with_reducible refine stop_load 58 rfl ?_))
              repeat (refine go_skipG rfl ?_; go_wp2_with (first | (with_reducible refine stop_load 28 rfl ?_) | (with_reducible refine stop_load 49 rfl ?_) | (with_reducible refine stop_load 24 rfl ?_) | (with_reducible refine stop_load 55 rfl ?_) | (with_reducible refine stop_load 58 rfl ?_)))
              rcases bool_two en with q5 | q5
              · have H5 := hide q5
                have HR := hide (mE_ok (show msgB (k, f, t, e, v, nu, cm, no, nc, cl, se, o, r, g, s, l) = true by rw [HV.out]; simp only [HK.out, H1.out, H2.out, HN.out, Q0.out, Q1.out, Q2.out, H5.out, Bool.true_and, Bool.and_true, Bool.false_and, Bool.and_false, Bool.or_false, Bool.false_or, Bool.true_or]))
                clear q5
                go_wp2_with (first | (with_reducible refine stop_load 28 rfl ?_) | (with_reducible refine stop_load 49 rfl ?_) | (with_reducible refine stop_load 24 rfl ?_) | (with_reducible refine stop_load 55 rfl ?_) | (with_reducible refine stop_load 58 rfl ?_))
                go_fit (HE.out w4 hb4)
                rw [Hen.out, H5.out]
                rintro xx v4 ⟨rfl, hdv⟩
                go_wp2
                go_ret
                exact ⟨by rw [HR.out]; (first | done | rfl), hb4.trans (hdv.mono hb4.size)⟩
              · have H5 := hide q5
                have HR := hide (mE_no (show msgB (k, f, t, e, v, nu, cm, no, nc, cl, se, o, r, g, s, l) = false by rw [HV.out]; simp only [HK.out, H1.out, H2.out, HN.out, Q0.out, Q1.out, Q2.out, H5.out, Bool.true_and, Bool.false_and, Bool.and_false, Bool.or_false, Bool.false_or, Bool.true_or]))
                clear q5
                go_wp2_with (first | (with_reducible refine stop_load 28 rfl ?_) | (with_reducible refine stop_load 49 rfl ?_) | (with_reducible refine stop_load 24 rfl ?_) | (with_reducible refine stop_load 55 rfl ?_) | (with_reducible refine stop_load 58 rfl ?_))
                go_fit (HE.out w4 hb4)
                rw [Hen.out, H5.out]
                rintro xx v4 ⟨rfl, hdv⟩
                go_wp2
                go_ret
                exact ⟨by rw [HR.out]; (first | done | rfl), hb4.trans (hdv.mono hb4.size)⟩
          | true =>
            cases s1 with
            | false =>
              rw [show parN false false true false = 11 from by decide]
              have a1 : bits BinOp.and .i64 11 1 = 1 := by decide
              have a2 : bits BinOp.and .i64 11 2 = 2 := by decide
              have a4 : bits BinOp.and .i64 11 4 = 0 := by decide
              have a8 : bits BinOp.and .i64 11 8 = 8 := by decide
              go_wp2_with (first | (with_reducible refine stop_load 28 rfl ?_) | (with_reducible refine stop_load 49 rfl ?_) | (with_reducible refine stop_load 24 rfl ?_) | (with_reducible refine stop_load 55 rfl ?_) | (with_reducible refine stop_load 58 rfl ?_))
              refine go_loadG rfl rfl (k := 11) rfl hB1 [c11, c12, c13, c14, c15] rfl Try.underlying28 rfl (by kernel_rfl) ?_
              go_wp2_with (first | (with_reducible refine stop_load 28 rfl ?_) | (with_reducible refine stop_load 49 rfl ?_) | (with_reducible refine stop_load 24 rfl ?_) | (with_reducible refine stop_load 55 rfl ?_) | (with_reducible refine stop_load 58 rfl ?_))
              go_fit (HO.out w1 hb1)
              rw [Hof.out]
              rintro xx w2 ⟨rfl, hd2⟩
              have hb2 := hb1.trans (hd2.mono hb1.size)
              have hB2 := hB1.below hd2
              clear x27
              have x27 := hB2.cell (j := 27) rfl
              rcases bool_two (of == 0) with p0 | p0
              rotate_left
              · have p0' : (of != 0) = true := by simp only [bne, p0]; rfl
                have Q0 := hide p0
                have HR := hide (mE_no (show msgB (k, f, t, e, v, nu, cm, no, nc, cl, se, o, r, g, s, l) = false by rw [HV.out]; simp only [HK.out, H1.out, H2.out, HN.out, Q0.out, Bool.true_and, Bool.false_and, Bool.and_false, Bool.or_false, Bool.false_or, Bool.true_or]))
                clear p0
                go_wp2
                go_ret
                exact ⟨by rw [HR.out]; (first | done | rfl), hb2⟩
              have p0' : (of != 0) = false := by simp only [bne, p0]; rfl
              have Q0 := hide p0
              clear p0
              go_wp2_with (first | (with_reducible refine stop_load 28 rfl ?_) | (with_reducible refine stop_load 49 rfl ?_) | (with_reducible refine stop_load 24 rfl ?_) | (with_reducible refine stop_load 55 rfl ?_) | (with_reducible refine stop_load 58 rfl ?_))
              refine go_loadG rfl rfl (k := 16) rfl hB2 [c16, c17] rfl Try.underlying49 rfl (by kernel_rfl) ?_
              go_wp2_with (first | (with_reducible refine stop_load 28 rfl ?_) | (with_reducible refine stop_load 49 rfl ?_) | (with_reducible refine stop_load 24 rfl ?_) | (with_reducible refine stop_load 55 rfl ?_) | (with_reducible refine stop_load 58 rfl ?_))
              go_fit (HRe.out w2 hb2)
              rw [Hrf.out]
              rintro xx w3 ⟨rfl, hd3⟩
              have hb3 := hb2.trans (hd3.mono hb2.size)
              have hB3 := hB2.below hd3
              clear x27
              have x27 := hB3.cell (j := 27) rfl
              rcases bool_two (rf == 0) with p1 | p1
              rotate_left
              · have p1' : (rf != 0) = true := by simp only [bne, p1]; rfl
                have Q1 := hide p1
                have HR := hide (mE_no (show msgB (k, f, t, e, v, nu, cm, no, nc, cl, se, o, r, g, s, l) = false by rw [HV.out]; simp only [HK.out, H1.out, H2.out, HN.out, Q0.out, Q1.out, Bool.true_and, Bool.false_and, Bool.and_false, Bool.or_false, Bool.false_or, Bool.true_or]))
                clear p1
                go_wp2
                go_ret
                exact ⟨by rw [HR.out]; (first | done | rfl), hb3⟩
              have p1' : (rf != 0) = false := by simp only [bne, p1]; rfl
              have Q1 := hide p1
              clear p1
              go_wp2_with (first | (with_reducible refine stop_load 28 rfl ?_) | (with_reducible refine stop_load 49 rfl ?_) | (with_reducible refine stop_load 24 rfl ?_) | (with_reducible refine stop_load 55 rfl ?_) | (with_reducible refine stop_load 58 rfl ?_))
              repeat (refine go_skipG rfl ?_; go_wp2_with (first | (with_reducible refine stop_load 28 rfl ?_) | (with_reducible refine stop_load 49 rfl ?_) | (with_reducible refine stop_load 24 rfl ?_) | (with_reducible refine stop_load 55 rfl ?_) | (with_reducible refine stop_load 58 rfl ?_)))
              go_wp2_with (first | (with_reducible refine stop_load 28 rfl ?_) | (with_reducible refine stop_load 49 rfl ?_) | (with_reducible refine stop_load 24 rfl ?_) | (with_reducible refine stop_load 55 rfl ?_) | (with_reducible refine stop_load 58 rfl ?_))
              refine go_loadG rfl rfl (k := 20) rfl hB3 [c20, c21, c22, c23, c24, c25, c26] rfl Try.underlying55 rfl (by kernel_rfl) ?_
              go_wp2_with (first | (with_reducible refine stop_load 28 rfl ?_) | (with_reducible refine stop_load 49 rfl ?_) | (with_reducible refine stop_load 24 rfl ?_) | (with_reducible refine stop_load 55 rfl ?_) | (with_reducible refine stop_load 58 rfl ?_))
              go_fit (HS.out w3 hb3)
              rw [Hsk.out]
              rintro xx w4 ⟨rfl, hd4⟩
              have hb4 := hb3.trans (hd4.mono hb3.size)
              have hB4 := hB3.below hd4
              clear x27
              have x27 := hB4.cell (j := 27) rfl
              rcases bool_two sk with p3 | p3
              rotate_left
              · have Q3 := hide p3
                have HR := hide (mE_no (show msgB (k, f, t, e, v, nu, cm, no, nc, cl, se, o, r, g, s, l) = false by rw [HV.out]; simp only [HK.out, H1.out, H2.out, HN.out, Q0.out, Q1.out, Q3.out, Bool.true_and, Bool.false_and, Bool.and_false, Bool.or_false, Bool.false_or, Bool.true_or]))
                rw [p3]
                clear p3
                go_wp2
                go_ret
                exact ⟨by rw [HR.out]; (first | done | rfl), hb4⟩
              have Q3 := hide p3
              rw [p3]
              clear p3
              rcases bool_two en with q5 | q5
              · have H5 := hide q5
                have HR := hide (mE_ok (show msgB (k, f, t, e, v, nu, cm, no, nc, cl, se, o, r, g, s, l) = true by rw [HV.out]; simp only [HK.out, H1.out, H2.out, HN.out, Q0.out, Q1.out, Q3.out, H5.out, Bool.true_and, Bool.and_true, Bool.false_and, Bool.and_false, Bool.or_false, Bool.false_or, Bool.true_or]))
                clear q5
                go_wp2_with (first | (with_reducible refine stop_load 28 rfl ?_) | (with_reducible refine stop_load 49 rfl ?_) | (with_reducible refine stop_load 24 rfl ?_) | (with_reducible refine stop_load 55 rfl ?_) | (with_reducible refine stop_load 58 rfl ?_))
                go_fit (HE.out w4 hb4)
                rw [Hen.out, H5.out]
                rintro xx v4 ⟨rfl, hdv⟩
                go_wp2
                go_ret
                exact ⟨by rw [HR.out]; (first | done | rfl), hb4.trans (hdv.mono hb4.size)⟩
              · have H5 := hide q5
                have HR := hide (mE_no (show msgB (k, f, t, e, v, nu, cm, no, nc, cl, se, o, r, g, s, l) = false by rw [HV.out]; simp only [HK.out, H1.out, H2.out, HN.out, Q0.out, Q1.out, Q3.out, H5.out, Bool.true_and, Bool.false_and, Bool.and_false, Bool.or_false, Bool.false_or, Bool.true_or]))
                clear q5
                go_wp2_with (first | (with_reducible refine stop_load 28 rfl ?_) | (with_reducible refine stop_load 49 rfl ?_) | (with_reducible refine stop_load 24 rfl ?_) | (with_reducible refine stop_load 55 rfl ?_) | (with_reducible refine stop_load 58 rfl ?_))
                go_fit (HE.out w4 hb4)
                rw [Hen.out, H5.out]
                rintro xx v4 ⟨rfl, hdv⟩
                go_wp2
                go_ret
                exact ⟨by rw [HR.out]; (first | done | rfl), hb4.trans (hdv.mono hb4.size)⟩
            | true =>
              rw [show parN false false true true = 3 from by decide]
              have a1 : bits BinOp.and .i64 3 1 = 1 := by decide
              have a2 : bits BinOp.and .i64 3 2 = 2 := by decide
              have a4 : bits BinOp.and .i64 3 4 = 0 := by decide
              have a8 : bits BinOp.and .i64 3 8 = 0 := by decide
              go_wp2_with (first | (with_reducible refine stop_load 28 rfl ?_) | (with_reducible refine stop_load 49 rfl ?_) | (with_reducible refine stop_load 24 rfl ?_) | (with_reducible refine stop_load 55 rfl ?_) | (with_reducible refine stop_load 58 rfl ?_))
              refine go_loadG rfl rfl (k := 11) rfl hB1 [c11, c12, c13, c14, c15] rfl Try.underlying28 rfl (by kernel_rfl) ?_
              go_wp2_with (first | (with_reducible refine stop_load 28 rfl ?_) | (with_reducible refine stop_load 49 rfl ?_) | (with_reducible refine stop_load 24 rfl ?_) | (with_reducible refine stop_load 55 rfl ?_) | (with_reducible refine stop_load 58 rfl ?_))
              go_fit (HO.out w1 hb1)
              rw [Hof.out]
              rintro xx w2 ⟨rfl, hd2⟩
              have hb2 := hb1.trans (hd2.mono hb1.size)
              have hB2 := hB1.below hd2
              clear x27
              have x27 := hB2.cell (j := 27) rfl
              rcases bool_two (of == 0) with p0 | p0
              rotate_left
              · have p0' : (of != 0) = true := by simp only [bne, p0]; rfl
                have Q0 := hide p0
                have HR := hide (mE_no (show msgB (k, f, t, e, v, nu, cm, no, nc, cl, se, o, r, g, s, l) = false by rw [HV.out]; simp only [HK.out, H1.out, H2.out, HN.out, Q0.out, Bool.true_and, Bool.false_and, Bool.and_false, Bool.or_false, Bool.false_or, Bool.true_or]))
                clear p0
                go_wp2
                go_ret
                exact ⟨by rw [HR.out]; (first | done | rfl), hb2⟩
              have p0' : (of != 0) = false := by simp only [bne, p0]; rfl
              have Q0 := hide p0
              clear p0
              go_wp2_with (first | (with_reducible refine stop_load 28 rfl ?_) | (with_reducible refine stop_load 49 rfl ?_) | (with_reducible refine stop_load 24 rfl ?_) | (with_reducible refine stop_load 55 rfl ?_) | (with_reducible refine stop_load 58 rfl ?_))
              refine go_loadG rfl rfl (k := 16) rfl hB2 [c16, c17] rfl Try.underlying49 rfl (by kernel_rfl) ?_
              go_wp2_with (first | (with_reducible refine stop_load 28 rfl ?_) | (with_reducible refine stop_load 49 rfl ?_) | (with_reducible refine stop_load 24 rfl ?_) | (with_reducible refine stop_load 55 rfl ?_) | (with_reducible refine stop_load 58 rfl ?_))
              go_fit (HRe.out w2 hb2)
              rw [Hrf.out]
              rintro xx w3 ⟨rfl, hd3⟩
              have hb3 := hb2.trans (hd3.mono hb2.size)
              have hB3 := hB2.below hd3
              clear x27
              have x27 := hB3.cell (j := 27) rfl
              rcases bool_two (rf == 0) with p1 | p1
              rotate_left
              · have p1' : (rf != 0) = true := by simp only [bne, p1]; rfl
                have Q1 := hide p1
                have HR := hide (mE_no (show msgB (k, f, t, e, v, nu, cm, no, nc, cl, se, o, r, g, s, l) = false by rw [HV.out]; simp only [HK.out, H1.out, H2.out, HN.out, Q0.out, Q1.out, Bool.true_and, Bool.false_and, Bool.and_false, Bool.or_false, Bool.false_or, Bool.true_or]))
                clear p1
                go_wp2
                go_ret
                exact ⟨by rw [HR.out]; (first | done | rfl), hb3⟩
              have p1' : (rf != 0) = false := by simp only [bne, p1]; rfl
              have Q1 := hide p1
              clear p1
              go_wp2_with (first | (with_reducible refine stop_load 28 rfl ?_) | (with_reducible refine stop_load 49 rfl ?_) | (with_reducible refine stop_load 24 rfl ?_) | (with_reducible refine stop_load 55 rfl ?_) | (with_reducible refine stop_load 58 rfl ?_))
              repeat (refine go_skipG rfl ?_; go_wp2_with (first | (with_reducible refine stop_load 28 rfl ?_) | (with_reducible refine stop_load 49 rfl ?_) | (with_reducible refine stop_load 24 rfl ?_) | (with_reducible refine stop_load 55 rfl ?_) | (with_reducible refine stop_load 58 rfl ?_)))
              go_wp2_with (first | (with_reducible refine stop_load 28 rfl ?_) | (with_reducible refine stop_load 49 rfl ?_) | (with_reducible refine stop_load 24 rfl ?_) | (with_reducible refine stop_load 55 rfl ?_) | (with_reducible refine stop_load 58 rfl ?_))
              repeat (refine go_skipG rfl ?_; go_wp2_with (first | (with_reducible refine stop_load 28 rfl ?_) | (with_reducible refine stop_load 49 rfl ?_) | (with_reducible refine stop_load 24 rfl ?_) | (with_reducible refine stop_load 55 rfl ?_) | (with_reducible refine stop_load 58 rfl ?_)))
              rcases bool_two en with q5 | q5
              · have H5 := hide q5
                have HR := hide (mE_ok (show msgB (k, f, t, e, v, nu, cm, no, nc, cl, se, o, r, g, s, l) = true by rw [HV.out]; simp only [HK.out, H1.out, H2.out, HN.out, Q0.out, Q1.out, H5.out, Bool.true_and, Bool.and_true, Bool.false_and, Bool.and_false, Bool.or_false, Bool.false_or, Bool.true_or]))
                clear q5
                go_wp2_with (first | (with_reducible refine stop_load 28 rfl ?_) | (with_reducible refine stop_load 49 rfl ?_) | (with_reducible refine stop_load 24 rfl ?_) | (with_reducible refine stop_load 55 rfl ?_) | (with_reducible refine stop_load 58 rfl ?_))
                go_fit (HE.out w3 hb3)
                rw [Hen.out, H5.out]
                rintro xx v3 ⟨rfl, hdv⟩
                go_wp2
                go_ret
                exact ⟨by rw [HR.out]; (first | done | rfl), hb3.trans (hdv.mono hb3.size)⟩
              · have H5 := hide q5
                have HR := hide (mE_no (show msgB (k, f, t, e, v, nu, cm, no, nc, cl, se, o, r, g, s, l) = false by rw [HV.out]; simp only [HK.out, H1.out, H2.out, HN.out, Q0.out, Q1.out, H5.out, Bool.true_and, Bool.false_and, Bool.and_false, Bool.or_false, Bool.false_or, Bool.true_or]))
                clear q5
                go_wp2_with (first | (with_reducible refine stop_load 28 rfl ?_) | (with_reducible refine stop_load 49 rfl ?_) | (with_reducible refine stop_load 24 rfl ?_) | (with_reducible refine stop_load 55 rfl ?_) | (with_reducible refine stop_load 58 rfl ?_))
                go_fit (HE.out w3 hb3)
                rw [Hen.out, H5.out]
                rintro xx v3 ⟨rfl, hdv⟩
                go_wp2
                go_ret
                exact ⟨by rw [HR.out]; (first | done | rfl), hb3.trans (hdv.mono hb3.size)⟩
        | true =>
          cases g1 with
          | false =>
            cases s1 with
            | false =>
              rw [show parN false true false false = 13 from by decide]
              have a1 : bits BinOp.and .i64 13 1 = 1 := by decide
              have a2 : bits BinOp.and .i64 13 2 = 0 := by decide
              have a4 : bits BinOp.and .i64 13 4 = 4 := by decide
              have a8 : bits BinOp.and .i64 13 8 = 8 := by decide
              go_wp2_with (first | (with_reducible refine stop_load 28 rfl ?_) | (with_reducible refine stop_load 49 rfl ?_) | (with_reducible refine stop_load 24 rfl ?_) | (with_reducible refine stop_load 55 rfl ?_) | (with_reducible refine stop_load 58 rfl ?_))
              refine go_loadG rfl rfl (k := 11) rfl hB1 [c11, c12, c13, c14, c15] rfl Try.underlying28 rfl (by kernel_rfl) ?_
              go_wp2_with (first | (with_reducible refine stop_load 28 rfl ?_) | (with_reducible refine stop_load 49 rfl ?_) | (with_reducible refine stop_load 24 rfl ?_) | (with_reducible refine stop_load 55 rfl ?_) | (with_reducible refine stop_load 58 rfl ?_))
              go_fit (HO.out w1 hb1)
              rw [Hof.out]
              rintro xx w2 ⟨rfl, hd2⟩
              have hb2 := hb1.trans (hd2.mono hb1.size)
              have hB2 := hB1.below hd2
              clear x27
              have x27 := hB2.cell (j := 27) rfl
              rcases bool_two (of == 0) with p0 | p0
              rotate_left
              · have p0' : (of != 0) = true := by simp only [bne, p0]; rfl
                have Q0 := hide p0
                have HR := hide (mE_no (show msgB (k, f, t, e, v, nu, cm, no, nc, cl, se, o, r, g, s, l) = false by rw [HV.out]; simp only [HK.out, H1.out, H2.out, HN.out, Q0.out, Bool.true_and, Bool.false_and, Bool.and_false, Bool.or_false, Bool.false_or, Bool.true_or]))
                clear p0
                go_wp2
                go_ret
                exact ⟨by rw [HR.out]; (first | done | rfl), hb2⟩
              have p0' : (of != 0) = false := by simp only [bne, p0]; rfl
              have Q0 := hide p0
              clear p0
              go_wp2_with (first | (with_reducible refine stop_load 28 rfl ?_) | (with_reducible refine stop_load 49 rfl ?_) | (with_reducible refine stop_load 24 rfl ?_) | (with_reducible refine stop_load 55 rfl ?_) | (with_reducible refine stop_load 58 rfl ?_))
              repeat (refine go_skipG rfl ?_; go_wp2_with (first | (with_reducible refine stop_load 28 rfl ?_) | (with_reducible refine stop_load 49 rfl ?_) | (with_reducible refine stop_load 24 rfl ?_) | (with_reducible refine stop_load 55 rfl ?_) | (with_reducible refine stop_load 58 rfl ?_)))
              go_wp2_with (first | (with_reducible refine stop_load 28 rfl ?_) | (with_reducible refine stop_load 49 rfl ?_) | (with_reducible refine stop_load 24 rfl ?_) | (with_reducible refine stop_load 55 rfl ?_) | (with_reducible refine stop_load 58 rfl ?_))
              refine go_loadG rfl rfl (k := 18) rfl hB2 [c18, c19] rfl Try.underlying24 rfl (by kernel_rfl) ?_
              go_wp2_with (first | (with_reducible refine stop_load 28 rfl ?_) | (with_reducible refine stop_load 49 rfl ?_) | (with_reducible refine stop_load 24 rfl ?_) | (with_reducible refine stop_load 55 rfl ?_) | (with_reducible refine stop_load 58 rfl ?_))
              go_fit (HG.out w2 hb2)
              rw [Hgk.out]
              rintro xx w3 ⟨rfl, hd3⟩
              have hb3 := hb2.trans (hd3.mono hb2.size)
              have hB3 := hB2.below hd3
              clear x27
              have x27 := hB3.cell (j := 27) rfl
              rcases bool_two gk with p2 | p2
              rotate_left
              · have Q2 := hide p2
                have HR := hide (mE_no (show msgB (k, f, t, e, v, nu, cm, no, nc, cl, se, o, r, g, s, l) = false by rw [HV.out]; simp only [HK.out, H1.out, H2.out, HN.out, Q0.out, Q2.out, Bool.true_and, Bool.false_and, Bool.and_false, Bool.or_false, Bool.false_or, Bool.true_or]))
                rw [p2]
                clear p2
                go_wp2
                go_ret
                exact ⟨by rw [HR.out]; (first | done | rfl), hb3⟩
              have Q2 := hide p2
              rw [p2]
              clear p2
              go_wp2_with (first | (with_reducible refine stop_load 28 rfl ?_) | (with_reducible refine stop_load 49 rfl ?_) | (with_reducible refine stop_load 24 rfl ?_) | (with_reducible refine stop_load 55 rfl ?_) | (with_reducible refine stop_load 58 rfl ?_))
              refine go_loadG rfl rfl (k := 20) rfl hB3 [c20, c21, c22, c23, c24, c25, c26] rfl Try.underlying55 rfl (by kernel_rfl) ?_
              go_wp2_with (first | (with_reducible refine stop_load 28 rfl ?_) | (with_reducible refine stop_load 49 rfl ?_) | (with_reducible refine stop_load 24 rfl ?_) | (with_reducible refine stop_load 55 rfl ?_) | (with_reducible refine stop_load 58 rfl ?_))
              go_fit (HS.out w3 hb3)
              rw [Hsk.out]
              rintro xx w4 ⟨rfl, hd4⟩
              have hb4 := hb3.trans (hd4.mono hb3.size)
              have hB4 := hB3.below hd4
              clear x27
              have x27 := hB4.cell (j := 27) rfl
              rcases bool_two sk with p3 | p3
              rotate_left
              · have Q3 := hide p3
                have HR := hide (mE_no (show msgB (k, f, t, e, v, nu, cm, no, nc, cl, se, o, r, g, s, l) = false by rw [HV.out]; simp only [HK.out, H1.out, H2.out, HN.out, Q0.out, Q2.out, Q3.out, Bool.true_and, Bool.false_and, Bool.and_false, Bool.or_false, Bool.false_or, Bool.true_or]))
                rw [p3]
                clear p3
                go_wp2
                go_ret
                exact ⟨by rw [HR.out]; (first | done | rfl), hb4⟩
              have Q3 := hide p3
              rw [p3]
              clear p3
              rcases bool_two en with q5 | q5
              · have H5 := hide q5
                have HR := hide (mE_ok (show msgB (k, f, t, e, v, nu, cm, no, nc, cl, se, o, r, g, s, l) = true by rw [HV.out]; simp only [HK.out, H1.out, H2.out, HN.out, Q0.out, Q2.out, Q3.out, H5.out, Bool.true_and, Bool.and_true, Bool.false_and, Bool.and_false, Bool.or_false, Bool.false_or, Bool.true_or]))
                clear q5
                go_wp2_with (first | (with_reducible refine stop_load 28 rfl ?_) | (with_reducible refine stop_load 49 rfl ?_) | (with_reducible refine stop_load 24 rfl ?_) | (with_reducible refine stop_load 55 rfl ?_) | (with_reducible refine stop_load 58 rfl ?_))
                go_fit (HE.out w4 hb4)
                rw [Hen.out, H5.out]
                rintro xx v4 ⟨rfl, hdv⟩
                go_wp2
                go_ret
                exact ⟨by rw [HR.out]; (first | done | rfl), hb4.trans (hdv.mono hb4.size)⟩
              · have H5 := hide q5
                have HR := hide (mE_no (show msgB (k, f, t, e, v, nu, cm, no, nc, cl, se, o, r, g, s, l) = false by rw [HV.out]; simp only [HK.out, H1.out, H2.out, HN.out, Q0.out, Q2.out, Q3.out, H5.out, Bool.true_and, Bool.false_and, Bool.and_false, Bool.or_false, Bool.false_or, Bool.true_or]))
                clear q5
                go_wp2_with (first | (with_reducible refine stop_load 28 rfl ?_) | (with_reducible refine stop_load 49 rfl ?_) | (with_reducible refine stop_load 24 rfl ?_) | (with_reducible refine stop_load 55 rfl ?_) | (with_reducible refine stop_load 58 rfl ?_))
                go_fit (HE.out w4 hb4)
                rw [Hen.out, H5.out]
                rintro xx v4 ⟨rfl, hdv⟩
                go_wp2
                go_ret
                exact ⟨by rw [HR.out]; (first | done | rfl), hb4.trans (hdv.mono hb4.size)⟩
            | true =>
              rw [show parN false true false true = 5 from by decide]
              have a1 : bits BinOp.and .i64 5 1 = 1 := by decide
              have a2 : bits BinOp.and .i64 5 2 = 0 := by decide
              have a4 : bits BinOp.and .i64 5 4 = 4 := by decide
              have a8 : bits BinOp.and .i64 5 8 = 0 := by decide
              go_wp2_with (first | (with_reducible refine stop_load 28 rfl ?_) | (with_reducible refine stop_load 49 rfl ?_) | (with_reducible refine stop_load 24 rfl ?_) | (with_reducible refine stop_load 55 rfl ?_) | (with_reducible refine stop_load 58 rfl ?_))
              refine go_loadG rfl rfl (k := 11) rfl hB1 [c11, c12, c13, c14, c15] rfl Try.underlying28 rfl (by kernel_rfl) ?_
              go_wp2_with (first | (with_reducible refine stop_load 28 rfl ?_) | (with_reducible refine stop_load 49 rfl ?_) | (with_reducible refine stop_load 24 rfl ?_) | (with_reducible refine stop_load 55 rfl ?_) | (with_reducible refine stop_load 58 rfl ?_))
              go_fit (HO.out w1 hb1)
              rw [Hof.out]
              rintro xx w2 ⟨rfl, hd2⟩
              have hb2 := hb1.trans (hd2.mono hb1.size)
              have hB2 := hB1.below hd2
              clear x27
              have x27 := hB2.cell (j := 27) rfl
              rcases bool_two (of == 0) with p0 | p0
              rotate_left
              · have p0' : (of != 0) = true := by simp only [bne, p0]; rfl
                have Q0 := hide p0
                have HR := hide (mE_no (show msgB (k, f, t, e, v, nu, cm, no, nc, cl, se, o, r, g, s, l) = false by rw [HV.out]; simp only [HK.out, H1.out, H2.out, HN.out, Q0.out, Bool.true_and, Bool.false_and, Bool.and_false, Bool.or_false, Bool.false_or, Bool.true_or]))
                clear p0
                go_wp2
                go_ret
                exact ⟨by rw [HR.out]; (first | done | rfl), hb2⟩
              have p0' : (of != 0) = false := by simp only [bne, p0]; rfl
              have Q0 := hide p0
              clear p0
              go_wp2_with (first | (with_reducible refine stop_load 28 rfl ?_) | (with_reducible refine stop_load 49 rfl ?_) | (with_reducible refine stop_load 24 rfl ?_) | (with_reducible refine stop_load 55 rfl ?_) | (with_reducible refine stop_load 58 rfl ?_))
              repeat (refine go_skipG rfl ?_; go_wp2_with (first | (with_reducible refine stop_load 28 rfl ?_) | (with_reducible refine stop_load 49 rfl ?_) | (with_reducible refine stop_load 24 rfl ?_) | (with_reducible refine stop_load 55 rfl ?_) | (with_reducible refine stop_load 58 rfl ?_)))
              go_wp2_with (first | (with_reducible refine stop_load 28 rfl ?_) | (with_reducible refine stop_load 49 rfl ?_) | (with_reducible refine stop_load 24 rfl ?_) | (with_reducible refine stop_load 55 rfl ?_) | (with_reducible refine stop_load 58 rfl ?_))
              refine go_loadG rfl rfl (k := 18) rfl hB2 [c18, c19] rfl Try.underlying24 rfl (by kernel_rfl) ?_
              go_wp2_with (first | (with_reducible refine stop_load 28 rfl ?_) | (with_reducible refine stop_load 49 rfl ?_) | (with_reducible refine stop_load 24 rfl ?_) | (with_reducible refine stop_load 55 rfl ?_) | (with_reducible refine stop_load 58 rfl ?_))
              go_fit (HG.out w2 hb2)
              rw [Hgk.out]
              rintro xx w3 ⟨rfl, hd3⟩
              have hb3 := hb2.trans (hd3.mono hb2.size)
              have hB3 := hB2.below hd3
              clear x27
              have x27 := hB3.cell (j := 27) rfl
              rcases bool_two gk with p2 | p2
              rotate_left
              · have Q2 := hide p2
                have HR := hide (mE_no (show msgB (k, f, t, e, v, nu, cm, no, nc, cl, se, o, r, g, s, l) = false by rw [HV.out]; simp only [HK.out, H1.out, H2.out, HN.out, Q0.out, Q2.out, Bool.true_and, Bool.false_and, Bool.and_false, Bool.or_false, Bool.false_or, Bool.true_or]))
                rw [p2]
                clear p2
                go_wp2
                go_ret
                exact ⟨by rw [HR.out]; (first | done | rfl), hb3⟩
              have Q2 := hide p2
              rw [p2]
              clear p2
              go_wp2_with (first | (with_reducible refine stop_load 28 rfl ?_) | (with_reducible refine stop_load 49 rfl ?_) | (with_reducible refine stop_load 24 rfl ?_) | (with_reducible refine stop_load 55 rfl ?_) | (with_reducible refine stop_load 58 rfl ?_))
              repeat (refine go_skipG rfl ?_; go_wp2_with (first | (with_reducible refine stop_load 28 rfl ?_) | (with_reducible refine stop_load 49 rfl ?_) | (with_reducible refine stop_load 24 rfl ?_) | (with_reducible refine stop_load 55 rfl ?_) | (with_reducible refine stop_load 58 rfl ?_)))
              rcases bool_two en with q5 | q5
              · have H5 := hide q5
                have HR := hide (mE_ok (show msgB (k, f, t, e, v, nu, cm, no, nc, cl, se, o, r, g, s, l) = true by rw [HV.out]; simp only [HK.out, H1.out, H2.out, HN.out, Q0.out, Q2.out, H5.out, Bool.true_and, Bool.and_true, Bool.false_and, Bool.and_false, Bool.or_false, Bool.false_or, Bool.true_or]))
                clear q5
                go_wp2_with (first | (with_reducible refine stop_load 28 rfl ?_) | (with_reducible refine stop_load 49 rfl ?_) | (with_reducible refine stop_load 24 rfl ?_) | (with_reducible refine stop_load 55 rfl ?_) | (with_reducible refine stop_load 58 rfl ?_))
                go_fit (HE.out w3 hb3)
                rw [Hen.out, H5.out]
                rintro xx v3 ⟨rfl, hdv⟩
                go_wp2
                go_ret
                exact ⟨by rw [HR.out]; (first | done | rfl), hb3.trans (hdv.mono hb3.size)⟩
              · have H5 := hide q5
                have HR := hide (mE_no (show msgB (k, f, t, e, v, nu, cm, no, nc, cl, se, o, r, g, s, l) = false by rw [HV.out]; simp only [HK.out, H1.out, H2.out, HN.out, Q0.out, Q2.out, H5.out, Bool.true_and, Bool.false_and, Bool.and_false, Bool.or_false, Bool.false_or, Bool.true_or]))
                clear q5
                go_wp2_with (first | (with_reducible refine stop_load 28 rfl ?_) | (with_reducible refine stop_load 49 rfl ?_) | (with_reducible refine stop_load 24 rfl ?_) | (with_reducible refine stop_load 55 rfl ?_) | (with_reducible refine stop_load 58 rfl ?_))
                go_fit (HE.out w3 hb3)
                rw [Hen.out, H5.out]
                rintro xx v3 ⟨rfl, hdv⟩
                go_wp2
                go_ret
                exact ⟨by rw [HR.out]; (first | done | rfl), hb3.trans (hdv.mono hb3.size)⟩
          | true =>
            cases s1 with
            | false =>
              rw [show parN false true true false = 9 from by decide]
              have a1 : bits BinOp.and .i64 9 1 = 1 := by decide
              have a2 : bits BinOp.and .i64 9 2 = 0 := by decide
              have a4 : bits BinOp.and .i64 9 4 = 0 := by decide
              have a8 : bits BinOp.and .i64 9 8 = 8 := by decide
              go_wp2_with (first | (with_reducible refine stop_load 28 rfl ?_) | (with_reducible refine stop_load 49 rfl ?_) | (with_reducible refine stop_load 24 rfl ?_) | (with_reducible refine stop_load 55 rfl ?_) | (with_reducible refine stop_load 58 rfl ?_))
              refine go_loadG rfl rfl (k := 11) rfl hB1 [c11, c12, c13, c14, c15] rfl Try.underlying28 rfl (by kernel_rfl) ?_
              go_wp2_with (first | (with_reducible refine stop_load 28 rfl ?_) | (with_reducible refine stop_load 49 rfl ?_) | (with_reducible refine stop_load 24 rfl ?_) | (with_reducible refine stop_load 55 rfl ?_) | (with_reducible refine stop_load 58 rfl ?_))
              go_fit (HO.out w1 hb1)
              rw [Hof.out]
              rintro xx w2 ⟨rfl, hd2⟩
              have hb2 := hb1.trans (hd2.mono hb1.size)
              have hB2 := hB1.below hd2
              clear x27
              have x27 := hB2.cell (j := 27) rfl
              rcases bool_two (of == 0) with p0 | p0
              rotate_left
              · have p0' : (of != 0) = true := by simp only [bne, p0]; rfl
                have Q0 := hide p0
                have HR := hide (mE_no (show msgB (k, f, t, e, v, nu, cm, no, nc, cl, se, o, r, g, s, l) = false by rw [HV.out]; simp only [HK.out, H1.out, H2.out, HN.out, Q0.out, Bool.true_and, Bool.false_and, Bool.and_false, Bool.or_false, Bool.false_or, Bool.true_or]))
                clear p0
                go_wp2
                go_ret
                exact ⟨by rw [HR.out]; (first | done | rfl), hb2⟩
              have p0' : (of != 0) = false := by simp only [bne, p0]; rfl
              have Q0 := hide p0
              clear p0
              go_wp2_with (first | (with_reducible refine stop_load 28 rfl ?_) | (with_reducible refine stop_load 49 rfl ?_) | (with_reducible refine stop_load 24 rfl ?_) | (with_reducible refine stop_load 55 rfl ?_) | (with_reducible refine stop_load 58 rfl ?_))
              repeat (refine go_skipG rfl ?_; go_wp2_with (first | (with_reducible refine stop_load 28 rfl ?_) | (with_reducible refine stop_load 49 rfl ?_) | (with_reducible refine stop_load 24 rfl ?_) | (with_reducible refine stop_load 55 rfl ?_) | (with_reducible refine stop_load 58 rfl ?_)))
              go_wp2_with (first | (with_reducible refine stop_load 28 rfl ?_) | (with_reducible refine stop_load 49 rfl ?_) | (with_reducible refine stop_load 24 rfl ?_) | (with_reducible refine stop_load 55 rfl ?_) | (with_reducible refine stop_load 58 rfl ?_))
              repeat (refine go_skipG rfl ?_; go_wp2_with (first | (with_reducible refine stop_load 28 rfl ?_) | (with_reducible refine stop_load 49 rfl ?_) | (with_reducible refine stop_load 24 rfl ?_) | (with_reducible refine stop_load 55 rfl ?_) | (with_reducible refine stop_load 58 rfl ?_)))
              go_wp2_with (first | (with_reducible refine stop_load 28 rfl ?_) | (with_reducible refine stop_load 49 rfl ?_) | (with_reducible refine stop_load 24 rfl ?_) | (with_reducible refine stop_load 55 rfl ?_) | (with_reducible refine stop_load 58 rfl ?_))
              refine go_loadG rfl rfl (k := 20) rfl hB2 [c20, c21, c22, c23, c24, c25, c26] rfl Try.underlying55 rfl (by kernel_rfl) ?_
              go_wp2_with (first | (with_reducible refine stop_load 28 rfl ?_) | (with_reducible refine stop_load 49 rfl ?_) | (with_reducible refine stop_load 24 rfl ?_) | (with_reducible refine stop_load 55 rfl ?_) | (with_reducible refine stop_load 58 rfl ?_))
              go_fit (HS.out w2 hb2)
              rw [Hsk.out]
              rintro xx w3 ⟨rfl, hd3⟩
              have hb3 := hb2.trans (hd3.mono hb2.size)
              have hB3 := hB2.below hd3
              clear x27
              have x27 := hB3.cell (j := 27) rfl
              rcases bool_two sk with p3 | p3
              rotate_left
              · have Q3 := hide p3
                have HR := hide (mE_no (show msgB (k, f, t, e, v, nu, cm, no, nc, cl, se, o, r, g, s, l) = false by rw [HV.out]; simp only [HK.out, H1.out, H2.out, HN.out, Q0.out, Q3.out, Bool.true_and, Bool.false_and, Bool.and_false, Bool.or_false, Bool.false_or, Bool.true_or]))
                rw [p3]
                clear p3
                go_wp2
                go_ret
                exact ⟨by rw [HR.out]; (first | done | rfl), hb3⟩
              have Q3 := hide p3
              rw [p3]
              clear p3
              rcases bool_two en with q5 | q5
              · have H5 := hide q5
                have HR := hide (mE_ok (show msgB (k, f, t, e, v, nu, cm, no, nc, cl, se, o, r, g, s, l) = true by rw [HV.out]; simp only [HK.out, H1.out, H2.out, HN.out, Q0.out, Q3.out, H5.out, Bool.true_and, Bool.and_true, Bool.false_and, Bool.and_false, Bool.or_false, Bool.false_or, Bool.true_or]))
                clear q5
                go_wp2_with (first | (with_reducible refine stop_load 28 rfl ?_) | (with_reducible refine stop_load 49 rfl ?_) | (with_reducible refine stop_load 24 rfl ?_) | (with_reducible refine stop_load 55 rfl ?_) | (with_reducible refine stop_load 58 rfl ?_))
                go_fit (HE.out w3 hb3)
                rw [Hen.out, H5.out]
                rintro xx v3 ⟨rfl, hdv⟩
                go_wp2
                go_ret
                exact ⟨by rw [HR.out]; (first | done | rfl), hb3.trans (hdv.mono hb3.size)⟩
              · have H5 := hide q5
                have HR := hide (mE_no (show msgB (k, f, t, e, v, nu, cm, no, nc, cl, se, o, r, g, s, l) = false by rw [HV.out]; simp only [HK.out, H1.out, H2.out, HN.out, Q0.out, Q3.out, H5.out, Bool.true_and, Bool.false_and, Bool.and_false, Bool.or_false, Bool.false_or, Bool.true_or]))
                clear q5
                go_wp2_with (first | (with_reducible refine stop_load 28 rfl ?_) | (with_reducible refine stop_load 49 rfl ?_) | (with_reducible refine stop_load 24 rfl ?_) | (with_reducible refine stop_load 55 rfl ?_) | (with_reducible refine stop_load 58 rfl ?_))
                go_fit (HE.out w3 hb3)
                rw [Hen.out, H5.out]
                rintro xx v3 ⟨rfl, hdv⟩
                go_wp2
                go_ret
                exact ⟨by rw [HR.out]; (first | done | rfl), hb3.trans (hdv.mono hb3.size)⟩
            | true =>
              rw [show parN false true true true = 1 from by decide]
              have a1 : bits BinOp.and .i64 1 1 = 1 := by decide
              have a2 : bits BinOp.and .i64 1 2 = 0 := by decide
              have a4 : bits BinOp.and .i64 1 4 = 0 := by decide
              have a8 : bits BinOp.and .i64 1 8 = 0 := by decide
              go_wp2_with (first | (with_reducible refine stop_load 28 rfl ?_) | (with_reducible refine stop_load 49 rfl ?_) | (with_reducible refine stop_load 24 rfl ?_) | (with_reducible refine stop_load 55 rfl ?_) | (with_reducible refine stop_load 58 rfl ?_))
              refine go_loadG rfl rfl (k := 11) rfl hB1 [c11, c12, c13, c14, c15] rfl Try.underlying28 rfl (by kernel_rfl) ?_
              go_wp2_with (first | (with_reducible refine stop_load 28 rfl ?_) | (with_reducible refine stop_load 49 rfl ?_) | (with_reducible refine stop_load 24 rfl ?_) | (with_reducible refine stop_load 55 rfl ?_) | (with_reducible refine stop_load 58 rfl ?_))
              go_fit (HO.out w1 hb1)
              rw [Hof.out]
              rintro xx w2 ⟨rfl, hd2⟩
              have hb2 := hb1.trans (hd2.mono hb1.size)
              have hB2 := hB1.below hd2
              clear x27
              have x27 := hB2.cell (j := 27) rfl
              rcases bool_two (of == 0) with p0 | p0
              rotate_left
              · have p0' : (of != 0) = true := by simp only [bne, p0]; rfl
                have Q0 := hide p0
                have HR := hide (mE_no (show msgB (k, f, t, e, v, nu, cm, no, nc, cl, se, o, r, g, s, l) = false by rw [HV.out]; simp only [HK.out, H1.out, H2.out, HN.out, Q0.out, Bool.true_and, Bool.false_and, Bool.and_false, Bool.or_false, Bool.false_or, Bool.true_or]))
                clear p0
                go_wp2
                go_ret
                exact ⟨by rw [HR.out]; (first | done | rfl), hb2⟩
              have p0' : (of != 0) = false := by simp only [bne, p0]; rfl
              have Q0 := hide p0
              clear p0
              go_wp2_with (first | (with_reducible refine stop_load 28 rfl ?_) | (with_reducible refine stop_load 49 rfl ?_) | (with_reducible refine stop_load 24 rfl ?_) | (with_reducible refine stop_load 55 rfl ?_) | (with_reducible refine stop_load 58 rfl ?_))
              repeat (refine go_skipG rfl ?_; go_wp2_with (first | (with_reducible refine stop_load 28 rfl ?_) | (with_reducible refine stop_load 49 rfl ?_) | (with_reducible refine stop_load 24 rfl ?_) | (with_reducible refine stop_load 55 rfl ?_) | (with_reducible refine stop_load 58 rfl ?_)))
              go_wp2_with (first | (with_reducible refine stop_load 28 rfl ?_) | (with_reducible refine stop_load 49 rfl ?_) | (with_reducible refine stop_load 24 rfl ?_) | (with_reducible refine stop_load 55 rfl ?_) | (with_reducible refine stop_load 58 rfl ?_))
              repeat (refine go_skipG rfl ?_; go_wp2_with (first | (with_reducible refine stop_load 28 rfl ?_) | (with_reducible refine stop_load 49 rfl ?_) | (with_reducible refine stop_load 24 rfl ?_) | (with_reducible refine stop_load 55 rfl ?_) | (with_reducible refine stop_load 58 rfl ?_)))
              go_wp2_with (first | (with_reducible refine stop_load 28 rfl ?_) | (with_reducible refine stop_load 49 rfl ?_) | (with_reducible refine stop_load 24 rfl ?_) | (with_reducible refine stop_load 55 rfl ?_) | (with_reducible refine stop_load 58 rfl ?_))
              repeat (refine go_skipG rfl ?_; go_wp2_with (first | (with_reducible refine stop_load 28 rfl ?_) | (with_reducible refine stop_load 49 rfl ?_) | (with_reducible refine stop_load 24 rfl ?_) | (with_reducible refine stop_load 55 rfl ?_) | (with_reducible refine stop_load 58 rfl ?_)))
              rcases bool_two en with q5 | q5
              · have H5 := hide q5
                have HR := hide (mE_ok (show msgB (k, f, t, e, v, nu, cm, no, nc, cl, se, o, r, g, s, l) = true by rw [HV.out]; simp only [HK.out, H1.out, H2.out, HN.out, Q0.out, H5.out, Bool.true_and, Bool.and_true, Bool.false_and, Bool.and_false, Bool.or_false, Bool.false_or, Bool.true_or]))
                clear q5
                go_wp2_with (first | (with_reducible refine stop_load 28 rfl ?_) | (with_reducible refine stop_load 49 rfl ?_) | (with_reducible refine stop_load 24 rfl ?_) | (with_reducible refine stop_load 55 rfl ?_) | (with_reducible refine stop_load 58 rfl ?_))
                go_fit (HE.out w2 hb2)
                rw [Hen.out, H5.out]
                rintro xx v2 ⟨rfl, hdv⟩
                go_wp2
                go_ret
                exact ⟨by rw [HR.out]; (first | done | rfl), hb2.trans (hdv.mono hb2.size)⟩
              · have H5 := hide q5
                have HR := hide (mE_no (show msgB (k, f, t, e, v, nu, cm, no, nc, cl, se, o, r, g, s, l) = false by rw [HV.out]; simp only [HK.out, H1.out, H2.out, HN.out, Q0.out, H5.out, Bool.true_and, Bool.false_and, Bool.and_false, Bool.or_false, Bool.false_or, Bool.true_or]))
                clear q5
                go_wp2_with (first | (with_reducible refine stop_load 28 rfl ?_) | (with_reducible refine stop_load 49 rfl ?_) | (with_reducible refine stop_load 24 rfl ?_) | (with_reducible refine stop_load 55 rfl ?_) | (with_reducible refine stop_load 58 rfl ?_))
                go_fit (HE.out w2 hb2)
                rw [Hen.out, H5.out]
                rintro xx v2 ⟨rfl, hdv⟩
                go_wp2
                go_ret
                exact ⟨by rw [HR.out]; (first | done | rfl), hb2.trans (hdv.mono hb2.size)⟩
      | true =>
        cases r1 with
        | false =>
          cases g1 with
          | false =>
            cases s1 with
            | false =>
              rw [show parN true false false false = 14 from by decide]
              have a1 : bits BinOp.and .i64 14 1 = 0 := by decide
              have a2 : bits BinOp.and .i64 14 2 = 2 := by decide
              have a4 : bits BinOp.and .i64 14 4 = 4 := by decide
              have a8 : bits BinOp.and .i64 14 8 = 8 := by decide
              go_wp2_with (first | (with_reducible refine stop_load 28 rfl ?_) | (with_reducible refine stop_load 49 rfl ?_) | (with_reducible refine stop_load 24 rfl ?_) | (with_reducible refine stop_load 55 rfl ?_) | (with_reducible refine stop_load 58 rfl ?_))
              repeat (refine go_skipG rfl ?_; go_wp2_with (first | (with_reducible refine stop_load 28 rfl ?_) | (with_reducible refine stop_load 49 rfl ?_) | (with_reducible refine stop_load 24 rfl ?_) | (with_reducible refine stop_load 55 rfl ?_) | (with_reducible refine stop_load 58 rfl ?_)))
              go_wp2_with (first | (with_reducible refine stop_load 28 rfl ?_) | (with_reducible refine stop_load 49 rfl ?_) | (with_reducible refine stop_load 24 rfl ?_) | (with_reducible refine stop_load 55 rfl ?_) | (with_reducible refine stop_load 58 rfl ?_))
              refine go_loadG rfl rfl (k := 16) rfl hB1 [c16, c17] rfl Try.underlying49 rfl (by kernel_rfl) ?_
              go_wp2_with (first | (with_reducible refine stop_load 28 rfl ?_) | (with_reducible refine stop_load 49 rfl ?_) | (with_reducible refine stop_load 24 rfl ?_) | (with_reducible refine stop_load 55 rfl ?_) | (with_reducible refine stop_load 58 rfl ?_))
              go_fit (HRe.out w1 hb1)
              rw [Hrf.out]
              rintro xx w2 ⟨rfl, hd2⟩
              have hb2 := hb1.trans (hd2.mono hb1.size)
              have hB2 := hB1.below hd2
              clear x27
              have x27 := hB2.cell (j := 27) rfl
              rcases bool_two (rf == 0) with p1 | p1
              rotate_left
              · have p1' : (rf != 0) = true := by simp only [bne, p1]; rfl
                have Q1 := hide p1
                have HR := hide (mE_no (show msgB (k, f, t, e, v, nu, cm, no, nc, cl, se, o, r, g, s, l) = false by rw [HV.out]; simp only [HK.out, H1.out, H2.out, HN.out, Q1.out, Bool.true_and, Bool.false_and, Bool.and_false, Bool.or_false, Bool.false_or, Bool.true_or]))
                clear p1
                go_wp2
                go_ret
                exact ⟨by rw [HR.out]; (first | done | rfl), hb2⟩
              have p1' : (rf != 0) = false := by simp only [bne, p1]; rfl
              have Q1 := hide p1
              clear p1
              go_wp2_with (first | (with_reducible refine stop_load 28 rfl ?_) | (with_reducible refine stop_load 49 rfl ?_) | (with_reducible refine stop_load 24 rfl ?_) | (with_reducible refine stop_load 55 rfl ?_) | (with_reducible refine stop_load 58 rfl ?_))
              refine go_loadG rfl rfl (k := 18) rfl hB2 [c18, c19] rfl Try.underlying24 rfl (by kernel_rfl) ?_
              go_wp2_with (first | (with_reducible refine stop_load 28 rfl ?_) | (with_reducible refine stop_load 49 rfl ?_) | (with_reducible refine stop_load 24 rfl ?_) | (with_reducible refine stop_load 55 rfl ?_) | (with_reducible refine stop_load 58 rfl ?_))
              go_fit (HG.out w2 hb2)
              rw [Hgk.out]
              rintro xx w3 ⟨rfl, hd3⟩
              have hb3 := hb2.trans (hd3.mono hb2.size)
              have hB3 := hB2.below hd3
              clear x27
              have x27 := hB3.cell (j := 27) rfl
              rcases bool_two gk with p2 | p2
              rotate_left
              · have Q2 := hide p2
                have HR := hide (mE_no (show msgB (k, f, t, e, v, nu, cm, no, nc, cl, se, o, r, g, s, l) = false by rw [HV.out]; simp only [HK.out, H1.out, H2.out, HN.out, Q1.out, Q2.out, Bool.true_and, Bool.false_and, Bool.and_false, Bool.or_false, Bool.false_or, Bool.true_or]))
                rw [p2]
                clear p2
                go_wp2
                go_ret
                exact ⟨by rw [HR.out]; (first | done | rfl), hb3⟩
              have Q2 := hide p2
              rw [p2]
              clear p2
              go_wp2_with (first | (with_reducible refine stop_load 28 rfl ?_) | (with_reducible refine stop_load 49 rfl ?_) | (with_reducible refine stop_load 24 rfl ?_) | (with_reducible refine stop_load 55 rfl ?_) | (with_reducible refine stop_load 58 rfl ?_))
              refine go_loadG rfl rfl (k := 20) rfl hB3 [c20, c21, c22, c23, c24, c25, c26] rfl Try.underlying55 rfl (by kernel_rfl) ?_
              go_wp2_with (first | (with_reducible refine stop_load 28 rfl ?_) | (with_reducible refine stop_load 49 rfl ?_) | (with_reducible refine stop_load 24 rfl ?_) | (with_reducible refine stop_load 55 rfl ?_) | (with_reducible refine stop_load 58 rfl ?_))
              go_fit (HS.out w3 hb3)
              rw [Hsk.out]
              rintro xx w4 ⟨rfl, hd4⟩
              have hb4 := hb3.trans (hd4.mono hb3.size)
              have hB4 := hB3.below hd4
              clear x27
              have x27 := hB4.cell (j := 27) rfl
              rcases bool_two sk with p3 | p3
              rotate_left
              · have Q3 := hide p3
                have HR := hide (mE_no (show msgB (k, f, t, e, v, nu, cm, no, nc, cl, se, o, r, g, s, l) = false by rw [HV.out]; simp only [HK.out, H1.out, H2.out, HN.out, Q1.out, Q2.out, Q3.out, Bool.true_and, Bool.false_and, Bool.and_false, Bool.or_false, Bool.false_or, Bool.true_or]))
                rw [p3]
                clear p3
                go_wp2
                go_ret
                exact ⟨by rw [HR.out]; (first | done | rfl), hb4⟩
              have Q3 := hide p3
              rw [p3]
              clear p3
              rcases bool_two en with q5 | q5
              · have H5 := hide q5
                have HR := hide (mE_ok (show msgB (k, f, t, e, v, nu, cm, no, nc, cl, se, o, r, g, s, l) = true by rw [HV.out]; simp only [HK.out, H1.out, H2.out, HN.out, Q1.out, Q2.out, Q3.out, H5.out, Bool.true_and, Bool.and_true, Bool.false_and, Bool.and_false, Bool.or_false, Bool.false_or, Bool.true_or]))
                clear q5
                go_wp2_with (first | (with_reducible refine stop_load 28 rfl ?_) | (with_reducible refine stop_load 49 rfl ?_) | (with_reducible refine stop_load 24 rfl ?_) | (with_reducible refine stop_load 55 rfl ?_) | (with_reducible refine stop_load 58 rfl ?_))
                go_fit (HE.out w4 hb4)
                rw [Hen.out, H5.out]
                rintro xx v4 ⟨rfl, hdv⟩
                go_wp2
                go_ret
                exact ⟨by rw [HR.out]; (first | done | rfl), hb4.trans (hdv.mono hb4.size)⟩
              · have H5 := hide q5
                have HR := hide (mE_no (show msgB (k, f, t, e, v, nu, cm, no, nc, cl, se, o, r, g, s, l) = false by rw [HV.out]; simp only [HK.out, H1.out, H2.out, HN.out, Q1.out, Q2.out, Q3.out, H5.out, Bool.true_and, Bool.false_and, Bool.and_false, Bool.or_false, Bool.false_or, Bool.true_or]))
                clear q5
                go_wp2_with (first | (with_reducible refine stop_load 28 rfl ?_) | (with_reducible refine stop_load 49 rfl ?_) | (with_reducible refine stop_load 24 rfl ?_) | (with_reducible refine stop_load 55 rfl ?_) | (with_reducible refine stop_load 58 rfl ?_))
                go_fit (HE.out w4 hb4)
                rw [Hen.out, H5.out]
                rintro xx v4 ⟨rfl, hdv⟩
                go_wp2
                go_ret
                exact ⟨by rw [HR.out]; (first | done | rfl), hb4.trans (hdv.mono hb4.size)⟩
            | true =>
              rw [show parN true false false true = 6 from by decide]
              have a1 : bits BinOp.and .i64 6 1 = 0 := by decide
              have a2 : bits BinOp.and .i64 6 2 = 2 := by decide
              have a4 : bits BinOp.and .i64 6 4 = 4 := by decide
              have a8 : bits BinOp.and .i64 6 8 = 0 := by decide
              go_wp2_with (first | (with_reducible refine stop_load 28 rfl ?_) | (with_reducible refine stop_load 49 rfl ?_) | (with_reducible refine stop_load 24 rfl ?_) | (with_reducible refine stop_load 55 rfl ?_) | (with_reducible refine stop_load 58 rfl ?_))
              repeat (refine go_skipG rfl ?_; go_wp2_with (first | (with_reducible refine stop_load 28 rfl ?_) | (with_reducible refine stop_load 49 rfl ?_) | (with_reducible refine stop_load 24 rfl ?_) | (with_reducible refine stop_load 55 rfl ?_) | (with_reducible refine stop_load 58 rfl ?_)))
              go_wp2_with (first | (with_reducible refine stop_load 28 rfl ?_) | (with_reducible refine stop_load 49 rfl ?_) | (with_reducible refine stop_load 24 rfl ?_) | (with_reducible refine stop_load 55 rfl ?_) | (with_reducible refine stop_load 58 rfl ?_))
              refine go_loadG rfl rfl (k := 16) rfl hB1 [c16, c17] rfl Try.underlying49 rfl (by kernel_rfl) ?_
              go_wp2_with (first | (with_reducible refine stop_load 28 rfl ?_) | (with_reducible refine stop_load 49 rfl ?_) | (with_reducible refine stop_load 24 rfl ?_) | (with_reducible refine stop_load 55 rfl ?_) | (with_reducible refine stop_load 58 rfl ?_))
              go_fit (HRe.out w1 hb1)
              rw [Hrf.out]
              rintro xx w2 ⟨rfl, hd2⟩
              have hb2 := hb1.trans (hd2.mono hb1.size)
              have hB2 := hB1.below hd2
              clear x27
              have x27 := hB2.cell (j := 27) rfl
              rcases bool_two (rf == 0) with p1 | p1
              rotate_left
              · have p1' : (rf != 0) = true := by simp only [bne, p1]; rfl
                have Q1 := hide p1
                have HR := hide (mE_no (show msgB (k, f, t, e, v, nu, cm, no, nc, cl, se, o, r, g, s, l) = false by rw [HV.out]; simp only [HK.out, H1.out, H2.out, HN.out, Q1.out, Bool.true_and, Bool.false_and, Bool.and_false, Bool.or_false, Bool.false_or, Bool.true_or]))
                clear p1
                go_wp2
                go_ret
                exact ⟨by rw [HR.out]; (first | done | rfl), hb2⟩
              have p1' : (rf != 0) = false := by simp only [bne, p1]; rfl
              have Q1 := hide p1
              clear p1
              go_wp2_with (first | (with_reducible refine stop_load 28 rfl ?_) | (with_reducible refine stop_load 49 rfl ?_) | (with_reducible refine stop_load 24 rfl ?_) | (with_reducible refine stop_load 55 rfl ?_) | (with_reducible refine stop_load 58 rfl ?_))
              refine go_loadG rfl rfl (k := 18) rfl hB2 [c18, c19] rfl Try.underlying24 rfl (by kernel_rfl) ?_
              go_wp2_with (first | (with_reducible refine stop_load 28 rfl ?_) | (with_reducible refine stop_load 49 rfl ?_) | (with_reducible refine stop_load 24 rfl ?_) | (with_reducible refine stop_load 55 rfl ?_) | (with_reducible refine stop_load 58 rfl ?_))
              go_fit (HG.out w2 hb2)
              rw [Hgk.out]
              rintro xx w3 ⟨rfl, hd3⟩
              have hb3 := hb2.trans (hd3.mono hb2.size)
              have hB3 := hB2.below hd3
              clear x27
              have x27 := hB3.cell (j := 27) rfl
              rcases bool_two gk with p2 | p2
              rotate_left
              · have Q2 := hide p2
                have HR := hide (mE_no (show msgB (k, f, t, e, v, nu, cm, no, nc, cl, se, o, r, g, s, l) = false by rw [HV.out]; simp only [HK.out, H1.out, H2.out, HN.out, Q1.out, Q2.out, Bool.true_and, Bool.false_and, Bool.and_false, Bool.or_false, Bool.false_or, Bool.true_or]))
                rw [p2]
                clear p2
                go_wp2
                go_ret
                exact ⟨by rw [HR.out]; (first | done | rfl), hb3⟩
              have Q2 := hide p2
              rw [p2]
              clear p2
              go_wp2_with (first | (with_reducible refine stop_load 28 rfl ?_) | (with_reducible refine stop_load 49 rfl ?_) | (with_reducible refine stop_load 24 rfl ?_) | (with_reducible refine stop_load 55 rfl ?_) | (with_reducible refine stop_load 58 rfl ?_))
              repeat (refine go_skipG rfl ?_; go_wp2_with (first | (with_reducible refine stop_load 28 rfl ?_) | (with_reducible refine stop_load 49 rfl ?_) | (with_reducible refine stop_load 24 rfl ?_) | (with_reducible refine stop_load 55 rfl ?_) | (with_reducible refine stop_load 58 rfl ?_)))
              rcases bool_two en with q5 | q5
              · have H5 := hide q5
                have HR := hide (mE_ok (show msgB (k, f, t, e, v, nu, cm, no, nc, cl, se, o, r, g, s, l) = true by rw [HV.out]; simp only [HK.out, H1.out, H2.out, HN.out, Q1.out, Q2.out, H5.out, Bool.true_and, Bool.and_true, Bool.false_and, Bool.and_false, Bool.or_false, Bool.false_or, Bool.true_or]))
                clear q5
                go_wp2_with (first | (with_reducible refine stop_load 28 rfl ?_) | (with_reducible refine stop_load 49 rfl ?_) | (with_reducible refine stop_load 24 rfl ?_) | (with_reducible refine stop_load 55 rfl ?_) | (with_reducible refine stop_load 58 rfl ?_))
                go_fit (HE.out w3 hb3)
                rw [Hen.out, H5.out]
                rintro xx v3 ⟨rfl, hdv⟩
                go_wp2
                go_ret
                exact ⟨by rw [HR.out]; (first | done | rfl), hb3.trans (hdv.mono hb3.size)⟩
              · have H5 := hide q5
                have HR := hide (mE_no (show msgB (k, f, t, e, v, nu, cm, no, nc, cl, se, o, r, g, s, l) = false by rw [HV.out]; simp only [HK.out, H1.out, H2.out, HN.out, Q1.out, Q2.out, H5.out, Bool.true_and, Bool.false_and, Bool.and_false, Bool.or_false, Bool.false_or, Bool.true_or]))
                clear q5
                go_wp2_with (first | (with_reducible refine stop_load 28 rfl ?_) | (with_reducible refine stop_load 49 rfl ?_) | (with_reducible refine stop_load 24 rfl ?_) | (with_reducible refine stop_load 55 rfl ?_) | (with_reducible refine stop_load 58 rfl ?_))
                go_fit (HE.out w3 hb3)
                rw [Hen.out, H5.out]
                rintro xx v3 ⟨rfl, hdv⟩
                go_wp2
                go_ret
                exact ⟨by rw [HR.out]; (first | done | rfl), hb3.trans (hdv.mono hb3.size)⟩
          | true =>
            cases s1 with
            | false =>
              rw [show parN true false true false = 10 from by decide]
              have a1 : bits BinOp.and .i64 10 1 = 0 := by decide
              have a2 : bits BinOp.and .i64 10 2 = 2 := by decide
              have a4 : bits BinOp.and .i64 10 4 = 0 := by decide
              have a8 : bits BinOp.and .i64 10 8 = 8 := by decide
              go_wp2_with (first | (with_reducible refine stop_load 28 rfl ?_) | (with_reducible refine stop_load 49 rfl ?_) | (with_reducible refine stop_load 24 rfl ?_) | (with_reducible refine stop_load 55 rfl ?_) | (with_reducible refine stop_load 58 rfl ?_))
              repeat (refine go_skipG rfl ?_; go_wp2_with (first | (with_reducible refine stop_load 28 rfl ?_) | (with_reducible refine stop_load 49 rfl ?_) | (with_reducible refine stop_load 24 rfl ?_) | (with_reducible refine stop_load 55 rfl ?_) | (with_reducible refine stop_load 58 rfl ?_)))
              go_wp2_with (first | (with_reducible refine stop_load 28 rfl ?_) | (with_reducible refine stop_load 49 rfl ?_) | (with_reducible refine stop_load 24 rfl ?_) | (with_reducible refine stop_load 55 rfl ?_) | (with_reducible refine stop_load 58 rfl ?_))
              refine go_loadG rfl rfl (k := 16) rfl hB1 [c16, c17] rfl Try.underlying49 rfl (by kernel_rfl) ?_
              go_wp2_with (first | (with_reducible refine stop_load 28 rfl ?_) | (with_reducible refine stop_load 49 rfl ?_) | (with_reducible refine stop_load 24 rfl ?_) | (with_reducible refine stop_load 55 rfl ?_) | (with_reducible refine stop_load 58 rfl ?_))
              go_fit (HRe.out w1 hb1)
              rw [Hrf.out]
              rintro xx w2 ⟨rfl, hd2⟩
              have hb2 := hb1.trans (hd2.mono hb1.size)
              have hB2 := hB1.below hd2
              clear x27
              have x27 := hB2.cell (j := 27) rfl
              rcases bool_two (rf == 0) with p1 | p1
              rotate_left
              · have p1' : (rf != 0) = true := by simp only [bne, p1]; rfl
                have Q1 := hide p1
                have HR := hide (mE_no (show msgB (k, f, t, e, v, nu, cm, no, nc, cl, se, o, r, g, s, l) = false by rw [HV.out]; simp only [HK.out, H1.out, H2.out, HN.out, Q1.out, Bool.true_and, Bool.false_and, Bool.and_false, Bool.or_false, Bool.false_or, Bool.true_or]))
                clear p1
                go_wp2
                go_ret
                exact ⟨by rw [HR.out]; (first | done | rfl), hb2⟩
              have p1' : (rf != 0) = false := by simp only [bne, p1]; rfl
              have Q1 := hide p1
              clear p1
              go_wp2_with (first | (with_reducible refine stop_load 28 rfl ?_) | (with_reducible refine stop_load 49 rfl ?_) | (with_reducible refine stop_load 24 rfl ?_) | (with_reducible refine stop_load 55 rfl ?_) | (with_reducible refine stop_load 58 rfl ?_))
              repeat (refine go_skipG rfl ?_; go_wp2_with (first | (with_reducible refine stop_load 28 rfl ?_) | (with_reducible refine stop_load 49 rfl ?_) | (with_reducible refine stop_load 24 rfl ?_) | (with_reducible refine stop_load 55 rfl ?_) | (with_reducible refine stop_load 58 rfl ?_)))
              go_wp2_with (first | (with_reducible refine stop_load 28 rfl ?_) | (with_reducible refine stop_load 49 rfl ?_) | (with_reducible refine stop_load 24 rfl ?_) | (with_reducible refine stop_load 55 rfl ?_) | (with_reducible refine stop_load 58 rfl ?_))
              refine go_loadG rfl rfl (k := 20) rfl hB2 [c20, c21, c22, c23, c24, c25, c26] rfl Try.underlying55 rfl (by kernel_rfl) ?_
              go_wp2_with (first | (with_reducible refine stop_load 28 rfl ?_) | (with_reducible refine stop_load 49 rfl ?_) | (with_reducible refine stop_load 24 rfl ?_) | (with_reducible refine stop_load 55 rfl ?_) | (with_reducible refine stop_load 58 rfl ?_))
              go_fit (HS.out w2 hb2)
              rw [Hsk.out]
              rintro xx w3 ⟨rfl, hd3⟩
              have hb3 := hb2.trans (hd3.mono hb2.size)
              have hB3 := hB2.below hd3
              clear x27
              have x27 := hB3.cell (j := 27) rfl
              rcases bool_two sk with p3 | p3
              rotate_left
              · have Q3 := hide p3
                have HR := hide (mE_no (show msgB (k, f, t, e, v, nu, cm, no, nc, cl, se, o, r, g, s, l) = false by rw [HV.out]; simp only [HK.out, H1.out, H2.out, HN.out, Q1.out, Q3.out, Bool.true_and, Bool.false_and, Bool.and_false, Bool.or_false, Bool.false_or, Bool.true_or]))
                rw [p3]
                clear p3
                go_wp2
                go_ret
                exact ⟨by rw [HR.out]; (first | done | rfl), hb3⟩
              have Q3 := hide p3
              rw [p3]
              clear p3
              rcases bool_two en with q5 | q5
              · have H5 := hide q5
                have HR := hide (mE_ok (show msgB (k, f, t, e, v, nu, cm, no, nc, cl, se, o, r, g, s, l) = true by rw [HV.out]; simp only [HK.out, H1.out, H2.out, HN.out, Q1.out, Q3.out, H5.out, Bool.true_and, Bool.and_true, Bool.false_and, Bool.and_false, Bool.or_false, Bool.false_or, Bool.true_or]))
                clear q5
                go_wp2_with (first | (with_reducible refine stop_load 28 rfl ?_) | (with_reducible refine stop_load 49 rfl ?_) | (with_reducible refine stop_load 24 rfl ?_) | (with_reducible refine stop_load 55 rfl ?_) | (with_reducible refine stop_load 58 rfl ?_))
                go_fit (HE.out w3 hb3)
                rw [Hen.out, H5.out]
                rintro xx v3 ⟨rfl, hdv⟩
                go_wp2
                go_ret
                exact ⟨by rw [HR.out]; (first | done | rfl), hb3.trans (hdv.mono hb3.size)⟩
              · have H5 := hide q5
                have HR := hide (mE_no (show msgB (k, f, t, e, v, nu, cm, no, nc, cl, se, o, r, g, s, l) = false by rw [HV.out]; simp only [HK.out, H1.out, H2.out, HN.out, Q1.out, Q3.out, H5.out, Bool.true_and, Bool.false_and, Bool.and_false, Bool.or_false, Bool.false_or, Bool.true_or]))
                clear q5
                go_wp2_with (first | (with_reducible refine stop_load 28 rfl ?_) | (with_reducible refine stop_load 49 rfl ?_) | (with_reducible refine stop_load 24 rfl ?_) | (with_reducible refine stop_load 55 rfl ?_) | (with_reducible refine stop_load 58 rfl ?_))
                go_fit (HE.out w3 hb3)
                rw [Hen.out, H5.out]
                rintro xx v3 ⟨rfl, hdv⟩
                go_wp2
                go_ret
                exact ⟨by rw [HR.out]; (first | done | rfl), hb3.trans (hdv.mono hb3.size)⟩
            | true =>
              rw [show parN true false true true = 2 from by decide]
              have a1 : bits BinOp.and .i64 2 1 = 0 := by decide
              have a2 : bits BinOp.and .i64 2 2 = 2 := by decide
              have a4 : bits BinOp.and .i64 2 4 = 0 := by decide
              have a8 : bits BinOp.and .i64 2 8 = 0 := by decide
              go_wp2_with (first | (with_reducible refine stop_load 28 rfl ?_) | (with_reducible refine stop_load 49 rfl ?_) | (with_reducible refine stop_load 24 rfl ?_) | (with_reducible refine stop_load 55 rfl ?_) | (with_reducible refine stop_load 58 rfl ?_))
              repeat (refine go_skipG rfl ?_; go_wp2_with (first | (with_reducible refine stop_load 28 rfl ?_) | (with_reducible refine stop_load 49 rfl ?_) | (with_reducible refine stop_load 24 rfl ?_) | (with_reducible refine stop_load 55 rfl ?_) | (with_reducible refine stop_load 58 rfl ?_)))
              go_wp2_with (first | (with_reducible refine stop_load 28 rfl ?_) | (with_reducible refine stop_load 49 rfl ?_) | (with_reducible refine stop_load 24 rfl ?_) | (with_reducible refine stop_load 55 rfl ?_) | (with_reducible refine stop_load 58 rfl ?_))
              refine go_loadG rfl rfl (k := 16) rfl hB1 [c16, c17] rfl Try.underlying49 rfl (by kernel_rfl) ?_
              go_wp2_with (first | (with_reducible refine stop_load 28 rfl ?_) | (with_reducible refine stop_load 49 rfl ?_) | (with_reducible refine stop_load 24 rfl ?_) | (with_reducible refine stop_load 55 rfl ?_) | (with_reducible refine stop_load 58 rfl ?_))
              go_fit (HRe.out w1 hb1)
              rw [Hrf.out]
              rintro xx w2 ⟨rfl, hd2⟩
              have hb2 := hb1.trans (hd2.mono hb1.size)
              have hB2 := hB1.below hd2
              clear x27
              have x27 := hB2.cell (j := 27) rfl
              rcases bool_two (rf == 0) with p1 | p1
              rotate_left
              · have p1' : (rf != 0) = true := by simp only [bne, p1]; rfl
                have Q1 := hide p1
                have HR := hide (mE_no (show msgB (k, f, t, e, v, nu, cm, no, nc, cl, se, o, r, g, s, l) = false by rw [HV.out]; simp only [HK.out, H1.out, H2.out, HN.out, Q1.out, Bool.true_and, Bool.false_and, Bool.and_false, Bool.or_false, Bool.false_or, Bool.true_or]))
                clear p1
                go_wp2
                go_ret
                exact ⟨by rw [HR.out]; (first | done | rfl), hb2⟩
              have p1' : (rf != 0) = false := by simp only [bne, p1]; rfl
              have Q1 := hide p1
              clear p1
              go_wp2_with (first | (with_reducible refine stop_load 28 rfl ?_) | (with_reducible refine stop_load 49 rfl ?_) | (with_reducible refine stop_load 24 rfl ?_) | (with_reducible refine stop_load 55 rfl ?_) | (with_reducible refine stop_load 58 rfl ?_))
              repeat (refine go_skipG rfl ?_; go_wp2_with (first | (with_reducible refine stop_load 28 rfl ?_) | (with_reducible refine stop_load 49 rfl ?_) | (with_reducible refine stop_load 24 rfl ?_) | (with_reducible refine stop_load 55 rfl ?_) | (with_reducible refine stop_load 58 rfl ?_)))
              go_wp2_with (first | (with_reducible refine stop_load 28 rfl ?_) | (with_reducible refine stop_load 49 rfl ?_) | (with_reducible refine stop_load 24 rfl ?_) | (with_reducible refine stop_load 55 rfl ?_) | (with_reducible refine stop_load 58 rfl ?_))
              repeat (refine go_skipG rfl ?_; go_wp2_with (first | (with_reducible refine stop_load 28 rfl ?_) | (with_reducible refine stop_load 49 rfl ?_) | (with_reducible refine stop_load 24 rfl ?_) | (with_reducible refine stop_load 55 rfl ?_) | (with_reducible refine stop_load 58 rfl ?_)))
              rcases bool_two en with q5 | q5
              · have H5 := hide q5
                have HR := hide (mE_ok (show msgB (k, f, t, e, v, nu, cm, no, nc, cl, se, o, r, g, s, l) = true by rw [HV.out]; simp only [HK.out, H1.out, H2.out, HN.out, Q1.out, H5.out, Bool.true_and, Bool.and_true, Bool.false_and, Bool.and_false, Bool.or_false, Bool.false_or, Bool.true_or]))
                clear q5
                go_wp2_with (first | (with_reducible refine stop_load 28 rfl ?_) | (with_reducible refine stop_load 49 rfl ?_) | (with_reducible refine stop_load 24 rfl ?_) | (with_reducible refine stop_load 55 rfl ?_) | (with_reducible refine stop_load 58 rfl ?_))
                go_fit (HE.out w2 hb2)
                rw [Hen.out, H5.out]
                rintro xx v2 ⟨rfl, hdv⟩
                go_wp2
                go_ret
                exact ⟨by rw [HR.out]; (first | done | rfl), hb2.trans (hdv.mono hb2.size)⟩
              · have H5 := hide q5
                have HR := hide (mE_no (show msgB (k, f, t, e, v, nu, cm, no, nc, cl, se, o, r, g, s, l) = false by rw [HV.out]; simp only [HK.out, H1.out, H2.out, HN.out, Q1.out, H5.out, Bool.true_and, Bool.false_and, Bool.and_false, Bool.or_false, Bool.false_or, Bool.true_or]))
                clear q5
                go_wp2_with (first | (with_reducible refine stop_load 28 rfl ?_) | (with_reducible refine stop_load 49 rfl ?_) | (with_reducible refine stop_load 24 rfl ?_) | (with_reducible refine stop_load 55 rfl ?_) | (with_reducible refine stop_load 58 rfl ?_))
                go_fit (HE.out w2 hb2)
                rw [Hen.out, H5.out]
                rintro xx v2 ⟨rfl, hdv⟩
                go_wp2
                go_ret
                exact ⟨by rw [HR.out]; (first | done | rfl), hb2.trans (hdv.mono hb2.size)⟩
        | true =>
          cases g1 with
          | false =>
            cases s1 with
            | false =>
              rw [show parN true true false false = 12 from by decide]
              have a1 : bits BinOp.and .i64 12 1 = 0 := by decide
              have a2 : bits BinOp.and .i64 12 2 = 0 := by decide
              have a4 : bits BinOp.and .i64 12 4 = 4 := by decide
              have a8 : bits BinOp.and .i64 12 8 = 8 := by decide
              go_wp2_with (first | (with_reducible refine stop_load 28 rfl ?_) | (with_reducible refine stop_load 49 rfl ?_) | (with_reducible refine stop_load 24 rfl ?_) | (with_reducible refine stop_load 55 rfl ?_) | (with_reducible refine stop_load 58 rfl ?_))
              repeat (refine go_skipG rfl ?_; go_wp2_with (first | (with_reducible refine stop_load 28 rfl ?_) | (with_reducible refine stop_load 49 rfl ?_) | (with_reducible refine stop_load 24 rfl ?_) | (with_reducible refine stop_load 55 rfl ?_) | (with_reducible refine stop_load 58 rfl ?_)))
              go_wp2_with (first | (with_reducible refine stop_load 28 rfl ?_) | (with_reducible refine stop_load 49 rfl ?_) | (with_reducible refine stop_load 24 rfl ?_) | (with_reducible refine stop_load 55 rfl ?_) | (with_reducible refine stop_load 58 rfl ?_))
              repeat (refine go_skipG rfl ?_; go_wp2_with (first | (with_reducible refine stop_load 28 rfl ?_) | (with_reducible refine stop_load 49 rfl ?_) | (with_reducible refine stop_load 24 rfl ?_) | (with_reducible refine stop_load 55 rfl ?_) | (with_reducible refine stop_load 58 rfl ?_)))
              go_wp2_with (first | (with_reducible refine stop_load 28 rfl ?_) | (with_reducible refine stop_load 49 rfl ?_) | (with_reducible refine stop_load 24 rfl ?_) | (with_reducible refine stop_load 55 rfl ?_) | (with_reducible refine stop_load 58 rfl ?_))
              refine go_loadG rfl rfl (k := 18) rfl hB1 [c18, c19] rfl Try.underlying24 rfl (by kernel_rfl) ?_
              go_wp2_with (first | (with_reducible refine stop_load 28 rfl ?_) | (with_reducible refine stop_load 49 rfl ?_) | (with_reducible refine stop_load 24 rfl ?_) | (with_reducible refine stop_load 55 rfl ?_) | (with_reducible refine stop_load 58 rfl ?_))
              go_fit (HG.out w1 hb1)
              rw [Hgk.out]
              rintro xx w2 ⟨rfl, hd2⟩
              have hb2 := hb1.trans (hd2.mono hb1.size)
              have hB2 := hB1.below hd2
              clear x27
              have x27 := hB2.cell (j := 27) rfl
              rcases bool_two gk with p2 | p2
              rotate_left
              · have Q2 := hide p2
                have HR := hide (mE_no (show msgB (k, f, t, e, v, nu, cm, no, nc, cl, se, o, r, g, s, l) = false by rw [HV.out]; simp only [HK.out, H1.out, H2.out, HN.out, Q2.out, Bool.true_and, Bool.false_and, Bool.and_false, Bool.or_false, Bool.false_or, Bool.true_or]))
                rw [p2]
                clear p2
                go_wp2
                go_ret
                exact ⟨by rw [HR.out]; (first | done | rfl), hb2⟩
              have Q2 := hide p2
              rw [p2]
              clear p2
              go_wp2_with (first | (with_reducible refine stop_load 28 rfl ?_) | (with_reducible refine stop_load 49 rfl ?_) | (with_reducible refine stop_load 24 rfl ?_) | (with_reducible refine stop_load 55 rfl ?_) | (with_reducible refine stop_load 58 rfl ?_))
              refine go_loadG rfl rfl (k := 20) rfl hB2 [c20, c21, c22, c23, c24, c25, c26] rfl Try.underlying55 rfl (by kernel_rfl) ?_
              go_wp2_with (first | (with_reducible refine stop_load 28 rfl ?_) | (with_reducible refine stop_load 49 rfl ?_) | (with_reducible refine stop_load 24 rfl ?_) | (with_reducible refine stop_load 55 rfl ?_) | (with_reducible refine stop_load 58 rfl ?_))
              go_fit (HS.out w2 hb2)
              rw [Hsk.out]
              rintro xx w3 ⟨rfl, hd3⟩
              have hb3 := hb2.trans (hd3.mono hb2.size)
              have hB3 := hB2.below hd3
              clear x27
              have x27 := hB3.cell (j := 27) rfl
              rcases bool_two sk with p3 | p3
              rotate_left
              · have Q3 := hide p3
                have HR := hide (mE_no (show msgB (k, f, t, e, v, nu, cm, no, nc, cl, se, o, r, g, s, l) = false by rw [HV.out]; simp only [HK.out, H1.out, H2.out, HN.out, Q2.out, Q3.out, Bool.true_and, Bool.false_and, Bool.and_false, Bool.or_false, Bool.false_or, Bool.true_or]))
                rw [p3]
                clear p3
                go_wp2
                go_ret
                exact ⟨by rw [HR.out]; (first | done | rfl), hb3⟩
              have Q3 := hide p3
              rw [p3]
              clear p3
              rcases bool_two en with q5 | q5
              · have H5 := hide q5
                have HR := hide (mE_ok (show msgB (k, f, t, e, v, nu, cm, no, nc, cl, se, o, r, g, s, l) = true by rw [HV.out]; simp only [HK.out, H1.out, H2.out, HN.out, Q2.out, Q3.out, H5.out, Bool.true_and, Bool.and_true, Bool.false_and, Bool.and_false, Bool.or_false, Bool.false_or, Bool.true_or]))
                clear q5
                go_wp2_with (first | (with_reducible refine stop_load 28 rfl ?_) | (with_reducible refine stop_load 49 rfl ?_) | (with_reducible refine stop_load 24 rfl ?_) | (with_reducible refine stop_load 55 rfl ?_) | (with_reducible refine stop_load 58 rfl ?_))
                go_fit (HE.out w3 hb3)
                rw [Hen.out, H5.out]
                rintro xx v3 ⟨rfl, hdv⟩
                go_wp2
                go_ret
                exact ⟨by rw [HR.out]; (first | done | rfl), hb3.trans (hdv.mono hb3.size)⟩
              · have H5 := hide q5
                have HR := hide (mE_no (show msgB (k, f, t, e, v, nu, cm, no, nc, cl, se, o, r, g, s, l) = false by rw [HV.out]; simp only [HK.out, H1.out, H2.out, HN.out, Q2.out, Q3.out, H5.out, Bool.true_and, Bool.false_and, Bool.and_false, Bool.or_false, Bool.false_or, Bool.true_or]))
                clear q5
                go_wp2_with (first | (with_reducible refine stop_load 28 rfl ?_) | (with_reducible refine stop_load 49 rfl ?_) | (with_reducible refine stop_load 24 rfl ?_) | (with_reducible refine stop_load 55 rfl ?_) | (with_reducible refine stop_load 58 rfl ?_))
                go_fit (HE.out w3 hb3)
                rw [Hen.out, H5.out]
                rintro xx v3 ⟨rfl, hdv⟩
                go_wp2
                go_ret
                exact ⟨by rw [HR.out]; (first | done | rfl), hb3.trans (hdv.mono hb3.size)⟩
            | true =>
              rw [show parN true true false true = 4 from by decide]
              have a1 : bits BinOp.and .i64 4 1 = 0 := by decide
              have a2 : bits BinOp.and .i64 4 2 = 0 := by decide
              have a4 : bits BinOp.and .i64 4 4 = 4 := by decide
              have a8 : bits BinOp.and .i64 4 8 = 0 := by decide
              go_wp2_with (first | (with_reducible refine stop_load 28 rfl ?_) | (with_reducible refine stop_load 49 rfl ?_) | (with_reducible refine stop_load 24 rfl ?_) | (with_reducible refine stop_load 55 rfl ?_) | (with_reducible refine stop_load 58 rfl ?_))
              repeat (refine go_skipG rfl ?_; go_wp2_with (first | (with_reducible refine stop_load 28 rfl ?_) | (with_reducible refine stop_load 49 rfl ?_) | (with_reducible refine stop_load 24 rfl ?_) | (with_reducible refine stop_load 55 rfl ?_) | (with_reducible refine stop_load 58 rfl ?_)))
              go_wp2_with (first | (with_reducible refine stop_load 28 rfl ?_) | (with_reducible refine stop_load 49 rfl ?_) | (with_reducible refine stop_load 24 rfl ?_) | (with_reducible refine stop_load 55 rfl ?_) | (with_reducible refine stop_load 58 rfl ?_))
              repeat (refine go_skipG rfl ?_; go_wp2_with (first | (with_reducible refine stop_load 28 rfl ?_) | (with_reducible refine stop_load 49 rfl ?_) | (with_reducible refine stop_load 24 rfl ?_) | (with_reducible refine stop_load 55 rfl ?_) | (with_reducible refine stop_load 58 rfl ?_)))
              go_wp2_with (first | (with_reducible refine stop_load 28 rfl ?_) | (with_reducible refine stop_load 49 rfl ?_) | (with_reducible refine stop_load 24 rfl ?_) | (with_reducible refine stop_load 55 rfl ?_) | (with_reducible refine stop_load 58 rfl ?_))
              refine go_loadG rfl rfl (k := 18) rfl hB1 [c18, c19] rfl Try.underlying24 rfl (by kernel_rfl) ?_
              go_wp2_with (first | (with_reducible refine stop_load 28 rfl ?_) | (with_reducible refine stop_load 49 rfl ?_) | (with_reducible refine stop_load 24 rfl ?_) | (with_reducible refine stop_load 55 rfl ?_) | (with_reducible refine stop_load 58 rfl ?_))
              go_fit (HG.out w1 hb1)
              rw [Hgk.out]
              rintro xx w2 ⟨rfl, hd2⟩
              have hb2 := hb1.trans (hd2.mono hb1.size)
              have hB2 := hB1.below hd2
              clear x27
              have x27 := hB2.cell (j := 27) rfl
              rcases bool_two gk with p2 | p2
              rotate_left
              · have Q2 := hide p2
                have HR := hide (mE_no (show msgB (k, f, t, e, v, nu, cm, no, nc, cl, se, o, r, g, s, l) = false by rw [HV.out]; simp only [HK.out, H1.out, H2.out, HN.out, Q2.out, Bool.true_and, Bool.false_and, Bool.and_false, Bool.or_false, Bool.false_or, Bool.true_or]))
                rw [p2]
                clear p2
                go_wp2
                go_ret
                exact ⟨by rw [HR.out]; (first | done | rfl), hb2⟩
              have Q2 := hide p2
              rw [p2]
              clear p2
              go_wp2_with (first | (with_reducible refine stop_load 28 rfl ?_) | (with_reducible refine stop_load 49 rfl ?_) | (with_reducible refine stop_load 24 rfl ?_) | (with_reducible refine stop_load 55 rfl ?_) | (with_reducible refine stop_load 58 rfl ?_))
              repeat (refine go_skipG rfl ?_; go_wp2_with (first | (with_reducible refine stop_load 28 rfl ?_) | (with_reducible refine stop_load 49 rfl ?_) | (with_reducible refine stop_load 24 rfl ?_) | (with_reducible refine stop_load 55 rfl ?_) | (with_reducible refine stop_load 58 rfl ?_)))
              rcases bool_two en with q5 | q5
              · have H5 := hide q5
                have HR := hide (mE_ok (show msgB (k, f, t, e, v, nu, cm, no, nc, cl, se, o, r, g, s, l) = true by rw [HV.out]; simp only [HK.out, H1.out, H2.out, HN.out, Q2.out, H5.out, Bool.true_and, Bool.and_true, Bool.false_and, Bool.and_false, Bool.or_false, Bool.false_or, Bool.true_or]))
                clear q5
                go_wp2_with (first | (with_reducible refine stop_load 28 rfl ?_) | (with_reducible refine stop_load 49 rfl ?_) | (with_reducible refine stop_load 24 rfl ?_) | (with_reducible refine stop_load 55 rfl ?_) | (with_reducible refine stop_load 58 rfl ?_))
                go_fit (HE.out w2 hb2)
                rw [Hen.out, H5.out]
                rintro xx v2 ⟨rfl, hdv⟩
                go_wp2
                go_ret
                exact ⟨by rw [HR.out]; (first | done | rfl), hb2.trans (hdv.mono hb2.size)⟩
              · have H5 := hide q5
                have HR := hide (mE_no (show msgB (k, f, t, e, v, nu, cm, no, nc, cl, se, o, r, g, s, l) = false by rw [HV.out]; simp only [HK.out, H1.out, H2.out, HN.out, Q2.out, H5.out, Bool.true_and, Bool.false_and, Bool.and_false, Bool.or_false, Bool.false_or, Bool.true_or]))
                clear q5
                go_wp2_with (first | (with_reducible refine stop_load 28 rfl ?_) | (with_reducible refine stop_load 49 rfl ?_) | (with_reducible refine stop_load 24 rfl ?_) | (with_reducible refine stop_load 55 rfl ?_) | (with_reducible refine stop_load 58 rfl ?_))
                go_fit (HE.out w2 hb2)
                rw [Hen.out, H5.out]
                rintro xx v2 ⟨rfl, hdv⟩
                go_wp2
                go_ret
                exact ⟨by rw [HR.out]; (first | done | rfl), hb2.trans (hdv.mono hb2.size)⟩
          | true =>
            cases s1 with
            | false =>
              rw [show parN true true true false = 8 from by decide]
              have a1 : bits BinOp.and .i64 8 1 = 0 := by decide
              have a2 : bits BinOp.and .i64 8 2 = 0 := by decide
              have a4 : bits BinOp.and .i64 8 4 = 0 := by decide
              have a8 : bits BinOp.and .i64 8 8 = 8 := by decide
              go_wp2_with (first | (with_reducible refine stop_load 28 rfl ?_) | (with_reducible refine stop_load 49 rfl ?_) | (with_reducible refine stop_load 24 rfl ?_) | (with_reducible refine stop_load 55 rfl ?_) | (with_reducible refine stop_load 58 rfl ?_))
              repeat (refine go_skipG rfl ?_; go_wp2_with (first | (with_reducible refine stop_load 28 rfl ?_) | (with_reducible refine stop_load 49 rfl ?_) | (with_reducible refine stop_load 24 rfl ?_) | (with_reducible refine stop_load 55 rfl ?_) | (with_reducible refine stop_load 58 rfl ?_)))
              go_wp2_with (first | (with_reducible refine stop_load 28 rfl ?_) | (with_reducible refine stop_load 49 rfl ?_) | (with_reducible refine stop_load 24 rfl ?_) | (with_reducible refine stop_load 55 rfl ?_) | (with_reducible refine stop_load 58 rfl ?_))
              repeat (refine go_skipG rfl ?_; go_wp2_with (first | (with_reducible refine stop_load 28 rfl ?_) | (with_reducible refine stop_load 49 rfl ?_) | (with_reducible refine stop_load 24 rfl ?_) | (with_reducible refine stop_load 55 rfl ?_) | (with_reducible refine stop_load 58 rfl ?_)))
              go_wp2_with (first | (with_reducible refine stop_load 28 rfl ?_) | (with_reducible refine stop_load 49 rfl ?_) | (with_reducible refine stop_load 24 rfl ?_) | (with_reducible refine stop_load 55 rfl ?_) | (with_reducible refine stop_load 58 rfl ?_))
              repeat (refine go_skipG rfl ?_; go_wp2_with (first | (with_reducible refine stop_load 28 rfl ?_) | (with_reducible refine stop_load 49 rfl ?_) | (with_reducible refine stop_load 24 rfl ?_) | (with_reducible refine stop_load 55 rfl ?_) | (with_reducible refine stop_load 58 rfl ?_)))
              go_wp2_with (first | (with_reducible refine stop_load 28 rfl ?_) | (with_reducible refine stop_load 49 rfl ?_) | (with_reducible refine stop_load 24 rfl ?_) | (with_reducible refine stop_load 55 rfl ?_) | (with_reducible refine stop_load 58 rfl ?_))
              refine go_loadG rfl rfl (k := 20) rfl hB1 [c20, c21, c22, c23, c24, c25, c26] rfl Try.underlying55 rfl (by kernel_rfl) ?_
              go_wp2_with (first | (with_reducible refine stop_load 28 rfl ?_) | (with_reducible refine stop_load 49 rfl ?_) | (with_reducible refine stop_load 24 rfl ?_) | (with_reducible refine stop_load 55 rfl ?_) | (with_reducible refine stop_load 58 rfl ?_))
              go_fit (HS.out w1 hb1)
              rw [Hsk.out]
              rintro xx w2 ⟨rfl, hd2⟩
              have hb2 := hb1.trans (hd2.mono hb1.size)
              have hB2 := hB1.below hd2
              clear x27
              have x27 := hB2.cell (j := 27) rfl
              rcases bool_two sk with p3 | p3
              rotate_left
              · have Q3 := hide p3
                have HR := hide (mE_no (show msgB (k, f, t, e, v, nu, cm, no, nc, cl, se, o, r, g, s, l) = false by rw [HV.out]; simp only [HK.out, H1.out, H2.out, HN.out, Q3.out, Bool.true_and, Bool.false_and, Bool.and_false, Bool.or_false, Bool.false_or, Bool.true_or]))
                rw [p3]
                clear p3
                go_wp2
                go_ret
                exact ⟨by rw [HR.out]; (first | done | rfl), hb2⟩
              have Q3 := hide p3
              rw [p3]
              clear p3
              rcases bool_two en with q5 | q5
              · have H5 := hide q5
                have HR := hide (mE_ok (show msgB (k, f, t, e, v, nu, cm, no, nc, cl, se, o, r, g, s, l) = true by rw [HV.out]; simp only [HK.out, H1.out, H2.out, HN.out, Q3.out, H5.out, Bool.true_and, Bool.and_true, Bool.false_and, Bool.and_false, Bool.or_false, Bool.false_or, Bool.true_or]))
                clear q5
                go_wp2_with (first | (with_reducible refine stop_load 28 rfl ?_) | (with_reducible refine stop_load 49 rfl ?_) | (with_reducible refine stop_load 24 rfl ?_) | (with_reducible refine stop_load 55 rfl ?_) | (with_reducible refine stop_load 58 rfl ?_))
                go_fit (HE.out w2 hb2)
                rw [Hen.out, H5.out]
                rintro xx v2 ⟨rfl, hdv⟩
                go_wp2
                go_ret
                exact ⟨by rw [HR.out]; (first | done | rfl), hb2.trans (hdv.mono hb2.size)⟩
              · have H5 := hide q5
                have HR := hide (mE_no (show msgB (k, f, t, e, v, nu, cm, no, nc, cl, se, o, r, g, s, l) = false by rw [HV.out]; simp only [HK.out, H1.out, H2.out, HN.out, Q3.out, H5.out, Bool.true_and, Bool.false_and, Bool.and_false, Bool.or_false, Bool.false_or, Bool.true_or]))
                clear q5
                go_wp2_with (first | (with_reducible refine stop_load 28 rfl ?_) | (with_reducible refine stop_load 49 rfl ?_) | (with_reducible refine stop_load 24 rfl ?_) | (with_reducible refine stop_load 55 rfl ?_) | (with_reducible refine stop_load 58 rfl ?_))
                go_fit (HE.out w2 hb2)
                rw [Hen.out, H5.out]
                rintro xx v2 ⟨rfl, hdv⟩
                go_wp2
                go_ret
                exact ⟨by rw [HR.out]; (first | done | rfl), hb2.trans (hdv.mono hb2.size)⟩
            | true =>
              rw [show parN true true true true = 0 from by decide]
              have a1 : bits BinOp.and .i64 0 1 = 0 := by decide
              have a2 : bits BinOp.and .i64 0 2 = 0 := by decide
              have a4 : bits BinOp.and .i64 0 4 = 0 := by decide
              have a8 : bits BinOp.and .i64 0 8 = 0 := by decide
              go_wp2_with (first | (with_reducible refine stop_load 28 rfl ?_) | (with_reducible refine stop_load 49 rfl ?_) | (with_reducible refine stop_load 24 rfl ?_) | (with_reducible refine stop_load 55 rfl ?_) | (with_reducible refine stop_load 58 rfl ?_))
              repeat (refine go_skipG rfl ?_; go_wp2_with (first | (with_reducible refine stop_load 28 rfl ?_) | (with_reducible refine stop_load 49 rfl ?_) | (with_reducible refine stop_load 24 rfl ?_) | (with_reducible refine stop_load 55 rfl ?_) | (with_reducible refine stop_load 58 rfl ?_)))
              go_wp2_with (first | (with_reducible refine stop_load 28 rfl ?_) | (with_reducible refine stop_load 49 rfl ?_) | (with_reducible refine stop_load 24 rfl ?_) | (with_reducible refine stop_load 55 rfl ?_) | (with_reducible refine stop_load 58 rfl ?_))
              repeat (refine go_skipG rfl ?_; go_wp2_with (first | (with_reducible refine stop_load 28 rfl ?_) | (with_reducible refine stop_load 49 rfl ?_) | (with_reducible refine stop_load 24 rfl ?_) | (with_reducible refine stop_load 55 rfl ?_) | (with_reducible refine stop_load 58 rfl ?_)))
              go_wp2_with (first | (with_reducible refine stop_load 28 rfl ?_) | (with_reducible refine stop_load 49 rfl ?_) | (with_reducible refine stop_load 24 rfl ?_) | (with_reducible refine stop_load 55 rfl ?_) | (with_reducible refine stop_load 58 rfl ?_))
              repeat (refine go_skipG rfl ?_; go_wp2_with (first | (with_reducible refine stop_load 28 rfl ?_) | (with_reducible refine stop_load 49 rfl ?_) | (with_reducible refine stop_load 24 rfl ?_) | (with_reducible refine stop_load 55 rfl ?_) | (with_reducible refine stop_load 58 rfl ?_)))
              go_wp2_with (first | (with_reducible refine stop_load 28 rfl ?_) | (with_reducible refine stop_load 49 rfl ?_) | (with_reducible refine stop_load 24 rfl ?_) | (with_reducible refine stop_load 55 rfl ?_) | (with_reducible refine stop_load 58 rfl ?_))
              repeat (refine go_skipG rfl ?_; go_wp2_with (first | (with_reducible refine stop_load 28 rfl ?_) | (with_reducible refine stop_load 49 rfl ?_) | (with_reducible refine stop_load 24 rfl ?_) | (with_reducible refine stop_load 55 rfl ?_) | (with_reducible refine stop_load 58 rfl ?_)))
              rcases bool_two en with q5 | q5
              · have H5 := hide q5
                have HR := hide (mE_ok (show msgB (k, f, t, e, v, nu, cm, no, nc, cl, se, o, r, g, s, l) = true by rw [HV.out]; simp only [HK.out, H1.out, H2.out, HN.out, H5.out, Bool.true_and, Bool.and_true, Bool.false_and, Bool.and_false, Bool.or_false, Bool.false_or, Bool.true_or]))
                clear q5
                go_wp2_with (first | (with_reducible refine stop_load 28 rfl ?_) | (with_reducible refine stop_load 49 rfl ?_) | (with_reducible refine stop_load 24 rfl ?_) | (with_reducible refine stop_load 55 rfl ?_) | (with_reducible refine stop_load 58 rfl ?_))
                go_fit (HE.out w1 hb1)
                rw [Hen.out, H5.out]
                rintro xx v1 ⟨rfl, hdv⟩
                go_wp2
                go_ret
                exact ⟨by rw [HR.out]; (first | done | rfl), hb1.trans (hdv.mono hb1.size)⟩
              · have H5 := hide q5
                have HR := hide (mE_no (show msgB (k, f, t, e, v, nu, cm, no, nc, cl, se, o, r, g, s, l) = false by rw [HV.out]; simp only [HK.out, H1.out, H2.out, HN.out, H5.out, Bool.true_and, Bool.false_and, Bool.and_false, Bool.or_false, Bool.false_or, Bool.true_or]))
                clear q5
                go_wp2_with (first | (with_reducible refine stop_load 28 rfl ?_) | (with_reducible refine stop_load 49 rfl ?_) | (with_reducible refine stop_load 24 rfl ?_) | (with_reducible refine stop_load 55 rfl ?_) | (with_reducible refine stop_load 58 rfl ?_))
                go_fit (HE.out w1 hb1)
                rw [Hen.out, H5.out]
                rintro xx v1 ⟨rfl, hdv⟩
                go_wp2
                go_ret
                exact ⟨by rw [HR.out]; (first | done | rfl), hb1.trans (hdv.mono hb1.size)⟩
end Go.Proofs.Ytlcbelmbonaooaa
