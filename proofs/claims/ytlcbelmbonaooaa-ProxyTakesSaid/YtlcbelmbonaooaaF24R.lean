/- Stage 24: which messages may be, as the document says (written by gen_24aa.py). -/
import Derived.Test.YtlcbelmbonaooaaF24q
import Derived.Deep.CutRange
namespace Go.Proofs.Ytlcbelmbonaooaa
set_option maxRecDepth 20000
open Go.RowKit Go.Px Go.Maps Go.Deep
set_option linter.unusedVariables false
set_option linter.unusedSimpArgs false
set_option maxRecDepth 20000 in
set_option maxHeartbeats 51200000 in
theorem rcheckM_is {w : World} {Q : Nat → Prop} {x : MsgD} {cs : List Value} (h : tyMsg.Is w Q x cs) : Calls Try.prog 52 #[.agg cs.toArray] w fun e w' => e = .returned (.int .i64 (mE x)) ∧ Below w.heap.size w w' := by
  have h9 := h
  obtain ⟨k, f, t, e, v, nu, cm, no, nc, cl, se, o, r, g, s, l, c11, c12, c13, c14, c15, c16, c17, c18, c19, c20, c21, c22, c23, c24, c25, c26, c27, rfl, rfl, ho, hr, hg, hs, hl, HM⟩ := Msg_parts h
  obtain ⟨lA, ln, lc, lv, rfl, hll, hlc, hlm, hlr, hlq, hle⟩ := Row_cell hl
  have hRA := rowAt_of (Ty.n_pos _) hll hlr hle
  have HNo := hide (fun W (hW : Below w.heap.size w W) => rnoOp_is (ho.below hW))
  have HO := hide (fun W (hW : Below w.heap.size w W) => rform_is (ho.below hW))
  have HNr := hide (fun W (hW : Below w.heap.size w W) => zeroResult_is (hr.below hW))
  have HRe := hide (fun W (hW : Below w.heap.size w W) => rresult_is (hr.below hW))
  have HNg := hide (fun W (hW : Below w.heap.size w W) => zeroGroup_is (hg.below hW))
  have HG := hide (fun W (hW : Below w.heap.size w W) => rgroup_is (hg.below hW))
  have HNs := hide (fun W (hW : Below w.heap.size w W) => zero15_is (hs.below hW))
  have HS := hide (fun W (hW : Below w.heap.size w W) => rstate_any (hs.below hW))
  have HE := hide (fun W (hW : Below w.heap.size w W) => rrow15_any (c := lc) (RowAt.go hRA hW) hW.size (by omega))
  obtain ⟨o1, ho1⟩ : ∃ b, opN o = b := ⟨_, rfl⟩
  obtain ⟨r1, hr1⟩ : ∃ b, reN r = b := ⟨_, rfl⟩
  obtain ⟨g1, hg1⟩ : ∃ b, grN g = b := ⟨_, rfl⟩
  obtain ⟨s1, hs1⟩ : ∃ b, stN s = b := ⟨_, rfl⟩
  obtain ⟨of, hof⟩ : ∃ b, opF o = b := ⟨_, rfl⟩
  obtain ⟨rf, hrf⟩ : ∃ b, reF r = b := ⟨_, rfl⟩
  obtain ⟨gf, hgf⟩ : ∃ b, gE g.1 g.2 = b := ⟨_, rfl⟩
  obtain ⟨sf, hsf⟩ : ∃ b, stE s = b := ⟨_, rfl⟩
  obtain ⟨en, hen⟩ : ∃ b, entsB l = b := ⟨_, rfl⟩
  have hgk : grK g = (gf == 0) := by
    rw [← hgf]
    show grpOk g.1 g.2 = _
    unfold gE
    cases grpOk g.1 g.2 <;> rfl
  have hsk : stateB s = (sf == 0) := by
    rw [← hsf]
    unfold stE
    cases stateB s <;> rfl
  have HV := hide (show msgB (k, f, t, e, v, nu, cm, no, nc, cl, se, o, r, g, s, l) = (kinB k && (endB f && (endB t && (numsB e v nu cm no cl se && ((o1 || (of == 0)) && ((r1 || (rf == 0)) && ((g1 || (gf == 0)) && ((s1 || (sf == 0)) && en)))))))) by rw [← ho1, ← hr1, ← hg1, ← hs1, ← hof, ← hrf, ← hgk, ← hsk, ← hen]; rfl)
  have Ho1 := hide ho1
  have Hr1 := hide hr1
  have Hg1 := hide hg1
  have Hs1 := hide hs1
  have Hof := hide hof
  have Hrf := hide hrf
  have Hgf := hide hgf
  have Hsf := hide hsf
  have Hen := hide hen
  clear h h9 HM ho hr hg hs hl hll hlc hlm hlr hlq hle hRA ho1 hr1 hg1 hs1 hof hrf hgf hsf hen hgk hsk
  obtain ⟨gg, hgg⟩ : ∃ g, w.heap.size = g := ⟨_, rfl⟩
  obtain ⟨w0, hw0⟩ : ∃ x, (w.alloc (.cells #[.int .u8 k, .int .i64 f, .int .i64 t, .int .i64 e, .int .i64 v, .int .i64 nu, .int .i64 cm, .int .i64 no, .int .u64 nc, .int .i64 cl, .int .i64 se, c11, c12, c13, c14, c15, c16, c17, c18, c19, c20, c21, c22, c23, c24, c25, c26, .slice lA ln lc] 58)).alloc (.cells #[.int .i64 e, .int .i64 v, .int .i64 nu, .int .i64 cm, .int .i64 no, .int .i64 cl, .int .i64 se] 3) = x := ⟨_, rfl⟩
  have hB0 : Blk w0 gg [.int .u8 k, .int .i64 f, .int .i64 t, .int .i64 e, .int .i64 v, .int .i64 nu, .int .i64 cm, .int .i64 no, .int .u64 nc, .int .i64 cl, .int .i64 se, c11, c12, c13, c14, c15, c16, c17, c18, c19, c20, c21, c22, c23, c24, c25, c26, .slice lA ln lc] 58 := by rw [← hw0, ← hgg]; exact (Blk.new w _ _).alloc _
  have hI0 : Blk w0 (gg + 1) [.int .i64 e, .int .i64 v, .int .i64 nu, .int .i64 cm, .int .i64 no, .int .i64 cl, .int .i64 se] 3 := by
    rw [← hw0, ← hgg]
    have := Blk.new (w.alloc (.cells #[.int .u8 k, .int .i64 f, .int .i64 t, .int .i64 e, .int .i64 v, .int .i64 nu, .int .i64 cm, .int .i64 no, .int .u64 nc, .int .i64 cl, .int .i64 se, c11, c12, c13, c14, c15, c16, c17, c18, c19, c20, c21, c22, c23, c24, c25, c26, .slice lA ln lc] 58)) [.int .i64 e, .int .i64 v, .int .i64 nu, .int .i64 cm, .int .i64 no, .int .i64 cl, .int .i64 se] 3
    rwa [World.size_alloc] at this
  have hb0 : Below w.heap.size w w0 := by rw [← hw0]; exact ((Below.refl _ _).alloc (Nat.le_refl _) _).alloc (by simp) _
  have Hw0 := hide hw0
  clear hw0
  have y0 := Blk.cell hB0 (j := 0) rfl; have y1 := Blk.cell hB0 (j := 1) rfl; have y2 := Blk.cell hB0 (j := 2) rfl; have y3 := Blk.cell hB0 (j := 3) rfl; have y4 := Blk.cell hB0 (j := 4) rfl; have y5 := Blk.cell hB0 (j := 5) rfl; have y6 := Blk.cell hB0 (j := 6) rfl; have y7 := Blk.cell hB0 (j := 7) rfl; have y8 := Blk.cell hB0 (j := 8) rfl; have y9 := Blk.cell hB0 (j := 9) rfl; have y10 := Blk.cell hB0 (j := 10) rfl
  have x0 := hI0.cell (j := 0) rfl; have x1 := hI0.cell (j := 1) rfl; have x2 := hI0.cell (j := 2) rfl; have x3 := hI0.cell (j := 3) rfl; have x4 := hI0.cell (j := 4) rfl; have x5 := hI0.cell (j := 5) rfl; have x6 := hI0.cell (j := 6) rfl
  go_enter Try.func52, Try.ntmps52
  go_wp2_with (first | (with_reducible refine stop_load 28 rfl ?_) | (with_reducible refine stop_load 49 rfl ?_) | (with_reducible refine stop_load 24 rfl ?_) | (with_reducible refine stop_load 55 rfl ?_) | (with_reducible refine stop_load 58 rfl ?_))
  rw [Hw0.out]
  go_loopw [25] (fun iv wr => ∃ j : Nat, j ≤ 7 ∧ iv = .int .i64 j ∧ w0 = wr ∧ Hid (1 ≤ j → numB e = true) ∧ Hid (2 ≤ j → numB v = true) ∧ Hid (3 ≤ j → numB nu = true) ∧ Hid (4 ≤ j → numB cm = true) ∧ Hid (5 ≤ j → numB no = true) ∧ Hid (6 ≤ j → numB cl = true) ∧ Hid (7 ≤ j → numB se = true)) (fun iv _ => 7 - (intOf iv).toNat)
  case atStart => exact ⟨0, by omega, rfl, rfl, hide (by omega), hide (by omega), hide (by omega), hide (by omega), hide (by omega), hide (by omega), hide (by omega)⟩
  case round =>
    obtain ⟨j, hj, rfl, rfl, u0, u1, u2, u3, u4, u5, u6⟩ := hrel
    rcases (show j = 0 ∨ j = 1 ∨ j = 2 ∨ j = 3 ∨ j = 4 ∨ j = 5 ∨ j = 6 ∨ j = 7 by omega) with rfl | rfl | rfl | rfl | rfl | rfl | rfl | rfl
    · rcases bool_two (decide (e < 0)) with d1 | d1
      · have Hn := hide (show numB e = false from decide_eq_false (by have := of_decide_eq_true d1; omega))
        have HN := hide (show numsB e v nu cm no cl se = false by unfold numsB; simp only [Hn.out, Bool.true_and, Bool.false_and, Bool.and_false])
        have HR := hide (mE_no (show msgB (k, f, t, e, v, nu, cm, no, nc, cl, se, o, r, g, s, l) = false by rw [HV.out]; simp only [HN.out, Bool.true_and, Bool.false_and, Bool.and_false, Bool.or_false, Bool.false_or, Bool.true_or]))
        go_wp2
        go_ret
        exact ⟨by rw [HR.out]; (first | done | rfl), hb0⟩
      rcases bool_two (decide (4611686018427387904 < e)) with d2 | d2
      · have Hn := hide (show numB e = false from decide_eq_false (by have := of_decide_eq_true d2; omega))
        have HN := hide (show numsB e v nu cm no cl se = false by unfold numsB; simp only [Hn.out, Bool.true_and, Bool.false_and, Bool.and_false])
        have HR := hide (mE_no (show msgB (k, f, t, e, v, nu, cm, no, nc, cl, se, o, r, g, s, l) = false by rw [HV.out]; simp only [HN.out, Bool.true_and, Bool.false_and, Bool.and_false, Bool.or_false, Bool.false_or, Bool.true_or]))
        go_wp2
        go_ret
        exact ⟨by rw [HR.out]; (first | done | rfl), hb0⟩
      have Hn := hide (show numB e = true from decide_eq_true (by have := of_decide_eq_false d1; have := of_decide_eq_false d2; omega))
      go_wp2
      go_roundw
      case rel => exact ⟨1, by omega, rfl, by first | trivial | rfl, hide (fun _ => Hn.out), hide (by omega), hide (by omega), hide (by omega), hide (by omega), hide (by omega), hide (by omega)⟩
      case measure => simp [intOf]
    · rcases bool_two (decide (v < 0)) with d1 | d1
      · have Hn := hide (show numB v = false from decide_eq_false (by have := of_decide_eq_true d1; omega))
        have HN := hide (show numsB e v nu cm no cl se = false by unfold numsB; simp only [u0.out (by omega), Hn.out, Bool.true_and, Bool.false_and, Bool.and_false])
        have HR := hide (mE_no (show msgB (k, f, t, e, v, nu, cm, no, nc, cl, se, o, r, g, s, l) = false by rw [HV.out]; simp only [HN.out, Bool.true_and, Bool.false_and, Bool.and_false, Bool.or_false, Bool.false_or, Bool.true_or]))
        go_wp2
        go_ret
        exact ⟨by rw [HR.out]; (first | done | rfl), hb0⟩
      rcases bool_two (decide (4611686018427387904 < v)) with d2 | d2
      · have Hn := hide (show numB v = false from decide_eq_false (by have := of_decide_eq_true d2; omega))
        have HN := hide (show numsB e v nu cm no cl se = false by unfold numsB; simp only [u0.out (by omega), Hn.out, Bool.true_and, Bool.false_and, Bool.and_false])
        have HR := hide (mE_no (show msgB (k, f, t, e, v, nu, cm, no, nc, cl, se, o, r, g, s, l) = false by rw [HV.out]; simp only [HN.out, Bool.true_and, Bool.false_and, Bool.and_false, Bool.or_false, Bool.false_or, Bool.true_or]))
        go_wp2
        go_ret
        exact ⟨by rw [HR.out]; (first | done | rfl), hb0⟩
      have Hn := hide (show numB v = true from decide_eq_true (by have := of_decide_eq_false d1; have := of_decide_eq_false d2; omega))
      go_wp2
      go_roundw
      case rel => exact ⟨2, by omega, rfl, by first | trivial | rfl, hide (fun _ => u0.out (by omega)), hide (fun _ => Hn.out), hide (by omega), hide (by omega), hide (by omega), hide (by omega), hide (by omega)⟩
      case measure => simp [intOf]
    · rcases bool_two (decide (nu < 0)) with d1 | d1
      · have Hn := hide (show numB nu = false from decide_eq_false (by have := of_decide_eq_true d1; omega))
        have HN := hide (show numsB e v nu cm no cl se = false by unfold numsB; simp only [u0.out (by omega), u1.out (by omega), Hn.out, Bool.true_and, Bool.false_and, Bool.and_false])
        have HR := hide (mE_no (show msgB (k, f, t, e, v, nu, cm, no, nc, cl, se, o, r, g, s, l) = false by rw [HV.out]; simp only [HN.out, Bool.true_and, Bool.false_and, Bool.and_false, Bool.or_false, Bool.false_or, Bool.true_or]))
        go_wp2
        go_ret
        exact ⟨by rw [HR.out]; (first | done | rfl), hb0⟩
      rcases bool_two (decide (4611686018427387904 < nu)) with d2 | d2
      · have Hn := hide (show numB nu = false from decide_eq_false (by have := of_decide_eq_true d2; omega))
        have HN := hide (show numsB e v nu cm no cl se = false by unfold numsB; simp only [u0.out (by omega), u1.out (by omega), Hn.out, Bool.true_and, Bool.false_and, Bool.and_false])
        have HR := hide (mE_no (show msgB (k, f, t, e, v, nu, cm, no, nc, cl, se, o, r, g, s, l) = false by rw [HV.out]; simp only [HN.out, Bool.true_and, Bool.false_and, Bool.and_false, Bool.or_false, Bool.false_or, Bool.true_or]))
        go_wp2
        go_ret
        exact ⟨by rw [HR.out]; (first | done | rfl), hb0⟩
      have Hn := hide (show numB nu = true from decide_eq_true (by have := of_decide_eq_false d1; have := of_decide_eq_false d2; omega))
      go_wp2
      go_roundw
      case rel => exact ⟨3, by omega, rfl, by first | trivial | rfl, hide (fun _ => u0.out (by omega)), hide (fun _ => u1.out (by omega)), hide (fun _ => Hn.out), hide (by omega), hide (by omega), hide (by omega), hide (by omega)⟩
      case measure => simp [intOf]
    · rcases bool_two (decide (cm < 0)) with d1 | d1
      · have Hn := hide (show numB cm = false from decide_eq_false (by have := of_decide_eq_true d1; omega))
        have HN := hide (show numsB e v nu cm no cl se = false by unfold numsB; simp only [u0.out (by omega), u1.out (by omega), u2.out (by omega), Hn.out, Bool.true_and, Bool.false_and, Bool.and_false])
        have HR := hide (mE_no (show msgB (k, f, t, e, v, nu, cm, no, nc, cl, se, o, r, g, s, l) = false by rw [HV.out]; simp only [HN.out, Bool.true_and, Bool.false_and, Bool.and_false, Bool.or_false, Bool.false_or, Bool.true_or]))
        go_wp2
        go_ret
        exact ⟨by rw [HR.out]; (first | done | rfl), hb0⟩
      rcases bool_two (decide (4611686018427387904 < cm)) with d2 | d2
      · have Hn := hide (show numB cm = false from decide_eq_false (by have := of_decide_eq_true d2; omega))
        have HN := hide (show numsB e v nu cm no cl se = false by unfold numsB; simp only [u0.out (by omega), u1.out (by omega), u2.out (by omega), Hn.out, Bool.true_and, Bool.false_and, Bool.and_false])
        have HR := hide (mE_no (show msgB (k, f, t, e, v, nu, cm, no, nc, cl, se, o, r, g, s, l) = false by rw [HV.out]; simp only [HN.out, Bool.true_and, Bool.false_and, Bool.and_false, Bool.or_false, Bool.false_or, Bool.true_or]))
        go_wp2
        go_ret
        exact ⟨by rw [HR.out]; (first | done | rfl), hb0⟩
      have Hn := hide (show numB cm = true from decide_eq_true (by have := of_decide_eq_false d1; have := of_decide_eq_false d2; omega))
      go_wp2
      go_roundw
      case rel => exact ⟨4, by omega, rfl, by first | trivial | rfl, hide (fun _ => u0.out (by omega)), hide (fun _ => u1.out (by omega)), hide (fun _ => u2.out (by omega)), hide (fun _ => Hn.out), hide (by omega), hide (by omega), hide (by omega)⟩
      case measure => simp [intOf]
    · rcases bool_two (decide (no < 0)) with d1 | d1
      · have Hn := hide (show numB no = false from decide_eq_false (by have := of_decide_eq_true d1; omega))
        have HN := hide (show numsB e v nu cm no cl se = false by unfold numsB; simp only [u0.out (by omega), u1.out (by omega), u2.out (by omega), u3.out (by omega), Hn.out, Bool.true_and, Bool.false_and, Bool.and_false])
        have HR := hide (mE_no (show msgB (k, f, t, e, v, nu, cm, no, nc, cl, se, o, r, g, s, l) = false by rw [HV.out]; simp only [HN.out, Bool.true_and, Bool.false_and, Bool.and_false, Bool.or_false, Bool.false_or, Bool.true_or]))
        go_wp2
        go_ret
        exact ⟨by rw [HR.out]; (first | done | rfl), hb0⟩
      rcases bool_two (decide (4611686018427387904 < no)) with d2 | d2
      · have Hn := hide (show numB no = false from decide_eq_false (by have := of_decide_eq_true d2; omega))
        have HN := hide (show numsB e v nu cm no cl se = false by unfold numsB; simp only [u0.out (by omega), u1.out (by omega), u2.out (by omega), u3.out (by omega), Hn.out, Bool.true_and, Bool.false_and, Bool.and_false])
        have HR := hide (mE_no (show msgB (k, f, t, e, v, nu, cm, no, nc, cl, se, o, r, g, s, l) = false by rw [HV.out]; simp only [HN.out, Bool.true_and, Bool.false_and, Bool.and_false, Bool.or_false, Bool.false_or, Bool.true_or]))
        go_wp2
        go_ret
        exact ⟨by rw [HR.out]; (first | done | rfl), hb0⟩
      have Hn := hide (show numB no = true from decide_eq_true (by have := of_decide_eq_false d1; have := of_decide_eq_false d2; omega))
      go_wp2
      go_roundw
      case rel => exact ⟨5, by omega, rfl, by first | trivial | rfl, hide (fun _ => u0.out (by omega)), hide (fun _ => u1.out (by omega)), hide (fun _ => u2.out (by omega)), hide (fun _ => u3.out (by omega)), hide (fun _ => Hn.out), hide (by omega), hide (by omega)⟩
      case measure => simp [intOf]
    · rcases bool_two (decide (cl < 0)) with d1 | d1
      · have Hn := hide (show numB cl = false from decide_eq_false (by have := of_decide_eq_true d1; omega))
        have HN := hide (show numsB e v nu cm no cl se = false by unfold numsB; simp only [u0.out (by omega), u1.out (by omega), u2.out (by omega), u3.out (by omega), u4.out (by omega), Hn.out, Bool.true_and, Bool.false_and, Bool.and_false])
        have HR := hide (mE_no (show msgB (k, f, t, e, v, nu, cm, no, nc, cl, se, o, r, g, s, l) = false by rw [HV.out]; simp only [HN.out, Bool.true_and, Bool.false_and, Bool.and_false, Bool.or_false, Bool.false_or, Bool.true_or]))
        go_wp2
        go_ret
        exact ⟨by rw [HR.out]; (first | done | rfl), hb0⟩
      rcases bool_two (decide (4611686018427387904 < cl)) with d2 | d2
      · have Hn := hide (show numB cl = false from decide_eq_false (by have := of_decide_eq_true d2; omega))
        have HN := hide (show numsB e v nu cm no cl se = false by unfold numsB; simp only [u0.out (by omega), u1.out (by omega), u2.out (by omega), u3.out (by omega), u4.out (by omega), Hn.out, Bool.true_and, Bool.false_and, Bool.and_false])
        have HR := hide (mE_no (show msgB (k, f, t, e, v, nu, cm, no, nc, cl, se, o, r, g, s, l) = false by rw [HV.out]; simp only [HN.out, Bool.true_and, Bool.false_and, Bool.and_false, Bool.or_false, Bool.false_or, Bool.true_or]))
        go_wp2
        go_ret
        exact ⟨by rw [HR.out]; (first | done | rfl), hb0⟩
      have Hn := hide (show numB cl = true from decide_eq_true (by have := of_decide_eq_false d1; have := of_decide_eq_false d2; omega))
      go_wp2
      go_roundw
      case rel => exact ⟨6, by omega, rfl, by first | trivial | rfl, hide (fun _ => u0.out (by omega)), hide (fun _ => u1.out (by omega)), hide (fun _ => u2.out (by omega)), hide (fun _ => u3.out (by omega)), hide (fun _ => u4.out (by omega)), hide (fun _ => Hn.out), hide (by omega)⟩
      case measure => simp [intOf]
    · rcases bool_two (decide (se < 0)) with d1 | d1
      · have Hn := hide (show numB se = false from decide_eq_false (by have := of_decide_eq_true d1; omega))
        have HN := hide (show numsB e v nu cm no cl se = false by unfold numsB; simp only [u0.out (by omega), u1.out (by omega), u2.out (by omega), u3.out (by omega), u4.out (by omega), u5.out (by omega), Hn.out, Bool.true_and, Bool.false_and, Bool.and_false])
        have HR := hide (mE_no (show msgB (k, f, t, e, v, nu, cm, no, nc, cl, se, o, r, g, s, l) = false by rw [HV.out]; simp only [HN.out, Bool.true_and, Bool.false_and, Bool.and_false, Bool.or_false, Bool.false_or, Bool.true_or]))
        go_wp2
        go_ret
        exact ⟨by rw [HR.out]; (first | done | rfl), hb0⟩
      rcases bool_two (decide (4611686018427387904 < se)) with d2 | d2
      · have Hn := hide (show numB se = false from decide_eq_false (by have := of_decide_eq_true d2; omega))
        have HN := hide (show numsB e v nu cm no cl se = false by unfold numsB; simp only [u0.out (by omega), u1.out (by omega), u2.out (by omega), u3.out (by omega), u4.out (by omega), u5.out (by omega), Hn.out, Bool.true_and, Bool.false_and, Bool.and_false])
        have HR := hide (mE_no (show msgB (k, f, t, e, v, nu, cm, no, nc, cl, se, o, r, g, s, l) = false by rw [HV.out]; simp only [HN.out, Bool.true_and, Bool.false_and, Bool.and_false, Bool.or_false, Bool.false_or, Bool.true_or]))
        go_wp2
        go_ret
        exact ⟨by rw [HR.out]; (first | done | rfl), hb0⟩
      have Hn := hide (show numB se = true from decide_eq_true (by have := of_decide_eq_false d1; have := of_decide_eq_false d2; omega))
      go_wp2
      go_roundw
      case rel => exact ⟨7, by omega, rfl, by first | trivial | rfl, hide (fun _ => u0.out (by omega)), hide (fun _ => u1.out (by omega)), hide (fun _ => u2.out (by omega)), hide (fun _ => u3.out (by omega)), hide (fun _ => u4.out (by omega)), hide (fun _ => u5.out (by omega)), hide (fun _ => Hn.out)⟩
      case measure => simp [intOf]
    · have HN := hide (show numsB e v nu cm no cl se = true by unfold numsB; simp only [u0.out (by omega), u1.out (by omega), u2.out (by omega), u3.out (by omega), u4.out (by omega), u5.out (by omega), u6.out (by omega), Bool.true_and])
      clear u0 u1 u2 u3 u4 u5 u6 x0 x1 x2 x3 x4 x5 x6
      have hk27 := hB0.cell (j := 27) rfl
      rcases Nat.eq_zero_or_pos k with hk0 | hk0
      · have HK := hide (show kinB k = false from decide_eq_false (by omega))
        have hk1 : decide ((k : Int) < 1) = true := decide_eq_true (by omega)
        clear hk0
        have HR := hide (mE_no (show msgB (k, f, t, e, v, nu, cm, no, nc, cl, se, o, r, g, s, l) = false by rw [HV.out]; simp only [HK.out, Bool.true_and, Bool.false_and, Bool.and_false, Bool.or_false, Bool.false_or, Bool.true_or]))
        go_wp2
        go_ret
        exact ⟨by rw [HR.out]; (first | done | rfl), hb0⟩
      have hk1 : decide ((k : Int) < 1) = false := decide_eq_false (by omega)
      rcases bool_two (decide ((14 : Int) < (k : Int))) with hk2 | hk2
      · have HK := hide (show kinB k = false from decide_eq_false (by have := of_decide_eq_true hk2; omega))
        have HR := hide (mE_no (show msgB (k, f, t, e, v, nu, cm, no, nc, cl, se, o, r, g, s, l) = false by rw [HV.out]; simp only [HK.out, Bool.true_and, Bool.false_and, Bool.and_false, Bool.or_false, Bool.false_or, Bool.true_or]))
        go_wp2
        go_ret
        exact ⟨by rw [HR.out]; (first | done | rfl), hb0⟩
      have HK := hide (show kinB k = true from decide_eq_true (by have := of_decide_eq_false hk2; omega))
      rcases bool_two (endB f) with q1 | q1
      rotate_left
      · have H1 := hide q1
        have HR := hide (mE_no (show msgB (k, f, t, e, v, nu, cm, no, nc, cl, se, o, r, g, s, l) = false by rw [HV.out]; simp only [HK.out, H1.out, Bool.true_and, Bool.false_and, Bool.and_false, Bool.or_false, Bool.false_or, Bool.true_or]))
        clear q1
        go_wp2_with (first | (with_reducible refine stop_load 28 rfl ?_) | (with_reducible refine stop_load 49 rfl ?_) | (with_reducible refine stop_load 24 rfl ?_) | (with_reducible refine stop_load 55 rfl ?_) | (with_reducible refine stop_load 58 rfl ?_))
        go_fit (who_any f w0)
        rw [H1.out]
        rintro xx wz ⟨rfl, rfl⟩
        go_wp2
        go_ret
        exact ⟨by rw [HR.out]; (first | done | rfl), hb0⟩
      have H1 := hide q1
      clear q1
      rcases bool_two (endB t) with q1 | q1
      rotate_left
      · have H2 := hide q1
        have HR := hide (mE_no (show msgB (k, f, t, e, v, nu, cm, no, nc, cl, se, o, r, g, s, l) = false by rw [HV.out]; simp only [HK.out, H1.out, H2.out, Bool.true_and, Bool.false_and, Bool.and_false, Bool.or_false, Bool.false_or, Bool.true_or]))
        clear q1
        go_wp2_with (first | (with_reducible refine stop_load 28 rfl ?_) | (with_reducible refine stop_load 49 rfl ?_) | (with_reducible refine stop_load 24 rfl ?_) | (with_reducible refine stop_load 55 rfl ?_) | (with_reducible refine stop_load 58 rfl ?_))
        go_fit (who_any f w0)
        rw [H1.out]
        rintro xx wz ⟨rfl, rfl⟩
        go_wp2_with (first | (with_reducible refine stop_load 28 rfl ?_) | (with_reducible refine stop_load 49 rfl ?_) | (with_reducible refine stop_load 24 rfl ?_) | (with_reducible refine stop_load 55 rfl ?_) | (with_reducible refine stop_load 58 rfl ?_))
        go_fit (who_any t w0)
        rw [H2.out]
        rintro xx wz ⟨rfl, rfl⟩
        go_wp2
        go_ret
        exact ⟨by rw [HR.out]; (first | done | rfl), hb0⟩
      have H2 := hide q1
      clear q1
      rcases bool_two en with q1 | q1
      rotate_left
      · have H3 := hide q1
        have HR := hide (mE_no (show msgB (k, f, t, e, v, nu, cm, no, nc, cl, se, o, r, g, s, l) = false by rw [HV.out]; simp only [HK.out, H1.out, H2.out, H3.out, Bool.true_and, Bool.false_and, Bool.and_false, Bool.or_false, Bool.false_or, Bool.true_or]))
        clear q1
        go_wp2_with (first | (with_reducible refine stop_load 28 rfl ?_) | (with_reducible refine stop_load 49 rfl ?_) | (with_reducible refine stop_load 24 rfl ?_) | (with_reducible refine stop_load 55 rfl ?_) | (with_reducible refine stop_load 58 rfl ?_))
        go_fit (who_any f w0)
        rw [H1.out]
        rintro xx wz ⟨rfl, rfl⟩
        go_wp2_with (first | (with_reducible refine stop_load 28 rfl ?_) | (with_reducible refine stop_load 49 rfl ?_) | (with_reducible refine stop_load 24 rfl ?_) | (with_reducible refine stop_load 55 rfl ?_) | (with_reducible refine stop_load 58 rfl ?_))
        go_fit (who_any t w0)
        rw [H2.out]
        rintro xx wz ⟨rfl, rfl⟩
        go_wp2_with (first | (with_reducible refine stop_load 28 rfl ?_) | (with_reducible refine stop_load 49 rfl ?_) | (with_reducible refine stop_load 24 rfl ?_) | (with_reducible refine stop_load 55 rfl ?_) | (with_reducible refine stop_load 58 rfl ?_))
        go_fit (HE.out w0 hb0)
        rw [Hen.out, H3.out]
        rintro xx w1 ⟨rfl, hd1⟩
        go_wp2
        go_ret
        exact ⟨by rw [HR.out]; (first | done | rfl), hb0.trans (hd1.mono hb0.size)⟩
      have H3 := hide q1
      clear q1
      go_wp2_with (first | (with_reducible refine stop_load 28 rfl ?_) | (with_reducible refine stop_load 49 rfl ?_) | (with_reducible refine stop_load 24 rfl ?_) | (with_reducible refine stop_load 55 rfl ?_) | (with_reducible refine stop_load 58 rfl ?_))
      go_fit (who_any f w0)
      rw [H1.out]
      rintro xx wz ⟨rfl, rfl⟩
      go_wp2_with (first | (with_reducible refine stop_load 28 rfl ?_) | (with_reducible refine stop_load 49 rfl ?_) | (with_reducible refine stop_load 24 rfl ?_) | (with_reducible refine stop_load 55 rfl ?_) | (with_reducible refine stop_load 58 rfl ?_))
      go_fit (who_any t w0)
      rw [H2.out]
      rintro xx wz ⟨rfl, rfl⟩
      go_wp2_with (first | (with_reducible refine stop_load 28 rfl ?_) | (with_reducible refine stop_load 49 rfl ?_) | (with_reducible refine stop_load 24 rfl ?_) | (with_reducible refine stop_load 55 rfl ?_) | (with_reducible refine stop_load 58 rfl ?_))
      go_fit (HE.out w0 hb0)
      rw [Hen.out, H3.out]
      rintro xx w1 ⟨rfl, hd1⟩
      have hb1 := hb0.trans (hd1.mono hb0.size)
      have hB1 := hB0.below hd1
      clear y0 y1 y2 y3 y4 y5 y6 y7 y8 y9 y10 hk27 hk1 hk2
      go_upto_region 9 with fail
      go_cut [5] from 62 to 71 (fun s5 wx => s5 = .bool (o1 || (of == 0)) ∧ Below w1.heap.size w1 wx)
      case first =>
        go_wp2_with (first | (with_reducible refine stop_load 28 rfl ?_) | (with_reducible refine stop_load 49 rfl ?_) | (with_reducible refine stop_load 24 rfl ?_) | (with_reducible refine stop_load 55 rfl ?_) | (with_reducible refine stop_load 58 rfl ?_))
        refine go_loadG rfl rfl (k := 11) rfl hB1 [c11, c12, c13, c14, c15] rfl Try.underlying28 rfl (by kernel_rfl) ?_
        go_wp2_with (first | (with_reducible refine stop_load 28 rfl ?_) | (with_reducible refine stop_load 49 rfl ?_) | (with_reducible refine stop_load 24 rfl ?_) | (with_reducible refine stop_load 55 rfl ?_) | (with_reducible refine stop_load 58 rfl ?_))
        go_fit (HNo.out w1 hb1)
        rw [Ho1.out]
        rintro xx wa ⟨rfl, hda⟩
        have hBa := hB1.below hda
        have hba := hb1.trans (hda.mono hb1.size)
        cases o1 with
        | true =>
          go_wp2_with (first | (with_reducible refine stop_load 28 rfl ?_) | (with_reducible refine stop_load 49 rfl ?_) | (with_reducible refine stop_load 24 rfl ?_) | (with_reducible refine stop_load 55 rfl ?_) | (with_reducible refine stop_load 58 rfl ?_))
          repeat (refine go_skipG rfl ?_; go_wp2_with (first | (with_reducible refine stop_load 28 rfl ?_) | (with_reducible refine stop_load 49 rfl ?_) | (with_reducible refine stop_load 24 rfl ?_) | (with_reducible refine stop_load 55 rfl ?_) | (with_reducible refine stop_load 58 rfl ?_)))
          go_meet
          exact ⟨by simp, hda⟩
        | false =>
          go_wp2_with (first | (with_reducible refine stop_load 28 rfl ?_) | (with_reducible refine stop_load 49 rfl ?_) | (with_reducible refine stop_load 24 rfl ?_) | (with_reducible refine stop_load 55 rfl ?_) | (with_reducible refine stop_load 58 rfl ?_))
          refine go_loadG rfl rfl (k := 11) rfl hBa [c11, c12, c13, c14, c15] rfl Try.underlying28 rfl (by kernel_rfl) ?_
          go_wp2_with (first | (with_reducible refine stop_load 28 rfl ?_) | (with_reducible refine stop_load 49 rfl ?_) | (with_reducible refine stop_load 24 rfl ?_) | (with_reducible refine stop_load 55 rfl ?_) | (with_reducible refine stop_load 58 rfl ?_))
          go_fit (HO.out wa hba)
          rw [Hof.out]
          rintro xx wb ⟨rfl, hdb⟩
          go_wp2_with (first | (with_reducible refine stop_load 28 rfl ?_) | (with_reducible refine stop_load 49 rfl ?_) | (with_reducible refine stop_load 24 rfl ?_) | (with_reducible refine stop_load 55 rfl ?_) | (with_reducible refine stop_load 58 rfl ?_))
          go_meet
          exact ⟨by simp, hda.trans (hdb.mono hda.size)⟩
      case rest =>
      obtain ⟨rfl, hd2⟩ := hcut
      obtain ⟨w2, hwc⟩ : ∃ y : World, y = wc := ⟨_, rfl⟩
      subst hwc
      have hb2 := hb1.trans (hd2.mono hb1.size)
      have hB2 := hB1.below hd2
      go_upto_region 10 with fail
      go_cut [6] from 72 to 80 (fun s5 wx => s5 = .bool (r1 || (rf == 0)) ∧ Below w2.heap.size w2 wx)
      case first =>
        go_wp2_with (first | (with_reducible refine stop_load 28 rfl ?_) | (with_reducible refine stop_load 49 rfl ?_) | (with_reducible refine stop_load 24 rfl ?_) | (with_reducible refine stop_load 55 rfl ?_) | (with_reducible refine stop_load 58 rfl ?_))
        refine go_loadG rfl rfl (k := 16) rfl hB2 [c16, c17] rfl Try.underlying49 rfl (by kernel_rfl) ?_
        go_wp2_with (first | (with_reducible refine stop_load 28 rfl ?_) | (with_reducible refine stop_load 49 rfl ?_) | (with_reducible refine stop_load 24 rfl ?_) | (with_reducible refine stop_load 55 rfl ?_) | (with_reducible refine stop_load 58 rfl ?_))
        go_fit (HNr.out w2 hb2)
        rw [Hr1.out]
        rintro xx wa ⟨rfl, hda⟩
        have hBa := hB2.below hda
        have hba := hb2.trans (hda.mono hb2.size)
        cases r1 with
        | true =>
          go_wp2_with (first | (with_reducible refine stop_load 28 rfl ?_) | (with_reducible refine stop_load 49 rfl ?_) | (with_reducible refine stop_load 24 rfl ?_) | (with_reducible refine stop_load 55 rfl ?_) | (with_reducible refine stop_load 58 rfl ?_))
          repeat (refine go_skipG rfl ?_; go_wp2_with (first | (with_reducible refine stop_load 28 rfl ?_) | (with_reducible refine stop_load 49 rfl ?_) | (with_reducible refine stop_load 24 rfl ?_) | (with_reducible refine stop_load 55 rfl ?_) | (with_reducible refine stop_load 58 rfl ?_)))
          go_meet
          exact ⟨by simp, hda⟩
        | false =>
          go_wp2_with (first | (with_reducible refine stop_load 28 rfl ?_) | (with_reducible refine stop_load 49 rfl ?_) | (with_reducible refine stop_load 24 rfl ?_) | (with_reducible refine stop_load 55 rfl ?_) | (with_reducible refine stop_load 58 rfl ?_))
          refine go_loadG rfl rfl (k := 16) rfl hBa [c16, c17] rfl Try.underlying49 rfl (by kernel_rfl) ?_
          go_wp2_with (first | (with_reducible refine stop_load 28 rfl ?_) | (with_reducible refine stop_load 49 rfl ?_) | (with_reducible refine stop_load 24 rfl ?_) | (with_reducible refine stop_load 55 rfl ?_) | (with_reducible refine stop_load 58 rfl ?_))
          go_fit (HRe.out wa hba)
          rw [Hrf.out]
          rintro xx wb ⟨rfl, hdb⟩
          go_wp2_with (first | (with_reducible refine stop_load 28 rfl ?_) | (with_reducible refine stop_load 49 rfl ?_) | (with_reducible refine stop_load 24 rfl ?_) | (with_reducible refine stop_load 55 rfl ?_) | (with_reducible refine stop_load 58 rfl ?_))
          go_meet
          exact ⟨by simp, hda.trans (hdb.mono hda.size)⟩
      case rest =>
      obtain ⟨rfl, hd3⟩ := hcut
      obtain ⟨w3, hwc⟩ : ∃ y : World, y = wc := ⟨_, rfl⟩
      subst hwc
      have hb3 := hb2.trans (hd3.mono hb2.size)
      have hB3 := hB2.below hd3
      go_upto_region 11 with fail
      go_cut [7] from 81 to 89 (fun s5 wx => s5 = .bool (g1 || (gf == 0)) ∧ Below w3.heap.size w3 wx)
      case first =>
        go_wp2_with (first | (with_reducible refine stop_load 28 rfl ?_) | (with_reducible refine stop_load 49 rfl ?_) | (with_reducible refine stop_load 24 rfl ?_) | (with_reducible refine stop_load 55 rfl ?_) | (with_reducible refine stop_load 58 rfl ?_))
        refine go_loadG rfl rfl (k := 18) rfl hB3 [c18, c19] rfl Try.underlying24 rfl (by kernel_rfl) ?_
        go_wp2_with (first | (with_reducible refine stop_load 28 rfl ?_) | (with_reducible refine stop_load 49 rfl ?_) | (with_reducible refine stop_load 24 rfl ?_) | (with_reducible refine stop_load 55 rfl ?_) | (with_reducible refine stop_load 58 rfl ?_))
        go_fit (HNg.out w3 hb3)
        rw [Hg1.out]
        rintro xx wa ⟨rfl, hda⟩
        have hBa := hB3.below hda
        have hba := hb3.trans (hda.mono hb3.size)
        cases g1 with
        | true =>
          go_wp2_with (first | (with_reducible refine stop_load 28 rfl ?_) | (with_reducible refine stop_load 49 rfl ?_) | (with_reducible refine stop_load 24 rfl ?_) | (with_reducible refine stop_load 55 rfl ?_) | (with_reducible refine stop_load 58 rfl ?_))
          repeat (refine go_skipG rfl ?_; go_wp2_with (first | (with_reducible refine stop_load 28 rfl ?_) | (with_reducible refine stop_load 49 rfl ?_) | (with_reducible refine stop_load 24 rfl ?_) | (with_reducible refine stop_load 55 rfl ?_) | (with_reducible refine stop_load 58 rfl ?_)))
          go_meet
          exact ⟨by simp, hda⟩
        | false =>
          go_wp2_with (first | (with_reducible refine stop_load 28 rfl ?_) | (with_reducible refine stop_load 49 rfl ?_) | (with_reducible refine stop_load 24 rfl ?_) | (with_reducible refine stop_load 55 rfl ?_) | (with_reducible refine stop_load 58 rfl ?_))
          refine go_loadG rfl rfl (k := 18) rfl hBa [c18, c19] rfl Try.underlying24 rfl (by kernel_rfl) ?_
          go_wp2_with (first | (with_reducible refine stop_load 28 rfl ?_) | (with_reducible refine stop_load 49 rfl ?_) | (with_reducible refine stop_load 24 rfl ?_) | (with_reducible refine stop_load 55 rfl ?_) | (with_reducible refine stop_load 58 rfl ?_))
          go_fit (HG.out wa hba)
          rw [Hgf.out]
          rintro xx wb ⟨rfl, hdb⟩
          go_wp2_with (first | (with_reducible refine stop_load 28 rfl ?_) | (with_reducible refine stop_load 49 rfl ?_) | (with_reducible refine stop_load 24 rfl ?_) | (with_reducible refine stop_load 55 rfl ?_) | (with_reducible refine stop_load 58 rfl ?_))
          go_meet
          exact ⟨by simp, hda.trans (hdb.mono hda.size)⟩
      case rest =>
      obtain ⟨rfl, hd4⟩ := hcut
      obtain ⟨w4, hwc⟩ : ∃ y : World, y = wc := ⟨_, rfl⟩
      subst hwc
      have hb4 := hb3.trans (hd4.mono hb3.size)
      have hB4 := hB3.below hd4
      go_upto_region 12 with fail
      go_cut [8] from 90 to 98 (fun s5 wx => s5 = .bool (s1 || (sf == 0)) ∧ Below w4.heap.size w4 wx)
      case first =>
        go_wp2_with (first | (with_reducible refine stop_load 28 rfl ?_) | (with_reducible refine stop_load 49 rfl ?_) | (with_reducible refine stop_load 24 rfl ?_) | (with_reducible refine stop_load 55 rfl ?_) | (with_reducible refine stop_load 58 rfl ?_))
        refine go_loadG rfl rfl (k := 20) rfl hB4 [c20, c21, c22, c23, c24, c25, c26] rfl Try.underlying55 rfl (by kernel_rfl) ?_
        go_wp2_with (first | (with_reducible refine stop_load 28 rfl ?_) | (with_reducible refine stop_load 49 rfl ?_) | (with_reducible refine stop_load 24 rfl ?_) | (with_reducible refine stop_load 55 rfl ?_) | (with_reducible refine stop_load 58 rfl ?_))
        go_fit (HNs.out w4 hb4)
        rw [Hs1.out]
        rintro xx wa ⟨rfl, hda⟩
        have hBa := hB4.below hda
        have hba := hb4.trans (hda.mono hb4.size)
        cases s1 with
        | true =>
          go_wp2_with (first | (with_reducible refine stop_load 28 rfl ?_) | (with_reducible refine stop_load 49 rfl ?_) | (with_reducible refine stop_load 24 rfl ?_) | (with_reducible refine stop_load 55 rfl ?_) | (with_reducible refine stop_load 58 rfl ?_))
          repeat (refine go_skipG rfl ?_; go_wp2_with (first | (with_reducible refine stop_load 28 rfl ?_) | (with_reducible refine stop_load 49 rfl ?_) | (with_reducible refine stop_load 24 rfl ?_) | (with_reducible refine stop_load 55 rfl ?_) | (with_reducible refine stop_load 58 rfl ?_)))
          go_meet
          exact ⟨by simp, hda⟩
        | false =>
          go_wp2_with (first | (with_reducible refine stop_load 28 rfl ?_) | (with_reducible refine stop_load 49 rfl ?_) | (with_reducible refine stop_load 24 rfl ?_) | (with_reducible refine stop_load 55 rfl ?_) | (with_reducible refine stop_load 58 rfl ?_))
          refine go_loadG rfl rfl (k := 20) rfl hBa [c20, c21, c22, c23, c24, c25, c26] rfl Try.underlying55 rfl (by kernel_rfl) ?_
          go_wp2_with (first | (with_reducible refine stop_load 28 rfl ?_) | (with_reducible refine stop_load 49 rfl ?_) | (with_reducible refine stop_load 24 rfl ?_) | (with_reducible refine stop_load 55 rfl ?_) | (with_reducible refine stop_load 58 rfl ?_))
          go_fit (HS.out wa hba)
          rw [Hsf.out]
          rintro xx wb ⟨rfl, hdb⟩
          go_wp2_with (first | (with_reducible refine stop_load 28 rfl ?_) | (with_reducible refine stop_load 49 rfl ?_) | (with_reducible refine stop_load 24 rfl ?_) | (with_reducible refine stop_load 55 rfl ?_) | (with_reducible refine stop_load 58 rfl ?_))
          go_meet
          exact ⟨by simp, hda.trans (hdb.mono hda.size)⟩
      case rest =>
      obtain ⟨rfl, hd5⟩ := hcut
      obtain ⟨w5, hwc⟩ : ∃ y : World, y = wc := ⟨_, rfl⟩
      subst hwc
      have hb5 := hb4.trans (hd5.mono hb4.size)
      have hB5 := hB4.below hd5
      obtain ⟨t1, ht1⟩ : ∃ z, (o1 || (of == 0)) = z := ⟨_, rfl⟩
      obtain ⟨t2, ht2⟩ : ∃ z, (r1 || (rf == 0)) = z := ⟨_, rfl⟩
      obtain ⟨t3, ht3⟩ : ∃ z, (g1 || (gf == 0)) = z := ⟨_, rfl⟩
      obtain ⟨t4, ht4⟩ : ∃ z, (s1 || (sf == 0)) = z := ⟨_, rfl⟩
      rw [ht1, ht2, ht3, ht4]
      have HV2 := hide (show msgB (k, f, t, e, v, nu, cm, no, nc, cl, se, o, r, g, s, l) = (t1 && (t2 && (t3 && t4))) by rw [HV.out, HK.out, H1.out, H2.out, HN.out, H3.out, ht1, ht2, ht3, ht4]; simp only [Bool.true_and, Bool.and_true])
      clear ht1 ht2 ht3 ht4
      cases t1 with
      | false =>
        have HR := hide (mE_no (show msgB (k, f, t, e, v, nu, cm, no, nc, cl, se, o, r, g, s, l) = false by rw [HV2.out]; (first | rfl | (cases t2 <;> rfl) | (cases t2 <;> cases t3 <;> rfl) | (cases t2 <;> cases t3 <;> cases t4 <;> rfl) | (cases t3 <;> cases t4 <;> rfl) | (cases t4 <;> rfl))))
        go_wp2
        go_ret
        exact ⟨by rw [HR.out]; (first | done | rfl), hb5⟩
      | true =>
        cases t2 with
        | false =>
          have HR := hide (mE_no (show msgB (k, f, t, e, v, nu, cm, no, nc, cl, se, o, r, g, s, l) = false by rw [HV2.out]; (first | rfl | (cases t2 <;> rfl) | (cases t2 <;> cases t3 <;> rfl) | (cases t2 <;> cases t3 <;> cases t4 <;> rfl) | (cases t3 <;> cases t4 <;> rfl) | (cases t4 <;> rfl))))
          go_wp2
          go_ret
          exact ⟨by rw [HR.out]; (first | done | rfl), hb5⟩
        | true =>
          cases t3 with
          | false =>
            have HR := hide (mE_no (show msgB (k, f, t, e, v, nu, cm, no, nc, cl, se, o, r, g, s, l) = false by rw [HV2.out]; (first | rfl | (cases t2 <;> rfl) | (cases t2 <;> cases t3 <;> rfl) | (cases t2 <;> cases t3 <;> cases t4 <;> rfl) | (cases t3 <;> cases t4 <;> rfl) | (cases t4 <;> rfl))))
            go_wp2
            go_ret
            exact ⟨by rw [HR.out]; (first | done | rfl), hb5⟩
          | true =>
            cases t4 with
            | false =>
              have HR := hide (mE_no (show msgB (k, f, t, e, v, nu, cm, no, nc, cl, se, o, r, g, s, l) = false by rw [HV2.out]; (first | rfl | (cases t2 <;> rfl) | (cases t2 <;> cases t3 <;> rfl) | (cases t2 <;> cases t3 <;> cases t4 <;> rfl) | (cases t3 <;> cases t4 <;> rfl) | (cases t4 <;> rfl))))
              go_wp2
              go_ret
              exact ⟨by rw [HR.out]; (first | done | rfl), hb5⟩
            | true =>
              have HR := hide (mE_ok (show msgB (k, f, t, e, v, nu, cm, no, nc, cl, se, o, r, g, s, l) = true by rw [HV2.out]; (first | rfl | (cases t2 <;> rfl) | (cases t2 <;> cases t3 <;> rfl) | (cases t2 <;> cases t3 <;> cases t4 <;> rfl) | (cases t3 <;> cases t4 <;> rfl) | (cases t4 <;> rfl))))
              go_wp2
              go_ret
              exact ⟨by rw [HR.out]; (first | done | rfl), hb5⟩
end Go.Proofs.Ytlcbelmbonaooaa
