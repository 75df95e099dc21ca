/- The law TableFull, walked. -/
import Derived.Test.YtplodjccjobjbaaF06d
namespace Go.Proofs.Ytplodjccjobjbaa
open Go.RowKit Go.Px Go.Maps
set_option linter.unusedVariables false
/-- What a table knows behind the first k stores of the law. -/
def tfM (k : Nat) : TM := fun x => if x % 2 = 0 ∧ 2 ≤ x ∧ x ≤ 2 * k then some (3, 1, []) else none
theorem tfM_step (k : Nat) : tmPut (tfM k) (2 * ((k : Int) + 1)) 3 1 [] = tfM (k + 1) := by
  funext x
  unfold tmPut tfM
  by_cases hx : x = 2 * ((k : Int) + 1)
  · rw [if_pos hx, if_pos (by omega)]
  · rw [if_neg hx]
    by_cases h : x % 2 = 0 ∧ 2 ≤ x ∧ x ≤ 2 * (k : Int)
    · rw [if_pos h, if_pos (by omega)]
    · rw [if_neg h, if_neg (by omega)]
theorem tfM_new (k : Nat) : tfM k (2 * ((k : Int) + 1)) = none := by unfold tfM; rw [if_neg (by omega)]
theorem serB_mk {n : Int} (h1 : 1 ≤ n) (h2 : n ≤ 4611686018427387904) : serB n = true := decide_eq_true ⟨h1, h2⟩
theorem serB_no {n : Int} (h : n < 1 ∨ 4611686018427387904 < n) : serB n = false := decide_eq_false (by omega)
set_option maxRecDepth 20000 in
set_option maxHeartbeats 6400000 in
theorem tableFull_walk (c s : Int) (w : World) : Calls Try.prog 6 #[.int .i64 c, .int .i64 s] w fun x w' => x = .returned (.bool true) ∧ Below w.heap.size w w' := by
  have HAw := hide awake06_any
  go_enter Try.func6, Try.ntmps6
  go_wp2_with fail
  go_fit (HAw.out w)
  rintro x w1 ⟨rfl, hb1⟩
  go_wp2_with fail
  go_fit (new06_any w1)
  rintro x w2 ⟨t, bm, rfl, hT2, hb2⟩
  obtain ⟨B, hB⟩ : ∃ x, w1.heap.size = x := ⟨_, rfl⟩
  rw [hB] at hT2 hb2
  have hB2 : B ≤ w2.heap.size := by have := hb2.size; omega
  have hwB : w.heap.size ≤ B := by have := hb1.size; omega
  clear hB
  go_wp2
  go_loopw [6] (fun iv wr => ∃ (k : Nat) (D : DataW Value), k ≤ 64 ∧ iv = .int .i64 ((k : Int) + 1) ∧ TabIs wr B t bm k D (tfM k) ∧ Maps.size D = k ∧ Below B w1 wr ∧ B ≤ wr.heap.size) (fun iv _ => (65 - intOf iv).toNat)
  case atStart => exact ⟨0, .map [], by omega, rfl, by rw [show tfM 0 = (fun _ => none) from by funext x; unfold tfM; rw [if_neg (by omega)]]; exact hT2, rfl, hb2, hB2⟩
  case round =>
    obtain ⟨k, D, hk, rfl, hT, hsz, hbw, hBr⟩ := hrel
    clear hT2 hb2
    by_cases hlt : k < 64
    · have hkI : (k : Int) + 1 ≤ 64 := by omega
      have C := hide (put_ok hT (2 * ((k : Int) + 1)) 3 0 [] (fun W hW => ask_new0 hW (2 * ((k : Int) + 1)) 3 (serB_mk (by omega) (by omega)) rfl (tfM_new k) (by omega)) 1 none 0 0 [] (by decide) rfl (Nat.le_refl _) (by decide) Rd.nil rfl (by decide) (by omega) (by omega) (by omega))
      rw [tfM_step] at C
      go_wp2_with fail
      go_fit C.out
      rintro x w3 ⟨rfl, ⟨D3, hT3, hsz3⟩, sz3, hbb3⟩
      rw [szNew_none (tfM_new k), hsz] at hsz3
      have hb3 := hbb3 w1 hbw hBr
      clear hbb3 C
      go_wp2
      go_roundw
      case rel => exact ⟨k + 1, D3, by omega, by go_num, hT3, hsz3, hb3, by omega⟩
      case measure => simp [intOf]; omega
    · obtain rfl : k = 64 := by omega
      have hAll : ∀ X, Below B w1 X → Below w.heap.size w X := fun X hX => hb1.trans (hX.mono (by omega))
      have HAll := hide hAll
      clear hAll
      by_cases hcs : serB c = true ∧ serB s = true
      · obtain ⟨hc, hs⟩ := hcs
        obtain ⟨c1, c2⟩ := serB_out hc
        obtain ⟨s1, s2⟩ := serB_out hs
        by_cases hin : c % 2 = 0 ∧ c ≤ 128
        · have hm : tfM 64 c = some (3, 1, []) := by unfold tfM; rw [if_pos (by omega)]
          by_cases h3 : 3 < s
          · have C1 := hide (ask_new1 hT c s 3 1 [] hc hs hm h3)
            go_wp2_with fail
            go_fit C1.out
            rintro x w4 ⟨A4, c4, rfl, hl4, hm4, hd4, hr4, ha4, hT4, hb4⟩
            have sz4 := hb4.size
            have hb04 := hbw.trans (hb4.mono hBr)
            obtain ⟨w5, hw5⟩ : ∃ x, w4.alloc (.cells #[.int .u8 0, .slice A4 0 c4] 33) = x := ⟨_, rfl⟩
            have hb45 : Below w4.heap.size w4 w5 := by rw [← hw5]; exact (Below.refl _ _).alloc (Nat.le_refl _) _
            have hT5 := hT4.below hb45
            have sz5 := hb45.size
            have hb05 := hb04.trans (hb45.mono (by omega))
            have Hw5 := hide hw5
            clear hw5
            have C2 := hide (put_ok hT5 c s 0 [] (fun W hW => ask_new1 hW c s 3 1 [] hc hs hm h3) 2 none 0 0 [] (by decide) rfl (Nat.le_refl _) (by decide) Rd.nil rfl (by decide) (by omega) (by omega) (by omega))
            have e1 : decide (c < 1) = false := decide_eq_false (by omega)
            have e2 : decide (s < 1) = false := decide_eq_false (by omega)
            have e3 : decide ((4611686018427387904 : Int) < c) = false := decide_eq_false (by omega)
            have e4 : decide ((4611686018427387904 : Int) < s) = false := decide_eq_false (by omega)
            have e5 : (c % 2 == 1) = false := by simp; omega
            have e6 : decide ((128 : Int) < c) = false := decide_eq_false (by omega)
            clear hc hs hin
            go_wp2_with fail
            rw [Hw5.out]
            go_fit C2.out
            rintro x w6 ⟨rfl, ⟨D6, hT6, hsz6⟩, sz6, hbb6⟩
            rw [szNew_some hm, hsz] at hsz6
            have hb06 := hbb6 w1 hb05 (by omega)
            clear hbb6
            go_wp2_with fail
            go_fit (len06_any hT6)
            rw [hsz6]
            rintro x w8 ⟨rfl, rfl⟩
            go_wp2
            go_ret
            exact ⟨by first | rfl | (simp; done), HAll.out _ hb06⟩
          · by_cases h4 : s = 3
            · subst h4
              have C1 := hide (ask_again hT c 3 1 [] hc hs hm)
              go_wp2_with fail
              go_fit C1.out
              rintro x w4 ⟨A4, c4, rfl, hl4, hm4, hd4, hr4, ha4, hT4, hb4⟩
              have sz4 := hb4.size
              have hb04 := hbw.trans (hb4.mono hBr)
              obtain ⟨w5, hw5⟩ : ∃ x, w4.alloc (.cells #[.int .u8 1, .slice A4 0 c4] 33) = x := ⟨_, rfl⟩
              have hb45 : Below w4.heap.size w4 w5 := by rw [← hw5]; exact (Below.refl _ _).alloc (Nat.le_refl _) _
              have hT5 := hT4.below hb45
              have sz5 := hb45.size
              have hb05 := hb04.trans (hb45.mono (by omega))
              have Hw5 := hide hw5
              clear hw5
              have C2 := hide (put_arg hT5 c 3 2 1 [] (fun W hW => ask_again hW c 3 1 [] hc hs hm) 2 none 0 0 [] (by decide) rfl (Nat.le_refl _) (by decide) Rd.nil rfl (by decide) (by decide))
              have e1 : decide (c < 1) = false := decide_eq_false (by omega)
              have e2 : decide ((3 : Int) < 1) = false := decide_eq_false (by omega)
              have e3 : decide ((4611686018427387904 : Int) < c) = false := decide_eq_false (by omega)
              have e4 : decide ((4611686018427387904 : Int) < (3 : Int)) = false := decide_eq_false (by omega)
              have e5 : (c % 2 == 1) = false := by simp; omega
              have e6 : decide ((128 : Int) < c) = false := decide_eq_false (by omega)
              clear hc hs hin
              go_wp2_with fail
              rw [Hw5.out]
              go_fit C2.out
              rintro x w6 ⟨rfl, hb6⟩
              have hb06 := hb05.trans (hb6.mono (by omega))
              have hT6 := hT5.below hb6
              go_wp2_with fail
              go_fit (len06_any hT6)
              rw [hsz]
              rintro x w8 ⟨rfl, rfl⟩
              go_wp2
              go_ret
              exact ⟨by first | rfl | (simp; done), HAll.out _ hb06⟩
            · have C1 := hide (ask_old hT c s 3 1 [] hc hs hm (by omega))
              go_wp2_with fail
              go_fit C1.out
              rintro x w4 ⟨A4, c4, rfl, hl4, hm4, hd4, hr4, ha4, hT4, hb4⟩
              have sz4 := hb4.size
              have hb04 := hbw.trans (hb4.mono hBr)
              obtain ⟨w5, hw5⟩ : ∃ x, w4.alloc (.cells #[.int .u8 0, .slice A4 0 c4] 33) = x := ⟨_, rfl⟩
              have hb45 : Below w4.heap.size w4 w5 := by rw [← hw5]; exact (Below.refl _ _).alloc (Nat.le_refl _) _
              have hT5 := hT4.below hb45
              have sz5 := hb45.size
              have hb05 := hb04.trans (hb45.mono (by omega))
              have Hw5 := hide hw5
              clear hw5
              have C2 := hide (put_arg hT5 c s 3 0 [] (fun W hW => ask_old hW c s 3 1 [] hc hs hm (by omega)) 2 none 0 0 [] (by decide) rfl (Nat.le_refl _) (by decide) Rd.nil rfl (by decide) (by decide))
              have e1 : decide (c < 1) = false := decide_eq_false (by omega)
              have e2 : decide (s < 1) = false := decide_eq_false (by omega)
              have e3 : decide ((4611686018427387904 : Int) < c) = false := decide_eq_false (by omega)
              have e4 : decide ((4611686018427387904 : Int) < s) = false := decide_eq_false (by omega)
              have e5 : (c % 2 == 1) = false := by simp; omega
              have e6 : decide ((128 : Int) < c) = false := decide_eq_false (by omega)
              have e7 : decide ((3 : Int) < s) = false := decide_eq_false (by omega)
              clear hc hs hin h3
              go_wp2_with fail
              rw [Hw5.out]
              go_fit C2.out
              rintro x w6 ⟨rfl, hb6⟩
              have hb06 := hb05.trans (hb6.mono (by omega))
              have hT6 := hT5.below hb6
              go_wp2_with fail
              go_fit (len06_any hT6)
              rw [hsz]
              rintro x w8 ⟨rfl, rfl⟩
              go_wp2
              go_ret
              exact ⟨by first | rfl | (simp; done), HAll.out _ hb06⟩
        · have hm : tfM 64 c = none := by unfold tfM; rw [if_neg (by omega)]
          by_cases ho : c % 2 = 1
          · have e5 : (c.tmod 2 == 1) = true := by rw [Int.tmod_eq_emod_of_nonneg (by omega)]; simp; omega
            have C1 := hide (ask_full hT c s hc hs hm (by omega))
            go_wp2_with fail
            go_fit C1.out
            rintro x w4 ⟨A4, c4, rfl, hl4, hm4, hd4, hr4, ha4, hT4, hb4⟩
            have sz4 := hb4.size
            have hb04 := hbw.trans (hb4.mono hBr)
            obtain ⟨w5, hw5⟩ : ∃ x, w4.alloc (.cells #[.int .u8 0, .slice A4 0 c4] 33) = x := ⟨_, rfl⟩
            have hb45 : Below w4.heap.size w4 w5 := by rw [← hw5]; exact (Below.refl _ _).alloc (Nat.le_refl _) _
            have hT5 := hT4.below hb45
            have sz5 := hb45.size
            have hb05 := hb04.trans (hb45.mono (by omega))
            have Hw5 := hide hw5
            clear hw5
            have C2 := hide (put_full hT5 c s 4 0 [] (fun W hW => ask_full hW c s hc hs hm (by omega)) 2 none 0 0 [] (by decide) rfl (Nat.le_refl _) (by decide) Rd.nil rfl rfl)
            have e1 : decide (c < 1) = false := decide_eq_false (by omega)
            have e2 : decide (s < 1) = false := decide_eq_false (by omega)
            have e3 : decide ((4611686018427387904 : Int) < c) = false := decide_eq_false (by omega)
            have e4 : decide ((4611686018427387904 : Int) < s) = false := decide_eq_false (by omega)
            clear hc hs hin
            go_wp2_with fail
            rw [Hw5.out]
            go_fit C2.out
            rintro x w6 ⟨rfl, hb6⟩
            have hb06 := hb05.trans (hb6.mono (by omega))
            have hT6 := hT5.below hb6
            go_wp2_with fail
            go_fit (len06_any hT6)
            rw [hsz]
            rintro x w8 ⟨rfl, rfl⟩
            go_wp2
            go_ret
            exact ⟨by first | rfl | (simp; done), HAll.out _ hb06⟩
          · have e5 : (c.tmod 2 == 1) = false := by rw [Int.tmod_eq_emod_of_nonneg (by omega)]; simp; omega
            have e6 : (128 : Int) < c := by omega
            have C1 := hide (ask_full hT c s hc hs hm (by omega))
            go_wp2_with fail
            go_fit C1.out
            rintro x w4 ⟨A4, c4, rfl, hl4, hm4, hd4, hr4, ha4, hT4, hb4⟩
            have sz4 := hb4.size
            have hb04 := hbw.trans (hb4.mono hBr)
            obtain ⟨w5, hw5⟩ : ∃ x, w4.alloc (.cells #[.int .u8 0, .slice A4 0 c4] 33) = x := ⟨_, rfl⟩
            have hb45 : Below w4.heap.size w4 w5 := by rw [← hw5]; exact (Below.refl _ _).alloc (Nat.le_refl _) _
            have hT5 := hT4.below hb45
            have sz5 := hb45.size
            have hb05 := hb04.trans (hb45.mono (by omega))
            have Hw5 := hide hw5
            clear hw5
            have C2 := hide (put_full hT5 c s 4 0 [] (fun W hW => ask_full hW c s hc hs hm (by omega)) 2 none 0 0 [] (by decide) rfl (Nat.le_refl _) (by decide) Rd.nil rfl rfl)
            have e1 : decide (c < 1) = false := decide_eq_false (by omega)
            have e2 : decide (s < 1) = false := decide_eq_false (by omega)
            have e3 : decide ((4611686018427387904 : Int) < c) = false := decide_eq_false (by omega)
            have e4 : decide ((4611686018427387904 : Int) < s) = false := decide_eq_false (by omega)
            clear hc hs hin
            go_wp2_with fail
            rw [Hw5.out]
            go_fit C2.out
            rintro x w6 ⟨rfl, hb6⟩
            have hb06 := hb05.trans (hb6.mono (by omega))
            have hT6 := hT5.below hb6
            go_wp2_with fail
            go_fit (len06_any hT6)
            rw [hsz]
            rintro x w8 ⟨rfl, rfl⟩
            go_wp2
            go_ret
            exact ⟨by first | rfl | (simp; done), HAll.out _ hb06⟩
      · have hbad : serB c = false ∨ (serB c = true ∧ serB s = false) := by
          cases h1 : serB c <;> cases h2 : serB s <;> simp_all
        have hcase : c < 1 ∨ (1 ≤ c ∧ s < 1) ∨ (1 ≤ c ∧ 1 ≤ s ∧ 4611686018427387904 < c) ∨ (1 ≤ c ∧ 1 ≤ s ∧ c ≤ 4611686018427387904 ∧ 4611686018427387904 < s) := by
          by_cases q1 : c < 1
          · exact .inl q1
          · by_cases q2 : s < 1
            · exact .inr (.inl ⟨by omega, q2⟩)
            · by_cases q3 : 4611686018427387904 < c
              · exact .inr (.inr (.inl ⟨by omega, by omega, q3⟩))
              · refine .inr (.inr (.inr ⟨by omega, by omega, by omega, ?_⟩))
                have := mt (fun q : s ≤ 4611686018427387904 => (⟨serB_mk (by omega) (by omega), serB_mk (by omega) q⟩ : serB c = true ∧ serB s = true)) hcs
                omega
        clear hcs
        rcases hcase with q1 | ⟨p1, q1⟩ | ⟨p1, p2, q1⟩ | ⟨p1, p2, p3, q1⟩
        · have C1 := hide (ask_bad hT c s hbad)
          go_wp2_with fail
          go_fit C1.out
          rintro x w4 ⟨A4, c4, rfl, hl4, hm4, hd4, hr4, ha4, hT4, hb4⟩
          have sz4 := hb4.size
          have hb04 := hbw.trans (hb4.mono hBr)
          obtain ⟨w5, hw5⟩ : ∃ x, w4.alloc (.cells #[.int .u8 0, .slice A4 0 c4] 33) = x := ⟨_, rfl⟩
          have hb45 : Below w4.heap.size w4 w5 := by rw [← hw5]; exact (Below.refl _ _).alloc (Nat.le_refl _) _
          have hT5 := hT4.below hb45
          have sz5 := hb45.size
          have hb05 := hb04.trans (hb45.mono (by omega))
          have Hw5 := hide hw5
          clear hw5
          have C2 := hide (put_err hT5 c s 0 5 0 [] (fun W hW => ask_bad hW c s hbad) 2 none 0 0 [] (by decide) rfl (Nat.le_refl _) (by decide) Rd.nil (by decide))
          go_wp2_with fail
          rw [Hw5.out]
          go_fit C2.out
          rintro x w6 ⟨rfl, hb6⟩
          have hb06 := hb05.trans (hb6.mono (by omega))
          go_wp2
          go_ret
          exact ⟨by first | rfl | (simp; done), HAll.out _ hb06⟩
        · have C1 := hide (ask_bad hT c s hbad)
          go_wp2_with fail
          go_fit C1.out
          rintro x w4 ⟨A4, c4, rfl, hl4, hm4, hd4, hr4, ha4, hT4, hb4⟩
          have sz4 := hb4.size
          have hb04 := hbw.trans (hb4.mono hBr)
          obtain ⟨w5, hw5⟩ : ∃ x, w4.alloc (.cells #[.int .u8 0, .slice A4 0 c4] 33) = x := ⟨_, rfl⟩
          have hb45 : Below w4.heap.size w4 w5 := by rw [← hw5]; exact (Below.refl _ _).alloc (Nat.le_refl _) _
          have hT5 := hT4.below hb45
          have sz5 := hb45.size
          have hb05 := hb04.trans (hb45.mono (by omega))
          have Hw5 := hide hw5
          clear hw5
          have C2 := hide (put_err hT5 c s 0 5 0 [] (fun W hW => ask_bad hW c s hbad) 2 none 0 0 [] (by decide) rfl (Nat.le_refl _) (by decide) Rd.nil (by decide))
          have e1 : decide (c < 1) = false := decide_eq_false (by omega)
          go_wp2_with fail
          rw [Hw5.out]
          go_fit C2.out
          rintro x w6 ⟨rfl, hb6⟩
          have hb06 := hb05.trans (hb6.mono (by omega))
          go_wp2
          go_ret
          exact ⟨by first | rfl | (simp; done), HAll.out _ hb06⟩
        · have C1 := hide (ask_bad hT c s hbad)
          go_wp2_with fail
          go_fit C1.out
          rintro x w4 ⟨A4, c4, rfl, hl4, hm4, hd4, hr4, ha4, hT4, hb4⟩
          have sz4 := hb4.size
          have hb04 := hbw.trans (hb4.mono hBr)
          obtain ⟨w5, hw5⟩ : ∃ x, w4.alloc (.cells #[.int .u8 0, .slice A4 0 c4] 33) = x := ⟨_, rfl⟩
          have hb45 : Below w4.heap.size w4 w5 := by rw [← hw5]; exact (Below.refl _ _).alloc (Nat.le_refl _) _
          have hT5 := hT4.below hb45
          have sz5 := hb45.size
          have hb05 := hb04.trans (hb45.mono (by omega))
          have Hw5 := hide hw5
          clear hw5
          have C2 := hide (put_err hT5 c s 0 5 0 [] (fun W hW => ask_bad hW c s hbad) 2 none 0 0 [] (by decide) rfl (Nat.le_refl _) (by decide) Rd.nil (by decide))
          have e1 : decide (c < 1) = false := decide_eq_false (by omega)
          have e2 : decide (s < 1) = false := decide_eq_false (by omega)
          go_wp2_with fail
          rw [Hw5.out]
          go_fit C2.out
          rintro x w6 ⟨rfl, hb6⟩
          have hb06 := hb05.trans (hb6.mono (by omega))
          go_wp2
          go_ret
          exact ⟨by first | rfl | (simp; done), HAll.out _ hb06⟩
        · have C1 := hide (ask_bad hT c s hbad)
          go_wp2_with fail
          go_fit C1.out
          rintro x w4 ⟨A4, c4, rfl, hl4, hm4, hd4, hr4, ha4, hT4, hb4⟩
          have sz4 := hb4.size
          have hb04 := hbw.trans (hb4.mono hBr)
          obtain ⟨w5, hw5⟩ : ∃ x, w4.alloc (.cells #[.int .u8 0, .slice A4 0 c4] 33) = x := ⟨_, rfl⟩
          have hb45 : Below w4.heap.size w4 w5 := by rw [← hw5]; exact (Below.refl _ _).alloc (Nat.le_refl _) _
          have hT5 := hT4.below hb45
          have sz5 := hb45.size
          have hb05 := hb04.trans (hb45.mono (by omega))
          have Hw5 := hide hw5
          clear hw5
          have C2 := hide (put_err hT5 c s 0 5 0 [] (fun W hW => ask_bad hW c s hbad) 2 none 0 0 [] (by decide) rfl (Nat.le_refl _) (by decide) Rd.nil (by decide))
          have e1 : decide (c < 1) = false := decide_eq_false (by omega)
          have e2 : decide (s < 1) = false := decide_eq_false (by omega)
          have e3 : decide ((4611686018427387904 : Int) < c) = false := decide_eq_false (by omega)
          go_wp2_with fail
          rw [Hw5.out]
          go_fit C2.out
          rintro x w6 ⟨rfl, hb6⟩
          have hb06 := hb05.trans (hb6.mono (by omega))
          go_wp2
          go_ret
          exact ⟨by first | rfl | (simp; done), HAll.out _ hb06⟩
end Go.Proofs.Ytplodjccjobjbaa
