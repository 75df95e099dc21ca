/- The law GroupCommon, walked. -/
import Derived.Test.YtnjleagikplbiaaF13w
import Derived.Test.YtnjleagikplbiaaF13i
import Derived.Deep.RegionHeldLaw
namespace Go.Proofs.Ytnjleagikplbiaa
open Go.RowKit Go.Px
set_option linter.unusedVariables false

set_option maxHeartbeats 3200000 in
theorem groupCommon_walk (e : Int) (A : Option Addr) (n c : Nat) (ms0 : List Int) (A1 : Option Addr) (n1 c1 : Nat) (a0 : List Int) (A2 : Option Addr) (n2 c2 : Nat) (b0 : List Int) (w : World)
    (hn : ms0.length = n) (hnc : n ≤ c) (hc : c ≤ 9223372036854775807) (hr : Rd w A (ints ms0)) (hn1 : a0.length = n1) (hnc1 : n1 ≤ c1) (hc1 : c1 ≤ 9223372036854775807) (hr1 : Rd w A1 (ints a0)) (hn2 : b0.length = n2) (hnc2 : n2 ≤ c2) (hc2 : c2 ≤ 9223372036854775807) (hr2 : Rd w A2 (ints b0)) :
    Calls Try.prog 6 #[grp e A n c, .slice A1 n1 c1, .slice A2 n2 c2] w fun x w' => x = .returned (.bool true) ∧ Below w.heap.size w w' := by
  obtain ⟨hl1, hl2⟩ := lfew_le n
  have Hl := hide (show (ms0.take 100).length = lfew n by rw [lfew_len, hn])
  have hr' := lfew_rd hr
  obtain ⟨q, hq⟩ : ∃ q, lfew n = q := ⟨_, rfl⟩
  rw [hq] at hl1 hl2 Hl
  obtain ⟨hj1, hj2⟩ := lfew_le n1
  have Hj := hide (show (a0.take 100).length = lfew n1 by rw [lfew_len, hn1])
  have hr1' := lfew_rd hr1
  obtain ⟨q1, hq1⟩ : ∃ q, lfew n1 = q := ⟨_, rfl⟩
  rw [hq1] at hj1 hj2 Hj
  obtain ⟨ho1, ho2⟩ := lfew_le n2
  have Ho := hide (show (b0.take 100).length = lfew n2 by rw [lfew_len, hn2])
  have hr2' := lfew_rd hr2
  obtain ⟨q2, hq2⟩ : ∃ q, lfew n2 = q := ⟨_, rfl⟩
  rw [hq2] at ho1 ho2 Ho
  have Hq := hide hq
  have Hq1 := hide hq1
  have Hq2 := hide hq2
  clear hq hq1 hq2 hn hn1 hn2 hr hr1 hr2
  generalize ms0.take 100 = ms at *
  generalize a0.take 100 = a at *
  generalize b0.take 100 = b at *
  obtain ⟨g, hg⟩ : ∃ g, w.heap.size = g := ⟨_, rfl⟩
  obtain ⟨w00, hw00⟩ : ∃ w0, w.alloc (.cells #[.int .i64 e, .slice A n c] 24) = w0 := ⟨_, rfl⟩
  have hG00 : Blk w00 g [.int .i64 e, .slice A n c] 24 := by rw [← hw00, ← hg]; exact Blk.new _ _ _
  have hb00 : Below w.heap.size w w00 := by rw [← hw00]; exact (Below.refl _ _).alloc (Nat.le_refl _) _
  go_enter Try.func6, Try.ntmps6
  go_wp2_with fail
  go_fit (awake13_any w00)
  rintro x w0 ⟨rfl, hbx⟩
  have hG := hG00.below hbx
  have hb0 := hb00.trans (hbx.mono hb00.size)
  have k0 := hG.cell (j := 0) rfl
  have k1 := hG.cell (j := 1) rfl
  go_wp2_with fail
  go_fit (cut_any e A n c w0 hnc hc)
  rw [Hq.out]
  rintro x w1 ⟨rfl, hb1⟩
  have hG1 := hG.below hb1
  have t0 := hG1.frozen 0
  have t1 := hG1.frozen 1
  have u0 := hG1.cell (j := 0) rfl
  have u1 := hG1.cell (j := 1) rfl
  have hG2 := (hG1.set 0 (.int .i64 e)).set 1 (.slice A q c)
  have hb01 : Below w.heap.size w w1 := hb0.trans (hb1.mono hb0.size)
  have hb02 : Below w.heap.size w ((w1.setCell ⟨g, 0, none⟩ (.int .i64 e)).setCell ⟨g, 1, none⟩ (.slice A q c)) := (hb01.setCell (by show w.heap.size ≤ g; omega) _).setCell (by show w.heap.size ≤ g; omega) _
  obtain ⟨w2, hw2⟩ : ∃ w2, (w1.setCell ⟨g, 0, none⟩ (.int .i64 e)).setCell ⟨g, 1, none⟩ (.slice A q c) = w2 := ⟨_, rfl⟩
  rw [hw2] at hG2 hb02
  have v0 := hG2.cell (j := 0) rfl
  have v1 := hG2.cell (j := 1) rfl
  go_wp2_with fail
  go_fit (few_any A1 n1 c1 _ hnc1 hc1)
  rw [Hq1.out]
  rintro x wz ⟨rfl, rfl⟩
  go_wp2_with fail
  go_fit (few_any A2 n2 c2 _ hnc2 hc2)
  rw [Hq2.out]
  rintro x wz ⟨rfl, rfl⟩
  go_wp2_with fail
  go_fit (rcheck_any e A q c ms w2 Hl.out (hr'.below hb02))
  rcases bool_two (grpOk e ms) with hgq | hgq
  · rw [chk_ok hgq]
    have hlen := grpOk_len hgq
    rw [Hl.out] at hlen
    have Hgq := hide hgq
    clear hgq
    rintro x w3 ⟨rfl, hb3⟩
    have hG3 := hG2.below hb3
    have hb03 := hb02.trans (hb3.mono hb02.size)
    have x0 := hG3.cell (j := 0) rfl
    have x1 := hG3.cell (j := 1) rfl
    go_wp2_with fail
    go_fit (reached_any e A q c ms A1 q1 c1 a w3 Hl.out Hgq.out (hr'.below hb03) Hj.out hj2 (hr1'.below hb03))
    rcases bool_two (reachB ms a) with ra | ra
    · rw [ra]
      have Hra := hide ra
      clear ra
      rintro x w4 ⟨rfl, hb4⟩
      have hG4 := hG3.below hb4
      have hb04 := hb03.trans (hb4.mono hb03.size)
      have y0 := hG4.cell (j := 0) rfl
      have y1 := hG4.cell (j := 1) rfl
      go_wp2_with fail
      go_fit (reached_any e A q c ms A2 q2 c2 b w4 Hl.out Hgq.out (hr'.below hb04) Ho.out ho2 (hr2'.below hb04))
      rcases bool_two (reachB ms b) with rb | rb
      · rw [rb]
        have HX := hide (two_quorums Hra.out rb)
        clear rb
        rintro x w5 ⟨rfl, hb5⟩
        have hG5 := hG4.below hb5
        have hb05 := hb04.trans (hb5.mono hb04.size)
        clear k0 k1 t0 t1 u0 u1 v0 v1 x0 x1 y0 y1
        go_wp2
        go_loopw [7] (fun i wr => ∃ k : Nat, k ≤ q1 ∧ i = .int .i64 k ∧ Hid (∀ j, ∀ h : j < a.length, j < k → ¬ (inB b a[j] = true ∧ inB ms a[j] = true)) ∧ Below w5.heap.size w5 wr) (fun i _ => q1 - (intOf i).toNat)
        case atStart => exact ⟨0, by omega, rfl, hide (fun j _ h => by omega), Below.refl _ _⟩
        case round =>
          obtain ⟨k, hk, rfl, hN, hbw⟩ := hrel
          have hGw := hG5.below hbw
          have hb0w := hb05.trans (hbw.mono hb05.size)
          by_cases hkq : k < q1
          · have hkl : k < a.length := by rw [Hj.out]; exact hkq
            obtain ⟨ad, had, hcc⟩ := hr1'.below hb0w k _ (ints_get hkl)
            obtain ⟨y, hy⟩ : ∃ y, a[k] = y := ⟨_, rfl⟩
            rw [hy] at hcc
            subst had
            have mk : ∀ X, Below wr.heap.size wr X → (Below wr.heap.size wr X ∧ X.cell? ⟨g, 0, none⟩ = some (.int .i64 e) ∧ X.cell? ⟨g, 1, none⟩ = some (.slice A q c) ∧ X.cell? (ad.add k) = some (.int .i64 y)) := fun X hX =>
              ⟨hX, (hGw.below hX).cell (j := 0) rfl, (hGw.below hX).cell (j := 1) rfl, (hX.cell (p := ad.add k) (World.block_lt_of_cell? wr _ hcc)).trans hcc⟩
            have hbX : ∀ X, Below wr.heap.size wr X → Below w.heap.size w X := fun X h => hb0w.trans (h.mono hb0w.size)
            have S0 := mk wr.drew (Below.refl _ _).drew
            have Mk := hide mk
            have HX2 := hide hbX
            clear mk hbX
            rcases bool_two (inB b y) with q4 | q4
            · have Q4 := hide q4
              rcases bool_two (inB ms y) with q5 | q5
              · have Q5 := hide q5
                clear q4 q5 hy
                go_wp2
                go_region_held_law (fun W => Below wr.heap.size wr W ∧ W.cell? ⟨g, 0, none⟩ = some (.int .i64 e) ∧ W.cell? ⟨g, 1, none⟩ = some (.slice A q c) ∧ W.cell? (ad.add k) = some (.int .i64 y)) (assumption) (first
              | (go_at_call 14; refine (rin_any A2 q2 c2 b y _ Ho.out (by omega) (hr2'.below (HX2.out _ (And.left (by assumption))))).mono ?_; rw [Q4.out]; rintro x wz ⟨rfl, rfl⟩)
              | (go_at_call 13; refine (has_any e A q c ms y _ Hl.out (by omega) (hr'.below (HX2.out _ (And.left (by assumption))))).mono ?_; rw [Q5.out]; rintro x w8 ⟨rfl, hb8⟩; have hs8 := Mk.out _ ((Below.refl _ _).drew.trans hb8)))
                all_goals
                  go_wp2
                  go_ret
                  exact ⟨rfl, HX2.out _ hs8.1⟩
              · have Q5 := hide q5
                have HB := hide (show ∀ j, ∀ h : j < a.length, j < k + 1 → ¬ (inB b a[j] = true ∧ inB ms a[j] = true) from fun j hj hlt => by
                  by_cases e : j = k
                  · subst e; rw [hy, q5]; simp
                  · exact hN.out j hj (by omega))
                clear q4 q5 hy
                go_wp2
                go_region_held_law (fun W => Below wr.heap.size wr W ∧ W.cell? ⟨g, 0, none⟩ = some (.int .i64 e) ∧ W.cell? ⟨g, 1, none⟩ = some (.slice A q c) ∧ W.cell? (ad.add k) = some (.int .i64 y)) (assumption) (first
              | (go_at_call 14; refine (rin_any A2 q2 c2 b y _ Ho.out (by omega) (hr2'.below (HX2.out _ (And.left (by assumption))))).mono ?_; rw [Q4.out]; rintro x wz ⟨rfl, rfl⟩)
              | (go_at_call 13; refine (has_any e A q c ms y _ Hl.out (by omega) (hr'.below (HX2.out _ (And.left (by assumption))))).mono ?_; rw [Q5.out]; rintro x w8 ⟨rfl, hb8⟩; have hs8 := Mk.out _ ((Below.refl _ _).drew.trans hb8)))
                all_goals
                  go_wp2
                  go_roundw
                  case rel => exact ⟨k + 1, by omega, by go_num, HB, hbw.trans (hs8.1.mono hbw.size)⟩
                  case measure => simp [intOf]; omega
            · have Q4 := hide q4
              have Q5 := Q4
              have HB := hide (show ∀ j, ∀ h : j < a.length, j < k + 1 → ¬ (inB b a[j] = true ∧ inB ms a[j] = true) from fun j hj hlt => by
                by_cases e : j = k
                · subst e; rw [hy, q4]; simp
                · exact hN.out j hj (by omega))
              have HQ : ∀ m, Calls Try.prog 14 #[.slice A2 q2 c2, .int .i64 y] (wr.drewN m) fun e w' => e = .returned (.bool false) ∧ w' = wr.drewN m := fun m => by
                refine (rin_any A2 q2 c2 b y _ Ho.out (by omega) ((hr2'.below hb0w).drewN m)).mono ?_
                rw [q4]
                rintro x wz ⟨rfl, rfl⟩
                exact ⟨rfl, rfl⟩
              have c0 := S0.2.1
              have c1x := (hGw).cell (j := 0) rfl
              have c2x := (hGw).cell (j := 1) rfl
              clear q4 hy S0
              go_wp2
              go_quiet ((go_at_call 14; exact Calls.quiet_of_same (HQ _)))
              all_goals
                go_wp2
                go_roundw
                case rel => exact ⟨k + 1, by omega, by go_num, HB, below_drewN hbw _⟩
                case measure => simp [intOf]; omega
          · exfalso
            obtain ⟨j, hj, h⟩ := HX.out
            exact hN.out j hj (by rw [Hj.out] at hj; omega) h
      · rw [rb]
        clear rb
        rintro x w5 ⟨rfl, hb5⟩
        go_wp2
        go_ret
        exact ⟨by simp, hb04.trans (hb5.mono hb04.size)⟩
    · rw [ra]
      clear ra
      rintro x w4 ⟨rfl, hb4⟩
      go_wp2
      go_ret
      exact ⟨by simp, hb03.trans (hb4.mono hb03.size)⟩
  · rw [chk_bad hgq]
    clear hgq
    rintro x w3 ⟨rfl, hb3⟩
    have hb03 := hb02.trans (hb3.mono hb02.size)
    go_wp2
    go_ret
    exact ⟨by simp, hb03⟩
end Go.Proofs.Ytnjleagikplbiaa
