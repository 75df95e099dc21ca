/- The law GroupLeads, walked. -/
import Derived.Test.YtnjleagikplbiaaF13w
import Derived.Deep.RegionHeldLaw
namespace Go.Proofs.Ytnjleagikplbiaa
open Go.RowKit Go.Px
set_option linter.unusedVariables false

set_option maxHeartbeats 3200000 in
theorem groupLeads_walk (e : Int) (A : Option Addr) (n c : Nat) (ms0 : List Int) (v me : Int) (w : World) (hn : ms0.length = n) (hnc : n ≤ c) (hc : c ≤ 9223372036854775807) (hr : Rd w A (ints ms0)) :
    Calls Try.prog 4 #[grp e A n c, .int .i64 v, .int .i64 me] w fun x w' => x = .returned (.bool true) ∧ Below w.heap.size w w' := by
  obtain ⟨hl1, hl2⟩ := lfew_le n
  have Hl := hide (show (ms0.take 100).length = lfew n by rw [lfew_len, hn])
  have hr' := lfew_rd hr
  obtain ⟨q, hq⟩ : ∃ q, lfew n = q := ⟨_, rfl⟩
  rw [hq] at hl1 hl2 Hl
  have Hq := hide hq
  clear hq hn hr
  generalize ms0.take 100 = ms at *
  obtain ⟨g, hg⟩ : ∃ g, w.heap.size = g := ⟨_, rfl⟩
  obtain ⟨w0, hw0⟩ : ∃ w0, w.alloc (.cells #[.int .i64 e, .slice A n c] 24) = w0 := ⟨_, rfl⟩
  have hG : Blk w0 g [.int .i64 e, .slice A n c] 24 := by rw [← hw0, ← hg]; exact Blk.new _ _ _
  have hb0 : Below w.heap.size w w0 := by rw [← hw0]; exact (Below.refl _ _).alloc (Nat.le_refl _) _
  have k0 := hG.cell (j := 0) rfl
  have k1 := hG.cell (j := 1) rfl
  have Hg := hide hg
  go_enter Try.func4, Try.ntmps4
  go_wp2_with fail
  go_fit (cut_any e A n c w0 hnc hc)
  rw [Hq.out]
  rintro x w1 ⟨rfl, hb1⟩
  have hG1 := hG.below hb1
  have t0 := hG1.frozen 0
  have t1 := hG1.frozen 1
  have u0 := hG1.cell (j := 0) rfl
  have u1 := hG1.cell (j := 1) rfl
  have hG2 := (hG1.set 0 (.int .i64 e)).set 1 (.slice A q c)
  have hb01 : Below w.heap.size w w1 := hb0.trans (hb1.mono hb0.size)
  have hb02 : Below w.heap.size w ((w1.setCell ⟨g, 0, none⟩ (.int .i64 e)).setCell ⟨g, 1, none⟩ (.slice A q c)) := (hb01.setCell (by show w.heap.size ≤ g; omega) _).setCell (by show w.heap.size ≤ g; omega) _
  obtain ⟨w2, hw2⟩ : ∃ w2, (w1.setCell ⟨g, 0, none⟩ (.int .i64 e)).setCell ⟨g, 1, none⟩ (.slice A q c) = w2 := ⟨_, rfl⟩
  rw [hw2] at hG2 hb02
  have v0 := hG2.cell (j := 0) rfl
  have v1 := hG2.cell (j := 1) rfl
  have hr2 := hr'.below hb02
  go_wp2_with fail
  go_fit (prim_any e A q c ms v w2 Hl.out hr2)
  rintro x w3 ⟨rfl, hb3⟩
  have hG3 := hG2.below hb3
  have hb03 : Below w.heap.size w w3 := hb02.trans (hb3.mono hb02.size)
  have x0 := hG3.cell (j := 0) rfl
  have x1 := hG3.cell (j := 1) rfl
  go_wp2_with fail
  go_fit (rprim_any e A q c ms v w3 Hl.out (hr'.below hb03))
  obtain ⟨pn, hpn⟩ : ∃ z, primN e ms v = z := ⟨_, rfl⟩
  obtain ⟨pe, hpe⟩ : ∃ z, primE e ms v = z := ⟨_, rfl⟩
  rw [hpn, hpe]
  clear hpn hpe
  rintro x w4 ⟨rfl, hb4⟩
  have hG4 := hG3.below hb4
  have hb04 : Below w.heap.size w w4 := hb03.trans (hb4.mono hb03.size)
  have mk : ∀ X, Below w4.heap.size w4 X → (Below w4.heap.size w4 X ∧ X.cell? ⟨g, 0, none⟩ = some (.int .i64 e) ∧ X.cell? ⟨g, 1, none⟩ = some (.slice A q c)) := fun X hX =>
    ⟨hX, (hG4.below hX).cell (j := 0) rfl, (hG4.below hX).cell (j := 1) rfl⟩
  have hbX : ∀ X, Below w4.heap.size w4 X → Below w.heap.size w X := fun X h => hb04.trans (h.mono hb04.size)
  have S0 := mk w4.drew (Below.refl _ _).drew
  have Mk := hide mk
  have HX := hide hbX
  have z1 : (pn == pn) = true := by simp
  have z2 : (pe == pe) = true := by simp
  clear mk hbX k0 k1 t0 t1 u0 u1 v0 v1 x0 x1
  go_wp2
  go_region_held_law (fun W => Below w4.heap.size w4 W ∧ W.cell? ⟨g, 0, none⟩ = some (.int .i64 e) ∧ W.cell? ⟨g, 1, none⟩ = some (.slice A q c)) (assumption) (first
      | (go_at_call 21; refine (others_any e A q c ms me _ Hl.out (by omega) (hr'.below (HX.out _ (And.left (by assumption))))).mono ?_; rintro x w5 ⟨u5, rfl, ho5, hb5⟩; obtain ⟨A5, c5, rfl, hx5, hc5, hcm5, hr5, ha5⟩ := own_out ho5; have hs5 := Mk.out _ ((Below.refl _ _).drew.trans hb5))
      | (go_at_call 22; refine (rothers_any e A q c ms me _ Hl.out (by omega) (hr'.below (HX.out _ (And.left (by assumption))))).mono ?_; rintro x w6 ⟨u6, rfl, ho6, hb6⟩; obtain ⟨A6, c6, rfl, hx6, hc6, hcm6, hr6, ha6⟩ := own_out ho6; have hs6 := Mk.out _ (hs5.1.trans (hb6.mono hs5.1.size)))
      | (go_at_call 20; refine (lsame_any A5 _ c5 (oth ms me) A6 _ c6 (oth ms me) _ rfl rfl (by unfold maxLen at hcm5; omega) (by unfold maxLen at hcm6; omega) (hr5.below hb6) hr6).mono ?_; rw [eqB_self]; rintro x w7 ⟨rfl, hb7⟩; have hs7 := Mk.out _ (hs6.1.trans (hb7.mono hs6.1.size)))
      | (go_at_call 17; refine (awake13_any _).mono ?_; rintro x w8 ⟨rfl, hb8⟩; have hs8 := Mk.out _ (hs7.1.trans (hb8.mono hs7.1.size))))
  all_goals
    go_wp2
    go_ret
    exact ⟨by simp, HX.out _ hs8.1⟩
end Go.Proofs.Ytnjleagikplbiaa
