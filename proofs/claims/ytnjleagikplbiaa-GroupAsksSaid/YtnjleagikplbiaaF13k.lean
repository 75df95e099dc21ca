/- The law GroupAsks, walked. -/
import Derived.Test.YtnjleagikplbiaaF13w
import Derived.Deep.RegionHeldLaw
import Derived.Deep.Cut
namespace Go.Proofs.Ytnjleagikplbiaa
open Go.RowKit Go.Px
set_option linter.unusedVariables false

theorem eqG_self (e : Int) (ms : List Int) : eqG e ms e ms = true := by unfold eqG; rw [eqB_self]; simp

set_option maxHeartbeats 6400000 in
theorem groupAsks_walk (e : Int) (A : Option Addr) (n c : Nat) (ms0 : List Int) (e' : Int) (A1 : Option Addr) (n1 c1 : Nat) (ns0 : List Int) (v : Int) (w : World) (hn : ms0.length = n) (hnc : n ≤ c) (hc : c ≤ 9223372036854775807) (hr : Rd w A (ints ms0))
    (hn1 : ns0.length = n1) (hnc1 : n1 ≤ c1) (hc1 : c1 ≤ 9223372036854775807) (hr1 : Rd w A1 (ints ns0)) :
    Calls Try.prog 3 #[grp e A n c, grp e' A1 n1 c1, .int .i64 v] w fun x w' => x = .returned (.bool true) ∧ Below w.heap.size w w' := by
  obtain ⟨hl1, hl2⟩ := lfew_le n
  have Hl := hide (show (ms0.take 100).length = lfew n by rw [lfew_len, hn])
  have hr' := lfew_rd hr
  obtain ⟨q, hq⟩ : ∃ q, lfew n = q := ⟨_, rfl⟩
  rw [hq] at hl1 hl2 Hl
  obtain ⟨hj1, hj2⟩ := lfew_le n1
  have Hj := hide (show (ns0.take 100).length = lfew n1 by rw [lfew_len, hn1])
  have hr1' := lfew_rd hr1
  obtain ⟨q1, hq1⟩ : ∃ q, lfew n1 = q := ⟨_, rfl⟩
  rw [hq1] at hj1 hj2 Hj
  have Hq := hide hq
  have Hq1 := hide hq1
  clear hq hq1 hn hn1 hr hr1
  generalize ms0.take 100 = ms at *
  generalize ns0.take 100 = ns at *
  obtain ⟨g, hg⟩ : ∃ g, w.heap.size = g := ⟨_, rfl⟩
  obtain ⟨g1, hg1⟩ : ∃ x, g + 1 = x := ⟨_, rfl⟩
  obtain ⟨w0, hw0⟩ : ∃ w0, (w.alloc (.cells #[.int .i64 e, .slice A n c] 24)).alloc (.cells #[.int .i64 e', .slice A1 n1 c1] 24) = w0 := ⟨_, rfl⟩
  have hF : Blk w0 g [.int .i64 e, .slice A n c] 24 := by rw [← hw0, ← hg]; exact (Blk.new w [.int .i64 e, .slice A n c] _).alloc _
  have hG : Blk w0 g1 [.int .i64 e', .slice A1 n1 c1] 24 := by
    rw [← hw0, ← hg1, ← hg]
    have := Blk.new (w.alloc (.cells #[.int .i64 e, .slice A n c] 24)) [.int .i64 e', .slice A1 n1 c1] 24
    rwa [World.size_alloc] at this
  have hb0 : Below g w w0 := by rw [← hw0, ← hg]; exact ((Below.refl _ _).alloc (Nat.le_refl _) _).alloc (by simp) _
  have hne : g ≠ g1 := by omega
  have hne' : g1 ≠ g := by omega
  have hgg1 : g ≤ g1 := by omega
  have x0 := hF.cell (j := 0) rfl
  have x1 := hF.cell (j := 1) rfl
  have x2 := hG.cell (j := 0) rfl
  have x3 := hG.cell (j := 1) rfl
  have hgw0 : g ≤ w0.heap.size := Nat.le_of_lt hF.lt
  have lay : ∀ X, Below w0.heap.size w0 X → Blk X g [.int .i64 e, .slice A n c] 24 ∧ Blk X g1 [.int .i64 e', .slice A1 n1 c1] 24 ∧ Below g w X := fun X h => ⟨hF.below h, hG.below h, hb0.trans (h.mono hgw0)⟩
  have Lay := hide lay
  clear lay
  go_enter Try.func3, Try.ntmps3
  have y0 : w0.drew.cell? ⟨g, 0, none⟩ = some (.int .i64 e) := x0
  have y1 : w0.drew.cell? ⟨g, 1, none⟩ = some (.slice A n c) := x1
  have y2 : w0.drew.cell? ⟨g1, 0, none⟩ = some (.int .i64 e') := x2
  have y3 : w0.drew.cell? ⟨g1, 1, none⟩ = some (.slice A1 n1 c1) := x3
  go_upto_region 1 with fail
  go_cut [] from 7 (fun wx => Below g w wx ∧ Blk wx g [.int .i64 e, .slice A q c] 24 ∧ Blk wx g1 [.int .i64 e', .slice A1 q1 c1] 24)
  case first =>
    go_region_with (first
      | (go_at_call_of 8 (Value.slice A n c); refine (cut_any e A n c _ hnc hc).mono ?_; rw [Hq.out]; rintro x wa ⟨rfl, hba⟩; have hwa := (Below.refl _ _).drew.trans hba; have la := Lay.out _ hwa; have a0 := la.1.cell (j := 0) rfl; have a1 := la.1.cell (j := 1) rfl; have a2 := la.2.1.cell (j := 0) rfl; have a3 := la.2.1.cell (j := 1) rfl)
      | (go_at_call_of 8 (Value.slice A1 n1 c1); refine (cut_any e' A1 n1 c1 _ hnc1 hc1).mono ?_; rw [Hq1.out]; rintro x wb ⟨rfl, hbb⟩; have hwb := hwa.trans (hbb.mono hwa.size); have lb := Lay.out _ hwb; have b0 := lb.1.cell (j := 0) rfl; have b1 := lb.1.cell (j := 1) rfl; have b2 := lb.2.1.cell (j := 0) rfl; have b3 := lb.2.1.cell (j := 1) rfl; have f0 := lb.1.frozen 0; have f1 := lb.1.frozen 1; have f2 := lb.2.1.frozen 0; have f3 := lb.2.1.frozen 1))
    all_goals
      go_wp2_with fail
      go_meet
      exact ⟨(((lb.2.2.setCell (Nat.le_refl g) _).setCell (Nat.le_refl g) _).setCell hgg1 _).setCell hgg1 _, (((lb.1.set 0 _).set 1 _).apart hne 0 _).apart hne 1 _, (((lb.2.1.apart hne' 0 _).apart hne' 1 _).set 0 _).set 1 _⟩
  case rest =>
    rename World => wx
    obtain ⟨hWb, hFW, hGW⟩ := hcut
    clear x0 x1 x2 x3 y0 y1 y2 y3 Lay
    have hW : Below w.heap.size w wx := by rw [hg]; exact hWb
    have mk : ∀ X, Below wx.heap.size wx X → (Below wx.heap.size wx X ∧ X.cell? ⟨g, 0, none⟩ = some (.int .i64 e) ∧ X.cell? ⟨g, 1, none⟩ = some (.slice A q c) ∧ X.cell? ⟨g1, 0, none⟩ = some (.int .i64 e') ∧ X.cell? ⟨g1, 1, none⟩ = some (.slice A1 q1 c1)) := fun X hX =>
      ⟨hX, (hFW.below hX).cell (j := 0) rfl, (hFW.below hX).cell (j := 1) rfl, (hGW.below hX).cell (j := 0) rfl, (hGW.below hX).cell (j := 1) rfl⟩
    have hbX : ∀ X, Below wx.heap.size wx X → Below w.heap.size w X := fun X h => hW.trans (h.mono hW.size)
    have hrX : ∀ X, Below wx.heap.size wx X → Rd X A (ints ms) := fun X h => hr'.below (hbX X h)
    have hrY : ∀ X, Below wx.heap.size wx X → Rd X A1 (ints ns) := fun X h => hr1'.below (hbX X h)
    obtain ⟨ce, hce⟩ : ∃ z, chkE e ms = z := ⟨_, rfl⟩
    obtain ⟨ib, hib⟩ : ∃ z, inB ms v = z := ⟨_, rfl⟩
    obtain ⟨eg, heg⟩ : ∃ z, eqG e ms e' ns = z := ⟨_, rfl⟩
    have Hce := hide hce
    have Hib := hide hib
    have Heg := hide heg
    have S0 := mk wx.drew (Below.refl _ _).drew
    have Mk := hide mk
    have HX := hide hbX
    have HrX := hide hrX
    have HrY := hide hrY
    have z1 : (ce == ce) = true := by simp
    have z2 : (ib == ib) = true := by simp
    have z3 : (eg == eg) = true := by simp
    clear mk hbX hrX hrY hce hib heg
    go_wp2
    go_region_held_law (fun W => Below wx.heap.size wx W ∧ W.cell? ⟨g, 0, none⟩ = some (.int .i64 e) ∧ W.cell? ⟨g, 1, none⟩ = some (.slice A q c) ∧ W.cell? ⟨g1, 0, none⟩ = some (.int .i64 e') ∧ W.cell? ⟨g1, 1, none⟩ = some (.slice A1 q1 c1)) (assumption) (first
      | (go_at_call 9; refine (gcheck_any e A q c ms _ Hl.out (HrX.out _ (And.left (by assumption)))).mono ?_; rw [Hce.out]; rintro x w1 ⟨rfl, hb1⟩; have hs1 := Mk.out _ ((Below.refl _ _).drew.trans hb1))
      | (go_at_call 10; refine (rcheck_any e A q c ms _ Hl.out (HrX.out _ (And.left (by assumption)))).mono ?_; rw [Hce.out]; rintro x w2 ⟨rfl, hb2⟩; have hs2 := Mk.out _ (hs1.1.trans (hb2.mono hs1.1.size)))
      | (go_at_call 11; refine (quorum_any e A q c _ (by omega)).mono ?_; rintro x w3 ⟨rfl, hb3⟩; have hs3 := Mk.out _ (hs2.1.trans (hb3.mono hs2.1.size)))
      | (go_at_call 12; refine (rquorum_any e A q c _ (by omega)).mono ?_; rintro x w4 ⟨rfl, hb4⟩; have hs4 := Mk.out _ (hs3.1.trans (hb4.mono hs3.1.size)))
      | (go_at_call 13; refine (has_any e A q c ms v _ Hl.out (by omega) (HrX.out _ (And.left (by assumption)))).mono ?_; rw [Hib.out]; rintro x w5 ⟨rfl, hb5⟩; have hs5 := Mk.out _ (hs4.1.trans (hb5.mono hs4.1.size)))
      | (go_at_call 14; refine (rin_any A q c ms v _ Hl.out (by omega) (HrX.out _ hs5.1)).mono ?_; rw [Hib.out]; rintro x w6 ⟨rfl, rfl⟩)
      | (go_at_call_of 15 (Value.slice A1 q1 c1); refine (gsame_any e A q c ms e' A1 q1 c1 ns _ Hl.out Hj.out (by omega) (by omega) (HrX.out _ hs5.1) (HrY.out _ hs5.1)).mono ?_; rw [Heg.out]; rintro x w7 ⟨rfl, hb7⟩; have hs7 := Mk.out _ (hs5.1.trans (hb7.mono hs5.1.size)))
      | (go_at_call 16; refine (rsameg_any e A q c ms e' A1 q1 c1 ns _ Hl.out Hj.out (by omega) (by omega) (HrX.out _ hs7.1) (HrY.out _ hs7.1)).mono ?_; rw [Heg.out]; rintro x w8 ⟨rfl, hb8⟩; have hs8 := Mk.out _ (hs7.1.trans (hb8.mono hs7.1.size)))
      | (go_at_call 15; refine (gsame_any e A q c ms e A q c ms _ Hl.out Hl.out (by omega) (by omega) (HrX.out _ hs8.1) (HrX.out _ hs8.1)).mono ?_; rw [eqG_self]; rintro x w9 ⟨rfl, hb9⟩; have hs9 := Mk.out _ (hs8.1.trans (hb9.mono hs8.1.size)))
      | (go_at_call 17; refine (awake13_any _).mono ?_; rintro x w10 ⟨rfl, hb10⟩; have hs10 := Mk.out _ (hs9.1.trans (hb10.mono hs9.1.size))))
    all_goals
      go_wp2
      go_ret
      exact ⟨by simp, HX.out _ hs10.1⟩
end Go.Proofs.Ytnjleagikplbiaa
