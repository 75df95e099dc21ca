/- The law GroupNexts, walked. -/
import Derived.Test.YtnjleagikplbiaaF13w
import Derived.Test.YtnjleagikplbiaaF13q
namespace Go.Proofs.Ytnjleagikplbiaa
open Go.RowKit Go.Px
set_option linter.unusedVariables false

set_option maxHeartbeats 1600000 in
theorem groupNexts_walk (e : Int) (A : Option Addr) (n c : Nat) (ms0 : List Int) (A1 : Option Addr) (n1 c1 : Nat) (add0 : List Int) (A2 : Option Addr) (n2 c2 : Nat) (dr0 : List Int) (w : World) (he1 : -9223372036854775808 ≤ e) (he2 : e ≤ 9223372036854775807)
    (hn : ms0.length = n) (hnc : n ≤ c) (hc : c ≤ 9223372036854775807) (hr : Rd w A (ints ms0)) (hn1 : add0.length = n1) (hnc1 : n1 ≤ c1) (hc1 : c1 ≤ 9223372036854775807) (hr1 : Rd w A1 (ints add0)) (hn2 : dr0.length = n2) (hnc2 : n2 ≤ c2) (hc2 : c2 ≤ 9223372036854775807) (hr2 : Rd w A2 (ints dr0)) :
    Calls Try.prog 5 #[grp e A n c, .slice A1 n1 c1, .slice A2 n2 c2] w fun x w' => x = .returned (.bool true) ∧ Below w.heap.size w w' := by
  obtain ⟨hl1, hl2⟩ := lfew_le n
  have Hl := hide (show (ms0.take 100).length = lfew n by rw [lfew_len, hn])
  have hr' := lfew_rd hr
  obtain ⟨q, hq⟩ : ∃ q, lfew n = q := ⟨_, rfl⟩
  rw [hq] at hl1 hl2 Hl
  obtain ⟨hj1, hj2⟩ := lfew_le n1
  have Hj := hide (show (add0.take 100).length = lfew n1 by rw [lfew_len, hn1])
  have hr1' := lfew_rd hr1
  obtain ⟨q1, hq1⟩ : ∃ q, lfew n1 = q := ⟨_, rfl⟩
  rw [hq1] at hj1 hj2 Hj
  obtain ⟨ho1, ho2⟩ := lfew_le n2
  have Ho := hide (show (dr0.take 100).length = lfew n2 by rw [lfew_len, hn2])
  have hr2' := lfew_rd hr2
  obtain ⟨q2, hq2⟩ : ∃ q, lfew n2 = q := ⟨_, rfl⟩
  rw [hq2] at ho1 ho2 Ho
  have Hq := hide hq
  have Hq1 := hide hq1
  have Hq2 := hide hq2
  clear hq hq1 hq2 hn hn1 hn2 hr hr1 hr2
  generalize ms0.take 100 = ms at *
  generalize add0.take 100 = add at *
  generalize dr0.take 100 = dr at *
  obtain ⟨g, hg⟩ : ∃ g, w.heap.size = g := ⟨_, rfl⟩
  obtain ⟨w0, hw0⟩ : ∃ w0, w.alloc (.cells #[.int .i64 e, .slice A n c] 24) = w0 := ⟨_, rfl⟩
  have hG : Blk w0 g [.int .i64 e, .slice A n c] 24 := by rw [← hw0, ← hg]; exact Blk.new _ _ _
  have hb0 : Below w.heap.size w w0 := by rw [← hw0]; exact (Below.refl _ _).alloc (Nat.le_refl _) _
  have k0 := hG.cell (j := 0) rfl
  have k1 := hG.cell (j := 1) rfl
  go_enter Try.func5, Try.ntmps5
  go_wp2_with fail
  go_fit (cut_any e A n c w0 hnc hc)
  rw [Hq.out]
  rintro x w1 ⟨rfl, hb1⟩
  have hG1 := hG.below hb1
  have t0 := hG1.frozen 0
  have t1 := hG1.frozen 1
  have u0 := hG1.cell (j := 0) rfl
  have u1 := hG1.cell (j := 1) rfl
  have hG2 := (hG1.set 0 (.int .i64 e)).set 1 (.slice A q c)
  have hb01 : Below w.heap.size w w1 := hb0.trans (hb1.mono hb0.size)
  have hb02 : Below w.heap.size w ((w1.setCell ⟨g, 0, none⟩ (.int .i64 e)).setCell ⟨g, 1, none⟩ (.slice A q c)) := (hb01.setCell (by show w.heap.size ≤ g; omega) _).setCell (by show w.heap.size ≤ g; omega) _
  obtain ⟨w2, hw2⟩ : ∃ w2, (w1.setCell ⟨g, 0, none⟩ (.int .i64 e)).setCell ⟨g, 1, none⟩ (.slice A q c) = w2 := ⟨_, rfl⟩
  rw [hw2] at hG2 hb02
  have v0 := hG2.cell (j := 0) rfl
  have v1 := hG2.cell (j := 1) rfl
  go_wp2_with fail
  go_fit (few_any A1 n1 c1 _ hnc1 hc1)
  rw [Hq1.out]
  rintro x wz ⟨rfl, rfl⟩
  go_wp2_with fail
  go_fit (few_any A2 n2 c2 _ hnc2 hc2)
  rw [Hq2.out]
  rintro x wz ⟨rfl, rfl⟩
  obtain ⟨E, hE⟩ : ∃ z, nextE e ms add dr = z := ⟨_, rfl⟩
  obtain ⟨P, hP⟩ : ∃ z, nextEp e ms add dr = z := ⟨_, rfl⟩
  obtain ⟨M, hM⟩ : ∃ z, nextM e ms add dr = z := ⟨_, rfl⟩
  have hMl : M.length ≤ 64 := by
    rw [← hM]; unfold nextM; split
    · exact nextL_le _ _ _
    · simp
  have HE := hide hE
  have HP := hide hP
  have HM := hide hM
  clear hE hP hM
  go_wp2_with fail
  go_fit (next_any e A q c ms A1 q1 c1 add A2 q2 c2 dr w2 Hl.out Hj.out Ho.out (by omega) (by omega) (hr'.below hb02) (hr1'.below hb02) (hr2'.below hb02) he1 he2)
  rintro x w3 ⟨B, d, rfl, hrB, hb3⟩
  rw [HE.out, HP.out, HM.out]
  rw [HM.out] at hrB
  have hG3 := (hG2.below hb3).alloc (.cells #[.int .i64 P, .slice B M.length d] 24)
  have hF3 := Blk.new w3 [.int .i64 P, .slice B M.length d] 24
  have hr3 := hrB.alloc (.cells #[.int .i64 P, .slice B M.length d] 24)
  have hb03 := (hb02.trans (hb3.mono hb02.size)).alloc (hb02.trans (hb3.mono hb02.size)).size (.cells #[.int .i64 P, .slice B M.length d] 24)
  have x0 := hG3.cell (j := 0) rfl
  have x1 := hG3.cell (j := 1) rfl
  go_wp2_with fail
  go_fit (rnext_any e A q c ms A1 q1 c1 add A2 q2 c2 dr _ Hl.out Hj.out Ho.out (by omega) (by omega) (by omega) (hr'.below hb03) (hr1'.below hb03) (hr2'.below hb03) he1 he2)
  rintro x w4 ⟨B', d', rfl, hrB', hb4⟩
  rw [HE.out, HP.out, HM.out]
  rw [HM.out] at hrB'
  have hF4 := (hF3.below hb4).alloc (.cells #[.int .i64 P, .slice B' M.length d'] 24)
  have hH4 := Blk.new w4 [.int .i64 P, .slice B' M.length d'] 24
  have hr4 := (hr3.below hb4).alloc (.cells #[.int .i64 P, .slice B' M.length d'] 24)
  have hr4' := hrB'.alloc (.cells #[.int .i64 P, .slice B' M.length d'] 24)
  have hb04 := (hb03.trans (hb4.mono hb03.size)).alloc (hb03.trans (hb4.mono hb03.size)).size (.cells #[.int .i64 P, .slice B' M.length d'] 24)
  have y0 := hF4.cell (j := 0) rfl
  have y1 := hF4.cell (j := 1) rfl
  have y2 := hH4.cell (j := 0) rfl
  have y3 := hH4.cell (j := 1) rfl
  go_wp2_with fail
  go_fit (rsameg_any P B M.length d M P B' M.length d' M _ rfl rfl (by omega) (by omega) hr4 hr4')
  rw [show eqG P M P M = true by unfold eqG; rw [eqB_self]; simp]
  rintro x w5 ⟨rfl, hb5⟩
  have hb05 := hb04.trans (hb5.mono hb04.size)
  go_wp2_with fail
  go_fit (awake13_any _)
  rintro x w6 ⟨rfl, hb6⟩
  go_wp2
  go_ret
  exact ⟨by simp, hb05.trans (hb6.mono hb05.size)⟩
end Go.Proofs.Ytnjleagikplbiaa
