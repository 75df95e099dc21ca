/- Laws 8: SectorRuns: the walk. -/
import Derived.Test.YtdianokikhggnaaG08f
namespace Go.Proofs.Ytdianokikhggnaa
set_option maxRecDepth 20000
open Go.RowKit Go.Px Go.Maps
set_option linter.unusedVariables false
set_option maxRecDepth 20000 in
set_option maxHeartbeats 3200000 in
theorem sectorRuns_walk (n s : Int) (A : Option Addr) (m c : Nat) (ops : List Op08D) (vs : List Value) (w : World) (hA : RowAt tyOp08 w w.heap.size A m ops vs) :
    Calls Try.prog 3 #[.int .i64 n, .int .i64 s, .slice A m c] w fun e w' => e = .returned (.bool true) ∧ Below w.heap.size w w' := by
  have HAW := hide (awake08_any w)
  go_enter Try.func3, Try.ntmps3
  go_wp2_with fail
  go_fit HAW.out
  rintro x w1 ⟨rfl, hb1⟩
  clear HAW
  by_cases hr : 1 ≤ n ∧ n ≤ 65536 ∧ 1 ≤ s ∧ s ≤ 8192
  · obtain ⟨hn1, hn2, hs1, hs2⟩ := hr
    have HBG := hide (begin08_ok w1 n s hn1 hn2 hs1 hs2)
    go_wp2_with fail
    go_fit HBG.out
    rintro x w2 ⟨t, f, lm, bm, t2, f2, N, S, rfl, hD2, hN, hS, hfr, hb2⟩
    have hb02 := hb1.trans (hb2.mono hb1.size)
    have hz1 := hb1.size
    have hfree : ∀ b, ¬ Free t f lm bm t2 f2 b → w.heap.size ≤ b := fun b hb => by have := hfr b hb; omega
    have hsix := six_lo hfree
    have hlo := free_lo hfree
    have Hsix := hide hsix
    have Hlo := hide hlo
    clear HBG hfr hfree hsix hlo hn1 hn2 hs1 hs2 hb1 hb2
    go_wp2_with fail
    go_loopw [10] (fun v W => ∃ (k : Nat) (d : Dk), v = .int .i64 (k : Int) ∧ k ≤ m ∧ k ≤ 150 ∧ Both W t f lm bm t2 f2 d ∧ Below w.heap.size w W) (fun v _ => m - (RowKit.intOf v).toNat)
    case atStart => exact ⟨0, _, rfl, by omega, by omega, hD2, hb02⟩
    case round =>
      clear hD2 hb02
      obtain ⟨k, d, rfl, hkm, hk150, hD, hbw⟩ := hrel
      by_cases hlt : k < m ∧ k < 150
      · obtain ⟨hlt1, hlt2⟩ := hlt
        obtain ⟨o, p, cs, ho, hAp, hI, hat, hc⟩ := hA.at_ (by decide) hbw hlt1
        subst hAp
        have HST := hide (step08_any hD hI Hlo.out)
        obtain ⟨kd, i, nn, b, bA, bn, bc, ke, kA, kn, kc, kv, torn, cut, rfl, rfl, _⟩ := Op08_out hI
        have y0 := el_0 (n := 7) hat (hc 0 _ rfl)
        have y1 := el_S (n := 7) (i := 0) hat (hc 1 _ rfl)
        have y2 := el_S (n := 7) (i := 1) hat (hc 2 _ rfl)
        have y3 := el_S (n := 7) (i := 2) hat (hc 3 _ rfl)
        have y4 := el_S (n := 7) (i := 3) hat (hc 4 _ rfl)
        have y5 := el_S (n := 7) (i := 4) hat (hc 5 _ rfl)
        have y6 := el_S (n := 7) (i := 5) hat (hc 6 _ rfl)
        clear hat hc hI hD
        go_wp2_with fail
        go_fit HST.out
        rintro x w3 ⟨rfl, ⟨d', hD3⟩, hF3⟩
        have hb03 := hF3.below hbw hbw.size Hsix.out
        clear HST y0 y1 y2 y3 y4 y5 y6 hF3
        go_wp2
        go_roundw
        case rel => exact ⟨k + 1, d', by go_num, by omega, by omega, hD3, hb03⟩
        case measure => simp [RowKit.intOf]; omega
      · have HSM := hide (same08_any hD)
        rcases (show k = m ∨ (k < m ∧ k = 150) by omega) with rfl | ⟨hl2, rfl⟩
        all_goals
          go_wp2_with fail
          go_fit HSM.out
          rintro x w4 ⟨rfl, hb4⟩
          go_wp2
          go_ret
          exact ⟨rfl, hbw.trans (hb4.mono hbw.size)⟩
  · have HBG := hide (begin08_bad w1 n s hr)
    clear hr
    go_wp2_with fail
    go_fit HBG.out
    rintro x w2 ⟨rfl, rfl⟩
    go_wp2
    go_ret
    exact ⟨rfl, hb1⟩
end Go.Proofs.Ytdianokikhggnaa
