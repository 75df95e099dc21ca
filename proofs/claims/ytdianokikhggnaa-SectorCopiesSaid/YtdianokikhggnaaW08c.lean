/- Laws 8: SectorCopies: the walk. -/
import Derived.Test.YtdianokikhggnaaG08g
namespace Go.Proofs.Ytdianokikhggnaa
set_option maxRecDepth 20000
open Go.RowKit Go.Px Go.Maps
set_option linter.unusedVariables false
set_option maxRecDepth 20000 in
set_option maxHeartbeats 3200000 in
theorem sectorCopies_walk (n s : Int) (A : Option Addr) (m c : Nat) (ops : List Op08D) (vs : List Value) (A2 : Option Addr) (m2 c2 : Nat) (ops2 : List Op08D) (vs2 : List Value) (w : World) (hA : RowAt tyOp08 w w.heap.size A m ops vs) (hA2 : RowAt tyOp08 w w.heap.size A2 m2 ops2 vs2) :
    Calls Try.prog 6 #[.int .i64 n, .int .i64 s, .slice A m c, .slice A2 m2 c2] w fun e w' => e = .returned (.bool true) ∧ Below w.heap.size w w' := by
  have HAW := hide (awake08_any w)
  go_enter Try.func6, Try.ntmps6
  go_wp2_with fail
  go_fit HAW.out
  rintro x w1 ⟨rfl, hb1⟩
  clear HAW
  by_cases hr : 1 ≤ n ∧ n ≤ 65536 ∧ 1 ≤ s ∧ s ≤ 8192
  · obtain ⟨hn1, hn2, hs1, hs2⟩ := hr
    have HBG := hide (begin08_ok w1 n s hn1 hn2 hs1 hs2)
    go_wp2_with fail
    go_fit HBG.out
    rintro x w2 ⟨t, f, lm, bm, t2, f2, N, S, rfl, hD2, hN, hS, hfr, hb2⟩
    have hb02 := hb1.trans (hb2.mono hb1.size)
    have hz1 := hb1.size
    have hfree : ∀ b, ¬ Free t f lm bm t2 f2 b → w.heap.size ≤ b := fun b hb => by have := hfr b hb; omega
    have hsix := six_lo hfree
    have hlo := free_lo hfree
    have Hsix := hide hsix
    have Hlo := hide hlo
    clear HBG hfr hfree hsix hlo hn1 hn2 hs1 hs2 hb1 hb2
    go_wp2_with fail
    go_loopw [12] (fun v W => ∃ (k : Nat) (d : Dk), v = .int .i64 (k : Int) ∧ k ≤ m ∧ k ≤ 150 ∧ Both W t f lm bm t2 f2 d ∧ Below w.heap.size w W) (fun v _ => m - (RowKit.intOf v).toNat)
    case atStart => exact ⟨0, _, rfl, by omega, by omega, hD2, hb02⟩
    case round =>
      clear hD2 hb02
      obtain ⟨k, d, rfl, hkm, hk150, hD, hbw⟩ := hrel
      by_cases hlt : k < m ∧ k < 150
      · obtain ⟨hlt1, hlt2⟩ := hlt
        obtain ⟨o, p, cs, ho, hAp, hI, hat, hc⟩ := hA.at_ (by decide) hbw hlt1
        subst hAp
        have HST := hide (step08_any hD hI Hlo.out)
        obtain ⟨kd, i, nn, b, bA, bn, bc, ke, kA, kn, kc, kv, torn, cut, rfl, rfl, _⟩ := Op08_out hI
        have y0 := el_0 (n := 7) hat (hc 0 _ rfl)
        have y1 := el_S (n := 7) (i := 0) hat (hc 1 _ rfl)
        have y2 := el_S (n := 7) (i := 1) hat (hc 2 _ rfl)
        have y3 := el_S (n := 7) (i := 2) hat (hc 3 _ rfl)
        have y4 := el_S (n := 7) (i := 3) hat (hc 4 _ rfl)
        have y5 := el_S (n := 7) (i := 4) hat (hc 5 _ rfl)
        have y6 := el_S (n := 7) (i := 5) hat (hc 6 _ rfl)
        clear hat hc hI hD
        go_wp2_with fail
        go_fit HST.out
        rintro x w3 ⟨rfl, ⟨d', hD3⟩, hF3⟩
        have hb03 := hF3.below hbw hbw.size Hsix.out
        clear HST y0 y1 y2 y3 y4 y5 y6 hF3
        go_wp2
        go_roundw
        case rel => exact ⟨k + 1, d', by go_num, by omega, by omega, hD3, hb03⟩
        case measure => simp [RowKit.intOf]; omega
      · have hwr := hbw.size
        have hK := hD.kept
        obtain ⟨L, hL⟩ : ∃ y, wr.heap.size = y := ⟨_, rfl⟩
        have HCP := hide (copy08_any hD.a)
        rw [hL] at hK HCP
        have hwL : w.heap.size ≤ L := by omega
        have HK := hide hK
        have HL := hide hL
        clear hK hL hD hA Hsix Hlo
        rcases (show k = m ∨ (k < m ∧ k = 150) by omega) with rfl | ⟨hl2, rfl⟩
        all_goals
          go_wp2_with fail
          go_fit HCP.out
          rintro x w4 ⟨x, xf, xl, xm, rfl, hX, hXo, hb4⟩
          rw [← HL.out] at hb4
          have hz4 := hb4.size
          have hb04 := hbw.trans (hb4.mono hwr)
          have hK4 := HK.out.below hb4
          rw [HL.out] at hz4
          obtain ⟨cs, hc⟩ := hK4.b
          have HRC := hide (rcopy08_any hc)
          have hXl := hX.lts
          clear HCP hc
          go_wp2_with fail
          go_fit HRC.out
          rintro z w5 ⟨y, yf, cs2, rfl, hR5, hy1, hy2, hb5⟩
          have hb05 := hb04.trans (hb5.mono hb04.size)
          have hz5 := hb5.size
          have hK5 := hK4.below hb5
          have hX5 := hX.below hb5
          have HSM := hide (same08_any (hK5.mixed hX5 hXo))
          obtain ⟨hB5, hsx⟩ := hK5.two (M := w4.heap.size) (by omega) hX5 hR5 (fun b hb => ⟨hXo b hb, by rcases hb with e | e | e | e <;> omega⟩) ⟨hy1, hy2⟩
          have Hsx := hide hsx
          have hno : ∀ b, b < w.heap.size → Free x xf xl xm y yf b := fun b hb => ⟨fun ho => by have := hsx b (.inl ho); omega, fun ho => by have := hsx b (.inr ho); omega⟩
          have Hno := hide hno
          have HB5 := hide (And.intro hB5 hK5)
          clear hB5 hK5 hsx hno hX hX5 hXo hK4 hR5 HRC hXl
          go_wp2_with fail
          go_fit HSM.out
          rintro z w6 ⟨rfl, hb6⟩
          have hb06 := hb05.trans (hb6.mono hb05.size)
          have hB6 := HB5.out.1.below hb6
          have hK6 := HB5.out.2.below hb6
          clear HSM HB5
          go_wp2_with fail
          go_loopw [15] (fun v W => ∃ (k : Nat) (d' : Dk), v = .int .i64 (k : Int) ∧ k ≤ m2 ∧ k ≤ 150 ∧ Both W x xf xl xm y yf d' ∧ Kept W L t f lm bm t2 f2 d ∧ Below w.heap.size w W) (fun v _ => m2 - (RowKit.intOf v).toNat)
          case atStart => exact ⟨0, _, rfl, by omega, by omega, hB6, hK6, hb06⟩
          case round =>
            clear hB6 hK6 hb06
            obtain ⟨j, d', rfl, hjm, hj150, hD', hKd, hbw'⟩ := hrel
            by_cases hlt : j < m2 ∧ j < 150
            · obtain ⟨hlt1, hlt2⟩ := hlt
              obtain ⟨o, p, cs, ho, hAp, hI, hat, hc⟩ := hA2.at_ (by decide) hbw' hlt1
              subst hAp
              have HST := hide (step08_any hD' hI Hno.out)
              obtain ⟨kd, i, nn, b, bA, bn, bc, ke, kA, kn, kc, kv, torn, cut, rfl, rfl, _⟩ := Op08_out hI
              have y0 := el_0 (n := 7) hat (hc 0 _ rfl)
              have y1 := el_S (n := 7) (i := 0) hat (hc 1 _ rfl)
              have y2 := el_S (n := 7) (i := 1) hat (hc 2 _ rfl)
              have y3 := el_S (n := 7) (i := 2) hat (hc 3 _ rfl)
              have y4 := el_S (n := 7) (i := 3) hat (hc 4 _ rfl)
              have y5 := el_S (n := 7) (i := 4) hat (hc 5 _ rfl)
              have y6 := el_S (n := 7) (i := 5) hat (hc 6 _ rfl)
              have HKd := hide hKd
              clear hat hc hI hD' hKd
              go_wp2_with fail
              go_fit HST.out
              rintro z w7 ⟨rfl, ⟨d3, hD3⟩, hF3⟩
              have hb07 := hF3.below hbw' hbw'.size (fun q hq => by have := Hsx.out q hq; omega)
              have hK7 := HKd.out.fr hF3 Hsx.out
              clear HST y0 y1 y2 y3 y4 y5 y6 hF3
              go_wp2
              go_roundw
              case rel => exact ⟨j + 1, d3, by go_num, by omega, by omega, hD3, hK7, hb07⟩
              case measure => simp [RowKit.intOf]; omega
            · have HS1 := hide (same08_any hKd.both)
              have HD' := hide hD'
              clear hKd hD' hA2
              rcases (show j = m2 ∨ (j < m2 ∧ j = 150) by omega) with rfl | ⟨hl2, rfl⟩
              all_goals
                go_wp2_with fail
                go_fit HS1.out
                rintro z w7 ⟨rfl, hb7⟩
                have HS2 := hide (same08_any (HD'.out.below hb7))
                have hb07 := hbw'.trans (hb7.mono hbw'.size)
                go_wp2_with fail
                go_fit HS2.out
                rintro z w8 ⟨rfl, hb8⟩
                go_wp2
                go_ret
                exact ⟨rfl, hb07.trans (hb8.mono hb07.size)⟩
  · have HBG := hide (begin08_bad w1 n s hr)
    clear hr
    go_wp2_with fail
    go_fit HBG.out
    rintro x w2 ⟨rfl, rfl⟩
    go_wp2
    go_ret
    exact ⟨rfl, hb1⟩
end Go.Proofs.Ytdianokikhggnaa
