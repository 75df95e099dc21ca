/- The law VolumePages, walked (written by gen_g5h.py). -/
import Derived.Test.YtjilkaciopiabaaG05d
import Derived.Test.YtjilkaciopiabaaG05g
namespace Go.Proofs.Ytjilkaciopiabaa
open Go.RowKit Go.Px
set_option linter.unusedVariables false
set_option maxRecDepth 20000 in
set_option maxHeartbeats 6400000 in
theorem volumePages_walk (b z : Int) (A1 : Option Addr) (n1 c1 : Nat) (since : Int) (w : World) (hst : Stps2 w A1 n1) (hn1 : n1 ≤ c1) (hc1 : c1 ≤ 9223372036854775807) :
    Calls Try.prog 3 #[shp b z, .slice A1 n1 c1, .int .i64 since] w fun x w' => x = .returned (.bool true) ∧ Below w.heap.size w w' := by
  obtain ⟨g, hg⟩ : ∃ g, w.heap.size = g := ⟨_, rfl⟩
  obtain ⟨w0, hw0⟩ : ∃ w0, w.alloc (.cells #[.int .i64 b, .int .i64 z] 23) = w0 := ⟨_, rfl⟩
  have hS : Blk w0 g [.int .i64 b, .int .i64 z] 23 := by rw [← hw0, ← hg]; exact Blk.new w [.int .i64 b, .int .i64 z] _
  have hb0 : Below w.heap.size w w0 := by rw [← hw0]; exact (Below.refl _ _).alloc (Nat.le_refl _) _
  have Hw0 := hide hw0
  have Haw := hide awake05_any
  clear hw0
  rcases shE_two b z with ⟨hsp, hse⟩ | hse
  · obtain ⟨⟨b1, b2⟩, z1, z2⟩ := hsp
    obtain ⟨B, rfl⟩ := Int.eq_ofNat_of_zero_le (show 0 ≤ b by omega)
    obtain ⟨Z, rfl⟩ := Int.eq_ofNat_of_zero_le (show 0 ≤ z by omega)
    obtain ⟨N, hN⟩ : ∃ N, B * Z = N := ⟨_, rfl⟩
    have HB := hide (fun W => begin_okP B Z N W (by omega) (by omega) hN none 0 0 [] [] rfl (by omega) (by omega) Rd.nil PgRows.nil rfl)
    have Hse := hide hse
    have HN := hide hN
    clear hse hN
    go_enter Try.func3, Try.ntmps3
    go_wp2_with fail
    rw [Hw0.out]
    go_fit (Haw.out w0)
    rintro x w1' ⟨rfl, hb1'⟩
    have hb01' := hb0.trans (hb1'.mono hb0.size)
    have hS1' := hS.below hb1'
    have x0 := hS1'.cell (j := 0) rfl
    have x1 := hS1'.cell (j := 1) rfl
    go_wp2_with fail
    go_fit (small_any (B : Int) (Z : Int) w1')
    cases hsm : smB (B : Int) (Z : Int) with
    | false =>
      rintro x w3 ⟨rfl, hb3⟩
      have hb03 := hb01'.trans (hb3.mono hb01'.size)
      have hS3 := hS1'.below hb3
      clear x0 x1
      have x0 := hS3.cell (j := 0) rfl
      have x1 := hS3.cell (j := 1) rfl
      go_wp2_with fail
      go_fit (rshape_any (B : Int) (Z : Int) w3)
      rw [Hse.out]
      rintro x w4 ⟨rfl, hb4⟩
      go_wp2
      go_ret
      exact ⟨rfl, hb03.trans (hb4.mono hb03.size)⟩
    | true =>
      rintro x w1 ⟨rfl, hb1⟩
      have hb01 := hb01'.trans (hb1.mono hb01'.size)
      have hS1 := hS1'.below hb1
      have hst1 := hst.below hb01
      clear x0 x1
      have x0 := hS1.cell (j := 0) rfl
      have x1 := hS1.cell (j := 1) rfl
      go_wp2_with fail
      go_fit (HB.out w1)
      rintro x w2 ⟨v, r, s, rv, gb, gv, cb, cv, lo, sv, rfl, hBo, hAt, hb12⟩
      clear x0 x1 hsm
      go_wp2
      go_loopw [10] (fun i wr => ∃ (m : Nat), m ≤ n1 ∧ m ≤ 200 ∧ i = .int .i64 m ∧ Both wr w1.heap.size lo v r s rv gb gv cb cv B Z N sv ∧ Below w1.heap.size w1 wr) (fun i _ => n1 - (intOf i).toNat)
      case atStart => exact ⟨0, by omega, by omega, rfl, hBo, hb12⟩
      case round =>
        obtain ⟨m, hm1, hm2, rfl, hBr, hbr⟩ := hrel
        clear hBo
        by_cases hlt : m < n1 ∧ m < 200
        · obtain ⟨hlt1, hlt2⟩ := hlt
          obtain ⟨a, rfl, hop⟩ := hst1 m hlt1
          obtain ⟨rows, bs, vs, last, hV, hR⟩ := hBr
          obtain ⟨k', p', q', D', d', dc', ds', O', o', oc', os', num', A', m', mc', cs', ps', hk', k0, k1, k2, k3, k4, k5, k6, hd', hdc', hdm', ho', hD', hO', hm', hmc', hcm', hr', hP'⟩ := hop
          have hDB := rd_lt3 hD'
          have hOB := rd_lt3 hO'
          have c0 := cell_below hbr k0
          have c1' := cell_below hbr k1
          have c2' := cell_below hbr k2
          have c3 := cell_below hbr k3
          have c4 := cell_below hbr k4
          have c5 := cell_below hbr k5
          have c6 := cell_below hbr k6
          clear k0 k1 k2 k3 k4 k5 k6
          have szr := hbr.size
          by_cases hm0 : m' = 0
          · subst hm0
            have HC := hide (step_do w1.heap.size wr v r s rv gb gv cb cv B Z N sv rows bs vs last lo k' p' q' D' d' dc' ds' O' o' oc' os' num' A' mc' hk' hV hR hAt szr hd' hdc' hdm' ho' (hD'.below hbr) (hO'.below hbr) hDB hOB)
            clear hd' ho'
            go_wp2_with fail
            go_fit HC.out
            rintro x w5 ⟨rfl, hB5, hb5⟩
            go_wp2
            go_roundw
            case rel => exact ⟨m + 1, by omega, by omega, by go_num, hB5, hbr.trans hb5⟩
            case measure => simp [intOf]; omega
          · have HC := hide (step_patch w1.heap.size wr v r s rv gb gv cb cv B Z N sv rows bs vs last lo k' p' q' D' d' dc' O' o' oc' num' A' m' mc' cs' ps' hV hR hAt szr (by omega) hm' hmc' hcm' (hr'.below hbr) (rd_cells_lt hr' hP'.1 (by rintro rfl; simp at hm'; omega)) (hP'.below hbr) (fun hg => (hP'.goodlt hg (by omega)).below hbr))
            clear hd' ho' hm'
            go_wp2_with fail
            go_fit HC.out
            rintro x w5 ⟨rfl, hB5, hb5⟩
            go_wp2
            go_roundw
            case rel => exact ⟨m + 1, by omega, by omega, by go_num, hB5, hbr.trans hb5⟩
            case measure => simp [intOf]; omega
        · obtain ⟨rows, bs, vs, last, hV0, hR0⟩ := hBr
          rcases (show m = n1 ∨ (m < n1 ∧ m = 200) by omega) with rfl | ⟨hl2, rfl⟩
          · clear hlt
            have szr := hbr.size
            go_wp2_with fail
            go_fit (pages_any wr v r s B Z N bs vs last since hV0)
            rintro x w5 ⟨o5, cs5, rfl, ho5, hP5, hb5⟩
            have hb15 := hbr.trans (hb5.mono hbr.size)
            obtain ⟨A5, c5, rfl, hl5, hc5, hcm5, hr5, ha5⟩ := own_out ho5
            go_wp2_with fail
            go_fit (rpages_any w5 lo rv gb gv cb cv B Z N rows sv bs vs last since (hR0.below hb5))
            rintro x w6 ⟨o6, cs6, rfl, ho6, hP6, hb6⟩
            have hb16 := hb15.trans (hb6.mono hb15.size)
            obtain ⟨A6, c6, rfl, hl6, hc6, hcm6, hr6, ha6⟩ := own_out ho6
            have hr56 := hr5.below hb6
            have hP56 := hP5.below hb6
            generalize pgL Z bs vs since B = PL at hc5 hP56 hc6 hP6 hr56 hr6
            go_wp2_with fail
            go_fit (samePages_eq A5 _ c5 cs5 A6 c6 cs6 PL _ _ w6 rfl hc5 (by unfold maxLen at hcm5; omega) hr56 hr6 hP56 hP6)
            rintro x w7 ⟨rfl, q7, rfl⟩
            go_wp2
            go_ret
            exact ⟨rfl, hb01.trans ((below_drewN hb16 q7).mono hb01.size)⟩
          · clear hlt
            have szr := hbr.size
            go_wp2_with fail
            go_fit (pages_any wr v r s B Z N bs vs last since hV0)
            rintro x w5 ⟨o5, cs5, rfl, ho5, hP5, hb5⟩
            have hb15 := hbr.trans (hb5.mono hbr.size)
            obtain ⟨A5, c5, rfl, hl5, hc5, hcm5, hr5, ha5⟩ := own_out ho5
            go_wp2_with fail
            go_fit (rpages_any w5 lo rv gb gv cb cv B Z N rows sv bs vs last since (hR0.below hb5))
            rintro x w6 ⟨o6, cs6, rfl, ho6, hP6, hb6⟩
            have hb16 := hb15.trans (hb6.mono hb15.size)
            obtain ⟨A6, c6, rfl, hl6, hc6, hcm6, hr6, ha6⟩ := own_out ho6
            have hr56 := hr5.below hb6
            have hP56 := hP5.below hb6
            generalize pgL Z bs vs since B = PL at hc5 hP56 hc6 hP6 hr56 hr6
            go_wp2_with fail
            go_fit (samePages_eq A5 _ c5 cs5 A6 c6 cs6 PL _ _ w6 rfl hc5 (by unfold maxLen at hcm5; omega) hr56 hr6 hP56 hP6)
            rintro x w7 ⟨rfl, q7, rfl⟩
            go_wp2
            go_ret
            exact ⟨rfl, hb01.trans ((below_drewN hb16 q7).mono hb01.size)⟩
  · have HBg := hide (fun W => begin_badE b z W none 0 0 (by rw [hse]; decide))
    have Hse := hide hse
    clear hse
    go_enter Try.func3, Try.ntmps3
    go_wp2_with fail
    rw [Hw0.out]
    go_fit (Haw.out w0)
    rintro x w1 ⟨rfl, hb1⟩
    have hb01 := hb0.trans (hb1.mono hb0.size)
    have hS1 := hS.below hb1
    have x0 := hS1.cell (j := 0) rfl
    have x1 := hS1.cell (j := 1) rfl
    go_wp2_with fail
    go_fit (small_any b z w1)
    cases hsm : smB b z with
    | false =>
      rintro x w3 ⟨rfl, hb3⟩
      have hb03 := hb01.trans (hb3.mono hb01.size)
      have hS3 := hS1.below hb3
      clear x0 x1
      have x0 := hS3.cell (j := 0) rfl
      have x1 := hS3.cell (j := 1) rfl
      go_wp2_with fail
      go_fit (rshape_any b z w3)
      rw [Hse.out]
      rintro x w4 ⟨rfl, hb4⟩
      have hb04 := hb03.trans (hb4.mono hb03.size)
      have hS4 := hS3.below hb4
      clear x0 x1
      have x0 := hS4.cell (j := 0) rfl
      have x1 := hS4.cell (j := 1) rfl
      go_wp2_with fail
      go_fit (HBg.out w4)
      rintro x w5 ⟨rfl, hb5⟩
      go_wp2
      go_ret
      exact ⟨rfl, hb04.trans (hb5.mono hb04.size)⟩
    | true =>
      rintro x w4 ⟨rfl, hb4⟩
      have hb04 := hb01.trans (hb4.mono hb01.size)
      have hS4 := hS1.below hb4
      clear x0 x1
      have x0 := hS4.cell (j := 0) rfl
      have x1 := hS4.cell (j := 1) rfl
      go_wp2_with fail
      go_fit (HBg.out w4)
      rintro x w5 ⟨rfl, hb5⟩
      go_wp2
      go_ret
      exact ⟨rfl, hb04.trans (hb5.mono hb04.size)⟩
end Go.Proofs.Ytjilkaciopiabaa
