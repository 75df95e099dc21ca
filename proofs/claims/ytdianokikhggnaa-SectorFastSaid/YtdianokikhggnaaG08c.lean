/- Laws 8: same. -/
import Derived.Test.YtdianokikhggnaaG08b
namespace Go.Proofs.Ytdianokikhggnaa
set_option maxRecDepth 20000
open Go.RowKit Go.Px Go.Maps
set_option linter.unusedVariables false
section
variable {w w' : World} {t f lm bm t2 f2 : Nat} {cs : List Value} {d : Dk}
set_option maxHeartbeats 1600000 in
theorem same08_any (h : Both w t f lm bm t2 f2 d) : Calls Try.prog 11 #[.pointer (some ⟨t, 0, none⟩), .pointer (some ⟨t2, 0, none⟩)] w fun e w' => e = .returned (.bool true) ∧ Below w.heap.size w w' := by
  obtain ⟨cs, hc⟩ := h.b
  have hN := h.a.ok.n2
  have hs2 := h.a.ok.s2
  have hll := d.looseL_len
  obtain ⟨N, hNe⟩ : ∃ N, d.fast.length = N := ⟨_, rfl⟩
  obtain ⟨S, hSe⟩ : ∃ S, d.size = S := ⟨_, rfl⟩
  have HSH := hide (shape08_any h.a)
  have hL : ∀ W, Below w.heap.size w W → Calls Try.prog 16 #[.pointer (some ⟨t, 0, none⟩)] W fun e w' => ∃ A c, e = .returned (.slice A d.looseL.length c) ∧ d.looseL.length ≤ c ∧ c ≤ 9223372036854775807 ∧ Rd w' A (ints d.looseL) ∧ (∀ a, A = some a → W.heap.size ≤ a.block) ∧ Below W.heap.size W w' := fun W hW => loose08_any (h.a.below hW)
  have hRL : ∀ W, Below w.heap.size w W → Calls Try.prog 34 #[.pointer (some ⟨t2, 0, none⟩)] W fun e w' => ∃ u, e = .returned u ∧ w'.ownsRow W.heap.size 3 1 u d.looseL.length (ints d.looseL) ∧ Below W.heap.size W w' := fun W hW => rloose08_any (hc.below hW)
  have hRD : ∀ W, Below w.heap.size w W → ∀ k : Nat, k < N → Calls Try.prog 18 #[.pointer (some ⟨t, 0, none⟩), .int .i64 (k : Int), .int .i64 1] W fun e w' => ∃ A c, e = .returned (.tuple #[.slice A (d.readB k 1).length c, .int .i64 (d.readE k 1)]) ∧ (d.readB k 1).length ≤ c ∧ c ≤ 9223372036854775807 ∧ Rd w' A (bys (d.readB k 1)) ∧ (∀ a, A = some a → W.heap.size ≤ a.block) ∧ Below W.heap.size W w' := fun W hW k hk => read08_any (h.a.below hW) k 1 (by omega) (by omega) (by omega) (by omega)
  have hRR : ∀ W, Below w.heap.size w W → ∀ k : Nat, k < N → Calls Try.prog 26 #[.pointer (some ⟨t2, 0, none⟩), .int .i64 (k : Int), .int .i64 1] W fun e w' => ∃ A c, e = .returned (.tuple #[.slice A (d.readB k 1).length c, .int .i64 (d.readE k 1)]) ∧ (d.readB k 1).length ≤ c ∧ c ≤ 9223372036854775807 ∧ Rd w' A (bys (d.readB k 1)) ∧ Below W.heap.size W w' := fun W hW k hk => rread08_any (hc.below hW) k 1 (by omega) (by omega) (by omega) (by omega)
  obtain ⟨cc, b1, _⟩ := hc.blk
  have x0 := b1.cell (j := 0) rfl
  have x1 := b1.cell (j := 1) rfl
  rw [hNe, hSe] at HSH
  rw [hNe] at hN hll x1
  rw [hSe] at hs2 x0
  obtain ⟨L, hLe⟩ : ∃ L, d.looseL = L := ⟨_, rfl⟩
  simp only [hLe] at hL hRL hll
  obtain ⟨m, hm⟩ : ∃ m, L.length = m := ⟨_, rfl⟩
  simp only [hm] at hL hRL hll
  have HL := hide hL
  have HRL := hide hRL
  have HRD := hide hRD
  have HRR := hide hRR
  have Hm := hide hm
  clear h hc b1 hL hRL hRD hRR hNe hSe hLe hm
  go_enter Try.func11, Try.ntmps11
  go_wp2_with fail
  go_fit HSH.out
  rintro x w1 ⟨rfl, hb1⟩
  have y0 := below_cell08 hb1 x0
  have y1 := below_cell08 hb1 x1
  clear HSH
  go_wp2_with fail
  go_fit (HL.out w1 hb1)
  rintro x w2 ⟨A, c, rfl, hmc, hc63, hr2, _, hb2⟩
  have hb02 := hb1.trans (hb2.mono hb1.size)
  clear HL y0 y1
  go_wp2_with fail
  go_fit (HRL.out w2 hb02)
  rintro x w3 ⟨u, rfl, hO3, hb3⟩
  obtain ⟨A3, c3, rfl, _, hc3, hcm3, hr3, _⟩ := own_out hO3
  have hb03 := hb02.trans (hb3.mono hb02.size)
  have HSA := hide (rsame08_eq A m c A3 c3 L w3 Hm.out (by omega) (hr2.below hb3) hr3)
  clear HRL hO3 hr2 hr3
  go_wp2_with fail
  go_fit HSA.out
  rintro x w4 ⟨rfl, hb4⟩
  have hb04 := hb03.trans (hb4.mono hb03.size)
  clear HSA
  go_wp2_with fail
  go_loopw [7] (fun s W => ∃ k : Nat, s = .int .i64 (k : Int) ∧ k ≤ N ∧ Below w.heap.size w W) (fun s _ => N - (RowKit.intOf s).toNat)
  case atStart => exact ⟨0, rfl, by omega, hb04⟩
  case round =>
    obtain ⟨k, rfl, hkm, hbk⟩ := hrel
    by_cases hlt : k < N
    · have HA := hide (HRD.out _ hbk k hlt)
      go_wp2_with fail
      go_fit HA.out
      rintro x w6 ⟨B, cB, rfl, hlB, hcB, hrB, _, hb6⟩
      have hb06 := hbk.trans (hb6.mono hbk.size)
      have hC := HRR.out w6 hb06 k hlt
      obtain ⟨bs, hbs⟩ : ∃ bs, d.readB k 1 = bs := ⟨_, rfl⟩
      obtain ⟨er, her⟩ : ∃ er, d.readE k 1 = er := ⟨_, rfl⟩
      rw [hbs, her] at hC
      rw [hbs] at hlB hrB ⊢
      rw [her]
      obtain ⟨n, hn⟩ : ∃ n, bs.length = n := ⟨_, rfl⟩
      rw [hn] at hC hlB ⊢
      have HC := hide hC
      have Hn := hide hn
      clear HA hC hbs her hn
      go_wp2_with fail
      go_fit HC.out
      rintro x w7 ⟨D, cD, rfl, hlD, hcD, hrD, hb7⟩
      have hb07 := hb06.trans (hb7.mono hb06.size)
      have cv1 := convB (n := n) cB Hn.out (hrB.below hb7)
      have cv2 := convB (n := n) cD Hn.out hrD
      clear HC
      go_wp2
      go_roundw
      case rel => exact ⟨k + 1, by go_num, by omega, hb07⟩
      case measure => simp [RowKit.intOf]; omega
    · go_wp2
      go_ret
      exact ⟨rfl, hbk⟩
end
end Go.Proofs.Ytdianokikhggnaa
