/- The law VolumeNew, walked. -/
import Derived.Test.YtjilkaciopiabaaF05i
namespace Go.Proofs.Ytjilkaciopiabaa
open Go.RowKit Go.Px
set_option linter.unusedVariables false
def smB (b z : Int) : Bool := decide (b ≤ 64 ∧ z ≤ 64)
theorem small_any (b z : Int) (w : World) : Calls Try.prog 8 #[shp b z] w fun e w' => e = .returned (.bool (smB b z)) ∧ Below w.heap.size w w' := by
  by_cases h1 : b ≤ 64
  · by_cases h2 : z ≤ 64
    · have H := hide (show smB b z = true from decide_eq_true ⟨h1, h2⟩)
      go_enter Try.func8, Try.ntmps8
      go_wp2
      go_ret
      exact ⟨by rw [H.out]; rfl, (Below.refl _ _).alloc (Nat.le_refl _) _⟩
    · have H := hide (show smB b z = false from decide_eq_false (by omega))
      go_enter Try.func8, Try.ntmps8
      go_wp2
      go_ret
      exact ⟨by rw [H.out]; rfl, (Below.refl _ _).alloc (Nat.le_refl _) _⟩
  · have H := hide (show smB b z = false from decide_eq_false (by omega))
    go_enter Try.func8, Try.ntmps8
    go_wp2
    go_ret
    exact ⟨by rw [H.out]; rfl, (Below.refl _ _).alloc (Nat.le_refl _) _⟩
set_option maxHeartbeats 3200000 in
theorem volumeNew_walk (b z : Int) (w : World) : Calls Try.prog 4 #[shp b z] w fun x w' => x = .returned (.bool true) ∧ Below w.heap.size w w' := by
  obtain ⟨g, hg⟩ : ∃ g, w.heap.size = g := ⟨_, rfl⟩
  obtain ⟨w0, hw0⟩ : ∃ w0, w.alloc (.cells #[.int .i64 b, .int .i64 z] 23) = w0 := ⟨_, rfl⟩
  have hS : Blk w0 g [.int .i64 b, .int .i64 z] 23 := by rw [← hw0, ← hg]; exact Blk.new w [.int .i64 b, .int .i64 z] _
  have hb0 : Below w.heap.size w w0 := by rw [← hw0]; exact (Below.refl _ _).alloc (Nat.le_refl _) _
  have x0 := hS.cell (j := 0) rfl
  have x1 := hS.cell (j := 1) rfl
  rcases shE_two b z with ⟨hsp, hse⟩ | hse
  · obtain ⟨⟨b1, b2⟩, z1, z2⟩ := hsp
    obtain ⟨B, rfl⟩ := Int.eq_ofNat_of_zero_le (show 0 ≤ b by omega)
    obtain ⟨Z, rfl⟩ := Int.eq_ofNat_of_zero_le (show 0 ≤ z by omega)
    obtain ⟨N, hN⟩ : ∃ N, B * Z = N := ⟨_, rfl⟩
    have HNew := hide (new_ok B Z N w0 (by omega) (by omega) hN)
    have hNI : (B : Int) * (Z : Int) = (N : Int) := by rw [← hN]; simp
    have hNb : N ≤ 16777216 := by rw [← hN]; exact Nat.mul_le_mul (show B ≤ 4096 by omega) (show Z ≤ 4096 by omega)
    have Hse := hide hse
    clear hse hN
    go_enter Try.func4, Try.ntmps4
    go_wp2_with fail
    go_fit HNew.out
    rintro x w1 ⟨v, r, s, rfl, hV1, hb1, l1, l2, l3⟩
    have hS1 := hS.below hb1
    have hb01 := hb0.trans (hb1.mono hb0.size)
    clear x0 x1
    have x0 := hS1.cell (j := 0) rfl
    have x1 := hS1.cell (j := 1) rfl
    go_wp2_with fail
    go_fit (rshape_any (B : Int) (Z : Int) w1)
    rw [Hse.out]
    rintro x w2 ⟨rfl, hb2⟩
    have hS2 := hS1.below hb2
    have hV2 := hV1.below hb2
    have hb02 := hb01.trans (hb2.mono hb01.size)
    clear x0 x1
    have x0 := hS2.cell (j := 0) rfl
    have x1 := hS2.cell (j := 1) rfl
    go_wp2_with fail
    go_fit (small_any (B : Int) (Z : Int) w2)
    cases hsm : smB (B : Int) (Z : Int) with
    | false =>
      rintro x w3 ⟨rfl, hb3⟩
      have hb03 := hb02.trans (hb3.mono hb02.size)
      clear hsm
      go_wp2_with fail
      go_fit (awake05_any w3)
      rintro x w4 ⟨rfl, hb4⟩
      go_wp2
      go_ret
      exact ⟨rfl, hb03.trans (hb4.mono hb03.size)⟩
    | true =>
      rintro x w3 ⟨rfl, hb3⟩
      have hb03 := hb02.trans (hb3.mono hb02.size)
      have hV3 := hV2.below hb3
      have hS3 := hS2.below hb3
      clear hsm x0 x1
      go_wp2_with fail
      go_fit (bytes_any w3 v r s B Z N _ _ 0 hV3)
      rintro x w4 ⟨u, rfl, ho4, hb4⟩
      obtain ⟨A, c, rfl, _, hc4, hcm4, hr4, ha4⟩ := own_out ho4
      have hb04 := hb03.trans (hb4.mono hb03.size)
      have hV4 := hV3.below hb4
      have hS4 := hS3.below hb4
      have x0 := hS4.cell (j := 0) rfl
      have x1 := hS4.cell (j := 1) rfl
      go_wp2
      go_loop [6] (fun i => ∃ (k : Nat), k ≤ N ∧ i = .int .i64 k) (fun i => N - (intOf i).toNat)
      case atStart => exact ⟨0, by omega, rfl⟩
      case round =>
        obtain ⟨k, hk, rfl⟩ := hrel
        by_cases hlt : k < N
        · obtain ⟨a, rfl, hc⟩ := hr4 k (.int .u8 0) (by rw [bys_zeros]; simp [hlt])
          go_wp2
          go_round
          case rel => exact ⟨k + 1, by omega, by go_num⟩
          case measure => simp [intOf]; omega
        · obtain rfl : k = N := by omega
          have hwN : IntKind.i64.wrap (k : Int) = (k : Int) := IntWalk.i64_in _ (by omega)
          go_wp2_with fail
          go_fit (pages_none w4 v r s B Z k _ _ 0 (-1) hV4 (fun i hi => by simp [List.getD, List.getElem?_replicate]; split <;> simp))
          rintro x w5 ⟨rfl, rfl⟩
          go_wp2_with fail
          go_fit (awake05_any w4)
          rintro x w5 ⟨rfl, hb5⟩
          go_wp2
          go_ret
          exact ⟨by simp, hb04.trans (hb5.mono hb04.size)⟩
  · have HNew := hide (new_bad b z w0 (by rw [hse]; decide))
    have Hse := hide hse
    clear hse
    go_enter Try.func4, Try.ntmps4
    go_wp2_with fail
    go_fit HNew.out
    rw [Hse.out]
    rintro x w1 ⟨rfl, hb1⟩
    have hS1 := hS.below hb1
    have hb01 := hb0.trans (hb1.mono hb0.size)
    clear x0 x1
    have x0 := hS1.cell (j := 0) rfl
    have x1 := hS1.cell (j := 1) rfl
    go_wp2_with fail
    go_fit (rshape_any b z w1)
    rw [Hse.out]
    rintro x w2 ⟨rfl, hb2⟩
    have hb02 := hb01.trans (hb2.mono hb01.size)
    go_wp2_with fail
    go_fit (awake05_any w2)
    rintro x w3 ⟨rfl, hb3⟩
    go_wp2
    go_ret
    exact ⟨rfl, hb02.trans (hb3.mono hb02.size)⟩
end Go.Proofs.Ytjilkaciopiabaa
