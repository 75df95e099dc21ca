/- A table that nobody made; the law TableNobody, walked. -/
import Derived.Test.YtplodjccjobjbaaF06d
namespace Go.Proofs.Ytplodjccjobjbaa
open Go.RowKit Go.Px Go.Maps
set_option linter.unusedVariables false
/-- A pointer to no table, or to one that is nothing. -/
def NobT (w : World) (p : Option Addr) : Prop := p = none ∨ ∃ g, p = some ⟨g, 0, none⟩ ∧ Blk w g [.map none] 58
theorem NobT.below {w w' : World} {p : Option Addr} (h : NobT w p) (hb : Below w.heap.size w w') : NobT w' p := by
  rcases h with h | ⟨g, rfl, hB⟩
  · exact .inl h
  · exact .inr ⟨g, rfl, hB.below hb⟩
@[go_sem] theorem eqnil_mapN (w : World) : (binOp .neq 56 (.map none) (.map none)).run Try.prog w = .ok (.bool false) w := by kernel_rfl
theorem made06_nob (w : World) (p : Option Addr) (h : NobT w p) : Calls Try.prog 26 #[.pointer p] w fun e w' => e = .returned (.bool false) ∧ w = w' := by
  rcases h with rfl | ⟨g, rfl, hB⟩
  · go_enter Try.func26, Try.ntmps26
    go_wp2
    go_ret
    exact ⟨rfl, rfl⟩
  · have x0 := hB.cell (j := 0) rfl
    go_enter Try.func26, Try.ntmps26
    go_wp2
    go_ret
    exact ⟨rfl, rfl⟩
set_option maxHeartbeats 800000 in
theorem ask_nob (w : World) (p : Option Addr) (c s : Int) (h : NobT w p) : Calls Try.prog 18 #[.pointer p, .int .i64 c, .int .i64 s] w fun e w' => e = .returned (.tuple #[.int .i64 0, resv 0 none 0 0, .int .i64 4]) ∧ Below w.heap.size w w' := by
  obtain ⟨g, hg⟩ : ∃ g, w.heap.size = g := ⟨_, rfl⟩
  obtain ⟨w0, hw0⟩ : ∃ x, w.alloc (.cells #[.int .u8 0, .slice none 0 0] 33) = x := ⟨_, rfl⟩
  have hZ : Blk w0 g [.int .u8 0, .slice none 0 0] 33 := by rw [← hw0, ← hg]; exact Blk.new w [.int .u8 0, .slice none 0 0] _
  have hb0 : Below w.heap.size w w0 := by rw [← hw0]; exact (Below.refl _ _).alloc (Nat.le_refl _) _
  have Hw0 := hide hw0
  clear hw0
  have z0 := hZ.cell (j := 0) rfl
  have z1 := hZ.cell (j := 1) rfl
  have fz0 := hZ.frozen 0
  have fz1 := hZ.frozen 1
  go_enter Try.func18, Try.ntmps18
  go_wp2_with fail
  rw [Hw0.out]
  go_fit (made06_nob w0 p (h.below hb0))
  rintro x w1 ⟨rfl, rfl⟩
  go_wp2
  refine bodyPost_ret (results_scs rfl rfl ((hZ.set 0 (.int .u8 0)).set 1 (.slice none 0 0)) Try.underlying33 rfl (by kernel_rfl)) rfl ?_
  exact ⟨rfl, (hb0.setCell (p := ⟨g, 0, none⟩) (leBk (by omega)) _).setCell (p := ⟨g, 1, none⟩) (leBk (by omega)) _⟩
theorem last_nob (w : World) (p : Option Addr) (c : Int) (h : NobT w p) : Calls Try.prog 12 #[.pointer p, .int .i64 c] w fun e w' => e = .returned (.tuple #[.int .i64 0, .bool false]) ∧ w = w' := by
  go_enter Try.func12, Try.ntmps12
  go_wp2_with fail
  go_fit (made06_nob w p h)
  rintro x w1 ⟨rfl, rfl⟩
  go_wp2
  go_ret2
  exact ⟨rfl, rfl⟩
theorem len_nob (w : World) (p : Option Addr) (h : NobT w p) : Calls Try.prog 11 #[.pointer p] w fun e w' => e = .returned (.int .i64 0) ∧ w = w' := by
  go_enter Try.func11, Try.ntmps11
  go_wp2_with fail
  go_fit (made06_nob w p h)
  rintro x w1 ⟨rfl, rfl⟩
  go_wp2
  go_ret
  exact ⟨rfl, rfl⟩
theorem rows_nob (w : World) (p : Option Addr) (h : NobT w p) : Calls Try.prog 15 #[.pointer p] w fun e w' => e = .returned (.slice none 0 0) ∧ w = w' := by
  go_enter Try.func15, Try.ntmps15
  go_wp2_with fail
  go_fit (made06_nob w p h)
  rintro x w1 ⟨rfl, rfl⟩
  go_wp2
  go_ret
  exact ⟨rfl, rfl⟩
set_option maxHeartbeats 800000 in
theorem put_nob (w : World) (p : Option Addr) (c s : Int) (k : Nat) (A : Option Addr) (d dc : Nat) (h : NobT w p) : Calls Try.prog 17 #[.pointer p, .int .i64 c, .int .i64 s, resv k A d dc] w fun e w' => e = .returned (.int .i64 4) ∧ Below w.heap.size w w' := by
  obtain ⟨w0, hw0⟩ : ∃ x, w.alloc (.cells #[.int .u8 k, .slice A d dc] 33) = x := ⟨_, rfl⟩
  have hb0 : Below w.heap.size w w0 := by rw [← hw0]; exact (Below.refl _ _).alloc (Nat.le_refl _) _
  have Hw0 := hide hw0
  clear hw0
  go_enter Try.func17, Try.ntmps17
  go_wp2_with fail
  rw [Hw0.out]
  go_fit (ask_nob w0 p c s (h.below hb0))
  rintro x w1 ⟨rfl, hb1⟩
  have hb01 := hb0.trans (hb1.mono hb0.size)
  go_wp2
  go_ret
  exact ⟨rfl, hb01.alloc hb01.size _⟩
abbrev callv (dn : Bool) (c s : Int) (k : Nat) (A : Option Addr) (d dc : Nat) : Value := .agg #[.bool dn, .int .i64 c, .int .i64 s, .int .u8 k, .slice A d dc]
set_option maxHeartbeats 3200000 in
theorem tableNobody_walk (dn : Bool) (c s : Int) (k : Nat) (A : Option Addr) (d dc : Nat) (w : World) :
    Calls Try.prog 7 #[callv dn c s k A d dc] w fun x w' => x = .returned (.bool true) ∧ Below w.heap.size w w' := by
  obtain ⟨g, hg⟩ : ∃ g, w.heap.size = g := ⟨_, rfl⟩
  obtain ⟨w0, hw0⟩ : ∃ w0, ((w.alloc (.cells #[.bool dn, .int .i64 c, .int .i64 s, .int .u8 k, .slice A d dc] 35)).alloc (.cells #[.map none] 58)).alloc (.cells #[.pointer none, .pointer (some ⟨g + 1, 0, none⟩)] 25) = w0 := ⟨_, rfl⟩
  have hO0 : Blk w0 g [.bool dn, .int .i64 c, .int .i64 s, .int .u8 k, .slice A d dc] 35 := by
    rw [← hw0, ← hg]; exact ((Blk.new w [.bool dn, .int .i64 c, .int .i64 s, .int .u8 k, .slice A d dc] _).alloc _).alloc _
  have hV0 : Blk w0 (g + 1) [.map none] 58 := by
    rw [← hw0, ← hg]
    have := (Blk.new (w.alloc (.cells #[.bool dn, .int .i64 c, .int .i64 s, .int .u8 k, .slice A d dc] 35)) [.map none] 58).alloc (.cells #[.pointer none, .pointer (some ⟨w.heap.size + 1, 0, none⟩)] 25)
    rwa [World.size_alloc] at this
  have hP0 : Blk w0 (g + 1 + 1) [.pointer none, .pointer (some ⟨g + 1, 0, none⟩)] 25 := by
    rw [← hw0, ← hg]
    have := Blk.new ((w.alloc (.cells #[.bool dn, .int .i64 c, .int .i64 s, .int .u8 k, .slice A d dc] 35)).alloc (.cells #[.map none] 58)) [.pointer none, .pointer (some ⟨w.heap.size + 1, 0, none⟩)] 25
    rwa [World.size_alloc, World.size_alloc] at this
  have hb0 : Below w.heap.size w w0 := by rw [← hw0]; exact (((Below.refl _ _).alloc (Nat.le_refl _) _).alloc (by simp) _).alloc (by simp; omega) _
  have hwm : w = w := rfl
  go_enter Try.func7, Try.ntmps7
  go_wp2_with fail
  clear hw0
  go_loopw [16] (fun i wr => ∃ (j : Nat), j ≤ 2 ∧ i = .int .i64 j ∧ Below w0.heap.size w0 wr) (fun i _ => 2 - (intOf i).toNat)
  case atStart => exact ⟨0, by omega, rfl, Below.refl _ _⟩
  case round =>
    obtain ⟨j, hj, rfl, hB⟩ := hrel
    by_cases hlt : j < 2
    · obtain ⟨p, hpc, hnob⟩ : ∃ p, wr.cell? ⟨g + 1 + 1, j, none⟩ = some (.pointer p) ∧ NobT wr p := by
        have hPr := hP0.below hB
        obtain rfl | rfl : j = 0 ∨ j = 1 := by omega
        · exact ⟨none, hPr.cell (j := 0) rfl, .inl rfl⟩
        · exact ⟨some ⟨g + 1, 0, none⟩, hPr.cell (j := 1) rfl, .inr ⟨g + 1, rfl, hV0.below hB⟩⟩
      have hOr := hO0.below hB
      have k1 := hOr.cell (j := 1) rfl
      have k2 := hOr.cell (j := 2) rfl
      go_wp2_with fail
      go_fit (ask_nob wr p c s hnob)
      rintro x w1 ⟨rfl, hb1⟩
      have hn1 := hnob.below hb1
      have hB1 := hB.trans (hb1.mono hB.size)
      have hO1 := hO0.below hB1
      obtain ⟨g1, hg1⟩ : ∃ g, w1.heap.size = g := ⟨_, rfl⟩
      obtain ⟨w2, hw2⟩ : ∃ w2, w1.alloc (.cells #[.int .u8 0, .slice none 0 0] 33) = w2 := ⟨_, rfl⟩
      have hR2 : Blk w2 g1 [.int .u8 0, .slice none 0 0] 33 := by rw [← hw2, ← hg1]; exact Blk.new w1 [.int .u8 0, .slice none 0 0] _
      have hb12 : Below w1.heap.size w1 w2 := by rw [← hw2]; exact (Below.refl _ _).alloc (Nat.le_refl _) _
      have hn2 := hn1.below hb12
      have hB2 := hB1.trans (hb12.mono hB1.size)
      have hO2 := hO0.below hB2
      clear k1 k2
      have k1 := (hO1.alloc (.cells #[.int .u8 0, .slice none 0 0] 33)).cell (j := 1) rfl
      have Hw2 := hide hw2
      clear hw2
      go_wp2_with fail
      rw [Hw2.out]
      go_fit (last_nob w2 p c hn2)
      rintro x w3 ⟨rfl, rfl⟩
      clear k1
      have k1 := hO2.cell (j := 1) rfl
      have k2 := hO2.cell (j := 2) rfl
      have k3 := hO2.cell (j := 3) rfl
      have k4 := hO2.cell (j := 4) rfl
      go_wp2_with fail
      go_fit (put_nob w2 p c s k A d dc hn2)
      rintro x w4 ⟨rfl, hb4⟩
      have hn4 := hn2.below hb4
      have hR4 := hR2.below hb4
      have hB4 := hB2.trans (hb4.mono hB2.size)
      have r0 := hR4.cell (j := 0) rfl
      go_wp2_with fail
      go_fit (rows_nob w4 p hn4)
      rintro x w5 ⟨rfl, rfl⟩
      go_wp2_with fail
      go_fit (len_nob w4 p hn4)
      rintro x w5 ⟨rfl, rfl⟩
      go_wp2
      go_roundw
      case rel => exact ⟨j + 1, by omega, by go_num, hB4⟩
      case measure => simp [intOf]; omega
    · obtain rfl : j = 2 := by omega
      go_wp2_with fail
      go_fit (awake06_any wr)
      rintro x w5 ⟨rfl, hb5⟩
      go_wp2
      go_ret
      have := hB.trans (hb5.mono hB.size)
      exact ⟨rfl, hb0.trans (this.mono hb0.size)⟩
end Go.Proofs.Ytplodjccjobjbaa
