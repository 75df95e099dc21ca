/- Laws 13: awake. -/
import Derived.Test.YtnjleagikplbiaaF13n
import Derived.Test.YtnjleagikplbiaaF13e
import Derived.Test.YtnjleagikplbiaaF13o
namespace Go.Proofs.Ytnjleagikplbiaa
open Go.RowKit Go.Px
set_option linter.unusedVariables false

set_option maxHeartbeats 1600000 in
theorem awake13_any (w : World) : Calls Try.prog 17 #[] w fun e w' => e = .returned (.bool true) ∧ Below w.heap.size w w' := by
  have p1 : primN 0 [1, 4, 6] 5 = 6 := by decide +kernel
  have p2 : primE 0 [1, 4, 6] 5 = 0 := by decide +kernel
  have p3 : nextE 0 [1, 4, 6] [2] [4] = 0 := by decide +kernel
  have p4 : nextEp 0 [1, 4, 6] [2] [4] = 1 := by decide +kernel
  have p5 : nextM 0 [1, 4, 6] [2] [4] = [1, 2, 6] := by decide +kernel
  have P1 := hide p1
  have P2 := hide p2
  have P3 := hide p3
  have P4 := hide p4
  have P5 := hide p5
  clear p1 p2 p3 p4 p5
  obtain ⟨g, hg⟩ : ∃ g, w.heap.size = g := ⟨_, rfl⟩
  obtain ⟨w0, hw0⟩ : ∃ w0, (w.alloc (.cells #[.int .i64 1, .int .i64 4, .int .i64 6] 3)).alloc (.cells #[.int .i64 0, .slice (some ⟨g, 0, none⟩) 3 3] 24) = w0 := ⟨_, rfl⟩
  have hM : Rd w0 (some ⟨g, 0, none⟩) (ints [1, 4, 6]) := by rw [← hw0, ← hg]; exact (Rd.newN w (ints [1, 4, 6]) _ (0, 0)).alloc _
  have hG : Blk w0 (g + 1) [.int .i64 0, .slice (some ⟨g, 0, none⟩) 3 3] 24 := by
    rw [← hw0, ← hg]
    have := Blk.new (w.alloc (.cells #[.int .i64 1, .int .i64 4, .int .i64 6] 3)) [.int .i64 0, .slice (some ⟨w.heap.size, 0, none⟩) 3 3] 24
    rwa [World.size_alloc] at this
  have hb0 : Below w.heap.size w w0 := by rw [← hw0]; exact ((Below.refl _ _).alloc (Nat.le_refl _) _).alloc (by simp) _
  have k0 := hG.cell (j := 0) rfl
  have k1 := hG.cell (j := 1) rfl
  go_enter Try.func17, Try.ntmps17
  go_wp2_with fail
  go_fit (prim_any 0 (some ⟨g, 0, none⟩) 3 3 [1, 4, 6] 5 w0 rfl hM)
  rw [P1.out, P2.out]
  rintro e w1 ⟨rfl, hb1⟩
  have hM1 := hM.below hb1
  have hG1 := hG.below hb1
  have hb01 := hb0.trans (hb1.mono hb0.size)
  have j0 := hG1.cell (j := 0) rfl
  have j1 := hG1.cell (j := 1) rfl
  have hA : Rd ((w1.alloc (.cells #[.int .i64 2] 3)).alloc (.cells #[.int .i64 4] 3)) (some ⟨w1.heap.size, 0, none⟩) (ints [2]) := (Rd.newN w1 (ints [2]) _ (0, 0)).alloc _
  have hD : Rd ((w1.alloc (.cells #[.int .i64 2] 3)).alloc (.cells #[.int .i64 4] 3)) (some ⟨w1.heap.size + 1, 0, none⟩) (ints [4]) := by
    have := Rd.newN (w1.alloc (.cells #[.int .i64 2] 3)) (ints [4]) 3 (0, 0)
    rwa [World.size_alloc] at this
  have hb2 : Below w1.heap.size w1 ((w1.alloc (.cells #[.int .i64 2] 3)).alloc (.cells #[.int .i64 4] 3)) := ((Below.refl _ _).alloc (Nat.le_refl _) _).alloc (by simp) _
  have hM2 := hM1.below hb2
  have hG2 := hG1.below hb2
  have hb02 := hb01.trans (hb2.mono hb01.size)
  go_wp2_with fail
  go_fit (next_any 0 (some ⟨g, 0, none⟩) 3 3 [1, 4, 6] (some ⟨w1.heap.size, 0, none⟩) 1 1 [2] (some ⟨w1.heap.size + 1, 0, none⟩) 1 1 [4] _ rfl rfl rfl (by omega) (by omega) hM2 hA hD (by omega) (by omega))
  rintro e w3 ⟨A, c, rfl, hrn, hb3⟩
  rw [P3.out, P4.out, P5.out]
  rw [P5.out] at hrn
  obtain ⟨a, rfl, _⟩ := hrn 0 (.int .i64 1) rfl
  have hG3 := (hG2.below hb3).alloc (.cells #[.int .i64 1, .slice (some a) 3 c] 24)
  have hN3 := Blk.new w3 [.int .i64 1, .slice (some a) 3 c] 24
  have hr3 := hrn.alloc (.cells #[.int .i64 1, .slice (some a) 3 c] 24)
  have hb03 := (hb02.trans (hb3.mono hb02.size)).alloc (hb02.trans (hb3.mono hb02.size)).size (.cells #[.int .i64 1, .slice (some a) 3 c] 24)
  have i0 := hG3.cell (j := 0) rfl
  have i1 := hG3.cell (j := 1) rfl
  have i2 := hN3.cell (j := 0) rfl
  have i3 := hN3.cell (j := 1) rfl
  go_wp2_with fail
  go_fit (quorum_any 0 (some ⟨g, 0, none⟩) 3 3 _ (by omega))
  rintro e w4 ⟨rfl, hb4⟩
  have hN4 := hN3.below hb4
  have l0 := hN4.cell (j := 0) rfl
  have l1 := hN4.cell (j := 1) rfl
  have l2 := (hr3.below hb4).atS (k := 0) (u := .int .i64 2) rfl
  go_wp2
  go_ret
  exact ⟨rfl, hb03.trans (hb4.mono hb03.size)⟩
end Go.Proofs.Ytnjleagikplbiaa
