/- volume.New. -/
import Derived.Test.YtjilkaciopiabaaDoorF05e
import Derived.Deep.RegionWith
import Derived.IntWalk
import Derived.Deep.RegionHeldLaw
namespace Go.Proofs.YtjilkaciopiabaaDoor
open Go.RowKit Go.Px
set_option linter.unusedVariables false
theorem mayPages_nil (b z : Int) (w : World) : Calls Tryd.prog 32 #[shp b z, .slice none 0 0] w fun e w' => e = .returned (.bool true) ∧ Below w.heap.size w w' := by
  go_enter Tryd.func32, Tryd.ntmps32
  go_wp2
  refine wp_loop_rounds 1 ?_
  rw [rounds_succ]
  go_wp2
  go_ret
  exact ⟨rfl, (Below.refl _ _).alloc (Nat.le_refl _) _⟩
theorem lay_nil (v : Nat) (w : World) : Calls Tryd.prog 33 #[.pointer (some ⟨v, 0, none⟩), .slice none 0 0] w fun e w' => e = .returned (.tuple #[]) ∧ w = w' := by
  go_enter Tryd.func33, Tryd.ntmps33
  go_wp2
  refine wp_loop_rounds 1 ?_
  rw [rounds_succ]
  go_wp2
  go_end0
  exact ⟨rfl, rfl⟩
theorem bys_zeros (n : Nat) : bys (List.replicate n 0) = List.replicate n (.int .u8 0) := by simp [bys]
theorem ints_zeros (n : Nat) : ints (List.replicate n 0) = List.replicate n (.int .i64 0) := by simp [ints]
set_option maxHeartbeats 1600000 in
theorem load_bad (b z : Int) (w : World) (hE : shE b z ≠ 0) : Calls Tryd.prog 19 #[shp b z, .slice none 0 0] w fun e w' => e = .returned (.tuple #[.pointer none, .int .i64 (shE b z)]) ∧ Below w.heap.size w w' := by
  obtain ⟨w0, hw0⟩ : ∃ w0, w.alloc (.cells #[.int .i64 b, .int .i64 z] 23) = w0 := ⟨_, rfl⟩
  obtain ⟨g, hg⟩ : ∃ g, w.heap.size = g := ⟨_, rfl⟩
  have hS : Blk w0 g [.int .i64 b, .int .i64 z] 23 := by rw [← hw0, ← hg]; exact Blk.new w [.int .i64 b, .int .i64 z] _
  have hb0 : Below w.heap.size w w0 := by rw [← hw0]; exact (Below.refl _ _).alloc (Nat.le_refl _) _
  have x0 := hS.cell (j := 0) rfl
  have x1 := hS.cell (j := 1) rfl
  obtain ⟨E, hEE⟩ : ∃ E, shE b z = E := ⟨_, rfl⟩
  rw [hEE] at hE
  have HE := hide hEE
  have q1 : (E != 0) = true := by simpa using hE
  clear hEE hE
  go_enter Tryd.func19, Tryd.ntmps19
  go_wp2_with fail
  go_fit (shape_any b z w0)
  rw [HE.out]
  rintro x w1 ⟨rfl, hb1⟩
  go_wp2
  go_ret2
  exact ⟨by rw [HE.out]; rfl, hb0.trans (hb1.mono hb0.size)⟩
def NewIs (b z N : Nat) (w : World) (e : Ending) (w' : World) : Prop :=
  ∃ v r s, e = .returned (.tuple #[.pointer (some ⟨v, 0, none⟩), .int .i64 0]) ∧ VolIs w' v r s b z N (List.replicate N 0) (List.replicate b 0) 0 ∧ Below w.heap.size w w' ∧ w.heap.size ≤ v ∧ w.heap.size ≤ r ∧ w.heap.size ≤ s
set_option maxHeartbeats 3200000 in
theorem load_nil (b z N : Nat) (w : World) (hb : 1 ≤ b ∧ b ≤ 4096) (hz : 1 ≤ z ∧ z ≤ 4096) (hN : b * z = N) : Calls Tryd.prog 19 #[shp b z, .slice none 0 0] w (NewIs b z N w) := by
  obtain ⟨hb1', hb2'⟩ := hb
  obtain ⟨hz1', hz2'⟩ := hz
  have hNb : N ≤ 16777216 := by rw [← hN]; exact Nat.mul_le_mul hb2' hz2'
  have hNI : (b : Int) * (z : Int) = (N : Int) := by rw [← hN]; simp
  obtain ⟨w0, hw0⟩ : ∃ w0, w.alloc (.cells #[.int .i64 b, .int .i64 z] 23) = w0 := ⟨_, rfl⟩
  obtain ⟨g, hg⟩ : ∃ g, w.heap.size = g := ⟨_, rfl⟩
  have hS : Blk w0 g [.int .i64 b, .int .i64 z] 23 := by rw [← hw0, ← hg]; exact Blk.new w [.int .i64 b, .int .i64 z] _
  have hb0 : Below w.heap.size w w0 := by rw [← hw0]; exact (Below.refl _ _).alloc (Nat.le_refl _) _
  have x0 := hS.cell (j := 0) rfl
  have x1 := hS.cell (j := 1) rfl
  have hwN : IntKind.i64.wrap (N : Int) = (N : Int) := IntWalk.i64_in _ (by omega)
  have hm1 := fun W => run_mkB (P := Tryd.prog) (t := 36) (e := 5) (z := .int .u8 0) (bytes := 1) Tryd.underlying36 (by kernel_rfl) rfl (N := N) (by omega) (by omega) W
  have hm2 := fun W => run_mkB (P := Tryd.prog) (t := 43) (e := 3) (z := .int .i64 0) (bytes := 8) Tryd.underlying43 (by kernel_rfl) rfl (N := b) (by omega) (by omega) W
  have HN := hide hN
  have HE := hide (show shE b z = 0 by unfold shE; rw [if_pos ⟨⟨by omega, by omega⟩, by omega, by omega⟩])
  clear hN
  go_enter Tryd.func19, Tryd.ntmps19
  go_wp2_with fail
  go_fit (shape_any b z w0)
  rw [HE.out]
  rintro x w1 ⟨rfl, hb1⟩
  have hb01 := hb0.trans (hb1.mono hb0.size)
  have hS1 := hS.below hb1
  clear x0 x1
  have x0 := hS1.cell (j := 0) rfl
  have x1 := hS1.cell (j := 1) rfl
  go_wp2_with fail
  go_fit (mayPages_nil b z w1)
  rintro x w2 ⟨rfl, hb2⟩
  have hb02 := hb01.trans (hb2.mono hb01.size)
  have hS2 := hS1.below hb2
  clear x0 x1
  have x0 := hS2.cell (j := 0) rfl
  have x1 := hS2.cell (j := 1) rfl
  have xa0 := fun o => (hS2.alloc o).cell (j := 0) rfl
  have xa1 := fun o => (hS2.alloc o).cell (j := 1) rfl
  have xb0 := fun o o' => ((hS2.alloc o).alloc o').cell (j := 0) rfl
  have xb1 := fun o o' => ((hS2.alloc o).alloc o').cell (j := 1) rfl
  go_wp2
  have xc0 := fun o o' o'' => (((hS2.alloc o).alloc o').alloc o'').cell (j := 0) rfl
  have xc1 := fun o o' o'' => (((hS2.alloc o).alloc o').alloc o'').cell (j := 1) rfl
  have S0 : w2.drew.cell? ⟨g, 0, none⟩ = some (.int .i64 b) ∧ w2.drew.cell? ⟨g, 1, none⟩ = some (.int .i64 z) := ⟨x0, x1⟩
  go_region_held_law (fun W => W.cell? ⟨g, 0, none⟩ = some (.int .i64 b) ∧ W.cell? ⟨g, 1, none⟩ = some (.int .i64 z)) (first | assumption | exact ⟨xa0 _, xa1 _⟩ | exact ⟨xb0 _ _, xb1 _ _⟩ | exact ⟨xc0 _ _ _, xc1 _ _ _⟩) (fail)
  all_goals
    clear hm1 hm2 xa0 xa1 xb0 xb1 xc0 xc1 hwN
    go_wp2_with fail
    refine (lay_nil _ _).mono ?_
    rintro x w5 ⟨rfl, rfl⟩
    go_wp2
    go_ret2
  · have hbA : Below w.heap.size w (((w2.alloc (.cells (List.replicate N (.int .u8 0)).toArray 5)).alloc (.cells (List.replicate b (.int .i64 0)).toArray 3)).alloc (.cells #[.int .i64 b, .int .i64 z, .slice (some ⟨w2.heap.size, 0, none⟩) N N, .slice (some ⟨w2.heap.size + 1, 0, none⟩) b b, .int .i64 0] 45)) :=
      ((hb02.alloc hb02.size _).alloc (by have := hb02.size; simp; omega) _).alloc (by have := hb02.size; simp; omega) _
    have hR := ((Blk.new w2 (List.replicate N (.int .u8 0)) 5).alloc (.cells (List.replicate b (.int .i64 0)).toArray 3)).alloc (.cells #[.int .i64 b, .int .i64 z, .slice (some ⟨w2.heap.size, 0, none⟩) N N, .slice (some ⟨w2.heap.size + 1, 0, none⟩) b b, .int .i64 0] 45)
    have hS' := (Blk.new (w2.alloc (.cells (List.replicate N (.int .u8 0)).toArray 5)) (List.replicate b (.int .i64 0)) 3).alloc (.cells #[.int .i64 b, .int .i64 z, .slice (some ⟨w2.heap.size, 0, none⟩) N N, .slice (some ⟨w2.heap.size + 1, 0, none⟩) b b, .int .i64 0] 45)
    have hV := Blk.new ((w2.alloc (.cells (List.replicate N (.int .u8 0)).toArray 5)).alloc (.cells (List.replicate b (.int .i64 0)).toArray 3)) [.int .i64 b, .int .i64 z, .slice (some ⟨w2.heap.size, 0, none⟩) N N, .slice (some ⟨w2.heap.size + 1, 0, none⟩) b b, .int .i64 0] 45
    rw [World.size_alloc] at hS'
    rw [World.size_alloc, World.size_alloc] at hV
    have hsz := hb02.size
    refine ⟨w2.heap.size + 1 + 1, w2.heap.size, w2.heap.size + 1, rfl, ⟨?_, ?_, ?_, by simp, by simp, HN.out, by omega, by omega, by omega, ⟨hb1', hb2'⟩, ⟨hz1', hz2'⟩⟩, hbA.drew, by omega, by omega, by omega⟩
    · exact hV
    · rw [bys_zeros]; exact hR
    · rw [ints_zeros]; exact hS'
  · have hbA : Below w.heap.size w (((w2.alloc (.cells (List.replicate b (.int .i64 0)).toArray 3)).alloc (.cells (List.replicate N (.int .u8 0)).toArray 5)).alloc (.cells #[.int .i64 b, .int .i64 z, .slice (some ⟨w2.heap.size + 1, 0, none⟩) N N, .slice (some ⟨w2.heap.size, 0, none⟩) b b, .int .i64 0] 45)) :=
      ((hb02.alloc hb02.size _).alloc (by have := hb02.size; simp; omega) _).alloc (by have := hb02.size; simp; omega) _
    have hS' := ((Blk.new w2 (List.replicate b (.int .i64 0)) 3).alloc (.cells (List.replicate N (.int .u8 0)).toArray 5)).alloc (.cells #[.int .i64 b, .int .i64 z, .slice (some ⟨w2.heap.size + 1, 0, none⟩) N N, .slice (some ⟨w2.heap.size, 0, none⟩) b b, .int .i64 0] 45)
    have hR := (Blk.new (w2.alloc (.cells (List.replicate b (.int .i64 0)).toArray 3)) (List.replicate N (.int .u8 0)) 5).alloc (.cells #[.int .i64 b, .int .i64 z, .slice (some ⟨w2.heap.size + 1, 0, none⟩) N N, .slice (some ⟨w2.heap.size, 0, none⟩) b b, .int .i64 0] 45)
    have hV := Blk.new ((w2.alloc (.cells (List.replicate b (.int .i64 0)).toArray 3)).alloc (.cells (List.replicate N (.int .u8 0)).toArray 5)) [.int .i64 b, .int .i64 z, .slice (some ⟨w2.heap.size + 1, 0, none⟩) N N, .slice (some ⟨w2.heap.size, 0, none⟩) b b, .int .i64 0] 45
    rw [World.size_alloc] at hR
    rw [World.size_alloc, World.size_alloc] at hV
    have hsz := hb02.size
    refine ⟨w2.heap.size + 1 + 1, w2.heap.size + 1, w2.heap.size, rfl, ⟨?_, ?_, ?_, by simp, by simp, HN.out, by omega, by omega, by omega, ⟨hb1', hb2'⟩, ⟨hz1', hz2'⟩⟩, hbA.drew, by omega, by omega, by omega⟩
    · exact hV
    · rw [bys_zeros]; exact hR
    · rw [ints_zeros]; exact hS'
theorem new_bad (b z : Int) (w : World) (hE : shE b z ≠ 0) : Calls Tryd.prog 18 #[shp b z] w fun e w' => e = .returned (.tuple #[.pointer none, .int .i64 (shE b z)]) ∧ Below w.heap.size w w' := by
  have hb0 : Below w.heap.size w (w.alloc (.cells #[.int .i64 b, .int .i64 z] 23)) := (Below.refl _ _).alloc (Nat.le_refl _) _
  have HE := hide hE
  clear hE
  go_enter Tryd.func18, Tryd.ntmps18
  go_wp2_with fail
  go_fit (load_bad b z _ HE.out)
  rintro x w1 ⟨rfl, hb1⟩
  go_wp2
  go_ret2
  exact ⟨rfl, hb0.trans (hb1.mono hb0.size)⟩
theorem new_ok (b z N : Nat) (w : World) (hb : 1 ≤ b ∧ b ≤ 4096) (hz : 1 ≤ z ∧ z ≤ 4096) (hN : b * z = N) : Calls Tryd.prog 18 #[shp b z] w (NewIs b z N w) := by
  have hb0 : Below w.heap.size w (w.alloc (.cells #[.int .i64 b, .int .i64 z] 23)) := (Below.refl _ _).alloc (Nat.le_refl _) _
  have H := hide (load_nil b z N (w.alloc (.cells #[.int .i64 b, .int .i64 z] 23)) hb hz hN)
  clear hb hz hN
  go_enter Tryd.func18, Tryd.ntmps18
  go_wp2_with fail
  go_fit H.out
  rintro x w1 ⟨v, r, s, rfl, hV, hb1, l1, l2, l3⟩
  go_wp2
  go_ret2
  simp at l1 l2 l3
  exact ⟨v, r, s, rfl, hV, hb0.trans (hb1.mono hb0.size), by omega, by omega, by omega⟩
end Go.Proofs.YtjilkaciopiabaaDoor
