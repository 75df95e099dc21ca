/- plinthref05.Load of no pages; begin. -/
import Derived.Test.YtjilkaciopiabaaDoorF05r
namespace Go.Proofs.YtjilkaciopiabaaDoor
open Go.RowKit Go.Px
set_option linter.unusedVariables false
theorem rlaid_nil (b z : Int) (w : World) : Calls Tryd.prog 37 #[shp b z, .slice none 0 0] w fun e w' => e = .returned (.bool true) ∧ Below w.heap.size w w' := by
  go_enter Tryd.func37, Tryd.ntmps37
  go_wp2
  refine wp_loop_rounds 1 ?_
  rw [rounds_succ]
  go_wp2
  go_ret
  exact ⟨rfl, (Below.refl _ _).alloc (Nat.le_refl _) _⟩
theorem rpatch_nil (b z : Int) (rv : Nat) (w : World) (h0 : w.cell? ⟨rv, 0, none⟩ = some (.int .i64 b)) (h1 : w.cell? ⟨rv, 1, none⟩ = some (.int .i64 z)) : Calls Tryd.prog 21 #[.pointer (some ⟨rv, 0, none⟩), .slice none 0 0] w fun e w' => e = .returned (.int .i64 0) ∧ Below w.heap.size w w' := by
  go_enter Tryd.func21, Tryd.ntmps21
  go_wp2_with fail
  go_fit (rlaid_nil b z w)
  rintro x w1 ⟨rfl, hb1⟩
  go_wp2
  refine wp_loop_rounds 1 ?_
  rw [rounds_succ]
  go_wp2
  go_ret
  exact ⟨rfl, hb1⟩
theorem rnew_bad (b z : Int) (w : World) (hE : shE b z ≠ 0) : Calls Tryd.prog 36 #[shp b z] w fun e w' => e = .returned (.tuple #[.pointer none, .int .i64 (shE b z)]) ∧ Below w.heap.size w w' := by
  have hb0 : Below w.heap.size w (w.alloc (.cells #[.int .i64 b, .int .i64 z] 23)) := (Below.refl _ _).alloc (Nat.le_refl _) _
  have hS := Blk.new w [.int .i64 b, .int .i64 z] 23
  have x0 := hS.cell (j := 0) rfl
  have x1 := hS.cell (j := 1) rfl
  obtain ⟨E, hEE⟩ : ∃ E, shE b z = E := ⟨_, rfl⟩
  rw [hEE] at hE
  have HE := hide hEE
  have q1 : (E != 0) = true := by simpa using hE
  clear hEE hE
  go_enter Tryd.func36, Tryd.ntmps36
  go_wp2_with fail
  go_fit (rshape_any b z _)
  rw [HE.out]
  rintro x w1 ⟨rfl, hb1⟩
  go_wp2
  go_ret2
  exact ⟨by rw [HE.out]; rfl, hb0.trans (hb1.mono hb0.size)⟩
theorem rload_bad (b z : Int) (w : World) (hE : shE b z ≠ 0) : Calls Tryd.prog 20 #[shp b z, .slice none 0 0] w fun e w' => e = .returned (.tuple #[.pointer none, .int .i64 (shE b z)]) ∧ Below w.heap.size w w' := by
  have hb0 : Below w.heap.size w (w.alloc (.cells #[.int .i64 b, .int .i64 z] 23)) := (Below.refl _ _).alloc (Nat.le_refl _) _
  have hS := Blk.new w [.int .i64 b, .int .i64 z] 23
  have x0 := hS.cell (j := 0) rfl
  have x1 := hS.cell (j := 1) rfl
  have HN := hide (rnew_bad b z (w.alloc (.cells #[.int .i64 b, .int .i64 z] 23)) hE)
  obtain ⟨E, hEE⟩ : ∃ E, shE b z = E := ⟨_, rfl⟩
  rw [hEE] at hE
  have HE := hide hEE
  have q1 : (E != 0) = true := by simpa using hE
  clear hEE hE
  go_enter Tryd.func20, Tryd.ntmps20
  go_wp2_with fail
  go_fit HN.out
  rw [HE.out]
  rintro x w1 ⟨rfl, hb1⟩
  go_wp2
  go_ret2
  exact ⟨by rw [HE.out]; rfl, hb0.trans (hb1.mono hb0.size)⟩
theorem rload_ok (b z : Nat) (w : World) (hb : 1 ≤ b ∧ b ≤ 4096) (hz : 1 ≤ z ∧ z ≤ 4096) : Calls Tryd.prog 20 #[shp b z, .slice none 0 0] w fun e w' => ∃ rv, e = .returned (.tuple #[.pointer (some ⟨rv, 0, none⟩), .int .i64 0]) ∧ Below w.heap.size w w' := by
  have hb0 : Below w.heap.size w (w.alloc (.cells #[.int .i64 b, .int .i64 z] 23)) := (Below.refl _ _).alloc (Nat.le_refl _) _
  have hS := Blk.new w [.int .i64 b, .int .i64 z] 23
  have x0 := hS.cell (j := 0) rfl
  have x1 := hS.cell (j := 1) rfl
  have HN := hide (rnew_ok b z (w.alloc (.cells #[.int .i64 b, .int .i64 z] 23)) hb hz)
  go_enter Tryd.func20, Tryd.ntmps20
  go_wp2_with fail
  go_fit HN.out
  rintro x w1 ⟨rv, rfl, h0, h1, l1, l2, hb1⟩
  have hb01 := hb0.trans (hb1.mono hb0.size)
  go_wp2_with fail
  go_fit (rpatch_nil b z rv w1 h0 h1)
  rintro x w2 ⟨rfl, hb2⟩
  go_wp2
  go_ret2
  exact ⟨rv, rfl, hb01.trans (hb2.mono hb01.size)⟩
theorem begin_bad (b z : Int) (w : World) (hE : shE b z ≠ 0) : Calls Tryd.prog 8 #[shp b z, .slice none 0 0] w fun e w' => e = .returned (.tuple #[.pointer none, .pointer none, .bool true]) ∧ Below w.heap.size w w' := by
  obtain ⟨w0, hw0⟩ : ∃ w0, w.alloc (.cells #[.int .i64 b, .int .i64 z] 23) = w0 := ⟨_, rfl⟩
  obtain ⟨g, hg⟩ : ∃ g, w.heap.size = g := ⟨_, rfl⟩
  have hS : Blk w0 g [.int .i64 b, .int .i64 z] 23 := by rw [← hw0, ← hg]; exact Blk.new w [.int .i64 b, .int .i64 z] _
  have hb0 : Below w.heap.size w w0 := by rw [← hw0]; exact (Below.refl _ _).alloc (Nat.le_refl _) _
  have x0 := hS.cell (j := 0) rfl
  have x1 := hS.cell (j := 1) rfl
  have HE := hide hE
  clear hE
  go_enter Tryd.func8, Tryd.ntmps8
  go_wp2_with fail
  go_fit (load_bad b z w0 HE.out)
  rintro x w1 ⟨rfl, hb1⟩
  have hb01 := hb0.trans (hb1.mono hb0.size)
  have hS1 := hS.below hb1
  clear x0 x1
  have x0 := hS1.cell (j := 0) rfl
  have x1 := hS1.cell (j := 1) rfl
  go_wp2_with fail
  go_fit (rload_bad b z w1 HE.out)
  rintro x w2 ⟨rfl, hb2⟩
  go_wp2
  go_ret3
  exact ⟨by simp, hb01.trans (hb2.mono hb01.size)⟩
theorem begin_ok (b z N : Nat) (w : World) (hb : 1 ≤ b ∧ b ≤ 4096) (hz : 1 ≤ z ∧ z ≤ 4096) (hN : b * z = N) : Calls Tryd.prog 8 #[shp b z, .slice none 0 0] w fun e w' =>
    ∃ v r s rv, e = .returned (.tuple #[.pointer (some ⟨v, 0, none⟩), .pointer (some ⟨rv, 0, none⟩), .bool true]) ∧ VolIs w' v r s b z N (List.replicate N 0) (List.replicate b 0) 0 ∧ Below w.heap.size w w' ∧ w.heap.size ≤ v ∧ w.heap.size ≤ r ∧ w.heap.size ≤ s := by
  obtain ⟨w0, hw0⟩ : ∃ w0, w.alloc (.cells #[.int .i64 b, .int .i64 z] 23) = w0 := ⟨_, rfl⟩
  obtain ⟨g, hg⟩ : ∃ g, w.heap.size = g := ⟨_, rfl⟩
  have hS : Blk w0 g [.int .i64 b, .int .i64 z] 23 := by rw [← hw0, ← hg]; exact Blk.new w [.int .i64 b, .int .i64 z] _
  have hb0 : Below w.heap.size w w0 := by rw [← hw0]; exact (Below.refl _ _).alloc (Nat.le_refl _) _
  have hsz0 := hb0.size
  have x0 := hS.cell (j := 0) rfl
  have x1 := hS.cell (j := 1) rfl
  have H := hide (load_nil b z N w0 hb hz hN)
  have HR := hide (fun W => rload_ok b z W hb hz)
  clear hb hz hN
  go_enter Tryd.func8, Tryd.ntmps8
  go_wp2_with fail
  go_fit H.out
  rintro x w1 ⟨v, r, s, rfl, hV, hb1, l1, l2, l3⟩
  have hb01 := hb0.trans (hb1.mono hb0.size)
  have hS1 := hS.below hb1
  clear x0 x1
  have x0 := hS1.cell (j := 0) rfl
  have x1 := hS1.cell (j := 1) rfl
  go_wp2_with fail
  go_fit (HR.out w1)
  rintro x w2 ⟨rv, rfl, hb2⟩
  have hV2 := hV.below hb2
  go_wp2
  go_ret3
  exact ⟨v, r, s, rv, by simp, hV2, hb01.trans (hb2.mono hb01.size), by omega, by omega, by omega⟩
end Go.Proofs.YtjilkaciopiabaaDoor
