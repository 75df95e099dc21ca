/- A volume that nobody made: every method. -/
import Derived.Test.YtjilkaciopiabaaDoorF05a
namespace Go.Proofs.YtjilkaciopiabaaDoor
open Go.RowKit Go.Px
set_option linter.unusedVariables false
/-- A pointer to no volume, or to one that is nothing but zeros. -/
def Nob (w : World) (p : Option Addr) : Prop := p = none ∨ ∃ g, p = some ⟨g, 0, none⟩ ∧ Blk w g [.int .i64 0, .int .i64 0, .slice none 0 0, .slice none 0 0, .int .i64 0] 45
theorem Nob.below {w w' : World} {p : Option Addr} (h : Nob w p) (hb : Below w.heap.size w w') : Nob w' p := by
  rcases h with h | ⟨g, rfl, hB⟩
  · exact .inl h
  · exact .inr ⟨g, rfl, hB.below hb⟩
theorem made_nob (w : World) (p : Option Addr) (h : Nob w p) : Calls Tryd.prog 26 #[.pointer p] w fun e w' => e = .returned (.bool false) ∧ w = w' := by
  rcases h with rfl | ⟨g, rfl, hB⟩
  · exact made_nil w
  · have x2 := hB.cell (j := 2) rfl
    go_enter Tryd.func26, Tryd.ntmps26
    go_wp2
    go_ret
    exact ⟨rfl, rfl⟩
set_option maxHeartbeats 800000 in
theorem do_nob (w : World) (p : Option Addr) (k : Nat) (q n : Int) (D : Option Addr) (d dc : Nat) (O : Option Addr) (o oc : Nat) (num : Int) (h : Nob w p) :
    Calls Tryd.prog 11 #[.pointer p, opv k q n D d dc O o oc, .int .i64 num] w fun e w' => e = .returned (.tuple #[.agg #[.int .u8 0, .slice none 0 0], .int .i64 4]) ∧ Below w.heap.size w w' := by
  obtain ⟨g, hg⟩ : ∃ g, w.heap.size = g := ⟨_, rfl⟩
  obtain ⟨w0, hw0⟩ : ∃ w0, (w.alloc (.cells #[.int .u8 k, .int .i64 q, .int .i64 n, .slice D d dc, .slice O o oc] 38)).alloc (.cells #[.int .u8 0, .slice none 0 0] 49) = w0 := ⟨_, rfl⟩
  have hZ : Blk w0 (g + 1) [.int .u8 0, .slice none 0 0] 49 := by
    rw [← hw0, ← hg]
    have := Blk.new (w.alloc (.cells #[.int .u8 k, .int .i64 q, .int .i64 n, .slice D d dc, .slice O o oc] 38)) [.int .u8 0, .slice none 0 0] 49
    rwa [World.size_alloc] at this
  have hb0 : Below w.heap.size w w0 := by rw [← hw0]; exact ((Below.refl _ _).alloc (Nat.le_refl _) _).alloc (by simp) _
  have H := hide (made_nob w0 p (h.below hb0))
  have y0 := hZ.cell (j := 0) rfl
  have y1 := hZ.cell (j := 1) rfl
  have f0 := hZ.frozen 0
  have f1 := hZ.frozen 1
  go_enter Tryd.func11, Tryd.ntmps11
  go_wp2_with fail
  refine H.out.mono ?_
  rintro x w1 ⟨rfl, rfl⟩
  go_wp2
  refine bodyPost_ret (results_cell2 rfl rfl ((hZ.set 0 (.int .u8 0)).set 1 (.slice none 0 0)) Tryd.underlying49 rfl (by kernel_rfl)) rfl ?_
  exact ⟨rfl, (hb0.setCell (by show w.heap.size ≤ g + 1; omega) _).setCell (by show w.heap.size ≤ g + 1; omega) _⟩
theorem block_nob (w : World) (p : Option Addr) (i : Int) (h : Nob w p) : Calls Tryd.prog 12 #[.pointer p, .int .i64 i] w fun e w' => e = .returned (.tuple #[.slice none 0 0, .int .i64 0, .int .i64 4]) ∧ w = w' := by
  go_enter Tryd.func12, Tryd.ntmps12
  go_wp2_with fail
  refine (made_nob w p h).mono ?_
  rintro x w1 ⟨rfl, rfl⟩
  go_wp2
  go_ret3
  exact ⟨rfl, rfl⟩
theorem patch_nob (w : World) (p : Option Addr) (u : Value) (h : Nob w p) : Calls Tryd.prog 13 #[.pointer p, u] w fun e w' => e = .returned (.int .i64 4) ∧ w = w' := by
  go_enter Tryd.func13, Tryd.ntmps13
  go_wp2_with fail
  refine (made_nob w p h).mono ?_
  rintro x w1 ⟨rfl, rfl⟩
  go_wp2
  go_ret
  exact ⟨rfl, rfl⟩
theorem bytes_nob (w : World) (p : Option Addr) (h : Nob w p) : Calls Tryd.prog 14 #[.pointer p] w fun e w' => e = .returned (.slice none 0 0) ∧ w = w' := by
  go_enter Tryd.func14, Tryd.ntmps14
  go_wp2_with fail
  refine (made_nob w p h).mono ?_
  rintro x w1 ⟨rfl, rfl⟩
  go_wp2
  go_ret
  exact ⟨rfl, rfl⟩
theorem pages_nob (w : World) (p : Option Addr) (i : Int) (h : Nob w p) : Calls Tryd.prog 15 #[.pointer p, .int .i64 i] w fun e w' => e = .returned (.slice none 0 0) ∧ w = w' := by
  go_enter Tryd.func15, Tryd.ntmps15
  go_wp2_with fail
  refine (made_nob w p h).mono ?_
  rintro x w1 ⟨rfl, rfl⟩
  go_wp2
  go_ret
  exact ⟨rfl, rfl⟩
theorem sum_nob (w : World) (p : Option Addr) (h : Nob w p) : Calls Tryd.prog 16 #[.pointer p] w fun e w' => e = .returned (.int .u32 0) ∧ w = w' := by
  go_enter Tryd.func16, Tryd.ntmps16
  go_wp2_with fail
  refine (made_nob w p h).mono ?_
  rintro x w1 ⟨rfl, rfl⟩
  go_wp2
  go_ret
  exact ⟨rfl, rfl⟩
set_option maxHeartbeats 800000 in
theorem shape_nob (w : World) (p : Option Addr) (h : Nob w p) : Calls Tryd.prog 17 #[.pointer p] w fun e w' => e = .returned (.agg #[.int .i64 0, .int .i64 0]) ∧ Below w.heap.size w w' := by
  obtain ⟨g, hg⟩ : ∃ g, w.heap.size = g := ⟨_, rfl⟩
  obtain ⟨w0, hw0⟩ : ∃ w0, w.alloc (.cells #[.int .i64 0, .int .i64 0] 23) = w0 := ⟨_, rfl⟩
  have hZ : Blk w0 g [.int .i64 0, .int .i64 0] 23 := by rw [← hw0, ← hg]; exact Blk.new w [.int .i64 0, .int .i64 0] _
  have hb0 : Below w.heap.size w w0 := by rw [← hw0]; exact (Below.refl _ _).alloc (Nat.le_refl _) _
  have H := hide (made_nob w0 p (h.below hb0))
  have y0 := hZ.cell (j := 0) rfl
  have y1 := hZ.cell (j := 1) rfl
  have f0 := hZ.frozen 0
  have f1 := hZ.frozen 1
  go_enter Tryd.func17, Tryd.ntmps17
  go_wp2_with fail
  refine H.out.mono ?_
  rintro x w1 ⟨rfl, rfl⟩
  go_wp2
  refine bodyPost_ret (results_cell rfl rfl ((hZ.set 0 (.int .i64 0)).set 1 (.int .i64 0)) Tryd.underlying23 rfl (by kernel_rfl)) rfl ?_
  exact ⟨rfl, (hb0.setCell (by show w.heap.size ≤ g; omega) _).setCell (by show w.heap.size ≤ g; omega) _⟩
end Go.Proofs.YtjilkaciopiabaaDoor
