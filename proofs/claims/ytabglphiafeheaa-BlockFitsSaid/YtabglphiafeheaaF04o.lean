/- The law BlockFits, walked. -/
import Derived.Test.YtabglphiafeheaaF04n
namespace Go.Proofs.Ytabglphiafeheaa
open Go.RowKit Go.Px
set_option linter.unusedVariables false

set_option maxHeartbeats 1600000 in
theorem blockFits_walk (b z : Int) (k : Nat) (p n : Int) (D : Option Addr) (d dc : Nat) (O : Option Addr) (o oc : Nat) (w : World) (hk : k < 256) :
    Calls Try.prog 4 #[shp b z, opv k p n D d dc O o oc] w fun x w' => x = .returned (.bool true) ∧ Below w.heap.size w w' := by
  obtain ⟨g, hg⟩ : ∃ g, w.heap.size = g := ⟨_, rfl⟩
  obtain ⟨w0, hw0⟩ : ∃ w0, (w.alloc (.cells #[.int .i64 b, .int .i64 z] 23)).alloc (.cells #[.int .u8 k, .int .i64 p, .int .i64 n, .slice D d dc, .slice O o oc] 27) = w0 := ⟨_, rfl⟩
  have hS : Blk w0 g [.int .i64 b, .int .i64 z] 23 := by rw [← hw0, ← hg]; exact (Blk.new w [.int .i64 b, .int .i64 z] _).alloc _
  have hO : Blk w0 (g + 1) [.int .u8 k, .int .i64 p, .int .i64 n, .slice D d dc, .slice O o oc] 27 := by
    rw [← hw0, ← hg]
    have := Blk.new (w.alloc (.cells #[.int .i64 b, .int .i64 z] 23)) [.int .u8 k, .int .i64 p, .int .i64 n, .slice D d dc, .slice O o oc] 27
    rwa [World.size_alloc] at this
  have hb0 : Below w.heap.size w w0 := by rw [← hw0]; exact ((Below.refl _ _).alloc (Nat.le_refl _) _).alloc (by simp) _
  have x0 := hS.cell (j := 0) rfl
  have x1 := hS.cell (j := 1) rfl
  have y0 := hO.cell (j := 0) rfl
  have y1 := hO.cell (j := 1) rfl
  have y2 := hO.cell (j := 2) rfl
  have y3 := hO.cell (j := 3) rfl
  have y4 := hO.cell (j := 4) rfl
  obtain ⟨C, hC⟩ : ∃ C, ftC b z k p n d o = C := ⟨_, rfl⟩
  obtain ⟨E, hE⟩ : ∃ E, ftE b z k p n d o = E := ⟨_, rfl⟩
  have HC := hide hC
  have HE := hide hE
  clear hC hE
  have q1 : (C == C) = true := by simp
  have q2 : (E == E) = true := by simp
  go_enter Try.func4, Try.ntmps4
  go_wp2_with fail
  go_fit (fit_any b z k p n D d dc O o oc w0 hk)
  rintro x w1 ⟨hx, hb1⟩
  rw [HC.out, HE.out] at hx
  subst hx
  have hS1 := hS.below hb1
  have hO1 := hO.below hb1
  have hb01 := hb0.trans (hb1.mono hb0.size)
  clear x0 x1 y0 y1 y2 y3 y4
  have x0 := hS1.cell (j := 0) rfl
  have x1 := hS1.cell (j := 1) rfl
  have y0 := hO1.cell (j := 0) rfl
  have y1 := hO1.cell (j := 1) rfl
  have y2 := hO1.cell (j := 2) rfl
  have y3 := hO1.cell (j := 3) rfl
  have y4 := hO1.cell (j := 4) rfl
  go_wp2_with fail
  go_fit (rfit_any b z k p n D d dc O o oc w1 hk)
  rintro x w2 ⟨hx, hb2⟩
  rw [HC.out, HE.out] at hx
  subst hx
  have hb02 := hb01.trans (hb2.mono hb01.size)
  go_wp2_with fail
  go_fit (awake04_any w2)
  rintro x w3 ⟨rfl, hb3⟩
  go_wp2
  go_ret
  exact ⟨by simp, hb02.trans (hb3.mono hb02.size)⟩
end Go.Proofs.Ytabglphiafeheaa
