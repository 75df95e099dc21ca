/- Facts of this seat's types. -/
import Derived.Test.YthejdacemcldgaaChecked
import Derived.Test.YthejdacemcldgaaLib
namespace Go.Proofs.Ythejdacemcldgaa
set_option maxRecDepth 20000
open Go.RowKit Go.Px
theorem laidOut : laidOutB Try.prog = true := by kernel_rfl
theorem own : ownKnob Try.prog.godebug = none := by kernel_rfl
theorem tInts : SlT Try.prog 22 3 1 8 := slT_mk Try.underlying22 (z := .int .i64 0) (by kernel_rfl) rfl (by decide)
theorem bool_two (b : Bool) : b = true ∨ b = false := by cases b <;> simp
theorem bool_or (b : Bool) : b = true ∨ b = false := by cases b <;> simp
theorem below_drewN {B : Nat} {w w' : World} (h : Below B w w') (n : Nat) : Below B w (w'.drewN n) := ⟨h.os, h.tape, h.output, h.size, h.block⟩
end Go.Proofs.Ythejdacemcldgaa
