/- Facts of this seat's types. -/
import Derived.Test.YtnjleagikplbiaaChecked
import Derived.Test.YtnjleagikplbiaaLib
namespace Go.Proofs.Ytnjleagikplbiaa
open Go.RowKit Go.Px
theorem laidOut : laidOutB Try.prog = true := by kernel_rfl
theorem own : ownKnob Try.prog.godebug = none := by kernel_rfl
theorem tU64s : SlT Try.prog 48 51 1 8 := slT_mk Try.underlying48 (z := .int .u64 0) (by kernel_rfl) rfl (by decide)
theorem tInts : SlT Try.prog 22 3 1 8 := slT_mk Try.underlying22 (z := .int .i64 0) (by kernel_rfl) rfl (by decide)
end Go.Proofs.Ytnjleagikplbiaa
