/- math/bits.OnesCount64 of a small number. -/
import Derived.Test.YtnjleagikplbiaaM13r
import Derived.Laws.BitsAllLaws
namespace Go.Proofs.Ytnjleagikplbiaa
open Go.RowKit Go.Px
set_option linter.unusedVariables false

set_option maxHeartbeats 400000 in
theorem ones_any (x : Nat) (w : World) (hx : x < 512) :
    Calls Try.prog 38 #[.int .u64 x] w fun e w' => e = .returned (.int .i64 (popN 9 x : Nat)) ∧ w = w' := by
  have hx' : (x : Int) < 512 := by omega
  go_enter Try.func38, Try.ntmps38
  go_wp2
  go_ret
  refine ⟨?_, rfl⟩
  refine congrArg (fun z => Ending.returned (.int .i64 z)) ?_
  clear hx'
  revert hx
  revert x
  decide +kernel
end Go.Proofs.Ytnjleagikplbiaa
