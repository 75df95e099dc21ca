/- plinthref05.SamePages of two rows of the same pages. -/
import Derived.Test.YtjilkaciopiabaaDoorF05p
namespace Go.Proofs.YtjilkaciopiabaaDoor
open Go.RowKit Go.Px
set_option linter.unusedVariables false
theorem PgRows.drewN {w : World} {Q : Nat → Prop} {cs : List Value} {ps : List (Int × Int × List UInt8)} (h : PgRows w Q cs ps) (q : Nat) : PgRows (w.drewN q) Q cs ps := h.keep (fun A xs hr _ => hr.drewN q) (fun _ h => h)
end Go.Proofs.YtjilkaciopiabaaDoor
