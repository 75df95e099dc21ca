/- may.Number, may.Node, may.Group; plinthref07.Group; Check twice. -/
import Derived.Test.YthejdacemcldgaaTypes
import Derived.Test.YthejdacemcldgaaM13
import Derived.Test.YthejdacemcldgaaArr
import Derived.Deep.DeepFit
import Derived.Outline
namespace Go.Proofs.Ythejdacemcldgaa
set_option maxRecDepth 20000
open Go.RowKit Go.Px
set_option linter.unusedVariables false

abbrev grp (e : Int) (A : Option Addr) (n c : Nat) : Value := .agg #[.int .i64 e, .slice A n c]

end Go.Proofs.Ythejdacemcldgaa
