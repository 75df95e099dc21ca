/-
  NARROWER THAN 'FOR EVERY INPUT', by the rows' own cells (each row's printed sentence says how): TreeMakes: laid · TreeStates: laid · TreeAsks: laid · TreeProves: laid · TreeDiffs: laid · TreeOne: laid · TreeFew: laid · TreeProved: laid · TreePuts: laid.
  DERIVED. THE GIVEN ROWS OF THIS SEAT. 9 by the template 'for every input the law returns true; each argument reads behind the call as it read before'; 0 by the template 'total and deterministic' (their statements: YtcpnobhdogpfiaaDoorTotals.lean).
  GIVEN WITH THE SEED: the statements are not yours to turn. If you find one false, say at which input.
  Laid BY PROGRAM, IN A SANDBOX (cutbox-rows.mjs): the forced cells as the released guide's own fill.sh prints them over the translation 139e13e9c0465d2e… (all of the seat's roots in one cut). By AI agents, Wed Nov 11 2026. No macro, syntax, notation, axiom, sorry.
-/
import Derived.Test.YtcpnobhdogpfiaaDoorChecked
import GoSem.Claim
import GoSem.ClaimJoined
import GoSem.ClaimMapViews
import Derived.JoinedTies
import Derived.KernelRfl
namespace Go.Proofs.YtcpnobhdogpfiaaDoor
/- THE CELL 'sum', in the pinned program and in every row, IS THE sha256 OF THE DUMP (.gsa) THAT YtcpnobhdogpfiaaDoorProg.lean LOADS. Nothing in Lean hashes anything: it is a label: what it is worth is what the hold of that sum in a sandbox is worth. -/
noncomputable def Tryd.pinned : Pinned := { name := "ytcpnobhdogpfiaadoor", sum := "139e13e9c0465d2e570ef8fbca8dee16d32ab206b23ae0e8aa7ed39126f9ec5f", checked := Tryd.checked }
namespace Rows
def none {H : Type} : Left H := { results := [], args := [] }

/- WHAT THE LISTED PACKAGE-LEVEL VARIABLES READ AS WHEN THE CALL BEGINS. Each datum BY PROGRAM (the guide's laid-datum.mjs) off the statement by which the dump's own 'gosem.cut.vars' lays the variable. In a bare row this is a premise. The card (YtcpnobhdogpfiaaDoorCards.lean) ties it to the program's text. -/
def laid_plinth_crc_table {H : Type} : DataW H := .agg [.lit (.int .u32 0), .lit (.int .u32 274646895), .lit (.int .u32 549293790), .lit (.int .u32 820201905), .lit (.int .u32 1098587580), .lit (.int .u32 1361435347), .lit (.int .u32 1640403810), .lit (.int .u32 1905808397), .lit (.int .u32 2197175160), .lit (.int .u32 2460548119), .lit (.int .u32 2722870694), .lit (.int .u32 2987750089), .lit (.int .u32 3280807620), .lit (.int .u32 3553878443), .lit (.int .u32 3811616794), .lit (.int .u32 4084100981)]

/-- 'plinthlaw25.TreeMakes': WHATEVER THE INPUT: true; the input reads as it did. -/
def treeMakesSpec : ChangeSpec := { name := "treeMakes", fn := fun _ => fun
  | [d1, d2] => { results := [.lit (.bool true)], args := [d1, d2] }
  | _ => none }
def treeMakesRow : OpenClaim := { program := "ytcpnobhdogpfiaadoor", sum := "139e13e9c0465d2e570ef8fbca8dee16d32ab206b23ae0e8aa7ed39126f9ec5f", func := "plinth/plinthlaw25.TreeMakes", spec := "treeMakes", unfollowed := true, recurses := true, named := ["plinth/crc.table"], apart := false, laid := [("plinth/crc.table", laid_plinth_crc_table)] }
def TreeMakesSaid : Prop := treeMakesRow.holds Tryd.pinned (OpenSpec.ofChange treeMakesSpec)

/-- ITS FALSE NEIGHBOUR: 'it returns false'. Refute it at one input. -/
def treeMakesWrong : ChangeSpec := { name := "treeMakes", fn := fun _ => fun
  | [d1, d2] => { results := [.lit (.bool false)], args := [d1, d2] }
  | _ => none }
def TreeMakesWrongFalsely : Prop := treeMakesRow.holds Tryd.pinned (OpenSpec.ofChange treeMakesWrong)

/-- 'plinthlaw25.TreeStates': WHATEVER THE INPUT: true; the input reads as it did. -/
def treeStatesSpec : ChangeSpec := { name := "treeStates", fn := fun _ => fun
  | [d] => { results := [.lit (.bool true)], args := [d] }
  | _ => none }
def treeStatesRow : OpenClaim := { program := "ytcpnobhdogpfiaadoor", sum := "139e13e9c0465d2e570ef8fbca8dee16d32ab206b23ae0e8aa7ed39126f9ec5f", func := "plinth/plinthlaw25.TreeStates", spec := "treeStates", unfollowed := true, recurses := true, named := ["plinth/crc.table"], apart := false, laid := [("plinth/crc.table", laid_plinth_crc_table)] }
def TreeStatesSaid : Prop := treeStatesRow.holds Tryd.pinned (OpenSpec.ofChange treeStatesSpec)

/-- ITS FALSE NEIGHBOUR: 'it returns false'. Refute it at one input. -/
def treeStatesWrong : ChangeSpec := { name := "treeStates", fn := fun _ => fun
  | [d] => { results := [.lit (.bool false)], args := [d] }
  | _ => none }
def TreeStatesWrongFalsely : Prop := treeStatesRow.holds Tryd.pinned (OpenSpec.ofChange treeStatesWrong)

/-- 'plinthlaw25.TreeAsks': WHATEVER THE INPUT: true; the input reads as it did. -/
def treeAsksSpec : ChangeSpec := { name := "treeAsks", fn := fun _ => fun
  | [d1, d2, d3, d4] => { results := [.lit (.bool true)], args := [d1, d2, d3, d4] }
  | _ => none }
def treeAsksRow : OpenClaim := { program := "ytcpnobhdogpfiaadoor", sum := "139e13e9c0465d2e570ef8fbca8dee16d32ab206b23ae0e8aa7ed39126f9ec5f", func := "plinth/plinthlaw25.TreeAsks", spec := "treeAsks", unfollowed := true, recurses := true, named := ["plinth/crc.table"], apart := false, laid := [("plinth/crc.table", laid_plinth_crc_table)] }
def TreeAsksSaid : Prop := treeAsksRow.holds Tryd.pinned (OpenSpec.ofChange treeAsksSpec)

/-- ITS FALSE NEIGHBOUR: 'it returns false'. Refute it at one input. -/
def treeAsksWrong : ChangeSpec := { name := "treeAsks", fn := fun _ => fun
  | [d1, d2, d3, d4] => { results := [.lit (.bool false)], args := [d1, d2, d3, d4] }
  | _ => none }
def TreeAsksWrongFalsely : Prop := treeAsksRow.holds Tryd.pinned (OpenSpec.ofChange treeAsksWrong)

/-- 'plinthlaw25.TreeProves': WHATEVER THE INPUT: true; the input reads as it did. -/
def treeProvesSpec : ChangeSpec := { name := "treeProves", fn := fun _ => fun
  | [d1, d2, d3, d4, d5, d6] => { results := [.lit (.bool true)], args := [d1, d2, d3, d4, d5, d6] }
  | _ => none }
def treeProvesRow : OpenClaim := { program := "ytcpnobhdogpfiaadoor", sum := "139e13e9c0465d2e570ef8fbca8dee16d32ab206b23ae0e8aa7ed39126f9ec5f", func := "plinth/plinthlaw25.TreeProves", spec := "treeProves", unfollowed := true, recurses := true, named := ["plinth/crc.table"], apart := false, laid := [("plinth/crc.table", laid_plinth_crc_table)] }
def TreeProvesSaid : Prop := treeProvesRow.holds Tryd.pinned (OpenSpec.ofChange treeProvesSpec)

/-- ITS FALSE NEIGHBOUR: 'it returns false'. Refute it at one input. -/
def treeProvesWrong : ChangeSpec := { name := "treeProves", fn := fun _ => fun
  | [d1, d2, d3, d4, d5, d6] => { results := [.lit (.bool false)], args := [d1, d2, d3, d4, d5, d6] }
  | _ => none }
def TreeProvesWrongFalsely : Prop := treeProvesRow.holds Tryd.pinned (OpenSpec.ofChange treeProvesWrong)

/-- 'plinthlaw25.TreeDiffs': WHATEVER THE INPUT: true; the input reads as it did. -/
def treeDiffsSpec : ChangeSpec := { name := "treeDiffs", fn := fun _ => fun
  | [d1, d2] => { results := [.lit (.bool true)], args := [d1, d2] }
  | _ => none }
def treeDiffsRow : OpenClaim := { program := "ytcpnobhdogpfiaadoor", sum := "139e13e9c0465d2e570ef8fbca8dee16d32ab206b23ae0e8aa7ed39126f9ec5f", func := "plinth/plinthlaw25.TreeDiffs", spec := "treeDiffs", unfollowed := true, recurses := true, named := ["plinth/crc.table"], apart := false, laid := [("plinth/crc.table", laid_plinth_crc_table)] }
def TreeDiffsSaid : Prop := treeDiffsRow.holds Tryd.pinned (OpenSpec.ofChange treeDiffsSpec)

/-- ITS FALSE NEIGHBOUR: 'it returns false'. Refute it at one input. -/
def treeDiffsWrong : ChangeSpec := { name := "treeDiffs", fn := fun _ => fun
  | [d1, d2] => { results := [.lit (.bool false)], args := [d1, d2] }
  | _ => none }
def TreeDiffsWrongFalsely : Prop := treeDiffsRow.holds Tryd.pinned (OpenSpec.ofChange treeDiffsWrong)

/-- 'plinthlaw25.TreeOne': WHATEVER THE INPUT: true; the input reads as it did. -/
def treeOneSpec : ChangeSpec := { name := "treeOne", fn := fun _ => fun
  | [d1, d2, d3, d4] => { results := [.lit (.bool true)], args := [d1, d2, d3, d4] }
  | _ => none }
def treeOneRow : OpenClaim := { program := "ytcpnobhdogpfiaadoor", sum := "139e13e9c0465d2e570ef8fbca8dee16d32ab206b23ae0e8aa7ed39126f9ec5f", func := "plinth/plinthlaw25.TreeOne", spec := "treeOne", unfollowed := true, recurses := true, named := ["plinth/crc.table"], apart := false, laid := [("plinth/crc.table", laid_plinth_crc_table)] }
def TreeOneSaid : Prop := treeOneRow.holds Tryd.pinned (OpenSpec.ofChange treeOneSpec)

/-- ITS FALSE NEIGHBOUR: 'it returns false'. Refute it at one input. -/
def treeOneWrong : ChangeSpec := { name := "treeOne", fn := fun _ => fun
  | [d1, d2, d3, d4] => { results := [.lit (.bool false)], args := [d1, d2, d3, d4] }
  | _ => none }
def TreeOneWrongFalsely : Prop := treeOneRow.holds Tryd.pinned (OpenSpec.ofChange treeOneWrong)

/-- 'plinthlaw25.TreeFew': WHATEVER THE INPUT: true; the input reads as it did. -/
def treeFewSpec : ChangeSpec := { name := "treeFew", fn := fun _ => fun
  | [d1, d2, d3] => { results := [.lit (.bool true)], args := [d1, d2, d3] }
  | _ => none }
def treeFewRow : OpenClaim := { program := "ytcpnobhdogpfiaadoor", sum := "139e13e9c0465d2e570ef8fbca8dee16d32ab206b23ae0e8aa7ed39126f9ec5f", func := "plinth/plinthlaw25.TreeFew", spec := "treeFew", unfollowed := true, recurses := true, named := ["plinth/crc.table"], apart := false, laid := [("plinth/crc.table", laid_plinth_crc_table)] }
def TreeFewSaid : Prop := treeFewRow.holds Tryd.pinned (OpenSpec.ofChange treeFewSpec)

/-- ITS FALSE NEIGHBOUR: 'it returns false'. Refute it at one input. -/
def treeFewWrong : ChangeSpec := { name := "treeFew", fn := fun _ => fun
  | [d1, d2, d3] => { results := [.lit (.bool false)], args := [d1, d2, d3] }
  | _ => none }
def TreeFewWrongFalsely : Prop := treeFewRow.holds Tryd.pinned (OpenSpec.ofChange treeFewWrong)

/-- 'plinthlaw25.TreeProved': WHATEVER THE INPUT: true; the input reads as it did. -/
def treeProvedSpec : ChangeSpec := { name := "treeProved", fn := fun _ => fun
  | [d1, d2, d3] => { results := [.lit (.bool true)], args := [d1, d2, d3] }
  | _ => none }
def treeProvedRow : OpenClaim := { program := "ytcpnobhdogpfiaadoor", sum := "139e13e9c0465d2e570ef8fbca8dee16d32ab206b23ae0e8aa7ed39126f9ec5f", func := "plinth/plinthlaw25.TreeProved", spec := "treeProved", unfollowed := true, recurses := true, named := ["plinth/crc.table"], apart := false, laid := [("plinth/crc.table", laid_plinth_crc_table)] }
def TreeProvedSaid : Prop := treeProvedRow.holds Tryd.pinned (OpenSpec.ofChange treeProvedSpec)

/-- ITS FALSE NEIGHBOUR: 'it returns false'. Refute it at one input. -/
def treeProvedWrong : ChangeSpec := { name := "treeProved", fn := fun _ => fun
  | [d1, d2, d3] => { results := [.lit (.bool false)], args := [d1, d2, d3] }
  | _ => none }
def TreeProvedWrongFalsely : Prop := treeProvedRow.holds Tryd.pinned (OpenSpec.ofChange treeProvedWrong)

/-- 'plinthlaw25.TreePuts': WHATEVER THE INPUT: true; the input reads as it did. -/
def treePutsSpec : ChangeSpec := { name := "treePuts", fn := fun _ => fun
  | [d1, d2, d3, d4] => { results := [.lit (.bool true)], args := [d1, d2, d3, d4] }
  | _ => none }
def treePutsRow : OpenClaim := { program := "ytcpnobhdogpfiaadoor", sum := "139e13e9c0465d2e570ef8fbca8dee16d32ab206b23ae0e8aa7ed39126f9ec5f", func := "plinth/plinthlaw25.TreePuts", spec := "treePuts", unfollowed := true, recurses := true, named := ["plinth/crc.table"], apart := false, laid := [("plinth/crc.table", laid_plinth_crc_table)] }
def TreePutsSaid : Prop := treePutsRow.holds Tryd.pinned (OpenSpec.ofChange treePutsSpec)

/-- ITS FALSE NEIGHBOUR: 'it returns false'. Refute it at one input. -/
def treePutsWrong : ChangeSpec := { name := "treePuts", fn := fun _ => fun
  | [d1, d2, d3, d4] => { results := [.lit (.bool false)], args := [d1, d2, d3, d4] }
  | _ => none }
def TreePutsWrongFalsely : Prop := treePutsRow.holds Tryd.pinned (OpenSpec.ofChange treePutsWrong)

/- THE SECOND FORM. 'bulk': how many values and letters a reading holds, each counted each time it is reached (what is shared counts as often as it is met; a slice's spare places count too). A statement '..UptoSaid' is the law's where the arguments, and the package variables that the reading takes, are together of bulk at most 1048576: NARROWER than '..Said'. Prove '..Said' where nothing that the law and all that it calls make is longer than what came in: it says more and counts as full. Else prove '..UptoSaid'. A law counts once. -/
mutual
def uptoBulk {H : Type} : DataW H → Nat
  | .lit (.string bytes) => bytes.length + 1
  | .lit _ => 1
  | .nil => 1
  | .ptr d => uptoBulk d + 1
  | .slice elems spare => uptoBulkAll elems + uptoBulkAll spare + 1
  | .agg parts => uptoBulkAll parts + 1
  | .iface _ d => uptoBulk d + 1
  | .map entries => uptoBulkEntries entries + 1
  | .held _ => 1
def uptoBulkAll {H : Type} : List (DataW H) → Nat
  | [] => 0
  | d :: r => uptoBulk d + uptoBulkAll r
def uptoBulkEntries {H : Type} : List (Lit × DataW H) → Nat
  | [] => 0
  | x :: r => uptoBulkEntry x + uptoBulkEntries r
def uptoBulkEntry {H : Type} : Lit × DataW H → Nat
  | (.string bytes, d) => bytes.length + uptoBulk d + 1
  | (_, d) => uptoBulk d + 1
 end
def uptoSmall : (H : Type) → List (DataW H) → Bool := fun _ ds => decide (uptoBulkAll ds ≤ 1048576)
def OpenSpec.upto (s : _root_.Go.ChangeSpec) : _root_.Go.OpenSpec := { _root_.Go.OpenSpec.ofChange s with cond := some uptoSmall }

/-- 'plinthlaw25.TreeMakes', WHERE WHAT IT READS IS OF BULK AT MOST 1048576: true; the input reads as it did. -/
def treeMakesUptoRow : OpenClaim := { program := "ytcpnobhdogpfiaadoor", sum := "139e13e9c0465d2e570ef8fbca8dee16d32ab206b23ae0e8aa7ed39126f9ec5f", func := "plinth/plinthlaw25.TreeMakes", spec := "treeMakes", unfollowed := true, recurses := true, named := ["plinth/crc.table"], apart := false, laid := [("plinth/crc.table", laid_plinth_crc_table)], narrowed := true }
def TreeMakesUptoSaid : Prop := treeMakesUptoRow.holds Tryd.pinned (OpenSpec.upto treeMakesSpec)

/-- 'plinthlaw25.TreeStates', WHERE WHAT IT READS IS OF BULK AT MOST 1048576: true; the input reads as it did. -/
def treeStatesUptoRow : OpenClaim := { program := "ytcpnobhdogpfiaadoor", sum := "139e13e9c0465d2e570ef8fbca8dee16d32ab206b23ae0e8aa7ed39126f9ec5f", func := "plinth/plinthlaw25.TreeStates", spec := "treeStates", unfollowed := true, recurses := true, named := ["plinth/crc.table"], apart := false, laid := [("plinth/crc.table", laid_plinth_crc_table)], narrowed := true }
def TreeStatesUptoSaid : Prop := treeStatesUptoRow.holds Tryd.pinned (OpenSpec.upto treeStatesSpec)

/-- 'plinthlaw25.TreeAsks', WHERE WHAT IT READS IS OF BULK AT MOST 1048576: true; the input reads as it did. -/
def treeAsksUptoRow : OpenClaim := { program := "ytcpnobhdogpfiaadoor", sum := "139e13e9c0465d2e570ef8fbca8dee16d32ab206b23ae0e8aa7ed39126f9ec5f", func := "plinth/plinthlaw25.TreeAsks", spec := "treeAsks", unfollowed := true, recurses := true, named := ["plinth/crc.table"], apart := false, laid := [("plinth/crc.table", laid_plinth_crc_table)], narrowed := true }
def TreeAsksUptoSaid : Prop := treeAsksUptoRow.holds Tryd.pinned (OpenSpec.upto treeAsksSpec)

/-- 'plinthlaw25.TreeProves', WHERE WHAT IT READS IS OF BULK AT MOST 1048576: true; the input reads as it did. -/
def treeProvesUptoRow : OpenClaim := { program := "ytcpnobhdogpfiaadoor", sum := "139e13e9c0465d2e570ef8fbca8dee16d32ab206b23ae0e8aa7ed39126f9ec5f", func := "plinth/plinthlaw25.TreeProves", spec := "treeProves", unfollowed := true, recurses := true, named := ["plinth/crc.table"], apart := false, laid := [("plinth/crc.table", laid_plinth_crc_table)], narrowed := true }
def TreeProvesUptoSaid : Prop := treeProvesUptoRow.holds Tryd.pinned (OpenSpec.upto treeProvesSpec)

/-- 'plinthlaw25.TreeDiffs', WHERE WHAT IT READS IS OF BULK AT MOST 1048576: true; the input reads as it did. -/
def treeDiffsUptoRow : OpenClaim := { program := "ytcpnobhdogpfiaadoor", sum := "139e13e9c0465d2e570ef8fbca8dee16d32ab206b23ae0e8aa7ed39126f9ec5f", func := "plinth/plinthlaw25.TreeDiffs", spec := "treeDiffs", unfollowed := true, recurses := true, named := ["plinth/crc.table"], apart := false, laid := [("plinth/crc.table", laid_plinth_crc_table)], narrowed := true }
def TreeDiffsUptoSaid : Prop := treeDiffsUptoRow.holds Tryd.pinned (OpenSpec.upto treeDiffsSpec)

/-- 'plinthlaw25.TreeOne', WHERE WHAT IT READS IS OF BULK AT MOST 1048576: true; the input reads as it did. -/
def treeOneUptoRow : OpenClaim := { program := "ytcpnobhdogpfiaadoor", sum := "139e13e9c0465d2e570ef8fbca8dee16d32ab206b23ae0e8aa7ed39126f9ec5f", func := "plinth/plinthlaw25.TreeOne", spec := "treeOne", unfollowed := true, recurses := true, named := ["plinth/crc.table"], apart := false, laid := [("plinth/crc.table", laid_plinth_crc_table)], narrowed := true }
def TreeOneUptoSaid : Prop := treeOneUptoRow.holds Tryd.pinned (OpenSpec.upto treeOneSpec)

/-- 'plinthlaw25.TreeFew', WHERE WHAT IT READS IS OF BULK AT MOST 1048576: true; the input reads as it did. -/
def treeFewUptoRow : OpenClaim := { program := "ytcpnobhdogpfiaadoor", sum := "139e13e9c0465d2e570ef8fbca8dee16d32ab206b23ae0e8aa7ed39126f9ec5f", func := "plinth/plinthlaw25.TreeFew", spec := "treeFew", unfollowed := true, recurses := true, named := ["plinth/crc.table"], apart := false, laid := [("plinth/crc.table", laid_plinth_crc_table)], narrowed := true }
def TreeFewUptoSaid : Prop := treeFewUptoRow.holds Tryd.pinned (OpenSpec.upto treeFewSpec)

/-- 'plinthlaw25.TreeProved', WHERE WHAT IT READS IS OF BULK AT MOST 1048576: true; the input reads as it did. -/
def treeProvedUptoRow : OpenClaim := { program := "ytcpnobhdogpfiaadoor", sum := "139e13e9c0465d2e570ef8fbca8dee16d32ab206b23ae0e8aa7ed39126f9ec5f", func := "plinth/plinthlaw25.TreeProved", spec := "treeProved", unfollowed := true, recurses := true, named := ["plinth/crc.table"], apart := false, laid := [("plinth/crc.table", laid_plinth_crc_table)], narrowed := true }
def TreeProvedUptoSaid : Prop := treeProvedUptoRow.holds Tryd.pinned (OpenSpec.upto treeProvedSpec)

/-- 'plinthlaw25.TreePuts', WHERE WHAT IT READS IS OF BULK AT MOST 1048576: true; the input reads as it did. -/
def treePutsUptoRow : OpenClaim := { program := "ytcpnobhdogpfiaadoor", sum := "139e13e9c0465d2e570ef8fbca8dee16d32ab206b23ae0e8aa7ed39126f9ec5f", func := "plinth/plinthlaw25.TreePuts", spec := "treePuts", unfollowed := true, recurses := true, named := ["plinth/crc.table"], apart := false, laid := [("plinth/crc.table", laid_plinth_crc_table)], narrowed := true }
def TreePutsUptoSaid : Prop := treePutsUptoRow.holds Tryd.pinned (OpenSpec.upto treePutsSpec)

end Rows
end Go.Proofs.YtcpnobhdogpfiaaDoor
