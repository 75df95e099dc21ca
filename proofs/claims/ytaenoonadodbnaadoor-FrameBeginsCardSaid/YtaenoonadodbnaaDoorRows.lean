/-
  NARROWER THAN 'FOR EVERY INPUT', by the rows' own cells (each row's printed sentence says how): FrameWrites: laid · FrameReads: laid · FrameScans: laid · FramePads: laid · FrameBack: laid · FrameBegins: laid · FrameSpoilt: laid.
  DERIVED. THE GIVEN ROWS OF THIS SEAT. 7 by the template 'for every input the law returns true; each argument reads behind the call as it read before'; 0 by the template 'total and deterministic' (their statements: YtaenoonadodbnaaDoorTotals.lean).
  GIVEN WITH THE SEED: the statements are not yours to turn. If you find one false, say at which input.
  Laid BY PROGRAM, IN A SANDBOX (cutbox-rows.mjs): the forced cells as the released guide's own fill.sh prints them over the translation 614e07c24f7a845b… (all of the seat's roots in one cut). By AI agents, Wed Nov 11 2026. No macro, syntax, notation, axiom, sorry.
-/
import Derived.Test.YtaenoonadodbnaaDoorChecked
import GoSem.Claim
import GoSem.ClaimJoined
import GoSem.ClaimMapViews
import Derived.JoinedTies
import Derived.KernelRfl
namespace Go.Proofs.YtaenoonadodbnaaDoor
/- THE CELL 'sum', in the pinned program and in every row, IS THE sha256 OF THE DUMP (.gsa) THAT YtaenoonadodbnaaDoorProg.lean LOADS. Nothing in Lean hashes anything: it is a label: what it is worth is what the hold of that sum in a sandbox is worth. -/
noncomputable def Tryd.pinned : Pinned := { name := "ytaenoonadodbnaadoor", sum := "614e07c24f7a845bbb3abd0da53195073ff894733cfc87cc6a196efe2e4a7a8b", checked := Tryd.checked }
namespace Rows
def none {H : Type} : Left H := { results := [], args := [] }

/- WHAT THE LISTED PACKAGE-LEVEL VARIABLES READ AS WHEN THE CALL BEGINS. Each datum BY PROGRAM (the guide's laid-datum.mjs) off the statement by which the dump's own 'gosem.cut.vars' lays the variable. In a bare row this is a premise. The card (YtaenoonadodbnaaDoorCards.lean) ties it to the program's text. -/
def laid_plinth_crc_table {H : Type} : DataW H := .agg [.lit (.int .u32 0), .lit (.int .u32 274646895), .lit (.int .u32 549293790), .lit (.int .u32 820201905), .lit (.int .u32 1098587580), .lit (.int .u32 1361435347), .lit (.int .u32 1640403810), .lit (.int .u32 1905808397), .lit (.int .u32 2197175160), .lit (.int .u32 2460548119), .lit (.int .u32 2722870694), .lit (.int .u32 2987750089), .lit (.int .u32 3280807620), .lit (.int .u32 3553878443), .lit (.int .u32 3811616794), .lit (.int .u32 4084100981)]

/-- 'plinthlaw03.FrameWrites': WHATEVER THE INPUT: true; the input reads as it did. -/
def frameWritesSpec : ChangeSpec := { name := "frameWrites", fn := fun _ => fun
  | [d1, d2] => { results := [.lit (.bool true)], args := [d1, d2] }
  | _ => none }
def frameWritesRow : OpenClaim := { program := "ytaenoonadodbnaadoor", sum := "614e07c24f7a845bbb3abd0da53195073ff894733cfc87cc6a196efe2e4a7a8b", func := "plinth/plinthlaw03.FrameWrites", spec := "frameWrites", named := ["plinth/crc.table"], apart := false, laid := [("plinth/crc.table", laid_plinth_crc_table)] }
def FrameWritesSaid : Prop := frameWritesRow.holds Tryd.pinned (OpenSpec.ofChange frameWritesSpec)

/-- ITS FALSE NEIGHBOUR: 'it returns false'. Refute it at one input. -/
def frameWritesWrong : ChangeSpec := { name := "frameWrites", fn := fun _ => fun
  | [d1, d2] => { results := [.lit (.bool false)], args := [d1, d2] }
  | _ => none }
def FrameWritesWrongFalsely : Prop := frameWritesRow.holds Tryd.pinned (OpenSpec.ofChange frameWritesWrong)

/-- 'plinthlaw03.FrameReads': WHATEVER THE INPUT: true; the input reads as it did. -/
def frameReadsSpec : ChangeSpec := { name := "frameReads", fn := fun _ => fun
  | [d1, d2] => { results := [.lit (.bool true)], args := [d1, d2] }
  | _ => none }
def frameReadsRow : OpenClaim := { program := "ytaenoonadodbnaadoor", sum := "614e07c24f7a845bbb3abd0da53195073ff894733cfc87cc6a196efe2e4a7a8b", func := "plinth/plinthlaw03.FrameReads", spec := "frameReads", named := ["plinth/crc.table"], apart := false, laid := [("plinth/crc.table", laid_plinth_crc_table)] }
def FrameReadsSaid : Prop := frameReadsRow.holds Tryd.pinned (OpenSpec.ofChange frameReadsSpec)

/-- ITS FALSE NEIGHBOUR: 'it returns false'. Refute it at one input. -/
def frameReadsWrong : ChangeSpec := { name := "frameReads", fn := fun _ => fun
  | [d1, d2] => { results := [.lit (.bool false)], args := [d1, d2] }
  | _ => none }
def FrameReadsWrongFalsely : Prop := frameReadsRow.holds Tryd.pinned (OpenSpec.ofChange frameReadsWrong)

/-- 'plinthlaw03.FrameScans': WHATEVER THE INPUT: true; the input reads as it did. -/
def frameScansSpec : ChangeSpec := { name := "frameScans", fn := fun _ => fun
  | [d] => { results := [.lit (.bool true)], args := [d] }
  | _ => none }
def frameScansRow : OpenClaim := { program := "ytaenoonadodbnaadoor", sum := "614e07c24f7a845bbb3abd0da53195073ff894733cfc87cc6a196efe2e4a7a8b", func := "plinth/plinthlaw03.FrameScans", spec := "frameScans", unfollowed := true, recurses := true, named := ["plinth/crc.table"], apart := false, laid := [("plinth/crc.table", laid_plinth_crc_table)] }
def FrameScansSaid : Prop := frameScansRow.holds Tryd.pinned (OpenSpec.ofChange frameScansSpec)

/-- ITS FALSE NEIGHBOUR: 'it returns false'. Refute it at one input. -/
def frameScansWrong : ChangeSpec := { name := "frameScans", fn := fun _ => fun
  | [d] => { results := [.lit (.bool false)], args := [d] }
  | _ => none }
def FrameScansWrongFalsely : Prop := frameScansRow.holds Tryd.pinned (OpenSpec.ofChange frameScansWrong)

/-- 'plinthlaw03.FramePads': WHATEVER THE INPUT: true; the input reads as it did. -/
def framePadsSpec : ChangeSpec := { name := "framePads", fn := fun _ => fun
  | [d1, d2] => { results := [.lit (.bool true)], args := [d1, d2] }
  | _ => none }
def framePadsRow : OpenClaim := { program := "ytaenoonadodbnaadoor", sum := "614e07c24f7a845bbb3abd0da53195073ff894733cfc87cc6a196efe2e4a7a8b", func := "plinth/plinthlaw03.FramePads", spec := "framePads", named := ["plinth/crc.table"], apart := false, laid := [("plinth/crc.table", laid_plinth_crc_table)] }
def FramePadsSaid : Prop := framePadsRow.holds Tryd.pinned (OpenSpec.ofChange framePadsSpec)

/-- ITS FALSE NEIGHBOUR: 'it returns false'. Refute it at one input. -/
def framePadsWrong : ChangeSpec := { name := "framePads", fn := fun _ => fun
  | [d1, d2] => { results := [.lit (.bool false)], args := [d1, d2] }
  | _ => none }
def FramePadsWrongFalsely : Prop := framePadsRow.holds Tryd.pinned (OpenSpec.ofChange framePadsWrong)

/-- 'plinthlaw03.FrameBack': WHATEVER THE INPUT: true; the input reads as it did. -/
def frameBackSpec : ChangeSpec := { name := "frameBack", fn := fun _ => fun
  | [d1, d2, d3] => { results := [.lit (.bool true)], args := [d1, d2, d3] }
  | _ => none }
def frameBackRow : OpenClaim := { program := "ytaenoonadodbnaadoor", sum := "614e07c24f7a845bbb3abd0da53195073ff894733cfc87cc6a196efe2e4a7a8b", func := "plinth/plinthlaw03.FrameBack", spec := "frameBack", named := ["plinth/crc.table"], apart := false, laid := [("plinth/crc.table", laid_plinth_crc_table)] }
def FrameBackSaid : Prop := frameBackRow.holds Tryd.pinned (OpenSpec.ofChange frameBackSpec)

/-- ITS FALSE NEIGHBOUR: 'it returns false'. Refute it at one input. -/
def frameBackWrong : ChangeSpec := { name := "frameBack", fn := fun _ => fun
  | [d1, d2, d3] => { results := [.lit (.bool false)], args := [d1, d2, d3] }
  | _ => none }
def FrameBackWrongFalsely : Prop := frameBackRow.holds Tryd.pinned (OpenSpec.ofChange frameBackWrong)

/-- 'plinthlaw03.FrameBegins': WHATEVER THE INPUT: true; the input reads as it did. -/
def frameBeginsSpec : ChangeSpec := { name := "frameBegins", fn := fun _ => fun
  | [d1, d2] => { results := [.lit (.bool true)], args := [d1, d2] }
  | _ => none }
def frameBeginsRow : OpenClaim := { program := "ytaenoonadodbnaadoor", sum := "614e07c24f7a845bbb3abd0da53195073ff894733cfc87cc6a196efe2e4a7a8b", func := "plinth/plinthlaw03.FrameBegins", spec := "frameBegins", unfollowed := true, recurses := true, named := ["plinth/crc.table"], apart := false, laid := [("plinth/crc.table", laid_plinth_crc_table)] }
def FrameBeginsSaid : Prop := frameBeginsRow.holds Tryd.pinned (OpenSpec.ofChange frameBeginsSpec)

/-- ITS FALSE NEIGHBOUR: 'it returns false'. Refute it at one input. -/
def frameBeginsWrong : ChangeSpec := { name := "frameBegins", fn := fun _ => fun
  | [d1, d2] => { results := [.lit (.bool false)], args := [d1, d2] }
  | _ => none }
def FrameBeginsWrongFalsely : Prop := frameBeginsRow.holds Tryd.pinned (OpenSpec.ofChange frameBeginsWrong)

/-- 'plinthlaw03.FrameSpoilt': WHATEVER THE INPUT: true; the input reads as it did. -/
def frameSpoiltSpec : ChangeSpec := { name := "frameSpoilt", fn := fun _ => fun
  | [d1, d2, d3, d4] => { results := [.lit (.bool true)], args := [d1, d2, d3, d4] }
  | _ => none }
def frameSpoiltRow : OpenClaim := { program := "ytaenoonadodbnaadoor", sum := "614e07c24f7a845bbb3abd0da53195073ff894733cfc87cc6a196efe2e4a7a8b", func := "plinth/plinthlaw03.FrameSpoilt", spec := "frameSpoilt", named := ["plinth/crc.table"], apart := false, laid := [("plinth/crc.table", laid_plinth_crc_table)] }
def FrameSpoiltSaid : Prop := frameSpoiltRow.holds Tryd.pinned (OpenSpec.ofChange frameSpoiltSpec)

/-- ITS FALSE NEIGHBOUR: 'it returns false'. Refute it at one input. -/
def frameSpoiltWrong : ChangeSpec := { name := "frameSpoilt", fn := fun _ => fun
  | [d1, d2, d3, d4] => { results := [.lit (.bool false)], args := [d1, d2, d3, d4] }
  | _ => none }
def FrameSpoiltWrongFalsely : Prop := frameSpoiltRow.holds Tryd.pinned (OpenSpec.ofChange frameSpoiltWrong)

/- THE SECOND FORM. 'bulk': how many values and letters a reading holds, each counted each time it is reached (what is shared counts as often as it is met; a slice's spare places count too). A statement '..UptoSaid' is the law's where the arguments, and the package variables that the reading takes, are together of bulk at most 1048576: NARROWER than '..Said'. Prove '..Said' where nothing that the law and all that it calls make is longer than what came in: it says more and counts as full. Else prove '..UptoSaid'. A law counts once. -/
mutual
def uptoBulk {H : Type} : DataW H → Nat
  | .lit (.string bytes) => bytes.length + 1
  | .lit _ => 1
  | .nil => 1
  | .ptr d => uptoBulk d + 1
  | .slice elems spare => uptoBulkAll elems + uptoBulkAll spare + 1
  | .agg parts => uptoBulkAll parts + 1
  | .iface _ d => uptoBulk d + 1
  | .map entries => uptoBulkEntries entries + 1
  | .held _ => 1
def uptoBulkAll {H : Type} : List (DataW H) → Nat
  | [] => 0
  | d :: r => uptoBulk d + uptoBulkAll r
def uptoBulkEntries {H : Type} : List (Lit × DataW H) → Nat
  | [] => 0
  | x :: r => uptoBulkEntry x + uptoBulkEntries r
def uptoBulkEntry {H : Type} : Lit × DataW H → Nat
  | (.string bytes, d) => bytes.length + uptoBulk d + 1
  | (_, d) => uptoBulk d + 1
 end
def uptoSmall : (H : Type) → List (DataW H) → Bool := fun _ ds => decide (uptoBulkAll ds ≤ 1048576)
def OpenSpec.upto (s : _root_.Go.ChangeSpec) : _root_.Go.OpenSpec := { _root_.Go.OpenSpec.ofChange s with cond := some uptoSmall }

/-- 'plinthlaw03.FrameWrites', WHERE WHAT IT READS IS OF BULK AT MOST 1048576: true; the input reads as it did. -/
def frameWritesUptoRow : OpenClaim := { program := "ytaenoonadodbnaadoor", sum := "614e07c24f7a845bbb3abd0da53195073ff894733cfc87cc6a196efe2e4a7a8b", func := "plinth/plinthlaw03.FrameWrites", spec := "frameWrites", named := ["plinth/crc.table"], apart := false, laid := [("plinth/crc.table", laid_plinth_crc_table)], narrowed := true }
def FrameWritesUptoSaid : Prop := frameWritesUptoRow.holds Tryd.pinned (OpenSpec.upto frameWritesSpec)

/-- 'plinthlaw03.FrameReads', WHERE WHAT IT READS IS OF BULK AT MOST 1048576: true; the input reads as it did. -/
def frameReadsUptoRow : OpenClaim := { program := "ytaenoonadodbnaadoor", sum := "614e07c24f7a845bbb3abd0da53195073ff894733cfc87cc6a196efe2e4a7a8b", func := "plinth/plinthlaw03.FrameReads", spec := "frameReads", named := ["plinth/crc.table"], apart := false, laid := [("plinth/crc.table", laid_plinth_crc_table)], narrowed := true }
def FrameReadsUptoSaid : Prop := frameReadsUptoRow.holds Tryd.pinned (OpenSpec.upto frameReadsSpec)

/-- 'plinthlaw03.FrameScans', WHERE WHAT IT READS IS OF BULK AT MOST 1048576: true; the input reads as it did. -/
def frameScansUptoRow : OpenClaim := { program := "ytaenoonadodbnaadoor", sum := "614e07c24f7a845bbb3abd0da53195073ff894733cfc87cc6a196efe2e4a7a8b", func := "plinth/plinthlaw03.FrameScans", spec := "frameScans", unfollowed := true, recurses := true, named := ["plinth/crc.table"], apart := false, laid := [("plinth/crc.table", laid_plinth_crc_table)], narrowed := true }
def FrameScansUptoSaid : Prop := frameScansUptoRow.holds Tryd.pinned (OpenSpec.upto frameScansSpec)

/-- 'plinthlaw03.FramePads', WHERE WHAT IT READS IS OF BULK AT MOST 1048576: true; the input reads as it did. -/
def framePadsUptoRow : OpenClaim := { program := "ytaenoonadodbnaadoor", sum := "614e07c24f7a845bbb3abd0da53195073ff894733cfc87cc6a196efe2e4a7a8b", func := "plinth/plinthlaw03.FramePads", spec := "framePads", named := ["plinth/crc.table"], apart := false, laid := [("plinth/crc.table", laid_plinth_crc_table)], narrowed := true }
def FramePadsUptoSaid : Prop := framePadsUptoRow.holds Tryd.pinned (OpenSpec.upto framePadsSpec)

/-- 'plinthlaw03.FrameBack', WHERE WHAT IT READS IS OF BULK AT MOST 1048576: true; the input reads as it did. -/
def frameBackUptoRow : OpenClaim := { program := "ytaenoonadodbnaadoor", sum := "614e07c24f7a845bbb3abd0da53195073ff894733cfc87cc6a196efe2e4a7a8b", func := "plinth/plinthlaw03.FrameBack", spec := "frameBack", named := ["plinth/crc.table"], apart := false, laid := [("plinth/crc.table", laid_plinth_crc_table)], narrowed := true }
def FrameBackUptoSaid : Prop := frameBackUptoRow.holds Tryd.pinned (OpenSpec.upto frameBackSpec)

/-- 'plinthlaw03.FrameBegins', WHERE WHAT IT READS IS OF BULK AT MOST 1048576: true; the input reads as it did. -/
def frameBeginsUptoRow : OpenClaim := { program := "ytaenoonadodbnaadoor", sum := "614e07c24f7a845bbb3abd0da53195073ff894733cfc87cc6a196efe2e4a7a8b", func := "plinth/plinthlaw03.FrameBegins", spec := "frameBegins", unfollowed := true, recurses := true, named := ["plinth/crc.table"], apart := false, laid := [("plinth/crc.table", laid_plinth_crc_table)], narrowed := true }
def FrameBeginsUptoSaid : Prop := frameBeginsUptoRow.holds Tryd.pinned (OpenSpec.upto frameBeginsSpec)

/-- 'plinthlaw03.FrameSpoilt', WHERE WHAT IT READS IS OF BULK AT MOST 1048576: true; the input reads as it did. -/
def frameSpoiltUptoRow : OpenClaim := { program := "ytaenoonadodbnaadoor", sum := "614e07c24f7a845bbb3abd0da53195073ff894733cfc87cc6a196efe2e4a7a8b", func := "plinth/plinthlaw03.FrameSpoilt", spec := "frameSpoilt", named := ["plinth/crc.table"], apart := false, laid := [("plinth/crc.table", laid_plinth_crc_table)], narrowed := true }
def FrameSpoiltUptoSaid : Prop := frameSpoiltUptoRow.holds Tryd.pinned (OpenSpec.upto frameSpoiltSpec)

end Rows
end Go.Proofs.YtaenoonadodbnaaDoor
