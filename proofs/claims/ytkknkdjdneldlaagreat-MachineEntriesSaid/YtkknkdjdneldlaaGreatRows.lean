/-
  No cell of these rows narrows 'for every input' (looked for: loops, veiled, ifaces, maps, wideKeys, modest, calm, conditions, laid).
  DERIVED. THE GIVEN ROWS OF THIS SEAT. 5 by the template 'for every input the law returns true; each argument reads behind the call as it read before'; 0 by the template 'total and deterministic' (their statements: YtkknkdjdneldlaaGreatTotals.lean).
  GIVEN WITH THE SEED: the statements are not yours to turn. If you find one false, say at which input.
  Laid BY PROGRAM, IN A SANDBOX (cutbox-rows.mjs): the forced cells as the released guide's own fill.sh prints them over the translation 74401ef2e5f3580f… (all of the seat's roots in one cut). By AI agents, Wed Nov 11 2026. No macro, syntax, notation, axiom, sorry.
-/
import Derived.Test.YtkknkdjdneldlaaGreatChecked
import GoSem.Claim
import GoSem.ClaimJoined
import GoSem.ClaimMapViews
import Derived.JoinedTies
import Derived.KernelRfl
namespace Go.Proofs.YtkknkdjdneldlaaGreat
/- THE CELL 'sum', in the pinned program and in every row, IS THE sha256 OF THE DUMP (.gsa) THAT YtkknkdjdneldlaaGreatProg.lean LOADS. Nothing in Lean hashes anything: it is a label: what it is worth is what the hold of that sum in a sandbox is worth. -/
noncomputable def Tryz.pinned : Pinned := { name := "ytkknkdjdneldlaagreat", sum := "74401ef2e5f3580fff463e626bfebc71924013afbcb7a26a34caf2d703555d60", checked := Tryz.checked }
namespace Rows
def none {H : Type} : Left H := { results := [], args := [] }

/-- 'plinthlaw07.MachineRuns': WHATEVER THE INPUT: true; the input reads as it did. -/
def machineRunsSpec : ChangeSpec := { name := "machineRuns", fn := fun _ => fun
  | [d1, d2] => { results := [.lit (.bool true)], args := [d1, d2] }
  | _ => none }
def machineRunsRow : OpenClaim := { program := "ytkknkdjdneldlaagreat", sum := "74401ef2e5f3580fff463e626bfebc71924013afbcb7a26a34caf2d703555d60", func := "plinth/plinthlaw07.MachineRuns", spec := "machineRuns", unfollowed := true, recurses := true, apart := false }
def MachineRunsSaid : Prop := machineRunsRow.holds Tryz.pinned (OpenSpec.ofChange machineRunsSpec)

/-- ITS FALSE NEIGHBOUR: 'it returns false'. Refute it at one input. -/
def machineRunsWrong : ChangeSpec := { name := "machineRuns", fn := fun _ => fun
  | [d1, d2] => { results := [.lit (.bool false)], args := [d1, d2] }
  | _ => none }
def MachineRunsWrongFalsely : Prop := machineRunsRow.holds Tryz.pinned (OpenSpec.ofChange machineRunsWrong)

/-- 'plinthlaw07.MachinePatches': WHATEVER THE INPUT: true; the input reads as it did. -/
def machinePatchesSpec : ChangeSpec := { name := "machinePatches", fn := fun _ => fun
  | [d1, d2, d3, d4] => { results := [.lit (.bool true)], args := [d1, d2, d3, d4] }
  | _ => none }
def machinePatchesRow : OpenClaim := { program := "ytkknkdjdneldlaagreat", sum := "74401ef2e5f3580fff463e626bfebc71924013afbcb7a26a34caf2d703555d60", func := "plinth/plinthlaw07.MachinePatches", spec := "machinePatches", unfollowed := true, recurses := true, apart := false }
def MachinePatchesSaid : Prop := machinePatchesRow.holds Tryz.pinned (OpenSpec.ofChange machinePatchesSpec)

/-- ITS FALSE NEIGHBOUR: 'it returns false'. Refute it at one input. -/
def machinePatchesWrong : ChangeSpec := { name := "machinePatches", fn := fun _ => fun
  | [d1, d2, d3, d4] => { results := [.lit (.bool false)], args := [d1, d2, d3, d4] }
  | _ => none }
def MachinePatchesWrongFalsely : Prop := machinePatchesRow.holds Tryz.pinned (OpenSpec.ofChange machinePatchesWrong)

/-- 'plinthlaw07.MachineEntries': WHATEVER THE INPUT: true; the input reads as it did. -/
def machineEntriesSpec : ChangeSpec := { name := "machineEntries", fn := fun _ => fun
  | [d1, d2, d3] => { results := [.lit (.bool true)], args := [d1, d2, d3] }
  | _ => none }
def machineEntriesRow : OpenClaim := { program := "ytkknkdjdneldlaagreat", sum := "74401ef2e5f3580fff463e626bfebc71924013afbcb7a26a34caf2d703555d60", func := "plinth/plinthlaw07.MachineEntries", spec := "machineEntries", unfollowed := true, recurses := true, apart := false }
def MachineEntriesSaid : Prop := machineEntriesRow.holds Tryz.pinned (OpenSpec.ofChange machineEntriesSpec)

/-- ITS FALSE NEIGHBOUR: 'it returns false'. Refute it at one input. -/
def machineEntriesWrong : ChangeSpec := { name := "machineEntries", fn := fun _ => fun
  | [d1, d2, d3] => { results := [.lit (.bool false)], args := [d1, d2, d3] }
  | _ => none }
def MachineEntriesWrongFalsely : Prop := machineEntriesRow.holds Tryz.pinned (OpenSpec.ofChange machineEntriesWrong)

/-- 'plinthlaw07.MachineStates': WHATEVER THE INPUT: true; the input reads as it did. -/
def machineStatesSpec : ChangeSpec := { name := "machineStates", fn := fun _ => fun
  | [d1, d2, d3] => { results := [.lit (.bool true)], args := [d1, d2, d3] }
  | _ => none }
def machineStatesRow : OpenClaim := { program := "ytkknkdjdneldlaagreat", sum := "74401ef2e5f3580fff463e626bfebc71924013afbcb7a26a34caf2d703555d60", func := "plinth/plinthlaw07.MachineStates", spec := "machineStates", unfollowed := true, recurses := true, apart := false }
def MachineStatesSaid : Prop := machineStatesRow.holds Tryz.pinned (OpenSpec.ofChange machineStatesSpec)

/-- ITS FALSE NEIGHBOUR: 'it returns false'. Refute it at one input. -/
def machineStatesWrong : ChangeSpec := { name := "machineStates", fn := fun _ => fun
  | [d1, d2, d3] => { results := [.lit (.bool false)], args := [d1, d2, d3] }
  | _ => none }
def MachineStatesWrongFalsely : Prop := machineStatesRow.holds Tryz.pinned (OpenSpec.ofChange machineStatesWrong)

/-- 'plinthlaw07.MachineBack': WHATEVER THE INPUT: true; the input reads as it did. -/
def machineBackSpec : ChangeSpec := { name := "machineBack", fn := fun _ => fun
  | [d1, d2, d3] => { results := [.lit (.bool true)], args := [d1, d2, d3] }
  | _ => none }
def machineBackRow : OpenClaim := { program := "ytkknkdjdneldlaagreat", sum := "74401ef2e5f3580fff463e626bfebc71924013afbcb7a26a34caf2d703555d60", func := "plinth/plinthlaw07.MachineBack", spec := "machineBack", unfollowed := true, recurses := true, apart := false }
def MachineBackSaid : Prop := machineBackRow.holds Tryz.pinned (OpenSpec.ofChange machineBackSpec)

/-- ITS FALSE NEIGHBOUR: 'it returns false'. Refute it at one input. -/
def machineBackWrong : ChangeSpec := { name := "machineBack", fn := fun _ => fun
  | [d1, d2, d3] => { results := [.lit (.bool false)], args := [d1, d2, d3] }
  | _ => none }
def MachineBackWrongFalsely : Prop := machineBackRow.holds Tryz.pinned (OpenSpec.ofChange machineBackWrong)

/- THE SECOND FORM. 'bulk': how many values and letters a reading holds, each counted each time it is reached (what is shared counts as often as it is met; a slice's spare places count too). A statement '..UptoSaid' is the law's where the arguments, and the package variables that the reading takes, are together of bulk at most 1048576: NARROWER than '..Said'. Prove '..Said' where nothing that the law and all that it calls make is longer than what came in: it says more and counts as full. Else prove '..UptoSaid'. A law counts once. -/
mutual
def uptoBulk {H : Type} : DataW H → Nat
  | .lit (.string bytes) => bytes.length + 1
  | .lit _ => 1
  | .nil => 1
  | .ptr d => uptoBulk d + 1
  | .slice elems spare => uptoBulkAll elems + uptoBulkAll spare + 1
  | .agg parts => uptoBulkAll parts + 1
  | .iface _ d => uptoBulk d + 1
  | .map entries => uptoBulkEntries entries + 1
  | .held _ => 1
def uptoBulkAll {H : Type} : List (DataW H) → Nat
  | [] => 0
  | d :: r => uptoBulk d + uptoBulkAll r
def uptoBulkEntries {H : Type} : List (Lit × DataW H) → Nat
  | [] => 0
  | x :: r => uptoBulkEntry x + uptoBulkEntries r
def uptoBulkEntry {H : Type} : Lit × DataW H → Nat
  | (.string bytes, d) => bytes.length + uptoBulk d + 1
  | (_, d) => uptoBulk d + 1
 end
def uptoSmall : (H : Type) → List (DataW H) → Bool := fun _ ds => decide (uptoBulkAll ds ≤ 1048576)
def OpenSpec.upto (s : _root_.Go.ChangeSpec) : _root_.Go.OpenSpec := { _root_.Go.OpenSpec.ofChange s with cond := some uptoSmall }

/-- 'plinthlaw07.MachineRuns', WHERE WHAT IT READS IS OF BULK AT MOST 1048576: true; the input reads as it did. -/
def machineRunsUptoRow : OpenClaim := { program := "ytkknkdjdneldlaagreat", sum := "74401ef2e5f3580fff463e626bfebc71924013afbcb7a26a34caf2d703555d60", func := "plinth/plinthlaw07.MachineRuns", spec := "machineRuns", unfollowed := true, recurses := true, apart := false, narrowed := true }
def MachineRunsUptoSaid : Prop := machineRunsUptoRow.holds Tryz.pinned (OpenSpec.upto machineRunsSpec)

/-- 'plinthlaw07.MachinePatches', WHERE WHAT IT READS IS OF BULK AT MOST 1048576: true; the input reads as it did. -/
def machinePatchesUptoRow : OpenClaim := { program := "ytkknkdjdneldlaagreat", sum := "74401ef2e5f3580fff463e626bfebc71924013afbcb7a26a34caf2d703555d60", func := "plinth/plinthlaw07.MachinePatches", spec := "machinePatches", unfollowed := true, recurses := true, apart := false, narrowed := true }
def MachinePatchesUptoSaid : Prop := machinePatchesUptoRow.holds Tryz.pinned (OpenSpec.upto machinePatchesSpec)

/-- 'plinthlaw07.MachineEntries', WHERE WHAT IT READS IS OF BULK AT MOST 1048576: true; the input reads as it did. -/
def machineEntriesUptoRow : OpenClaim := { program := "ytkknkdjdneldlaagreat", sum := "74401ef2e5f3580fff463e626bfebc71924013afbcb7a26a34caf2d703555d60", func := "plinth/plinthlaw07.MachineEntries", spec := "machineEntries", unfollowed := true, recurses := true, apart := false, narrowed := true }
def MachineEntriesUptoSaid : Prop := machineEntriesUptoRow.holds Tryz.pinned (OpenSpec.upto machineEntriesSpec)

/-- 'plinthlaw07.MachineStates', WHERE WHAT IT READS IS OF BULK AT MOST 1048576: true; the input reads as it did. -/
def machineStatesUptoRow : OpenClaim := { program := "ytkknkdjdneldlaagreat", sum := "74401ef2e5f3580fff463e626bfebc71924013afbcb7a26a34caf2d703555d60", func := "plinth/plinthlaw07.MachineStates", spec := "machineStates", unfollowed := true, recurses := true, apart := false, narrowed := true }
def MachineStatesUptoSaid : Prop := machineStatesUptoRow.holds Tryz.pinned (OpenSpec.upto machineStatesSpec)

/-- 'plinthlaw07.MachineBack', WHERE WHAT IT READS IS OF BULK AT MOST 1048576: true; the input reads as it did. -/
def machineBackUptoRow : OpenClaim := { program := "ytkknkdjdneldlaagreat", sum := "74401ef2e5f3580fff463e626bfebc71924013afbcb7a26a34caf2d703555d60", func := "plinth/plinthlaw07.MachineBack", spec := "machineBack", unfollowed := true, recurses := true, apart := false, narrowed := true }
def MachineBackUptoSaid : Prop := machineBackUptoRow.holds Tryz.pinned (OpenSpec.upto machineBackSpec)

end Rows
end Go.Proofs.YtkknkdjdneldlaaGreat
