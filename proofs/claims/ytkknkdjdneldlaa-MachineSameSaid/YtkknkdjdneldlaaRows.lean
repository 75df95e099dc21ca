/-
  No cell of these rows narrows 'for every input' (looked for: loops, veiled, ifaces, maps, wideKeys, modest, calm, conditions, laid).
  DERIVED. THE GIVEN ROWS OF THIS SEAT. 5 by the template 'for every input the law returns true; each argument reads behind the call as it read before'; 0 by the template 'total and deterministic' (their statements: YtkknkdjdneldlaaTotals.lean).
  GIVEN WITH THE SEED: the statements are not yours to turn. If you find one false, say at which input.
  Laid BY PROGRAM, IN A SANDBOX (cutbox-rows.mjs): the forced cells as the released guide's own fill.sh prints them over the translation 7a5f727fac31d3b7… (all of the seat's roots in one cut). By AI agents, Wed Nov 11 2026. No macro, syntax, notation, axiom, sorry.
-/
import Derived.Test.YtkknkdjdneldlaaChecked
import GoSem.Claim
import GoSem.ClaimJoined
import GoSem.ClaimMapViews
import Derived.JoinedTies
import Derived.KernelRfl
namespace Go.Proofs.Ytkknkdjdneldlaa
/- THE CELL 'sum', in the pinned program and in every row, IS THE sha256 OF THE DUMP (.gsa) THAT YtkknkdjdneldlaaProg.lean LOADS. Nothing in Lean hashes anything: it is a label: what it is worth is what the hold of that sum in a sandbox is worth. -/
noncomputable def Try.pinned : Pinned := { name := "ytkknkdjdneldlaa", sum := "7a5f727fac31d3b7a1d3078399dadc63f6bf3d250ad735a4df651ed351ac1fe7", checked := Try.checked }
namespace Rows
def none {H : Type} : Left H := { results := [], args := [] }

/-- 'plinthlaw07.MachineNew': WHATEVER THE INPUT: true; the input reads as it did. -/
def machineNewSpec : ChangeSpec := { name := "machineNew", fn := fun _ => fun
  | [d1, d2] => { results := [.lit (.bool true)], args := [d1, d2] }
  | _ => none }
def machineNewRow : OpenClaim := { program := "ytkknkdjdneldlaa", sum := "7a5f727fac31d3b7a1d3078399dadc63f6bf3d250ad735a4df651ed351ac1fe7", func := "plinth/plinthlaw07.MachineNew", spec := "machineNew", unfollowed := true, recurses := true, apart := false }
def MachineNewSaid : Prop := machineNewRow.holds Try.pinned (OpenSpec.ofChange machineNewSpec)

/-- ITS FALSE NEIGHBOUR: 'it returns false'. Refute it at one input. -/
def machineNewWrong : ChangeSpec := { name := "machineNew", fn := fun _ => fun
  | [d1, d2] => { results := [.lit (.bool false)], args := [d1, d2] }
  | _ => none }
def MachineNewWrongFalsely : Prop := machineNewRow.holds Try.pinned (OpenSpec.ofChange machineNewWrong)

/-- 'plinthlaw07.MachineOnce': WHATEVER THE INPUT: true; the input reads as it did. -/
def machineOnceSpec : ChangeSpec := { name := "machineOnce", fn := fun _ => fun
  | [d1, d2, d3] => { results := [.lit (.bool true)], args := [d1, d2, d3] }
  | _ => none }
def machineOnceRow : OpenClaim := { program := "ytkknkdjdneldlaa", sum := "7a5f727fac31d3b7a1d3078399dadc63f6bf3d250ad735a4df651ed351ac1fe7", func := "plinth/plinthlaw07.MachineOnce", spec := "machineOnce", unfollowed := true, recurses := true, apart := false }
def MachineOnceSaid : Prop := machineOnceRow.holds Try.pinned (OpenSpec.ofChange machineOnceSpec)

/-- ITS FALSE NEIGHBOUR: 'it returns false'. Refute it at one input. -/
def machineOnceWrong : ChangeSpec := { name := "machineOnce", fn := fun _ => fun
  | [d1, d2, d3] => { results := [.lit (.bool false)], args := [d1, d2, d3] }
  | _ => none }
def MachineOnceWrongFalsely : Prop := machineOnceRow.holds Try.pinned (OpenSpec.ofChange machineOnceWrong)

/-- 'plinthlaw07.MachineSame': WHATEVER THE INPUT: true; the input reads as it did. -/
def machineSameSpec : ChangeSpec := { name := "machineSame", fn := fun _ => fun
  | [d1, d2, d3] => { results := [.lit (.bool true)], args := [d1, d2, d3] }
  | _ => none }
def machineSameRow : OpenClaim := { program := "ytkknkdjdneldlaa", sum := "7a5f727fac31d3b7a1d3078399dadc63f6bf3d250ad735a4df651ed351ac1fe7", func := "plinth/plinthlaw07.MachineSame", spec := "machineSame", unfollowed := true, recurses := true, apart := false }
def MachineSameSaid : Prop := machineSameRow.holds Try.pinned (OpenSpec.ofChange machineSameSpec)

/-- ITS FALSE NEIGHBOUR: 'it returns false'. Refute it at one input. -/
def machineSameWrong : ChangeSpec := { name := "machineSame", fn := fun _ => fun
  | [d1, d2, d3] => { results := [.lit (.bool false)], args := [d1, d2, d3] }
  | _ => none }
def MachineSameWrongFalsely : Prop := machineSameRow.holds Try.pinned (OpenSpec.ofChange machineSameWrong)

/-- 'plinthlaw07.MachineLater': WHATEVER THE INPUT: true; the input reads as it did. -/
def machineLaterSpec : ChangeSpec := { name := "machineLater", fn := fun _ => fun
  | [d1, d2, d3] => { results := [.lit (.bool true)], args := [d1, d2, d3] }
  | _ => none }
def machineLaterRow : OpenClaim := { program := "ytkknkdjdneldlaa", sum := "7a5f727fac31d3b7a1d3078399dadc63f6bf3d250ad735a4df651ed351ac1fe7", func := "plinth/plinthlaw07.MachineLater", spec := "machineLater", unfollowed := true, recurses := true, apart := false }
def MachineLaterSaid : Prop := machineLaterRow.holds Try.pinned (OpenSpec.ofChange machineLaterSpec)

/-- ITS FALSE NEIGHBOUR: 'it returns false'. Refute it at one input. -/
def machineLaterWrong : ChangeSpec := { name := "machineLater", fn := fun _ => fun
  | [d1, d2, d3] => { results := [.lit (.bool false)], args := [d1, d2, d3] }
  | _ => none }
def MachineLaterWrongFalsely : Prop := machineLaterRow.holds Try.pinned (OpenSpec.ofChange machineLaterWrong)

/-- 'plinthlaw07.MachineNobody': WHATEVER THE INPUT: true; the input reads as it did. -/
def machineNobodySpec : ChangeSpec := { name := "machineNobody", fn := fun _ => fun
  | [d1, d2] => { results := [.lit (.bool true)], args := [d1, d2] }
  | _ => none }
def machineNobodyRow : OpenClaim := { program := "ytkknkdjdneldlaa", sum := "7a5f727fac31d3b7a1d3078399dadc63f6bf3d250ad735a4df651ed351ac1fe7", func := "plinth/plinthlaw07.MachineNobody", spec := "machineNobody", unfollowed := true, recurses := true, apart := false }
def MachineNobodySaid : Prop := machineNobodyRow.holds Try.pinned (OpenSpec.ofChange machineNobodySpec)

/-- ITS FALSE NEIGHBOUR: 'it returns false'. Refute it at one input. -/
def machineNobodyWrong : ChangeSpec := { name := "machineNobody", fn := fun _ => fun
  | [d1, d2] => { results := [.lit (.bool false)], args := [d1, d2] }
  | _ => none }
def MachineNobodyWrongFalsely : Prop := machineNobodyRow.holds Try.pinned (OpenSpec.ofChange machineNobodyWrong)

/- THE SECOND FORM. 'bulk': how many values and letters a reading holds, each counted each time it is reached (what is shared counts as often as it is met; a slice's spare places count too). A statement '..UptoSaid' is the law's where the arguments, and the package variables that the reading takes, are together of bulk at most 1048576: NARROWER than '..Said'. Prove '..Said' where nothing that the law and all that it calls make is longer than what came in: it says more and counts as full. Else prove '..UptoSaid'. A law counts once. -/
mutual
def uptoBulk {H : Type} : DataW H → Nat
  | .lit (.string bytes) => bytes.length + 1
  | .lit _ => 1
  | .nil => 1
  | .ptr d => uptoBulk d + 1
  | .slice elems spare => uptoBulkAll elems + uptoBulkAll spare + 1
  | .agg parts => uptoBulkAll parts + 1
  | .iface _ d => uptoBulk d + 1
  | .map entries => uptoBulkEntries entries + 1
  | .held _ => 1
def uptoBulkAll {H : Type} : List (DataW H) → Nat
  | [] => 0
  | d :: r => uptoBulk d + uptoBulkAll r
def uptoBulkEntries {H : Type} : List (Lit × DataW H) → Nat
  | [] => 0
  | x :: r => uptoBulkEntry x + uptoBulkEntries r
def uptoBulkEntry {H : Type} : Lit × DataW H → Nat
  | (.string bytes, d) => bytes.length + uptoBulk d + 1
  | (_, d) => uptoBulk d + 1
 end
def uptoSmall : (H : Type) → List (DataW H) → Bool := fun _ ds => decide (uptoBulkAll ds ≤ 1048576)
def OpenSpec.upto (s : _root_.Go.ChangeSpec) : _root_.Go.OpenSpec := { _root_.Go.OpenSpec.ofChange s with cond := some uptoSmall }

/-- 'plinthlaw07.MachineNew', WHERE WHAT IT READS IS OF BULK AT MOST 1048576: true; the input reads as it did. -/
def machineNewUptoRow : OpenClaim := { program := "ytkknkdjdneldlaa", sum := "7a5f727fac31d3b7a1d3078399dadc63f6bf3d250ad735a4df651ed351ac1fe7", func := "plinth/plinthlaw07.MachineNew", spec := "machineNew", unfollowed := true, recurses := true, apart := false, narrowed := true }
def MachineNewUptoSaid : Prop := machineNewUptoRow.holds Try.pinned (OpenSpec.upto machineNewSpec)

/-- 'plinthlaw07.MachineOnce', WHERE WHAT IT READS IS OF BULK AT MOST 1048576: true; the input reads as it did. -/
def machineOnceUptoRow : OpenClaim := { program := "ytkknkdjdneldlaa", sum := "7a5f727fac31d3b7a1d3078399dadc63f6bf3d250ad735a4df651ed351ac1fe7", func := "plinth/plinthlaw07.MachineOnce", spec := "machineOnce", unfollowed := true, recurses := true, apart := false, narrowed := true }
def MachineOnceUptoSaid : Prop := machineOnceUptoRow.holds Try.pinned (OpenSpec.upto machineOnceSpec)

/-- 'plinthlaw07.MachineSame', WHERE WHAT IT READS IS OF BULK AT MOST 1048576: true; the input reads as it did. -/
def machineSameUptoRow : OpenClaim := { program := "ytkknkdjdneldlaa", sum := "7a5f727fac31d3b7a1d3078399dadc63f6bf3d250ad735a4df651ed351ac1fe7", func := "plinth/plinthlaw07.MachineSame", spec := "machineSame", unfollowed := true, recurses := true, apart := false, narrowed := true }
def MachineSameUptoSaid : Prop := machineSameUptoRow.holds Try.pinned (OpenSpec.upto machineSameSpec)

/-- 'plinthlaw07.MachineLater', WHERE WHAT IT READS IS OF BULK AT MOST 1048576: true; the input reads as it did. -/
def machineLaterUptoRow : OpenClaim := { program := "ytkknkdjdneldlaa", sum := "7a5f727fac31d3b7a1d3078399dadc63f6bf3d250ad735a4df651ed351ac1fe7", func := "plinth/plinthlaw07.MachineLater", spec := "machineLater", unfollowed := true, recurses := true, apart := false, narrowed := true }
def MachineLaterUptoSaid : Prop := machineLaterUptoRow.holds Try.pinned (OpenSpec.upto machineLaterSpec)

/-- 'plinthlaw07.MachineNobody', WHERE WHAT IT READS IS OF BULK AT MOST 1048576: true; the input reads as it did. -/
def machineNobodyUptoRow : OpenClaim := { program := "ytkknkdjdneldlaa", sum := "7a5f727fac31d3b7a1d3078399dadc63f6bf3d250ad735a4df651ed351ac1fe7", func := "plinth/plinthlaw07.MachineNobody", spec := "machineNobody", unfollowed := true, recurses := true, apart := false, narrowed := true }
def MachineNobodyUptoSaid : Prop := machineNobodyUptoRow.holds Try.pinned (OpenSpec.upto machineNobodySpec)

end Rows
end Go.Proofs.Ytkknkdjdneldlaa
