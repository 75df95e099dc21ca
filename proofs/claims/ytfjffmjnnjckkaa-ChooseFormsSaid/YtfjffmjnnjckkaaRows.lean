/-
  No cell of these rows narrows 'for every input' (looked for: loops, veiled, ifaces, maps, wideKeys, modest, calm, conditions, laid).
  DERIVED. THE GIVEN ROWS OF THIS SEAT. 3 by the template 'for every input the law returns true; each argument reads behind the call as it read before'; 0 by the template 'total and deterministic' (their statements: YtfjffmjnnjckkaaTotals.lean).
  GIVEN WITH THE SEED: the statements are not yours to turn. If you find one false, say at which input.
  Laid BY PROGRAM, IN A SANDBOX (cutbox-rows.mjs): the forced cells as the released guide's own fill.sh prints them over the translation 316e544f46cdd4db… (all of the seat's roots in one cut). By AI agents, Wed Nov 11 2026. No macro, syntax, notation, axiom, sorry.
-/
import Derived.Test.YtfjffmjnnjckkaaChecked
import GoSem.Claim
import GoSem.ClaimJoined
import GoSem.ClaimMapViews
import Derived.JoinedTies
import Derived.KernelRfl
namespace Go.Proofs.Ytfjffmjnnjckkaa
/- THE CELL 'sum', in the pinned program and in every row, IS THE sha256 OF THE DUMP (.gsa) THAT YtfjffmjnnjckkaaProg.lean LOADS. Nothing in Lean hashes anything: it is a label: what it is worth is what the hold of that sum in a sandbox is worth. -/
noncomputable def Try.pinned : Pinned := { name := "ytfjffmjnnjckkaa", sum := "316e544f46cdd4db4174730300acae1dcaf8c02244556caf71aeee12c4a52757", checked := Try.checked }
namespace Rows
def none {H : Type} : Left H := { results := [], args := [] }

/-- 'plinthlaw17.ChooseForms': WHATEVER THE INPUT: true; the input reads as it did. -/
def chooseFormsSpec : ChangeSpec := { name := "chooseForms", fn := fun _ => fun
  | [d1, d2] => { results := [.lit (.bool true)], args := [d1, d2] }
  | _ => none }
def chooseFormsRow : OpenClaim := { program := "ytfjffmjnnjckkaa", sum := "316e544f46cdd4db4174730300acae1dcaf8c02244556caf71aeee12c4a52757", func := "plinth/plinthlaw17.ChooseForms", spec := "chooseForms", unfollowed := true, recurses := true, apart := false }
def ChooseFormsSaid : Prop := chooseFormsRow.holds Try.pinned (OpenSpec.ofChange chooseFormsSpec)

/-- ITS FALSE NEIGHBOUR: 'it returns false'. Refute it at one input. -/
def chooseFormsWrong : ChangeSpec := { name := "chooseForms", fn := fun _ => fun
  | [d1, d2] => { results := [.lit (.bool false)], args := [d1, d2] }
  | _ => none }
def ChooseFormsWrongFalsely : Prop := chooseFormsRow.holds Try.pinned (OpenSpec.ofChange chooseFormsWrong)

/-- 'plinthlaw17.ChoosePuts': WHATEVER THE INPUT: true; the input reads as it did. -/
def choosePutsSpec : ChangeSpec := { name := "choosePuts", fn := fun _ => fun
  | [d1, d2, d3] => { results := [.lit (.bool true)], args := [d1, d2, d3] }
  | _ => none }
def choosePutsRow : OpenClaim := { program := "ytfjffmjnnjckkaa", sum := "316e544f46cdd4db4174730300acae1dcaf8c02244556caf71aeee12c4a52757", func := "plinth/plinthlaw17.ChoosePuts", spec := "choosePuts", unfollowed := true, recurses := true, apart := false }
def ChoosePutsSaid : Prop := choosePutsRow.holds Try.pinned (OpenSpec.ofChange choosePutsSpec)

/-- ITS FALSE NEIGHBOUR: 'it returns false'. Refute it at one input. -/
def choosePutsWrong : ChangeSpec := { name := "choosePuts", fn := fun _ => fun
  | [d1, d2, d3] => { results := [.lit (.bool false)], args := [d1, d2, d3] }
  | _ => none }
def ChoosePutsWrongFalsely : Prop := choosePutsRow.holds Try.pinned (OpenSpec.ofChange choosePutsWrong)

/-- 'plinthlaw17.ChooseKeeps': WHATEVER THE INPUT: true; the input reads as it did. -/
def chooseKeepsSpec : ChangeSpec := { name := "chooseKeeps", fn := fun _ => fun
  | [d1, d2, d3, d4] => { results := [.lit (.bool true)], args := [d1, d2, d3, d4] }
  | _ => none }
def chooseKeepsRow : OpenClaim := { program := "ytfjffmjnnjckkaa", sum := "316e544f46cdd4db4174730300acae1dcaf8c02244556caf71aeee12c4a52757", func := "plinth/plinthlaw17.ChooseKeeps", spec := "chooseKeeps", apart := false }
def ChooseKeepsSaid : Prop := chooseKeepsRow.holds Try.pinned (OpenSpec.ofChange chooseKeepsSpec)

/-- ITS FALSE NEIGHBOUR: 'it returns false'. Refute it at one input. -/
def chooseKeepsWrong : ChangeSpec := { name := "chooseKeeps", fn := fun _ => fun
  | [d1, d2, d3, d4] => { results := [.lit (.bool false)], args := [d1, d2, d3, d4] }
  | _ => none }
def ChooseKeepsWrongFalsely : Prop := chooseKeepsRow.holds Try.pinned (OpenSpec.ofChange chooseKeepsWrong)

/- THE SECOND FORM. 'bulk': how many values and letters a reading holds, each counted each time it is reached (what is shared counts as often as it is met; a slice's spare places count too). A statement '..UptoSaid' is the law's where the arguments, and the package variables that the reading takes, are together of bulk at most 1048576: NARROWER than '..Said'. Prove '..Said' where nothing that the law and all that it calls make is longer than what came in: it says more and counts as full. Else prove '..UptoSaid'. A law counts once. -/
mutual
def uptoBulk {H : Type} : DataW H → Nat
  | .lit (.string bytes) => bytes.length + 1
  | .lit _ => 1
  | .nil => 1
  | .ptr d => uptoBulk d + 1
  | .slice elems spare => uptoBulkAll elems + uptoBulkAll spare + 1
  | .agg parts => uptoBulkAll parts + 1
  | .iface _ d => uptoBulk d + 1
  | .map entries => uptoBulkEntries entries + 1
  | .held _ => 1
def uptoBulkAll {H : Type} : List (DataW H) → Nat
  | [] => 0
  | d :: r => uptoBulk d + uptoBulkAll r
def uptoBulkEntries {H : Type} : List (Lit × DataW H) → Nat
  | [] => 0
  | x :: r => uptoBulkEntry x + uptoBulkEntries r
def uptoBulkEntry {H : Type} : Lit × DataW H → Nat
  | (.string bytes, d) => bytes.length + uptoBulk d + 1
  | (_, d) => uptoBulk d + 1
 end
def uptoSmall : (H : Type) → List (DataW H) → Bool := fun _ ds => decide (uptoBulkAll ds ≤ 1048576)
def OpenSpec.upto (s : _root_.Go.ChangeSpec) : _root_.Go.OpenSpec := { _root_.Go.OpenSpec.ofChange s with cond := some uptoSmall }

/-- 'plinthlaw17.ChooseForms', WHERE WHAT IT READS IS OF BULK AT MOST 1048576: true; the input reads as it did. -/
def chooseFormsUptoRow : OpenClaim := { program := "ytfjffmjnnjckkaa", sum := "316e544f46cdd4db4174730300acae1dcaf8c02244556caf71aeee12c4a52757", func := "plinth/plinthlaw17.ChooseForms", spec := "chooseForms", unfollowed := true, recurses := true, apart := false, narrowed := true }
def ChooseFormsUptoSaid : Prop := chooseFormsUptoRow.holds Try.pinned (OpenSpec.upto chooseFormsSpec)

/-- 'plinthlaw17.ChoosePuts', WHERE WHAT IT READS IS OF BULK AT MOST 1048576: true; the input reads as it did. -/
def choosePutsUptoRow : OpenClaim := { program := "ytfjffmjnnjckkaa", sum := "316e544f46cdd4db4174730300acae1dcaf8c02244556caf71aeee12c4a52757", func := "plinth/plinthlaw17.ChoosePuts", spec := "choosePuts", unfollowed := true, recurses := true, apart := false, narrowed := true }
def ChoosePutsUptoSaid : Prop := choosePutsUptoRow.holds Try.pinned (OpenSpec.upto choosePutsSpec)

/-- 'plinthlaw17.ChooseKeeps', WHERE WHAT IT READS IS OF BULK AT MOST 1048576: true; the input reads as it did. -/
def chooseKeepsUptoRow : OpenClaim := { program := "ytfjffmjnnjckkaa", sum := "316e544f46cdd4db4174730300acae1dcaf8c02244556caf71aeee12c4a52757", func := "plinth/plinthlaw17.ChooseKeeps", spec := "chooseKeeps", apart := false, narrowed := true }
def ChooseKeepsUptoSaid : Prop := chooseKeepsUptoRow.holds Try.pinned (OpenSpec.upto chooseKeepsSpec)

end Rows
end Go.Proofs.Ytfjffmjnnjckkaa
