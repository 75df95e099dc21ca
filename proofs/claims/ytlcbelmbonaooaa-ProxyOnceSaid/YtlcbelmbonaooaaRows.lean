/-
  No cell of these rows narrows 'for every input' (looked for: loops, veiled, ifaces, maps, wideKeys, modest, calm, conditions, laid).
  DERIVED. THE GIVEN ROWS OF THIS SEAT. 5 by the template 'for every input the law returns true; each argument reads behind the call as it read before'; 0 by the template 'total and deterministic' (their statements: YtlcbelmbonaooaaTotals.lean).
  GIVEN WITH THE SEED: the statements are not yours to turn. If you find one false, say at which input.
  Laid BY PROGRAM, IN A SANDBOX (cutbox-rows.mjs): the forced cells as the released guide's own fill.sh prints them over the translation b7a1bfc15807b9e8… (all of the seat's roots in one cut). By AI agents, Wed Nov 11 2026. No macro, syntax, notation, axiom, sorry.
-/
import Derived.Test.YtlcbelmbonaooaaChecked
import GoSem.Claim
import GoSem.ClaimJoined
import GoSem.ClaimMapViews
import Derived.JoinedTies
import Derived.KernelRfl
namespace Go.Proofs.Ytlcbelmbonaooaa
/- THE CELL 'sum', in the pinned program and in every row, IS THE sha256 OF THE DUMP (.gsa) THAT YtlcbelmbonaooaaProg.lean LOADS. Nothing in Lean hashes anything: it is a label: what it is worth is what the hold of that sum in a sandbox is worth. -/
noncomputable def Try.pinned : Pinned := { name := "ytlcbelmbonaooaa", sum := "b7a1bfc15807b9e8acb3650ba8d64028b1a672e7fadf779ecf479f6ea3d964a5", checked := Try.checked }
namespace Rows
def none {H : Type} : Left H := { results := [], args := [] }

/-- 'plinthlaw24.ProxyForms': WHATEVER THE INPUT: true; the input reads as it did. -/
def proxyFormsSpec : ChangeSpec := { name := "proxyForms", fn := fun _ => fun
  | [d1, d2, d3, d4] => { results := [.lit (.bool true)], args := [d1, d2, d3, d4] }
  | _ => none }
def proxyFormsRow : OpenClaim := { program := "ytlcbelmbonaooaa", sum := "b7a1bfc15807b9e8acb3650ba8d64028b1a672e7fadf779ecf479f6ea3d964a5", func := "plinth/plinthlaw24.ProxyForms", spec := "proxyForms", unfollowed := true, recurses := true, apart := false }
def ProxyFormsSaid : Prop := proxyFormsRow.holds Try.pinned (OpenSpec.ofChange proxyFormsSpec)

/-- ITS FALSE NEIGHBOUR: 'it returns false'. Refute it at one input. -/
def proxyFormsWrong : ChangeSpec := { name := "proxyForms", fn := fun _ => fun
  | [d1, d2, d3, d4] => { results := [.lit (.bool false)], args := [d1, d2, d3, d4] }
  | _ => none }
def ProxyFormsWrongFalsely : Prop := proxyFormsRow.holds Try.pinned (OpenSpec.ofChange proxyFormsWrong)

/-- 'plinthlaw24.ProxyAsks': WHATEVER THE INPUT: true; the input reads as it did. -/
def proxyAsksSpec : ChangeSpec := { name := "proxyAsks", fn := fun _ => fun
  | [d1, d2, d3] => { results := [.lit (.bool true)], args := [d1, d2, d3] }
  | _ => none }
def proxyAsksRow : OpenClaim := { program := "ytlcbelmbonaooaa", sum := "b7a1bfc15807b9e8acb3650ba8d64028b1a672e7fadf779ecf479f6ea3d964a5", func := "plinth/plinthlaw24.ProxyAsks", spec := "proxyAsks", unfollowed := true, recurses := true, apart := false }
def ProxyAsksSaid : Prop := proxyAsksRow.holds Try.pinned (OpenSpec.ofChange proxyAsksSpec)

/-- ITS FALSE NEIGHBOUR: 'it returns false'. Refute it at one input. -/
def proxyAsksWrong : ChangeSpec := { name := "proxyAsks", fn := fun _ => fun
  | [d1, d2, d3] => { results := [.lit (.bool false)], args := [d1, d2, d3] }
  | _ => none }
def ProxyAsksWrongFalsely : Prop := proxyAsksRow.holds Try.pinned (OpenSpec.ofChange proxyAsksWrong)

/-- 'plinthlaw24.ProxyTakes': WHATEVER THE INPUT: true; the input reads as it did. -/
def proxyTakesSpec : ChangeSpec := { name := "proxyTakes", fn := fun _ => fun
  | [d1, d2] => { results := [.lit (.bool true)], args := [d1, d2] }
  | _ => none }
def proxyTakesRow : OpenClaim := { program := "ytlcbelmbonaooaa", sum := "b7a1bfc15807b9e8acb3650ba8d64028b1a672e7fadf779ecf479f6ea3d964a5", func := "plinth/plinthlaw24.ProxyTakes", spec := "proxyTakes", unfollowed := true, recurses := true, apart := false }
def ProxyTakesSaid : Prop := proxyTakesRow.holds Try.pinned (OpenSpec.ofChange proxyTakesSpec)

/-- ITS FALSE NEIGHBOUR: 'it returns false'. Refute it at one input. -/
def proxyTakesWrong : ChangeSpec := { name := "proxyTakes", fn := fun _ => fun
  | [d1, d2] => { results := [.lit (.bool false)], args := [d1, d2] }
  | _ => none }
def ProxyTakesWrongFalsely : Prop := proxyTakesRow.holds Try.pinned (OpenSpec.ofChange proxyTakesWrong)

/-- 'plinthlaw24.ProxyTicks': WHATEVER THE INPUT: true; the input reads as it did. -/
def proxyTicksSpec : ChangeSpec := { name := "proxyTicks", fn := fun _ => fun
  | [d] => { results := [.lit (.bool true)], args := [d] }
  | _ => none }
def proxyTicksRow : OpenClaim := { program := "ytlcbelmbonaooaa", sum := "b7a1bfc15807b9e8acb3650ba8d64028b1a672e7fadf779ecf479f6ea3d964a5", func := "plinth/plinthlaw24.ProxyTicks", spec := "proxyTicks", unfollowed := true, recurses := true, apart := false }
def ProxyTicksSaid : Prop := proxyTicksRow.holds Try.pinned (OpenSpec.ofChange proxyTicksSpec)

/-- ITS FALSE NEIGHBOUR: 'it returns false'. Refute it at one input. -/
def proxyTicksWrong : ChangeSpec := { name := "proxyTicks", fn := fun _ => fun
  | [d] => { results := [.lit (.bool false)], args := [d] }
  | _ => none }
def ProxyTicksWrongFalsely : Prop := proxyTicksRow.holds Try.pinned (OpenSpec.ofChange proxyTicksWrong)

/-- 'plinthlaw24.ProxyOnce': WHATEVER THE INPUT: true; the input reads as it did. -/
def proxyOnceSpec : ChangeSpec := { name := "proxyOnce", fn := fun _ => fun
  | [d1, d2] => { results := [.lit (.bool true)], args := [d1, d2] }
  | _ => none }
def proxyOnceRow : OpenClaim := { program := "ytlcbelmbonaooaa", sum := "b7a1bfc15807b9e8acb3650ba8d64028b1a672e7fadf779ecf479f6ea3d964a5", func := "plinth/plinthlaw24.ProxyOnce", spec := "proxyOnce", unfollowed := true, recurses := true, apart := false }
def ProxyOnceSaid : Prop := proxyOnceRow.holds Try.pinned (OpenSpec.ofChange proxyOnceSpec)

/-- ITS FALSE NEIGHBOUR: 'it returns false'. Refute it at one input. -/
def proxyOnceWrong : ChangeSpec := { name := "proxyOnce", fn := fun _ => fun
  | [d1, d2] => { results := [.lit (.bool false)], args := [d1, d2] }
  | _ => none }
def ProxyOnceWrongFalsely : Prop := proxyOnceRow.holds Try.pinned (OpenSpec.ofChange proxyOnceWrong)

/- THE SECOND FORM. 'bulk': how many values and letters a reading holds, each counted each time it is reached (what is shared counts as often as it is met; a slice's spare places count too). A statement '..UptoSaid' is the law's where the arguments, and the package variables that the reading takes, are together of bulk at most 1048576: NARROWER than '..Said'. Prove '..Said' where nothing that the law and all that it calls make is longer than what came in: it says more and counts as full. Else prove '..UptoSaid'. A law counts once. -/
mutual
def uptoBulk {H : Type} : DataW H → Nat
  | .lit (.string bytes) => bytes.length + 1
  | .lit _ => 1
  | .nil => 1
  | .ptr d => uptoBulk d + 1
  | .slice elems spare => uptoBulkAll elems + uptoBulkAll spare + 1
  | .agg parts => uptoBulkAll parts + 1
  | .iface _ d => uptoBulk d + 1
  | .map entries => uptoBulkEntries entries + 1
  | .held _ => 1
def uptoBulkAll {H : Type} : List (DataW H) → Nat
  | [] => 0
  | d :: r => uptoBulk d + uptoBulkAll r
def uptoBulkEntries {H : Type} : List (Lit × DataW H) → Nat
  | [] => 0
  | x :: r => uptoBulkEntry x + uptoBulkEntries r
def uptoBulkEntry {H : Type} : Lit × DataW H → Nat
  | (.string bytes, d) => bytes.length + uptoBulk d + 1
  | (_, d) => uptoBulk d + 1
 end
def uptoSmall : (H : Type) → List (DataW H) → Bool := fun _ ds => decide (uptoBulkAll ds ≤ 1048576)
def OpenSpec.upto (s : _root_.Go.ChangeSpec) : _root_.Go.OpenSpec := { _root_.Go.OpenSpec.ofChange s with cond := some uptoSmall }

/-- 'plinthlaw24.ProxyForms', WHERE WHAT IT READS IS OF BULK AT MOST 1048576: true; the input reads as it did. -/
def proxyFormsUptoRow : OpenClaim := { program := "ytlcbelmbonaooaa", sum := "b7a1bfc15807b9e8acb3650ba8d64028b1a672e7fadf779ecf479f6ea3d964a5", func := "plinth/plinthlaw24.ProxyForms", spec := "proxyForms", unfollowed := true, recurses := true, apart := false, narrowed := true }
def ProxyFormsUptoSaid : Prop := proxyFormsUptoRow.holds Try.pinned (OpenSpec.upto proxyFormsSpec)

/-- 'plinthlaw24.ProxyAsks', WHERE WHAT IT READS IS OF BULK AT MOST 1048576: true; the input reads as it did. -/
def proxyAsksUptoRow : OpenClaim := { program := "ytlcbelmbonaooaa", sum := "b7a1bfc15807b9e8acb3650ba8d64028b1a672e7fadf779ecf479f6ea3d964a5", func := "plinth/plinthlaw24.ProxyAsks", spec := "proxyAsks", unfollowed := true, recurses := true, apart := false, narrowed := true }
def ProxyAsksUptoSaid : Prop := proxyAsksUptoRow.holds Try.pinned (OpenSpec.upto proxyAsksSpec)

/-- 'plinthlaw24.ProxyTakes', WHERE WHAT IT READS IS OF BULK AT MOST 1048576: true; the input reads as it did. -/
def proxyTakesUptoRow : OpenClaim := { program := "ytlcbelmbonaooaa", sum := "b7a1bfc15807b9e8acb3650ba8d64028b1a672e7fadf779ecf479f6ea3d964a5", func := "plinth/plinthlaw24.ProxyTakes", spec := "proxyTakes", unfollowed := true, recurses := true, apart := false, narrowed := true }
def ProxyTakesUptoSaid : Prop := proxyTakesUptoRow.holds Try.pinned (OpenSpec.upto proxyTakesSpec)

/-- 'plinthlaw24.ProxyTicks', WHERE WHAT IT READS IS OF BULK AT MOST 1048576: true; the input reads as it did. -/
def proxyTicksUptoRow : OpenClaim := { program := "ytlcbelmbonaooaa", sum := "b7a1bfc15807b9e8acb3650ba8d64028b1a672e7fadf779ecf479f6ea3d964a5", func := "plinth/plinthlaw24.ProxyTicks", spec := "proxyTicks", unfollowed := true, recurses := true, apart := false, narrowed := true }
def ProxyTicksUptoSaid : Prop := proxyTicksUptoRow.holds Try.pinned (OpenSpec.upto proxyTicksSpec)

/-- 'plinthlaw24.ProxyOnce', WHERE WHAT IT READS IS OF BULK AT MOST 1048576: true; the input reads as it did. -/
def proxyOnceUptoRow : OpenClaim := { program := "ytlcbelmbonaooaa", sum := "b7a1bfc15807b9e8acb3650ba8d64028b1a672e7fadf779ecf479f6ea3d964a5", func := "plinth/plinthlaw24.ProxyOnce", spec := "proxyOnce", unfollowed := true, recurses := true, apart := false, narrowed := true }
def ProxyOnceUptoSaid : Prop := proxyOnceUptoRow.holds Try.pinned (OpenSpec.upto proxyOnceSpec)

end Rows
end Go.Proofs.Ytlcbelmbonaooaa
