/-
  DERIVED. GIVEN WITH THE SEED: THE CARDS: each row of YtcpnobhdogpfiaaDoorRows.lean that lists a variable, with what it lists TIED to the program's text (the seventh form; the later family's looks); each row that meets fmt, with fmt's text TOLD by the authors' own Lean function (tested against real Go, not proved from fmt's source: count such statements apart). THE CARD IS WHAT COUNTS. Prove the row's statement (the work); the ties are given (YtcpnobhdogpfiaaDoorTie.lean); close each card by the builder's one call (the guide's Derived/Test/ToyasCard.lean, 'card_holds'). Laid BY PROGRAM, IN A SANDBOX (cutbox-door.mjs). By AI agents, Wed Nov 11 2026. No macro, syntax, notation, axiom, sorry.
-/
import Derived.Test.YtcpnobhdogpfiaaDoorRows
import GoSem.ClaimSeven
namespace Go.Proofs.YtcpnobhdogpfiaaDoor
namespace Rows

/-- THE TIED CARD OF 'plinthlaw25.TreeMakes'. -/
def treeMakesCard : Claim7 := { stood := { row := treeMakesRow, standIns := [], harness := (true, "211ba20a4ad19db71543ab0981c0b6d1770e304b6b83d5fb6898969256b3f023"), looks := false }, kinds := [], alts := [], laidByText := true, laidKinds := [.data], laidTests := true, laidLooks := .later }
def TreeMakesCardSaid : Prop := Claim7.holds Tryd.pinned (.plain (OpenSpec.ofChange treeMakesSpec)) treeMakesCard

/-- THE TIED CARD OF 'plinthlaw25.TreeStates'. -/
def treeStatesCard : Claim7 := { stood := { row := treeStatesRow, standIns := [], harness := (true, "211ba20a4ad19db71543ab0981c0b6d1770e304b6b83d5fb6898969256b3f023"), looks := false }, kinds := [], alts := [], laidByText := true, laidKinds := [.data], laidTests := true, laidLooks := .later }
def TreeStatesCardSaid : Prop := Claim7.holds Tryd.pinned (.plain (OpenSpec.ofChange treeStatesSpec)) treeStatesCard

/-- THE TIED CARD OF 'plinthlaw25.TreeAsks'. -/
def treeAsksCard : Claim7 := { stood := { row := treeAsksRow, standIns := [], harness := (true, "211ba20a4ad19db71543ab0981c0b6d1770e304b6b83d5fb6898969256b3f023"), looks := false }, kinds := [], alts := [], laidByText := true, laidKinds := [.data], laidTests := true, laidLooks := .later }
def TreeAsksCardSaid : Prop := Claim7.holds Tryd.pinned (.plain (OpenSpec.ofChange treeAsksSpec)) treeAsksCard

/-- THE TIED CARD OF 'plinthlaw25.TreeProves'. -/
def treeProvesCard : Claim7 := { stood := { row := treeProvesRow, standIns := [], harness := (true, "211ba20a4ad19db71543ab0981c0b6d1770e304b6b83d5fb6898969256b3f023"), looks := false }, kinds := [], alts := [], laidByText := true, laidKinds := [.data], laidTests := true, laidLooks := .later }
def TreeProvesCardSaid : Prop := Claim7.holds Tryd.pinned (.plain (OpenSpec.ofChange treeProvesSpec)) treeProvesCard

/-- THE TIED CARD OF 'plinthlaw25.TreeDiffs'. -/
def treeDiffsCard : Claim7 := { stood := { row := treeDiffsRow, standIns := [], harness := (true, "211ba20a4ad19db71543ab0981c0b6d1770e304b6b83d5fb6898969256b3f023"), looks := false }, kinds := [], alts := [], laidByText := true, laidKinds := [.data], laidTests := true, laidLooks := .later }
def TreeDiffsCardSaid : Prop := Claim7.holds Tryd.pinned (.plain (OpenSpec.ofChange treeDiffsSpec)) treeDiffsCard

/-- THE TIED CARD OF 'plinthlaw25.TreeOne'. -/
def treeOneCard : Claim7 := { stood := { row := treeOneRow, standIns := [], harness := (true, "211ba20a4ad19db71543ab0981c0b6d1770e304b6b83d5fb6898969256b3f023"), looks := false }, kinds := [], alts := [], laidByText := true, laidKinds := [.data], laidTests := true, laidLooks := .later }
def TreeOneCardSaid : Prop := Claim7.holds Tryd.pinned (.plain (OpenSpec.ofChange treeOneSpec)) treeOneCard

/-- THE TIED CARD OF 'plinthlaw25.TreeFew'. -/
def treeFewCard : Claim7 := { stood := { row := treeFewRow, standIns := [], harness := (true, "211ba20a4ad19db71543ab0981c0b6d1770e304b6b83d5fb6898969256b3f023"), looks := false }, kinds := [], alts := [], laidByText := true, laidKinds := [.data], laidTests := true, laidLooks := .later }
def TreeFewCardSaid : Prop := Claim7.holds Tryd.pinned (.plain (OpenSpec.ofChange treeFewSpec)) treeFewCard

/-- THE TIED CARD OF 'plinthlaw25.TreeProved'. -/
def treeProvedCard : Claim7 := { stood := { row := treeProvedRow, standIns := [], harness := (true, "211ba20a4ad19db71543ab0981c0b6d1770e304b6b83d5fb6898969256b3f023"), looks := false }, kinds := [], alts := [], laidByText := true, laidKinds := [.data], laidTests := true, laidLooks := .later }
def TreeProvedCardSaid : Prop := Claim7.holds Tryd.pinned (.plain (OpenSpec.ofChange treeProvedSpec)) treeProvedCard

/-- THE TIED CARD OF 'plinthlaw25.TreePuts'. -/
def treePutsCard : Claim7 := { stood := { row := treePutsRow, standIns := [], harness := (true, "211ba20a4ad19db71543ab0981c0b6d1770e304b6b83d5fb6898969256b3f023"), looks := false }, kinds := [], alts := [], laidByText := true, laidKinds := [.data], laidTests := true, laidLooks := .later }
def TreePutsCardSaid : Prop := Claim7.holds Tryd.pinned (.plain (OpenSpec.ofChange treePutsSpec)) treePutsCard

/-- THE SECOND FORM's CARD OF 'plinthlaw25.TreeMakes'. -/
def treeMakesUptoCard : Claim7 := { stood := { row := treeMakesUptoRow, standIns := [], harness := (true, "211ba20a4ad19db71543ab0981c0b6d1770e304b6b83d5fb6898969256b3f023"), looks := false }, kinds := [], alts := [], laidByText := true, laidKinds := [.data], laidTests := true, laidLooks := .later }
def TreeMakesUptoCardSaid : Prop := Claim7.holds Tryd.pinned (.plain (OpenSpec.upto treeMakesSpec)) treeMakesUptoCard

/-- THE SECOND FORM's CARD OF 'plinthlaw25.TreeStates'. -/
def treeStatesUptoCard : Claim7 := { stood := { row := treeStatesUptoRow, standIns := [], harness := (true, "211ba20a4ad19db71543ab0981c0b6d1770e304b6b83d5fb6898969256b3f023"), looks := false }, kinds := [], alts := [], laidByText := true, laidKinds := [.data], laidTests := true, laidLooks := .later }
def TreeStatesUptoCardSaid : Prop := Claim7.holds Tryd.pinned (.plain (OpenSpec.upto treeStatesSpec)) treeStatesUptoCard

/-- THE SECOND FORM's CARD OF 'plinthlaw25.TreeAsks'. -/
def treeAsksUptoCard : Claim7 := { stood := { row := treeAsksUptoRow, standIns := [], harness := (true, "211ba20a4ad19db71543ab0981c0b6d1770e304b6b83d5fb6898969256b3f023"), looks := false }, kinds := [], alts := [], laidByText := true, laidKinds := [.data], laidTests := true, laidLooks := .later }
def TreeAsksUptoCardSaid : Prop := Claim7.holds Tryd.pinned (.plain (OpenSpec.upto treeAsksSpec)) treeAsksUptoCard

/-- THE SECOND FORM's CARD OF 'plinthlaw25.TreeProves'. -/
def treeProvesUptoCard : Claim7 := { stood := { row := treeProvesUptoRow, standIns := [], harness := (true, "211ba20a4ad19db71543ab0981c0b6d1770e304b6b83d5fb6898969256b3f023"), looks := false }, kinds := [], alts := [], laidByText := true, laidKinds := [.data], laidTests := true, laidLooks := .later }
def TreeProvesUptoCardSaid : Prop := Claim7.holds Tryd.pinned (.plain (OpenSpec.upto treeProvesSpec)) treeProvesUptoCard

/-- THE SECOND FORM's CARD OF 'plinthlaw25.TreeDiffs'. -/
def treeDiffsUptoCard : Claim7 := { stood := { row := treeDiffsUptoRow, standIns := [], harness := (true, "211ba20a4ad19db71543ab0981c0b6d1770e304b6b83d5fb6898969256b3f023"), looks := false }, kinds := [], alts := [], laidByText := true, laidKinds := [.data], laidTests := true, laidLooks := .later }
def TreeDiffsUptoCardSaid : Prop := Claim7.holds Tryd.pinned (.plain (OpenSpec.upto treeDiffsSpec)) treeDiffsUptoCard

/-- THE SECOND FORM's CARD OF 'plinthlaw25.TreeOne'. -/
def treeOneUptoCard : Claim7 := { stood := { row := treeOneUptoRow, standIns := [], harness := (true, "211ba20a4ad19db71543ab0981c0b6d1770e304b6b83d5fb6898969256b3f023"), looks := false }, kinds := [], alts := [], laidByText := true, laidKinds := [.data], laidTests := true, laidLooks := .later }
def TreeOneUptoCardSaid : Prop := Claim7.holds Tryd.pinned (.plain (OpenSpec.upto treeOneSpec)) treeOneUptoCard

/-- THE SECOND FORM's CARD OF 'plinthlaw25.TreeFew'. -/
def treeFewUptoCard : Claim7 := { stood := { row := treeFewUptoRow, standIns := [], harness := (true, "211ba20a4ad19db71543ab0981c0b6d1770e304b6b83d5fb6898969256b3f023"), looks := false }, kinds := [], alts := [], laidByText := true, laidKinds := [.data], laidTests := true, laidLooks := .later }
def TreeFewUptoCardSaid : Prop := Claim7.holds Tryd.pinned (.plain (OpenSpec.upto treeFewSpec)) treeFewUptoCard

/-- THE SECOND FORM's CARD OF 'plinthlaw25.TreeProved'. -/
def treeProvedUptoCard : Claim7 := { stood := { row := treeProvedUptoRow, standIns := [], harness := (true, "211ba20a4ad19db71543ab0981c0b6d1770e304b6b83d5fb6898969256b3f023"), looks := false }, kinds := [], alts := [], laidByText := true, laidKinds := [.data], laidTests := true, laidLooks := .later }
def TreeProvedUptoCardSaid : Prop := Claim7.holds Tryd.pinned (.plain (OpenSpec.upto treeProvedSpec)) treeProvedUptoCard

/-- THE SECOND FORM's CARD OF 'plinthlaw25.TreePuts'. -/
def treePutsUptoCard : Claim7 := { stood := { row := treePutsUptoRow, standIns := [], harness := (true, "211ba20a4ad19db71543ab0981c0b6d1770e304b6b83d5fb6898969256b3f023"), looks := false }, kinds := [], alts := [], laidByText := true, laidKinds := [.data], laidTests := true, laidLooks := .later }
def TreePutsUptoCardSaid : Prop := Claim7.holds Tryd.pinned (.plain (OpenSpec.upto treePutsSpec)) treePutsUptoCard
end Rows
end Go.Proofs.YtcpnobhdogpfiaaDoor
