/-
  DERIVED. GIVEN WITH THE SEED: THE CARDS: each row of YtoaodmidegkolaaDoorRows.lean that lists a variable, with what it lists TIED to the program's text (the seventh form; the later family's looks); each row that meets fmt, with fmt's text TOLD by the authors' own Lean function (tested against real Go, not proved from fmt's source: count such statements apart). THE CARD IS WHAT COUNTS. Prove the row's statement (the work); the ties are given (YtoaodmidegkolaaDoorTie.lean); close each card by the builder's one call (the guide's Derived/Test/ToyasCard.lean, 'card_holds'). Laid BY PROGRAM, IN A SANDBOX (cutbox-door.mjs). By AI agents, Wed Nov 11 2026. No macro, syntax, notation, axiom, sorry.
-/
import Derived.Test.YtoaodmidegkolaaDoorRows
import GoSem.ClaimSeven
namespace Go.Proofs.YtoaodmidegkolaaDoor
namespace Rows

/-- THE TIED CARD OF 'plinthlaw09.SuperForms'. -/
def superFormsCard : Claim7 := { stood := { row := superFormsRow, standIns := [], harness := (true, "2560cab20f20d7b570fb5c22c1ffbc3c59a819a647f0342a5e5f75edf6c31472"), looks := false }, kinds := [], alts := [], laidByText := true, laidKinds := [.data], laidTests := true, laidLooks := .later }
def SuperFormsCardSaid : Prop := Claim7.holds Tryd.pinned (.plain (OpenSpec.ofChange superFormsSpec)) superFormsCard

/-- THE TIED CARD OF 'plinthlaw09.SuperRuns'. -/
def superRunsCard : Claim7 := { stood := { row := superRunsRow, standIns := [], harness := (true, "2560cab20f20d7b570fb5c22c1ffbc3c59a819a647f0342a5e5f75edf6c31472"), looks := false }, kinds := [], alts := [], laidByText := true, laidKinds := [.data], laidTests := true, laidLooks := .later }
def SuperRunsCardSaid : Prop := Claim7.holds Tryd.pinned (.plain (OpenSpec.ofChange superRunsSpec)) superRunsCard

/-- THE TIED CARD OF 'plinthlaw09.SuperBack'. -/
def superBackCard : Claim7 := { stood := { row := superBackRow, standIns := [], harness := (true, "2560cab20f20d7b570fb5c22c1ffbc3c59a819a647f0342a5e5f75edf6c31472"), looks := false }, kinds := [], alts := [], laidByText := true, laidKinds := [.data], laidTests := true, laidLooks := .later }
def SuperBackCardSaid : Prop := Claim7.holds Tryd.pinned (.plain (OpenSpec.ofChange superBackSpec)) superBackCard

/-- THE TIED CARD OF 'plinthlaw09.SuperSpoilt'. -/
def superSpoiltCard : Claim7 := { stood := { row := superSpoiltRow, standIns := [], harness := (true, "2560cab20f20d7b570fb5c22c1ffbc3c59a819a647f0342a5e5f75edf6c31472"), looks := false }, kinds := [], alts := [], laidByText := true, laidKinds := [.data], laidTests := true, laidLooks := .later }
def SuperSpoiltCardSaid : Prop := Claim7.holds Tryd.pinned (.plain (OpenSpec.ofChange superSpoiltSpec)) superSpoiltCard

/-- THE SECOND FORM's CARD OF 'plinthlaw09.SuperForms'. -/
def superFormsUptoCard : Claim7 := { stood := { row := superFormsUptoRow, standIns := [], harness := (true, "2560cab20f20d7b570fb5c22c1ffbc3c59a819a647f0342a5e5f75edf6c31472"), looks := false }, kinds := [], alts := [], laidByText := true, laidKinds := [.data], laidTests := true, laidLooks := .later }
def SuperFormsUptoCardSaid : Prop := Claim7.holds Tryd.pinned (.plain (OpenSpec.upto superFormsSpec)) superFormsUptoCard

/-- THE SECOND FORM's CARD OF 'plinthlaw09.SuperRuns'. -/
def superRunsUptoCard : Claim7 := { stood := { row := superRunsUptoRow, standIns := [], harness := (true, "2560cab20f20d7b570fb5c22c1ffbc3c59a819a647f0342a5e5f75edf6c31472"), looks := false }, kinds := [], alts := [], laidByText := true, laidKinds := [.data], laidTests := true, laidLooks := .later }
def SuperRunsUptoCardSaid : Prop := Claim7.holds Tryd.pinned (.plain (OpenSpec.upto superRunsSpec)) superRunsUptoCard

/-- THE SECOND FORM's CARD OF 'plinthlaw09.SuperBack'. -/
def superBackUptoCard : Claim7 := { stood := { row := superBackUptoRow, standIns := [], harness := (true, "2560cab20f20d7b570fb5c22c1ffbc3c59a819a647f0342a5e5f75edf6c31472"), looks := false }, kinds := [], alts := [], laidByText := true, laidKinds := [.data], laidTests := true, laidLooks := .later }
def SuperBackUptoCardSaid : Prop := Claim7.holds Tryd.pinned (.plain (OpenSpec.upto superBackSpec)) superBackUptoCard

/-- THE SECOND FORM's CARD OF 'plinthlaw09.SuperSpoilt'. -/
def superSpoiltUptoCard : Claim7 := { stood := { row := superSpoiltUptoRow, standIns := [], harness := (true, "2560cab20f20d7b570fb5c22c1ffbc3c59a819a647f0342a5e5f75edf6c31472"), looks := false }, kinds := [], alts := [], laidByText := true, laidKinds := [.data], laidTests := true, laidLooks := .later }
def SuperSpoiltUptoCardSaid : Prop := Claim7.holds Tryd.pinned (.plain (OpenSpec.upto superSpoiltSpec)) superSpoiltUptoCard
end Rows
end Go.Proofs.YtoaodmidegkolaaDoor
