/-
  DERIVED. GIVEN WITH THE SEED: THE CARDS: each row of YtoaodmidegkolaaGreatDoorRows.lean that lists a variable, with what it lists TIED to the program's text (the seventh form; the later family's looks); each row that meets fmt, with fmt's text TOLD by the authors' own Lean function (tested against real Go, not proved from fmt's source: count such statements apart). THE CARD IS WHAT COUNTS. Prove the row's statement (the work); the ties are given (YtoaodmidegkolaaGreatDoorTie.lean); close each card by the builder's one call (the guide's Derived/Test/ToyasCard.lean, 'card_holds'). Laid BY PROGRAM, IN A SANDBOX (cutbox-door.mjs). By AI agents, Wed Nov 11 2026. No macro, syntax, notation, axiom, sorry.
-/
import Derived.Test.YtoaodmidegkolaaGreatDoorRows
import GoSem.ClaimSeven
namespace Go.Proofs.YtoaodmidegkolaaGreatDoor
namespace Rows

/-- THE TIED CARD OF 'plinthlaw09.SuperCrash'. -/
def superCrashCard : Claim7 := { stood := { row := superCrashRow, standIns := [], harness := (true, "e7cb06435ae82e992482b965e0d2c59af8949eb1f81f5ddc63c5b33f1855acd6"), looks := true }, kinds := [], alts := [], laidByText := true, laidKinds := [.data], laidTests := true, laidLooks := .later }
def SuperCrashCardSaid : Prop := Claim7.holds Tryz.pinned (.plain (OpenSpec.ofChange superCrashSpec)) superCrashCard

/-- THE SECOND FORM's CARD OF 'plinthlaw09.SuperCrash'. -/
def superCrashUptoCard : Claim7 := { stood := { row := superCrashUptoRow, standIns := [], harness := (true, "e7cb06435ae82e992482b965e0d2c59af8949eb1f81f5ddc63c5b33f1855acd6"), looks := true }, kinds := [], alts := [], laidByText := true, laidKinds := [.data], laidTests := true, laidLooks := .later }
def SuperCrashUptoCardSaid : Prop := Claim7.holds Tryz.pinned (.plain (OpenSpec.upto superCrashSpec)) superCrashUptoCard
end Rows
end Go.Proofs.YtoaodmidegkolaaGreatDoor
