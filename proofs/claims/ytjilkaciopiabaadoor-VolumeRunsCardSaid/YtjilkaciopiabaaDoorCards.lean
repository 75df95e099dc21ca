/-
  DERIVED. GIVEN WITH THE SEED: THE CARDS: each row of YtjilkaciopiabaaDoorRows.lean that lists a variable, with what it lists TIED to the program's text (the seventh form; the later family's looks); each row that meets fmt, with fmt's text TOLD by the authors' own Lean function (tested against real Go, not proved from fmt's source: count such statements apart). THE CARD IS WHAT COUNTS. Prove the row's statement (the work); the ties are given (YtjilkaciopiabaaDoorTie.lean); close each card by the builder's one call (the guide's Derived/Test/ToyasCard.lean, 'card_holds'). Laid BY PROGRAM, IN A SANDBOX (cutbox-door.mjs). By AI agents, Wed Nov 11 2026. No macro, syntax, notation, axiom, sorry.
-/
import Derived.Test.YtjilkaciopiabaaDoorRows
import GoSem.ClaimSeven
namespace Go.Proofs.YtjilkaciopiabaaDoor
namespace Rows

/-- THE TIED CARD OF 'plinthlaw05.VolumeRuns'. -/
def volumeRunsCard : Claim7 := { stood := { row := volumeRunsRow, standIns := [], harness := (true, "9a5ce9a7ecae912f8d2de566f38eef6a62537a79a9593005b4286b70d57cd78d"), looks := false }, kinds := [], alts := [], laidByText := true, laidKinds := [.data], laidTests := true, laidLooks := .later }
def VolumeRunsCardSaid : Prop := Claim7.holds Tryd.pinned (.plain (OpenSpec.ofChange volumeRunsSpec)) volumeRunsCard

/-- THE TIED CARD OF 'plinthlaw05.VolumeNobody'. -/
def volumeNobodyCard : Claim7 := { stood := { row := volumeNobodyRow, standIns := [], harness := (true, "9a5ce9a7ecae912f8d2de566f38eef6a62537a79a9593005b4286b70d57cd78d"), looks := false }, kinds := [], alts := [], laidByText := true, laidKinds := [.data], laidTests := true, laidLooks := .later }
def VolumeNobodyCardSaid : Prop := Claim7.holds Tryd.pinned (.plain (OpenSpec.ofChange volumeNobodySpec)) volumeNobodyCard

/-- THE SECOND FORM's CARD OF 'plinthlaw05.VolumeRuns'. -/
def volumeRunsUptoCard : Claim7 := { stood := { row := volumeRunsUptoRow, standIns := [], harness := (true, "9a5ce9a7ecae912f8d2de566f38eef6a62537a79a9593005b4286b70d57cd78d"), looks := false }, kinds := [], alts := [], laidByText := true, laidKinds := [.data], laidTests := true, laidLooks := .later }
def VolumeRunsUptoCardSaid : Prop := Claim7.holds Tryd.pinned (.plain (OpenSpec.upto volumeRunsSpec)) volumeRunsUptoCard

/-- THE SECOND FORM's CARD OF 'plinthlaw05.VolumeNobody'. -/
def volumeNobodyUptoCard : Claim7 := { stood := { row := volumeNobodyUptoRow, standIns := [], harness := (true, "9a5ce9a7ecae912f8d2de566f38eef6a62537a79a9593005b4286b70d57cd78d"), looks := false }, kinds := [], alts := [], laidByText := true, laidKinds := [.data], laidTests := true, laidLooks := .later }
def VolumeNobodyUptoCardSaid : Prop := Claim7.holds Tryd.pinned (.plain (OpenSpec.upto volumeNobodySpec)) volumeNobodyUptoCard
end Rows
end Go.Proofs.YtjilkaciopiabaaDoor
