/-
  DERIVED. GIVEN WITH THE SEED: THE CARDS: each row of YtaenoonadodbnaaDoorRows.lean that lists a variable, with what it lists TIED to the program's text (the seventh form; the later family's looks); each row that meets fmt, with fmt's text TOLD by the authors' own Lean function (tested against real Go, not proved from fmt's source: count such statements apart). THE CARD IS WHAT COUNTS. Prove the row's statement (the work); the ties are given (YtaenoonadodbnaaDoorTie.lean); close each card by the builder's one call (the guide's Derived/Test/ToyasCard.lean, 'card_holds'). Laid BY PROGRAM, IN A SANDBOX (cutbox-door.mjs). By AI agents, Wed Nov 11 2026. No macro, syntax, notation, axiom, sorry.
-/
import Derived.Test.YtaenoonadodbnaaDoorRows
import GoSem.ClaimSeven
namespace Go.Proofs.YtaenoonadodbnaaDoor
namespace Rows

/-- THE TIED CARD OF 'plinthlaw03.FrameWrites'. -/
def frameWritesCard : Claim7 := { stood := { row := frameWritesRow, standIns := [], harness := (true, "ad0a9961f7048a75900e3db76021a735a7db551bbafabeb4d23bf6609f393bf1"), looks := false }, kinds := [], alts := [], laidByText := true, laidKinds := [.data], laidTests := true, laidLooks := .later }
def FrameWritesCardSaid : Prop := Claim7.holds Tryd.pinned (.plain (OpenSpec.ofChange frameWritesSpec)) frameWritesCard

/-- THE TIED CARD OF 'plinthlaw03.FrameReads'. -/
def frameReadsCard : Claim7 := { stood := { row := frameReadsRow, standIns := [], harness := (true, "ad0a9961f7048a75900e3db76021a735a7db551bbafabeb4d23bf6609f393bf1"), looks := false }, kinds := [], alts := [], laidByText := true, laidKinds := [.data], laidTests := true, laidLooks := .later }
def FrameReadsCardSaid : Prop := Claim7.holds Tryd.pinned (.plain (OpenSpec.ofChange frameReadsSpec)) frameReadsCard

/-- THE TIED CARD OF 'plinthlaw03.FrameScans'. -/
def frameScansCard : Claim7 := { stood := { row := frameScansRow, standIns := [], harness := (true, "ad0a9961f7048a75900e3db76021a735a7db551bbafabeb4d23bf6609f393bf1"), looks := false }, kinds := [], alts := [], laidByText := true, laidKinds := [.data], laidTests := true, laidLooks := .later }
def FrameScansCardSaid : Prop := Claim7.holds Tryd.pinned (.plain (OpenSpec.ofChange frameScansSpec)) frameScansCard

/-- THE TIED CARD OF 'plinthlaw03.FramePads'. -/
def framePadsCard : Claim7 := { stood := { row := framePadsRow, standIns := [], harness := (true, "ad0a9961f7048a75900e3db76021a735a7db551bbafabeb4d23bf6609f393bf1"), looks := false }, kinds := [], alts := [], laidByText := true, laidKinds := [.data], laidTests := true, laidLooks := .later }
def FramePadsCardSaid : Prop := Claim7.holds Tryd.pinned (.plain (OpenSpec.ofChange framePadsSpec)) framePadsCard

/-- THE TIED CARD OF 'plinthlaw03.FrameBack'. -/
def frameBackCard : Claim7 := { stood := { row := frameBackRow, standIns := [], harness := (true, "ad0a9961f7048a75900e3db76021a735a7db551bbafabeb4d23bf6609f393bf1"), looks := false }, kinds := [], alts := [], laidByText := true, laidKinds := [.data], laidTests := true, laidLooks := .later }
def FrameBackCardSaid : Prop := Claim7.holds Tryd.pinned (.plain (OpenSpec.ofChange frameBackSpec)) frameBackCard

/-- THE TIED CARD OF 'plinthlaw03.FrameBegins'. -/
def frameBeginsCard : Claim7 := { stood := { row := frameBeginsRow, standIns := [], harness := (true, "ad0a9961f7048a75900e3db76021a735a7db551bbafabeb4d23bf6609f393bf1"), looks := false }, kinds := [], alts := [], laidByText := true, laidKinds := [.data], laidTests := true, laidLooks := .later }
def FrameBeginsCardSaid : Prop := Claim7.holds Tryd.pinned (.plain (OpenSpec.ofChange frameBeginsSpec)) frameBeginsCard

/-- THE TIED CARD OF 'plinthlaw03.FrameSpoilt'. -/
def frameSpoiltCard : Claim7 := { stood := { row := frameSpoiltRow, standIns := [], harness := (true, "ad0a9961f7048a75900e3db76021a735a7db551bbafabeb4d23bf6609f393bf1"), looks := false }, kinds := [], alts := [], laidByText := true, laidKinds := [.data], laidTests := true, laidLooks := .later }
def FrameSpoiltCardSaid : Prop := Claim7.holds Tryd.pinned (.plain (OpenSpec.ofChange frameSpoiltSpec)) frameSpoiltCard

/-- THE SECOND FORM's CARD OF 'plinthlaw03.FrameWrites'. -/
def frameWritesUptoCard : Claim7 := { stood := { row := frameWritesUptoRow, standIns := [], harness := (true, "ad0a9961f7048a75900e3db76021a735a7db551bbafabeb4d23bf6609f393bf1"), looks := false }, kinds := [], alts := [], laidByText := true, laidKinds := [.data], laidTests := true, laidLooks := .later }
def FrameWritesUptoCardSaid : Prop := Claim7.holds Tryd.pinned (.plain (OpenSpec.upto frameWritesSpec)) frameWritesUptoCard

/-- THE SECOND FORM's CARD OF 'plinthlaw03.FrameReads'. -/
def frameReadsUptoCard : Claim7 := { stood := { row := frameReadsUptoRow, standIns := [], harness := (true, "ad0a9961f7048a75900e3db76021a735a7db551bbafabeb4d23bf6609f393bf1"), looks := false }, kinds := [], alts := [], laidByText := true, laidKinds := [.data], laidTests := true, laidLooks := .later }
def FrameReadsUptoCardSaid : Prop := Claim7.holds Tryd.pinned (.plain (OpenSpec.upto frameReadsSpec)) frameReadsUptoCard

/-- THE SECOND FORM's CARD OF 'plinthlaw03.FrameScans'. -/
def frameScansUptoCard : Claim7 := { stood := { row := frameScansUptoRow, standIns := [], harness := (true, "ad0a9961f7048a75900e3db76021a735a7db551bbafabeb4d23bf6609f393bf1"), looks := false }, kinds := [], alts := [], laidByText := true, laidKinds := [.data], laidTests := true, laidLooks := .later }
def FrameScansUptoCardSaid : Prop := Claim7.holds Tryd.pinned (.plain (OpenSpec.upto frameScansSpec)) frameScansUptoCard

/-- THE SECOND FORM's CARD OF 'plinthlaw03.FramePads'. -/
def framePadsUptoCard : Claim7 := { stood := { row := framePadsUptoRow, standIns := [], harness := (true, "ad0a9961f7048a75900e3db76021a735a7db551bbafabeb4d23bf6609f393bf1"), looks := false }, kinds := [], alts := [], laidByText := true, laidKinds := [.data], laidTests := true, laidLooks := .later }
def FramePadsUptoCardSaid : Prop := Claim7.holds Tryd.pinned (.plain (OpenSpec.upto framePadsSpec)) framePadsUptoCard

/-- THE SECOND FORM's CARD OF 'plinthlaw03.FrameBack'. -/
def frameBackUptoCard : Claim7 := { stood := { row := frameBackUptoRow, standIns := [], harness := (true, "ad0a9961f7048a75900e3db76021a735a7db551bbafabeb4d23bf6609f393bf1"), looks := false }, kinds := [], alts := [], laidByText := true, laidKinds := [.data], laidTests := true, laidLooks := .later }
def FrameBackUptoCardSaid : Prop := Claim7.holds Tryd.pinned (.plain (OpenSpec.upto frameBackSpec)) frameBackUptoCard

/-- THE SECOND FORM's CARD OF 'plinthlaw03.FrameBegins'. -/
def frameBeginsUptoCard : Claim7 := { stood := { row := frameBeginsUptoRow, standIns := [], harness := (true, "ad0a9961f7048a75900e3db76021a735a7db551bbafabeb4d23bf6609f393bf1"), looks := false }, kinds := [], alts := [], laidByText := true, laidKinds := [.data], laidTests := true, laidLooks := .later }
def FrameBeginsUptoCardSaid : Prop := Claim7.holds Tryd.pinned (.plain (OpenSpec.upto frameBeginsSpec)) frameBeginsUptoCard

/-- THE SECOND FORM's CARD OF 'plinthlaw03.FrameSpoilt'. -/
def frameSpoiltUptoCard : Claim7 := { stood := { row := frameSpoiltUptoRow, standIns := [], harness := (true, "ad0a9961f7048a75900e3db76021a735a7db551bbafabeb4d23bf6609f393bf1"), looks := false }, kinds := [], alts := [], laidByText := true, laidKinds := [.data], laidTests := true, laidLooks := .later }
def FrameSpoiltUptoCardSaid : Prop := Claim7.holds Tryd.pinned (.plain (OpenSpec.upto frameSpoiltSpec)) frameSpoiltUptoCard
end Rows
end Go.Proofs.YtaenoonadodbnaaDoor
