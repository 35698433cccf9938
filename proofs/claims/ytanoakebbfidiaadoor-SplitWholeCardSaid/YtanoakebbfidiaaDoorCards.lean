/-
  DERIVED. GIVEN WITH THE SEED: THE CARDS: each row of YtanoakebbfidiaaDoorRows.lean that lists a variable, with what it lists TIED to the program's text (the seventh form; the later family's looks); each row that meets fmt, with fmt's text TOLD by the authors' own Lean function (tested against real Go, not proved from fmt's source: count such statements apart). THE CARD IS WHAT COUNTS. Prove the row's statement (the work); the ties are given (YtanoakebbfidiaaDoorTie.lean); close each card by the builder's one call (the guide's Derived/Test/ToyasCard.lean, 'card_holds'). Laid BY PROGRAM, IN A SANDBOX (cutbox-door.mjs). By AI agents, Wed Nov 11 2026. No macro, syntax, notation, axiom, sorry.
-/
import Derived.Test.YtanoakebbfidiaaDoorRows
import GoSem.ClaimSeven
namespace Go.Proofs.YtanoakebbfidiaaDoor
namespace Rows

/-- THE TIED CARD OF 'bilgelaw09.SplitCuts'. -/
def splitCutsCard : Claim7 := { stood := { row := splitCutsRow, standIns := [], harness := (true, "697a23d12e826d3f076dbdd71850ce5cb71bdd65e810b9f942d911baec5ea930"), looks := false }, kinds := [], alts := [], laidByText := true, laidKinds := [.data, .data], laidTests := true, laidLooks := .later }
def SplitCutsCardSaid : Prop := Claim7.holds Tryd.pinned (.plain (OpenSpec.ofChange splitCutsSpec)) splitCutsCard

/-- THE TIED CARD OF 'bilgelaw09.SplitFaults'. -/
def splitFaultsCard : Claim7 := { stood := { row := splitFaultsRow, standIns := [], harness := (true, "697a23d12e826d3f076dbdd71850ce5cb71bdd65e810b9f942d911baec5ea930"), looks := false }, kinds := [], alts := [], laidByText := true, laidKinds := [.data, .data], laidTests := true, laidLooks := .later }
def SplitFaultsCardSaid : Prop := Claim7.holds Tryd.pinned (.plain (OpenSpec.ofChange splitFaultsSpec)) splitFaultsCard

/-- THE TIED CARD OF 'bilgelaw09.SplitWhole'. -/
def splitWholeCard : Claim7 := { stood := { row := splitWholeRow, standIns := [], harness := (true, "697a23d12e826d3f076dbdd71850ce5cb71bdd65e810b9f942d911baec5ea930"), looks := false }, kinds := [], alts := [], laidByText := true, laidKinds := [.data, .data], laidTests := true, laidLooks := .later }
def SplitWholeCardSaid : Prop := Claim7.holds Tryd.pinned (.plain (OpenSpec.ofChange splitWholeSpec)) splitWholeCard

/-- THE TIED CARD OF 'bilgelaw09.SplitParts'. -/
def splitPartsCard : Claim7 := { stood := { row := splitPartsRow, standIns := [], harness := (true, "697a23d12e826d3f076dbdd71850ce5cb71bdd65e810b9f942d911baec5ea930"), looks := false }, kinds := [], alts := [], laidByText := true, laidKinds := [.data, .data], laidTests := true, laidLooks := .later }
def SplitPartsCardSaid : Prop := Claim7.holds Tryd.pinned (.plain (OpenSpec.ofChange splitPartsSpec)) splitPartsCard

/-- THE TIED CARD OF 'bilgelaw09.SplitShift'. -/
def splitShiftCard : Claim7 := { stood := { row := splitShiftRow, standIns := [], harness := (true, "697a23d12e826d3f076dbdd71850ce5cb71bdd65e810b9f942d911baec5ea930"), looks := false }, kinds := [], alts := [], laidByText := true, laidKinds := [.data, .data], laidTests := true, laidLooks := .later }
def SplitShiftCardSaid : Prop := Claim7.holds Tryd.pinned (.plain (OpenSpec.ofChange splitShiftSpec)) splitShiftCard

/-- THE SECOND FORM's CARD OF 'bilgelaw09.SplitCuts'. -/
def splitCutsUptoCard : Claim7 := { stood := { row := splitCutsUptoRow, standIns := [], harness := (true, "697a23d12e826d3f076dbdd71850ce5cb71bdd65e810b9f942d911baec5ea930"), looks := false }, kinds := [], alts := [], laidByText := true, laidKinds := [.data, .data], laidTests := true, laidLooks := .later }
def SplitCutsUptoCardSaid : Prop := Claim7.holds Tryd.pinned (.plain (OpenSpec.upto splitCutsSpec)) splitCutsUptoCard

/-- THE SECOND FORM's CARD OF 'bilgelaw09.SplitFaults'. -/
def splitFaultsUptoCard : Claim7 := { stood := { row := splitFaultsUptoRow, standIns := [], harness := (true, "697a23d12e826d3f076dbdd71850ce5cb71bdd65e810b9f942d911baec5ea930"), looks := false }, kinds := [], alts := [], laidByText := true, laidKinds := [.data, .data], laidTests := true, laidLooks := .later }
def SplitFaultsUptoCardSaid : Prop := Claim7.holds Tryd.pinned (.plain (OpenSpec.upto splitFaultsSpec)) splitFaultsUptoCard

/-- THE SECOND FORM's CARD OF 'bilgelaw09.SplitWhole'. -/
def splitWholeUptoCard : Claim7 := { stood := { row := splitWholeUptoRow, standIns := [], harness := (true, "697a23d12e826d3f076dbdd71850ce5cb71bdd65e810b9f942d911baec5ea930"), looks := false }, kinds := [], alts := [], laidByText := true, laidKinds := [.data, .data], laidTests := true, laidLooks := .later }
def SplitWholeUptoCardSaid : Prop := Claim7.holds Tryd.pinned (.plain (OpenSpec.upto splitWholeSpec)) splitWholeUptoCard

/-- THE SECOND FORM's CARD OF 'bilgelaw09.SplitParts'. -/
def splitPartsUptoCard : Claim7 := { stood := { row := splitPartsUptoRow, standIns := [], harness := (true, "697a23d12e826d3f076dbdd71850ce5cb71bdd65e810b9f942d911baec5ea930"), looks := false }, kinds := [], alts := [], laidByText := true, laidKinds := [.data, .data], laidTests := true, laidLooks := .later }
def SplitPartsUptoCardSaid : Prop := Claim7.holds Tryd.pinned (.plain (OpenSpec.upto splitPartsSpec)) splitPartsUptoCard

/-- THE SECOND FORM's CARD OF 'bilgelaw09.SplitShift'. -/
def splitShiftUptoCard : Claim7 := { stood := { row := splitShiftUptoRow, standIns := [], harness := (true, "697a23d12e826d3f076dbdd71850ce5cb71bdd65e810b9f942d911baec5ea930"), looks := false }, kinds := [], alts := [], laidByText := true, laidKinds := [.data, .data], laidTests := true, laidLooks := .later }
def SplitShiftUptoCardSaid : Prop := Claim7.holds Tryd.pinned (.plain (OpenSpec.upto splitShiftSpec)) splitShiftUptoCard
end Rows
end Go.Proofs.YtanoakebbfidiaaDoor
