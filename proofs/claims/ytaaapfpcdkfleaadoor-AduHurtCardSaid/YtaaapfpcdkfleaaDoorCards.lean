/-
  DERIVED. GIVEN WITH THE SEED: THE CARDS: each row of YtaaapfpcdkfleaaDoorRows.lean that lists a variable, with what it lists TIED to the program's text (the seventh form; the later family's looks); each row that meets fmt, with fmt's text TOLD by the authors' own Lean function (tested against real Go, not proved from fmt's source: count such statements apart). THE CARD IS WHAT COUNTS. Prove the row's statement (the work); the ties are given (YtaaapfpcdkfleaaDoorTie.lean); close each card by the builder's one call (the guide's Derived/Test/ToyasCard.lean, 'card_holds'). Laid BY PROGRAM, IN A SANDBOX (cutbox-door.mjs). By AI agents, Wed Nov 11 2026. No macro, syntax, notation, axiom, sorry.
-/
import Derived.Test.YtaaapfpcdkfleaaDoorRows
import GoSem.ClaimSeven
namespace Go.Proofs.YtaaapfpcdkfleaaDoor
namespace Rows

/-- THE TIED CARD OF 'bilgelaw11.AduTells'. -/
def aduTellsCard : Claim7 := { stood := { row := aduTellsRow, standIns := [], harness := (true, "88af5a31ab5890a4942af29f7471bc69d4a090ad48f1fb45e6cfa6647c247351"), looks := false }, kinds := [], alts := [], laidByText := true, laidKinds := [.data, .data], laidTests := true, laidLooks := .later }
def AduTellsCardSaid : Prop := Claim7.holds Tryd.pinned (.plain (OpenSpec.ofChange aduTellsSpec)) aduTellsCard

/-- THE TIED CARD OF 'bilgelaw11.AduBack'. -/
def aduBackCard : Claim7 := { stood := { row := aduBackRow, standIns := [], harness := (true, "88af5a31ab5890a4942af29f7471bc69d4a090ad48f1fb45e6cfa6647c247351"), looks := false }, kinds := [], alts := [], laidByText := true, laidKinds := [.data, .data], laidTests := true, laidLooks := .later }
def AduBackCardSaid : Prop := Claim7.holds Tryd.pinned (.plain (OpenSpec.ofChange aduBackSpec)) aduBackCard

/-- THE TIED CARD OF 'bilgelaw11.AduHurt'. -/
def aduHurtCard : Claim7 := { stood := { row := aduHurtRow, standIns := [], harness := (true, "88af5a31ab5890a4942af29f7471bc69d4a090ad48f1fb45e6cfa6647c247351"), looks := false }, kinds := [], alts := [], laidByText := true, laidKinds := [.data, .data], laidTests := true, laidLooks := .later }
def AduHurtCardSaid : Prop := Claim7.holds Tryd.pinned (.plain (OpenSpec.ofChange aduHurtSpec)) aduHurtCard

/-- THE SECOND FORM's CARD OF 'bilgelaw11.AduTells'. -/
def aduTellsUptoCard : Claim7 := { stood := { row := aduTellsUptoRow, standIns := [], harness := (true, "88af5a31ab5890a4942af29f7471bc69d4a090ad48f1fb45e6cfa6647c247351"), looks := false }, kinds := [], alts := [], laidByText := true, laidKinds := [.data, .data], laidTests := true, laidLooks := .later }
def AduTellsUptoCardSaid : Prop := Claim7.holds Tryd.pinned (.plain (OpenSpec.upto aduTellsSpec)) aduTellsUptoCard

/-- THE SECOND FORM's CARD OF 'bilgelaw11.AduBack'. -/
def aduBackUptoCard : Claim7 := { stood := { row := aduBackUptoRow, standIns := [], harness := (true, "88af5a31ab5890a4942af29f7471bc69d4a090ad48f1fb45e6cfa6647c247351"), looks := false }, kinds := [], alts := [], laidByText := true, laidKinds := [.data, .data], laidTests := true, laidLooks := .later }
def AduBackUptoCardSaid : Prop := Claim7.holds Tryd.pinned (.plain (OpenSpec.upto aduBackSpec)) aduBackUptoCard

/-- THE SECOND FORM's CARD OF 'bilgelaw11.AduHurt'. -/
def aduHurtUptoCard : Claim7 := { stood := { row := aduHurtUptoRow, standIns := [], harness := (true, "88af5a31ab5890a4942af29f7471bc69d4a090ad48f1fb45e6cfa6647c247351"), looks := false }, kinds := [], alts := [], laidByText := true, laidKinds := [.data, .data], laidTests := true, laidLooks := .later }
def AduHurtUptoCardSaid : Prop := Claim7.holds Tryd.pinned (.plain (OpenSpec.upto aduHurtSpec)) aduHurtUptoCard
end Rows
end Go.Proofs.YtaaapfpcdkfleaaDoor
