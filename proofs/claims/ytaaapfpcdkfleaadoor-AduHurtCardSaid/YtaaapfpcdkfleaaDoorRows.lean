/-
  NARROWER THAN 'FOR EVERY INPUT', by the rows' own cells (each row's printed sentence says how): AduTells: laid · AduBack: laid · AduHurt: laid.
  DERIVED. THE GIVEN ROWS OF THIS SEAT. 3 by the template 'for every input the law returns true; each argument reads behind the call as it read before'; 0 by the template 'total and deterministic' (their statements: YtaaapfpcdkfleaaDoorTotals.lean).
  GIVEN WITH THE SEED: the statements are not yours to turn. If you find one false, say at which input.
  Laid BY PROGRAM, IN A SANDBOX (cutbox-rows.mjs): the forced cells as the released guide's own fill.sh prints them over the translation 37c7a78e76dc89ff… (all of the seat's roots in one cut). By AI agents, Wed Nov 11 2026. No macro, syntax, notation, axiom, sorry.
-/
import Derived.Test.YtaaapfpcdkfleaaDoorChecked
import GoSem.Claim
import GoSem.ClaimJoined
import GoSem.ClaimMapViews
import Derived.JoinedTies
import Derived.KernelRfl
namespace Go.Proofs.YtaaapfpcdkfleaaDoor
/- THE CELL 'sum', in the pinned program and in every row, IS THE sha256 OF THE DUMP (.gsa) THAT YtaaapfpcdkfleaaDoorProg.lean LOADS. Nothing in Lean hashes anything: it is a label: what it is worth is what the hold of that sum in a sandbox is worth. -/
noncomputable def Tryd.pinned : Pinned := { name := "ytaaapfpcdkfleaadoor", sum := "37c7a78e76dc89ffeb0f8630f92d68875df8de1e774d71b095a8950e35eaa5ad", checked := Tryd.checked }
namespace Rows
def none {H : Type} : Left H := { results := [], args := [] }

/- WHAT THE LISTED PACKAGE-LEVEL VARIABLES READ AS WHEN THE CALL BEGINS. Each datum BY PROGRAM (the guide's laid-datum.mjs) off the statement by which the dump's own 'gosem.cut.vars' lays the variable. In a bare row this is a premise. The card (YtaaapfpcdkfleaaDoorCards.lean) ties it to the program's text. -/
def laid_bilge_crc_lowHalf {H : Type} : DataW H := .agg [.lit (.int .u16 0), .lit (.int .u16 49345), .lit (.int .u16 49537), .lit (.int .u16 320), .lit (.int .u16 49921), .lit (.int .u16 960), .lit (.int .u16 640), .lit (.int .u16 49729), .lit (.int .u16 50689), .lit (.int .u16 1728), .lit (.int .u16 1920), .lit (.int .u16 51009), .lit (.int .u16 1280), .lit (.int .u16 50625), .lit (.int .u16 50305), .lit (.int .u16 1088)]
def laid_bilge_crc_highHalf {H : Type} : DataW H := .agg [.lit (.int .u16 0), .lit (.int .u16 52225), .lit (.int .u16 55297), .lit (.int .u16 5120), .lit (.int .u16 61441), .lit (.int .u16 15360), .lit (.int .u16 10240), .lit (.int .u16 58369), .lit (.int .u16 40961), .lit (.int .u16 27648), .lit (.int .u16 30720), .lit (.int .u16 46081), .lit (.int .u16 20480), .lit (.int .u16 39937), .lit (.int .u16 34817), .lit (.int .u16 17408)]

/-- 'bilgelaw11.AduTells': WHATEVER THE INPUT: true; the input reads as it did. -/
def aduTellsSpec : ChangeSpec := { name := "aduTells", fn := fun _ => fun
  | [d1, d2, d3] => { results := [.lit (.bool true)], args := [d1, d2, d3] }
  | _ => none }
def aduTellsRow : OpenClaim := { program := "ytaaapfpcdkfleaadoor", sum := "37c7a78e76dc89ffeb0f8630f92d68875df8de1e774d71b095a8950e35eaa5ad", func := "bilge/bilgelaw11.AduTells", spec := "aduTells", unfollowed := true, recurses := true, named := ["bilge/crc.lowHalf", "bilge/crc.highHalf"], apart := false, laid := [("bilge/crc.lowHalf", laid_bilge_crc_lowHalf), ("bilge/crc.highHalf", laid_bilge_crc_highHalf)] }
def AduTellsSaid : Prop := aduTellsRow.holds Tryd.pinned (OpenSpec.ofChange aduTellsSpec)

/-- ITS FALSE NEIGHBOUR: 'it returns false'. Refute it at one input. -/
def aduTellsWrong : ChangeSpec := { name := "aduTells", fn := fun _ => fun
  | [d1, d2, d3] => { results := [.lit (.bool false)], args := [d1, d2, d3] }
  | _ => none }
def AduTellsWrongFalsely : Prop := aduTellsRow.holds Tryd.pinned (OpenSpec.ofChange aduTellsWrong)

/-- 'bilgelaw11.AduBack': WHATEVER THE INPUT: true; the input reads as it did. -/
def aduBackSpec : ChangeSpec := { name := "aduBack", fn := fun _ => fun
  | [d1, d2, d3] => { results := [.lit (.bool true)], args := [d1, d2, d3] }
  | _ => none }
def aduBackRow : OpenClaim := { program := "ytaaapfpcdkfleaadoor", sum := "37c7a78e76dc89ffeb0f8630f92d68875df8de1e774d71b095a8950e35eaa5ad", func := "bilge/bilgelaw11.AduBack", spec := "aduBack", unfollowed := true, recurses := true, named := ["bilge/crc.lowHalf", "bilge/crc.highHalf"], apart := false, laid := [("bilge/crc.lowHalf", laid_bilge_crc_lowHalf), ("bilge/crc.highHalf", laid_bilge_crc_highHalf)] }
def AduBackSaid : Prop := aduBackRow.holds Tryd.pinned (OpenSpec.ofChange aduBackSpec)

/-- ITS FALSE NEIGHBOUR: 'it returns false'. Refute it at one input. -/
def aduBackWrong : ChangeSpec := { name := "aduBack", fn := fun _ => fun
  | [d1, d2, d3] => { results := [.lit (.bool false)], args := [d1, d2, d3] }
  | _ => none }
def AduBackWrongFalsely : Prop := aduBackRow.holds Tryd.pinned (OpenSpec.ofChange aduBackWrong)

/-- 'bilgelaw11.AduHurt': WHATEVER THE INPUT: true; the input reads as it did. -/
def aduHurtSpec : ChangeSpec := { name := "aduHurt", fn := fun _ => fun
  | [d1, d2, d3] => { results := [.lit (.bool true)], args := [d1, d2, d3] }
  | _ => none }
def aduHurtRow : OpenClaim := { program := "ytaaapfpcdkfleaadoor", sum := "37c7a78e76dc89ffeb0f8630f92d68875df8de1e774d71b095a8950e35eaa5ad", func := "bilge/bilgelaw11.AduHurt", spec := "aduHurt", unfollowed := true, recurses := true, named := ["bilge/crc.lowHalf", "bilge/crc.highHalf"], apart := false, laid := [("bilge/crc.lowHalf", laid_bilge_crc_lowHalf), ("bilge/crc.highHalf", laid_bilge_crc_highHalf)] }
def AduHurtSaid : Prop := aduHurtRow.holds Tryd.pinned (OpenSpec.ofChange aduHurtSpec)

/-- ITS FALSE NEIGHBOUR: 'it returns false'. Refute it at one input. -/
def aduHurtWrong : ChangeSpec := { name := "aduHurt", fn := fun _ => fun
  | [d1, d2, d3] => { results := [.lit (.bool false)], args := [d1, d2, d3] }
  | _ => none }
def AduHurtWrongFalsely : Prop := aduHurtRow.holds Tryd.pinned (OpenSpec.ofChange aduHurtWrong)

/- THE SECOND FORM. 'bulk': how many values and letters a reading holds, each counted each time it is reached (what is shared counts as often as it is met; a slice's spare places count too). A statement '..UptoSaid' is the law's where the arguments, and the package variables that the reading takes, are together of bulk at most 1048576: NARROWER than '..Said'. Prove '..Said' where nothing that the law and all that it calls make is longer than what came in: it says more and counts as full. Else prove '..UptoSaid'. A law counts once. -/
mutual
def uptoBulk {H : Type} : DataW H → Nat
  | .lit (.string bytes) => bytes.length + 1
  | .lit _ => 1
  | .nil => 1
  | .ptr d => uptoBulk d + 1
  | .slice elems spare => uptoBulkAll elems + uptoBulkAll spare + 1
  | .agg parts => uptoBulkAll parts + 1
  | .iface _ d => uptoBulk d + 1
  | .map entries => uptoBulkEntries entries + 1
  | .held _ => 1
def uptoBulkAll {H : Type} : List (DataW H) → Nat
  | [] => 0
  | d :: r => uptoBulk d + uptoBulkAll r
def uptoBulkEntries {H : Type} : List (Lit × DataW H) → Nat
  | [] => 0
  | x :: r => uptoBulkEntry x + uptoBulkEntries r
def uptoBulkEntry {H : Type} : Lit × DataW H → Nat
  | (.string bytes, d) => bytes.length + uptoBulk d + 1
  | (_, d) => uptoBulk d + 1
 end
def uptoSmall : (H : Type) → List (DataW H) → Bool := fun _ ds => decide (uptoBulkAll ds ≤ 1048576)
def OpenSpec.upto (s : _root_.Go.ChangeSpec) : _root_.Go.OpenSpec := { _root_.Go.OpenSpec.ofChange s with cond := some uptoSmall }

/-- 'bilgelaw11.AduTells', WHERE WHAT IT READS IS OF BULK AT MOST 1048576: true; the input reads as it did. -/
def aduTellsUptoRow : OpenClaim := { program := "ytaaapfpcdkfleaadoor", sum := "37c7a78e76dc89ffeb0f8630f92d68875df8de1e774d71b095a8950e35eaa5ad", func := "bilge/bilgelaw11.AduTells", spec := "aduTells", unfollowed := true, recurses := true, named := ["bilge/crc.lowHalf", "bilge/crc.highHalf"], apart := false, laid := [("bilge/crc.lowHalf", laid_bilge_crc_lowHalf), ("bilge/crc.highHalf", laid_bilge_crc_highHalf)], narrowed := true }
def AduTellsUptoSaid : Prop := aduTellsUptoRow.holds Tryd.pinned (OpenSpec.upto aduTellsSpec)

/-- 'bilgelaw11.AduBack', WHERE WHAT IT READS IS OF BULK AT MOST 1048576: true; the input reads as it did. -/
def aduBackUptoRow : OpenClaim := { program := "ytaaapfpcdkfleaadoor", sum := "37c7a78e76dc89ffeb0f8630f92d68875df8de1e774d71b095a8950e35eaa5ad", func := "bilge/bilgelaw11.AduBack", spec := "aduBack", unfollowed := true, recurses := true, named := ["bilge/crc.lowHalf", "bilge/crc.highHalf"], apart := false, laid := [("bilge/crc.lowHalf", laid_bilge_crc_lowHalf), ("bilge/crc.highHalf", laid_bilge_crc_highHalf)], narrowed := true }
def AduBackUptoSaid : Prop := aduBackUptoRow.holds Tryd.pinned (OpenSpec.upto aduBackSpec)

/-- 'bilgelaw11.AduHurt', WHERE WHAT IT READS IS OF BULK AT MOST 1048576: true; the input reads as it did. -/
def aduHurtUptoRow : OpenClaim := { program := "ytaaapfpcdkfleaadoor", sum := "37c7a78e76dc89ffeb0f8630f92d68875df8de1e774d71b095a8950e35eaa5ad", func := "bilge/bilgelaw11.AduHurt", spec := "aduHurt", unfollowed := true, recurses := true, named := ["bilge/crc.lowHalf", "bilge/crc.highHalf"], apart := false, laid := [("bilge/crc.lowHalf", laid_bilge_crc_lowHalf), ("bilge/crc.highHalf", laid_bilge_crc_highHalf)], narrowed := true }
def AduHurtUptoSaid : Prop := aduHurtUptoRow.holds Tryd.pinned (OpenSpec.upto aduHurtSpec)

end Rows
end Go.Proofs.YtaaapfpcdkfleaaDoor
