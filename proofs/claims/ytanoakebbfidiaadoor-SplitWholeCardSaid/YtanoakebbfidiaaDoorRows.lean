/-
  NARROWER THAN 'FOR EVERY INPUT', by the rows' own cells (each row's printed sentence says how): SplitCuts: laid · SplitFaults: laid · SplitWhole: laid · SplitParts: laid · SplitShift: laid.
  DERIVED. THE GIVEN ROWS OF THIS SEAT. 5 by the template 'for every input the law returns true; each argument reads behind the call as it read before'; 0 by the template 'total and deterministic' (their statements: YtanoakebbfidiaaDoorTotals.lean).
  GIVEN WITH THE SEED: the statements are not yours to turn. If you find one false, say at which input.
  Laid BY PROGRAM, IN A SANDBOX (cutbox-rows.mjs): the forced cells as the released guide's own fill.sh prints them over the translation 87f6cf5b6d924033… (all of the seat's roots in one cut). By AI agents, Wed Nov 11 2026. No macro, syntax, notation, axiom, sorry.
-/
import Derived.Test.YtanoakebbfidiaaDoorChecked
import GoSem.Claim
import GoSem.ClaimJoined
import GoSem.ClaimMapViews
import Derived.JoinedTies
import Derived.KernelRfl
namespace Go.Proofs.YtanoakebbfidiaaDoor
/- THE CELL 'sum', in the pinned program and in every row, IS THE sha256 OF THE DUMP (.gsa) THAT YtanoakebbfidiaaDoorProg.lean LOADS. Nothing in Lean hashes anything: it is a label: what it is worth is what the hold of that sum in a sandbox is worth. -/
noncomputable def Tryd.pinned : Pinned := { name := "ytanoakebbfidiaadoor", sum := "87f6cf5b6d924033cb28d5b3e48ff0792250b4e59f1f95ba280e53ef408753c3", checked := Tryd.checked }
namespace Rows
def none {H : Type} : Left H := { results := [], args := [] }

/- WHAT THE LISTED PACKAGE-LEVEL VARIABLES READ AS WHEN THE CALL BEGINS. Each datum BY PROGRAM (the guide's laid-datum.mjs) off the statement by which the dump's own 'gosem.cut.vars' lays the variable. In a bare row this is a premise. The card (YtanoakebbfidiaaDoorCards.lean) ties it to the program's text. -/
def laid_bilge_crc_lowHalf {H : Type} : DataW H := .agg [.lit (.int .u16 0), .lit (.int .u16 49345), .lit (.int .u16 49537), .lit (.int .u16 320), .lit (.int .u16 49921), .lit (.int .u16 960), .lit (.int .u16 640), .lit (.int .u16 49729), .lit (.int .u16 50689), .lit (.int .u16 1728), .lit (.int .u16 1920), .lit (.int .u16 51009), .lit (.int .u16 1280), .lit (.int .u16 50625), .lit (.int .u16 50305), .lit (.int .u16 1088)]
def laid_bilge_crc_highHalf {H : Type} : DataW H := .agg [.lit (.int .u16 0), .lit (.int .u16 52225), .lit (.int .u16 55297), .lit (.int .u16 5120), .lit (.int .u16 61441), .lit (.int .u16 15360), .lit (.int .u16 10240), .lit (.int .u16 58369), .lit (.int .u16 40961), .lit (.int .u16 27648), .lit (.int .u16 30720), .lit (.int .u16 46081), .lit (.int .u16 20480), .lit (.int .u16 39937), .lit (.int .u16 34817), .lit (.int .u16 17408)]

/-- 'bilgelaw09.SplitCuts': WHATEVER THE INPUT: true; the input reads as it did. -/
def splitCutsSpec : ChangeSpec := { name := "splitCuts", fn := fun _ => fun
  | [d1, d2, d3] => { results := [.lit (.bool true)], args := [d1, d2, d3] }
  | _ => none }
def splitCutsRow : OpenClaim := { program := "ytanoakebbfidiaadoor", sum := "87f6cf5b6d924033cb28d5b3e48ff0792250b4e59f1f95ba280e53ef408753c3", func := "bilge/bilgelaw09.SplitCuts", spec := "splitCuts", unfollowed := true, recurses := true, named := ["bilge/crc.lowHalf", "bilge/crc.highHalf"], apart := false, laid := [("bilge/crc.lowHalf", laid_bilge_crc_lowHalf), ("bilge/crc.highHalf", laid_bilge_crc_highHalf)] }
def SplitCutsSaid : Prop := splitCutsRow.holds Tryd.pinned (OpenSpec.ofChange splitCutsSpec)

/-- ITS FALSE NEIGHBOUR: 'it returns false'. Refute it at one input. -/
def splitCutsWrong : ChangeSpec := { name := "splitCuts", fn := fun _ => fun
  | [d1, d2, d3] => { results := [.lit (.bool false)], args := [d1, d2, d3] }
  | _ => none }
def SplitCutsWrongFalsely : Prop := splitCutsRow.holds Tryd.pinned (OpenSpec.ofChange splitCutsWrong)

/-- 'bilgelaw09.SplitFaults': WHATEVER THE INPUT: true; the input reads as it did. -/
def splitFaultsSpec : ChangeSpec := { name := "splitFaults", fn := fun _ => fun
  | [d1, d2] => { results := [.lit (.bool true)], args := [d1, d2] }
  | _ => none }
def splitFaultsRow : OpenClaim := { program := "ytanoakebbfidiaadoor", sum := "87f6cf5b6d924033cb28d5b3e48ff0792250b4e59f1f95ba280e53ef408753c3", func := "bilge/bilgelaw09.SplitFaults", spec := "splitFaults", unfollowed := true, recurses := true, named := ["bilge/crc.lowHalf", "bilge/crc.highHalf"], apart := false, laid := [("bilge/crc.lowHalf", laid_bilge_crc_lowHalf), ("bilge/crc.highHalf", laid_bilge_crc_highHalf)] }
def SplitFaultsSaid : Prop := splitFaultsRow.holds Tryd.pinned (OpenSpec.ofChange splitFaultsSpec)

/-- ITS FALSE NEIGHBOUR: 'it returns false'. Refute it at one input. -/
def splitFaultsWrong : ChangeSpec := { name := "splitFaults", fn := fun _ => fun
  | [d1, d2] => { results := [.lit (.bool false)], args := [d1, d2] }
  | _ => none }
def SplitFaultsWrongFalsely : Prop := splitFaultsRow.holds Tryd.pinned (OpenSpec.ofChange splitFaultsWrong)

/-- 'bilgelaw09.SplitWhole': WHATEVER THE INPUT: true; the input reads as it did. -/
def splitWholeSpec : ChangeSpec := { name := "splitWhole", fn := fun _ => fun
  | [d1, d2, d3] => { results := [.lit (.bool true)], args := [d1, d2, d3] }
  | _ => none }
def splitWholeRow : OpenClaim := { program := "ytanoakebbfidiaadoor", sum := "87f6cf5b6d924033cb28d5b3e48ff0792250b4e59f1f95ba280e53ef408753c3", func := "bilge/bilgelaw09.SplitWhole", spec := "splitWhole", unfollowed := true, recurses := true, named := ["bilge/crc.lowHalf", "bilge/crc.highHalf"], apart := false, laid := [("bilge/crc.lowHalf", laid_bilge_crc_lowHalf), ("bilge/crc.highHalf", laid_bilge_crc_highHalf)] }
def SplitWholeSaid : Prop := splitWholeRow.holds Tryd.pinned (OpenSpec.ofChange splitWholeSpec)

/-- ITS FALSE NEIGHBOUR: 'it returns false'. Refute it at one input. -/
def splitWholeWrong : ChangeSpec := { name := "splitWhole", fn := fun _ => fun
  | [d1, d2, d3] => { results := [.lit (.bool false)], args := [d1, d2, d3] }
  | _ => none }
def SplitWholeWrongFalsely : Prop := splitWholeRow.holds Tryd.pinned (OpenSpec.ofChange splitWholeWrong)

/-- 'bilgelaw09.SplitParts': WHATEVER THE INPUT: true; the input reads as it did. -/
def splitPartsSpec : ChangeSpec := { name := "splitParts", fn := fun _ => fun
  | [d1, d2, d3] => { results := [.lit (.bool true)], args := [d1, d2, d3] }
  | _ => none }
def splitPartsRow : OpenClaim := { program := "ytanoakebbfidiaadoor", sum := "87f6cf5b6d924033cb28d5b3e48ff0792250b4e59f1f95ba280e53ef408753c3", func := "bilge/bilgelaw09.SplitParts", spec := "splitParts", unfollowed := true, recurses := true, named := ["bilge/crc.lowHalf", "bilge/crc.highHalf"], apart := false, laid := [("bilge/crc.lowHalf", laid_bilge_crc_lowHalf), ("bilge/crc.highHalf", laid_bilge_crc_highHalf)] }
def SplitPartsSaid : Prop := splitPartsRow.holds Tryd.pinned (OpenSpec.ofChange splitPartsSpec)

/-- ITS FALSE NEIGHBOUR: 'it returns false'. Refute it at one input. -/
def splitPartsWrong : ChangeSpec := { name := "splitParts", fn := fun _ => fun
  | [d1, d2, d3] => { results := [.lit (.bool false)], args := [d1, d2, d3] }
  | _ => none }
def SplitPartsWrongFalsely : Prop := splitPartsRow.holds Tryd.pinned (OpenSpec.ofChange splitPartsWrong)

/-- 'bilgelaw09.SplitShift': WHATEVER THE INPUT: true; the input reads as it did. -/
def splitShiftSpec : ChangeSpec := { name := "splitShift", fn := fun _ => fun
  | [d1, d2, d3] => { results := [.lit (.bool true)], args := [d1, d2, d3] }
  | _ => none }
def splitShiftRow : OpenClaim := { program := "ytanoakebbfidiaadoor", sum := "87f6cf5b6d924033cb28d5b3e48ff0792250b4e59f1f95ba280e53ef408753c3", func := "bilge/bilgelaw09.SplitShift", spec := "splitShift", unfollowed := true, recurses := true, named := ["bilge/crc.lowHalf", "bilge/crc.highHalf"], apart := false, laid := [("bilge/crc.lowHalf", laid_bilge_crc_lowHalf), ("bilge/crc.highHalf", laid_bilge_crc_highHalf)] }
def SplitShiftSaid : Prop := splitShiftRow.holds Tryd.pinned (OpenSpec.ofChange splitShiftSpec)

/-- ITS FALSE NEIGHBOUR: 'it returns false'. Refute it at one input. -/
def splitShiftWrong : ChangeSpec := { name := "splitShift", fn := fun _ => fun
  | [d1, d2, d3] => { results := [.lit (.bool false)], args := [d1, d2, d3] }
  | _ => none }
def SplitShiftWrongFalsely : Prop := splitShiftRow.holds Tryd.pinned (OpenSpec.ofChange splitShiftWrong)

/- THE SECOND FORM. 'bulk': how many values and letters a reading holds, each counted each time it is reached (what is shared counts as often as it is met; a slice's spare places count too). A statement '..UptoSaid' is the law's where the arguments, and the package variables that the reading takes, are together of bulk at most 1048576: NARROWER than '..Said'. Prove '..Said' where nothing that the law and all that it calls make is longer than what came in: it says more and counts as full. Else prove '..UptoSaid'. A law counts once. -/
mutual
def uptoBulk {H : Type} : DataW H → Nat
  | .lit (.string bytes) => bytes.length + 1
  | .lit _ => 1
  | .nil => 1
  | .ptr d => uptoBulk d + 1
  | .slice elems spare => uptoBulkAll elems + uptoBulkAll spare + 1
  | .agg parts => uptoBulkAll parts + 1
  | .iface _ d => uptoBulk d + 1
  | .map entries => uptoBulkEntries entries + 1
  | .held _ => 1
def uptoBulkAll {H : Type} : List (DataW H) → Nat
  | [] => 0
  | d :: r => uptoBulk d + uptoBulkAll r
def uptoBulkEntries {H : Type} : List (Lit × DataW H) → Nat
  | [] => 0
  | x :: r => uptoBulkEntry x + uptoBulkEntries r
def uptoBulkEntry {H : Type} : Lit × DataW H → Nat
  | (.string bytes, d) => bytes.length + uptoBulk d + 1
  | (_, d) => uptoBulk d + 1
 end
def uptoSmall : (H : Type) → List (DataW H) → Bool := fun _ ds => decide (uptoBulkAll ds ≤ 1048576)
def OpenSpec.upto (s : _root_.Go.ChangeSpec) : _root_.Go.OpenSpec := { _root_.Go.OpenSpec.ofChange s with cond := some uptoSmall }

/-- 'bilgelaw09.SplitCuts', WHERE WHAT IT READS IS OF BULK AT MOST 1048576: true; the input reads as it did. -/
def splitCutsUptoRow : OpenClaim := { program := "ytanoakebbfidiaadoor", sum := "87f6cf5b6d924033cb28d5b3e48ff0792250b4e59f1f95ba280e53ef408753c3", func := "bilge/bilgelaw09.SplitCuts", spec := "splitCuts", unfollowed := true, recurses := true, named := ["bilge/crc.lowHalf", "bilge/crc.highHalf"], apart := false, laid := [("bilge/crc.lowHalf", laid_bilge_crc_lowHalf), ("bilge/crc.highHalf", laid_bilge_crc_highHalf)], narrowed := true }
def SplitCutsUptoSaid : Prop := splitCutsUptoRow.holds Tryd.pinned (OpenSpec.upto splitCutsSpec)

/-- 'bilgelaw09.SplitFaults', WHERE WHAT IT READS IS OF BULK AT MOST 1048576: true; the input reads as it did. -/
def splitFaultsUptoRow : OpenClaim := { program := "ytanoakebbfidiaadoor", sum := "87f6cf5b6d924033cb28d5b3e48ff0792250b4e59f1f95ba280e53ef408753c3", func := "bilge/bilgelaw09.SplitFaults", spec := "splitFaults", unfollowed := true, recurses := true, named := ["bilge/crc.lowHalf", "bilge/crc.highHalf"], apart := false, laid := [("bilge/crc.lowHalf", laid_bilge_crc_lowHalf), ("bilge/crc.highHalf", laid_bilge_crc_highHalf)], narrowed := true }
def SplitFaultsUptoSaid : Prop := splitFaultsUptoRow.holds Tryd.pinned (OpenSpec.upto splitFaultsSpec)

/-- 'bilgelaw09.SplitWhole', WHERE WHAT IT READS IS OF BULK AT MOST 1048576: true; the input reads as it did. -/
def splitWholeUptoRow : OpenClaim := { program := "ytanoakebbfidiaadoor", sum := "87f6cf5b6d924033cb28d5b3e48ff0792250b4e59f1f95ba280e53ef408753c3", func := "bilge/bilgelaw09.SplitWhole", spec := "splitWhole", unfollowed := true, recurses := true, named := ["bilge/crc.lowHalf", "bilge/crc.highHalf"], apart := false, laid := [("bilge/crc.lowHalf", laid_bilge_crc_lowHalf), ("bilge/crc.highHalf", laid_bilge_crc_highHalf)], narrowed := true }
def SplitWholeUptoSaid : Prop := splitWholeUptoRow.holds Tryd.pinned (OpenSpec.upto splitWholeSpec)

/-- 'bilgelaw09.SplitParts', WHERE WHAT IT READS IS OF BULK AT MOST 1048576: true; the input reads as it did. -/
def splitPartsUptoRow : OpenClaim := { program := "ytanoakebbfidiaadoor", sum := "87f6cf5b6d924033cb28d5b3e48ff0792250b4e59f1f95ba280e53ef408753c3", func := "bilge/bilgelaw09.SplitParts", spec := "splitParts", unfollowed := true, recurses := true, named := ["bilge/crc.lowHalf", "bilge/crc.highHalf"], apart := false, laid := [("bilge/crc.lowHalf", laid_bilge_crc_lowHalf), ("bilge/crc.highHalf", laid_bilge_crc_highHalf)], narrowed := true }
def SplitPartsUptoSaid : Prop := splitPartsUptoRow.holds Tryd.pinned (OpenSpec.upto splitPartsSpec)

/-- 'bilgelaw09.SplitShift', WHERE WHAT IT READS IS OF BULK AT MOST 1048576: true; the input reads as it did. -/
def splitShiftUptoRow : OpenClaim := { program := "ytanoakebbfidiaadoor", sum := "87f6cf5b6d924033cb28d5b3e48ff0792250b4e59f1f95ba280e53ef408753c3", func := "bilge/bilgelaw09.SplitShift", spec := "splitShift", unfollowed := true, recurses := true, named := ["bilge/crc.lowHalf", "bilge/crc.highHalf"], apart := false, laid := [("bilge/crc.lowHalf", laid_bilge_crc_lowHalf), ("bilge/crc.highHalf", laid_bilge_crc_highHalf)], narrowed := true }
def SplitShiftUptoSaid : Prop := splitShiftUptoRow.holds Tryd.pinned (OpenSpec.upto splitShiftSpec)

end Rows
end Go.Proofs.YtanoakebbfidiaaDoor
