/-
  NARROWER THAN 'FOR EVERY INPUT', by the rows' own cells (each row's printed sentence says how): CrcTells: laid · CrcBack: laid · CrcOdd: laid · CrcBursts: laid · CrcJoins: laid.
  DERIVED. THE GIVEN ROWS OF THIS SEAT. 5 by the template 'for every input the law returns true; each argument reads behind the call as it read before'; 0 by the template 'total and deterministic' (their statements: YtgemdnmcklpbkaaDoorTotals.lean).
  GIVEN WITH THE SEED: the statements are not yours to turn. If you find one false, say at which input.
  Laid BY PROGRAM, IN A SANDBOX (cutbox-rows.mjs): the forced cells as the released guide's own fill.sh prints them over the translation a7f747dfd9c4edad… (all of the seat's roots in one cut). By AI agents, Wed Nov 11 2026. No macro, syntax, notation, axiom, sorry.
-/
import Derived.Test.YtgemdnmcklpbkaaDoorChecked
import GoSem.Claim
import GoSem.ClaimJoined
import GoSem.ClaimMapViews
import Derived.JoinedTies
import Derived.KernelRfl
namespace Go.Proofs.YtgemdnmcklpbkaaDoor
/- THE CELL 'sum', in the pinned program and in every row, IS THE sha256 OF THE DUMP (.gsa) THAT YtgemdnmcklpbkaaDoorProg.lean LOADS. Nothing in Lean hashes anything: it is a label: what it is worth is what the hold of that sum in a sandbox is worth. -/
noncomputable def Tryd.pinned : Pinned := { name := "ytgemdnmcklpbkaadoor", sum := "a7f747dfd9c4edadef4d34f30b0371876e732feeb2aeeb8ba3b3282822606b1e", checked := Tryd.checked }
namespace Rows
def none {H : Type} : Left H := { results := [], args := [] }

/- WHAT THE LISTED PACKAGE-LEVEL VARIABLES READ AS WHEN THE CALL BEGINS. Each datum BY PROGRAM (the guide's laid-datum.mjs) off the statement by which the dump's own 'gosem.cut.vars' lays the variable. In a bare row this is a premise. The card (YtgemdnmcklpbkaaDoorCards.lean) ties it to the program's text. -/
def laid_bilge_crc_lowHalf {H : Type} : DataW H := .agg [.lit (.int .u16 0), .lit (.int .u16 49345), .lit (.int .u16 49537), .lit (.int .u16 320), .lit (.int .u16 49921), .lit (.int .u16 960), .lit (.int .u16 640), .lit (.int .u16 49729), .lit (.int .u16 50689), .lit (.int .u16 1728), .lit (.int .u16 1920), .lit (.int .u16 51009), .lit (.int .u16 1280), .lit (.int .u16 50625), .lit (.int .u16 50305), .lit (.int .u16 1088)]
def laid_bilge_crc_highHalf {H : Type} : DataW H := .agg [.lit (.int .u16 0), .lit (.int .u16 52225), .lit (.int .u16 55297), .lit (.int .u16 5120), .lit (.int .u16 61441), .lit (.int .u16 15360), .lit (.int .u16 10240), .lit (.int .u16 58369), .lit (.int .u16 40961), .lit (.int .u16 27648), .lit (.int .u16 30720), .lit (.int .u16 46081), .lit (.int .u16 20480), .lit (.int .u16 39937), .lit (.int .u16 34817), .lit (.int .u16 17408)]

/-- 'bilgelaw04.CrcTells': WHATEVER THE INPUT: true; the input reads as it did. -/
def crcTellsSpec : ChangeSpec := { name := "crcTells", fn := fun _ => fun
  | [d1, d2] => { results := [.lit (.bool true)], args := [d1, d2] }
  | _ => none }
def crcTellsRow : OpenClaim := { program := "ytgemdnmcklpbkaadoor", sum := "a7f747dfd9c4edadef4d34f30b0371876e732feeb2aeeb8ba3b3282822606b1e", func := "bilge/bilgelaw04.CrcTells", spec := "crcTells", unfollowed := true, recurses := true, named := ["bilge/crc.lowHalf", "bilge/crc.highHalf"], apart := false, laid := [("bilge/crc.lowHalf", laid_bilge_crc_lowHalf), ("bilge/crc.highHalf", laid_bilge_crc_highHalf)] }
def CrcTellsSaid : Prop := crcTellsRow.holds Tryd.pinned (OpenSpec.ofChange crcTellsSpec)

/-- ITS FALSE NEIGHBOUR: 'it returns false'. Refute it at one input. -/
def crcTellsWrong : ChangeSpec := { name := "crcTells", fn := fun _ => fun
  | [d1, d2] => { results := [.lit (.bool false)], args := [d1, d2] }
  | _ => none }
def CrcTellsWrongFalsely : Prop := crcTellsRow.holds Tryd.pinned (OpenSpec.ofChange crcTellsWrong)

/-- 'bilgelaw04.CrcBack': WHATEVER THE INPUT: true; the input reads as it did. -/
def crcBackSpec : ChangeSpec := { name := "crcBack", fn := fun _ => fun
  | [d] => { results := [.lit (.bool true)], args := [d] }
  | _ => none }
def crcBackRow : OpenClaim := { program := "ytgemdnmcklpbkaadoor", sum := "a7f747dfd9c4edadef4d34f30b0371876e732feeb2aeeb8ba3b3282822606b1e", func := "bilge/bilgelaw04.CrcBack", spec := "crcBack", unfollowed := true, recurses := true, named := ["bilge/crc.lowHalf", "bilge/crc.highHalf"], apart := false, laid := [("bilge/crc.lowHalf", laid_bilge_crc_lowHalf), ("bilge/crc.highHalf", laid_bilge_crc_highHalf)] }
def CrcBackSaid : Prop := crcBackRow.holds Tryd.pinned (OpenSpec.ofChange crcBackSpec)

/-- ITS FALSE NEIGHBOUR: 'it returns false'. Refute it at one input. -/
def crcBackWrong : ChangeSpec := { name := "crcBack", fn := fun _ => fun
  | [d] => { results := [.lit (.bool false)], args := [d] }
  | _ => none }
def CrcBackWrongFalsely : Prop := crcBackRow.holds Tryd.pinned (OpenSpec.ofChange crcBackWrong)

/-- 'bilgelaw04.CrcOdd': WHATEVER THE INPUT: true; the input reads as it did. -/
def crcOddSpec : ChangeSpec := { name := "crcOdd", fn := fun _ => fun
  | [d1, d2] => { results := [.lit (.bool true)], args := [d1, d2] }
  | _ => none }
def crcOddRow : OpenClaim := { program := "ytgemdnmcklpbkaadoor", sum := "a7f747dfd9c4edadef4d34f30b0371876e732feeb2aeeb8ba3b3282822606b1e", func := "bilge/bilgelaw04.CrcOdd", spec := "crcOdd", unfollowed := true, recurses := true, named := ["bilge/crc.lowHalf", "bilge/crc.highHalf"], apart := false, laid := [("bilge/crc.lowHalf", laid_bilge_crc_lowHalf), ("bilge/crc.highHalf", laid_bilge_crc_highHalf)] }
def CrcOddSaid : Prop := crcOddRow.holds Tryd.pinned (OpenSpec.ofChange crcOddSpec)

/-- ITS FALSE NEIGHBOUR: 'it returns false'. Refute it at one input. -/
def crcOddWrong : ChangeSpec := { name := "crcOdd", fn := fun _ => fun
  | [d1, d2] => { results := [.lit (.bool false)], args := [d1, d2] }
  | _ => none }
def CrcOddWrongFalsely : Prop := crcOddRow.holds Tryd.pinned (OpenSpec.ofChange crcOddWrong)

/-- 'bilgelaw04.CrcBursts': WHATEVER THE INPUT: true; the input reads as it did. -/
def crcBurstsSpec : ChangeSpec := { name := "crcBursts", fn := fun _ => fun
  | [d1, d2, d3] => { results := [.lit (.bool true)], args := [d1, d2, d3] }
  | _ => none }
def crcBurstsRow : OpenClaim := { program := "ytgemdnmcklpbkaadoor", sum := "a7f747dfd9c4edadef4d34f30b0371876e732feeb2aeeb8ba3b3282822606b1e", func := "bilge/bilgelaw04.CrcBursts", spec := "crcBursts", unfollowed := true, recurses := true, named := ["bilge/crc.lowHalf", "bilge/crc.highHalf"], apart := false, laid := [("bilge/crc.lowHalf", laid_bilge_crc_lowHalf), ("bilge/crc.highHalf", laid_bilge_crc_highHalf)] }
def CrcBurstsSaid : Prop := crcBurstsRow.holds Tryd.pinned (OpenSpec.ofChange crcBurstsSpec)

/-- ITS FALSE NEIGHBOUR: 'it returns false'. Refute it at one input. -/
def crcBurstsWrong : ChangeSpec := { name := "crcBursts", fn := fun _ => fun
  | [d1, d2, d3] => { results := [.lit (.bool false)], args := [d1, d2, d3] }
  | _ => none }
def CrcBurstsWrongFalsely : Prop := crcBurstsRow.holds Tryd.pinned (OpenSpec.ofChange crcBurstsWrong)

/-- 'bilgelaw04.CrcJoins': WHATEVER THE INPUT: true; the input reads as it did. -/
def crcJoinsSpec : ChangeSpec := { name := "crcJoins", fn := fun _ => fun
  | [d1, d2, d3] => { results := [.lit (.bool true)], args := [d1, d2, d3] }
  | _ => none }
def crcJoinsRow : OpenClaim := { program := "ytgemdnmcklpbkaadoor", sum := "a7f747dfd9c4edadef4d34f30b0371876e732feeb2aeeb8ba3b3282822606b1e", func := "bilge/bilgelaw04.CrcJoins", spec := "crcJoins", unfollowed := true, recurses := true, named := ["bilge/crc.lowHalf", "bilge/crc.highHalf"], apart := false, laid := [("bilge/crc.lowHalf", laid_bilge_crc_lowHalf), ("bilge/crc.highHalf", laid_bilge_crc_highHalf)] }
def CrcJoinsSaid : Prop := crcJoinsRow.holds Tryd.pinned (OpenSpec.ofChange crcJoinsSpec)

/-- ITS FALSE NEIGHBOUR: 'it returns false'. Refute it at one input. -/
def crcJoinsWrong : ChangeSpec := { name := "crcJoins", fn := fun _ => fun
  | [d1, d2, d3] => { results := [.lit (.bool false)], args := [d1, d2, d3] }
  | _ => none }
def CrcJoinsWrongFalsely : Prop := crcJoinsRow.holds Tryd.pinned (OpenSpec.ofChange crcJoinsWrong)

/- THE SECOND FORM. 'bulk': how many values and letters a reading holds, each counted each time it is reached (what is shared counts as often as it is met; a slice's spare places count too). A statement '..UptoSaid' is the law's where the arguments, and the package variables that the reading takes, are together of bulk at most 1048576: NARROWER than '..Said'. Prove '..Said' where nothing that the law and all that it calls make is longer than what came in: it says more and counts as full. Else prove '..UptoSaid'. A law counts once. -/
mutual
def uptoBulk {H : Type} : DataW H → Nat
  | .lit (.string bytes) => bytes.length + 1
  | .lit _ => 1
  | .nil => 1
  | .ptr d => uptoBulk d + 1
  | .slice elems spare => uptoBulkAll elems + uptoBulkAll spare + 1
  | .agg parts => uptoBulkAll parts + 1
  | .iface _ d => uptoBulk d + 1
  | .map entries => uptoBulkEntries entries + 1
  | .held _ => 1
def uptoBulkAll {H : Type} : List (DataW H) → Nat
  | [] => 0
  | d :: r => uptoBulk d + uptoBulkAll r
def uptoBulkEntries {H : Type} : List (Lit × DataW H) → Nat
  | [] => 0
  | x :: r => uptoBulkEntry x + uptoBulkEntries r
def uptoBulkEntry {H : Type} : Lit × DataW H → Nat
  | (.string bytes, d) => bytes.length + uptoBulk d + 1
  | (_, d) => uptoBulk d + 1
 end
def uptoSmall : (H : Type) → List (DataW H) → Bool := fun _ ds => decide (uptoBulkAll ds ≤ 1048576)
def OpenSpec.upto (s : _root_.Go.ChangeSpec) : _root_.Go.OpenSpec := { _root_.Go.OpenSpec.ofChange s with cond := some uptoSmall }

/-- 'bilgelaw04.CrcTells', WHERE WHAT IT READS IS OF BULK AT MOST 1048576: true; the input reads as it did. -/
def crcTellsUptoRow : OpenClaim := { program := "ytgemdnmcklpbkaadoor", sum := "a7f747dfd9c4edadef4d34f30b0371876e732feeb2aeeb8ba3b3282822606b1e", func := "bilge/bilgelaw04.CrcTells", spec := "crcTells", unfollowed := true, recurses := true, named := ["bilge/crc.lowHalf", "bilge/crc.highHalf"], apart := false, laid := [("bilge/crc.lowHalf", laid_bilge_crc_lowHalf), ("bilge/crc.highHalf", laid_bilge_crc_highHalf)], narrowed := true }
def CrcTellsUptoSaid : Prop := crcTellsUptoRow.holds Tryd.pinned (OpenSpec.upto crcTellsSpec)

/-- 'bilgelaw04.CrcBack', WHERE WHAT IT READS IS OF BULK AT MOST 1048576: true; the input reads as it did. -/
def crcBackUptoRow : OpenClaim := { program := "ytgemdnmcklpbkaadoor", sum := "a7f747dfd9c4edadef4d34f30b0371876e732feeb2aeeb8ba3b3282822606b1e", func := "bilge/bilgelaw04.CrcBack", spec := "crcBack", unfollowed := true, recurses := true, named := ["bilge/crc.lowHalf", "bilge/crc.highHalf"], apart := false, laid := [("bilge/crc.lowHalf", laid_bilge_crc_lowHalf), ("bilge/crc.highHalf", laid_bilge_crc_highHalf)], narrowed := true }
def CrcBackUptoSaid : Prop := crcBackUptoRow.holds Tryd.pinned (OpenSpec.upto crcBackSpec)

/-- 'bilgelaw04.CrcOdd', WHERE WHAT IT READS IS OF BULK AT MOST 1048576: true; the input reads as it did. -/
def crcOddUptoRow : OpenClaim := { program := "ytgemdnmcklpbkaadoor", sum := "a7f747dfd9c4edadef4d34f30b0371876e732feeb2aeeb8ba3b3282822606b1e", func := "bilge/bilgelaw04.CrcOdd", spec := "crcOdd", unfollowed := true, recurses := true, named := ["bilge/crc.lowHalf", "bilge/crc.highHalf"], apart := false, laid := [("bilge/crc.lowHalf", laid_bilge_crc_lowHalf), ("bilge/crc.highHalf", laid_bilge_crc_highHalf)], narrowed := true }
def CrcOddUptoSaid : Prop := crcOddUptoRow.holds Tryd.pinned (OpenSpec.upto crcOddSpec)

/-- 'bilgelaw04.CrcBursts', WHERE WHAT IT READS IS OF BULK AT MOST 1048576: true; the input reads as it did. -/
def crcBurstsUptoRow : OpenClaim := { program := "ytgemdnmcklpbkaadoor", sum := "a7f747dfd9c4edadef4d34f30b0371876e732feeb2aeeb8ba3b3282822606b1e", func := "bilge/bilgelaw04.CrcBursts", spec := "crcBursts", unfollowed := true, recurses := true, named := ["bilge/crc.lowHalf", "bilge/crc.highHalf"], apart := false, laid := [("bilge/crc.lowHalf", laid_bilge_crc_lowHalf), ("bilge/crc.highHalf", laid_bilge_crc_highHalf)], narrowed := true }
def CrcBurstsUptoSaid : Prop := crcBurstsUptoRow.holds Tryd.pinned (OpenSpec.upto crcBurstsSpec)

/-- 'bilgelaw04.CrcJoins', WHERE WHAT IT READS IS OF BULK AT MOST 1048576: true; the input reads as it did. -/
def crcJoinsUptoRow : OpenClaim := { program := "ytgemdnmcklpbkaadoor", sum := "a7f747dfd9c4edadef4d34f30b0371876e732feeb2aeeb8ba3b3282822606b1e", func := "bilge/bilgelaw04.CrcJoins", spec := "crcJoins", unfollowed := true, recurses := true, named := ["bilge/crc.lowHalf", "bilge/crc.highHalf"], apart := false, laid := [("bilge/crc.lowHalf", laid_bilge_crc_lowHalf), ("bilge/crc.highHalf", laid_bilge_crc_highHalf)], narrowed := true }
def CrcJoinsUptoSaid : Prop := crcJoinsUptoRow.holds Tryd.pinned (OpenSpec.upto crcJoinsSpec)

end Rows
end Go.Proofs.YtgemdnmcklpbkaaDoor
