/-
  No cell of these rows narrows 'for every input' (looked for: loops, veiled, ifaces, maps, wideKeys, modest, calm, conditions, laid).
  DERIVED. THE GIVEN ROWS OF THIS SEAT. 6 by the template 'for every input the law returns true; each argument reads behind the call as it read before'; 0 by the template 'total and deterministic' (their statements: YtlafnobjfajamaaGreatTotals.lean).
  GIVEN WITH THE SEED: the statements are not yours to turn. If you find one false, say at which input.
  Laid BY PROGRAM, IN A SANDBOX (cutbox-rows.mjs): the forced cells as the released guide's own fill.sh prints them over the translation 2070029c3a6dca80… (all of the seat's roots in one cut). By AI agents, Wed Nov 11 2026. No macro, syntax, notation, axiom, sorry.
-/
import Derived.Test.YtlafnobjfajamaaGreatChecked
import GoSem.Claim
import GoSem.ClaimJoined
import GoSem.ClaimMapViews
import Derived.JoinedTies
import Derived.KernelRfl
namespace Go.Proofs.YtlafnobjfajamaaGreat
/- THE CELL 'sum', in the pinned program and in every row, IS THE sha256 OF THE DUMP (.gsa) THAT YtlafnobjfajamaaGreatProg.lean LOADS. Nothing in Lean hashes anything: it is a label: what it is worth is what the hold of that sum in a sandbox is worth. -/
noncomputable def Tryz.pinned : Pinned := { name := "ytlafnobjfajamaagreat", sum := "2070029c3a6dca8049e04e4550fd8f102f5e539deb3497192ba3f9c583577876", checked := Tryz.checked }
namespace Rows
def none {H : Type} : Left H := { results := [], args := [] }

/-- 'bilgelaw17.DataDoes': WHATEVER THE INPUT: true; the input reads as it did. -/
def dataDoesSpec : ChangeSpec := { name := "dataDoes", fn := fun _ => fun
  | [d1, d2] => { results := [.lit (.bool true)], args := [d1, d2] }
  | _ => none }
def dataDoesRow : OpenClaim := { program := "ytlafnobjfajamaagreat", sum := "2070029c3a6dca8049e04e4550fd8f102f5e539deb3497192ba3f9c583577876", func := "bilge/bilgelaw17.DataDoes", spec := "dataDoes", unfollowed := true, recurses := true, apart := false }
def DataDoesSaid : Prop := dataDoesRow.holds Tryz.pinned (OpenSpec.ofChange dataDoesSpec)

/-- ITS FALSE NEIGHBOUR: 'it returns false'. Refute it at one input. -/
def dataDoesWrong : ChangeSpec := { name := "dataDoes", fn := fun _ => fun
  | [d1, d2] => { results := [.lit (.bool false)], args := [d1, d2] }
  | _ => none }
def DataDoesWrongFalsely : Prop := dataDoesRow.holds Tryz.pinned (OpenSpec.ofChange dataDoesWrong)

/-- 'bilgelaw17.DataServes': WHATEVER THE INPUT: true; the input reads as it did. -/
def dataServesSpec : ChangeSpec := { name := "dataServes", fn := fun _ => fun
  | [d1, d2] => { results := [.lit (.bool true)], args := [d1, d2] }
  | _ => none }
def dataServesRow : OpenClaim := { program := "ytlafnobjfajamaagreat", sum := "2070029c3a6dca8049e04e4550fd8f102f5e539deb3497192ba3f9c583577876", func := "bilge/bilgelaw17.DataServes", spec := "dataServes", unfollowed := true, recurses := true, apart := false }
def DataServesSaid : Prop := dataServesRow.holds Tryz.pinned (OpenSpec.ofChange dataServesSpec)

/-- ITS FALSE NEIGHBOUR: 'it returns false'. Refute it at one input. -/
def dataServesWrong : ChangeSpec := { name := "dataServes", fn := fun _ => fun
  | [d1, d2] => { results := [.lit (.bool false)], args := [d1, d2] }
  | _ => none }
def DataServesWrongFalsely : Prop := dataServesRow.holds Tryz.pinned (OpenSpec.ofChange dataServesWrong)

/-- 'bilgelaw17.DataAnswers': WHATEVER THE INPUT: true; the input reads as it did. -/
def dataAnswersSpec : ChangeSpec := { name := "dataAnswers", fn := fun _ => fun
  | [d1, d2] => { results := [.lit (.bool true)], args := [d1, d2] }
  | _ => none }
def dataAnswersRow : OpenClaim := { program := "ytlafnobjfajamaagreat", sum := "2070029c3a6dca8049e04e4550fd8f102f5e539deb3497192ba3f9c583577876", func := "bilge/bilgelaw17.DataAnswers", spec := "dataAnswers", unfollowed := true, recurses := true, apart := false }
def DataAnswersSaid : Prop := dataAnswersRow.holds Tryz.pinned (OpenSpec.ofChange dataAnswersSpec)

/-- ITS FALSE NEIGHBOUR: 'it returns false'. Refute it at one input. -/
def dataAnswersWrong : ChangeSpec := { name := "dataAnswers", fn := fun _ => fun
  | [d1, d2] => { results := [.lit (.bool false)], args := [d1, d2] }
  | _ => none }
def DataAnswersWrongFalsely : Prop := dataAnswersRow.holds Tryz.pinned (OpenSpec.ofChange dataAnswersWrong)

/-- 'bilgelaw17.DataBack': WHATEVER THE INPUT: true; the input reads as it did. -/
def dataBackSpec : ChangeSpec := { name := "dataBack", fn := fun _ => fun
  | [d1, d2] => { results := [.lit (.bool true)], args := [d1, d2] }
  | _ => none }
def dataBackRow : OpenClaim := { program := "ytlafnobjfajamaagreat", sum := "2070029c3a6dca8049e04e4550fd8f102f5e539deb3497192ba3f9c583577876", func := "bilge/bilgelaw17.DataBack", spec := "dataBack", unfollowed := true, recurses := true, apart := false }
def DataBackSaid : Prop := dataBackRow.holds Tryz.pinned (OpenSpec.ofChange dataBackSpec)

/-- ITS FALSE NEIGHBOUR: 'it returns false'. Refute it at one input. -/
def dataBackWrong : ChangeSpec := { name := "dataBack", fn := fun _ => fun
  | [d1, d2] => { results := [.lit (.bool false)], args := [d1, d2] }
  | _ => none }
def DataBackWrongFalsely : Prop := dataBackRow.holds Tryz.pinned (OpenSpec.ofChange dataBackWrong)

/-- 'bilgelaw17.DataParts': WHATEVER THE INPUT: true; the input reads as it did. -/
def dataPartsSpec : ChangeSpec := { name := "dataParts", fn := fun _ => fun
  | [d1, d2] => { results := [.lit (.bool true)], args := [d1, d2] }
  | _ => none }
def dataPartsRow : OpenClaim := { program := "ytlafnobjfajamaagreat", sum := "2070029c3a6dca8049e04e4550fd8f102f5e539deb3497192ba3f9c583577876", func := "bilge/bilgelaw17.DataParts", spec := "dataParts", unfollowed := true, recurses := true, apart := false }
def DataPartsSaid : Prop := dataPartsRow.holds Tryz.pinned (OpenSpec.ofChange dataPartsSpec)

/-- ITS FALSE NEIGHBOUR: 'it returns false'. Refute it at one input. -/
def dataPartsWrong : ChangeSpec := { name := "dataParts", fn := fun _ => fun
  | [d1, d2] => { results := [.lit (.bool false)], args := [d1, d2] }
  | _ => none }
def DataPartsWrongFalsely : Prop := dataPartsRow.holds Tryz.pinned (OpenSpec.ofChange dataPartsWrong)

/-- 'bilgelaw17.DataSwaps': WHATEVER THE INPUT: true; the input reads as it did. -/
def dataSwapsSpec : ChangeSpec := { name := "dataSwaps", fn := fun _ => fun
  | [d1, d2, d3] => { results := [.lit (.bool true)], args := [d1, d2, d3] }
  | _ => none }
def dataSwapsRow : OpenClaim := { program := "ytlafnobjfajamaagreat", sum := "2070029c3a6dca8049e04e4550fd8f102f5e539deb3497192ba3f9c583577876", func := "bilge/bilgelaw17.DataSwaps", spec := "dataSwaps", unfollowed := true, recurses := true, apart := false }
def DataSwapsSaid : Prop := dataSwapsRow.holds Tryz.pinned (OpenSpec.ofChange dataSwapsSpec)

/-- ITS FALSE NEIGHBOUR: 'it returns false'. Refute it at one input. -/
def dataSwapsWrong : ChangeSpec := { name := "dataSwaps", fn := fun _ => fun
  | [d1, d2, d3] => { results := [.lit (.bool false)], args := [d1, d2, d3] }
  | _ => none }
def DataSwapsWrongFalsely : Prop := dataSwapsRow.holds Tryz.pinned (OpenSpec.ofChange dataSwapsWrong)

/- THE SECOND FORM. 'bulk': how many values and letters a reading holds, each counted each time it is reached (what is shared counts as often as it is met; a slice's spare places count too). A statement '..UptoSaid' is the law's where the arguments, and the package variables that the reading takes, are together of bulk at most 1048576: NARROWER than '..Said'. Prove '..Said' where nothing that the law and all that it calls make is longer than what came in: it says more and counts as full. Else prove '..UptoSaid'. A law counts once. -/
mutual
def uptoBulk {H : Type} : DataW H → Nat
  | .lit (.string bytes) => bytes.length + 1
  | .lit _ => 1
  | .nil => 1
  | .ptr d => uptoBulk d + 1
  | .slice elems spare => uptoBulkAll elems + uptoBulkAll spare + 1
  | .agg parts => uptoBulkAll parts + 1
  | .iface _ d => uptoBulk d + 1
  | .map entries => uptoBulkEntries entries + 1
  | .held _ => 1
def uptoBulkAll {H : Type} : List (DataW H) → Nat
  | [] => 0
  | d :: r => uptoBulk d + uptoBulkAll r
def uptoBulkEntries {H : Type} : List (Lit × DataW H) → Nat
  | [] => 0
  | x :: r => uptoBulkEntry x + uptoBulkEntries r
def uptoBulkEntry {H : Type} : Lit × DataW H → Nat
  | (.string bytes, d) => bytes.length + uptoBulk d + 1
  | (_, d) => uptoBulk d + 1
 end
def uptoSmall : (H : Type) → List (DataW H) → Bool := fun _ ds => decide (uptoBulkAll ds ≤ 1048576)
def OpenSpec.upto (s : _root_.Go.ChangeSpec) : _root_.Go.OpenSpec := { _root_.Go.OpenSpec.ofChange s with cond := some uptoSmall }

/-- 'bilgelaw17.DataDoes', WHERE WHAT IT READS IS OF BULK AT MOST 1048576: true; the input reads as it did. -/
def dataDoesUptoRow : OpenClaim := { program := "ytlafnobjfajamaagreat", sum := "2070029c3a6dca8049e04e4550fd8f102f5e539deb3497192ba3f9c583577876", func := "bilge/bilgelaw17.DataDoes", spec := "dataDoes", unfollowed := true, recurses := true, apart := false, narrowed := true }
def DataDoesUptoSaid : Prop := dataDoesUptoRow.holds Tryz.pinned (OpenSpec.upto dataDoesSpec)

/-- 'bilgelaw17.DataServes', WHERE WHAT IT READS IS OF BULK AT MOST 1048576: true; the input reads as it did. -/
def dataServesUptoRow : OpenClaim := { program := "ytlafnobjfajamaagreat", sum := "2070029c3a6dca8049e04e4550fd8f102f5e539deb3497192ba3f9c583577876", func := "bilge/bilgelaw17.DataServes", spec := "dataServes", unfollowed := true, recurses := true, apart := false, narrowed := true }
def DataServesUptoSaid : Prop := dataServesUptoRow.holds Tryz.pinned (OpenSpec.upto dataServesSpec)

/-- 'bilgelaw17.DataAnswers', WHERE WHAT IT READS IS OF BULK AT MOST 1048576: true; the input reads as it did. -/
def dataAnswersUptoRow : OpenClaim := { program := "ytlafnobjfajamaagreat", sum := "2070029c3a6dca8049e04e4550fd8f102f5e539deb3497192ba3f9c583577876", func := "bilge/bilgelaw17.DataAnswers", spec := "dataAnswers", unfollowed := true, recurses := true, apart := false, narrowed := true }
def DataAnswersUptoSaid : Prop := dataAnswersUptoRow.holds Tryz.pinned (OpenSpec.upto dataAnswersSpec)

/-- 'bilgelaw17.DataBack', WHERE WHAT IT READS IS OF BULK AT MOST 1048576: true; the input reads as it did. -/
def dataBackUptoRow : OpenClaim := { program := "ytlafnobjfajamaagreat", sum := "2070029c3a6dca8049e04e4550fd8f102f5e539deb3497192ba3f9c583577876", func := "bilge/bilgelaw17.DataBack", spec := "dataBack", unfollowed := true, recurses := true, apart := false, narrowed := true }
def DataBackUptoSaid : Prop := dataBackUptoRow.holds Tryz.pinned (OpenSpec.upto dataBackSpec)

/-- 'bilgelaw17.DataParts', WHERE WHAT IT READS IS OF BULK AT MOST 1048576: true; the input reads as it did. -/
def dataPartsUptoRow : OpenClaim := { program := "ytlafnobjfajamaagreat", sum := "2070029c3a6dca8049e04e4550fd8f102f5e539deb3497192ba3f9c583577876", func := "bilge/bilgelaw17.DataParts", spec := "dataParts", unfollowed := true, recurses := true, apart := false, narrowed := true }
def DataPartsUptoSaid : Prop := dataPartsUptoRow.holds Tryz.pinned (OpenSpec.upto dataPartsSpec)

/-- 'bilgelaw17.DataSwaps', WHERE WHAT IT READS IS OF BULK AT MOST 1048576: true; the input reads as it did. -/
def dataSwapsUptoRow : OpenClaim := { program := "ytlafnobjfajamaagreat", sum := "2070029c3a6dca8049e04e4550fd8f102f5e539deb3497192ba3f9c583577876", func := "bilge/bilgelaw17.DataSwaps", spec := "dataSwaps", unfollowed := true, recurses := true, apart := false, narrowed := true }
def DataSwapsUptoSaid : Prop := dataSwapsUptoRow.holds Tryz.pinned (OpenSpec.upto dataSwapsSpec)

end Rows
end Go.Proofs.YtlafnobjfajamaaGreat
