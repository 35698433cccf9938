/-
  No cell of these rows narrows 'for every input' (looked for: loops, veiled, ifaces, maps, wideKeys, modest, calm, conditions, laid).
  DERIVED. THE GIVEN ROWS OF THIS SEAT. 4 by the template 'for every input the law returns true; each argument reads behind the call as it read before'; 0 by the template 'total and deterministic' (their statements: YtbabfhbkckokfaaTotals.lean).
  GIVEN WITH THE SEED: the statements are not yours to turn. If you find one false, say at which input.
  Laid BY PROGRAM, IN A SANDBOX (cutbox-rows.mjs): the forced cells as the released guide's own fill.sh prints them over the translation bb30febf2edaff7a… (all of the seat's roots in one cut). By AI agents, Wed Nov 11 2026. No macro, syntax, notation, axiom, sorry.
-/
import Derived.Test.YtbabfhbkckokfaaChecked
import GoSem.Claim
import GoSem.ClaimJoined
import GoSem.ClaimMapViews
import Derived.JoinedTies
import Derived.KernelRfl
namespace Go.Proofs.Ytbabfhbkckokfaa
/- THE CELL 'sum', in the pinned program and in every row, IS THE sha256 OF THE DUMP (.gsa) THAT YtbabfhbkckokfaaProg.lean LOADS. Nothing in Lean hashes anything: it is a label: what it is worth is what the hold of that sum in a sandbox is worth. -/
noncomputable def Try.pinned : Pinned := { name := "ytbabfhbkckokfaa", sum := "bb30febf2edaff7a6b5161842a11ba831a4dd1e9ed203ac223d4d9d43191cc2e", checked := Try.checked }
namespace Rows
def none {H : Type} : Left H := { results := [], args := [] }

/-- 'bilgelaw13.CellsBits': WHATEVER THE INPUT: true; the input reads as it did. -/
def cellsBitsSpec : ChangeSpec := { name := "cellsBits", fn := fun _ => fun
  | [d] => { results := [.lit (.bool true)], args := [d] }
  | _ => none }
def cellsBitsRow : OpenClaim := { program := "ytbabfhbkckokfaa", sum := "bb30febf2edaff7a6b5161842a11ba831a4dd1e9ed203ac223d4d9d43191cc2e", func := "bilge/bilgelaw13.CellsBits", spec := "cellsBits", unfollowed := true, recurses := true, apart := false }
def CellsBitsSaid : Prop := cellsBitsRow.holds Try.pinned (OpenSpec.ofChange cellsBitsSpec)

/-- ITS FALSE NEIGHBOUR: 'it returns false'. Refute it at one input. -/
def cellsBitsWrong : ChangeSpec := { name := "cellsBits", fn := fun _ => fun
  | [d] => { results := [.lit (.bool false)], args := [d] }
  | _ => none }
def CellsBitsWrongFalsely : Prop := cellsBitsRow.holds Try.pinned (OpenSpec.ofChange cellsBitsWrong)

/-- 'bilgelaw13.CellsWords': WHATEVER THE INPUT: true; the input reads as it did. -/
def cellsWordsSpec : ChangeSpec := { name := "cellsWords", fn := fun _ => fun
  | [d1, d2] => { results := [.lit (.bool true)], args := [d1, d2] }
  | _ => none }
def cellsWordsRow : OpenClaim := { program := "ytbabfhbkckokfaa", sum := "bb30febf2edaff7a6b5161842a11ba831a4dd1e9ed203ac223d4d9d43191cc2e", func := "bilge/bilgelaw13.CellsWords", spec := "cellsWords", unfollowed := true, recurses := true, apart := false }
def CellsWordsSaid : Prop := cellsWordsRow.holds Try.pinned (OpenSpec.ofChange cellsWordsSpec)

/-- ITS FALSE NEIGHBOUR: 'it returns false'. Refute it at one input. -/
def cellsWordsWrong : ChangeSpec := { name := "cellsWords", fn := fun _ => fun
  | [d1, d2] => { results := [.lit (.bool false)], args := [d1, d2] }
  | _ => none }
def CellsWordsWrongFalsely : Prop := cellsWordsRow.holds Try.pinned (OpenSpec.ofChange cellsWordsWrong)

/-- 'bilgelaw13.CellsBack': WHATEVER THE INPUT: true; the input reads as it did. -/
def cellsBackSpec : ChangeSpec := { name := "cellsBack", fn := fun _ => fun
  | [d1, d2] => { results := [.lit (.bool true)], args := [d1, d2] }
  | _ => none }
def cellsBackRow : OpenClaim := { program := "ytbabfhbkckokfaa", sum := "bb30febf2edaff7a6b5161842a11ba831a4dd1e9ed203ac223d4d9d43191cc2e", func := "bilge/bilgelaw13.CellsBack", spec := "cellsBack", unfollowed := true, recurses := true, apart := false }
def CellsBackSaid : Prop := cellsBackRow.holds Try.pinned (OpenSpec.ofChange cellsBackSpec)

/-- ITS FALSE NEIGHBOUR: 'it returns false'. Refute it at one input. -/
def cellsBackWrong : ChangeSpec := { name := "cellsBack", fn := fun _ => fun
  | [d1, d2] => { results := [.lit (.bool false)], args := [d1, d2] }
  | _ => none }
def CellsBackWrongFalsely : Prop := cellsBackRow.holds Try.pinned (OpenSpec.ofChange cellsBackWrong)

/-- 'bilgelaw13.CellsMask': WHATEVER THE INPUT: true; the input reads as it did. -/
def cellsMaskSpec : ChangeSpec := { name := "cellsMask", fn := fun _ => fun
  | [d1, d2, d3] => { results := [.lit (.bool true)], args := [d1, d2, d3] }
  | _ => none }
def cellsMaskRow : OpenClaim := { program := "ytbabfhbkckokfaa", sum := "bb30febf2edaff7a6b5161842a11ba831a4dd1e9ed203ac223d4d9d43191cc2e", func := "bilge/bilgelaw13.CellsMask", spec := "cellsMask", unfollowed := true, recurses := true, apart := false }
def CellsMaskSaid : Prop := cellsMaskRow.holds Try.pinned (OpenSpec.ofChange cellsMaskSpec)

/-- ITS FALSE NEIGHBOUR: 'it returns false'. Refute it at one input. -/
def cellsMaskWrong : ChangeSpec := { name := "cellsMask", fn := fun _ => fun
  | [d1, d2, d3] => { results := [.lit (.bool false)], args := [d1, d2, d3] }
  | _ => none }
def CellsMaskWrongFalsely : Prop := cellsMaskRow.holds Try.pinned (OpenSpec.ofChange cellsMaskWrong)

/- THE SECOND FORM. 'bulk': how many values and letters a reading holds, each counted each time it is reached (what is shared counts as often as it is met; a slice's spare places count too). A statement '..UptoSaid' is the law's where the arguments, and the package variables that the reading takes, are together of bulk at most 1048576: NARROWER than '..Said'. Prove '..Said' where nothing that the law and all that it calls make is longer than what came in: it says more and counts as full. Else prove '..UptoSaid'. A law counts once. -/
mutual
def uptoBulk {H : Type} : DataW H → Nat
  | .lit (.string bytes) => bytes.length + 1
  | .lit _ => 1
  | .nil => 1
  | .ptr d => uptoBulk d + 1
  | .slice elems spare => uptoBulkAll elems + uptoBulkAll spare + 1
  | .agg parts => uptoBulkAll parts + 1
  | .iface _ d => uptoBulk d + 1
  | .map entries => uptoBulkEntries entries + 1
  | .held _ => 1
def uptoBulkAll {H : Type} : List (DataW H) → Nat
  | [] => 0
  | d :: r => uptoBulk d + uptoBulkAll r
def uptoBulkEntries {H : Type} : List (Lit × DataW H) → Nat
  | [] => 0
  | x :: r => uptoBulkEntry x + uptoBulkEntries r
def uptoBulkEntry {H : Type} : Lit × DataW H → Nat
  | (.string bytes, d) => bytes.length + uptoBulk d + 1
  | (_, d) => uptoBulk d + 1
 end
def uptoSmall : (H : Type) → List (DataW H) → Bool := fun _ ds => decide (uptoBulkAll ds ≤ 1048576)
def OpenSpec.upto (s : _root_.Go.ChangeSpec) : _root_.Go.OpenSpec := { _root_.Go.OpenSpec.ofChange s with cond := some uptoSmall }

/-- 'bilgelaw13.CellsBits', WHERE WHAT IT READS IS OF BULK AT MOST 1048576: true; the input reads as it did. -/
def cellsBitsUptoRow : OpenClaim := { program := "ytbabfhbkckokfaa", sum := "bb30febf2edaff7a6b5161842a11ba831a4dd1e9ed203ac223d4d9d43191cc2e", func := "bilge/bilgelaw13.CellsBits", spec := "cellsBits", unfollowed := true, recurses := true, apart := false, narrowed := true }
def CellsBitsUptoSaid : Prop := cellsBitsUptoRow.holds Try.pinned (OpenSpec.upto cellsBitsSpec)

/-- 'bilgelaw13.CellsWords', WHERE WHAT IT READS IS OF BULK AT MOST 1048576: true; the input reads as it did. -/
def cellsWordsUptoRow : OpenClaim := { program := "ytbabfhbkckokfaa", sum := "bb30febf2edaff7a6b5161842a11ba831a4dd1e9ed203ac223d4d9d43191cc2e", func := "bilge/bilgelaw13.CellsWords", spec := "cellsWords", unfollowed := true, recurses := true, apart := false, narrowed := true }
def CellsWordsUptoSaid : Prop := cellsWordsUptoRow.holds Try.pinned (OpenSpec.upto cellsWordsSpec)

/-- 'bilgelaw13.CellsBack', WHERE WHAT IT READS IS OF BULK AT MOST 1048576: true; the input reads as it did. -/
def cellsBackUptoRow : OpenClaim := { program := "ytbabfhbkckokfaa", sum := "bb30febf2edaff7a6b5161842a11ba831a4dd1e9ed203ac223d4d9d43191cc2e", func := "bilge/bilgelaw13.CellsBack", spec := "cellsBack", unfollowed := true, recurses := true, apart := false, narrowed := true }
def CellsBackUptoSaid : Prop := cellsBackUptoRow.holds Try.pinned (OpenSpec.upto cellsBackSpec)

/-- 'bilgelaw13.CellsMask', WHERE WHAT IT READS IS OF BULK AT MOST 1048576: true; the input reads as it did. -/
def cellsMaskUptoRow : OpenClaim := { program := "ytbabfhbkckokfaa", sum := "bb30febf2edaff7a6b5161842a11ba831a4dd1e9ed203ac223d4d9d43191cc2e", func := "bilge/bilgelaw13.CellsMask", spec := "cellsMask", unfollowed := true, recurses := true, apart := false, narrowed := true }
def CellsMaskUptoSaid : Prop := cellsMaskUptoRow.holds Try.pinned (OpenSpec.upto cellsMaskSpec)

end Rows
end Go.Proofs.Ytbabfhbkckokfaa
