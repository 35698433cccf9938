/-
  No cell of these rows narrows 'for every input' (looked for: loops, veiled, ifaces, maps, wideKeys, modest, calm, conditions, laid).
  DERIVED. THE GIVEN ROWS OF THIS SEAT. 3 by the template 'for every input the law returns true; each argument reads behind the call as it read before'; 0 by the template 'total and deterministic' (their statements: YtokfgdjkafiicaaTotals.lean).
  GIVEN WITH THE SEED: the statements are not yours to turn. If you find one false, say at which input.
  Laid BY PROGRAM, IN A SANDBOX (cutbox-rows.mjs): the forced cells as the released guide's own fill.sh prints them over the translation 7cf1f5bd6677a5d4… (all of the seat's roots in one cut). By AI agents, Wed Nov 11 2026. No macro, syntax, notation, axiom, sorry.
-/
import Derived.Test.YtokfgdjkafiicaaChecked
import GoSem.Claim
import GoSem.ClaimJoined
import GoSem.ClaimMapViews
import Derived.JoinedTies
import Derived.KernelRfl
namespace Go.Proofs.Ytokfgdjkafiicaa
/- THE CELL 'sum', in the pinned program and in every row, IS THE sha256 OF THE DUMP (.gsa) THAT YtokfgdjkafiicaaProg.lean LOADS. Nothing in Lean hashes anything: it is a label: what it is worth is what the hold of that sum in a sandbox is worth. -/
noncomputable def Try.pinned : Pinned := { name := "ytokfgdjkafiicaa", sum := "7cf1f5bd6677a5d4daaa4293bd3e4cd1369769d3d024a40b6b7427681d03056a", checked := Try.checked }
namespace Rows
def none {H : Type} : Left H := { results := [], args := [] }

/-- 'bilgelaw15.AskPrints': WHATEVER THE INPUT: true; the input reads as it did. -/
def askPrintsSpec : ChangeSpec := { name := "askPrints", fn := fun _ => fun
  | [d1, d2] => { results := [.lit (.bool true)], args := [d1, d2] }
  | _ => none }
def askPrintsRow : OpenClaim := { program := "ytokfgdjkafiicaa", sum := "7cf1f5bd6677a5d4daaa4293bd3e4cd1369769d3d024a40b6b7427681d03056a", func := "bilge/bilgelaw15.AskPrints", spec := "askPrints", unfollowed := true, recurses := true, apart := false }
def AskPrintsSaid : Prop := askPrintsRow.holds Try.pinned (OpenSpec.ofChange askPrintsSpec)

/-- ITS FALSE NEIGHBOUR: 'it returns false'. Refute it at one input. -/
def askPrintsWrong : ChangeSpec := { name := "askPrints", fn := fun _ => fun
  | [d1, d2] => { results := [.lit (.bool false)], args := [d1, d2] }
  | _ => none }
def AskPrintsWrongFalsely : Prop := askPrintsRow.holds Try.pinned (OpenSpec.ofChange askPrintsWrong)

/-- 'bilgelaw15.AskParses': WHATEVER THE INPUT: true; the input reads as it did. -/
def askParsesSpec : ChangeSpec := { name := "askParses", fn := fun _ => fun
  | [d] => { results := [.lit (.bool true)], args := [d] }
  | _ => none }
def askParsesRow : OpenClaim := { program := "ytokfgdjkafiicaa", sum := "7cf1f5bd6677a5d4daaa4293bd3e4cd1369769d3d024a40b6b7427681d03056a", func := "bilge/bilgelaw15.AskParses", spec := "askParses", unfollowed := true, recurses := true, apart := false }
def AskParsesSaid : Prop := askParsesRow.holds Try.pinned (OpenSpec.ofChange askParsesSpec)

/-- ITS FALSE NEIGHBOUR: 'it returns false'. Refute it at one input. -/
def askParsesWrong : ChangeSpec := { name := "askParses", fn := fun _ => fun
  | [d] => { results := [.lit (.bool false)], args := [d] }
  | _ => none }
def AskParsesWrongFalsely : Prop := askParsesRow.holds Try.pinned (OpenSpec.ofChange askParsesWrong)

/-- 'bilgelaw15.AskBack': WHATEVER THE INPUT: true; the input reads as it did. -/
def askBackSpec : ChangeSpec := { name := "askBack", fn := fun _ => fun
  | [d1, d2] => { results := [.lit (.bool true)], args := [d1, d2] }
  | _ => none }
def askBackRow : OpenClaim := { program := "ytokfgdjkafiicaa", sum := "7cf1f5bd6677a5d4daaa4293bd3e4cd1369769d3d024a40b6b7427681d03056a", func := "bilge/bilgelaw15.AskBack", spec := "askBack", unfollowed := true, recurses := true, apart := false }
def AskBackSaid : Prop := askBackRow.holds Try.pinned (OpenSpec.ofChange askBackSpec)

/-- ITS FALSE NEIGHBOUR: 'it returns false'. Refute it at one input. -/
def askBackWrong : ChangeSpec := { name := "askBack", fn := fun _ => fun
  | [d1, d2] => { results := [.lit (.bool false)], args := [d1, d2] }
  | _ => none }
def AskBackWrongFalsely : Prop := askBackRow.holds Try.pinned (OpenSpec.ofChange askBackWrong)

/- THE SECOND FORM. 'bulk': how many values and letters a reading holds, each counted each time it is reached (what is shared counts as often as it is met; a slice's spare places count too). A statement '..UptoSaid' is the law's where the arguments, and the package variables that the reading takes, are together of bulk at most 1048576: NARROWER than '..Said'. Prove '..Said' where nothing that the law and all that it calls make is longer than what came in: it says more and counts as full. Else prove '..UptoSaid'. A law counts once. -/
mutual
def uptoBulk {H : Type} : DataW H → Nat
  | .lit (.string bytes) => bytes.length + 1
  | .lit _ => 1
  | .nil => 1
  | .ptr d => uptoBulk d + 1
  | .slice elems spare => uptoBulkAll elems + uptoBulkAll spare + 1
  | .agg parts => uptoBulkAll parts + 1
  | .iface _ d => uptoBulk d + 1
  | .map entries => uptoBulkEntries entries + 1
  | .held _ => 1
def uptoBulkAll {H : Type} : List (DataW H) → Nat
  | [] => 0
  | d :: r => uptoBulk d + uptoBulkAll r
def uptoBulkEntries {H : Type} : List (Lit × DataW H) → Nat
  | [] => 0
  | x :: r => uptoBulkEntry x + uptoBulkEntries r
def uptoBulkEntry {H : Type} : Lit × DataW H → Nat
  | (.string bytes, d) => bytes.length + uptoBulk d + 1
  | (_, d) => uptoBulk d + 1
 end
def uptoSmall : (H : Type) → List (DataW H) → Bool := fun _ ds => decide (uptoBulkAll ds ≤ 1048576)
def OpenSpec.upto (s : _root_.Go.ChangeSpec) : _root_.Go.OpenSpec := { _root_.Go.OpenSpec.ofChange s with cond := some uptoSmall }

/-- 'bilgelaw15.AskPrints', WHERE WHAT IT READS IS OF BULK AT MOST 1048576: true; the input reads as it did. -/
def askPrintsUptoRow : OpenClaim := { program := "ytokfgdjkafiicaa", sum := "7cf1f5bd6677a5d4daaa4293bd3e4cd1369769d3d024a40b6b7427681d03056a", func := "bilge/bilgelaw15.AskPrints", spec := "askPrints", unfollowed := true, recurses := true, apart := false, narrowed := true }
def AskPrintsUptoSaid : Prop := askPrintsUptoRow.holds Try.pinned (OpenSpec.upto askPrintsSpec)

/-- 'bilgelaw15.AskParses', WHERE WHAT IT READS IS OF BULK AT MOST 1048576: true; the input reads as it did. -/
def askParsesUptoRow : OpenClaim := { program := "ytokfgdjkafiicaa", sum := "7cf1f5bd6677a5d4daaa4293bd3e4cd1369769d3d024a40b6b7427681d03056a", func := "bilge/bilgelaw15.AskParses", spec := "askParses", unfollowed := true, recurses := true, apart := false, narrowed := true }
def AskParsesUptoSaid : Prop := askParsesUptoRow.holds Try.pinned (OpenSpec.upto askParsesSpec)

/-- 'bilgelaw15.AskBack', WHERE WHAT IT READS IS OF BULK AT MOST 1048576: true; the input reads as it did. -/
def askBackUptoRow : OpenClaim := { program := "ytokfgdjkafiicaa", sum := "7cf1f5bd6677a5d4daaa4293bd3e4cd1369769d3d024a40b6b7427681d03056a", func := "bilge/bilgelaw15.AskBack", spec := "askBack", unfollowed := true, recurses := true, apart := false, narrowed := true }
def AskBackUptoSaid : Prop := askBackUptoRow.holds Try.pinned (OpenSpec.upto askBackSpec)

end Rows
end Go.Proofs.Ytokfgdjkafiicaa
