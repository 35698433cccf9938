/-
  No cell of these rows narrows 'for every input' (looked for: loops, veiled, ifaces, maps, wideKeys, modest, calm, conditions, laid).
  DERIVED. THE GIVEN ROWS OF THIS SEAT. 3 by the template 'for every input the law returns true; each argument reads behind the call as it read before'; 0 by the template 'total and deterministic' (their statements: YtkgakeknnfnjdaaTotals.lean).
  GIVEN WITH THE SEED: the statements are not yours to turn. If you find one false, say at which input.
  Laid BY PROGRAM, IN A SANDBOX (cutbox-rows.mjs): the forced cells as the released guide's own fill.sh prints them over the translation 00eecc31435d4783… (all of the seat's roots in one cut). By AI agents, Wed Nov 11 2026. No macro, syntax, notation, axiom, sorry.
-/
import Derived.Test.YtkgakeknnfnjdaaChecked
import GoSem.Claim
import GoSem.ClaimJoined
import GoSem.ClaimMapViews
import Derived.JoinedTies
import Derived.KernelRfl
namespace Go.Proofs.Ytkgakeknnfnjdaa
/- THE CELL 'sum', in the pinned program and in every row, IS THE sha256 OF THE DUMP (.gsa) THAT YtkgakeknnfnjdaaProg.lean LOADS. Nothing in Lean hashes anything: it is a label: what it is worth is what the hold of that sum in a sandbox is worth. -/
noncomputable def Try.pinned : Pinned := { name := "ytkgakeknnfnjdaa", sum := "00eecc31435d478351460d45d3f17e59ac8acf17a668c5e836b393bc9aeebd98", checked := Try.checked }
namespace Rows
def none {H : Type} : Left H := { results := [], args := [] }

/-- 'bilgelaw22.WhoTells': WHATEVER THE INPUT: true; the input reads as it did. -/
def whoTellsSpec : ChangeSpec := { name := "whoTells", fn := fun _ => fun
  | [d1, d2, d3] => { results := [.lit (.bool true)], args := [d1, d2, d3] }
  | _ => none }
def whoTellsRow : OpenClaim := { program := "ytkgakeknnfnjdaa", sum := "00eecc31435d478351460d45d3f17e59ac8acf17a668c5e836b393bc9aeebd98", func := "bilge/bilgelaw22.WhoTells", spec := "whoTells", unfollowed := true, recurses := true, apart := false }
def WhoTellsSaid : Prop := whoTellsRow.holds Try.pinned (OpenSpec.ofChange whoTellsSpec)

/-- ITS FALSE NEIGHBOUR: 'it returns false'. Refute it at one input. -/
def whoTellsWrong : ChangeSpec := { name := "whoTells", fn := fun _ => fun
  | [d1, d2, d3] => { results := [.lit (.bool false)], args := [d1, d2, d3] }
  | _ => none }
def WhoTellsWrongFalsely : Prop := whoTellsRow.holds Try.pinned (OpenSpec.ofChange whoTellsWrong)

/-- 'bilgelaw22.WhoBack': WHATEVER THE INPUT: true; the input reads as it did. -/
def whoBackSpec : ChangeSpec := { name := "whoBack", fn := fun _ => fun
  | [d1, d2, d3] => { results := [.lit (.bool true)], args := [d1, d2, d3] }
  | _ => none }
def whoBackRow : OpenClaim := { program := "ytkgakeknnfnjdaa", sum := "00eecc31435d478351460d45d3f17e59ac8acf17a668c5e836b393bc9aeebd98", func := "bilge/bilgelaw22.WhoBack", spec := "whoBack", unfollowed := true, recurses := true, apart := false }
def WhoBackSaid : Prop := whoBackRow.holds Try.pinned (OpenSpec.ofChange whoBackSpec)

/-- ITS FALSE NEIGHBOUR: 'it returns false'. Refute it at one input. -/
def whoBackWrong : ChangeSpec := { name := "whoBack", fn := fun _ => fun
  | [d1, d2, d3] => { results := [.lit (.bool false)], args := [d1, d2, d3] }
  | _ => none }
def WhoBackWrongFalsely : Prop := whoBackRow.holds Try.pinned (OpenSpec.ofChange whoBackWrong)

/-- 'bilgelaw22.WhoBits': WHATEVER THE INPUT: true; the input reads as it did. -/
def whoBitsSpec : ChangeSpec := { name := "whoBits", fn := fun _ => fun
  | [d1, d2] => { results := [.lit (.bool true)], args := [d1, d2] }
  | _ => none }
def whoBitsRow : OpenClaim := { program := "ytkgakeknnfnjdaa", sum := "00eecc31435d478351460d45d3f17e59ac8acf17a668c5e836b393bc9aeebd98", func := "bilge/bilgelaw22.WhoBits", spec := "whoBits", unfollowed := true, recurses := true, apart := false }
def WhoBitsSaid : Prop := whoBitsRow.holds Try.pinned (OpenSpec.ofChange whoBitsSpec)

/-- ITS FALSE NEIGHBOUR: 'it returns false'. Refute it at one input. -/
def whoBitsWrong : ChangeSpec := { name := "whoBits", fn := fun _ => fun
  | [d1, d2] => { results := [.lit (.bool false)], args := [d1, d2] }
  | _ => none }
def WhoBitsWrongFalsely : Prop := whoBitsRow.holds Try.pinned (OpenSpec.ofChange whoBitsWrong)

/- THE SECOND FORM. 'bulk': how many values and letters a reading holds, each counted each time it is reached (what is shared counts as often as it is met; a slice's spare places count too). A statement '..UptoSaid' is the law's where the arguments, and the package variables that the reading takes, are together of bulk at most 1048576: NARROWER than '..Said'. Prove '..Said' where nothing that the law and all that it calls make is longer than what came in: it says more and counts as full. Else prove '..UptoSaid'. A law counts once. -/
mutual
def uptoBulk {H : Type} : DataW H → Nat
  | .lit (.string bytes) => bytes.length + 1
  | .lit _ => 1
  | .nil => 1
  | .ptr d => uptoBulk d + 1
  | .slice elems spare => uptoBulkAll elems + uptoBulkAll spare + 1
  | .agg parts => uptoBulkAll parts + 1
  | .iface _ d => uptoBulk d + 1
  | .map entries => uptoBulkEntries entries + 1
  | .held _ => 1
def uptoBulkAll {H : Type} : List (DataW H) → Nat
  | [] => 0
  | d :: r => uptoBulk d + uptoBulkAll r
def uptoBulkEntries {H : Type} : List (Lit × DataW H) → Nat
  | [] => 0
  | x :: r => uptoBulkEntry x + uptoBulkEntries r
def uptoBulkEntry {H : Type} : Lit × DataW H → Nat
  | (.string bytes, d) => bytes.length + uptoBulk d + 1
  | (_, d) => uptoBulk d + 1
 end
def uptoSmall : (H : Type) → List (DataW H) → Bool := fun _ ds => decide (uptoBulkAll ds ≤ 1048576)
def OpenSpec.upto (s : _root_.Go.ChangeSpec) : _root_.Go.OpenSpec := { _root_.Go.OpenSpec.ofChange s with cond := some uptoSmall }

/-- 'bilgelaw22.WhoTells', WHERE WHAT IT READS IS OF BULK AT MOST 1048576: true; the input reads as it did. -/
def whoTellsUptoRow : OpenClaim := { program := "ytkgakeknnfnjdaa", sum := "00eecc31435d478351460d45d3f17e59ac8acf17a668c5e836b393bc9aeebd98", func := "bilge/bilgelaw22.WhoTells", spec := "whoTells", unfollowed := true, recurses := true, apart := false, narrowed := true }
def WhoTellsUptoSaid : Prop := whoTellsUptoRow.holds Try.pinned (OpenSpec.upto whoTellsSpec)

/-- 'bilgelaw22.WhoBack', WHERE WHAT IT READS IS OF BULK AT MOST 1048576: true; the input reads as it did. -/
def whoBackUptoRow : OpenClaim := { program := "ytkgakeknnfnjdaa", sum := "00eecc31435d478351460d45d3f17e59ac8acf17a668c5e836b393bc9aeebd98", func := "bilge/bilgelaw22.WhoBack", spec := "whoBack", unfollowed := true, recurses := true, apart := false, narrowed := true }
def WhoBackUptoSaid : Prop := whoBackUptoRow.holds Try.pinned (OpenSpec.upto whoBackSpec)

/-- 'bilgelaw22.WhoBits', WHERE WHAT IT READS IS OF BULK AT MOST 1048576: true; the input reads as it did. -/
def whoBitsUptoRow : OpenClaim := { program := "ytkgakeknnfnjdaa", sum := "00eecc31435d478351460d45d3f17e59ac8acf17a668c5e836b393bc9aeebd98", func := "bilge/bilgelaw22.WhoBits", spec := "whoBits", unfollowed := true, recurses := true, apart := false, narrowed := true }
def WhoBitsUptoSaid : Prop := whoBitsUptoRow.holds Try.pinned (OpenSpec.upto whoBitsSpec)

end Rows
end Go.Proofs.Ytkgakeknnfnjdaa
