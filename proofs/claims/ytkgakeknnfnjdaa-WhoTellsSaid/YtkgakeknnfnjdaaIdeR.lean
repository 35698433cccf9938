/-
  CONTRACTS: bilgeref21 (layer 21): size, Right, Same.
-/
import Derived.Test.YtkgakeknnfnjdaaIde
namespace Go.Proofs.Ytkgakeknnfnjdaa
open Go.RowKit
set_option linter.unusedVariables false
set_option maxRecDepth 100000

theorem lenO_drop {L : List Ob} {k : Nat} (hk : k < L.length) : lenO (L.drop k) = 2 + (L[k]).n + lenO (L.drop (k + 1)) := by
  rw [List.drop_eq_getElem_cons hk]; rfl
theorem allD_drop {L : List Ob} {k : Nat} (hk : k < L.length) : allD (L.drop k) = (okD L[k] && allD (L.drop (k + 1))) := by
  rw [List.drop_eq_getElem_cons hk]; rfl
end Go.Proofs.Ytkgakeknnfnjdaa
