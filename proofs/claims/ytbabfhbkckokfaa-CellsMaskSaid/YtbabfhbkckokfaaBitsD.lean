/-
  CONTRACTS: bits.Unpack.
-/
import Derived.Test.YtbabfhbkckokfaaBitsC
import Derived.Deep.LoopGhost
import Derived.WalkMore
namespace Go.Proofs.Ytbabfhbkckokfaa
open Go.RowKit

end Go.Proofs.Ytbabfhbkckokfaa
