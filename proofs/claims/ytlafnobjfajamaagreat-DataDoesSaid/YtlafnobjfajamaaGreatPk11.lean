/-
  CONTRACTS: bits.Tidy, bilgeref02.Tidy; bits.Unpack, bilgeref02.Unpack.
-/
import Derived.Test.YtlafnobjfajamaaGreatPk10
import Derived.Deep.RegionHeld3
import Derived.Deep.RegionWith
import Derived.Deep.AppendLies
import Derived.StillTailTactics
namespace Go.Proofs.YtlafnobjfajamaaGreat
open Go.RowKit

end Go.Proofs.YtlafnobjfajamaaGreat
