/-
  CONTRACTS: bilgeref03.Mix.
-/
import Derived.Test.YtgemdnmcklpbkaaDoorPolyB
import Derived.Deep.AppendLies
namespace Go.Proofs.YtgemdnmcklpbkaaDoor
open Go.RowKit

end Go.Proofs.YtgemdnmcklpbkaaDoor
