/-
  CONTRACTS: bilgeref03.Mix.
-/
import Derived.Test.YtanoakebbfidiaaDoorPolyB
import Derived.Deep.AppendLies
namespace Go.Proofs.YtanoakebbfidiaaDoor
open Go.RowKit

end Go.Proofs.YtanoakebbfidiaaDoor
