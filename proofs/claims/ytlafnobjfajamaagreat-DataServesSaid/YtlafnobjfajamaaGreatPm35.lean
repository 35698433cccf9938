/-
  CONTRACTS: package data (layer 17) as it landed: Do, Code, Serve; and what must come whatever the input is.
-/
import Derived.Test.YtlafnobjfajamaaGreatPm26
import Derived.Test.YtlafnobjfajamaaGreatPm30
import Derived.Test.YtlafnobjfajamaaGreatPm31
import Derived.Test.YtlafnobjfajamaaGreatPm33
import Derived.Test.YtlafnobjfajamaaGreatPm34
namespace Go.Proofs.YtlafnobjfajamaaGreat
open Go.RowKit
set_option linter.unusedVariables false

theorem d17_do : DDoC 12 := ddo_c fright_c aright_any fcopy_c (fun k h w => execution_v fbits_c fwords_c fsetbits_c fsetwords_c cmask_c k h w)
theorem d17_code : DCodeC 13 := dcode_c d17_do
theorem d17_serve : DServeC 21 := dserve_c fright_c fcopy_c aparse_any d17_do tprint_c tref_c
theorem d17_sure (w : World) : Calls Tryz.prog 11 #[] w fun e w' => e = .returned (.bool true) ∧ Ext w w' := sure17 w fnew_c d17_serve data_writes_c d17_code
end Go.Proofs.YtlafnobjfajamaaGreat
