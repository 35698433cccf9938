/-
  THE LAWS OF LAYER 14: 'sure', and FileAny's walk, whole.
-/
import Derived.Test.YtkfpnijacfeogaaFilY
import Derived.Test.YtkfpnijacfeogaaFilZ
import Derived.Test.YtkfpnijacfeogaaFilX
import Derived.Test.YtkfpnijacfeogaaFilD
import Derived.Test.YtkfpnijacfeogaaFilIn
import Derived.Test.YtkfpnijacfeogaaSure14
import Derived.Test.YtkfpnijacfeogaaLaw14A
namespace Go.Proofs.Ytkfpnijacfeogaa
open Go.RowKit
set_option linter.unusedVariables false

theorem sure14_any (w : World) : Calls Try.prog 7 #[] w fun e w' => e = .returned (.bool true) ∧ Ext w w' := sure14_of fnew_c fright_c fwords_c fsetwords_c fsame_c fcopy_c w
theorem fileAny.walk (V : FilV) (F : Fil) (U : FilV) (G : Fil) (X : OpeV) (o : Ope) (w : World) (hf : FilAt w V F) (b1 : F.nC ≤ 1000000000000000) (b2 : F.nI ≤ 1000000000000000) (b3 : F.nH ≤ 1000000000000000) (b4 : F.nR ≤ 1000000000000000)
    (hg : FilAt w U G) (c1 : G.nC ≤ 1000000000000000) (c2 : G.nI ≤ 1000000000000000) (c3 : G.nH ≤ 1000000000000000) (c4 : G.nR ≤ 1000000000000000) (ho : OpeAt w X o) (hw : OpeW o) (d1 : o.nb ≤ 1000000000000000) (d2 : o.nr ≤ 1000000000000000) :
    Calls Try.prog 4 #[.agg (filC V F), .agg (filC U G), .agg (opeC X o)] w fun e w' => e = .returned (.bool true) ∧ Ext w w' :=
  fileAny.walk0 V F U G X o w hf hg ho hw ⟨b1, b2, b3, b4⟩ ⟨c1, c2, c3, c4⟩ d1 d2 fright_c fbits_c fsetwords_c fsense_c fsame_c fcopy_c sure14_any
end Go.Proofs.Ytkfpnijacfeogaa
