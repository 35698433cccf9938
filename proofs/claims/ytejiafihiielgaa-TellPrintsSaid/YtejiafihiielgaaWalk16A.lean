/-
  THE LAWS OF LAYER 16: the walks, package tell's contracts put in (XTellZ: tprint_c, tparse_c, tright_c, tsame_c, tref_c).
-/
import Derived.Test.YtejiafihiielgaaLaw16A
import Derived.Test.YtejiafihiielgaaSure16
import Derived.Test.YtejiafihiielgaaTelIn
import Derived.Test.YtejiafihiielgaaTellF
namespace Go.Proofs.Ytejiafihiielgaa
open Go.RowKit
set_option linter.unusedVariables false

theorem tellPrints.walk (V : QstV) (Q : Qst) (U : QstV) (T : Tel) (U' : QstV) (R : Tel) (w : World) (h : QstAt w V Q) (hq : QstW Q) (nb1 : Q.nb ≤ 1000000000000000) (nr1 : Q.nr ≤ 1000000000000000) (k : TelAt w U T) (kq : TelW T) (nb2 : T.nb ≤ 1000000000000000) (nr2 : T.nr ≤ 1000000000000000)
    (k' : TelAt w U' R) (kq' : TelW R) (nb3 : R.nb ≤ 1000000000000000) (nr3 : R.nr ≤ 1000000000000000) :
    Calls Try.prog 3 #[.agg (qstC V Q), .agg (telC U T), .agg (telC U' R)] w fun e w' => e = .returned (.bool true) ∧ Ext w w' :=
  tellPrints.walk0 V Q U T U' R w h hq nb1 nr1 k kq nb2 nr2 k' kq' nb3 nr3 tprint_c tright_c tsame_c tref_c (fun w => sure16 w tprint_c tparse_c tright_c tsame_c tref_c)
end Go.Proofs.Ytejiafihiielgaa
