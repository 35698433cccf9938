/-
  THE LAWS OF LAYER 16: TellOther's walk, package tell's contracts put in.
-/
import Derived.Test.YtejiafihiielgaaLaw16D
import Derived.Test.YtejiafihiielgaaSure16
import Derived.Test.YtejiafihiielgaaTelIn
import Derived.Test.YtejiafihiielgaaTellF
namespace Go.Proofs.Ytejiafihiielgaa
open Go.RowKit
set_option linter.unusedVariables false

theorem tellOther.walk (V : QstV) (Q : Qst) (V' : QstV) (R : Qst) (U : QstV) (T : Tel) (w : World) (h : QstAt w V Q) (hq : QstW Q) (nb1 : Q.nb ≤ 1000000000000000) (nr1 : Q.nr ≤ 1000000000000000) (h' : QstAt w V' R) (hq' : QstW R) (nb2 : R.nb ≤ 1000000000000000) (nr2 : R.nr ≤ 1000000000000000)
    (k : TelAt w U T) (kq : TelW T) (nb3 : T.nb ≤ 1000000000000000) (nr3 : T.nr ≤ 1000000000000000) :
    Calls Try.prog 6 #[.agg (qstC V Q), .agg (qstC V' R), .agg (telC U T)] w fun e w' => e = .returned (.bool true) ∧ Ext w w' :=
  tellOther.walk0 V Q V' R U T w h hq nb1 nr1 h' hq' nb2 nr2 k kq nb3 nr3 tprint_c tparse_c tright_c tsame_c (fun w => sure16 w tprint_c tparse_c tright_c tsame_c tref_c)
end Go.Proofs.Ytejiafihiielgaa
