/-
  THE LAWS OF LAYER 16: TellBack's walk, package tell's contracts put in.
-/
import Derived.Test.YtejiafihiielgaaLaw16C
import Derived.Test.YtejiafihiielgaaSure16
import Derived.Test.YtejiafihiielgaaTelIn
import Derived.Test.YtejiafihiielgaaTellF
namespace Go.Proofs.Ytejiafihiielgaa
open Go.RowKit
set_option linter.unusedVariables false

theorem tellBack.walk (V : QstV) (Q : Qst) (U : QstV) (T : Tel) (a : Option Addr) (n c : Nat) (f : Nat → Int) (w : World) (h : QstAt w V Q) (hq : QstW Q) (nb1 : Q.nb ≤ 1000000000000000) (nr1 : Q.nr ≤ 1000000000000000) (k : TelAt w U T) (kq : TelW T) (nb2 : T.nb ≤ 1000000000000000) (nr2 : T.nr ≤ 1000000000000000)
    (ha : Holds .u8 w a n f) (hnc : n ≤ c) (hcr : c * 1 ≤ 140737488351232) (hwf : ∀ i, i < n → (Lit.int .u8 (f i)).wf = true) :
    Calls Try.prog 5 #[.agg (qstC V Q), .agg (telC U T), .slice a n c] w fun e w' => e = .returned (.bool true) ∧ Ext w w' :=
  tellBack.walk0 V Q U T a n c f w h hq nb1 nr1 k kq nb2 nr2 ha hnc hcr hwf tprint_c tparse_c tright_c (fun w => sure16 w tprint_c tparse_c tright_c tsame_c tref_c)
end Go.Proofs.Ytejiafihiielgaa
