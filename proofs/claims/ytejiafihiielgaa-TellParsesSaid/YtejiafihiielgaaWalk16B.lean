/-
  THE LAWS OF LAYER 16: TellParses' walk, package tell's contracts put in.
-/
import Derived.Test.YtejiafihiielgaaLaw16B
import Derived.Test.YtejiafihiielgaaSure16
import Derived.Test.YtejiafihiielgaaTelIn
import Derived.Test.YtejiafihiielgaaTellF
namespace Go.Proofs.Ytejiafihiielgaa
open Go.RowKit
set_option linter.unusedVariables false

theorem tellParses.walk (V : QstV) (Q : Qst) (a : Option Addr) (n c : Nat) (f : Nat → Int) (w : World) (h : QstAt w V Q) (hq : QstW Q) (nb1 : Q.nb ≤ 1000000000000000) (nr1 : Q.nr ≤ 1000000000000000) (ha : Holds .u8 w a n f) (hnc : n ≤ c) (hcr : c * 1 ≤ 140737488351232) (hwf : ∀ i, i < n → (Lit.int .u8 (f i)).wf = true) :
    Calls Try.prog 4 #[.agg (qstC V Q), .slice a n c] w fun e w' => e = .returned (.bool true) ∧ Ext w w' :=
  tellParses.walk0 V Q a n c f w h hq nb1 nr1 ha hnc hcr hwf tparse_c (fun w => sure16 w tprint_c tparse_c tright_c tsame_c tref_c)
end Go.Proofs.Ytejiafihiielgaa
