/-
  THE LAWS OF LAYER 17: DataSwaps' walk, the contracts put in.
-/
import Derived.Test.YtlafnobjfajamaaGreatPk41
import Derived.Test.YtlafnobjfajamaaGreatPk28
import Derived.Test.YtlafnobjfajamaaGreatPk33
import Derived.Test.YtlafnobjfajamaaGreatPk24
namespace Go.Proofs.YtlafnobjfajamaaGreat
open Go.RowKit
set_option linter.unusedVariables false

theorem dataSwaps.walk (V : FilV) (F : Fil) (U : QstV) (A : Qst) (T : QstV) (B : Qst) (w : World) (h : FilAt w V F) (hw : FilW F) (f1 : F.nC ≤ 1000000000000000) (f2 : F.nI ≤ 1000000000000000) (f3 : F.nH ≤ 1000000000000000) (f4 : F.nR ≤ 1000000000000000) (k1 : QstAt w U A) (kw1 : QstW A) (nb1 : A.nb ≤ 1000000000000000) (nr1 : A.nr ≤ 1000000000000000) (k2 : QstAt w T B) (kw2 : QstW B) (nb2 : B.nb ≤ 1000000000000000) (nr2 : B.nr ≤ 1000000000000000) :
    Calls Tryz.prog 8 #[.agg (filC V F), .agg (qstC U A), .agg (qstC T B)] w fun e w' => e = .returned (.bool true) ∧ Ext w w' :=
  dataSwaps.walk0 V F w h hw f1 f2 f3 f4 U A k1 kw1 nb1 nr1 T B k2 kw2 nb2 nr2 d17_do data_writes_c fsame_c d17_sure
end Go.Proofs.YtlafnobjfajamaaGreat
