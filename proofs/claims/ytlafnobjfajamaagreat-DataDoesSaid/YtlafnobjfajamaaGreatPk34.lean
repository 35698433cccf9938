/-
  THE LAWS OF LAYER 17: DataDoes' walk, the contracts put in.
-/
import Derived.Test.YtlafnobjfajamaaGreatPk19
import Derived.Test.YtlafnobjfajamaaGreatPk28
import Derived.Test.YtlafnobjfajamaaGreatPk33
namespace Go.Proofs.YtlafnobjfajamaaGreat
open Go.RowKit
set_option linter.unusedVariables false

theorem dataDoes.walk (V : FilV) (F : Fil) (U : QstV) (Q : Qst) (w : World) (h : FilAt w V F) (hw : FilW F) (f1 : F.nC ≤ 1000000000000000) (f2 : F.nI ≤ 1000000000000000) (f3 : F.nH ≤ 1000000000000000) (f4 : F.nR ≤ 1000000000000000) (k : QstAt w U Q) (kq : QstW Q) (nb1 : Q.nb ≤ 1000000000000000) (nr1 : Q.nr ≤ 1000000000000000) :
    Calls Tryz.prog 3 #[.agg (filC V F), .agg (qstC U Q)] w fun e w' => e = .returned (.bool true) ∧ Ext w w' :=
  dataDoes.walk0 V F w h hw f1 f2 f3 f4 U Q k kq nb1 nr1 d17_do d17_code data_writes_c d17_sure
end Go.Proofs.YtlafnobjfajamaaGreat
