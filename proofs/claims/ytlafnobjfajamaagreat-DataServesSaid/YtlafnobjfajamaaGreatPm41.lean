/-
  THE LAWS OF LAYER 17: DataServes' walk, the contracts put in.
-/
import Derived.Test.YtlafnobjfajamaaGreatPm23
import Derived.Test.YtlafnobjfajamaaGreatPm35
import Derived.Test.YtlafnobjfajamaaGreatPm40
namespace Go.Proofs.YtlafnobjfajamaaGreat
open Go.RowKit
set_option linter.unusedVariables false

theorem dataServes.walk (V : FilV) (F : Fil) (a : Option Addr) (n c : Nat) (f : Nat → Int) (w : World) (h : FilAt w V F) (hw : FilW F) (f1 : F.nC ≤ 1000000000000000) (f2 : F.nI ≤ 1000000000000000) (f3 : F.nH ≤ 1000000000000000) (f4 : F.nR ≤ 1000000000000000) (ha : Holds .u8 w a n f) (hnc : n ≤ c) (hcr : c * 1 ≤ 140737488351232) (hwf : ∀ i, i < n → (Lit.int .u8 (f i)).wf = true) :
    Calls Tryz.prog 4 #[.agg (filC V F), .slice a n c] w fun e w' => e = .returned (.bool true) ∧ Ext w w' :=
  dataServes.walk0 V F w h hw f1 f2 f3 f4 a n c f ha hnc hcr hwf d17_serve d17_sure
end Go.Proofs.YtlafnobjfajamaaGreat
