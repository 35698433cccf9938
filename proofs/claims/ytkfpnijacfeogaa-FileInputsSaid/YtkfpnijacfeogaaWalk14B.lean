/-
  THE LAWS OF LAYER 14: FileInputs' walk, whole.
-/
import Derived.Test.YtkfpnijacfeogaaWalk14A
import Derived.Test.YtkfpnijacfeogaaLaw14B
namespace Go.Proofs.Ytkfpnijacfeogaa
open Go.RowKit
set_option linter.unusedVariables false

theorem fileInputs.walk (F : Fil) (p q u v : Int) (w : World) (hp : (Lit.int .u8 p).wf = true) (hq : (Lit.int .u8 q).wf = true) (wu : (Lit.int .i64 u).wf = true) (wv : (Lit.int .i64 v).wf = true) :
    Calls Try.prog 6 #[.agg (bnkC F), .agg #[.int .u8 p, .int .u8 q], .agg #[.int .i64 u, .int .i64 v]] w fun e w' => e = .returned (.bool true) ∧ Ext w w' :=
  fileInputs.walk0 F p q u v w (by simp [Lit.wf, IntKind.min, IntKind.max, IntKind.signed, IntKind.bits] at hp; omega) (by simp [Lit.wf, IntKind.min, IntKind.max, IntKind.signed, IntKind.bits] at hq; omega) wu wv fnew_c fsense_c fsetwords_c fsame_c fwords_c fbits_c sure14_any
end Go.Proofs.Ytkfpnijacfeogaa
