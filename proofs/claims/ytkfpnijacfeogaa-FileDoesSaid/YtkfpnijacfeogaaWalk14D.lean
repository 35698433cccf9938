/-
  THE LAWS OF LAYER 14: FileDoes' walk, whole.
-/
import Derived.Test.YtkfpnijacfeogaaWalk14A
import Derived.Test.YtkfpnijacfeogaaLaw14D
namespace Go.Proofs.Ytkfpnijacfeogaa
open Go.RowKit
set_option linter.unusedVariables false

theorem fileDoes.walk (F : Fil) (a : Option Addr) (n cap : Nat) (L : List (OpeV × Ope)) (w : World) (hLen : L.length = n) (ha : HoldsL 6 opeL w a L) (hnc : n ≤ cap) (hn : n ≤ 1000000000000000) (hz : ∀ z ∈ L, OpeAt w z.1 z.2 ∧ OpeW z.2 ∧ z.2.nb ≤ 1000000000000000 ∧ z.2.nr ≤ 1000000000000000) :
    Calls Try.prog 3 #[.agg (bnkC F), .slice a n cap] w fun e w' => e = .returned (.bool true) ∧ Ext w w' :=
  fileDoes.walk0 F a n cap L w hLen ha hnc hn hz fnew_c fright_c fsetbits_c fsetwords_c fsense_c fcopy_c fwords_c fbits_c sure14_any
end Go.Proofs.Ytkfpnijacfeogaa
