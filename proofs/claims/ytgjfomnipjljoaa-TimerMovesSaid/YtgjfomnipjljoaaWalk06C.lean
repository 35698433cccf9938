/-
  THE WALKS OF LAYER 6, as the frames want them: TimerMoves.
-/
import Derived.Test.YtgjfomnipjljoaaLaw06E
import Derived.Test.YtgjfomnipjljoaaOpen06
namespace Go.Proofs.Ytgjfomnipjljoaa
open Go.RowKit
theorem timerMoves.walk (a : Option Addr) (n c : Nat) (O : List (Int × Int × Int)) (kid kat : Int) (w : World) (ha : HoldsL 3 three w a O) (hO : O.length = n) (hn : n ≤ maxLen) (hw : Wf3 O) (h1 : (Lit.int .u8 kid).wf = true) (h2 : (Lit.int .u16 kat).wf = true) :
    Calls Try.prog 5 #[.slice a n c, .int .u8 kid, .int .u16 kat] w fun e w' => e = .returned (.bool true) ∧ Ext w w' := by
  simp [Lit.wf, IntKind.min, IntKind.max, IntKind.signed, IntKind.bits] at h1 h2
  exact timerMoves.any a n c O kid kat w ha hO hn hw (by omega) (by omega) (by omega) (by omega)
end Go.Proofs.Ytgjfomnipjljoaa
