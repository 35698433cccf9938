/-
  THE WALKS OF LAYER 6, as the frames want them: TimerDoes.
-/
import Derived.Test.YtgjfomnipjljoaaOpen06
namespace Go.Proofs.Ytgjfomnipjljoaa
open Go.RowKit
theorem timerDoes.walk (a : Option Addr) (n c : Nat) (O : List (Int × Int × Int)) (w : World) (ha : HoldsL 3 three w a O) (hO : O.length = n) (hn : n ≤ maxLen) (hw : Wf3 O) :
    Calls Try.prog 3 #[.slice a n c] w fun e w' => e = .returned (.bool true) ∧ Ext w w' := timerDoes.any a n c O w ha hO hn hw
end Go.Proofs.Ytgjfomnipjljoaa
