/-
  THE WALKS OF LAYER 8, as the frames want them: TallyDoes.
-/
import Derived.Test.YtneekigkihbpiaaOpen08
import Derived.Test.YtneekigkihbpiaaLaw08C
namespace Go.Proofs.Ytneekigkihbpiaa
open Go.RowKit
set_option maxRecDepth 100000 in
set_option maxHeartbeats 2000000 in
theorem tallyDoes.walk (a : Option Addr) (n c : Nat) (O : List (Int × Int × Int)) (w : World) (ha : HoldsL 3 three w a O) (hO : O.length = n) (hn : n ≤ maxLen) (hw : Wf3 O) :
    Calls Try.prog 3 #[.slice a n c] w fun e w' => e = .returned (.bool true) ∧ Ext w w' := by
  have hn' : n ≤ 9223372036854775807 := hn
  by_cases h300 : (300 : Int) < n
  · clear ha hO hw
    go_enter Try.func3, Try.ntmps3
    go_wp2_with fail
    refine (sure8_any _).mono ?_; rintro e w1 ⟨rfl, x1⟩
    go_wp2
    go_ret
    exact ⟨rfl, x1⟩
  · exact tallyDoes.small a n c O w ha hO (by omega) hw
end Go.Proofs.Ytneekigkihbpiaa
