/-
  THE WALKS OF LAYER 8, as the frames want them: TallySums.
-/
import Derived.Test.YtneekigkihbpiaaOpen08
namespace Go.Proofs.Ytneekigkihbpiaa
open Go.RowKit
set_option maxRecDepth 100000 in
set_option maxHeartbeats 2000000 in
theorem tallySums.walk (a : Option Addr) (n c : Nat) (O : List (Int × Int × Int)) (which : Int) (w : World) (ha : HoldsL 3 three w a O) (hO : O.length = n) (hn : n ≤ maxLen) (hw : Wf3 O) (h1 : (Lit.int .u8 which).wf = true) :
    Calls Try.prog 4 #[.slice a n c, .int .u8 which] w fun e w' => e = .returned (.bool true) ∧ Ext w w' := by
  have hn' : n ≤ 9223372036854775807 := hn
  by_cases h300 : (300 : Int) < n
  · clear ha hO hw h1
    go_enter Try.func4, Try.ntmps4
    go_wp2_with fail
    refine (sure8_any _).mono ?_; rintro e w1 ⟨rfl, x1⟩
    go_wp2
    go_ret
    exact ⟨rfl, x1⟩
  · simp [Lit.wf, IntKind.min, IntKind.max, IntKind.signed, IntKind.bits] at h1
    exact tallySums.small a n c O which w ha hO (by omega) hw (by omega) (by omega)
end Go.Proofs.Ytneekigkihbpiaa
