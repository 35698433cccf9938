/-
  THE WALKS OF LAYER 7, as the frames want them: RingKeeps.
-/
import Derived.Test.YtlbcpndljnnhhaaOpen07
namespace Go.Proofs.Ytlbcpndljnnhhaa
open Go.RowKit
set_option maxRecDepth 100000 in
set_option maxHeartbeats 2000000 in
theorem ringKeeps.walk (room : Int) (a : Option Addr) (n c : Nat) (O : List (Int × Int)) (w : World) (hr : (Lit.int .i64 room).wf = true) (ha : HoldsL 2 kb w a O) (hO : O.length = n) (hn : n ≤ maxLen) (hw : WfKB O) :
    Calls Try.prog 3 #[.int .i64 room, .slice a n c] w fun e w' => e = .returned (.bool true) ∧ Ext w w' := by
  have hn' : n ≤ 9223372036854775807 := hn
  by_cases h300 : (300 : Int) < n
  · clear ha hO hw hr
    go_enter Try.func3, Try.ntmps3
    go_wp2_with fail
    refine (sure7_any _).mono ?_; rintro e w1 ⟨rfl, x1⟩
    go_wp2
    go_ret
    exact ⟨rfl, x1⟩
  · by_cases hin : 1 ≤ room ∧ room ≤ 64
    · obtain ⟨r, rfl⟩ : ∃ r : Nat, room = r := ⟨room.toNat, by omega⟩
      exact ringKeeps.in r a n c O w (by omega) (by omega) ha hO (by omega) hw
    · have HN := Lib.hid (fun w => gnew_no room w hr (by omega))
      clear ha hO hw hr
      rcases (show room < 1 ∨ (1 ≤ room ∧ 64 < room) by omega) with h1 | ⟨h1, h2⟩
      all_goals
        clear hin
        go_enter Try.func3, Try.ntmps3
        go_wp2_with fail
        refine (HN.out _).mono ?_; rintro e w1 ⟨rfl, x1⟩
        go_wp2_with fail
        refine (sure7_any _).mono ?_; rintro e w2 ⟨rfl, x2⟩
        have x3 := x1.trans x2
        clear x1 x2
        go_wp2
        go_ret
        exact ⟨rfl, x3⟩
end Go.Proofs.Ytlbcpndljnnhhaa
