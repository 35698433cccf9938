/-
  THE LAWS OF LAYER 6: TimerOrder whatever comes in.
-/
import Derived.Test.YtgjfomnipjljoaaLaw06D
namespace Go.Proofs.Ytgjfomnipjljoaa
open Go.RowKit

set_option maxRecDepth 100000 in
set_option maxHeartbeats 2000000 in
theorem timerOrder.any (a b : Option Addr) (n m c d : Nat) (f g : Nat → Int) (w : World) (ha : Holds .u16 w a n f) (hb : Holds .u16 w b m g) (hn : n ≤ maxLen) (hm : m ≤ maxLen) (hf : ∀ i, i < n → 0 ≤ f i ∧ f i < 65536) (hg : ∀ i, i < m → 0 ≤ g i ∧ g i < 65536) :
    Calls Try.prog 4 #[.slice a n c, .slice b m d] w fun e w' => e = .returned (.bool true) ∧ Ext w w' := by
  by_cases h : n ≤ 200 ∧ m ≤ 60
  · exact timerOrder.small a b n m c d f g w ha hb h.1 h.2 hf hg
  · have hn' : n ≤ 9223372036854775807 := hn
    have hm' : m ≤ 9223372036854775807 := hm
    clear ha hb hf hg
    rcases (show (200 : Int) < n ∨ (¬ (200 : Int) < n ∧ (60 : Int) < m) by omega) with h1 | ⟨h1, h2⟩
    all_goals
      clear h
      go_enter Try.func4, Try.ntmps4
      go_wp2_with fail
      refine (sure6_any _).mono ?_; rintro e w1 ⟨rfl, x1⟩
      go_wp2
      go_ret
      exact ⟨rfl, x1⟩
end Go.Proofs.Ytgjfomnipjljoaa
