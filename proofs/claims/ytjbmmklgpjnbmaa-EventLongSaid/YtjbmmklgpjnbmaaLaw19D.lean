/-
  THE LAWS OF LAYER 19: the walks for whatever comes in (package event's contracts as premises).
-/
import Derived.Test.YtjbmmklgpjnbmaaLaw19C
namespace Go.Proofs.Ytjbmmklgpjnbmaa
open Go.RowKit
set_option linter.unusedVariables false
set_option maxRecDepth 100000
variable {ES : World → Nat → (Nat → Prop) → Eve → Prop}

set_option maxHeartbeats 2000000 in
theorem eventDoes.walk0 (K : EventC ES) (a : Option Addr) (n c : Nat) (L : List Eop) (m : Int) (w : World) (hL : L.length = n) (ha : HoldsL 6 eopL w a L) (hnc : n ≤ c) (hnz : n ≤ 1000000000000000) (hz : ∀ z ∈ L, EopW z) (m0 : 0 ≤ m) (m1 : m < 65536) :
    Calls Try.prog 3 #[.slice a n c, .int .u16 m] w fun e w' => e = .returned (.bool true) ∧ Ext w w' := by
  by_cases hn : n ≤ 300
  · exact eventDoes.small K a n c L m w ha hL hn hz m0 m1
  · have hI : (300 : Int) < n := by omega
    have HK := Lib.hid K
    clear K hL ha hnc hnz hz hn m0 m1
    go_enter Try.func3, Try.ntmps3
    go_wp2_with fail
    refine (sure19 HK.out _).mono ?_; rintro e w1 ⟨rfl, x1⟩
    go_wp2
    go_ret
    exact ⟨rfl, x1⟩
set_option maxHeartbeats 2000000 in
theorem eventLong.walk0 (K : EventC ES) (a : Option Addr) (n c : Nat) (L : List Eop) (m : Int) (w : World) (hL : L.length = n) (ha : HoldsL 6 eopL w a L) (hnc : n ≤ c) (hnz : n ≤ 1000000000000000) (hz : ∀ z ∈ L, EopW z) (m0 : 0 ≤ m) (m1 : m < 65536) :
    Calls Try.prog 4 #[.slice a n c, .int .u16 m] w fun e w' => e = .returned (.bool true) ∧ Ext w w' := by
  by_cases hn : n ≤ 300
  · exact eventLong.small K a n c L m w ha hL hn hz m0 m1
  · have hI : (300 : Int) < n := by omega
    have HK := Lib.hid K
    clear K hL ha hnc hnz hz hn m0 m1
    go_enter Try.func4, Try.ntmps4
    go_wp2_with fail
    refine (sure19 HK.out _).mono ?_; rintro e w1 ⟨rfl, x1⟩
    go_wp2
    go_ret
    exact ⟨rfl, x1⟩
end Go.Proofs.Ytjbmmklgpjnbmaa
