/-
  THE LAWS OF LAYER 19: the walks for whatever comes in, at the landed package.
-/
import Derived.Test.YtjbmmklgpjnbmaaEveP
import Derived.Test.YtjbmmklgpjnbmaaLaw19D
import Derived.Test.YtjbmmklgpjnbmaaEveIn
namespace Go.Proofs.Ytjbmmklgpjnbmaa
open Go.RowKit
set_option linter.unusedVariables false
theorem u16_wf19 {m : Int} (h : (Lit.int .u16 m).wf = true) : 0 ≤ m ∧ m < 65536 := by
  have := bounds_u16 h
  omega
theorem eventDoes.walk (a : Option Addr) (n c : Nat) (L : List Eop) (m : Int) (w : World) (hL : L.length = n) (ha : HoldsL 6 eopL w a L) (hnc : n ≤ c) (hnz : n ≤ 1000000000000000) (hz : ∀ z ∈ L, EopW z) (hm : (Lit.int .u16 m).wf = true) :
    Calls Try.prog 3 #[.slice a n c, .int .u16 m] w fun e w' => e = .returned (.bool true) ∧ Ext w w' := eventDoes.walk0 eventC a n c L m w hL ha hnc hnz hz (u16_wf19 hm).1 (u16_wf19 hm).2
theorem eventLong.walk (a : Option Addr) (n c : Nat) (L : List Eop) (m : Int) (w : World) (hL : L.length = n) (ha : HoldsL 6 eopL w a L) (hnc : n ≤ c) (hnz : n ≤ 1000000000000000) (hz : ∀ z ∈ L, EopW z) (hm : (Lit.int .u16 m).wf = true) :
    Calls Try.prog 4 #[.slice a n c, .int .u16 m] w fun e w' => e = .returned (.bool true) ∧ Ext w w' := eventLong.walk0 eventC a n c L m w hL ha hnc hnz hz (u16_wf19 hm).1 (u16_wf19 hm).2
end Go.Proofs.Ytjbmmklgpjnbmaa
