/-
  THE LAWS OF LAYER 18: the walks for whatever comes in (package diag's contracts as premises).
-/
import Derived.Test.YtchdgodmncckcaaLaw18C
namespace Go.Proofs.Ytchdgodmncckcaa
open Go.RowKit
set_option linter.unusedVariables false
set_option maxRecDepth 100000
variable {DS : World → Nat → (Nat → Prop) → Dia → Prop}

set_option maxHeartbeats 2000000 in
theorem diagDoes.walk0 (K : DiagC DS) (a : Option Addr) (n c : Nat) (L : List Dop) (w : World) (hL : L.length = n) (ha : HoldsL 3 dopL w a L) (hnc : n ≤ c) (hnz : n ≤ 1000000000000000) (hz : ∀ z ∈ L, DopAt w z) :
    Calls Try.prog 3 #[.slice a n c] w fun e w' => e = .returned (.bool true) ∧ Ext w w' := by
  by_cases hn : n ≤ 120
  · exact diagDoes.small K a n c L w ha hL hn hz
  · have hI : (120 : Int) < n := by omega
    have HK := Lib.hid K
    clear K hL ha hnc hnz hz hn
    go_enter Try.func3, Try.ntmps3
    go_wp2_with fail
    refine (sure18 HK.out _).mono ?_; rintro e w1 ⟨rfl, x1⟩
    go_wp2
    go_ret
    exact ⟨rfl, x1⟩
set_option maxHeartbeats 2000000 in
theorem diagEchoes.walk0 (K : DiagC DS) (a : Option Addr) (n c : Nat) (L : List Dop) (da : Option Addr) (dn dc : Nat) (f : Nat → Int) (w : World) (hL : L.length = n) (ha : HoldsL 3 dopL w a L) (hnc : n ≤ c) (hnz : n ≤ 1000000000000000) (hz : ∀ z ∈ L, DopAt w z)
    (hd : Holds .u8 w da dn f) (hdc : dn ≤ dc) (hdr : dc * 1 ≤ 140737488351232) (hwf : ∀ i, i < dn → (Lit.int .u8 (f i)).wf = true) :
    Calls Try.prog 4 #[.slice a n c, .slice da dn dc] w fun e w' => e = .returned (.bool true) ∧ Ext w w' := by
  have hf : ∀ i, i < dn → 0 ≤ f i ∧ f i < 256 := fun i hi => by have := hwf i hi; simp [Lit.wf, IntKind.min, IntKind.max, IntKind.signed, IntKind.bits] at this; omega
  by_cases hn : n ≤ 120
  · by_cases hm : dn ≤ 600
    · exact diagEchoes.small K a n c L da dn dc f w ha hL hn hz hd hm hdc (by unfold maxLen; omega) hf
    · have hI : ¬ (120 : Int) < n := by omega
      have hJ : (600 : Int) < dn := by omega
      have HK := Lib.hid K
      clear K hL ha hnc hnz hz hn hd hdc hdr hwf hf hm
      go_enter Try.func4, Try.ntmps4
      go_wp2_with fail
      refine (sure18 HK.out _).mono ?_; rintro e w1 ⟨rfl, x1⟩
      go_wp2
      go_ret
      exact ⟨rfl, x1⟩
  · have hI : (120 : Int) < n := by omega
    have HK := Lib.hid K
    clear K hL ha hnc hnz hz hn hd hdc hdr hwf hf
    go_enter Try.func4, Try.ntmps4
    go_wp2_with fail
    refine (sure18 HK.out _).mono ?_; rintro e w1 ⟨rfl, x1⟩
    go_wp2
    go_ret
    exact ⟨rfl, x1⟩
end Go.Proofs.Ytchdgodmncckcaa
