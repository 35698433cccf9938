/-
  THE LAWS OF LAYER 18: the walks for whatever comes in, at the landed package.
-/
import Derived.Test.YtchdgodmncckcaaDiaD
import Derived.Test.YtchdgodmncckcaaLaw18D
import Derived.Test.YtchdgodmncckcaaDiaIn
namespace Go.Proofs.Ytchdgodmncckcaa
open Go.RowKit
set_option linter.unusedVariables false
theorem diagDoes.walk (a : Option Addr) (n c : Nat) (L : List Dop) (w : World) (hL : L.length = n) (ha : HoldsL 3 dopL w a L) (hnc : n ≤ c) (hnz : n ≤ 1000000000000000) (hz : ∀ z ∈ L, DopAt w z) :
    Calls Try.prog 3 #[.slice a n c] w fun e w' => e = .returned (.bool true) ∧ Ext w w' := diagDoes.walk0 diagC a n c L w hL ha hnc hnz hz
theorem diagEchoes.walk (a : Option Addr) (n c : Nat) (L : List Dop) (da : Option Addr) (dn dc : Nat) (f : Nat → Int) (w : World) (hL : L.length = n) (ha : HoldsL 3 dopL w a L) (hnc : n ≤ c) (hnz : n ≤ 1000000000000000) (hz : ∀ z ∈ L, DopAt w z)
    (hd : Holds .u8 w da dn f) (hdc : dn ≤ dc) (hdr : dc * 1 ≤ 140737488351232) (hwf : ∀ i, i < dn → (Lit.int .u8 (f i)).wf = true) :
    Calls Try.prog 4 #[.slice a n c, .slice da dn dc] w fun e w' => e = .returned (.bool true) ∧ Ext w w' := diagEchoes.walk0 diagC a n c L da dn dc f w hL ha hnc hnz hz hd hdc hdr hwf
end Go.Proofs.Ytchdgodmncckcaa
