/-
  CONTRACTS of package poly and bilgeref03 in the forms that the callers take.
-/
import Derived.Test.YtgemdnmcklpbkaaDoorPolyC
import Derived.Test.YtgemdnmcklpbkaaDoorPolyD
namespace Go.Proofs.YtgemdnmcklpbkaaDoor
open Go.RowKit

theorem rem_v (a : Option Addr) (n c : Nat) (f : Nat → Int) (r v : Int) (x : BitVec 16) (w : World) (ha : Holds .u8 w a n f) (hn : n ≤ 1000000) (hf : ∀ i, i < n → 0 ≤ f i ∧ f i < 256) (hr : r = vI x) (hv : vI (remV x f n) = v) :
    Calls Tryd.prog 20 #[.int .u16 r, .slice a n c] w fun e w' => e = .returned (.int .u16 v) ∧ Ext w w' := by
  subst hr; subst hv; exact rem_any a n c f x w ha hn hf
theorem rrem_v (a : Option Addr) (n c : Nat) (f : Nat → Int) (r v : Int) (x : BitVec 16) (w : World) (ha : Holds .u8 w a n f) (hn : n ≤ 1000000) (hf : ∀ i, i < n → 0 ≤ f i ∧ f i < 256) (hr : r = vI x) (hv : vI (remV x f n) = v) :
    Calls Tryd.prog 28 #[.int .u16 r, .slice a n c] w fun e w' => e = .returned (.int .u16 v) ∧ w = w' := by
  subst hr; subst hv; exact rrem_any a n c f x w ha hn hf
theorem pbyte_v (x : BitVec 16) (r b v : Int) (w : World) (h0 : 0 ≤ b) (h1 : b < 256) (hr : r = vI x) (hv : vI (byteV x b) = v) :
    Calls Tryd.prog 33 #[.int .u16 r, .int .u8 b] w fun e w' => e = .returned (.int .u16 v) ∧ w = w' := by
  subst hr; subst hv; exact pbyte_any x b w h0 h1
theorem rbyte_v (x : BitVec 16) (r b v : Int) (w : World) (h0 : 0 ≤ b) (h1 : b < 256) (hr : r = vI x) (hv : vI (byteV x b) = v) :
    Calls Tryd.prog 13 #[.int .u16 r, .int .u8 b] w fun e w' => e = .returned (.int .u16 v) ∧ w = w' := by
  subst hr; subst hv; exact rbyte_any x b w h0 h1
theorem pbit_c (x : BitVec 16) (r v : Int) (one : Bool) (w : World) (hr : r = vI x) (hv : vI (bitV x one) = v) :
    Calls Tryd.prog 35 #[.int .u16 r, .bool one] w fun e w' => e = .returned (.int .u16 v) ∧ w = w' := by
  subst hr; subst hv; exact pbit_any x one w
theorem rbit_c (x : BitVec 16) (r v : Int) (one : Bool) (w : World) (hr : r = vI x) (hv : vI (bitV x one) = v) :
    Calls Tryd.prog 25 #[.int .u16 r, .bool one] w fun e w' => e = .returned (.int .u16 v) ∧ w = w' := by
  subst hr; subst hv; exact rbit_any x one w
end Go.Proofs.YtgemdnmcklpbkaaDoor
