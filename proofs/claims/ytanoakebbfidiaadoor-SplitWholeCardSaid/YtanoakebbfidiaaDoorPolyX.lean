/-
  CONTRACTS of package poly and bilgeref03 in the forms that the callers take.
-/
import Derived.Test.YtanoakebbfidiaaDoorPolyC
import Derived.Test.YtanoakebbfidiaaDoorPolyD
namespace Go.Proofs.YtanoakebbfidiaaDoor
open Go.RowKit

theorem rrem_v (a : Option Addr) (n c : Nat) (f : Nat → Int) (r v : Int) (x : BitVec 16) (w : World) (ha : Holds .u8 w a n f) (hn : n ≤ 1000000) (hf : ∀ i, i < n → 0 ≤ f i ∧ f i < 256) (hr : r = vI x) (hv : vI (remV x f n) = v) :
    Calls Tryd.prog 45 #[.int .u16 r, .slice a n c] w fun e w' => e = .returned (.int .u16 v) ∧ w = w' := by
  subst hr; subst hv; exact rrem_any a n c f x w ha hn hf
theorem rbyte_v (x : BitVec 16) (r b v : Int) (w : World) (h0 : 0 ≤ b) (h1 : b < 256) (hr : r = vI x) (hv : vI (byteV x b) = v) :
    Calls Tryd.prog 48 #[.int .u16 r, .int .u8 b] w fun e w' => e = .returned (.int .u16 v) ∧ w = w' := by
  subst hr; subst hv; exact rbyte_any x b w h0 h1
theorem rbit_c (x : BitVec 16) (r v : Int) (one : Bool) (w : World) (hr : r = vI x) (hv : vI (bitV x one) = v) :
    Calls Tryd.prog 52 #[.int .u16 r, .bool one] w fun e w' => e = .returned (.int .u16 v) ∧ w = w' := by
  subst hr; subst hv; exact rbit_any x one w
end Go.Proofs.YtanoakebbfidiaaDoor
