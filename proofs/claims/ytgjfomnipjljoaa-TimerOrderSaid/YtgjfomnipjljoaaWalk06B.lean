/-
  THE WALKS OF LAYER 6, as the frames want them: TimerOrder.
-/
import Derived.Test.YtgjfomnipjljoaaLaw06F
namespace Go.Proofs.Ytgjfomnipjljoaa
open Go.RowKit
theorem wf16 {z : Int} (h : (Lit.int .u16 z).wf = true) : 0 ≤ z ∧ z < 65536 := by
  simp [Lit.wf, IntKind.min, IntKind.max, IntKind.signed, IntKind.bits] at h; omega
theorem timerOrder.walk (a : Option Addr) (n c : Nat) (f : Nat → Int) (b : Option Addr) (m d : Nat) (g : Nat → Int) (w : World) (ha : Holds .u16 w a n f) (hc : n ≤ c) (hr : c * 2 ≤ 140737488351232) (hf : ∀ i, i < n → (Lit.int .u16 (f i)).wf = true) (hb : Holds .u16 w b m g) (hd : m ≤ d) (hs : d * 2 ≤ 140737488351232) (hg : ∀ i, i < m → (Lit.int .u16 (g i)).wf = true) :
    Calls Try.prog 4 #[.slice a n c, .slice b m d] w fun e w' => e = .returned (.bool true) ∧ Ext w w' :=
  timerOrder.any a b n m c d f g w ha hb (by unfold maxLen; omega) (by unfold maxLen; omega) (fun i hi => wf16 (hf i hi)) (fun i hi => wf16 (hg i hi))
end Go.Proofs.Ytgjfomnipjljoaa
