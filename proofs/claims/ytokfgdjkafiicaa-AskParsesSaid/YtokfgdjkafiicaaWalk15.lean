/-
  THE LAWS OF LAYER 15: AskParses' walk, and what opens the parameters.
-/
import Derived.Test.YtokfgdjkafiicaaLaw15B
import Derived.Test.YtokfgdjkafiicaaSure15
import Derived.Test.YtokfgdjkafiicaaAskIn
namespace Go.Proofs.Ytokfgdjkafiicaa
open Go.RowKit
set_option linter.unusedVariables false

theorem askParses.walk (a : Option Addr) (n c : Nat) (f : Nat → Int) (w : World) (ha : Holds .u8 w a n f) (hnc : n ≤ c) (hcr : c * 1 ≤ 140737488351232) (hwf : ∀ i, i < n → (Lit.int .u8 (f i)).wf = true) :
    Calls Try.prog 4 #[.slice a n c] w fun e w' => e = .returned (.bool true) ∧ Ext w w' :=
  askParses.walk0 a n c f w ha (by unfold maxLen; omega) hnc (by unfold maxLen; omega) (fun i hi => by have := hwf i hi; simp [Lit.wf, IntKind.min, IntKind.max, IntKind.signed, IntKind.bits] at this; omega) aparse_any sure15
end Go.Proofs.Ytokfgdjkafiicaa
