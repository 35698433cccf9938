/-
  THE LAWS OF LAYER 25: the walks for whatever comes in, at the landed package.
-/
import Derived.Test.YtebhalehgpigoaaSendD
import Derived.Test.YtebhalehgpigoaaLaw25C
namespace Go.Proofs.Ytebhalehgpigoaa
open Go.RowKit
set_option linter.unusedVariables false
theorem sendPlans.walk (a : Option Addr) (n cp : Nat) (f : Nat → Int) (T c s l u : Int) (w : World) (ha : Holds .u8 w a n f) (hnc : n ≤ cp) (hcr : cp * 1 ≤ 140737488351232) (hf : ∀ i, i < n → (Lit.int .u8 (f i)).wf = true) (wT : (Lit.int .i64 T).wf = true) (wc : (Lit.int .i64 c).wf = true) (ws : (Lit.int .i64 s).wf = true) (wl : (Lit.int .i64 l).wf = true) (wu : (Lit.int .i64 u).wf = true) :
    Calls Try.prog 3 #[.slice a n cp, .int .i64 T, .agg #[.int .i64 c, .int .i64 s, .int .i64 l, .int .i64 u]] w fun e w' => e = .returned (.bool true) ∧ Ext w w' := sendPlans.walk0 sendC a n cp f T c s l u w ha hnc hcr hf wT wc ws wl wu
theorem sendWhole.walk (a : Option Addr) (n cp : Nat) (f : Nat → Int) (T c s l u : Int) (w : World) (ha : Holds .u8 w a n f) (hnc : n ≤ cp) (hcr : cp * 1 ≤ 140737488351232) (hf : ∀ i, i < n → (Lit.int .u8 (f i)).wf = true) (wT : (Lit.int .i64 T).wf = true) (wc : (Lit.int .i64 c).wf = true) (ws : (Lit.int .i64 s).wf = true) (wl : (Lit.int .i64 l).wf = true) (wu : (Lit.int .i64 u).wf = true) :
    Calls Try.prog 4 #[.slice a n cp, .int .i64 T, .agg #[.int .i64 c, .int .i64 s, .int .i64 l, .int .i64 u]] w fun e w' => e = .returned (.bool true) ∧ Ext w w' := sendWhole.walk0 sendC a n cp f T c s l u w ha hnc hcr hf wT wc ws wl wu
end Go.Proofs.Ytebhalehgpigoaa
