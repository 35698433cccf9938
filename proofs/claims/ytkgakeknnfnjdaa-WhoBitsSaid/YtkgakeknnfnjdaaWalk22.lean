/-
  THE LAWS OF LAYER 22: the walks for whatever comes in, at the landed package.
-/
import Derived.Test.YtkgakeknnfnjdaaWhoB
import Derived.Test.YtkgakeknnfnjdaaLaw22D
import Derived.Test.YtkgakeknnfnjdaaFilIn
namespace Go.Proofs.Ytkgakeknnfnjdaa
open Go.RowKit
set_option linter.unusedVariables false
theorem whoBack.walk (a : Option Addr) (n c : Nat) (f : Nat → Int) (r : Bool) (b : Option Addr) (m d : Nat) (g : Nat → Int) (w : World) (ha : Holds .u8 w a n f) (hnc : n ≤ c) (hcr : c * 1 ≤ 140737488351232) (hf : ∀ i, i < n → (Lit.int .u8 (f i)).wf = true) (hb : Holds .u8 w b m g) (hmd : m ≤ d) (hdr : d * 1 ≤ 140737488351232) (hg : ∀ i, i < m → (Lit.int .u8 (g i)).wf = true) :
    Calls Try.prog 4 #[.slice a n c, .bool r, .slice b m d] w fun e w' => e = .returned (.bool true) ∧ Ext w w' := whoBack.walk0 whoC a b n c m d f g r w ha hnc hcr hf hb hmd hdr hg
theorem whoBits.walk (V : FilV) (F : Fil) (x : Int) (w : World) (hf : FilAt w V F) (h1 : F.nC ≤ 1000000000000000) (h2 : F.nI ≤ 1000000000000000) (h3 : F.nH ≤ 1000000000000000) (h4 : F.nR ≤ 1000000000000000) (wx : (Lit.int .i64 x).wf = true) :
    Calls Try.prog 5 #[.agg (filC V F), .int .i64 x] w fun e w' => e = .returned (.bool true) ∧ Ext w w' := whoBits.walk0 whoC fright_c fbits_c V F x w hf h1 h2 h3 h4 wx
theorem whoTells.walk (V : FilV) (F : Fil) (x : Int) (a : Option Addr) (n c : Nat) (f : Nat → Int) (w : World) (hf : FilAt w V F) (h1 : F.nC ≤ 1000000000000000) (h2 : F.nI ≤ 1000000000000000) (h3 : F.nH ≤ 1000000000000000) (h4 : F.nR ≤ 1000000000000000) (wx : (Lit.int .i64 x).wf = true) (ha : Holds .u8 w a n f) (hnc : n ≤ c) (hcr : c * 1 ≤ 140737488351232) (hwf : ∀ i, i < n → (Lit.int .u8 (f i)).wf = true) :
    Calls Try.prog 3 #[.agg (filC V F), .int .i64 x, .slice a n c] w fun e w' => e = .returned (.bool true) ∧ Ext w w' := whoTells.walk0 whoC V F x a n c f w hf h1 h2 h3 h4 wx ha hnc hcr
end Go.Proofs.Ytkgakeknnfnjdaa
