/-
  THE LAWS OF LAYER 14: a loop's file.
-/
import Derived.Test.YtkfpnijacfeogaaFilIn
import Derived.Test.YtkfpnijacfeogaaBitsA
import Derived.Test.YtkfpnijacfeogaaRef01
namespace Go.Proofs.Ytkfpnijacfeogaa
open Go.RowKit
set_option linter.unusedVariables false

/-- A loop's file: in its box, which is the call's own. -/
structure KeepS (w wr : World) (g : Nat) (V : FilV) (M : Fil) : Prop where
  x : Ext w wr
  lo : w.heap.size ≤ g
  b : wr.heap[g]? = some (.cells (filC V M) 31 (0, 0))
  f : FilAt wr V M
  o : FilOff (fun i => i = g) V M
  s : Small M
theorem KeepS.ext {w wr wr' : World} {g : Nat} {V : FilV} {M : Fil} (h : KeepS w wr g V M) (x : Ext wr wr') : KeepS w wr' g V M := ⟨h.x.trans x, h.lo, x.block h.b, h.f.ext x, h.o, h.s⟩
theorem KeepS.set {w wr : World} {g : Nat} {V V' : FilV} {M M' : Fil} (h : KeepS w wr g V M) (hf : FilAt wr V' M') (ho : FilOff (fun i => i = g) V' M') (s : Small M') : KeepS w (wr.setRow g (filC V' M')) g V' M' :=
  ⟨below_setRow h.x h.lo _, h.lo, setRow_heap _ _ _ _ _ _ h.b, hf.keep (keepRow _ _ _) ho, ho, s⟩
/-- Bits, and words, held against their like. -/
theorem same_self (a b : Option Addr) (n c d : Nat) (f g : Nat → Bool) (w : World) (ha : HoldsG Value.bool w a n f) (hb : HoldsG Value.bool w b n g) (hn : n ≤ 1000000) (he : ∀ i, i < n → f i = g i) :
    Calls Try.prog 19 #[.slice a n c, .slice b n d] w fun e w' => e = .returned (.bool true) ∧ Ext w w' :=
  (same_any a b n n c d f g w ha hb hn hn).mono fun e w' h => ⟨by rw [h.1, eqG_true rfl he], Ext.of_drewN h.2⟩
theorem words_self (a b : Option Addr) (n c d : Nat) (f g : Nat → Int) (w : World) (ha : HoldsG (Value.int .u16) w a n f) (hb : HoldsG (Value.int .u16) w b n g) (hn : n ≤ 1000000) (he : ∀ i, i < n → f i = g i) :
    Calls Try.prog 20 #[.slice a n c, .slice b n d] w fun e w' => e = .returned (.bool true) ∧ Ext w w' :=
  (words_any a b n n c d f g w ha hb hn hn).mono fun e w' h => ⟨by rw [h.1, eqB_true rfl he], Ext.of_drewN h.2⟩
end Go.Proofs.Ytkfpnijacfeogaa
