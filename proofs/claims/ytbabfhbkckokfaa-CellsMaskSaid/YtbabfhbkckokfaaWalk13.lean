/-
  THE LAWS OF LAYER 13: the four walks, whole (package cells' contracts: XCells).
-/
import Derived.Test.YtbabfhbkckokfaaCells
import Derived.Test.YtbabfhbkckokfaaCellsIn
import Derived.Test.YtbabfhbkckokfaaOpen11
import Derived.Test.YtbabfhbkckokfaaLaw13A
import Derived.Test.YtbabfhbkckokfaaLaw13C
import Derived.Test.YtbabfhbkckokfaaSure13
namespace Go.Proofs.Ytbabfhbkckokfaa
open Go.RowKit
set_option linter.unusedVariables false

theorem sure13_any (w : World) : Calls Try.prog 7 #[] w fun e w' => e = .returned (.bool true) ∧ Ext w w' := sure13_of cwords_c csetwords_c csetbits_c cmask_c w
theorem cellsMask.walk (p q r : Int) (w : World) (hp : (Lit.int .u16 p).wf = true) (hq : (Lit.int .u16 q).wf = true) (hr : (Lit.int .u16 r).wf = true) :
    Calls Try.prog 6 #[.int .u16 p, .int .u16 q, .int .u16 r] w fun e w' => e = .returned (.bool true) ∧ Ext w w' := cellsMask.walk0 p q r w hp hq hr cmask_c sure13_any
theorem cellsBits.walk (f c x k : Int) (a : Option Addr) (n ca : Nat) (l : Nat → Bool) (b : Option Addr) (m cb : Nat) (u : Nat → Bool) (w : World)
    (ha : HoldsG Value.bool w a n l) (hna : n ≤ ca) (hca : ca * 1 ≤ 140737488351232) (hb : HoldsG Value.bool w b m u) (hmb : m ≤ cb) (hcb : cb * 1 ≤ 140737488351232)
    (wf : (Lit.int .i64 f).wf = true) (wc : (Lit.int .i64 c).wf = true) (wx : (Lit.int .i64 x).wf = true) (wk : (Lit.int .i64 k).wf = true) :
    Calls Try.prog 3 #[.agg #[.int .i64 f, .int .i64 c, .slice a n ca, .slice b m cb, .int .i64 x, .int .i64 k]] w fun e w' => e = .returned (.bool true) ∧ Ext w w' :=
  cellsBits.walk0 f c x k a n ca l b m cb u w ha hna (by omega) hb hmb (by omega) wx wk cbits_c csetbits_c sure13_any
theorem cellsWords.walk (f c x k : Int) (a : Option Addr) (n ca : Nat) (l : Nat → Int) (b : Option Addr) (m cb : Nat) (u : Nat → Int) (p q r : Int) (w : World)
    (ha : Holds .u16 w a n l) (hna : n ≤ ca) (hca : ca * 2 ≤ 140737488351232) (hl : ∀ i, i < n → (Lit.int .u16 (l i)).wf = true) (hb : Holds .u16 w b m u) (hmb : m ≤ cb) (hcb : cb * 2 ≤ 140737488351232) (hu : ∀ i, i < m → (Lit.int .u16 (u i)).wf = true)
    (wf : (Lit.int .i64 f).wf = true) (wc : (Lit.int .i64 c).wf = true) (wx : (Lit.int .i64 x).wf = true) (wk : (Lit.int .i64 k).wf = true)
    (hp : (Lit.int .u16 p).wf = true) (hq : (Lit.int .u16 q).wf = true) (hr : (Lit.int .u16 r).wf = true) :
    Calls Try.prog 4 #[.agg #[.int .i64 f, .int .i64 c, .slice a n ca, .slice b m cb, .int .i64 x, .int .i64 k], .agg #[.int .u16 p, .int .u16 q, .int .u16 r]] w fun e w' => e = .returned (.bool true) ∧ Ext w w' := by
  have bd : ∀ z, (Lit.int .u16 z).wf = true → 0 ≤ z ∧ z < 65536 := fun z h => by
    simp [Lit.wf, IntKind.min, IntKind.max, IntKind.signed, IntKind.bits] at h; omega
  obtain ⟨p, rfl⟩ := vM_of (bd p hp).1 (bd p hp).2
  obtain ⟨q, rfl⟩ := vM_of (bd q hq).1 (bd q hq).2
  obtain ⟨r, rfl⟩ := vM_of (bd r hr).1 (bd r hr).2
  exact cellsWords.walk0 f c x k a n ca l b m cb u p q r w ha hna (by omega) hb hmb (by omega) wx wk cwords_c csetwords_c cmask_c sure13_any
theorem cellsBack.walk (f c x k : Int) (a : Option Addr) (n ca : Nat) (l : Nat → Int) (b : Option Addr) (m cb : Nat) (u : Nat → Int)
    (f' c' x' k' : Int) (a' : Option Addr) (n' ca' : Nat) (l' : Nat → Bool) (b' : Option Addr) (m' cb' : Nat) (u' : Nat → Bool) (w : World)
    (ha : Holds .u16 w a n l) (hna : n ≤ ca) (hca : ca * 2 ≤ 140737488351232) (hl : ∀ i, i < n → (Lit.int .u16 (l i)).wf = true) (hb : Holds .u16 w b m u) (hmb : m ≤ cb) (hcb : cb * 2 ≤ 140737488351232) (hu : ∀ i, i < m → (Lit.int .u16 (u i)).wf = true)
    (wf : (Lit.int .i64 f).wf = true) (wc : (Lit.int .i64 c).wf = true) (wx : (Lit.int .i64 x).wf = true) (wk : (Lit.int .i64 k).wf = true)
    (ha' : HoldsG Value.bool w a' n' l') (hna' : n' ≤ ca') (hca' : ca' * 1 ≤ 140737488351232) (hb' : HoldsG Value.bool w b' m' u') (hmb' : m' ≤ cb') (hcb' : cb' * 1 ≤ 140737488351232)
    (wf' : (Lit.int .i64 f').wf = true) (wc' : (Lit.int .i64 c').wf = true) (wx' : (Lit.int .i64 x').wf = true) (wk' : (Lit.int .i64 k').wf = true) :
    Calls Try.prog 5 #[.agg #[.int .i64 f, .int .i64 c, .slice a n ca, .slice b m cb, .int .i64 x, .int .i64 k], .agg #[.int .i64 f', .int .i64 c', .slice a' n' ca', .slice b' m' cb', .int .i64 x', .int .i64 k']] w fun e w' => e = .returned (.bool true) ∧ Ext w w' :=
  cellsBack.walk0 f c x k a n ca l b m cb u f' c' x' k' a' n' ca' l' b' m' cb' u' w ha hna (by omega) hb hmb (by omega) wx ha' hna' (by omega) hb' hmb' (by omega) wx' cwords_c csetwords_c cbits_c csetbits_c sure13_any
end Go.Proofs.Ytbabfhbkckokfaa
