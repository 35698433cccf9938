/-
  CONTRACTS of package bits and of bilgeref02 in the forms that the callers take: whatever the number.
-/
import Derived.Test.YtbabfhbkckokfaaBitsD
namespace Go.Proofs.Ytbabfhbkckokfaa
open Go.RowKit

def unE (m : Nat) (n : Int) : Int := if n < 0 then 11 else if (m : Int) < szI n then 12 else if szI n < (m : Int) then 13 else 0
def unN (m : Nat) (n : Int) : Nat := if unE m n = 0 then n.toNat else 0
theorem unE_zero {m : Nat} {n : Int} : unE m n = 0 ↔ 0 ≤ n ∧ (m : Int) = szI n := by unfold unE; split <;> (try split) <;> (try split) <;> omega
theorem unE_bd (m : Nat) (n : Int) : 0 ≤ unE m n ∧ unE m n ≤ 13 := by unfold unE; split <;> (try split) <;> (try split) <;> omega
theorem unN_le {m : Nat} {n : Int} : unN m n ≤ 8 * m := by
  unfold unN; split
  · rename_i h; have := unE_zero.1 h; unfold szI at this; split at this <;> omega
  · omega
theorem same_eq (a b : Option Addr) (n m c d : Nat) (f g : Nat → Bool) (w : World) (ha : HoldsG Value.bool w a n f) (hb : HoldsG Value.bool w b m g) (hn : n ≤ 1000000) (e : n = m ∧ ∀ i, i < n → f i = g i) :
    Calls Try.prog 12 #[.slice a n c, .slice b m d] w fun e w' => e = .returned (.bool true) ∧ Ext w w' := by
  obtain ⟨rfl, e⟩ := e
  exact (same_any a b n n c d f g w ha hb hn hn).mono fun _ _ h => ⟨by rw [h.1, eqG_true rfl e], Ext.of_drewN h.2⟩
end Go.Proofs.Ytbabfhbkckokfaa
