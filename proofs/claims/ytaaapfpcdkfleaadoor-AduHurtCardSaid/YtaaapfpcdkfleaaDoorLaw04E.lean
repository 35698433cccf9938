/-
  THE LAWS OF LAYER 4: the walk of CrcBursts.
-/
import Derived.Test.YtaaapfpcdkfleaaDoorLaw04G
namespace Go.Proofs.YtaaapfpcdkfleaaDoor
open Go.RowKit

/-- The bits that are turned behind j rounds. -/
def burst (k : Nat) (T : Nat) (j : Nat) : Nat → Bool := fun t => decide (k ≤ t) && decide (t < k + j) && T.testBit (t - k)
theorem burst_no (k T t : Nat) : burst k T 0 t = false := by
  unfold burst
  by_cases h : k ≤ t
  · rw [decide_eq_false (show ¬ t < k + 0 by omega)]; simp
  · rw [decide_eq_false h]; simp
theorem burst_at {k T j : Nat} : burst k T j (k + j) = false := by unfold burst; rw [decide_eq_false (show ¬ k + j < k + j by omega)]; simp
theorem burst_set {k T j : Nat} (h : T.testBit j = true) : burst k T (j + 1) = upd (burst k T j) (k + j) true := by
  funext t
  by_cases e : t = k + j
  · subst e; rw [upd_same]; unfold burst; rw [show k + j - k = j from by omega, h, decide_eq_true (by omega), decide_eq_true (by omega)]; rfl
  · rw [upd_other _ _ _ _ e]; unfold burst; rw [show decide (t < k + (j + 1)) = decide (t < k + j) from decide_eq_decide.2 (by omega)]
theorem burst_skip {k T j : Nat} (h : T.testBit j = false) : burst k T (j + 1) = burst k T j := by
  funext t
  by_cases e : t = k + j
  · subst e; unfold burst; rw [show k + j - k = j from by omega, h]; simp
  · unfold burst; rw [show decide (t < k + (j + 1)) = decide (t < k + j) from decide_eq_decide.2 (by omega)]
theorem bit_rem (T j : Nat) : ((((T : Int) / 2 ^ j).tmod 2) == 1) = T.testBit j := by
  have e : ((T : Int) / 2 ^ j) = ((T / 2 ^ j : Nat) : Int) := by simp
  rw [e, Nat.testBit_eq_decide_div_mod_eq, Int.tmod_eq_emod_of_nonneg (Int.natCast_nonneg _), Bool.eq_iff_iff]
  simp; omega

end Go.Proofs.YtaaapfpcdkfleaaDoor
