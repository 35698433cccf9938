/-
  THE LAWS OF LAYER 4: what must come whatever the input is ('sure').
-/
import Derived.Test.YtaaapfpcdkfleaaDoorCrc
namespace Go.Proofs.YtaaapfpcdkfleaaDoor
open Go.RowKit

def l5 : Nat → Int := ofL [1, 4, 2, 255, 255]
theorem s4_sum : vI (sumV l5 5) = 32952 := by decide +kernel
theorem s4_b5 : ∀ i, i < 5 → 0 ≤ l5 i ∧ l5 i < 256 := below_of 5 (by decide)
theorem s4_b2 : ∀ i, i < 2 → 0 ≤ ofL [1, 2] i ∧ ofL [1, 2] i < 256 := below_of 2 (by decide)
theorem s4_b7 : ∀ i, i < 7 → 0 ≤ andTwo l5 5 (vI (sumV l5 5)) i ∧ andTwo l5 5 (vI (sumV l5 5)) i < 256 := fun i _ => andTwo_bd l5 5 _ s4_b5 (vI_lo _) (vI_hi _) i
theorem s4_eq : ∀ i, i < 7 → andTwo l5 5 (vI (sumV l5 5)) i = ofL [1, 4, 2, 255, 255, 184, 128] i := by rw [s4_sum]; exact below_of 7 (by decide)
theorem s4_bad : endsB (ofL [1, 2]) 2 = false := by decide +kernel
theorem s4_yes : endsB (andTwo l5 5 (vI (sumV l5 5))) 7 = true := endsB_andTwo l5 5 s4_b5
theorem s4_tab : vI (byteV 0#16 1) = 49345 := by decide +kernel
theorem s4_nil : vI (sumV (fun _ => 0) 0) = 65535 := by decide
end Go.Proofs.YtaaapfpcdkfleaaDoor
