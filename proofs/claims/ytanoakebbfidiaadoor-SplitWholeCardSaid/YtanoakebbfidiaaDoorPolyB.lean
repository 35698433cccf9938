/-
  CONTRACTS: poly.Mix; bilgeref03.Mix.
-/
import Derived.Test.YtanoakebbfidiaaDoorPolyA
import Derived.Test.YtanoakebbfidiaaDoorBlocks
import Derived.Deep.RegionHeld3
namespace Go.Proofs.YtanoakebbfidiaaDoor
open Go.RowKit

theorem Tryd.info8p : (Tryd.prog.info? 5).map (fun i => (i.zero, i.size, i.bytes)) = some (some (.int .u8 0), 1, 1) := by kernel_rfl
theorem min_nat (n m : Nat) : min (n : Int) (m : Int) = ((min n m : Nat) : Int) := by omega
def mixF (f g : Nat → Int) : Nat → Int := fun i => xB (f i) (g i)
theorem mixF_at (f g : Nat → Int) (k : Nat) : mixF f g k = xB (f k) (g k) := rfl
theorem mixF_bd {f g : Nat → Int} {m : Nat} (hf : ∀ i, i < m → 0 ≤ f i ∧ f i < 256) (hg : ∀ i, i < m → 0 ≤ g i ∧ g i < 256) : ∀ i, i < m → 0 ≤ mixF f g i ∧ mixF f g i < 256 :=
  fun i hi => ⟨xB_lo _ _, xB_hi _ _ (hf i hi).2 (hg i hi).2⟩

end Go.Proofs.YtanoakebbfidiaaDoor
