/-
  FROM A ROW's CELL 'laid' TO WHAT THE WALKS ASK: package crc's two tables lie where they were laid.
-/
import Derived.Test.YtaaapfpcdkfleaaDoorCrc
import Derived.MakeChecks
import Derived.Lib.LaidTab
import Derived.Stop.LaidErr
namespace Go.Proofs.YtaaapfpcdkfleaaDoor
open Go.RowKit

def lowI : List Int := lowT.map Int.ofNat
def highI : List Int := highT.map Int.ofNat
theorem low_at : ∀ i : Fin 16, lowI.getD i.val 0 = ((lowT.getD i.val 0 : Nat) : Int) := by decide
theorem high_at : ∀ i : Fin 16, highI.getD i.val 0 = ((highT.getD i.val 0 : Nat) : Int) := by decide
theorem tabs_of_laid {W : World} (h : laidMetH Tryd.prog [("bilge/crc.lowHalf", Lib.tabData .u16 lowI), ("bilge/crc.highHalf", Lib.tabData .u16 highI)] W) : Tabs W := by
  have h0 := h
  rw [MakeChecks.laidMetH_plain _ _ _ (by kernel_rfl)] at h0
  have h1 := Lib.tabIs_of_head (g := 0) (by kernel_rfl) (by kernel_rfl) Tryd.underlying59 Tryd.underlying36 (by kernel_rfl) (by kernel_rfl) h0
  have h2 := Lib.tabIs_of_head (g := 1) (by kernel_rfl) (by kernel_rfl) Tryd.underlying59 Tryd.underlying36 (by kernel_rfl) (by kernel_rfl) h0.tail
  exact ⟨fun i hi => by rw [h1.cell (by kernel_rfl) i hi]; exact congrArg (fun z => some (Value.int .u16 z)) (low_at ⟨i, hi⟩), fun i hi => by rw [h2.cell (by kernel_rfl) i hi]; exact congrArg (fun z => some (Value.int .u16 z)) (high_at ⟨i, hi⟩)⟩
end Go.Proofs.YtaaapfpcdkfleaaDoor
