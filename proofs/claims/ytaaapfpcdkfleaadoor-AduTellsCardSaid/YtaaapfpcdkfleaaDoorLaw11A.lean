/-
  THE LAWS OF LAYER 11: what must come whatever the input is ('sure').
-/
import Derived.Test.YtaaapfpcdkfleaaDoorAduA
import Derived.Test.YtaaapfpcdkfleaaDoorSame
namespace Go.Proofs.YtaaapfpcdkfleaaDoor
open Go.RowKit

def q4 : Nat → Int := ofL [4, 2, 255, 255]
theorem s11_sum : vI (sumV (consF 1 q4) 5) = 32952 := by decide +kernel
theorem s11_b4 : ∀ i, i < 4 → 0 ≤ q4 i ∧ q4 i < 256 := below_of 4 (by decide)
theorem s11_bl : ∀ i, i < 4 → 0 ≤ ofL [1, 2, 3, 4] i ∧ ofL [1, 2, 3, 4] i < 256 := below_of 4 (by decide)
theorem s11_eq : ∀ i, i < 7 → frm 1 q4 4 i = ofL [1, 4, 2, 255, 255, 184, 128] i := by unfold frm; rw [s11_sum]; exact below_of 7 (by decide)
theorem s11_bad : endsB (ofL [1, 2, 3, 4]) 4 = false := by decide +kernel
theorem s11_b7 : ∀ i, i < 7 → 0 ≤ frm 1 q4 4 i ∧ frm 1 q4 4 i < 256 := fun i _ => frm_bd (by decide) (by decide) s11_b4 i
theorem s11_ends : endsB (frm 1 q4 4) 7 = true := frm_ends (by decide) (by decide) s11_b4
set_option maxHeartbeats 1600000 in
theorem sure11_any (w : World) (ht : Tabs w) : Calls Tryd.prog 6 #[] w fun e w' => e = .returned (.bool true) ∧ Ext w w' := by
  go_enter Tryd.func6, Tryd.ntmps6
  go_wp2_with fail
  refine (wrap_v 1 _ 4 _ q4 0 7 _ (ht.ext (Ext.alloc _ _)) (Holds.lit _ [4, 2, 255, 255] _ _ rfl _ rfl) (by decide) s11_b4 rfl rfl).mono ?_
  rintro e w1 ⟨b1, d1, rfl, c1, m1, h1, x1⟩
  have y1 : Ext w w1 := (Ext.alloc w _).trans x1
  clear x1
  go_wp2_with fail
  refine (open_v b1 7 d1 _ 1 0 4 _ (ht.ext y1) h1 c1 m1 (by decide) s11_b7 (by decide +kernel) (by decide +kernel) (by decide +kernel)).mono ?_
  rintro e w2 ⟨b2, d2, rfl, c2, m2, h2, x2⟩
  have y2 := y1.trans x2
  have h1' := h1.ext x2
  clear h1 x2 y1
  go_wp2_with fail
  refine (open_v _ 4 _ (ofL [1, 2, 3, 4]) 0 14 0 _ (ht.ext (y2.trans (Ext.alloc _ _))) (Holds.lit _ [1, 2, 3, 4] _ _ rfl _ rfl) (by decide) (by decide) (by decide) s11_bl (by decide +kernel) (by decide +kernel) (by decide +kernel)).mono ?_
  rintro e w3 ⟨b3, d3, rfl, c3, m3, h3, x3⟩
  have x3' := (Ext.alloc w2 _).trans x3
  have y3 := y2.trans x3'
  have h1'' := h1'.ext x3'
  have h2' := h2.ext x3'
  clear h1' h2 h3 x3 x3' y2
  go_wp2_with fail
  refine (bytes_eq b1 _ 7 7 _ _ _ (ofL [1, 4, 2, 255, 255, 184, 128]) _ (h1''.ext (Ext.alloc _ _)) (Holds.lit _ [1, 4, 2, 255, 255, 184, 128] _ _ rfl _ rfl) (by decide) ⟨rfl, s11_eq⟩).mono ?_
  rintro e w5 ⟨rfl, x5⟩
  have x5' := (Ext.alloc w3 _).trans x5
  have y5 := y3.trans x5'
  have h5 := h2'.ext x5'
  clear h1'' h2' x5 x5' y3
  go_wp2_with fail
  refine (bytes_eq b2 _ 4 4 _ _ _ (ofL [4, 2, 255, 255]) _ (h5.ext (Ext.alloc _ _)) (Holds.lit _ [4, 2, 255, 255] _ _ rfl _ rfl) (by decide) ⟨rfl, fun i hi => frm_succ 1 q4 4 i hi⟩).mono ?_
  rintro e w6 ⟨rfl, x6⟩
  have x6' := (Ext.alloc w5 _).trans x6
  have y6 := y5.trans x6'
  clear h5 x6 x6' y5
  go_wp2_with fail
  refine (size_v 4 7 _ rfl).mono ?_
  rintro e w7 ⟨rfl, rfl⟩
  go_wp2_with fail
  refine (size_v 254 0 _ rfl).mono ?_
  rintro e w7 ⟨rfl, rfl⟩
  go_wp2
  go_ret
  exact ⟨rfl, y6⟩
end Go.Proofs.YtaaapfpcdkfleaaDoor
