/-
  THE LAWS OF LAYER 4: what must come whatever the input is ('sure').
-/
import Derived.Test.YtgemdnmcklpbkaaDoorCrcX
namespace Go.Proofs.YtgemdnmcklpbkaaDoor
open Go.RowKit

def l5 : Nat → Int := ofL [1, 4, 2, 255, 255]
theorem s4_sum : vI (sumV l5 5) = 32952 := by decide +kernel
theorem s4_b5 : ∀ i, i < 5 → 0 ≤ l5 i ∧ l5 i < 256 := below_of 5 (by decide)
theorem s4_b2 : ∀ i, i < 2 → 0 ≤ ofL [1, 2] i ∧ ofL [1, 2] i < 256 := below_of 2 (by decide)
theorem s4_b7 : ∀ i, i < 7 → 0 ≤ andTwo l5 5 (vI (sumV l5 5)) i ∧ andTwo l5 5 (vI (sumV l5 5)) i < 256 := fun i _ => andTwo_bd l5 5 _ s4_b5 (vI_lo _) (vI_hi _) i
theorem s4_eq : ∀ i, i < 7 → andTwo l5 5 (vI (sumV l5 5)) i = ofL [1, 4, 2, 255, 255, 184, 128] i := by rw [s4_sum]; exact below_of 7 (by decide)
theorem s4_bad : endsB (ofL [1, 2]) 2 = false := by decide +kernel
theorem s4_yes : endsB (andTwo l5 5 (vI (sumV l5 5))) 7 = true := endsB_andTwo l5 5 s4_b5
theorem s4_tab : vI (byteV 0#16 1) = 49345 := by decide +kernel
theorem s4_nil : vI (sumV (fun _ => 0) 0) = 65535 := by decide
set_option maxHeartbeats 1600000 in
theorem sure4_any (w : World) (ht : Tabs w) : Calls Tryd.prog 8 #[] w fun e w' => e = .returned (.bool true) ∧ Ext w w' := by
  go_enter Tryd.func8, Tryd.ntmps8
  go_wp2_with fail
  refine (append_any _ 5 _ l5 _ (ht.ext (Ext.alloc _ _)) (Holds.lit _ [1, 4, 2, 255, 255] _ _ rfl _ rfl) (by decide) s4_b5).mono ?_
  rintro e w1 ⟨b1, d1, rfl, c1, m1, h1, x1⟩
  have y1 : Ext w w1 := (Ext.alloc w _).trans x1
  clear x1
  go_wp2_with fail
  refine (strip_yes b1 5 d1 _ _ (ht.ext y1) h1 c1 m1 (by decide) s4_b7 s4_yes).mono ?_
  rintro e w2 ⟨b2, d2, rfl, _, _, h2, x2⟩
  have y2 := y1.trans x2
  have h1' := h1.ext x2
  clear h1 h2 x2 y1
  go_wp2_with fail
  refine (strip_bad _ 0 _ (ofL [1, 2]) _ (ht.ext (y2.trans (Ext.alloc _ _))) (Holds.lit _ [1, 2] _ _ rfl _ rfl) (by decide) (by decide) (by decide) s4_b2 (by rw [← endsB_long]; exact s4_bad)).mono ?_
  rintro e w3 ⟨rfl, x3⟩
  have x3' := (Ext.alloc w2 _).trans x3
  have y3 := y2.trans x3'
  have h3 := h1'.ext x3'
  clear h1' x3 x3' y2
  go_wp2_with fail
  refine (strip_short _ 1 _ _ (by decide)).mono ?_
  rintro e w4 ⟨rfl, rfl⟩
  go_wp2_with fail
  refine (join_arg 1 2 (-1) _ (.inl (by decide))).mono ?_
  rintro e w4 ⟨rfl, rfl⟩
  have y4 := y3.trans (Ext.alloc w3 (.cells #[.int .u8 1] 5))
  have h4 := h3.ext (Ext.alloc w3 (.cells #[.int .u8 1] 5))
  generalize w3.alloc (.cells #[.int .u8 1] 5) = w4 at y4 h4 ⊢
  clear y3 h3
  go_wp2_with fail
  refine (bytes_eq b1 _ 7 7 _ _ _ (ofL [1, 4, 2, 255, 255, 184, 128]) _ (h4.ext (Ext.alloc _ _)) (Holds.lit _ [1, 4, 2, 255, 255, 184, 128] _ _ rfl _ rfl) (by decide) ⟨rfl, s4_eq⟩).mono ?_
  rintro e w5 ⟨rfl, x5⟩
  have x5' := (Ext.alloc w4 _).trans x5
  have y5 := y4.trans x5'
  have h5 := h4.ext x5'
  clear h4 x5 x5' y4
  go_wp2_with fail
  refine (check_v b1 7 d1 _ true _ (ht.ext y5) h5 c1 m1 (by decide) s4_b7 s4_yes).mono ?_
  rintro e w6 ⟨rfl, x6⟩
  have y6 := y5.trans x6
  clear h5 y5 x6
  go_wp2_with fail
  refine (sum_v none 0 0 (fun _ => 0) 65535 _ (ht.ext y6) (.inl rfl) (by decide) (fun i hi => absurd hi (by omega)) s4_nil).mono ?_
  rintro e w7 ⟨rfl, x7⟩
  have y7 := y6.trans x7
  clear y6 x7
  go_wp2_with fail
  refine (table_v 1 49345 _ (ht.ext y7) (by decide) (by decide) s4_tab).mono ?_
  rintro e w8 ⟨rfl, x8⟩
  have y8 := y7.trans x8
  clear y7 x8
  go_wp2_with fail
  refine (update_v 0#16 0 1 49345 _ (ht.ext y8) (by decide) (by decide) (by decide) s4_tab).mono ?_
  rintro e w9 ⟨rfl, x9⟩
  go_wp2
  go_ret
  exact ⟨rfl, y8.trans x9⟩
end Go.Proofs.YtgemdnmcklpbkaaDoor
