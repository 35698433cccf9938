/-
  THE LAWS OF LAYER 2: what must come whatever the input is ('sure').
-/
import Derived.Test.YtkbfpkfaakipjaaBitsX
import Derived.Test.YtkbfpkfaakipjaaSame
namespace Go.Proofs.Ytkbfpkfaakipjaa
open Go.RowKit

set_option maxHeartbeats 1600000 in
theorem sure2_any (w : World) : Calls Try.prog 6 #[] w fun e w' => e = .returned (.bool true) ∧ Ext w w' := by
  go_enter Try.func6, Try.ntmps6
  go_wp2_with fail
  refine (unpack_at _ 1 _ (ofL [5]) _ 3 rfl _ (Holds.lit _ _ _ _ rfl _ rfl) (by decide) (by omega) (below_of 1 (by decide))).mono ?_
  rintro e w1 ⟨b1, d1, rfl, _, _, h1, x1⟩
  have y1 : Ext w w1 := (Ext.alloc w _).trans x1
  clear x1
  go_wp2_with fail
  refine (unpack_short _ 1 _ 9 _ (by omega) (by decide) (by omega)).mono ?_
  rintro e w2 ⟨rfl, x2⟩
  have y2 : Ext w1 w2 := (Ext.alloc w1 _).trans (Ext.of_eq x2)
  clear x2
  go_wp2_with fail
  refine (pack_any _ 3 _ (ofB [true, false, true]) _ (HoldsG.litB _ _ _ _ rfl _ rfl) (by omega) (by omega) (by unfold maxLen; omega)).mono ?_
  rintro e w3 ⟨b3, d3, rfl, _, _, h3, x3⟩
  have y3 : Ext w2 w3 := (Ext.alloc w2 _).trans x3
  clear x3
  go_wp2_with fail
  refine (bytes_eq _ _ (szN 3) 1 _ _ _ (ofL [5]) _ (h3.ext (Ext.alloc _ _)) (Holds.lit _ _ _ _ rfl _ rfl) (by decide) ⟨by decide, below_of _ (by decide)⟩).mono ?_
  rintro e w4 ⟨rfl, x4⟩
  have y4 : Ext w3 w4 := (Ext.alloc w3 _).trans x4
  clear x4 h3
  go_wp2_with fail
  refine (same_eq _ _ 3 3 _ _ _ (ofB [true, false, true]) _ ((((h1.ext y2).ext y3).ext y4).ext (Ext.alloc _ _)) (HoldsG.litB _ _ _ _ rfl _ rfl) (by omega) ⟨rfl, below_of _ (by decide)⟩).mono ?_
  rintro e w5 ⟨rfl, x5⟩
  have y5 : Ext w4 w5 := (Ext.alloc w4 _).trans x5
  clear x5
  go_wp2_with fail
  refine (size_v 9 2 _ (by omega) (by omega) (by decide)).mono ?_
  rintro e w6 ⟨rfl, rfl⟩
  go_wp2_with fail
  refine (flags_v _ 2 _ (ofB [false, true]) 2 _ (HoldsG.litB _ _ _ _ rfl _ rfl) (by omega) (by omega) (by unfold maxLen; omega) (by decide)).mono ?_
  rintro e w7 ⟨rfl, x7⟩
  have y7 : Ext w5 w7 := (Ext.alloc w5 _).trans (Ext.of_eq x7)
  clear x7
  go_wp2_with fail
  refine (ones_v _ 3 _ _ 2 _ ((((h1.ext y2).ext y3).ext y4).ext (y5.trans y7)) (by omega) (by decide)).mono ?_
  rintro e w8 ⟨rfl, rfl⟩
  go_wp2_with fail
  refine (tidy_v _ 1 _ (ofL [5]) 2 false _ (Holds.lit _ _ _ _ rfl _ rfl) (by omega) (below_of 1 (by decide)) (by omega) (by omega) (by decide)).mono ?_
  rintro e w9 ⟨rfl, x9⟩
  have y9 : Ext w7 w9 := (Ext.alloc w7 _).trans (Ext.of_eq x9)
  clear x9
  go_wp2
  go_ret
  exact ⟨rfl, (((((y1.trans y2).trans y3).trans y4).trans y5).trans y7).trans y9⟩
end Go.Proofs.Ytkbfpkfaakipjaa
