/-
  THE LAWS OF LAYER 1: what must come whatever the input is ('sure').
-/
import Derived.Test.YtgihepbglfhahaaWordD
import Derived.Test.YtgihepbglfhahaaRef01
namespace Go.Proofs.Ytgihepbglfhahaa
open Go.RowKit

theorem bytes_same (a b : Option Addr) (n c d : Nat) (f g : Nat → Int) (w : World) (ha : Holds .u8 w a n f) (hb : Holds .u8 w b n g) (hn : n ≤ 1000000) (e : ∀ i, i < n → f i = g i) :
    Calls Try.prog 13 #[.slice a n c, .slice b n d] w fun e w' => e = .returned (.bool true) ∧ Ext w w' :=
  (bytes_any a b n n c d f g w ha hb hn hn).mono fun _ _ h => ⟨by rw [h.1, eqB_true rfl e], Ext.of_drewN h.2⟩
theorem words_same (a b : Option Addr) (n c d : Nat) (f g : Nat → Int) (w : World) (ha : Holds .u16 w a n f) (hb : Holds .u16 w b n g) (hn : n ≤ 1000000) (e : ∀ i, i < n → f i = g i) :
    Calls Try.prog 17 #[.slice a n c, .slice b n d] w fun e w' => e = .returned (.bool true) ∧ Ext w w' :=
  (words_any a b n n c d f g w ha hb hn hn).mono fun _ _ h => ⟨by rw [h.1, eqB_true rfl e], Ext.of_drewN h.2⟩

theorem small2 {P : Nat → Prop} (h0 : P 0) (h1 : P 1) : ∀ i, i < 2 → P i := by
  rintro (_ | _ | i) hi
  · exact h0
  · exact h1
  · omega
theorem small4 {P : Nat → Prop} (h0 : P 0) (h1 : P 1) (h2 : P 2) (h3 : P 3) : ∀ i, i < 4 → P i := by
  rintro (_ | _ | _ | _ | i) hi
  · exact h0
  · exact h1
  · exact h2
  · exact h3
  · omega

set_option maxHeartbeats 1600000 in
theorem sure_any (w : World) : Calls Try.prog 6 #[] w fun e w' => e = .returned (.bool true) ∧ Ext w w' := by
  have hu : ofL [2, 1] 1 * 256 + ofL [2, 1] 0 = 258 := by decide
  have ht : tw 1 = 32768 := by decide
  go_enter Try.func6, Try.ntmps6
  go_wp2_with fail
  refine (get_even _ 2 _ (ofL [1, 2, 0, 9]) _ (Holds.lit _ _ _ _ rfl _ rfl) (by omega) (small4 (by decide) (by decide) (by decide) (by decide))).mono ?_
  rintro e w1 ⟨b1, d1, rfl, h1, x1⟩
  go_wp2_with fail
  refine (get_odd _ 1 1 _ (by omega) (by omega)).mono ?_
  rintro e w2 ⟨rfl, y2⟩
  have x2 : Ext w1 w2 := (Ext.alloc w1 _).trans (Ext.of_eq y2)
  clear y2
  go_wp2_with fail
  refine (unlow_two _ 2 (ofL [2, 1]) _ (Holds.lit _ _ _ _ rfl _ rfl) (small2 (by decide) (by decide))).mono ?_
  rintro e w3 ⟨he, y3⟩
  rw [hu] at he
  subst he
  have x3 : Ext w2 w3 := (Ext.alloc w2 _).trans (Ext.of_drewN y3)
  clear y3
  go_wp2_with fail
  refine (wput_any _ 2 _ (ofL [258, 9]) _ (Holds.lit _ _ _ _ rfl _ rfl) (by omega) (small2 (by decide) (by decide))).mono ?_
  rintro e w4 ⟨b4, d4, rfl, h4, y4⟩
  have x4 : Ext w3 w4 := (Ext.alloc w3 _).trans y4
  clear y4
  go_wp2_with fail
  refine (bytes_same _ _ 4 _ _ (putF (ofL [258, 9])) (ofL [1, 2, 0, 9]) _ (h4.ext (Ext.alloc _ _)) (Holds.lit _ _ _ _ rfl _ rfl) (by omega) (small4 (by decide) (by decide) (by decide) (by decide))).mono ?_
  rintro e w5 ⟨rfl, y5⟩
  have x5 : Ext w4 w5 := (Ext.alloc w4 _).trans y5
  clear y5
  go_wp2_with fail
  refine (words_same _ _ 2 _ _ (getF (ofL [1, 2, 0, 9])) (ofL [258, 9]) _ (((((h1.ext x2).ext x3).ext x4).ext x5).ext (Ext.alloc _ _)) (Holds.lit _ _ _ _ rfl _ rfl) (by omega) (small2 (by decide) (by decide))).mono ?_
  rintro e w6 ⟨rfl, y6⟩
  have x6 : Ext w5 w6 := (Ext.alloc w5 _).trans y6
  clear y6
  go_wp2_with fail
  refine (low_any 258 _ (by omega) (by omega)).mono ?_
  rintro e w7 ⟨b7, d7, rfl, h7, x7⟩
  go_wp2_with fail
  refine (bytes_same _ _ 2 _ _ (lowF 258) (ofL [2, 1]) _ (h7.ext (Ext.alloc _ _)) (Holds.lit _ _ _ _ rfl _ rfl) (by omega) (small2 (by decide) (by decide))).mono ?_
  rintro e w8 ⟨rfl, y8⟩
  have x8 : Ext w7 w8 := (Ext.alloc w7 _).trans y8
  clear y8
  go_wp2_with fail
  refine (turn_any 1 _ (by omega) (by omega)).mono ?_
  rintro e w9 ⟨he, y9⟩
  rw [ht] at he
  subst he
  have x9 : Ext w8 w9 := Ext.of_drewN y9
  clear y9
  go_wp2
  go_ret
  exact ⟨rfl, (((((((((Ext.alloc w _).trans x1).trans x2).trans x3).trans x4).trans x5).trans x6).trans x7).trans x8).trans x9⟩
end Go.Proofs.Ytgihepbglfhahaa
