/-
  THE LAWS OF LAYER 3: what must come whatever the input is ('sure').
-/
import Derived.Test.YtfhoaaocjaleaaaPolyX
import Derived.Test.YtfhoaaocjaleaaaSame
namespace Go.Proofs.Ytfhoaaocjaleaaa
open Go.RowKit

theorem s3_rem : vI (remV 65535#16 (ofL [1, 4, 2, 255, 255]) 5) = 32952 := by decide +kernel
theorem s3_byte : vI (byteV 0#16 0) = 0 := by decide +kernel
theorem s3_bit : vI (bitV 0#16 true) = 40961 := by decide +kernel
theorem s3_back : vI (unbyteV (byteV 7#16 9) 9) = 7 := by rw [unbyte_byte]; decide
theorem s3_vals : (65535 : Int) = vI 65535#16 ∧ (0 : Int) = vI 0#16 ∧ (7 : Int) = vI 7#16 := by decide
theorem s3_b1 : ∀ i, i < 5 → 0 ≤ ofL [1, 4, 2, 255, 255] i ∧ ofL [1, 4, 2, 255, 255] i < 256 := below_of 5 (by decide)
theorem s3_b2 : ∀ i, i < 2 → 0 ≤ ofL [5, 1] i ∧ ofL [5, 1] i < 256 := below_of 2 (by decide)
theorem s3_b3 : ∀ i, i < 1 → 0 ≤ ofL [3] i ∧ ofL [3] i < 256 := below_of 1 (by decide)
theorem s3_mix : ∀ i, i < 1 → mixF (ofL [5, 1]) (ofL [3]) i = ofL [6] i := below_of 1 (by decide +kernel)
set_option maxHeartbeats 400000 in
theorem sure3_any (w : World) : Calls Try.prog 6 #[] w fun e w' => e = .returned (.bool true) ∧ Ext w w' := by
  go_enter Try.func6, Try.ntmps6
  go_wp2_with fail
  refine (rem_v _ 5 _ (ofL [1, 4, 2, 255, 255]) _ 32952 65535#16 _ (Holds.lit _ _ _ _ rfl _ rfl) (by decide) s3_b1 s3_vals.1 s3_rem).mono ?_
  rintro e w1 ⟨rfl, x1⟩
  have y1 : Ext w w1 := (Ext.alloc w _).trans x1
  clear x1
  go_wp2_with fail
  refine (pbyte_v 0#16 _ _ 0 _ (by decide) (by decide) s3_vals.2.1 s3_byte).mono ?_
  rintro e w2 ⟨rfl, rfl⟩
  go_wp2_with fail
  refine (pbit_c 0#16 _ 40961 _ _ s3_vals.2.1 s3_bit).mono ?_
  rintro e w2 ⟨rfl, rfl⟩
  go_wp2_with fail
  refine (pbyte_v 7#16 _ _ (vI (byteV 7#16 9)) _ (by decide) (by decide) s3_vals.2.2 rfl).mono ?_
  rintro e w2 ⟨rfl, rfl⟩
  go_wp2_with fail
  refine (back_v (byteV 7#16 9) _ _ 7 _ (by decide) (by decide) rfl s3_back).mono ?_
  rintro e w2 ⟨rfl, rfl⟩
  go_wp2_with fail
  refine (mix_any _ _ 2 1 _ _ 1 (ofL [5, 1]) (ofL [3]) _ (Holds.lit_first _ _ _ _ _ rfl _ rfl) (Holds.lit_second _ _ _ _ _ rfl _ rfl) (by decide) (by decide) rfl s3_b2 s3_b3).mono ?_
  rintro e w2 ⟨b2, d2, rfl, _, _, h2, x2⟩
  have y2 : Ext w1 w2 := ((Ext.alloc w1 _).trans (Ext.alloc _ _)).trans x2
  clear x2
  go_wp2_with fail
  refine (bytes_eq _ _ 1 1 _ _ _ (ofL [6]) _ (h2.ext (Ext.alloc _ _)) (Holds.lit _ _ _ _ rfl _ rfl) (by decide) ⟨rfl, s3_mix⟩).mono ?_
  rintro e w3 ⟨rfl, x3⟩
  have y3 : Ext w2 w3 := (Ext.alloc w2 _).trans x3
  clear x3
  go_wp2
  go_ret
  exact ⟨rfl, (y1.trans y2).trans y3⟩
end Go.Proofs.Ytfhoaaocjaleaaa
