/-
  THE LAWS OF LAYER 1: the walk of WordBits.
-/
import Derived.Test.YtgihepbglfhahaaLaw01A
import Derived.OpenShut
namespace Go.Proofs.Ytgihepbglfhahaa
open Go.RowKit

theorem turn_x (a : Int) (w : World) (a0 : 0 ≤ a) (a1 : a < 65536) :
    Calls Try.prog 11 #[.int .u16 a] w fun e w' => e = .returned (.int .u16 (tw a)) ∧ Ext w w' :=
  (turn_any a w a0 a1).mono fun _ _ h => ⟨h.1, Ext.of_drewN h.2⟩

theorem xor_bd (a b : Int) (a0 : 0 ≤ a) (a1 : a < 65536) (b0 : 0 ≤ b) (b1 : b < 65536) : 0 ≤ bits .xor .u16 a b ∧ bits .xor .u16 a b < 65536 := by
  rw [u16_xor a b a0 a1 b0 b1]
  have : a.toNat ^^^ b.toNat < 2 ^ 16 := Nat.xor_lt_two_pow (by omega) (by omega)
  omega
theorem and_bd (a b : Int) (a0 : 0 ≤ a) (a1 : a < 65536) (b0 : 0 ≤ b) (b1 : b < 65536) : 0 ≤ bits .and .u16 a b ∧ bits .and .u16 a b < 65536 := by
  rw [u16_and a b a0 a1 b0 b1]
  have : a.toNat &&& b.toNat < 2 ^ 16 := Nat.and_lt_two_pow _ (by omega)
  omega
theorem or_bd (a b : Int) (a0 : 0 ≤ a) (a1 : a < 65536) (b0 : 0 ≤ b) (b1 : b < 65536) : 0 ≤ bits .or .u16 a b ∧ bits .or .u16 a b < 65536 := by
  rw [u16_or a b a0 a1 b0 b1]
  have : a.toNat ||| b.toNat < 2 ^ 16 := Nat.or_lt_two_pow (by omega) (by omega)
  omega
theorem tw_xor (a b : Int) (a0 : 0 ≤ a) (a1 : a < 65536) (b0 : 0 ≤ b) (b1 : b < 65536) : tw (bits .xor .u16 a b) = bits .xor .u16 (tw a) (tw b) := by
  rw [u16_xor a b a0 a1 b0 b1, u16_xor _ _ (tw_bd a).1 (tw_bd a).2 (tw_bd b).1 (tw_bd b).2]
  unfold tw; rw [Int.toNat_natCast, Int.toNat_natCast, Int.toNat_natCast, rk_xor]
theorem tw_and (a b : Int) (a0 : 0 ≤ a) (a1 : a < 65536) (b0 : 0 ≤ b) (b1 : b < 65536) : tw (bits .and .u16 a b) = bits .and .u16 (tw a) (tw b) := by
  rw [u16_and a b a0 a1 b0 b1, u16_and _ _ (tw_bd a).1 (tw_bd a).2 (tw_bd b).1 (tw_bd b).2]
  unfold tw; rw [Int.toNat_natCast, Int.toNat_natCast, Int.toNat_natCast, rk_and]
theorem tw_or (a b : Int) (a0 : 0 ≤ a) (a1 : a < 65536) (b0 : 0 ≤ b) (b1 : b < 65536) : tw (bits .or .u16 a b) = bits .or .u16 (tw a) (tw b) := by
  rw [u16_or a b a0 a1 b0 b1, u16_or _ _ (tw_bd a).1 (tw_bd a).2 (tw_bd b).1 (tw_bd b).2]
  unfold tw; rw [Int.toNat_natCast, Int.toNat_natCast, Int.toNat_natCast, rk_or]
theorem tw_eq (a b : Int) (a0 : 0 ≤ a) (a1 : a < 65536) (b0 : 0 ≤ b) (b1 : b < 65536) : (tw a == tw b) = (a == b) := by
  have := rk_inj 16 a.toNat b.toNat (by omega) (by omega)
  rw [Bool.eq_iff_iff, beq_iff_eq, beq_iff_eq]
  unfold tw
  constructor
  · intro h; have := this.1 (by omega); omega
  · rintro rfl; rfl

set_option maxHeartbeats 1600000 in
theorem wordBits.walk (a b : Int) (w : World) (wa : (Lit.int .u16 a).wf = true) (wb : (Lit.int .u16 b).wf = true) :
    Calls Try.prog 5 #[.int .u16 a, .int .u16 b] w fun e w' => e = .returned (.bool true) ∧ Ext w w' := by
  obtain ⟨a0, a1'⟩ := bounds_u16 wa
  obtain ⟨b0, b1'⟩ := bounds_u16 wb
  have a1 : a < 65536 := by omega
  have b1 : b < 65536 := by omega
  obtain ⟨x0, x1⟩ := xor_bd a b a0 a1 b0 b1
  obtain ⟨n0, n1⟩ := and_bd a b a0 a1 b0 b1
  obtain ⟨o0, o1⟩ := or_bd a b a0 a1 b0 b1
  have e1 : (tw (bits .xor .u16 a b) == bits .xor .u16 (tw a) (tw b)) = true := by rw [tw_xor a b a0 a1 b0 b1]; exact beq_self_eq_true _
  have e2 : (tw (bits .and .u16 a b) == bits .and .u16 (tw a) (tw b)) = true := by rw [tw_and a b a0 a1 b0 b1]; exact beq_self_eq_true _
  have e3 : (tw (bits .or .u16 a b) == bits .or .u16 (tw a) (tw b)) = true := by rw [tw_or a b a0 a1 b0 b1]; exact beq_self_eq_true _
  have e4 : ((tw a == tw b) == (a == b)) = true := by rw [tw_eq a b a0 a1 b0 b1]; exact beq_self_eq_true _
  clear wa wb a1' b1'
  go_enter Try.func5, Try.ntmps5
  go_wp2_with fail
  refine (turn_x _ _ x0 x1).mono ?_; rintro e w1 ⟨rfl, y1⟩
  go_wp2_with fail
  refine (turn_x _ _ a0 a1).mono ?_; rintro e w2 ⟨rfl, y2⟩
  go_wp2_with fail
  refine (turn_x _ _ b0 b1).mono ?_; rintro e w3 ⟨rfl, y3⟩
  go_wp2_with fail
  refine (turn_x _ _ n0 n1).mono ?_; rintro e w4 ⟨rfl, y4⟩
  go_wp2_with fail
  refine (turn_x _ _ a0 a1).mono ?_; rintro e w5 ⟨rfl, y5⟩
  go_wp2_with fail
  refine (turn_x _ _ b0 b1).mono ?_; rintro e w6 ⟨rfl, y6⟩
  go_wp2_with fail
  refine (turn_x _ _ o0 o1).mono ?_; rintro e w7 ⟨rfl, y7⟩
  go_wp2_with fail
  refine (turn_x _ _ a0 a1).mono ?_; rintro e w8 ⟨rfl, y8⟩
  go_wp2_with fail
  refine (turn_x _ _ b0 b1).mono ?_; rintro e w9 ⟨rfl, y9⟩
  go_wp2_with fail
  refine (turn_x _ _ a0 a1).mono ?_; rintro e w10 ⟨rfl, y10⟩
  go_wp2_with fail
  refine (turn_x _ _ b0 b1).mono ?_; rintro e w11 ⟨rfl, y11⟩
  go_wp2_with fail
  refine (sure_any _).mono ?_; rintro e w12 ⟨rfl, y12⟩
  go_wp2
  go_ret
  exact ⟨rfl, (((((((((((y1.trans y2).trans y3).trans y4).trans y5).trans y6).trans y7).trans y8).trans y9).trans y10).trans y11).trans y12)⟩
end Go.Proofs.Ytgihepbglfhahaa
