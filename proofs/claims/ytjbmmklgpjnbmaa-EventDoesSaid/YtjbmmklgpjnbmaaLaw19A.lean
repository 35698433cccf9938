/-
  THE LAWS OF LAYER 19: sure (package event's contracts as premises).
-/
import Derived.Test.YtjbmmklgpjnbmaaEveC
import Derived.Test.YtjbmmklgpjnbmaaSame
import Derived.Test.YtjbmmklgpjnbmaaLater
namespace Go.Proofs.Ytjbmmklgpjnbmaa
open Go.RowKit
set_option linter.unusedVariables false
set_option maxRecDepth 100000
variable {ES : World → Nat → (Nat → Prop) → Eve → Prop}

def e19 : Eve := ⟨[192], 1⟩
theorem e19_is : doneE (putE newE (heardB false false false true)) = e19 := rfl
theorem s19_1 : ∀ i, i < 1 → ofL [192] i = ofL [192] i := fun _ _ => rfl
theorem s19_2 : ∀ i, i < 4 → shF e19 i = ofL [0, 0, 0, 1] i := fun i hi => by
  have h : i = 0 ∨ i = 1 ∨ i = 2 ∨ i = 3 := by omega
  rcases h with rfl | rfl | rfl | rfl <;> decide
theorem s19_3 : ∀ i, i < 8 → lgF e19 9 i = ofL [7, 0, 0, 0, 1, 0, 9, 192] i := fun i hi => by
  have h : i = 0 ∨ i = 1 ∨ i = 2 ∨ i = 3 ∨ i = 4 ∨ i = 5 ∨ i = 6 ∨ i = 7 := by omega
  rcases h with rfl | rfl | rfl | rfl | rfl | rfl | rfl | rfl <;> decide
set_option maxHeartbeats 16000000 in
theorem sure19 (K : EventC ES) (w : World) : Calls Try.prog 5 #[] w fun e w' => e = .returned (.bool true) ∧ Ext w w' := by
  have HK := Lib.hid K
  clear K
  go_enter Try.func5, Try.ntmps5
  go_wp2_with fail
  refine (HK.out.new _).mono ?_; rintro e w1 ⟨p, F0, rfl, x1, T1, n1⟩
  go_wp2_with fail
  refine (HK.out.heard p F0 newE false false false true w1 T1).mono ?_; rintro e w2 ⟨F1, rfl, k2, T2, g2⟩
  have x2 := x1.keep k2 n1
  have n2 := n1.grows g2 x1
  clear x1 T1 n1 k2 g2
  go_wp2_with fail
  refine (HK.out.done p F1 _ w2 T2).mono ?_; rintro e w3 ⟨F2, rfl, k3, T3, g3⟩
  rw [e19_is] at T3
  have x3 := x2.keep k3 n2
  clear x2 T2 n2 k3 g3
  go_wp2_with fail
  refine (HK.out.doneNil _).mono ?_; rintro e w4 ⟨rfl, xx⟩
  have T4 := HK.out.ext T3 xx
  have x4 := x3.trans xx
  clear x3 T3 xx
  go_wp2_with fail
  refine (HK.out.list p F2 e19 w4 T4).mono ?_; rintro e w5 ⟨b5, q5, rfl, h5, -, -, xx⟩
  rw [show e19.L.length = 1 from rfl] at h5 ⊢
  have h5 : HoldsG (Value.int .u8) w5 b5 1 (ofL [192]) := h5
  have T5 := HK.out.ext T4 xx
  have x5 := x4.trans xx
  clear x4 T4 xx
  go_wp2_with fail
  refine (bytes_eq _ _ 1 1 _ _ (ofL [192]) (ofL [192]) _ (HoldsG.ext h5 (Ext.alloc _ _)) (Holds.lit w5 [192] 5 _ rfl 1 rfl) (by decide) ⟨rfl, s19_1⟩).mono ?_; rintro e w6 ⟨rfl, xw6⟩
  have T6 := HK.out.ext T5 ((Ext.alloc w5 _).trans xw6)
  have x6 := x5.trans ((Ext.alloc w5 _).trans xw6)
  clear x5 T5 xw6 h5
  go_wp2_with fail
  refine (HK.out.short p F2 e19 w6 T6).mono ?_; rintro e w7 ⟨b7, q7, rfl, h7, -, -, xx⟩
  have T7 := HK.out.ext T6 xx
  have x7 := x6.trans xx
  clear x6 T6 xx
  go_wp2_with fail
  refine (bytes_eq _ _ 4 4 _ _ (shF e19) (ofL [0, 0, 0, 1]) _ (HoldsG.ext h7 (Ext.alloc _ _)) (Holds.lit w7 [0, 0, 0, 1] 5 _ rfl 4 rfl) (by decide) ⟨rfl, s19_2⟩).mono ?_; rintro e w8 ⟨rfl, xw8⟩
  have T8 := HK.out.ext T7 ((Ext.alloc w7 _).trans xw8)
  have x8 := x7.trans ((Ext.alloc w7 _).trans xw8)
  clear x7 T7 xw8 h7
  go_wp2_with fail
  refine (HK.out.long p F2 e19 9 w8 T8 (by decide) (by decide)).mono ?_; rintro e w9 ⟨b9, q9, rfl, h9, -, -, xx⟩
  rw [show lgN e19 = 8 from rfl] at h9 ⊢
  have T9 := HK.out.ext T8 xx
  have x9 := x8.trans xx
  clear x8 T8 xx
  go_wp2_with fail
  refine (bytes_eq _ _ 8 8 _ _ (lgF e19 9) (ofL [7, 0, 0, 0, 1, 0, 9, 192]) _ (HoldsG.ext h9 (Ext.alloc _ _)) (Holds.lit w9 [7, 0, 0, 0, 1, 0, 9, 192] 5 _ rfl 8 rfl) (by decide) ⟨rfl, s19_3⟩).mono ?_; rintro e wA ⟨rfl, xwA⟩
  have TA := HK.out.ext T9 ((Ext.alloc w9 _).trans xwA)
  have xA := x9.trans ((Ext.alloc w9 _).trans xwA)
  clear x9 T9 xwA h9
  go_wp2_with fail
  refine (HK.out.count p F2 e19 wA TA).mono ?_; rintro e wB ⟨rfl, xx⟩
  rw [show e19.n = 1 from rfl]
  have xB := xA.trans xx
  clear xA TA xx
  go_wp2_with fail
  refine (HK.out.countNil _).mono ?_; rintro e wC ⟨rfl, xx⟩
  have xC := xB.trans xx
  clear xB xx
  go_wp2_with fail
  refine (HK.out.listNil _).mono ?_; rintro e wD ⟨bD, qD, rfl, xx⟩
  have xD := xC.trans xx
  clear xC xx
  go_wp2
  go_ret
  exact ⟨rfl, xD⟩
end Go.Proofs.Ytjbmmklgpjnbmaa
