/-
  THE LAWS OF LAYER 6: what must come whatever the input is ('sure').
-/
import Derived.Test.YtgjfomnipjljoaaTimerE
namespace Go.Proofs.Ytgjfomnipjljoaa
open Go.RowKit

theorem s6_1 : setI [] 3 9 = ([(3, 9)], 0) := by decide
theorem s6_2 : setI [(3, 9)] 1 5 = ([(1, 5), (3, 9)], 0) := by decide
theorem s6_3 : setI [(1, 5), (3, 9)] 2 5 = ([(1, 5), (2, 5), (3, 9)], 0) := by decide
theorem s6_4 : setI [(3, 9)] (-1) 0 = ([(3, 9)], 11) := by decide
theorem s6_due : dueN [(1, 5), (2, 5), (3, 9)] 8 = 2 := by decide
theorem s6_eq : eqB 2 2 (dueF [(1, 5), (2, 5), (3, 9)]) (ofL [1, 2]) = true := by decide
set_option maxHeartbeats 3200000 in
theorem sure6_any (w : World) : Calls Try.prog 6 #[] w fun e w' => e = .returned (.bool true) ∧ Ext w w' := by
  go_enter Try.func6, Try.ntmps6
  go_wp2_with fail
  refine (knew_any _).mono ?_; rintro e w1 ⟨p, F0, rfl, x1, T1, n1⟩
  go_wp2_with fail
  refine (kset_any p F0 [] 3 9 _ T1 (by decide) (by decide)).mono ?_; rintro e w2 ⟨F1, rfl, k2, T2, g2⟩
  rw [s6_1] at T2 ⊢
  have x2 := x1.keep k2 n1
  have n2 := n1.grows g2 x1
  clear x1 T1 n1 k2 g2
  go_wp2_with fail
  refine (kset_any p F1 [(3, 9)] 1 5 _ T2 (by decide) (by decide)).mono ?_; rintro e w3 ⟨F2, rfl, k3, T3, g3⟩
  rw [s6_2] at T3 ⊢
  have x3 := x2.keep k3 n2
  have n3 := n2.grows g3 x2
  clear x2 T2 n2 k3 g3
  go_wp2_with fail
  refine (kset_any p F2 [(1, 5), (3, 9)] 2 5 _ T3 (by decide) (by decide)).mono ?_; rintro e w4 ⟨F3, rfl, k4, T4, g4⟩
  rw [s6_3] at T4 ⊢
  have x4 := x3.keep k4 n3
  have n4 := n3.grows g4 x3
  clear x3 T3 n3 k4 g4
  go_wp2_with fail
  refine (kfirst_any p F3 _ _ T4).mono ?_; rintro e w5 ⟨rfl, x5⟩
  have T5 := T4.keep (.of_ext x5) (G := fun _ => False) (fun _ _ h => h)
  have x6 := x4.trans x5
  clear x4 x5 T4
  go_wp2_with fail
  refine (kdue_any p F3 _ 8 _ T5 (by decide)).mono ?_; rintro e w6 ⟨F4, z, u, rfl, _, _, hz, k6, T6, g6, _, hoff⟩
  rw [s6_due] at hz T6 ⊢
  have x7 := x6.keep k6 n4
  have n7 := n4.grows g6 x6
  clear x6 T5 n4 k6 g6
  go_wp2_with fail
  refine (ints_any _ _ 2 2 _ _ _ (ofL [1, 2]) _ (hz.ext (Ext.alloc _ _)) (Holds.lit _ [1, 2] _ _ rfl 2 rfl) (by omega) (by omega)).mono ?_; rintro e w7 ⟨rfl, q7⟩
  rw [s6_eq]
  have x8 : Ext w6 w7 := (Ext.alloc _ _).trans (Ext.of_drewN q7)
  have T8 := T6.keep (.of_ext x8) (G := fun _ => False) (fun _ _ h => h)
  have x9 := x7.trans x8
  clear x7 x8 T6 hz q7 hoff
  go_wp2_with fail
  refine (klen_any p F4 _ _ T8).mono ?_; rintro e w8 ⟨rfl, xa⟩
  have T9 := T8.keep (.of_ext xa) (G := fun _ => False) (fun _ _ h => h)
  have xb := x9.trans xa
  clear x9 xa T8
  go_wp2_with fail
  refine (kset_any p F4 [(3, 9)] (-1) 0 _ T9 (by decide) (by decide)).mono ?_; rintro e w9 ⟨F5, rfl, kc, _, _⟩
  rw [s6_4]
  have xc := xb.keep kc n7
  clear xb T9 kc n7
  go_wp2_with fail
  refine (kset_nil 1 1 _ (by decide) (by decide)).mono ?_; rintro e wa ⟨rfl, xd⟩
  have xe := xc.trans xd
  clear xc xd
  go_wp2_with fail
  refine (klen_nil _).mono ?_; rintro e wb ⟨rfl, xf⟩
  have xg := xe.trans xf
  clear xe xf
  go_wp2_with fail
  refine (kdrop_nil 1 _ (by decide)).mono ?_; rintro e wc ⟨rfl, xh⟩
  have xi := xg.trans xh
  clear xg xh
  go_wp2
  go_ret
  exact ⟨rfl, xi⟩
end Go.Proofs.Ytgjfomnipjljoaa
