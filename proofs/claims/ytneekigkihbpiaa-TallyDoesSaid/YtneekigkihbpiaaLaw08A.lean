/-
  THE LAWS OF LAYER 8: what must come whatever the input is ('sure').
-/
import Derived.Test.YtneekigkihbpiaaTallyC
import Derived.Test.YtneekigkihbpiaaRef01
namespace Go.Proofs.Ytneekigkihbpiaa
open Go.RowKit

theorem TY.ext {F : Nat → Prop} {w w' : World} {p : Nat} {f : Nat → Int} (h : TY w p F f) (x : Ext w w') : TY w' p F f := h.keep (.of_ext x) (G := fun _ => False) (fun _ _ h => h)
theorem s8_eq : eqB 8 8 (upd (upd (fun _ => 0) 0 ((0 + 65536) % 65536)) 7 ((upd (fun _ => 0) 0 ((0 + 65536) % 65536) 7 + 2) % 65536)) (ofL [0, 0, 0, 0, 0, 0, 0, 2]) = true := by decide
theorem s8_get : upd (upd (fun _ => (0 : Int)) 0 ((0 + 65536) % 65536)) 7 ((upd (fun _ => (0 : Int)) 0 ((0 + 65536) % 65536) 7 + 2) % 65536) 7 = 2 := by decide
set_option maxHeartbeats 3200000 in
theorem sure8_any (w : World) : Calls Try.prog 5 #[] w fun e w' => e = .returned (.bool true) ∧ Ext w w' := by
  have HA := Lib.hid (fun p F f w (h : TY w p F f) => tadd_ok p F f 0 65536 w h (by omega) (by omega) (by omega))
  have HB := Lib.hid (fun p F f w (h : TY w p F f) => tadd_ok p F f 7 2 w h (by omega) (by omega) (by omega))
  have HG := Lib.hid (fun p F f w (h : TY w p F f) => tget_ok p F f 7 w h (by omega))
  go_enter Try.func5, Try.ntmps5
  go_wp2_with fail
  refine (tnew_any _).mono ?_; rintro e w1 ⟨p, F0, rfl, x1, T1, n1⟩
  go_wp2_with fail
  refine (HA.out p F0 _ _ T1).mono ?_; rintro e w2 ⟨F1, rfl, k2, T2, g2⟩
  have x2 := x1.keep k2 n1
  have n2 := n1.grows g2 x1
  clear x1 T1 n1 k2 g2
  go_wp2_with fail
  refine (HB.out p F1 _ _ T2).mono ?_; rintro e w3 ⟨F2, rfl, k3, T3, g3⟩
  have x3 := x2.keep k3 n2
  have HE := Lib.hid s8_eq
  have HGe := Lib.hid s8_get
  generalize upd (upd (fun _ => (0 : Int)) 0 ((0 + 65536) % 65536)) 7 ((upd (fun _ => (0 : Int)) 0 ((0 + 65536) % 65536) 7 + 2) % 65536) = f at T3 HE HGe
  clear x2 T2 n2 k3 g3
  go_wp2_with fail
  refine (tadd_no p F2 _ 8 1 _ T3 (by decide) (by decide) (by omega)).mono ?_; rintro e w4 ⟨rfl, x4⟩
  have T4 := T3.ext x4
  have x5 := x3.trans x4
  clear x3 T3 x4
  go_wp2_with fail
  refine (HG.out p F2 _ _ T4).mono ?_; rintro e w5 ⟨rfl, x6⟩
  rw [HGe.out]
  have T5 := T4.ext x6
  have x7 := x5.trans x6
  clear x5 T4 x6
  go_wp2_with fail
  refine (tget_nil 0 _ (by decide)).mono ?_; rintro e w6 ⟨rfl, x8⟩
  have T6 := T5.ext x8
  have x9 := x7.trans x8
  clear x7 T5 x8
  go_wp2_with fail
  refine (tall_any p F2 _ _ T6).mono ?_; rintro e w7 ⟨z, u, rfl, -, -, hz, xa⟩
  have xb := x9.trans xa
  clear x9 T6 xa
  go_wp2_with fail
  refine (words_any _ _ 8 8 _ _ _ (ofL [0, 0, 0, 0, 0, 0, 0, 2]) _ (hz.ext (Ext.alloc _ _)) (Holds.lit _ [0, 0, 0, 0, 0, 0, 0, 2] _ _ rfl 8 rfl) (by omega) (by omega)).mono ?_; rintro e w8 ⟨rfl, q8⟩
  rw [HE.out]
  have xc := xb.trans ((Ext.alloc _ _).trans (Ext.of_drewN q8))
  clear xb hz q8
  go_wp2_with fail
  refine (tadd_nil 0 1 _ (by decide) (by decide)).mono ?_; rintro e w9 ⟨rfl, xd⟩
  have xe := xc.trans xd
  clear xc xd
  go_wp2_with fail
  refine (tall_nil _).mono ?_; rintro e wa ⟨z2, u2, rfl, xf⟩
  have xg := xe.trans xf
  clear xe xf
  go_wp2
  go_ret
  exact ⟨rfl, xg⟩
end Go.Proofs.Ytneekigkihbpiaa
