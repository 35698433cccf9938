/-
  THE LAWS OF LAYER 7: what must come whatever the input is ('sure').
-/
import Derived.Test.YtlbcpndljnnhhaaRingC
import Derived.Test.YtlbcpndljnnhhaaRef01
namespace Go.Proofs.Ytlbcpndljnnhhaa
open Go.RowKit

theorem s7_1 : putL [] 2 1 = [1] := by decide
theorem s7_2 : putL [1] 2 2 = [2, 1] := by decide
theorem s7_3 : putL [2, 1] 2 3 = [3, 2] := by decide
set_option maxHeartbeats 3200000 in
theorem sure7_any (w : World) : Calls Try.prog 5 #[] w fun e w' => e = .returned (.bool true) ∧ Ext w w' := by
  go_enter Try.func5, Try.ntmps5
  go_wp2_with fail
  refine (gnew_ok 2 _ (by omega) (by omega)).mono ?_; rintro e w1 ⟨p, F0, rfl, x1, T1, n1⟩
  go_wp2_with fail
  refine (gput_any p 2 F0 [] 1 _ T1 (by omega) (by omega)).mono ?_; rintro e w2 ⟨rfl, F1, k2, T2, g2⟩
  rw [s7_1] at T2
  have x2 := x1.keep k2 n1
  have n2 := n1.grows g2 x1
  clear x1 T1 n1 k2 g2
  go_wp2_with fail
  refine (gput_any p 2 F1 [1] 2 _ T2 (by omega) (by omega)).mono ?_; rintro e w3 ⟨rfl, F2, k3, T3, g3⟩
  rw [s7_2] at T3
  have x3 := x2.keep k3 n2
  have n3 := n2.grows g3 x2
  clear x2 T2 n2 k3 g3
  go_wp2_with fail
  refine (gput_any p 2 F2 [2, 1] 3 _ T3 (by omega) (by omega)).mono ?_; rintro e w4 ⟨rfl, F3, k4, T4, g4⟩
  rw [s7_3] at T4
  have x4 := x3.keep k4 n3
  clear x3 T3 n3 k4 g4
  go_wp2_with fail
  refine (glast_any p 2 F3 _ _ T4).mono ?_; rintro e w5 ⟨rfl, x5⟩
  have T5 := T4.ext x5
  have x6 := x4.trans x5
  clear x4 x5 T4
  go_wp2_with fail
  refine (gput_nil 1 _ (by omega) (by omega)).mono ?_; rintro e w6 ⟨rfl, x7⟩
  have T6 := T5.ext x7
  have x8 := x6.trans x7
  clear x6 x7 T5
  go_wp2_with fail
  refine (glast_nil _).mono ?_; rintro e w7 ⟨rfl, x9⟩
  have T7 := T6.ext x9
  have xa := x8.trans x9
  clear x8 x9 T6
  go_wp2_with fail
  refine (glist_any p 2 F3 _ _ T7).mono ?_; rintro e w8 ⟨z, u, rfl, _, _, hz, xb⟩
  have T8 := T7.ext xb
  have xc := xa.trans xb
  clear xa xb T7
  go_wp2_with fail
  refine (bytes_any _ _ 2 2 _ _ _ (ofL [3, 2]) _ (hz.ext (Ext.alloc _ _)) (Holds.lit _ [3, 2] _ _ rfl 2 rfl) (by omega) (by omega)).mono ?_; rintro e w9 ⟨rfl, q9⟩
  rw [show eqB 2 2 (ofL [3, 2]) (ofL [3, 2]) = true from eqB_true rfl fun _ _ => rfl]
  have xd : Ext w8 w9 := (Ext.alloc _ _).trans (Ext.of_drewN q9)
  have T9 := T8.ext xd
  have xe := xc.trans xd
  clear xc xd T8 hz q9
  go_wp2_with fail
  refine (glen_any p 2 F3 _ _ T9).mono ?_; rintro e wa ⟨rfl, xf⟩
  have xg := xe.trans xf
  clear xe xf T9
  go_wp2_with fail
  refine (gnew_no 0 _ (by decide) (by omega)).mono ?_; rintro e wb ⟨rfl, xh⟩
  have xi := xg.trans xh
  clear xg xh
  go_wp2_with fail
  refine (gnew_no 65 _ (by decide) (by omega)).mono ?_; rintro e wc ⟨rfl, xj⟩
  have xk := xi.trans xj
  clear xi xj
  go_wp2_with fail
  refine (glen_nil _).mono ?_; rintro e wd ⟨rfl, xl⟩
  have xm := xk.trans xl
  clear xk xl
  go_wp2
  go_ret
  exact ⟨rfl, xm⟩
end Go.Proofs.Ytlbcpndljnnhhaa
