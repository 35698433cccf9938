/-
  THE LAWS OF LAYER 12: what must come whatever the input is ('sure'); the walk of WindowTells.
-/
import Derived.Test.YtpolopggaolodaaWinF
namespace Go.Proofs.Ytpolopggaolodaa
open Go.RowKit
set_option linter.unusedVariables false

theorem s12_plc : plcI 10 5 12 = 2 ∧ hasB 10 5 12 = true := by decide
theorem s12_place (w : World) : Calls Try.prog 6 #[.agg #[.int .i64 10, .int .i64 5], .int .i64 12] w fun e w' => e = .returned (.tuple #[.int .i64 2, .bool true]) ∧ Ext w w' := by
  have h := wplace_any 10 5 12 w
  rw [s12_plc.1, s12_plc.2] at h
  exact h
set_option maxHeartbeats 3200000 in
theorem sure12_any (w : World) : Calls Try.prog 17 #[] w fun e w' => e = .returned (.bool true) ∧ Ext w w' := by
  have T0 : WinAt (w.alloc (.cells #[.int .i64 10, .int .i64 5] 23)) w.heap.size 10 5 := ⟨(Ext.refl _).made 0 _ rfl, (Ext.refl _).made 1 _ rfl⟩
  have y0 := Ext.alloc w (.cells #[.int .i64 10, .int .i64 5] 23)
  have hq := fun w => weql_v (f := 13) (c := 2) (g := 13) (d := 2) (B := true) (by decide) w
  have hg := fun x y xs ys w => weqg .eql x y xs ys w
  go_enter Try.func17, Try.ntmps17
  go_wp2_with fail
  refine (s12_place _).mono ?_; rintro e w1 ⟨rfl, x1⟩
  have T1 := T0.ext x1; have y1 := y0.trans x1
  clear T0 y0 x1
  have a1 := T1.c0; have b1 := T1.c1
  go_wp2_with fail
  refine (wright_v (B := true) (by decide) _).mono ?_; rintro e w2 ⟨rfl, x2⟩
  have T2 := T1.ext x2; have y2 := y1.trans x2
  clear T1 y1 x2 a1 b1
  have a2 := T2.c0; have b2 := T2.c1
  go_wp2_with fail
  refine (wholds_v (B := true) (by decide) _).mono ?_; rintro e w3 ⟨rfl, x3⟩
  have T3 := T2.ext x3; have y3 := y2.trans x3
  clear T2 y2 x3 a2 b2
  have a3 := T3.c0; have b3 := T3.c1
  go_wp2_with fail
  refine (wholds_v (B := false) (by decide) _).mono ?_; rintro e w4 ⟨rfl, x4⟩
  have T4 := T3.ext x4; have y4 := y3.trans x4
  clear T3 y3 x4 a3 b3
  have a4 := T4.c0; have b4 := T4.c1
  go_wp2_with fail
  refine (wmeets_v (B := true) (by decide) (by decide) _).mono ?_; rintro e w5 ⟨rfl, x5⟩
  have T5 := T4.ext x5; have y5 := y4.trans x5
  clear T4 y4 x5 a4 b4
  have a5 := T5.c0; have b5 := T5.c1
  go_wp2_with fail
  refine (wmeets_v (B := false) (by decide) (by decide) _).mono ?_; rintro e w6 ⟨rfl, x6⟩
  have T6 := T5.ext x6; have y6 := y5.trans x6
  clear T5 y5 x6 a5 b5
  have a6 := T6.c0; have b6 := T6.c1
  go_wp2_with fail
  refine (whas_v (B := true) (by decide) _).mono ?_; rintro e w7 ⟨rfl, x7⟩
  have T7 := T6.ext x7; have y7 := y6.trans x7
  clear T6 y6 x7 a6 b6
  have a7 := T7.c0; have b7 := T7.c1
  go_wp2_with fail
  refine (wcut_v (F := 13) (C := 2) (by decide) (by decide) _).mono ?_; rintro e w8 ⟨rfl, x8⟩
  have T8 := T7.ext x8; have y8 := y7.trans x8
  clear T7 y7 x8 a7 b7
  have a8 := T8.c0; have b8 := T8.c1
  go_wp2_with fail
  refine (wright_v (B := false) (by decide) _).mono ?_; rintro e w9 ⟨rfl, x9⟩
  have T9 := T8.ext x9; have y9 := y8.trans x9
  clear T8 y8 x9 a8 b8
  go_wp2
  go_ret
  exact ⟨rfl, y9⟩
end Go.Proofs.Ytpolopggaolodaa
