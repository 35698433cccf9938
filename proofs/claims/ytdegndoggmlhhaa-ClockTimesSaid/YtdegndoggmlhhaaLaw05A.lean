/-
  THE LAWS OF LAYER 5: what must come whatever the input is ('sure'); the walk of ClockGoes.
-/
import Derived.Test.YtdegndoggmlhhaaClockB
namespace Go.Proofs.Ytdegndoggmlhhaa
open Go.RowKit

theorem s5_in : ¬ CkOk 0 1 0 := by decide
theorem s5_ok : CkOk 9600 1000000 0 := by decide +kernel
theorem s5_of : ofRes 9600 1000000 0 (.int .i64 0) (.int .i64 11) = #[.agg #[.int .i64 1146, .int .i64 2865, .int .i64 5157, .int .i64 0], .int .i64 0] := by
  rw [ofRes_yes _ _ s5_ok, show ckC 9600 1000000 = 1146 by decide, show ckS 9600 1000000 = 1719 by decide, show ckL 9600 1000000 = 4011 by decide]; rfl
theorem s5_no : ofRes 0 1 0 (.int .i64 0) (.int .i64 11) = #[.agg #[.int .i64 0, .int .i64 0, .int .i64 0, .int .i64 0], .int .i64 11] := ofRes_no _ _ s5_in
theorem s5_right : rightB 1146 2865 5157 0 = true := by decide
theorem s5_span : spanI 1146 2865 5157 0 2 = 2292 := by decide
theorem s5_add : addI 3 4 = 7 := by decide
theorem s5_since : sinceI 3 9 = 6 := by decide
theorem s5_clamp : clampI (-1) = 0 := by decide
set_option maxHeartbeats 1600000 in
theorem sure5_any (w : World) : Calls Try.prog 9 #[] w fun e w' => e = .returned (.bool true) ∧ Ext w w' := by
  go_enter Try.func9, Try.ntmps9
  go_wp2_with fail
  refine (kof_any 9600 1000000 0 _ (by decide) (by decide) (by decide)).mono ?_; rintro e w1 ⟨rfl, x1⟩
  rw [s5_of]
  go_wp2_with fail
  have y1 : Ext w (w1.alloc (.cells #[.int .i64 1146, .int .i64 2865, .int .i64 5157, .int .i64 0] 23)) := x1.trans (Ext.alloc _ _)
  refine (kof_any 0 1 0 _ (by decide) (by decide) (by decide)).mono ?_; rintro e w2 ⟨rfl, x2⟩
  rw [s5_no]
  have z2 := y1.trans x2
  have z3 : Ext w (w2.alloc (.cells #[.int .i64 0, .int .i64 0, .int .i64 0, .int .i64 0] 23)) := z2.trans (Ext.alloc _ _)
  have b2 := x2.block (heap_alloc_new w1 _)
  have c0 := x2.made 0 _ rfl
  have c1 := x2.made 1 _ rfl
  have c2 := x2.made 2 _ rfl
  have c3 := x2.made 3 _ rfl
  obtain ⟨B, hB⟩ : ∃ B, B = w1.heap.size := ⟨_, rfl⟩
  rw [← hB] at c0 c1 c2 c3 b2 ⊢
  have hlt : B < w2.heap.size := World.block_lt_of_cell? w2 _ c0
  clear hB x1 y1 x2 z2
  go_wp2_with fail
  refine (kright_any 1146 2865 5157 0 _ (by decide) (by decide) (by decide) (by decide)).mono ?_; rintro e w3 ⟨rfl, x3⟩
  rw [s5_right]
  have b3 := x3.block ((Ext.alloc w2 _).block b2)
  have z4 := z3.trans x3
  clear c0 c1 c2 c3 b2 z3 x3
  go_wp2_with fail
  refine (kclamp_any (-1) _ (by decide)).mono ?_; rintro e w4 ⟨rfl, x4⟩
  rw [s5_clamp]
  have b4 := x4.block b3
  have z5 := z4.trans x4
  clear b3 z4 x4
  go_wp2_with fail
  refine (kadd_any 3 4 _ (by decide) (by decide)).mono ?_; rintro e w5 ⟨rfl, x5⟩
  rw [s5_add]
  have b5 := x5.block b4
  have z6 := z5.trans x5
  clear b4 z5 x5
  go_wp2_with fail
  refine (ksince_any 3 9 _ (by decide) (by decide)).mono ?_; rintro e w6 ⟨rfl, x6⟩
  rw [s5_since]
  have b6 := x6.block b5
  have z7 := z6.trans x6
  have c0 : w6.cell? ⟨B, 0, none⟩ = some (.int .i64 1146) := cell_of_row w6 B 0 _ _ _ b6
  have c1 : w6.cell? ⟨B, 1, none⟩ = some (.int .i64 2865) := cell_of_row w6 B 1 _ _ _ b6
  have c2 : w6.cell? ⟨B, 2, none⟩ = some (.int .i64 5157) := cell_of_row w6 B 2 _ _ _ b6
  have c3 : w6.cell? ⟨B, 3, none⟩ = some (.int .i64 0) := cell_of_row w6 B 3 _ _ _ b6
  clear b5 z6 x6 b6
  go_wp2_with fail
  refine (kspan_any 1146 2865 5157 0 2 _ (by decide) (by decide) (by decide) (by decide) (by decide)).mono ?_; rintro e w7 ⟨rfl, x7⟩
  rw [s5_span]
  go_wp2
  go_ret
  exact ⟨rfl, z7.trans x7⟩

set_option maxHeartbeats 1600000 in
theorem clockGoes.walk (a d m : Int) (w : World) (ha : (Lit.int .i64 a).wf = true) (hd : (Lit.int .i64 d).wf = true) (hm : (Lit.int .i64 m).wf = true) :
    Calls Try.prog 6 #[.int .i64 a, .int .i64 d, .int .i64 m] w fun e w' => e = .returned (.bool true) ∧ Ext w w' := by
  have l0 := addI_lo a d
  have l1 := addI_hi a d
  have p0 := clampI_lo a
  have p1 := clampI_hi a
  have q0 := clampI_lo d
  have q1 := clampI_hi d
  have r0 := addI_lo d m
  have r1 := addI_hi d m
  have wX : (Lit.int .i64 (addI a d)).wf = true := by simp [Lit.wf, IntKind.min, IntKind.max, IntKind.signed, IntKind.bits]; omega
  have wY : (Lit.int .i64 (addI d m)).wf = true := by simp [Lit.wf, IntKind.min, IntKind.max, IntKind.signed, IntKind.bits]; omega
  have wC : (Lit.int .i64 (clampI a)).wf = true := by simp [Lit.wf, IntKind.min, IntKind.max, IntKind.signed, IntKind.bits]; omega
  have hle := ck_add_le a d
  have has := ck_add_assoc a d m
  have hsi := since_add a d
  have hsb := since_back a d
  obtain ⟨X, hX⟩ : ∃ X, X = addI a d := ⟨_, rfl⟩
  obtain ⟨Y, hY⟩ : ∃ Y, Y = addI d m := ⟨_, rfl⟩
  obtain ⟨A, hA⟩ : ∃ A, A = clampI a := ⟨_, rfl⟩
  rw [← hX] at l0 l1 wX hle has hsi hsb
  rw [← hY] at r0 r1 wY has
  rw [← hA] at p0 p1 wC hle hsb
  have HX := Lib.hid hX
  have HY := Lib.hid hY
  have HA := Lib.hid hA
  have Has := Lib.hid has
  have Hsi := Lib.hid hsi
  have Hsb := Lib.hid hsb
  have k1 := Lib.hid ha
  have k2 := Lib.hid hd
  have k3 := Lib.hid hm
  have k4 := Lib.hid wX
  have k5 := Lib.hid wY
  have k6 := Lib.hid wC
  clear hX hY hA has hsi hsb ha hd hm wX wY wC r0 r1 q0 q1
  go_enter Try.func6, Try.ntmps6
  go_wp2_with fail
  refine (kadd_any a d _ k1.out k2.out).mono ?_; rintro e w1 ⟨rfl, x1⟩
  rw [← HX.out]
  go_wp2_with fail
  refine (kclamp_any a _ k1.out).mono ?_; rintro e w2 ⟨rfl, x2⟩
  rw [← HA.out]
  go_wp2_with fail
  refine (kadd_any X m _ k4.out k3.out).mono ?_; rintro e w3 ⟨rfl, x3⟩
  rw [Has.out]
  go_wp2_with fail
  refine (kadd_any d m _ k2.out k3.out).mono ?_; rintro e w4 ⟨rfl, x4⟩
  rw [← HY.out]
  go_wp2_with fail
  refine (kadd_any a Y _ k1.out k5.out).mono ?_; rintro e w5 ⟨rfl, x5⟩
  have z5 := (((x1.trans x2).trans x3).trans x4).trans x5
  clear x1 x2 x3 x4 x5
  have Hhid := Lib.hid hle
  clear hle
  by_cases he : X = 1099511627776
  · have HE := Lib.hid he
    have q1 : (X == 1099511627776) = true := by rw [he]; rfl
    have q2 : ¬ X < A := by have := Hhid.out; omega
    clear he
    go_wp2_with fail
    refine (kclamp_any a _ k1.out).mono ?_; rintro e w6 ⟨rfl, x6⟩
    rw [← HA.out]
    go_wp2_with fail
    refine (ksince_any X A _ k4.out k6.out).mono ?_; rintro e w7 ⟨rfl, x7⟩
    rw [Hsb.out]
    have z7 := (z5.trans x6).trans x7
    clear z5 x6 x7
    go_wp2_with fail
    refine (sure5_any _).mono ?_; rintro e w8 ⟨rfl, x8⟩
    go_wp2
    go_ret
    exact ⟨rfl, z7.trans x8⟩
  · have HE := Lib.hid he
    have q1 : (X == 1099511627776) = false := by simpa using he
    have q2 : ¬ X < A := by have := Hhid.out; omega
    clear he
    go_wp2_with fail
    refine (ksince_any a X _ k1.out k4.out).mono ?_; rintro e w6 ⟨rfl, x6⟩
    rw [Hsi.out HE.out]
    go_wp2_with fail
    refine (kclamp_any d _ k2.out).mono ?_; rintro e w7 ⟨rfl, x7⟩
    have z7 := (z5.trans x6).trans x7
    clear z5 x6 x7
    go_wp2_with fail
    refine (kclamp_any a _ k1.out).mono ?_; rintro e w8 ⟨rfl, x8⟩
    rw [← HA.out]
    go_wp2_with fail
    refine (ksince_any X A _ k4.out k6.out).mono ?_; rintro e w9 ⟨rfl, x9⟩
    rw [Hsb.out]
    have z9 := (z7.trans x8).trans x9
    clear z7 x8 x9
    go_wp2_with fail
    refine (sure5_any _).mono ?_; rintro e w10 ⟨rfl, x10⟩
    go_wp2
    go_ret
    exact ⟨rfl, z9.trans x10⟩
end Go.Proofs.Ytdegndoggmlhhaa
