/-
  CONTRACTS: package window (layer 12): Cut, Holds, Meets.
-/
import Derived.Test.YtpolopggaolodaaWinA
import Derived.BigQuiet
import Derived.RegionTactic
import Derived.Laws.CopyOwn
import Derived.Deep.QuietTactic
namespace Go.Proofs.Ytpolopggaolodaa
open Go.RowKit
set_option linter.unusedVariables false

/-- A window lies in a block. -/
structure WinAt (w : World) (A : Nat) (f c : Int) : Prop where
  c0 : w.cell? ⟨A, 0, none⟩ = some (.int .i64 f)
  c1 : w.cell? ⟨A, 1, none⟩ = some (.int .i64 c)
theorem WinAt.lt {w : World} {A : Nat} {f c : Int} (h : WinAt w A f c) : A < w.heap.size := World.block_lt_of_cell? w _ h.c0
theorem WinAt.ext {w w' : World} {A : Nat} {f c : Int} (h : WinAt w A f c) (x : Ext w w') : WinAt w' A f c := ⟨x.cell h.lt h.c0, x.cell h.lt h.c1⟩
set_option maxHeartbeats 1000000 in
theorem wboth_v {f c g d x : Int} {B : Bool} (h : (hasB f c x && hasB g d x) = B) (A D : Nat) (w : World) (ha : WinAt w A f c) (hd : WinAt w D g d) :
    Calls Try.prog 19 #[.int .i64 x, .pointer (some ⟨A, 0, none⟩), .pointer (some ⟨D, 0, none⟩)] w fun e w' => e = .returned (.bool B) ∧ Ext w w' := by
  have a0 := ha.c0; have a1 := ha.c1
  cases h1 : hasB f c x with
  | false =>
    have hB : B = false := by rw [← h, h1]; rfl
    subst hB
    have H1 := Lib.hid h1
    clear h1 h
    go_enter Try.func19, Try.ntmps19
    go_wp2_with fail
    refine (whas_v H1.out _).mono ?_; rintro e w1 ⟨rfl, x1⟩
    go_wp2
    go_ret
    exact ⟨rfl, x1⟩
  | true =>
    have h2 : hasB g d x = B := by rw [← h, h1]; rfl
    have H1 := Lib.hid h1
    have H2 := Lib.hid h2
    clear h1 h2 h
    go_enter Try.func19, Try.ntmps19
    go_wp2_with fail
    refine (whas_v H1.out _).mono ?_; rintro e w1 ⟨rfl, x1⟩
    have hd1 := hd.ext x1
    have b0 := hd1.c0; have b1 := hd1.c1
    go_wp2_with fail
    refine (whas_v H2.out _).mono ?_; rintro e w2 ⟨rfl, x2⟩
    go_wp2
    go_ret
    exact ⟨rfl, x1.trans x2⟩

/-- What the two parameters' boxes and the result's hold behind the entry. -/
theorem cut_box (f c g d : Int) (w : World) :
    Ext w (((w.alloc (.cells #[.int .i64 f, .int .i64 c] 23)).alloc (.cells #[.int .i64 g, .int .i64 d] 23)).alloc (.cells #[.int .i64 0, .int .i64 0] 23)) ∧
    WinAt (((w.alloc (.cells #[.int .i64 f, .int .i64 c] 23)).alloc (.cells #[.int .i64 g, .int .i64 d] 23)).alloc (.cells #[.int .i64 0, .int .i64 0] 23)) w.heap.size f c ∧
    WinAt (((w.alloc (.cells #[.int .i64 f, .int .i64 c] 23)).alloc (.cells #[.int .i64 g, .int .i64 d] 23)).alloc (.cells #[.int .i64 0, .int .i64 0] 23)) (w.heap.size + 1) g d ∧
    (((w.alloc (.cells #[.int .i64 f, .int .i64 c] 23)).alloc (.cells #[.int .i64 g, .int .i64 d] 23)).alloc (.cells #[.int .i64 0, .int .i64 0] 23)).heap[w.heap.size + 1 + 1]? = some (.cells #[.int .i64 0, .int .i64 0] 23) := by
  have xa := Ext.alloc (w.alloc (.cells #[.int .i64 f, .int .i64 c] 23)) (.cells #[.int .i64 g, .int .i64 d] 23)
  have xb := Ext.alloc ((w.alloc (.cells #[.int .i64 f, .int .i64 c] 23)).alloc (.cells #[.int .i64 g, .int .i64 d] 23)) (.cells #[.int .i64 0, .int .i64 0] 23)
  have s1 : (w.alloc (.cells #[.int .i64 f, .int .i64 c] 23)).heap.size = w.heap.size + 1 := by simp
  have s2 : ((w.alloc (.cells #[.int .i64 f, .int .i64 c] 23)).alloc (.cells #[.int .i64 g, .int .i64 d] 23)).heap.size = w.heap.size + 1 + 1 := by simp
  have g2 := heap_alloc_new ((w.alloc (.cells #[.int .i64 f, .int .i64 c] 23)).alloc (.cells #[.int .i64 g, .int .i64 d] 23)) (.cells #[.int .i64 0, .int .i64 0] 23)
  have m0 := xb.made 0 _ rfl
  have m1 := xb.made 1 _ rfl
  rw [s1] at m0 m1
  rw [s2] at g2
  exact ⟨(Ext.alloc w _).trans (xa.trans xb), ⟨(xa.trans xb).made 0 _ rfl, (xa.trans xb).made 1 _ rfl⟩, ⟨m0, m1⟩, g2⟩
set_option maxHeartbeats 2000000 in
theorem wcut_lt (f c g d : Int) (w : World) (hm : f < g) : Calls Try.prog 15 #[.agg #[.int .i64 f, .int .i64 c], .agg #[.int .i64 g, .int .i64 d]] w fun e w' => e = .returned (.agg #[.int .i64 (cutF f c g d), .int .i64 (cutC f c g d)]) ∧ Ext w w' := by
  obtain ⟨x3, wa, wd, g0⟩ := cut_box f c g d w
  obtain ⟨F, hF⟩ : ∃ F, F = cutF f c g d := ⟨_, rfl⟩
  obtain ⟨C, hC⟩ : ∃ C, C = cutC f c g d := ⟨_, rfl⟩
  rw [← hF, ← hC]
  rcases cut_cases f c g d with ⟨h, h1, h2, h3, h4, h5, h6, h7, h8, h9, h10, h11, h12⟩ | ⟨h, h1, h11, h12⟩
  · have hh : (hasB f c g && hasB g d g) = true := by rw [Bool.and_eq_true, hasB_iff, hasB_iff]; omega
    have hE : Value.agg #[.int .i64 g, .int .i64 (min (f + c) (g + d) - g)] = .agg #[.int .i64 F, .int .i64 C] := by
      rw [hF, hC, h11, h12, show max f g = g by omega]
    have HE := Lib.hid hE
    have HH := Lib.hid hh
    clear h hF hC h11 h12 hh hE
    go_enter Try.func15, Try.ntmps15
    go_wp2_with fail
    refine (wboth_v HH.out w.heap.size (w.heap.size + 1) _ wa wd).mono ?_; rintro e w4 ⟨rfl, x4⟩
    have va := wa.ext x4
    have vd := wd.ext x4
    have a0 := va.c0; have a1 := va.c1; have b0 := vd.c0; have b1 := vd.c1
    have g4 := x4.block g0
    have y4 := x3.trans x4
    clear wa wd g0 va vd x3 x4
    by_cases hk : f + c ≤ g + d
    · have e1 : min (f + c) (g + d) = f + c := by omega
      have E1 := Lib.hid e1
      clear e1
      go_wp2_with (first | (refine wpList_store_row rfl 23 (.tmp 4) (.tmp 32) rfl (w.heap.size + 1 + 1) _ rfl rfl 23 _ g4 (by kernel_rfl) rfl (by simp [Value.oneCell']) ?_))
      refine bodyPost_ret (results_cell_row rfl _ _ (w.heap.size + 1 + 1) 23 _ (0, 0) _ rfl (setRow_heap _ _ _ _ _ _ g4) Try.underlying23 rfl (by kernel_rfl)) rfl ⟨?_, below_setRow y4 (by omega) _⟩
      rw [← HE.out, E1.out]
    · have e1 : min (f + c) (g + d) = g + d := by omega
      have E1 := Lib.hid e1
      clear e1
      go_wp2_with (first | (refine wpList_store_row rfl 23 (.tmp 4) (.tmp 32) rfl (w.heap.size + 1 + 1) _ rfl rfl 23 _ g4 (by kernel_rfl) rfl (by simp [Value.oneCell']) ?_))
      refine bodyPost_ret (results_cell_row rfl _ _ (w.heap.size + 1 + 1) 23 _ (0, 0) _ rfl (setRow_heap _ _ _ _ _ _ g4) Try.underlying23 rfl (by kernel_rfl)) rfl ⟨?_, below_setRow y4 (by omega) _⟩
      rw [← HE.out, E1.out]
  · have hh : (hasB f c g && hasB g d g) = false := by rw [Bool.and_eq_false_iff, hasB_no, hasB_no]; omega
    have hE : Value.agg #[.int .i64 0, .int .i64 0] = .agg #[.int .i64 F, .int .i64 C] := by rw [hF, hC, h11, h12]
    have HE := Lib.hid hE
    have HH := Lib.hid hh
    clear h hF hC h11 h12 hh hE h1
    go_enter Try.func15, Try.ntmps15
    go_wp2_with fail
    refine (wboth_v HH.out w.heap.size (w.heap.size + 1) _ wa wd).mono ?_; rintro e w4 ⟨rfl, x4⟩
    have g4 := x4.block g0
    have y4 := x3.trans x4
    clear wa wd g0 x3 x4
    go_wp2_with (first | (refine wpList_store_row rfl 23 (.tmp 4) (.tmp 17) rfl (w.heap.size + 1 + 1) _ rfl rfl 23 _ g4 (by kernel_rfl) rfl (by simp [Value.oneCell']) ?_))
    refine bodyPost_ret (results_cell_row rfl _ _ (w.heap.size + 1 + 1) 23 _ (0, 0) _ rfl (setRow_heap _ _ _ _ _ _ g4) Try.underlying23 rfl (by kernel_rfl)) rfl ⟨?_, below_setRow y4 (by omega) _⟩
    rw [← HE.out]
set_option maxHeartbeats 2000000 in
theorem wcut_ge (f c g d : Int) (w : World) (hm : g ≤ f) : Calls Try.prog 15 #[.agg #[.int .i64 f, .int .i64 c], .agg #[.int .i64 g, .int .i64 d]] w fun e w' => e = .returned (.agg #[.int .i64 (cutF f c g d), .int .i64 (cutC f c g d)]) ∧ Ext w w' := by
  obtain ⟨x3, wa, wd, g0⟩ := cut_box f c g d w
  obtain ⟨F, hF⟩ : ∃ F, F = cutF f c g d := ⟨_, rfl⟩
  obtain ⟨C, hC⟩ : ∃ C, C = cutC f c g d := ⟨_, rfl⟩
  rw [← hF, ← hC]
  rcases cut_cases f c g d with ⟨h, h1, h2, h3, h4, h5, h6, h7, h8, h9, h10, h11, h12⟩ | ⟨h, h1, h11, h12⟩
  · have hh : (hasB f c f && hasB g d f) = true := by rw [Bool.and_eq_true, hasB_iff, hasB_iff]; omega
    have hE : Value.agg #[.int .i64 f, .int .i64 (min (f + c) (g + d) - f)] = .agg #[.int .i64 F, .int .i64 C] := by
      rw [hF, hC, h11, h12, show max f g = f by omega]
    have HE := Lib.hid hE
    have HH := Lib.hid hh
    clear h hF hC h11 h12 hh hE
    go_enter Try.func15, Try.ntmps15
    go_wp2_with fail
    refine (wboth_v HH.out w.heap.size (w.heap.size + 1) _ wa wd).mono ?_; rintro e w4 ⟨rfl, x4⟩
    have va := wa.ext x4
    have vd := wd.ext x4
    have a0 := va.c0; have a1 := va.c1; have b0 := vd.c0; have b1 := vd.c1
    have g4 := x4.block g0
    have y4 := x3.trans x4
    clear wa wd g0 va vd x3 x4
    by_cases hk : f + c ≤ g + d
    · have e1 : min (f + c) (g + d) = f + c := by omega
      have E1 := Lib.hid e1
      clear e1
      go_wp2_with (first | (refine wpList_store_row rfl 23 (.tmp 4) (.tmp 32) rfl (w.heap.size + 1 + 1) _ rfl rfl 23 _ g4 (by kernel_rfl) rfl (by simp [Value.oneCell']) ?_))
      refine bodyPost_ret (results_cell_row rfl _ _ (w.heap.size + 1 + 1) 23 _ (0, 0) _ rfl (setRow_heap _ _ _ _ _ _ g4) Try.underlying23 rfl (by kernel_rfl)) rfl ⟨?_, below_setRow y4 (by omega) _⟩
      rw [← HE.out, E1.out]
    · have e1 : min (f + c) (g + d) = g + d := by omega
      have E1 := Lib.hid e1
      clear e1
      go_wp2_with (first | (refine wpList_store_row rfl 23 (.tmp 4) (.tmp 32) rfl (w.heap.size + 1 + 1) _ rfl rfl 23 _ g4 (by kernel_rfl) rfl (by simp [Value.oneCell']) ?_))
      refine bodyPost_ret (results_cell_row rfl _ _ (w.heap.size + 1 + 1) 23 _ (0, 0) _ rfl (setRow_heap _ _ _ _ _ _ g4) Try.underlying23 rfl (by kernel_rfl)) rfl ⟨?_, below_setRow y4 (by omega) _⟩
      rw [← HE.out, E1.out]
  · have hh : (hasB f c f && hasB g d f) = false := by rw [Bool.and_eq_false_iff, hasB_no, hasB_no]; omega
    have hE : Value.agg #[.int .i64 0, .int .i64 0] = .agg #[.int .i64 F, .int .i64 C] := by rw [hF, hC, h11, h12]
    have HE := Lib.hid hE
    have HH := Lib.hid hh
    clear h hF hC h11 h12 hh hE h1
    go_enter Try.func15, Try.ntmps15
    go_wp2_with fail
    refine (wboth_v HH.out w.heap.size (w.heap.size + 1) _ wa wd).mono ?_; rintro e w4 ⟨rfl, x4⟩
    have g4 := x4.block g0
    have y4 := x3.trans x4
    clear wa wd g0 x3 x4
    go_wp2_with (first | (refine wpList_store_row rfl 23 (.tmp 4) (.tmp 17) rfl (w.heap.size + 1 + 1) _ rfl rfl 23 _ g4 (by kernel_rfl) rfl (by simp [Value.oneCell']) ?_))
    refine bodyPost_ret (results_cell_row rfl _ _ (w.heap.size + 1 + 1) 23 _ (0, 0) _ rfl (setRow_heap _ _ _ _ _ _ g4) Try.underlying23 rfl (by kernel_rfl)) rfl ⟨?_, below_setRow y4 (by omega) _⟩
    rw [← HE.out]
theorem wcut_any (f c g d : Int) (w : World) : Calls Try.prog 15 #[.agg #[.int .i64 f, .int .i64 c], .agg #[.int .i64 g, .int .i64 d]] w fun e w' => e = .returned (.agg #[.int .i64 (cutF f c g d), .int .i64 (cutC f c g d)]) ∧ Ext w w' := by
  by_cases h : g ≤ f
  · exact wcut_ge f c g d w h
  · exact wcut_lt f c g d w (by omega)
theorem wcut_v {f c g d F C : Int} (hF : cutF f c g d = F) (hC : cutC f c g d = C) (w : World) : Calls Try.prog 15 #[.agg #[.int .i64 f, .int .i64 c], .agg #[.int .i64 g, .int .i64 d]] w fun e w' => e = .returned (.agg #[.int .i64 F, .int .i64 C]) ∧ Ext w w' := hF ▸ hC ▸ wcut_any f c g d w
end Go.Proofs.Ytpolopggaolodaa
