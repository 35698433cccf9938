/-
  CONTRACTS: package clock, Of.
-/
import Derived.Test.YtdegndoggmlhhaaClockA
namespace Go.Proofs.Ytdegndoggmlhhaa
open Go.RowKit

/-- The rounding that Of hands on: it reads the ticks of a second in the cell of block T. -/
def upF (T : Nat) : Value := .func (.func 21) #[] #[.pointer (some ⟨T, 0, none⟩)]
theorem kup_v (n d t v : Int) (T : Nat) (w : World) (h0 : 0 ≤ n * t) (h1 : n * t ≤ 2000000000000) (hd : 1 ≤ d) (hd1 : d ≤ 2000000) (hT : w.cell? ⟨T, 0, none⟩ = some (.int .i64 t)) (hv : upI (n * t) d = v) : Calls Try.prog 21 #[.int .i64 n, .int .i64 d, .pointer (some ⟨T, 0, none⟩)] w fun e w' => e = .returned (.int .i64 v) ∧ w = w' :=
  hv ▸ kup_any n d t T w h0 h1 hd hd1 hT
set_option maxHeartbeats 1000000 in
theorem ksil_any (b t u : Int) (T : Nat) (w : World) (h : CkIn b t u) (hT : w.cell? ⟨T, 0, none⟩ = some (.int .i64 t)) : Calls Try.prog 28 #[.int .i64 b, .func (.func 21) #[] #[.pointer (some ⟨T, 0, none⟩)]] w fun e w' => e = .returned (.tuple #[.int .i64 (ckS b t), .int .i64 (ckL b t)]) ∧ w = w' := by
  obtain ⟨h1, h2, h3, h4, _, _⟩ := h
  obtain ⟨S, hS⟩ : ∃ S, S = ckS b t := ⟨_, rfl⟩
  obtain ⟨L, hL⟩ : ∃ L, L = ckL b t := ⟨_, rfl⟩
  rw [← hS, ← hL]
  by_cases hb : 19200 < b
  · have eS : upI (750 * t) 1000000 = S := by rw [hS]; unfold ckS; rw [if_pos hb, Int.mul_comm]
    have eL : upI (1750 * t) 1000000 = L := by rw [hL]; unfold ckL; rw [if_pos hb, Int.mul_comm]
    have ES := Lib.hid eS
    have EL := Lib.hid eL
    clear hS hL eS eL
    go_enter Try.func28, Try.ntmps28
    go_wp2_with fail
    refine (kup_v 750 1000000 t S T _ (by omega) (by omega) (by omega) (by omega) hT ES.out).mono ?_; rintro e w' ⟨rfl, rfl⟩
    go_wp2_with fail
    refine (kup_v 1750 1000000 t L T _ (by omega) (by omega) (by omega) (by omega) hT EL.out).mono ?_; rintro e w' ⟨rfl, rfl⟩
    go_wp2
    go_ret2
    exact ⟨rfl, rfl⟩
  · have eS : upI (33 * t) (2 * b) = S := by rw [hS]; unfold ckS; rw [if_neg hb]
    have eL : upI (77 * t) (2 * b) = L := by rw [hL]; unfold ckL; rw [if_neg hb]
    have ES := Lib.hid eS
    have EL := Lib.hid eL
    clear hS hL eS eL
    go_enter Try.func28, Try.ntmps28
    go_wp2_with fail
    refine (kup_v 33 (2 * b) t S T _ (by omega) (by omega) (by omega) (by omega) hT ES.out).mono ?_; rintro e w' ⟨rfl, rfl⟩
    go_wp2_with fail
    refine (kup_v 77 (2 * b) t L T _ (by omega) (by omega) (by omega) (by omega) hT EL.out).mono ?_; rintro e w' ⟨rfl, rfl⟩
    go_wp2
    go_ret2
    exact ⟨rfl, rfl⟩
set_option maxHeartbeats 1000000 in
theorem kline_any (b t u : Int) (T : Nat) (w : World) (h : CkIn b t u) (hT : w.cell? ⟨T, 0, none⟩ = some (.int .i64 t)) : Calls Try.prog 22 #[.int .i64 b, .int .i64 u, .func (.func 21) #[] #[.pointer (some ⟨T, 0, none⟩)]] w fun e w' => e = .returned (.agg #[.int .i64 (ckC b t), .int .i64 (ckC b t + ckS b t), .int .i64 (ckC b t + ckL b t), .int .i64 u]) ∧ Ext w w' := by
  obtain ⟨⟨bC0, bC1⟩, ⟨bS0, bS1⟩, ⟨bL0, bL1⟩⟩ := ck_bds h
  have HI := Lib.hid h
  obtain ⟨h1, h2, h3, h4, _, _⟩ := id h
  clear h
  have hT1 := (Ext.alloc w (.cells #[.int .i64 0, .int .i64 0, .int .i64 0, .int .i64 0] 23)).cell (World.block_lt_of_cell? w _ hT) hT
  have HS := Lib.hid (fun w (h : w.cell? ⟨T, 0, none⟩ = some (.int .i64 t)) => ksil_any b t u T w HI.out h)
  have eC : upI (11 * t) b = ckC b t := rfl
  generalize ckC b t = C at *
  generalize ckS b t = S at *
  generalize ckL b t = L at *
  have EC := Lib.hid eC
  clear eC
  go_enter Try.func22, Try.ntmps22
  go_wp2_with fail
  refine (kup_v 11 b t C T _ (by omega) (by omega) (by omega) (by omega) hT1 EC.out).mono ?_; rintro e w' ⟨rfl, rfl⟩
  go_wp2_with fail
  refine (HS.out _ hT1).mono ?_; rintro e w' ⟨rfl, rfl⟩
  have g0 := heap_alloc_new w (.cells #[.int .i64 0, .int .i64 0, .int .i64 0, .int .i64 0] 23)
  go_wp2_with (first | (refine wpList_store_row rfl 23 (.tmp 6) (.tmp 27) rfl w.heap.size _ rfl rfl 23 _ g0 (by kernel_rfl) rfl (by simp [Value.oneCell']) ?_))
  refine bodyPost_ret (results_cell_row rfl _ _ w.heap.size 23 _ (0, 0) _ rfl (setRow_heap _ _ _ _ _ _ g0) Try.underlying23 rfl (by kernel_rfl)) rfl ⟨rfl, below_setRow (Ext.alloc w _) (Nat.le_refl _) _⟩
theorem kwithin_v (n a b : Int) (B : Bool) (w : World) (h : decide (a ≤ n ∧ n ≤ b) = B) : Calls Try.prog 20 #[.int .i64 n, .int .i64 a, .int .i64 b] w fun e w' => e = .returned (.bool B) ∧ w = w' := h ▸ kwithin_any n a b w
theorem in_no {b t u : Int} (h : ¬ CkIn b t u) : decide (1 ≤ b ∧ b ≤ 1000000) = false ∨ (decide (1 ≤ b ∧ b ≤ 1000000) = true ∧ decide (1 ≤ t ∧ t ≤ 1000000000) = false) ∨ (decide (1 ≤ b ∧ b ≤ 1000000) = true ∧ decide (1 ≤ t ∧ t ≤ 1000000000) = true ∧ decide (0 ≤ u ∧ u ≤ 16777216) = false) := by
  simp only [decide_eq_false_iff_not, decide_eq_true_eq]; unfold CkIn at h; omega
theorem in_yes {b t u : Int} (h : CkIn b t u) : decide (1 ≤ b ∧ b ≤ 1000000) = true ∧ decide (1 ≤ t ∧ t ≤ 1000000000) = true ∧ decide (0 ≤ u ∧ u ≤ 16777216) = true := by
  simp only [decide_eq_true_eq]; unfold CkIn at h; omega
set_option maxHeartbeats 1000000 in
theorem kof_out (b t u : Int) (w : World) (h : ¬ CkIn b t u) : Calls Try.prog 7 #[.int .i64 b, .int .i64 t, .int .i64 u] w fun e w' => e = .returned (.tuple #[.agg #[.int .i64 0, .int .i64 0, .int .i64 0, .int .i64 0], .int .i64 11]) ∧ Ext w w' := by
  have x2 : Ext w ((w.alloc (.cells #[.int .i64 t] 3)).alloc (.cells #[.int .i64 0, .int .i64 0, .int .i64 0, .int .i64 0] 23)) := (Ext.alloc w _).trans (Ext.alloc _ _)
  have g0 := heap_alloc_new (w.alloc (.cells #[.int .i64 t] 3)) (.cells #[.int .i64 0, .int .i64 0, .int .i64 0, .int .i64 0] 23)
  have hs : (w.alloc (.cells #[.int .i64 t] 3)).heap.size = w.heap.size + 1 := by simp
  rw [hs] at g0
  rcases in_no h with h1 | ⟨h1, h2⟩ | ⟨h1, h2, h3⟩
  · have H1 := Lib.hid h1
    clear h h1
    go_enter Try.func7, Try.ntmps7
    go_wp2_with fail
    refine (kwithin_v b 1 1000000 _ _ H1.out).mono ?_; rintro e w' ⟨rfl, rfl⟩
    go_wp2_with (first | (refine wpList_store_row rfl 23 (.tmp 6) (.tmp 23) rfl (w.heap.size + 1) _ rfl rfl 23 _ g0 (by kernel_rfl) rfl (by simp [Value.oneCell']) ?_))
    refine bodyPost_ret (results_row_tmp rfl _ _ (w.heap.size + 1) 23 _ (0, 0) _ rfl (setRow_heap _ _ _ _ _ _ g0) Try.underlying23 rfl (by kernel_rfl)) rfl ⟨rfl, below_setRow x2 (Nat.le_succ _) _⟩
  · have H1 := Lib.hid h1
    have H2 := Lib.hid h2
    clear h h1 h2
    go_enter Try.func7, Try.ntmps7
    go_wp2_with fail
    refine (kwithin_v b 1 1000000 _ _ H1.out).mono ?_; rintro e w' ⟨rfl, rfl⟩
    go_wp2_with fail
    refine (kwithin_v t 1 1000000000 _ _ H2.out).mono ?_; rintro e w' ⟨rfl, rfl⟩
    go_wp2_with (first | (refine wpList_store_row rfl 23 (.tmp 6) (.tmp 23) rfl (w.heap.size + 1) _ rfl rfl 23 _ g0 (by kernel_rfl) rfl (by simp [Value.oneCell']) ?_))
    refine bodyPost_ret (results_row_tmp rfl _ _ (w.heap.size + 1) 23 _ (0, 0) _ rfl (setRow_heap _ _ _ _ _ _ g0) Try.underlying23 rfl (by kernel_rfl)) rfl ⟨rfl, below_setRow x2 (Nat.le_succ _) _⟩
  · have H1 := Lib.hid h1
    have H2 := Lib.hid h2
    have H3 := Lib.hid h3
    clear h h1 h2 h3
    go_enter Try.func7, Try.ntmps7
    go_wp2_with fail
    refine (kwithin_v b 1 1000000 _ _ H1.out).mono ?_; rintro e w' ⟨rfl, rfl⟩
    go_wp2_with fail
    refine (kwithin_v t 1 1000000000 _ _ H2.out).mono ?_; rintro e w' ⟨rfl, rfl⟩
    go_wp2_with fail
    refine (kwithin_v u 0 16777216 _ _ H3.out).mono ?_; rintro e w' ⟨rfl, rfl⟩
    go_wp2_with (first | (refine wpList_store_row rfl 23 (.tmp 6) (.tmp 23) rfl (w.heap.size + 1) _ rfl rfl 23 _ g0 (by kernel_rfl) rfl (by simp [Value.oneCell']) ?_))
    refine bodyPost_ret (results_row_tmp rfl _ _ (w.heap.size + 1) 23 _ (0, 0) _ rfl (setRow_heap _ _ _ _ _ _ g0) Try.underlying23 rfl (by kernel_rfl)) rfl ⟨rfl, below_setRow x2 (Nat.le_succ _) _⟩
set_option maxHeartbeats 2000000 in
theorem kof_in (b t u : Int) (w : World) (h : CkIn b t u) : Calls Try.prog 7 #[.int .i64 b, .int .i64 t, .int .i64 u] w fun e w' => e = .returned (.tuple (ofRes b t u (.int .i64 0) (.int .i64 11))) ∧ Ext w w' := by
  obtain ⟨⟨bC0, bC1⟩, ⟨bS0, bS1⟩, ⟨bL0, bL1⟩⟩ := ck_bds h
  obtain ⟨i1, i2, i3⟩ := in_yes h
  have H1 := Lib.hid i1
  have H2 := Lib.hid i2
  have H3 := Lib.hid i3
  have HI := Lib.hid h
  obtain ⟨_, _, _, _, u0, u1⟩ := id h
  have HLine := Lib.hid (fun T w (hT : w.cell? ⟨T, 0, none⟩ = some (.int .i64 t)) => kline_any b t u T w HI.out hT)
  obtain ⟨R, hR⟩ : ∃ R, R = ofRes b t u (.int .i64 0) (.int .i64 11) := ⟨_, rfl⟩
  rw [← hR]
  obtain ⟨C, hC⟩ : ∃ C, C = ckC b t := ⟨_, rfl⟩
  obtain ⟨S, hS⟩ : ∃ S, S = ckS b t := ⟨_, rfl⟩
  obtain ⟨L, hL⟩ : ∃ L, L = ckL b t := ⟨_, rfl⟩
  have hOk : CkOk b t u ↔ rightB C (C + S) (C + L) u = true := by
    unfold CkOk rightB; rw [decide_eq_true_iff, hC, hS, hL]; exact ⟨fun x => x.2, fun x => ⟨h, x⟩⟩
  have hno : rightB C (C + S) (C + L) u = false → R = #[.agg #[.int .i64 0, .int .i64 0, .int .i64 0, .int .i64 0], .int .i64 11] := fun hr => by
    rw [hR]; exact ofRes_no _ _ fun x => by rw [hOk.1 x] at hr; cases hr
  have hyes : rightB C (C + S) (C + L) u = true → R = #[.agg #[.int .i64 C, .int .i64 (C + S), .int .i64 (C + L), .int .i64 u], .int .i64 0] := fun hr => by
    rw [hR, ofRes_yes _ _ (hOk.2 hr), hC, hS, hL]
  rw [← hC, ← hS, ← hL] at HLine
  rw [← hC] at bC0 bC1
  rw [← hS] at bS0 bS1
  rw [← hL] at bL0 bL1
  have HNo := Lib.hid hno
  have HYes := Lib.hid hyes
  have x2 : Ext w ((w.alloc (.cells #[.int .i64 t] 3)).alloc (.cells #[.int .i64 0, .int .i64 0, .int .i64 0, .int .i64 0] 23)) := (Ext.alloc w _).trans (Ext.alloc _ _)
  have g0 := heap_alloc_new (w.alloc (.cells #[.int .i64 t] 3)) (.cells #[.int .i64 0, .int .i64 0, .int .i64 0, .int .i64 0] 23)
  have hs : (w.alloc (.cells #[.int .i64 t] 3)).heap.size = w.heap.size + 1 := by simp
  rw [hs] at g0
  have cT : ((w.alloc (.cells #[.int .i64 t] 3)).alloc (.cells #[.int .i64 0, .int .i64 0, .int .i64 0, .int .i64 0] 23)).cell? ⟨w.heap.size, 0, none⟩ = some (.int .i64 t) :=
    (Ext.alloc _ _).made 0 _ rfl
  clear hC hS hL hOk h hR hno hyes i1 i2 i3 hs
  go_enter Try.func7, Try.ntmps7
  go_wp2_with fail
  refine (kwithin_v b 1 1000000 _ _ H1.out).mono ?_; rintro e w' ⟨rfl, rfl⟩
  go_wp2_with fail
  refine (kwithin_v t 1 1000000000 _ _ H2.out).mono ?_; rintro e w' ⟨rfl, rfl⟩
  go_wp2_with fail
  refine (kwithin_v u 0 16777216 _ _ H3.out).mono ?_; rintro e w' ⟨rfl, rfl⟩
  go_wp2_with fail
  refine (HLine.out w.heap.size _ cT).mono ?_; rintro e w3 ⟨rfl, x3⟩
  have g3 := x3.block g0
  have y3 := x2.trans x3
  clear cT x2 x3 g0
  go_wp2_with fail
  refine (kright0 C (C + S) (C + L) u _).mono ?_; rintro e w5 ⟨rfl, x5⟩
  have g5 := x5.block ((Ext.alloc _ _).block g3)
  have k5 := x5.block (heap_alloc_new w3 _)
  have y5 := (y3.trans (Ext.alloc _ _)).trans x5
  obtain ⟨B, hB⟩ : ∃ B, B = w3.heap.size := ⟨_, rfl⟩
  rw [← hB] at k5 ⊢
  clear y3 x5 g3 hB
  cases hr : rightB C (C + S) (C + L) u
  · have HR := Lib.hid (HNo.out hr)
    clear hr
    go_wp2_with (first | (refine wpList_store_row rfl 23 (.tmp 6) (.tmp 32) rfl (w.heap.size + 1) _ rfl rfl 23 _ g5 (by kernel_rfl) rfl (by simp [Value.oneCell']) ?_))
    refine bodyPost_ret (results_row_tmp rfl _ _ (w.heap.size + 1) 23 _ (0, 0) _ rfl (setRow_heap _ _ _ _ _ _ g5) Try.underlying23 rfl (by kernel_rfl)) rfl ⟨by rw [HR.out]; rfl, below_setRow y5 (Nat.le_succ _) _⟩
  · have HR := Lib.hid (HYes.out hr)
    clear hr
    go_wp2_with (first | (refine wpList_load_row rfl 23 (.tmp 9) rfl B rfl 23 _ (0, 0) _ k5 Try.underlying23 rfl (by kernel_rfl) ?_) | (refine wpList_store_row rfl 23 (.tmp 6) (.tmp 33) rfl (w.heap.size + 1) _ rfl rfl 23 _ g5 (by kernel_rfl) rfl (by simp [Value.oneCell']) ?_))
    refine bodyPost_ret (results_row_tmp rfl _ _ (w.heap.size + 1) 23 _ (0, 0) _ rfl (setRow_heap _ _ _ _ _ _ g5) Try.underlying23 rfl (by kernel_rfl)) rfl ⟨by rw [HR.out]; rfl, below_setRow y5 (Nat.le_succ _) _⟩
theorem kof_any (b t u : Int) (w : World) (_hb : (Lit.int .i64 b).wf = true) (_ht : (Lit.int .i64 t).wf = true) (_hu : (Lit.int .i64 u).wf = true) : Calls Try.prog 7 #[.int .i64 b, .int .i64 t, .int .i64 u] w fun e w' => e = .returned (.tuple (ofRes b t u (.int .i64 0) (.int .i64 11))) ∧ Ext w w' := by
  by_cases h : CkIn b t u
  · exact kof_in b t u w h
  · rw [ofRes_no _ _ fun x => h x.1]; exact kof_out b t u w h
end Go.Proofs.Ytdegndoggmlhhaa
