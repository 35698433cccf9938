/-
  CONTRACTS: bilgeref05.Of.
-/
import Derived.Test.YtdegndoggmlhhaaClockR
import Derived.Test.YtdegndoggmlhhaaStructs
import Derived.Laws.CopyOwn
namespace Go.Proofs.Ytdegndoggmlhhaa
open Go.RowKit

/-- What is told of a line, and whether. -/
def ofRes (b t u : Int) (yes no : Value) : Array Value := if CkOk b t u then #[.agg #[.int .i64 (ckC b t), .int .i64 (ckC b t + ckS b t), .int .i64 (ckC b t + ckL b t), .int .i64 u], yes] else #[.agg #[.int .i64 0, .int .i64 0, .int .i64 0, .int .i64 0], no]
theorem ofRes_no {b t u : Int} (yes no : Value) (h : ¬ CkOk b t u) : ofRes b t u yes no = #[.agg #[.int .i64 0, .int .i64 0, .int .i64 0, .int .i64 0], no] := if_neg h
theorem ofRes_yes {b t u : Int} (yes no : Value) (h : CkOk b t u) : ofRes b t u yes no = #[.agg #[.int .i64 (ckC b t), .int .i64 (ckC b t + ckS b t), .int .i64 (ckC b t + ckL b t), .int .i64 u], yes] := if_pos h
theorem rup_v (a b v : Int) (w : World) (ha : 0 ≤ a) (ha1 : a ≤ 10000000000000) (hb : 0 < b) (hb1 : b ≤ 10000000) (hv : upI a b = v) : Calls Try.prog 23 #[.int .i64 a, .int .i64 b] w fun e w' => e = .returned (.int .i64 v) ∧ w = w' := hv ▸ rup_any a b w ha ha1 hb hb1
/-- The first of the six that is not so. -/
theorem not_in {b t u : Int} (h : ¬ CkIn b t u) : b < 1 ∨ (1 ≤ b ∧ 1000000 < b) ∨ (1 ≤ b ∧ b ≤ 1000000 ∧ t < 1) ∨ (1 ≤ b ∧ b ≤ 1000000 ∧ 1 ≤ t ∧ 1000000000 < t) ∨ (1 ≤ b ∧ b ≤ 1000000 ∧ 1 ≤ t ∧ t ≤ 1000000000 ∧ u < 0) ∨ (1 ≤ b ∧ b ≤ 1000000 ∧ 1 ≤ t ∧ t ≤ 1000000000 ∧ 0 ≤ u ∧ 16777216 < u) := by
  unfold CkIn at h; omega
set_option maxHeartbeats 1000000 in
theorem rof_out (b t u : Int) (w : World) (h : ¬ CkIn b t u) : Calls Try.prog 8 #[.int .i64 b, .int .i64 t, .int .i64 u] w fun e w' => e = .returned (.tuple #[.agg #[.int .i64 0, .int .i64 0, .int .i64 0, .int .i64 0], .bool false]) ∧ Ext w w' := by
  rcases not_in h with h1 | ⟨h1, h2⟩ | ⟨h1, h2, h3⟩ | ⟨h1, h2, h3, h4⟩ | ⟨h1, h2, h3, h4, h5⟩ | ⟨h1, h2, h3, h4, h5, h6⟩
  all_goals
    clear h
    go_enter Try.func8, Try.ntmps8
    go_wp2
    refine bodyPost_ret (results_row_tmp rfl _ _ w.heap.size _ _ _ _ rfl (heap_alloc_new w _) Try.underlying23 rfl (by kernel_rfl)) rfl ⟨rfl, Ext.alloc _ _⟩

set_option maxHeartbeats 2000000 in
theorem rof_in (b t u : Int) (w : World) (h : CkIn b t u) : Calls Try.prog 8 #[.int .i64 b, .int .i64 t, .int .i64 u] w fun e w' => e = .returned (.tuple (ofRes b t u (.bool true) (.bool false))) ∧ Ext w w' := by
  obtain ⟨⟨bC0, bC1⟩, ⟨bS0, bS1⟩, ⟨bL0, bL1⟩⟩ := ck_bds h
  obtain ⟨h1, h2, h3, h4, h5, h6⟩ := id h
  have eC : upI (11 * t) b = ckC b t := rfl
  obtain ⟨R, hR⟩ : ∃ R, R = ofRes b t u (.bool true) (.bool false) := ⟨_, rfl⟩
  rw [← hR]
  obtain ⟨C, hC⟩ : ∃ C, C = ckC b t := ⟨_, rfl⟩
  obtain ⟨S, hS⟩ : ∃ S, S = ckS b t := ⟨_, rfl⟩
  obtain ⟨L, hL⟩ : ∃ L, L = ckL b t := ⟨_, rfl⟩
  have hOk : CkOk b t u ↔ rightB C (C + S) (C + L) u = true := by
    unfold CkOk rightB; rw [decide_eq_true_iff, hC, hS, hL]; exact ⟨fun x => x.2, fun x => ⟨h, x⟩⟩
  have hno : rightB C (C + S) (C + L) u = false → R = #[.agg #[.int .i64 0, .int .i64 0, .int .i64 0, .int .i64 0], .bool false] := fun hr => by
    rw [hR]; exact ofRes_no _ _ fun x => by rw [hOk.1 x] at hr; cases hr
  have hyes : rightB C (C + S) (C + L) u = true → R = #[.agg #[.int .i64 C, .int .i64 (C + S), .int .i64 (C + L), .int .i64 u], .bool true] := fun hr => by
    rw [hR, ofRes_yes _ _ (hOk.2 hr), hC, hS, hL]
  rw [← hC] at bC0 bC1 eC
  rw [← hS] at bS0 bS1
  rw [← hL] at bL0 bL1
  have HNo := Lib.hid hno
  have HYes := Lib.hid hyes
  have HS := Lib.hid hS
  have HL := Lib.hid hL
  clear hC hS hL hOk h hR hno hyes
  by_cases hb : 19200 < b
  · have eS : upI (t * 750) 1000000 = S := by rw [HS.out]; unfold ckS; rw [if_pos hb]
    have eL : upI (t * 1750) 1000000 = L := by rw [HL.out]; unfold ckL; rw [if_pos hb]
    go_enter Try.func8, Try.ntmps8
    go_wp2_with fail
    refine (rup_v (11 * t) b C _ (by omega) (by omega) (by omega) (by omega) eC).mono ?_; rintro e w' ⟨rfl, rfl⟩
    go_wp2_with fail
    refine (rup_any (33 * t) (2 * b) _ (by omega) (by omega) (by omega) (by omega)).mono ?_; rintro e w' ⟨rfl, rfl⟩
    go_wp2_with fail
    refine (rup_any (77 * t) (2 * b) _ (by omega) (by omega) (by omega) (by omega)).mono ?_; rintro e w' ⟨rfl, rfl⟩
    go_wp2_with fail
    refine (rup_v (t * 750) 1000000 S _ (by omega) (by omega) (by omega) (by omega) eS).mono ?_; rintro e w' ⟨rfl, rfl⟩
    go_wp2_with fail
    refine (rup_v (t * 1750) 1000000 L _ (by omega) (by omega) (by omega) (by omega) eL).mono ?_; rintro e w' ⟨rfl, rfl⟩
    go_wp2_with fail
    refine (rright_any C (C + S) (C + L) u _).mono ?_; rintro e w9 ⟨rfl, x9⟩
    have g0 := x9.block (heap_alloc2_old w _ _)
    have g1 := x9.block (heap_alloc2_new w _ _)
    have e9 : Ext w w9 := ((Ext.alloc w _).trans (Ext.alloc _ _)).trans x9
    clear x9 eC eS eL
    cases hr : rightB C (C + S) (C + L) u
    · have HR := Lib.hid (HNo.out hr)
      clear hr
      go_wp2_with (first | (refine wpList_store_row rfl 23 (.tmp 6) (.tmp 69) rfl w.heap.size _ rfl rfl 23 _ g0 (by kernel_rfl) rfl (by simp [Value.oneCell']) ?_))
      refine bodyPost_ret (results_row_tmp rfl _ _ w.heap.size 23 _ (0, 0) _ rfl (setRow_heap _ _ _ _ _ _ g0) Try.underlying23 rfl (by kernel_rfl)) rfl ⟨by rw [HR.out]; rfl, below_setRow e9 (Nat.le_refl _) _⟩
    · have HR := Lib.hid (HYes.out hr)
      clear hr
      go_wp2_with (first | (refine wpList_load_row rfl 23 (.tmp 11) rfl (w.heap.size + 1) rfl 23 _ (0, 0) _ g1 Try.underlying23 rfl (by kernel_rfl) ?_) | (refine wpList_store_row rfl 23 (.tmp 6) (.tmp 70) rfl w.heap.size _ rfl rfl 23 _ g0 (by kernel_rfl) rfl (by simp [Value.oneCell']) ?_))
      refine bodyPost_ret (results_row_tmp rfl _ _ w.heap.size 23 _ (0, 0) _ rfl (setRow_heap _ _ _ _ _ _ g0) Try.underlying23 rfl (by kernel_rfl)) rfl ⟨by rw [HR.out]; rfl, below_setRow e9 (Nat.le_refl _) _⟩
  · have eS : upI (33 * t) (2 * b) = S := by rw [HS.out]; unfold ckS; rw [if_neg hb]
    have eL : upI (77 * t) (2 * b) = L := by rw [HL.out]; unfold ckL; rw [if_neg hb]
    go_enter Try.func8, Try.ntmps8
    go_wp2_with fail
    refine (rup_v (11 * t) b C _ (by omega) (by omega) (by omega) (by omega) eC).mono ?_; rintro e w' ⟨rfl, rfl⟩
    go_wp2_with fail
    refine (rup_v (33 * t) (2 * b) S _ (by omega) (by omega) (by omega) (by omega) eS).mono ?_; rintro e w' ⟨rfl, rfl⟩
    go_wp2_with fail
    refine (rup_v (77 * t) (2 * b) L _ (by omega) (by omega) (by omega) (by omega) eL).mono ?_; rintro e w' ⟨rfl, rfl⟩
    go_wp2_with fail
    refine (rright_any C (C + S) (C + L) u _).mono ?_; rintro e w9 ⟨rfl, x9⟩
    have g0 := x9.block (heap_alloc2_old w _ _)
    have g1 := x9.block (heap_alloc2_new w _ _)
    have e9 : Ext w w9 := ((Ext.alloc w _).trans (Ext.alloc _ _)).trans x9
    clear x9 eC eS eL
    cases hr : rightB C (C + S) (C + L) u
    · have HR := Lib.hid (HNo.out hr)
      clear hr
      go_wp2_with (first | (refine wpList_store_row rfl 23 (.tmp 6) (.tmp 69) rfl w.heap.size _ rfl rfl 23 _ g0 (by kernel_rfl) rfl (by simp [Value.oneCell']) ?_))
      refine bodyPost_ret (results_row_tmp rfl _ _ w.heap.size 23 _ (0, 0) _ rfl (setRow_heap _ _ _ _ _ _ g0) Try.underlying23 rfl (by kernel_rfl)) rfl ⟨by rw [HR.out]; rfl, below_setRow e9 (Nat.le_refl _) _⟩
    · have HR := Lib.hid (HYes.out hr)
      clear hr
      go_wp2_with (first | (refine wpList_load_row rfl 23 (.tmp 11) rfl (w.heap.size + 1) rfl 23 _ (0, 0) _ g1 Try.underlying23 rfl (by kernel_rfl) ?_) | (refine wpList_store_row rfl 23 (.tmp 6) (.tmp 70) rfl w.heap.size _ rfl rfl 23 _ g0 (by kernel_rfl) rfl (by simp [Value.oneCell']) ?_))
      refine bodyPost_ret (results_row_tmp rfl _ _ w.heap.size 23 _ (0, 0) _ rfl (setRow_heap _ _ _ _ _ _ g0) Try.underlying23 rfl (by kernel_rfl)) rfl ⟨by rw [HR.out]; rfl, below_setRow e9 (Nat.le_refl _) _⟩
theorem rof_any (b t u : Int) (w : World) : Calls Try.prog 8 #[.int .i64 b, .int .i64 t, .int .i64 u] w fun e w' => e = .returned (.tuple (ofRes b t u (.bool true) (.bool false))) ∧ Ext w w' := by
  by_cases h : CkIn b t u
  · exact rof_in b t u w h
  · rw [ofRes_no _ _ fun x => h x.1]; exact rof_out b t u w h
end Go.Proofs.Ytdegndoggmlhhaa
