/-
  CONTRACTS: package window (layer 12): structs held against one another; Holds, Meets.
-/
import Derived.Test.YtpolopggaolodaaWinB
namespace Go.Proofs.Ytpolopggaolodaa
open Go.RowKit
set_option linter.unusedVariables false

theorem weqg (op : BinOp) (x y : Operand) (xs ys : Array Value) (w : World) : (eqGuard op 23 x y (.agg xs) (.agg ys)).run Try.prog w = .ok () w :=
  run_eqGuard_agg w op _ x y xs ys (by kernel_rfl)
theorem weqIn (f c g d : Int) (w : World) : (Op.equalIn 10000 23 (.agg #[.int .i64 f, .int .i64 c]) (.agg #[.int .i64 g, .int .i64 d])).run Try.prog w = .ok (eqW f c g d) w := by
  rw [run_equalIn_struct w 9999 _ _ _ (by kernel_rfl) (by kernel_rfl)]
  have hi := Try.underlying3
  simp [Program.fieldsOf, Try.underlying23, Op.eqFields, go_sem, hi]
  by_cases h1 : f = g
  · by_cases h2 : c = d
    · rw [if_pos h1, if_pos h2, (eqW_iff f c g d).2 ⟨h1, h2⟩]
    · rw [if_pos h1, if_neg h2, show eqW f c g d = false from decide_eq_false fun k => h2 k.2]
  · rw [if_neg h1, show eqW f c g d = false from decide_eq_false fun k => h1 k.1]
theorem weql (f c g d : Int) (w : World) : (binOp .eql 23 (.agg #[.int .i64 f, .int .i64 c]) (.agg #[.int .i64 g, .int .i64 d])).run Try.prog w = .ok (.bool (eqW f c g d)) w := by
  rw [run_eql_struct, weqIn]; rfl
theorem wneq (f c g d : Int) (w : World) : (binOp .neq 23 (.agg #[.int .i64 f, .int .i64 c]) (.agg #[.int .i64 g, .int .i64 d])).run Try.prog w = .ok (.bool (!eqW f c g d)) w := by
  rw [run_neq_struct, weqIn]; rfl
theorem weql_v {f c g d : Int} {B : Bool} (h : eqW f c g d = B) (w : World) : (binOp .eql 23 (.agg #[.int .i64 f, .int .i64 c]) (.agg #[.int .i64 g, .int .i64 d])).run Try.prog w = .ok (.bool B) w := h ▸ weql f c g d w
theorem wneq_v {f c g d : Int} {B : Bool} (h : (!eqW f c g d) = B) (w : World) : (binOp .neq 23 (.agg #[.int .i64 f, .int .i64 c]) (.agg #[.int .i64 g, .int .i64 d])).run Try.prog w = .ok (.bool B) w := h ▸ wneq f c g d w
set_option maxHeartbeats 1000000 in
theorem wholds_any (f c x n : Int) (w : World) : Calls Try.prog 11 #[.agg #[.int .i64 f, .int .i64 c], .int .i64 x, .int .i64 n] w fun e w' => e = .returned (.bool (holdB f c x n)) ∧ Ext w w' := by
  obtain ⟨w2, hw2⟩ : ∃ w2, w2 = (w.alloc (.cells #[.int .i64 f, .int .i64 c] 23)).alloc (.cells #[.int .i64 x, .int .i64 n] 23) := ⟨_, rfl⟩
  have x2 : Ext w w2 := by rw [hw2]; exact (Ext.alloc _ _).alloc' _
  have a0 : w2.cell? ⟨w.heap.size, 0, none⟩ = some (.int .i64 f) := by rw [hw2]; exact (Ext.alloc _ _).made 0 _ rfl
  have a1 : w2.cell? ⟨w.heap.size, 1, none⟩ = some (.int .i64 c) := by rw [hw2]; exact (Ext.alloc _ _).made 1 _ rfl
  have b0 : w2.cell? ⟨w.heap.size + 1, 0, none⟩ = some (.int .i64 x) := by rw [hw2]; simp
  have b1 : w2.cell? ⟨w.heap.size + 1, 1, none⟩ = some (.int .i64 n) := by rw [hw2]; simp
  have A0 := Later.cell a0; have A1 := Later.cell a1; have B0 := Later.cell b0; have B1 := Later.cell b1
  by_cases hn : 0 < n
  · have he := hold_cut (f := f) (c := c) (x := x) hn
    obtain ⟨F, hF⟩ : ∃ F, cutF f c x n = F := ⟨_, rfl⟩
    obtain ⟨C, hC⟩ : ∃ C, cutC f c x n = C := ⟨_, rfl⟩
    rw [hF, hC] at he
    generalize holdB f c x n = B at he ⊢
    have hq := fun w => weql_v he w
    have hg := fun x y xs ys w => weqg .eql x y xs ys w
    have hd : decide (0 < n) = true := decide_eq_true hn
    have HC := Lib.hid (fun w => wcut_v hF hC w)
    clear hF hC he hn
    go_enter Try.func11, Try.ntmps11
    go_wp2
    rw [← hw2]
    clear hw2
    refine wp_region_later (by kernel_rfl) (by kernel_rfl) ?_
    repeat (go_big_quiet_step (first | (go_at_call 15; exact later_of (HC.out _))))
    refine wpQuiet_nil ?_
    intro _ hw'
    obtain ⟨x, rfl⟩ := hw'
    have e1 := x2.trans x.ext
    generalize x.at = w9 at e1 ⊢
    go_wp2
    go_ret
    exact ⟨rfl, e1⟩
  · rw [hold_no hn]
    have hd : decide (0 < n) = false := decide_eq_false hn
    clear hn
    go_enter Try.func11, Try.ntmps11
    go_wp2
    rw [← hw2]
    clear hw2
    refine wp_region_later (by kernel_rfl) (by kernel_rfl) ?_
    repeat (go_big_quiet_step (fail))
    refine wpQuiet_nil ?_
    intro _ hw'
    obtain ⟨x, rfl⟩ := hw'
    have e1 := x2.trans x.ext
    generalize x.at = w9 at e1 ⊢
    go_wp2
    go_ret
    exact ⟨rfl, e1⟩
theorem wholds_v {f c x n : Int} {B : Bool} (h : holdB f c x n = B) (w : World) : Calls Try.prog 11 #[.agg #[.int .i64 f, .int .i64 c], .int .i64 x, .int .i64 n] w fun e w' => e = .returned (.bool B) ∧ Ext w w' := h ▸ wholds_any f c x n w
theorem trm_in {x n : Int} (h0 : (Lit.int .i64 n).wf = true) (h1 : (Lit.int .i64 x).wf = true) : -9223372036854775808 ≤ n ∧ n ≤ 9223372036854775807 ∧ -9223372036854775808 ≤ x ∧ x ≤ 9223372036854775807 := by
  simp [Lit.wf, IntKind.min, IntKind.max, IntKind.signed, IntKind.bits] at h0 h1; omega
set_option maxHeartbeats 2000000 in
theorem wtrim_any (x n : Int) (w : World) (hb : -9223372036854775808 ≤ n ∧ n ≤ 9223372036854775807 ∧ -9223372036854775808 ≤ x ∧ x ≤ 9223372036854775807) : Calls Try.prog 18 #[.int .i64 x, .int .i64 n] w fun e w' => e = .returned (.agg #[.int .i64 (trmF x), .int .i64 (trmC x n)]) ∧ Ext w w' := by
  obtain ⟨F, hF⟩ : ∃ F, F = trmF x := ⟨_, rfl⟩
  obtain ⟨C, hC⟩ : ∃ C, C = trmC x n := ⟨_, rfl⟩
  have x2 := Ext.alloc w (.cells #[.int .i64 0, .int .i64 0] 23)
  have g0 := heap_alloc_new w (.cells #[.int .i64 0, .int .i64 0] 23)
  have hF' : F = max x 0 := hF
  have hC' : C = if 0 < n then min (n + min x 0) (65536 - max x 0) else min n (65536 - max x 0) := hC
  rw [← hF, ← hC]
  obtain ⟨b0, b1, b2, b3⟩ := hb
  have HX : ∀ y z, y = F → z = C → Value.agg #[.int .i64 y, .int .i64 z] = .agg #[.int .i64 F, .int .i64 C] := fun y z h1 h2 => by rw [h1, h2]
  have HF := Lib.hid hF'
  have HC := Lib.hid hC'
  have HH := Lib.hid HX
  clear hF hC hF' hC' HX
  by_cases hn : 0 < n
  · go_enter Try.func18, Try.ntmps18
    go_wp2_with (first | (refine wpList_store_row rfl 23 (.tmp 4) (.tmp 18) rfl w.heap.size _ rfl rfl 23 _ g0 (by kernel_rfl) rfl (by simp [Value.oneCell']) ?_))
    all_goals
      refine bodyPost_ret (results_cell_row rfl _ _ w.heap.size 23 _ (0, 0) _ rfl (setRow_heap _ _ _ _ _ _ g0) Try.underlying23 rfl (by kernel_rfl)) rfl ⟨?_, below_setRow x2 (Nat.le_refl _) _⟩
      exact congrArg Ending.returned (HH.out _ _ (by have := HF.out; omega) (by have h := HC.out; rw [if_pos hn] at h; omega))
  · go_enter Try.func18, Try.ntmps18
    go_wp2_with (first | (refine wpList_store_row rfl 23 (.tmp 4) (.tmp 18) rfl w.heap.size _ rfl rfl 23 _ g0 (by kernel_rfl) rfl (by simp [Value.oneCell']) ?_))
    all_goals
      refine bodyPost_ret (results_cell_row rfl _ _ w.heap.size 23 _ (0, 0) _ rfl (setRow_heap _ _ _ _ _ _ g0) Try.underlying23 rfl (by kernel_rfl)) rfl ⟨?_, below_setRow x2 (Nat.le_refl _) _⟩
      exact congrArg Ending.returned (HH.out _ _ (by have := HF.out; omega) (by have h := HC.out; rw [if_neg (show ¬ 0 < n by omega)] at h; omega))
theorem wtrim_v {x n F C : Int} (hF : trmF x = F) (hC : trmC x n = C) (hb : -9223372036854775808 ≤ n ∧ n ≤ 9223372036854775807 ∧ -9223372036854775808 ≤ x ∧ x ≤ 9223372036854775807) (w : World) :
    Calls Try.prog 18 #[.int .i64 x, .int .i64 n] w fun e w' => e = .returned (.agg #[.int .i64 F, .int .i64 C]) ∧ Ext w w' := hF ▸ hC ▸ wtrim_any x n w hb
set_option maxHeartbeats 1000000 in
theorem wmeets_any (f c x n : Int) (w : World) (hb : -9223372036854775808 ≤ n ∧ n ≤ 9223372036854775807 ∧ -9223372036854775808 ≤ x ∧ x ≤ 9223372036854775807) :
    Calls Try.prog 13 #[.agg #[.int .i64 f, .int .i64 c], .int .i64 x, .int .i64 n] w fun e w' => e = .returned (.bool (meetB f c x n)) ∧ Ext w w' := by
  obtain ⟨w2, hw2⟩ : ∃ w2, w2 = w.alloc (.cells #[.int .i64 f, .int .i64 c] 23) := ⟨_, rfl⟩
  have x2 : Ext w w2 := by rw [hw2]; exact Ext.alloc _ _
  have a0 : w2.cell? ⟨w.heap.size, 0, none⟩ = some (.int .i64 f) := by rw [hw2]; exact (Ext.refl _).made 0 _ rfl
  have a1 : w2.cell? ⟨w.heap.size, 1, none⟩ = some (.int .i64 c) := by rw [hw2]; exact (Ext.refl _).made 1 _ rfl
  have A0 := Later.cell a0; have A1 := Later.cell a1
  have he := meet_cut f c x n
  have h1 : (!eqW (cutF f c (trmF x) (trmC x n)) (cutC f c (trmF x) (trmC x n)) 0 0) = meetB f c x n := by rw [he, Bool.not_not]
  obtain ⟨X, hX⟩ : ∃ X, trmF x = X := ⟨_, rfl⟩
  obtain ⟨N, hN⟩ : ∃ N, trmC x n = N := ⟨_, rfl⟩
  rw [hX, hN] at h1
  obtain ⟨F, hF⟩ : ∃ F, cutF f c X N = F := ⟨_, rfl⟩
  obtain ⟨C, hC⟩ : ∃ C, cutC f c X N = C := ⟨_, rfl⟩
  rw [hF, hC] at h1
  generalize meetB f c x n = B at h1 ⊢
  have hq := fun w => wneq_v h1 w
  have hg := fun x y xs ys w => weqg .neq x y xs ys w
  have HT := Lib.hid (fun w => wtrim_v hX hN hb w)
  have HC := Lib.hid (fun w => wcut_v hF hC w)
  clear hF hC he h1 hX hN hb
  go_enter Try.func13, Try.ntmps13
  go_wp2
  rw [← hw2]
  clear hw2
  refine wp_region_later (by kernel_rfl) (by kernel_rfl) ?_
  repeat (go_big_quiet_step (first | (go_at_call 18; exact later_of (HT.out _)) | (go_at_call 15; exact later_of (HC.out _))))
  refine wpQuiet_nil ?_
  intro _ hw'
  obtain ⟨x, rfl⟩ := hw'
  have e1 := x2.trans x.ext
  generalize x.at = w9 at e1 ⊢
  go_wp2
  go_ret
  exact ⟨rfl, e1⟩
theorem wmeets_v {f c x n : Int} {B : Bool} (h : meetB f c x n = B) (hb : -9223372036854775808 ≤ n ∧ n ≤ 9223372036854775807 ∧ -9223372036854775808 ≤ x ∧ x ≤ 9223372036854775807) (w : World) : Calls Try.prog 13 #[.agg #[.int .i64 f, .int .i64 c], .int .i64 x, .int .i64 n] w fun e w' => e = .returned (.bool B) ∧ Ext w w' := h ▸ wmeets_any f c x n w hb
end Go.Proofs.Ytpolopggaolodaa
