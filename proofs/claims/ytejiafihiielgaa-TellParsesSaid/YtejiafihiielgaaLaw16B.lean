/-
  THE LAWS OF LAYER 16: TellParses, with package tell's Parse and 'sure' as premises.
-/
import Derived.Test.YtejiafihiielgaaTelC
namespace Go.Proofs.Ytejiafihiielgaa
open Go.RowKit
set_option linter.unusedVariables false
set_option maxRecDepth 100000

set_option maxHeartbeats 8000000 in
theorem tellParses.walk0 (V : QstV) (Q : Qst) (a : Option Addr) (n c : Nat) (f : Nat → Int) (w : World) (h : QstAt w V Q) (hq : QstW Q) (nb1 : Q.nb ≤ 1000000000000000) (nr1 : Q.nr ≤ 1000000000000000) (ha : Holds .u8 w a n f) (hnc : n ≤ c) (hcr : c * 1 ≤ 140737488351232) (hwf : ∀ i, i < n → (Lit.int .u8 (f i)).wf = true)
    (hPa : TParseC 18) (sure : ∀ w, Calls Try.prog 8 #[] w fun e w' => e = .returned (.bool true) ∧ Ext w w') :
    Calls Try.prog 4 #[.agg (qstC V Q), .slice a n c] w fun e w' => e = .returned (.bool true) ∧ Ext w w' := by
  have HSU := Lib.hid sure
  have hf : ∀ i, i < n → 0 ≤ f i ∧ f i < 256 := fun i hi => by have := hwf i hi; simp [Lit.wf, IntKind.min, IntKind.max, IntKind.signed, IntKind.bits] at this; omega
  have hcm : c ≤ maxLen := by unfold maxLen; omega
  clear hwf sure
  obtain ⟨W0, hW0, e0, HX⟩ : ∃ W0, W0 = w.alloc (.cells (qstC V Q) 25) ∧ Ext w W0 ∧ Hid (∀ W, Ext W0 W → W.heap[w.heap.size]? = some (.cells (qstC V Q) 25 (0, 0))) := ⟨_, rfl, Ext.alloc w _, Lib.hid fun W hx => hx.block (heap_alloc_new w _)⟩
  have b1 := HX.out _ (Ext.refl W0)
  cases hfw : fewQA Q with
  | false =>
    have KF := Lib.hid (fun W => rfew16A_v (V := V) hfw nb1 nr1 W)
    clear h hq ha hf hfw hPa
    go_enter Try.func4, Try.ntmps4
    go_upto_region 1 with fail
    rw [← hW0]
    clear hW0
    go_wp2_with (first
      | (refine wpList_load_row rfl 25 (.tmp 2) rfl (w.heap.size) rfl 25 _ (0, 0) _ b1 Try.underlying25 rfl (by kernel_rfl) ?_))
    refine (KF.out _).mono ?_; rintro e w3 ⟨rfl, x3⟩
    go_wp2_with fail
    refine (HSU.out _).mono ?_; rintro e w4 ⟨rfl, x4⟩
    go_wp2
    go_ret
    exact ⟨rfl, (e0.trans x3).trans x4⟩
  | true =>
   have KF := Lib.hid (fun W => rfew16A_v (V := V) hfw nb1 nr1 W)
   obtain ⟨m1, m2⟩ := (fewQA_iff Q).1 hfw
   by_cases h6 : 600 < n
   · have h6I : (600 : Int) < n := by omega
     clear h hq ha hf hfw m1 m2 h6 hPa
     go_enter Try.func4, Try.ntmps4
     go_upto_region 1 with fail
     rw [← hW0]
     clear hW0
     go_wp2_with (first
       | (refine wpList_load_row rfl 25 (.tmp 2) rfl (w.heap.size) rfl 25 _ (0, 0) _ b1 Try.underlying25 rfl (by kernel_rfl) ?_))
     refine (KF.out _).mono ?_; rintro e w3 ⟨rfl, x3⟩
     go_wp2_with fail
     refine (HSU.out _).mono ?_; rintro e w4 ⟨rfl, x4⟩
     go_wp2
     go_ret
     exact ⟨rfl, (e0.trans x3).trans x4⟩
   · have h6I : ¬ (600 : Int) < n := by omega
     have KA := Lib.hid (fun W (x : Ext w W) => hPa V Q a n c f W (h.ext x) hq (by omega) (by omega) (ha.ext x) (by omega) hnc hcm hf)
     have KB := Lib.hid (fun W (x : Ext w W) => rparse16_any V Q a n c f W (h.ext x) (by omega) (by omega) (ha.ext x) (by omega) hnc hcm hf)
     have hsm := tpa_R (Q := Q) (n := n) (f := f) (by omega) hf
     have HSm := Lib.hid hsm
     have HSS := Lib.hid (sameT_self (tpaT Q n f))
     generalize tpaT Q n f = T at *
     generalize tpaE Q n f = E at *
     clear h hq ha hf hfw m1 m2 h6 hPa hsm
     go_enter Try.func4, Try.ntmps4
     go_upto_region 1 with fail
     rw [← hW0]
     clear hW0
     go_wp2_with (first
       | (refine wpList_load_row rfl 25 (.tmp 2) rfl (w.heap.size) rfl 25 _ (0, 0) _ b1 Try.underlying25 rfl (by kernel_rfl) ?_))
     refine (KF.out _).mono ?_; rintro e w3 ⟨rfl, x3⟩
     have b3 := HX.out _ x3
     clear b1 KF
     go_wp2_with (first
       | (refine wpList_load_row rfl 25 (.tmp 2) rfl (w.heap.size) rfl 25 _ (0, 0) _ b3 Try.underlying25 rfl (by kernel_rfl) ?_))
     refine (KA.out _ (e0.trans x3)).mono ?_; rintro e w4 ⟨X, rfl, hX, x4⟩
     obtain ⟨W5, hWW5, yW5, rW5⟩ : ∃ W, W = ((w4.alloc (.cells #[.int .i64 0, .int .i64 0, .int .i64 0, .int .i64 0, .int .i64 0, .int .i64 0, .int .i64 0, .slice none 0 0, .slice none 0 0] 28)).setRow w4.heap.size (telC X T)) ∧ Ext w4 W ∧ W.heap[w4.heap.size]? = some (.cells (telC X T) 28 (0, 0)) := ⟨_, rfl, told_row _ _ _ _⟩
     have x5 := (x3.trans x4).trans yW5
     have hX := hX.ext yW5
     have b5 := HX.out _ x5
     have G5 := Lib.hid rW5
     go_upto_region 4 with (first
       | (refine wpList_store_row rfl 28 (.tmp 5) (.tmp 22) rfl _ _ rfl rfl 28 _ (heap_new_at _ _ (by first | rfl | simp)) (by kernel_rfl) rfl (by simp [telC, Value.oneCell']) ?_))
     rw [← hWW5]
     clear hWW5 yW5 rW5 b3 x3 x4 KA
     go_wp2_with (first
       | (refine wpList_load_row rfl 25 (.tmp 2) rfl (w.heap.size) rfl 25 _ (0, 0) _ b5 Try.underlying25 rfl (by kernel_rfl) ?_))
     refine (KB.out _ (e0.trans x5)).mono ?_; rintro e w6 ⟨Y, rfl, hY, x6⟩
     obtain ⟨W7, hWW7, yW7, rW7⟩ : ∃ W, W = ((w6.alloc (.cells #[.int .i64 0, .int .i64 0, .int .i64 0, .int .i64 0, .int .i64 0, .int .i64 0, .int .i64 0, .slice none 0 0, .slice none 0 0] 28)).setRow w6.heap.size (telC Y T)) ∧ Ext w6 W ∧ W.heap[w6.heap.size]? = some (.cells (telC Y T) 28 (0, 0)) := ⟨_, rfl, told_row _ _ _ _⟩
     have x7 := x6.trans yW7
     have hX := hX.ext x7
     have hY := hY.ext yW7
     have g7 := x7.block G5.out
     have g8 := rW7
     go_upto_region 5 with (first
       | (refine wpList_store_row rfl 28 (.tmp 7) (.tmp 28) rfl _ _ rfl rfl 28 _ (heap_new_at _ _ (by first | rfl | simp)) (by kernel_rfl) rfl (by simp [telC, Value.oneCell']) ?_))
     rw [← hWW7]
     clear hWW7 yW7 rW7 b5 KB
     go_wp2_with (first
       | (refine wpList_load_row rfl 28 (.tmp 5) rfl (w4.heap.size) rfl 28 _ (0, 0) _ g7 Try.underlying28 rfl (by kernel_rfl) ?_)
       | (refine wpList_load_row rfl 28 (.tmp 7) rfl (w6.heap.size) rfl 28 _ (0, 0) _ g8 Try.underlying28 rfl (by kernel_rfl) ?_))
     refine (rsame16_any X T Y T W7 hX hY HSm.out.1 HSm.out.2.1 HSm.out.1 HSm.out.2.1).mono ?_; rintro e w8 ⟨rfl, x8⟩
     rw [HSS.out]
     have hEE : (E == E) = true := by simp
     go_wp2_with fail
     refine (HSU.out _).mono ?_; rintro e w9 ⟨rfl, x9⟩
     go_wp2
     go_ret
     exact ⟨rfl, e0.trans (((x5.trans x7).trans x8).trans x9)⟩
end Go.Proofs.Ytejiafihiielgaa
