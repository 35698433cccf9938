/-
  AskParses, with package ask's Parse and 'sure' as premises.
-/
import Derived.Test.YtokfgdjkafiicaaAskN
namespace Go.Proofs.Ytokfgdjkafiicaa
open Go.RowKit
set_option linter.unusedVariables false

theorem sameQ_self (Q : Qst) : sameQ Q Q = true := by simp [sameQ, numsB, eqG, eqB]
/-- What Parse's contract says, whichever package's it is. -/
def ParseC (F : FuncId) : Prop := ∀ (a : Option Addr) (n c : Nat) (f : Nat → Int) (w : World), Holds .u8 w a n f → n ≤ 100000 → n ≤ c → c ≤ maxLen → (∀ i, i < n → 0 ≤ f i ∧ f i < 256) →
    Calls Try.prog F #[.slice a n c] w fun e w' => ∃ V, e = .returned (.tuple #[.agg (qstC V (paQ n f)), .int .i64 (paE n f)]) ∧ QstAt w' V (paQ n f) ∧ Ext w w'
set_option maxRecDepth 100000 in
set_option maxHeartbeats 8000000 in
theorem askParses.walk0 (a : Option Addr) (n c : Nat) (f : Nat → Int) (w : World) (ha : Holds .u8 w a n f) (hn : n ≤ maxLen) (hnc : n ≤ c) (hcm : c ≤ maxLen) (hf : ∀ i, i < n → 0 ≤ f i ∧ f i < 256)
    (hP : ParseC 17) (sure : ∀ w, Calls Try.prog 7 #[] w fun e w' => e = .returned (.bool true) ∧ Ext w w') :
    Calls Try.prog 4 #[.slice a n c] w fun e w' => e = .returned (.bool true) ∧ Ext w w' := by
  have HS := Lib.hid sure
  by_cases h6 : 600 < n
  · have h6I : (600 : Int) < n := by omega
    clear ha hf hP sure h6
    go_enter Try.func4, Try.ntmps4
    go_wp2_with fail
    refine (HS.out _).mono ?_; rintro e w9 ⟨rfl, y9⟩
    go_wp2
    go_ret
    exact ⟨rfl, y9⟩
  · have h6I : ¬ (600 : Int) < n := by omega
    have KP := Lib.hid (fun w' (x : Ext w w') => hP a n c f w' (ha.ext x) (by omega) hnc hcm hf)
    have KR := Lib.hid (fun w' (x : Ext w w') => rparse15_any a n c f w' (ha.ext x) (by omega) hnc hcm hf)
    have hb : (paQ n f).nb ≤ 1000000 ∧ (paQ n f).nr ≤ 1000000 := by
      have := gue_small (n := n) (by omega) hf
      unfold paQ
      split
      · exact ⟨this.1, this.2.1⟩
      · exact ⟨Nat.zero_le _, Nat.zero_le _⟩
    have HB := Lib.hid hb
    have HQ := Lib.hid (sameQ_self (paQ n f))
    generalize paQ n f = Q at *
    generalize paE n f = E at *
    clear ha hf hP sure h6 hb
    go_enter Try.func4, Try.ntmps4
    go_wp2_with fail
    refine (KP.out _ (Ext.refl _)).mono ?_; rintro e w2 ⟨V, rfl, h2, x2⟩
    obtain ⟨W3, hW3, y3, b3⟩ : ∃ W, W = ((w2.alloc (.cells #[.int .i64 0, .int .i64 0, .int .i64 0, .int .i64 0, .int .i64 0, .int .i64 0, .int .i64 0, .int .i64 0, .slice none 0 0, .slice none 0 0] 25)).setRow w2.heap.size (qstC V Q)) ∧ Ext w2 W ∧ W.heap[w2.heap.size]? = some (.cells (qstC V Q) 25 (0, 0)) := ⟨_, rfl, asked_row _ _ _ _⟩
    have h3 := h2.ext y3
    have x3 := x2.trans y3
    clear h2 x2 y3
    go_wp2_with (first
      | (refine wpList_store_row rfl 25 (.tmp 3) (.tmp 14) rfl _ _ rfl rfl 25 _ (heap_new_at _ _ (by first | rfl | simp)) (by kernel_rfl) rfl (by simp [qstC, Value.oneCell']) ?_))
    rw [← hW3]
    clear hW3
    generalize w2.heap.size = G at b3 ⊢
    refine (KR.out _ x3).mono ?_; rintro e w4 ⟨U, rfl, h4, y4⟩
    have h3 := h3.ext y4
    have x4 := x3.trans y4
    have b4 := y4.block b3
    clear b3 x3 y4
    obtain ⟨W5, hW5, y5, b5⟩ : ∃ W, W = ((w4.alloc (.cells #[.int .i64 0, .int .i64 0, .int .i64 0, .int .i64 0, .int .i64 0, .int .i64 0, .int .i64 0, .int .i64 0, .slice none 0 0, .slice none 0 0] 25)).setRow w4.heap.size (qstC U Q)) ∧ Ext w4 W ∧ W.heap[w4.heap.size]? = some (.cells (qstC U Q) 25 (0, 0)) := ⟨_, rfl, asked_row _ _ _ _⟩
    have g3 := h3.ext y5
    have g4 := h4.ext y5
    have x5 := x4.trans y5
    have b4 := y5.block b4
    clear h3 h4 x4 y5
    have b4' := b4
    have b5' := b5
    rw [hW5] at b4' b5'
    go_wp2_with (first
      | (refine wpList_store_row rfl 25 (.tmp 5) (.tmp 19) rfl _ _ rfl rfl 25 _ (heap_new_at _ _ (by first | rfl | simp)) (by kernel_rfl) rfl (by simp [qstC, Value.oneCell']) ?_)
      | (refine wpList_load_row rfl 25 (.tmp 3) rfl G rfl 25 _ (0, 0) _ b4' Try.underlying25 rfl (by kernel_rfl) ?_)
      | (refine wpList_load_row rfl 25 (.tmp 5) rfl w4.heap.size rfl 25 _ (0, 0) _ b5' Try.underlying25 rfl (by kernel_rfl) ?_))
    rw [← hW5]
    clear hW5 b4' b5'
    refine (rsame15_any V Q U Q _ g3 g4 HB.out.1 HB.out.2 HB.out.1 HB.out.2).mono ?_; rintro e w6 ⟨rfl, y6⟩
    rw [HQ.out]
    go_wp2_with fail
    refine (HS.out _).mono ?_; rintro e w9 ⟨rfl, y9⟩
    go_wp2
    go_ret
    exact ⟨rfl, (x5.trans y6).trans y9⟩
end Go.Proofs.Ytokfgdjkafiicaa
