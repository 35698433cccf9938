/-
  THE LAWS OF LAYER 15: what must come whatever the input is.
-/
import Derived.Test.YtokfgdjkafiicaaAskU
import Derived.Test.YtokfgdjkafiicaaAskZ
import Derived.Test.YtokfgdjkafiicaaSame
import Derived.Test.YtokfgdjkafiicaaRef01
namespace Go.Proofs.Ytokfgdjkafiicaa
open Go.RowKit
set_option linter.unusedVariables false
set_option maxRecDepth 100000

def q15 : Qst := { zeroQ with k := 3, ad := 107, ct := 3 }
theorem s15a : paE 5 (ofL [3, 0, 107, 0, 3]) = 0 := by decide
theorem s15b : paQ 5 (ofL [3, 0, 107, 0, 3]) = q15 := by unfold paQ; rw [if_pos s15a]; rfl
theorem s15c : paE 5 (ofL [3, 0, 107, 0, 126]) = 3 := by decide
theorem s15d : paE 1 (ofL [7]) = 1 := by decide
theorem s15e : paE 0 (ofL []) = 12 := by decide
theorem s15f : rightQ q15 = true := by decide
theorem s15g : prN q15 = 5 ∧ prE q15 = 0 := by decide
theorem s15h : ∀ i, i < 5 → sayF q15 i = ofL [3, 0, 107, 0, 3] i := fun i hi => by
  have h : i = 0 ∨ i = 1 ∨ i = 2 ∨ i = 3 ∨ i = 4 := by omega
  rcases h with rfl | rfl | rfl | rfl | rfl <;> decide
theorem s15i : sameQ q15 q15 = true := by decide
theorem s15w (l : List Int) (h : ∀ x ∈ l, 0 ≤ x ∧ x < 256) : ∀ i, i < l.length → 0 ≤ ofL l i ∧ ofL l i < 256 := fun i hi => by
  unfold ofL
  rw [List.getD_eq_getElem?_getD, List.getElem?_eq_getElem hi]
  exact h _ (List.getElem_mem _)
theorem aparse_v {a : Option Addr} {n c : Nat} {f : Nat → Int} {E : Int} {Q : Qst} (hE : paE n f = E) (hQ : paQ n f = Q) (w : World) (ha : Holds .u8 w a n f) (hn : n ≤ 100000) (hnc : n ≤ c) (hcm : c ≤ maxLen) (hf : ∀ i, i < n → 0 ≤ f i ∧ f i < 256) :
    Calls Try.prog 17 #[.slice a n c] w fun e w' => ∃ V, e = .returned (.tuple #[.agg (qstC V Q), .int .i64 E]) ∧ QstAt w' V Q ∧ Ext w w' := by
  subst hE hQ; exact aparse_any a n c f w ha hn hnc hcm hf
theorem aprint_v {V : QstV} {Q : Qst} {N : Nat} {E : Int} (hN : prN Q = N) (hE : prE Q = E) (w : World) (h : QstAt w V Q) (n1 : Q.nb ≤ 1000000) (n2 : Q.nr ≤ 1000000) (hR : ∀ i, i < Q.nr → 0 ≤ Q.R i ∧ Q.R i < 65536) :
    Calls Try.prog 8 #[.agg (qstC V Q)] w fun e w' => ∃ b q, e = .returned (.tuple #[.slice b N q, .int .i64 E]) ∧ N ≤ q ∧ q ≤ maxLen ∧ HoldsG (Value.int .u8) w' b N (sayF Q) ∧ Ext w w' := by
  subst hN hE; exact aprint_any V Q w h n1 n2 hR
set_option maxHeartbeats 8000000 in
theorem sure15 (w : World) : Calls Try.prog 7 #[] w fun e w' => e = .returned (.bool true) ∧ Ext w w' := by
  have P1 := Lib.hid (fun W => aparse_v s15a s15b (W.alloc (.cells #[.int .u8 3, .int .u8 0, .int .u8 107, .int .u8 0, .int .u8 3] 5)) (Holds.lit W [3, 0, 107, 0, 3] 5 _ rfl 5 rfl) (by omega) (Nat.le_refl 5) (by unfold maxLen; omega) (s15w [3, 0, 107, 0, 3] (by decide)))
  have P2 := Lib.hid (fun W => aparse_v s15c (paQ_no s15c (by decide)).2 (W.alloc (.cells #[.int .u8 3, .int .u8 0, .int .u8 107, .int .u8 0, .int .u8 126] 5)) (Holds.lit W [3, 0, 107, 0, 126] 5 _ rfl 5 rfl) (by omega) (Nat.le_refl 5) (by unfold maxLen; omega) (s15w [3, 0, 107, 0, 126] (by decide)))
  have P3 := Lib.hid (fun W => aparse_v s15d (paQ_no s15d (by decide)).2 (W.alloc (.cells #[.int .u8 7] 5)) (Holds.lit W [7] 5 _ rfl 1 rfl) (by omega) (Nat.le_refl 1) (by unfold maxLen; omega) (s15w [7] (by decide)))
  have P4 := Lib.hid (fun W => aparse_v (a := none) (c := 0) s15e (paQ_no s15e (by decide)).2 W (.inl rfl) (by omega) (by omega) (by unfold maxLen; omega) (s15w [] (by decide)))
  have KK1 := Lib.hid (fun w => aknown_v (show knownB 23 = true by decide) w)
  have KK2 := Lib.hid (fun w => aknown_v (show knownB 7 = false by decide) w)
  go_enter Try.func7, Try.ntmps7
  go_wp2_with fail
  refine (P1.out w).mono ?_; rintro e w1 ⟨V, rfl, h1, x1⟩
  have x1 := (Ext.alloc w _).trans x1
  obtain ⟨W1, hW1, y1, b1⟩ : ∃ W, W = ((w1.alloc (.cells #[.int .i64 0, .int .i64 0, .int .i64 0, .int .i64 0, .int .i64 0, .int .i64 0, .int .i64 0, .int .i64 0, .slice none 0 0, .slice none 0 0] 25)).setRow w1.heap.size (qstC V q15)) ∧ Ext w1 W ∧ W.heap[w1.heap.size]? = some (.cells (qstC V q15) 25 (0, 0)) := ⟨_, rfl, asked_row _ _ _ _⟩
  have h1 := h1.ext y1
  have x1 := x1.trans y1
  have b1' := b1
  rw [hW1] at b1'
  clear y1 P1
  go_wp2_with (first
    | (refine wpList_store_row rfl 25 (.tmp 1) (.tmp 14) rfl _ _ rfl rfl 25 _ (heap_new_at _ _ (by first | rfl | simp)) (by kernel_rfl) rfl (by simp [qstC, Value.oneCell']) ?_)
    | (refine wpList_load_row rfl 25 (.tmp 1) rfl w1.heap.size rfl 25 _ (0, 0) _ b1' Try.underlying25 rfl (by kernel_rfl) ?_))
  rw [← hW1]
  clear hW1 b1'
  refine (aprint_v s15g.1 s15g.2 W1 h1 (by decide) (by decide) (fun i hi => absurd hi (Nat.not_lt_zero i))).mono ?_; rintro e w2 ⟨pb, pq, rfl, -, -, hp, x2⟩
  have x1 := x1.trans x2
  have h1 := h1.ext x2
  have b1 := x2.block b1
  clear x2
  go_wp2_with fail
  refine (P2.out w2).mono ?_; rintro e w3 ⟨V3, rfl, -, x3⟩
  have x3 := (Ext.alloc w2 _).trans x3
  obtain ⟨W3, hW3, y3, -⟩ : ∃ W, W = ((w3.alloc (.cells #[.int .i64 0, .int .i64 0, .int .i64 0, .int .i64 0, .int .i64 0, .int .i64 0, .int .i64 0, .int .i64 0, .slice none 0 0, .slice none 0 0] 25)).setRow w3.heap.size (qstC V3 zeroQ)) ∧ Ext w3 W ∧ W.heap[w3.heap.size]? = some (.cells (qstC V3 zeroQ) 25 (0, 0)) := ⟨_, rfl, asked_row _ _ _ _⟩
  have x3 := x3.trans y3
  have x1 := x1.trans x3
  have h1 := h1.ext x3
  have b1 := x3.block b1
  have hp := hp.ext x3
  clear x3 y3 P2
  go_upto_region 4 with (first
    | (refine wpList_store_row rfl 25 (.tmp 5) (.tmp 24) rfl _ _ rfl rfl 25 _ (heap_new_at _ _ (by first | rfl | simp)) (by kernel_rfl) rfl (by simp [qstC, Value.oneCell']) ?_))
  rw [← hW3]
  clear hW3
  go_wp2_with fail
  refine (P3.out W3).mono ?_; rintro e w4 ⟨V4, rfl, -, x4⟩
  have x4 := (Ext.alloc W3 _).trans x4
  obtain ⟨W4, hW4, y4, -⟩ : ∃ W, W = ((w4.alloc (.cells #[.int .i64 0, .int .i64 0, .int .i64 0, .int .i64 0, .int .i64 0, .int .i64 0, .int .i64 0, .int .i64 0, .slice none 0 0, .slice none 0 0] 25)).setRow w4.heap.size (qstC V4 zeroQ)) ∧ Ext w4 W ∧ W.heap[w4.heap.size]? = some (.cells (qstC V4 zeroQ) 25 (0, 0)) := ⟨_, rfl, asked_row _ _ _ _⟩
  have x4 := x4.trans y4
  have x1 := x1.trans x4
  have h1 := h1.ext x4
  have b1 := x4.block b1
  have hp := hp.ext x4
  clear x4 y4 P3
  go_upto_region 5 with (first
    | (refine wpList_store_row rfl 25 (.tmp 7) (.tmp 29) rfl _ _ rfl rfl 25 _ (heap_new_at _ _ (by first | rfl | simp)) (by kernel_rfl) rfl (by simp [qstC, Value.oneCell']) ?_))
  rw [← hW4]
  clear hW4
  go_wp2_with fail
  refine (P4.out W4).mono ?_; rintro e w5 ⟨V5, rfl, -, x5⟩
  obtain ⟨W5, hW5, y5, -⟩ : ∃ W, W = ((w5.alloc (.cells #[.int .i64 0, .int .i64 0, .int .i64 0, .int .i64 0, .int .i64 0, .int .i64 0, .int .i64 0, .int .i64 0, .slice none 0 0, .slice none 0 0] 25)).setRow w5.heap.size (qstC V5 zeroQ)) ∧ Ext w5 W ∧ W.heap[w5.heap.size]? = some (.cells (qstC V5 zeroQ) 25 (0, 0)) := ⟨_, rfl, asked_row _ _ _ _⟩
  have x5 := x5.trans y5
  have x1 := x1.trans x5
  have h1 := h1.ext x5
  have b1 := x5.block b1
  have hp := hp.ext x5
  clear x5 y5 P4
  go_upto_region 6 with (first
    | (refine wpList_store_row rfl 25 (.tmp 9) (.tmp 33) rfl _ _ rfl rfl 25 _ (heap_new_at _ _ (by first | rfl | simp)) (by kernel_rfl) rfl (by simp [qstC, Value.oneCell']) ?_))
  rw [← hW5]
  clear hW5
  generalize w1.heap.size = G at b1 ⊢
  have c0 : W5.cell? ⟨G, 0, none⟩ = some (.int .i64 3) := cell_of_heap b1 rfl
  have c1 : W5.cell? ⟨G, 1, none⟩ = some (.int .i64 107) := cell_of_heap b1 rfl
  have c2 : W5.cell? ⟨G, 2, none⟩ = some (.int .i64 3) := cell_of_heap b1 rfl
  go_wp2_with fail
  have y6 := Ext.alloc W5 (.cells #[.int .u8 3, .int .u8 0, .int .u8 107, .int .u8 0, .int .u8 3] 5)
  refine (bytes_eq pb (some ⟨W5.heap.size, 0, none⟩) 5 5 pq 5 (sayF q15) (ofL [3, 0, 107, 0, 3]) _ (hp.ext y6) (Holds.lit W5 [3, 0, 107, 0, 3] 5 _ rfl 5 rfl) (by omega) ⟨rfl, s15h⟩).mono ?_; rintro e w6 ⟨rfl, x6⟩
  have x6 := y6.trans x6
  have x1 := x1.trans x6
  have h1 := h1.ext x6
  have b1 := x6.block b1
  clear x6 y6 hp c0 c1 c2
  go_wp2_with fail
  refine (KK1.out _).mono ?_; rintro e w7 ⟨rfl, hw7⟩
  rw [hw7]
  clear hw7 w7
  go_wp2_with fail
  refine (KK2.out _).mono ?_; rintro e w7 ⟨rfl, hw7⟩
  rw [hw7]
  clear hw7 w7
  go_wp2_with (first
    | (refine wpList_load_row_g (by rfl) 25 (.tmp 1) rfl G rfl 25 _ (0, 0) _ b1 Try.underlying25 rfl (by kernel_rfl) ?_))
  refine (aright_v s15f w6 h1 (by decide) (by decide)).mono ?_; rintro e w8 ⟨rfl, x8⟩
  have x1 := x1.trans x8
  have h1 := h1.ext x8
  have b1 := x8.block b1
  clear x8
  go_wp2_with (first
    | (refine wpList_load_row_g (by rfl) 25 (.tmp 1) rfl G rfl 25 _ (0, 0) _ b1 Try.underlying25 rfl (by kernel_rfl) ?_))
  refine (asame_any V q15 V q15 w8 h1 h1 (by decide) (by decide) (by decide) (by decide)).mono ?_; rintro e w9 ⟨rfl, x9⟩
  rw [s15i]
  go_wp2
  go_ret
  exact ⟨rfl, x1.trans x9⟩
end Go.Proofs.Ytokfgdjkafiicaa
