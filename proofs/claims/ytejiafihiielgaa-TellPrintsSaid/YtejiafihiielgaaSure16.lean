/-
  THE LAWS OF LAYER 16: what must come whatever the input is (package tell's contracts as premises).
-/
import Derived.Test.YtejiafihiielgaaTelC
import Derived.Test.YtejiafihiielgaaSame
namespace Go.Proofs.Ytejiafihiielgaa
open Go.RowKit
set_option linter.unusedVariables false
set_option maxRecDepth 100000

def s16Q : Qst := { zeroQ with k := 3, ad := 5, ct := 1 }
def s16T : Tel := { zeroT with k := 3, nr := 1, R := getF (fun i => ofL [3, 2, 0, 9] (2 + i)) }
def s16U : Tel := { zeroT with k := 3, cd := 2 }
theorem s16a : tpaE s16Q 4 (ofL [3, 2, 0, 9]) = 0 := by decide
theorem s16b : tpaT s16Q 4 (ofL [3, 2, 0, 9]) = s16T := by unfold tpaT; rw [if_pos s16a]; rfl
theorem s16c : tpaE s16Q 2 (ofL [131, 2]) = 0 := by decide
theorem s16d : tpaT s16Q 2 (ofL [131, 2]) = s16U := by unfold tpaT; rw [if_pos s16c]; rfl
theorem s16e : tpaE s16Q 3 (ofL [3, 2, 0]) = 14 := by decide
theorem s16f : rightT s16Q s16T = true := by decide
theorem s16g : tprN s16Q s16T = 4 ∧ tprE s16Q s16T = 0 := by decide
theorem s16h : ∀ i, i < 4 → tsayF s16T i = ofL [3, 2, 0, 9] i := fun i hi => by
  have h : i = 0 ∨ i = 1 ∨ i = 2 ∨ i = 3 := by omega
  rcases h with rfl | rfl | rfl | rfl <;> decide
theorem s16i : refB 3 2 = true ∧ refB 128 2 = false := by decide
theorem s16j : ∀ i, i < 2 → refF 3 2 i = ofL [131, 2] i := fun i hi => by
  have h : i = 0 ∨ i = 1 := by omega
  rcases h with rfl | rfl <;> decide
theorem s16k : ∀ i, i < 1 → s16T.R i = ofL [9] i := fun i hi => by
  obtain rfl : i = 0 := by omega
  decide
theorem s16w (l : List Int) (h : ∀ x ∈ l, 0 ≤ x ∧ x < 256) : ∀ i, i < l.length → 0 ≤ ofL l i ∧ ofL l i < 256 := fun i hi => by
  unfold ofL
  rw [List.getD_eq_getElem?_getD, List.getElem?_eq_getElem hi]
  exact h _ (List.getElem_mem _)
theorem s16W : QstW s16Q := ⟨by decide, by decide, by decide, by decide, by decide, by decide, by decide, by decide, fun i hi => absurd hi (Nat.not_lt_zero i)⟩
theorem s16R : ∀ i, i < s16T.nr → 0 ≤ s16T.R i ∧ s16T.R i < 65536 := fun i hi => by
  have h1 : i < 1 := hi
  obtain rfl : i = 0 := by omega
  decide
set_option maxHeartbeats 8000000 in
theorem sure16 (w : World) (hPr : TPrintC 9) (hPa : TParseC 18) (hRi : TRightC 13) (hSa : TSameC 15) (hRe : TRefC 11) :
    Calls Try.prog 8 #[] w fun e w' => e = .returned (.bool true) ∧ Ext w w' := by
  have P1 := Lib.hid (fun W V (h : QstAt W V s16Q) => (hPa V s16Q (some ⟨W.heap.size, 0, none⟩) 4 4 (ofL [3, 2, 0, 9]) (W.alloc (.cells #[.int .u8 3, .int .u8 2, .int .u8 0, .int .u8 9] 5)) (h.ext (Ext.alloc _ _)) s16W (Nat.zero_le _) (Nat.zero_le _) (Holds.lit W [3, 2, 0, 9] 5 _ rfl 4 rfl) (by omega) (Nat.le_refl _) (by unfold maxLen; omega) (s16w [3, 2, 0, 9] (by decide))).mono fun e w' ⟨X, h1, h2, h3⟩ => (⟨X, by rw [h1, s16a, s16b], by rw [← s16b]; exact h2, h3⟩ : ∃ X, e = Ending.returned (.tuple #[.agg (telC X s16T), .int .i64 0]) ∧ TelAt w' X s16T ∧ Ext (W.alloc (.cells #[.int .u8 3, .int .u8 2, .int .u8 0, .int .u8 9] 5)) w'))
  have P2 := Lib.hid (fun W V (h : QstAt W V s16Q) => (hPa V s16Q (some ⟨W.heap.size, 0, none⟩) 2 2 (ofL [131, 2]) (W.alloc (.cells #[.int .u8 131, .int .u8 2] 5)) (h.ext (Ext.alloc _ _)) s16W (Nat.zero_le _) (Nat.zero_le _) (Holds.lit W [131, 2] 5 _ rfl 2 rfl) (by omega) (Nat.le_refl _) (by unfold maxLen; omega) (s16w [131, 2] (by decide))).mono fun e w' ⟨X, h1, h2, h3⟩ => (⟨X, by rw [h1, s16c, s16d], h3⟩ : ∃ X, e = Ending.returned (.tuple #[.agg (telC X s16U), .int .i64 0]) ∧ Ext (W.alloc (.cells #[.int .u8 131, .int .u8 2] 5)) w'))
  have P3 := Lib.hid (fun W V (h : QstAt W V s16Q) => (hPa V s16Q (some ⟨W.heap.size, 0, none⟩) 3 3 (ofL [3, 2, 0]) (W.alloc (.cells #[.int .u8 3, .int .u8 2, .int .u8 0] 5)) (h.ext (Ext.alloc _ _)) s16W (Nat.zero_le _) (Nat.zero_le _) (Holds.lit W [3, 2, 0] 5 _ rfl 3 rfl) (by omega) (Nat.le_refl _) (by unfold maxLen; omega) (s16w [3, 2, 0] (by decide))).mono fun e w' ⟨X, h1, h2, h3⟩ => (⟨X, tpaT s16Q 3 (ofL [3, 2, 0]), by rw [h1, s16e], h3⟩ : ∃ X T, e = Ending.returned (.tuple #[.agg (telC X T), .int .i64 14]) ∧ Ext (W.alloc (.cells #[.int .u8 3, .int .u8 2, .int .u8 0] 5)) w'))
  have P4 := Lib.hid (fun W V X (h : QstAt W V s16Q) (k : TelAt W X s16T) => (hPr V s16Q X s16T W h s16W (Nat.zero_le _) (Nat.zero_le _) k (Nat.zero_le _) (by decide) s16R).mono fun e w' ⟨b, q, h1, _, _, h4, h5⟩ => (⟨b, q, by rw [h1, s16g.1, s16g.2], by rw [← s16g.1]; exact h4, h5⟩ : ∃ b q, e = Ending.returned (.tuple #[.slice b 4 q, .int .i64 0]) ∧ HoldsG (Value.int .u8) w' b 4 (tsayF s16T) ∧ Ext W w'))
  have P5 := Lib.hid (fun W => (hRe 3 2 W).mono fun e w' ⟨b, q, h1, h2, h3⟩ => (⟨b, q, by rw [h1, s16i.1]; rfl, by rw [s16i.1] at h2; exact h2, h3⟩ : ∃ b q, e = Ending.returned (.tuple #[.slice b 2 q, .int .i64 0]) ∧ HoldsG (Value.int .u8) w' b 2 (refF 3 2) ∧ Ext W w'))
  have P6 := Lib.hid (fun W => (hRe 128 2 W).mono fun e w' ⟨b, q, h1, h2, h3⟩ => (⟨b, q, by rw [h1, s16i.2]; rfl, h3⟩ : ∃ b q, e = Ending.returned (.tuple #[.slice b 0 q, .int .i64 11]) ∧ Ext W w'))
  have P7 := Lib.hid (fun W V X (h : QstAt W V s16Q) (k : TelAt W X s16T) => (hRi V s16Q X s16T W h s16W (Nat.zero_le _) (Nat.zero_le _) k (Nat.zero_le _) (by decide)).mono fun e w' hh => (⟨hh.1.trans (by rw [s16f]), hh.2⟩ : e = Ending.returned (.bool true) ∧ Ext W w'))
  have P8 := Lib.hid (fun W X (k : TelAt W X s16T) => (hSa X s16T X s16T W k k (Nat.zero_le _) (by decide) (Nat.zero_le _) (by decide)).mono fun e w' hh => (⟨hh.1.trans (by rw [sameT_self]), hh.2⟩ : e = Ending.returned (.bool true) ∧ Ext W w'))
  clear hPr hPa hRi hSa hRe
  go_enter Try.func8, Try.ntmps8
  obtain ⟨W1, hW1, x1, g1⟩ : ∃ W, W = ((w.alloc (.cells #[.int .i64 0, .int .i64 0, .int .i64 0, .int .i64 0, .int .i64 0, .int .i64 0, .int .i64 0, .int .i64 0, .slice none 0 0, .slice none 0 0] 25)).setRow w.heap.size #[.int .i64 3, .int .i64 5, .int .i64 1, .int .i64 0, .int .i64 0, .int .i64 0, .int .i64 0, .int .i64 0, .slice none 0 0, .slice none 0 0]) ∧ Ext w W ∧ W.heap[w.heap.size]? = some (.cells (qstC zeroQV s16Q) 25 (0, 0)) := ⟨_, rfl, told_row _ _ _ _⟩
  go_upto_region 2 with (first
    | (refine wpList_store_row rfl 25 (.tmp 1) (.tmp 14) rfl _ _ rfl rfl 25 _ (heap_new_at _ _ (by first | rfl | simp)) (by kernel_rfl) rfl (by simp [Value.oneCell']) ?_))
  rw [← hW1]
  clear hW1
  generalize w.heap.size = G1 at g1 ⊢
  have hq : ∀ W, QstAt W zeroQV s16Q := fun W => none_at W rfl rfl
  have HQ := Lib.hid hq
  clear hq
  go_wp2_with (first
    | (refine wpList_load_row rfl 25 (.tmp 1) rfl (G1) rfl 25 _ (0, 0) _ g1 Try.underlying25 rfl (by kernel_rfl) ?_))
  refine (P1.out W1 zeroQV (HQ.out _)).mono ?_; rintro e w2 ⟨X, rfl, hX, x2⟩
  have x2 := (Ext.alloc W1 _).trans x2
  obtain ⟨W2, hWW2, yW2, rW2⟩ : ∃ W, W = ((w2.alloc (.cells #[.int .i64 0, .int .i64 0, .int .i64 0, .int .i64 0, .int .i64 0, .int .i64 0, .int .i64 0, .slice none 0 0, .slice none 0 0] 28)).setRow w2.heap.size (telC X s16T)) ∧ Ext w2 W ∧ W.heap[w2.heap.size]? = some (.cells (telC X s16T) 28 (0, 0)) := ⟨_, rfl, told_row _ _ _ _⟩
  have x2 := x2.trans yW2
  have g1 := x2.block g1
  have x2 := x1.trans x2
  have hX := hX.ext yW2
  have g2 := rW2
  go_upto_region 3 with (first
    | (refine wpList_store_row rfl 28 (.tmp 2) (.tmp 19) rfl _ _ rfl rfl 28 _ (heap_new_at _ _ (by first | rfl | simp)) (by kernel_rfl) rfl (by simp [telC, Value.oneCell']) ?_))
  rw [← hWW2]
  clear hWW2 yW2 rW2 x1 P1
  generalize w2.heap.size = G2 at g2 ⊢
  go_wp2_with (first
    | (refine wpList_load_row rfl 25 (.tmp 1) rfl (G1) rfl 25 _ (0, 0) _ g1 Try.underlying25 rfl (by kernel_rfl) ?_)
    | (refine wpList_load_row rfl 28 (.tmp 2) rfl (G2) rfl 28 _ (0, 0) _ g2 Try.underlying28 rfl (by kernel_rfl) ?_))
  refine (P4.out W2 zeroQV X (HQ.out _) hX).mono ?_; rintro e w3 ⟨pb, pq, rfl, hp, x3⟩
  have g1 := x3.block g1
  have g2 := x3.block g2
  have hX := hX.ext x3
  have x3 := x2.trans x3
  clear x2 P4
  go_upto_region 4 with fail
  go_wp2_with (first
    | (refine wpList_load_row rfl 25 (.tmp 1) rfl (G1) rfl 25 _ (0, 0) _ g1 Try.underlying25 rfl (by kernel_rfl) ?_))
  refine (P2.out w3 zeroQV (HQ.out _)).mono ?_; rintro e w4 ⟨Y, rfl, x4⟩
  have x4 := (Ext.alloc w3 _).trans x4
  obtain ⟨W4, hWW4, yW4, rW4⟩ : ∃ W, W = ((w4.alloc (.cells #[.int .i64 0, .int .i64 0, .int .i64 0, .int .i64 0, .int .i64 0, .int .i64 0, .int .i64 0, .slice none 0 0, .slice none 0 0] 28)).setRow w4.heap.size (telC Y s16U)) ∧ Ext w4 W ∧ W.heap[w4.heap.size]? = some (.cells (telC Y s16U) 28 (0, 0)) := ⟨_, rfl, told_row _ _ _ _⟩
  have x4 := x4.trans yW4
  have g1 := x4.block g1
  have g2 := x4.block g2
  have hX := hX.ext x4
  have hp := hp.ext x4
  have x4 := x3.trans x4
  have g6 := rW4
  go_upto_region 5 with (first
    | (refine wpList_store_row rfl 28 (.tmp 6) (.tmp 31) rfl _ _ rfl rfl 28 _ (heap_new_at _ _ (by first | rfl | simp)) (by kernel_rfl) rfl (by simp [telC, Value.oneCell']) ?_))
  rw [← hWW4]
  clear hWW4 yW4 rW4 x3 P2
  generalize w4.heap.size = G6 at g6 ⊢
  go_wp2_with (first
    | (refine wpList_load_row rfl 25 (.tmp 1) rfl (G1) rfl 25 _ (0, 0) _ g1 Try.underlying25 rfl (by kernel_rfl) ?_))
  refine (P3.out W4 zeroQV (HQ.out _)).mono ?_; rintro e w5 ⟨Z, T5, rfl, x5⟩
  have x5 := (Ext.alloc W4 _).trans x5
  obtain ⟨W5, hWW5, yW5, rW5⟩ : ∃ W, W = ((w5.alloc (.cells #[.int .i64 0, .int .i64 0, .int .i64 0, .int .i64 0, .int .i64 0, .int .i64 0, .int .i64 0, .slice none 0 0, .slice none 0 0] 28)).setRow w5.heap.size (telC Z T5)) ∧ Ext w5 W ∧ W.heap[w5.heap.size]? = some (.cells (telC Z T5) 28 (0, 0)) := ⟨_, rfl, told_row _ _ _ _⟩
  have x5 := x5.trans yW5
  have g1 := x5.block g1
  have g2 := x5.block g2
  have g6 := x5.block g6
  have hX := hX.ext x5
  have hp := hp.ext x5
  have x5 := x4.trans x5
  go_upto_region 6 with (first
    | (refine wpList_store_row rfl 28 (.tmp 8) (.tmp 37) rfl _ _ rfl rfl 28 _ (heap_new_at _ _ (by first | rfl | simp)) (by kernel_rfl) rfl (by simp [telC, Value.oneCell']) ?_))
  rw [← hWW5]
  clear hWW5 yW5 rW5 x4 P3
  go_wp2_with fail
  refine (P5.out W5).mono ?_; rintro e w6 ⟨cb, cq, rfl, hc, x6⟩
  have g1 := x6.block g1
  have g2 := x6.block g2
  have g6 := x6.block g6
  have hX := hX.ext x6
  have hp := hp.ext x6
  have x6 := x5.trans x6
  clear x5 P5
  go_wp2_with fail
  refine (P6.out w6).mono ?_; rintro e w7 ⟨db, dq, rfl, x7⟩
  have g1 := x7.block g1
  have g2 := x7.block g2
  have g6 := x7.block g6
  have hX := hX.ext x7
  have hp := hp.ext x7
  have hc := hc.ext x7
  have x7 := x6.trans x7
  clear x6 P6
  go_upto_region 8 with fail
  have c8 : w7.cell? ⟨G2, 8, none⟩ = some (.slice X.a2 1 X.d2) := cell_of_heap g2 rfl
  go_wp2_with fail
  have y8 := Ext.alloc w7 (.cells #[.int .u16 9] 50)
  refine (words_eq X.a2 (some ⟨w7.heap.size, 0, none⟩) 1 1 X.d2 1 s16T.R (ofL [9]) _ ((hX.ext y8).h2) (Holds.lit w7 [9] 50 _ rfl 1 rfl) (by omega) ⟨rfl, s16k⟩).mono ?_; rintro e w8 ⟨rfl, x8⟩
  have x8 := y8.trans x8
  have g1 := x8.block g1
  have g2 := x8.block g2
  have g6 := x8.block g6
  have hX := hX.ext x8
  have hp := hp.ext x8
  have hc := hc.ext x8
  have x8 := x7.trans x8
  clear y8 x7 c8
  go_wp2_with fail
  have y9 := Ext.alloc w8 (.cells #[.int .u8 3, .int .u8 2, .int .u8 0, .int .u8 9] 5)
  refine (bytes_eq pb (some ⟨w8.heap.size, 0, none⟩) 4 4 pq 4 (tsayF s16T) (ofL [3, 2, 0, 9]) _ (hp.ext y9) (Holds.lit w8 [3, 2, 0, 9] 5 _ rfl 4 rfl) (by omega) ⟨rfl, s16h⟩).mono ?_; rintro e w9 ⟨rfl, x9⟩
  have x9 := y9.trans x9
  have g1 := x9.block g1
  have g2 := x9.block g2
  have g6 := x9.block g6
  have hX := hX.ext x9
  have hc := hc.ext x9
  have x9 := x8.trans x9
  clear y9 x8 hp
  have c6 : w9.cell? ⟨G6, 1, none⟩ = some (.int .i64 2) := cell_of_heap g6 rfl
  go_wp2_with fail
  have yA := Ext.alloc w9 (.cells #[.int .u8 131, .int .u8 2] 5)
  refine (bytes_eq cb (some ⟨w9.heap.size, 0, none⟩) 2 2 cq 2 (refF 3 2) (ofL [131, 2]) _ (hc.ext yA) (Holds.lit w9 [131, 2] 5 _ rfl 2 rfl) (by omega) ⟨rfl, s16j⟩).mono ?_; rintro e wA ⟨rfl, xA⟩
  have xA := yA.trans xA
  have g1 := xA.block g1
  have g2 := xA.block g2
  have hX := hX.ext xA
  have xA := x9.trans xA
  clear yA x9 hc c6 g6
  go_wp2_with (first
    | (refine wpList_load_row_g (by rfl) 25 (.tmp 1) rfl (G1) rfl 25 _ (0, 0) _ g1 Try.underlying25 rfl (by kernel_rfl) ?_)
    | (refine wpList_load_row_g (by rfl) 28 (.tmp 2) rfl (G2) rfl 28 _ (0, 0) _ g2 Try.underlying28 rfl (by kernel_rfl) ?_))
  refine (P7.out wA zeroQV X (HQ.out _) hX).mono ?_; rintro e wB ⟨rfl, xB⟩
  have g2 := xB.block g2
  have hX := hX.ext xB
  have xB := xA.trans xB
  clear xA g1
  go_wp2_with (first
    | (refine wpList_load_row_g (by rfl) 28 (.tmp 2) rfl (G2) rfl 28 _ (0, 0) _ g2 Try.underlying28 rfl (by kernel_rfl) ?_))
  refine (P8.out wB X hX).mono ?_; rintro e wC ⟨rfl, xC⟩
  go_wp2
  go_ret
  exact ⟨rfl, xB.trans xC⟩
end Go.Proofs.Ytejiafihiielgaa
