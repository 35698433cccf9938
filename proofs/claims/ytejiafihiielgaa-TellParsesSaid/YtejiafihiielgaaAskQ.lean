/-
  CONTRACTS: bilgeref15 (layer 15): whether an ask may be.
-/
import Derived.Test.YtejiafihiielgaaAskR
import Derived.Deep.DeepCutAuto
namespace Go.Proofs.Ytejiafihiielgaa
open Go.RowKit
set_option linter.unusedVariables false

theorem asked_row (w : World) (z cs : Array Value) (t : TypeId) : Ext w ((w.alloc (.cells z t)).setRow w.heap.size cs) ∧ ((w.alloc (.cells z t)).setRow w.heap.size cs).heap[w.heap.size]? = some (.cells cs t (0, 0)) :=
  ⟨below_setRow (Ext.alloc w _) (Nat.le_refl _) cs, setRow_heap _ _ _ _ _ _ (heap_alloc_new w _)⟩
theorem own_small {Q : Qst} : (ownQ Q).nb ≤ Q.nb ∧ (ownQ Q).nr ≤ Q.nr := by
  unfold ownQ
  split
  · exact ⟨Nat.zero_le _, Nat.zero_le _⟩
  split
  · exact ⟨Nat.zero_le _, Nat.zero_le _⟩
  split
  · exact ⟨Nat.le_refl _, Nat.zero_le _⟩
  split
  · exact ⟨Nat.zero_le _, Nat.le_refl _⟩
  split
  · exact ⟨Nat.zero_le _, Nat.zero_le _⟩
  split
  · exact ⟨Nat.zero_le _, Nat.le_refl _⟩
  · exact ⟨Nat.zero_le _, Nat.zero_le _⟩
theorem right_parts (Q : Qst) : rightQ Q = (knownB Q.k && sameQ Q (ownQ Q) && inB Q.ad 0 65535 && fitsB Q) := rfl
set_option maxRecDepth 100000 in
set_option maxHeartbeats 8000000 in
theorem rright15_any (V : QstV) (Q : Qst) (w : World) (h : QstAt w V Q) (n1 : Q.nb ≤ 1000000) (n2 : Q.nr ≤ 1000000) : Calls Try.prog 20 #[.agg (qstC V Q)] w fun e w' => e = .returned (.bool (rightQ Q)) ∧ Ext w w' := by
  have KO := Lib.hid (fun w' => ronly15_any V Q w')
  have KS := Lib.hid (fun w' (hx : Ext w w') => rsame15_any V Q (ownV V Q) (ownQ Q) w' (h.ext hx) (own_at (h.ext hx)) n1 n2 (Nat.le_trans own_small.1 n1) (Nat.le_trans own_small.2 n2))
  have hnb : (Q.nb : Int) ≤ 1000000 := by omega
  have hnr : (Q.nr : Int) ≤ 1000000 := by omega
  rw [right_parts]
  obtain ⟨OV, hOV⟩ : ∃ O, O = ownV V Q := ⟨_, rfl⟩
  obtain ⟨OQ, hOQ⟩ : ∃ O, O = ownQ Q := ⟨_, rfl⟩
  rw [← hOV, ← hOQ] at KO KS
  rw [← hOQ]
  clear hOV hOQ h n1 n2
  have HFit := Lib.hid (show fitsB Q = _ from rfl)
  generalize sameQ Q OQ = B1 at KS ⊢
  obtain ⟨W0, hW0, HX, He⟩ : ∃ W0, W0 = w.alloc (.cells (qstC V Q) 25) ∧ Hid (∀ W, Ext W0 W → W.heap[w.heap.size]? = some (.cells (qstC V Q) 25 (0, 0))) ∧ Hid (Ext w W0) := ⟨_, rfl, Lib.hid fun W hx => hx.block (heap_alloc_new w _), Lib.hid (Ext.alloc w _)⟩
  have HC := Lib.hid (fun W (hx : Ext W0 W) => (⟨cell_of_heap (HX.out W hx) rfl, cell_of_heap (HX.out W hx) rfl, cell_of_heap (HX.out W hx) rfl, cell_of_heap (HX.out W hx) rfl, cell_of_heap (HX.out W hx) rfl, cell_of_heap (HX.out W hx) rfl, cell_of_heap (HX.out W hx) rfl, cell_of_heap (HX.out W hx) rfl, cell_of_heap (HX.out W hx) rfl, cell_of_heap (HX.out W hx) rfl⟩ :
    W.cell? ⟨w.heap.size, 0, none⟩ = some (.int .i64 Q.k) ∧ W.cell? ⟨w.heap.size, 1, none⟩ = some (.int .i64 Q.ad) ∧ W.cell? ⟨w.heap.size, 2, none⟩ = some (.int .i64 Q.ct) ∧ W.cell? ⟨w.heap.size, 3, none⟩ = some (.int .i64 Q.va) ∧ W.cell? ⟨w.heap.size, 4, none⟩ = some (.int .i64 Q.an) ∧ W.cell? ⟨w.heap.size, 5, none⟩ = some (.int .i64 Q.oo) ∧ W.cell? ⟨w.heap.size, 6, none⟩ = some (.int .i64 Q.fr) ∧ W.cell? ⟨w.heap.size, 7, none⟩ = some (.int .i64 Q.mn) ∧ W.cell? ⟨w.heap.size, 8, none⟩ = some (.slice V.a1 Q.nb V.d1) ∧ W.cell? ⟨w.heap.size, 9, none⟩ = some (.slice V.a2 Q.nr V.d2)))
  cases hk : knownB Q.k with
  | false =>
    rw [hk] at KO
    simp only [Bool.false_and]
    clear HFit HC KS hk
    go_enter Try.func20, Try.ntmps20
    go_upto_region 1 with fail
    rw [← hW0]
    clear hW0
    have gA := HX.out W0 (Ext.refl _)
    go_wp2_with (first
      | (refine wpList_load_row rfl 25 (.tmp 1) rfl (w.heap.size) rfl 25 _ (0, 0) _ gA Try.underlying25 rfl (by kernel_rfl) ?_))
    refine (KO.out _).mono ?_; rintro e w1 ⟨rfl, x1⟩
    obtain ⟨W1, hW1, y1, b1⟩ : ∃ W, W = ((w1.alloc (.cells #[.int .i64 0, .int .i64 0, .int .i64 0, .int .i64 0, .int .i64 0, .int .i64 0, .int .i64 0, .int .i64 0, .slice none 0 0, .slice none 0 0] 25)).setRow w1.heap.size (qstC OV OQ)) ∧ Ext w1 W ∧ W.heap[w1.heap.size]? = some (.cells (qstC OV OQ) 25 (0, 0)) := ⟨_, rfl, asked_row _ _ _ _⟩
    have x1 := x1.trans y1
    clear y1 gA
    go_wp2_with (first
      | (refine wpList_store_row rfl 25 (.tmp 3) (.tmp 8) rfl _ _ rfl rfl 25 _ (heap_new_at _ _ (by first | rfl | simp)) (by kernel_rfl) rfl (by simp [qstC, Value.oneCell']) ?_))
    rw [← hW1]
    go_wp2
    go_ret
    exact ⟨rfl, He.out.trans x1⟩
  | true =>
    rw [hk] at KO
    simp only [Bool.true_and]
    cases B1 with
    | false =>
      simp only [Bool.false_and]
      clear HFit hk
      go_enter Try.func20, Try.ntmps20
      go_upto_region 1 with fail
      rw [← hW0]
      clear hW0
      have gA := HX.out W0 (Ext.refl _)
      go_wp2_with (first
        | (refine wpList_load_row rfl 25 (.tmp 1) rfl (w.heap.size) rfl 25 _ (0, 0) _ gA Try.underlying25 rfl (by kernel_rfl) ?_))
      refine (KO.out _).mono ?_; rintro e w1 ⟨rfl, x1⟩
      obtain ⟨W1, hW1, y1, b1⟩ : ∃ W, W = ((w1.alloc (.cells #[.int .i64 0, .int .i64 0, .int .i64 0, .int .i64 0, .int .i64 0, .int .i64 0, .int .i64 0, .int .i64 0, .slice none 0 0, .slice none 0 0] 25)).setRow w1.heap.size (qstC OV OQ)) ∧ Ext w1 W ∧ W.heap[w1.heap.size]? = some (.cells (qstC OV OQ) 25 (0, 0)) := ⟨_, rfl, asked_row _ _ _ _⟩
      have x1 := x1.trans y1
      clear y1 gA
      have gA := HX.out _ x1
      have b1' := b1
      rw [hW1] at gA b1'
      go_wp2_with (first
        | (refine wpList_store_row rfl 25 (.tmp 3) (.tmp 8) rfl _ _ rfl rfl 25 _ (heap_new_at _ _ (by first | rfl | simp)) (by kernel_rfl) rfl (by simp [qstC, Value.oneCell']) ?_)
        | (refine wpList_load_row_g (by rfl) 25 (.tmp 1) rfl (w.heap.size) rfl 25 _ (0, 0) _ gA Try.underlying25 rfl (by kernel_rfl) ?_)
        | (refine wpList_load_row_g (by rfl) 25 (.tmp 3) rfl (w1.heap.size) rfl 25 _ (0, 0) _ b1' Try.underlying25 rfl (by kernel_rfl) ?_))
      rw [← hW1]
      refine (KS.out _ (He.out.trans x1)).mono ?_; rintro e w2 ⟨rfl, x2⟩
      have x2 := x1.trans x2
      clear gA b1' b1 hW1 x1
      obtain ⟨-, c1, -⟩ := HC.out _ x2
      clear c1
      go_wp2
      go_ret
      exact ⟨rfl, He.out.trans x2⟩
    | true =>
      simp only [Bool.true_and]
      cases hi : inB Q.ad 0 65535 with
      | false =>
        have HI := Lib.hid hi
        simp only [Bool.false_and]
        clear HFit hk hi
        go_enter Try.func20, Try.ntmps20
        go_upto_region 1 with fail
        rw [← hW0]
        clear hW0
        have gA := HX.out W0 (Ext.refl _)
        go_wp2_with (first
          | (refine wpList_load_row rfl 25 (.tmp 1) rfl (w.heap.size) rfl 25 _ (0, 0) _ gA Try.underlying25 rfl (by kernel_rfl) ?_))
        refine (KO.out _).mono ?_; rintro e w1 ⟨rfl, x1⟩
        obtain ⟨W1, hW1, y1, b1⟩ : ∃ W, W = ((w1.alloc (.cells #[.int .i64 0, .int .i64 0, .int .i64 0, .int .i64 0, .int .i64 0, .int .i64 0, .int .i64 0, .int .i64 0, .slice none 0 0, .slice none 0 0] 25)).setRow w1.heap.size (qstC OV OQ)) ∧ Ext w1 W ∧ W.heap[w1.heap.size]? = some (.cells (qstC OV OQ) 25 (0, 0)) := ⟨_, rfl, asked_row _ _ _ _⟩
        have x1 := x1.trans y1
        clear y1 gA
        have gA := HX.out _ x1
        have b1' := b1
        rw [hW1] at gA b1'
        go_wp2_with (first
          | (refine wpList_store_row rfl 25 (.tmp 3) (.tmp 8) rfl _ _ rfl rfl 25 _ (heap_new_at _ _ (by first | rfl | simp)) (by kernel_rfl) rfl (by simp [qstC, Value.oneCell']) ?_)
          | (refine wpList_load_row_g (by rfl) 25 (.tmp 1) rfl (w.heap.size) rfl 25 _ (0, 0) _ gA Try.underlying25 rfl (by kernel_rfl) ?_)
          | (refine wpList_load_row_g (by rfl) 25 (.tmp 3) rfl (w1.heap.size) rfl 25 _ (0, 0) _ b1' Try.underlying25 rfl (by kernel_rfl) ?_))
        rw [← hW1]
        refine (KS.out _ (He.out.trans x1)).mono ?_; rintro e w2 ⟨rfl, x2⟩
        have x2 := x1.trans x2
        clear gA b1' b1 hW1 x1
        obtain ⟨-, c1, -⟩ := HC.out _ x2
        go_wp2_with fail
        refine (rin15_v HI.out _).mono ?_; rintro e w3 ⟨rfl, rfl⟩
        clear c1
        go_wp2
        go_ret
        exact ⟨rfl, He.out.trans x2⟩
      | true =>
        have HI := Lib.hid hi
        simp only [Bool.true_and]
        have hkk := (known_iff Q.k).1 hk
        clear HFit hk hi
        unfold fitsB
        rcases hkk with hk1 | hk2 | hk3 | hk4 | hk5 | hk6 | hk15 | hk16 | hk22 | hk23
        · have HK := Lib.hid hk1
          rw [hk1]

          simp (config := { decide := true }) only [if_true, if_false]
          obtain ⟨B2, h2⟩ : ∃ B, inB Q.ct 1 2000 = B := ⟨_, rfl⟩
          rw [h2]
          have H2 := Lib.hid h2
          clear h2
          clear hk1
          go_enter Try.func20, Try.ntmps20
          go_upto_region 1 with fail
          rw [← hW0]
          clear hW0
          have gA := HX.out W0 (Ext.refl _)
          go_wp2_with (first
            | (refine wpList_load_row rfl 25 (.tmp 1) rfl (w.heap.size) rfl 25 _ (0, 0) _ gA Try.underlying25 rfl (by kernel_rfl) ?_))
          refine (KO.out _).mono ?_; rintro e w1 ⟨rfl, x1⟩
          obtain ⟨W1, hW1, y1, b1⟩ : ∃ W, W = ((w1.alloc (.cells #[.int .i64 0, .int .i64 0, .int .i64 0, .int .i64 0, .int .i64 0, .int .i64 0, .int .i64 0, .int .i64 0, .slice none 0 0, .slice none 0 0] 25)).setRow w1.heap.size (qstC OV OQ)) ∧ Ext w1 W ∧ W.heap[w1.heap.size]? = some (.cells (qstC OV OQ) 25 (0, 0)) := ⟨_, rfl, asked_row _ _ _ _⟩
          have x1 := x1.trans y1
          clear y1 gA
          have gA := HX.out _ x1
          have b1' := b1
          rw [hW1] at gA b1'
          go_wp2_with (first
            | (refine wpList_store_row rfl 25 (.tmp 3) (.tmp 8) rfl _ _ rfl rfl 25 _ (heap_new_at _ _ (by first | rfl | simp)) (by kernel_rfl) rfl (by simp [qstC, Value.oneCell']) ?_)
            | (refine wpList_load_row_g (by rfl) 25 (.tmp 1) rfl (w.heap.size) rfl 25 _ (0, 0) _ gA Try.underlying25 rfl (by kernel_rfl) ?_)
            | (refine wpList_load_row_g (by rfl) 25 (.tmp 3) rfl (w1.heap.size) rfl 25 _ (0, 0) _ b1' Try.underlying25 rfl (by kernel_rfl) ?_))
          rw [← hW1]
          refine (KS.out _ (He.out.trans x1)).mono ?_; rintro e w2 ⟨rfl, x2⟩
          have x2 := x1.trans x2
          clear gA b1' b1 hW1 x1
          obtain ⟨-, c1, -⟩ := HC.out _ x2
          go_wp2_with fail
          refine (rin15_v HI.out _).mono ?_; rintro e w3 ⟨rfl, rfl⟩
          clear c1
          obtain ⟨c0, c1, c2, c3, c4, c5, c6, c7, c8, c9⟩ := HC.out _ x2
          rw [HK.out] at c0
          go_wp2_with fail
          refine (rin15_v H2.out _).mono ?_; rintro e w4 ⟨rfl, rfl⟩
          go_wp2
          go_ret
          exact ⟨rfl, He.out.trans x2⟩
        · have HK := Lib.hid hk2
          rw [hk2]

          simp (config := { decide := true }) only [if_true, if_false]
          obtain ⟨B2, h2⟩ : ∃ B, inB Q.ct 1 2000 = B := ⟨_, rfl⟩
          rw [h2]
          have H2 := Lib.hid h2
          clear h2
          clear hk2
          go_enter Try.func20, Try.ntmps20
          go_upto_region 1 with fail
          rw [← hW0]
          clear hW0
          have gA := HX.out W0 (Ext.refl _)
          go_wp2_with (first
            | (refine wpList_load_row rfl 25 (.tmp 1) rfl (w.heap.size) rfl 25 _ (0, 0) _ gA Try.underlying25 rfl (by kernel_rfl) ?_))
          refine (KO.out _).mono ?_; rintro e w1 ⟨rfl, x1⟩
          obtain ⟨W1, hW1, y1, b1⟩ : ∃ W, W = ((w1.alloc (.cells #[.int .i64 0, .int .i64 0, .int .i64 0, .int .i64 0, .int .i64 0, .int .i64 0, .int .i64 0, .int .i64 0, .slice none 0 0, .slice none 0 0] 25)).setRow w1.heap.size (qstC OV OQ)) ∧ Ext w1 W ∧ W.heap[w1.heap.size]? = some (.cells (qstC OV OQ) 25 (0, 0)) := ⟨_, rfl, asked_row _ _ _ _⟩
          have x1 := x1.trans y1
          clear y1 gA
          have gA := HX.out _ x1
          have b1' := b1
          rw [hW1] at gA b1'
          go_wp2_with (first
            | (refine wpList_store_row rfl 25 (.tmp 3) (.tmp 8) rfl _ _ rfl rfl 25 _ (heap_new_at _ _ (by first | rfl | simp)) (by kernel_rfl) rfl (by simp [qstC, Value.oneCell']) ?_)
            | (refine wpList_load_row_g (by rfl) 25 (.tmp 1) rfl (w.heap.size) rfl 25 _ (0, 0) _ gA Try.underlying25 rfl (by kernel_rfl) ?_)
            | (refine wpList_load_row_g (by rfl) 25 (.tmp 3) rfl (w1.heap.size) rfl 25 _ (0, 0) _ b1' Try.underlying25 rfl (by kernel_rfl) ?_))
          rw [← hW1]
          refine (KS.out _ (He.out.trans x1)).mono ?_; rintro e w2 ⟨rfl, x2⟩
          have x2 := x1.trans x2
          clear gA b1' b1 hW1 x1
          obtain ⟨-, c1, -⟩ := HC.out _ x2
          go_wp2_with fail
          refine (rin15_v HI.out _).mono ?_; rintro e w3 ⟨rfl, rfl⟩
          clear c1
          obtain ⟨c0, c1, c2, c3, c4, c5, c6, c7, c8, c9⟩ := HC.out _ x2
          rw [HK.out] at c0
          go_wp2_with fail
          refine (rin15_v H2.out _).mono ?_; rintro e w4 ⟨rfl, rfl⟩
          go_wp2
          go_ret
          exact ⟨rfl, He.out.trans x2⟩
        · have HK := Lib.hid hk3
          rw [hk3]

          simp (config := { decide := true }) only [if_true, if_false]
          obtain ⟨B2, h2⟩ : ∃ B, inB Q.ct 1 125 = B := ⟨_, rfl⟩
          rw [h2]
          have H2 := Lib.hid h2
          clear h2
          clear hk3
          go_enter Try.func20, Try.ntmps20
          go_upto_region 1 with fail
          rw [← hW0]
          clear hW0
          have gA := HX.out W0 (Ext.refl _)
          go_wp2_with (first
            | (refine wpList_load_row rfl 25 (.tmp 1) rfl (w.heap.size) rfl 25 _ (0, 0) _ gA Try.underlying25 rfl (by kernel_rfl) ?_))
          refine (KO.out _).mono ?_; rintro e w1 ⟨rfl, x1⟩
          obtain ⟨W1, hW1, y1, b1⟩ : ∃ W, W = ((w1.alloc (.cells #[.int .i64 0, .int .i64 0, .int .i64 0, .int .i64 0, .int .i64 0, .int .i64 0, .int .i64 0, .int .i64 0, .slice none 0 0, .slice none 0 0] 25)).setRow w1.heap.size (qstC OV OQ)) ∧ Ext w1 W ∧ W.heap[w1.heap.size]? = some (.cells (qstC OV OQ) 25 (0, 0)) := ⟨_, rfl, asked_row _ _ _ _⟩
          have x1 := x1.trans y1
          clear y1 gA
          have gA := HX.out _ x1
          have b1' := b1
          rw [hW1] at gA b1'
          go_wp2_with (first
            | (refine wpList_store_row rfl 25 (.tmp 3) (.tmp 8) rfl _ _ rfl rfl 25 _ (heap_new_at _ _ (by first | rfl | simp)) (by kernel_rfl) rfl (by simp [qstC, Value.oneCell']) ?_)
            | (refine wpList_load_row_g (by rfl) 25 (.tmp 1) rfl (w.heap.size) rfl 25 _ (0, 0) _ gA Try.underlying25 rfl (by kernel_rfl) ?_)
            | (refine wpList_load_row_g (by rfl) 25 (.tmp 3) rfl (w1.heap.size) rfl 25 _ (0, 0) _ b1' Try.underlying25 rfl (by kernel_rfl) ?_))
          rw [← hW1]
          refine (KS.out _ (He.out.trans x1)).mono ?_; rintro e w2 ⟨rfl, x2⟩
          have x2 := x1.trans x2
          clear gA b1' b1 hW1 x1
          obtain ⟨-, c1, -⟩ := HC.out _ x2
          go_wp2_with fail
          refine (rin15_v HI.out _).mono ?_; rintro e w3 ⟨rfl, rfl⟩
          clear c1
          obtain ⟨c0, c1, c2, c3, c4, c5, c6, c7, c8, c9⟩ := HC.out _ x2
          rw [HK.out] at c0
          go_wp2_with fail
          refine (rin15_v H2.out _).mono ?_; rintro e w4 ⟨rfl, rfl⟩
          go_wp2
          go_ret
          exact ⟨rfl, He.out.trans x2⟩
        · have HK := Lib.hid hk4
          rw [hk4]

          simp (config := { decide := true }) only [if_true, if_false]
          obtain ⟨B2, h2⟩ : ∃ B, inB Q.ct 1 125 = B := ⟨_, rfl⟩
          rw [h2]
          have H2 := Lib.hid h2
          clear h2
          clear hk4
          go_enter Try.func20, Try.ntmps20
          go_upto_region 1 with fail
          rw [← hW0]
          clear hW0
          have gA := HX.out W0 (Ext.refl _)
          go_wp2_with (first
            | (refine wpList_load_row rfl 25 (.tmp 1) rfl (w.heap.size) rfl 25 _ (0, 0) _ gA Try.underlying25 rfl (by kernel_rfl) ?_))
          refine (KO.out _).mono ?_; rintro e w1 ⟨rfl, x1⟩
          obtain ⟨W1, hW1, y1, b1⟩ : ∃ W, W = ((w1.alloc (.cells #[.int .i64 0, .int .i64 0, .int .i64 0, .int .i64 0, .int .i64 0, .int .i64 0, .int .i64 0, .int .i64 0, .slice none 0 0, .slice none 0 0] 25)).setRow w1.heap.size (qstC OV OQ)) ∧ Ext w1 W ∧ W.heap[w1.heap.size]? = some (.cells (qstC OV OQ) 25 (0, 0)) := ⟨_, rfl, asked_row _ _ _ _⟩
          have x1 := x1.trans y1
          clear y1 gA
          have gA := HX.out _ x1
          have b1' := b1
          rw [hW1] at gA b1'
          go_wp2_with (first
            | (refine wpList_store_row rfl 25 (.tmp 3) (.tmp 8) rfl _ _ rfl rfl 25 _ (heap_new_at _ _ (by first | rfl | simp)) (by kernel_rfl) rfl (by simp [qstC, Value.oneCell']) ?_)
            | (refine wpList_load_row_g (by rfl) 25 (.tmp 1) rfl (w.heap.size) rfl 25 _ (0, 0) _ gA Try.underlying25 rfl (by kernel_rfl) ?_)
            | (refine wpList_load_row_g (by rfl) 25 (.tmp 3) rfl (w1.heap.size) rfl 25 _ (0, 0) _ b1' Try.underlying25 rfl (by kernel_rfl) ?_))
          rw [← hW1]
          refine (KS.out _ (He.out.trans x1)).mono ?_; rintro e w2 ⟨rfl, x2⟩
          have x2 := x1.trans x2
          clear gA b1' b1 hW1 x1
          obtain ⟨-, c1, -⟩ := HC.out _ x2
          go_wp2_with fail
          refine (rin15_v HI.out _).mono ?_; rintro e w3 ⟨rfl, rfl⟩
          clear c1
          obtain ⟨c0, c1, c2, c3, c4, c5, c6, c7, c8, c9⟩ := HC.out _ x2
          rw [HK.out] at c0
          go_wp2_with fail
          refine (rin15_v H2.out _).mono ?_; rintro e w4 ⟨rfl, rfl⟩
          go_wp2
          go_ret
          exact ⟨rfl, He.out.trans x2⟩
        · have HK := Lib.hid hk5
          rw [hk5]

          simp (config := { decide := true }) only [if_true, if_false]
          clear hk5
          by_cases hv0 : Q.va = 0
          · have hb : (Q.va == 0) = true := by simp [hv0]
            rw [decide_eq_true (Or.inl hv0)]
            clear hv0
            go_enter Try.func20, Try.ntmps20
            go_upto_region 1 with fail
            rw [← hW0]
            clear hW0
            have gA := HX.out W0 (Ext.refl _)
            go_wp2_with (first
              | (refine wpList_load_row rfl 25 (.tmp 1) rfl (w.heap.size) rfl 25 _ (0, 0) _ gA Try.underlying25 rfl (by kernel_rfl) ?_))
            refine (KO.out _).mono ?_; rintro e w1 ⟨rfl, x1⟩
            obtain ⟨W1, hW1, y1, b1⟩ : ∃ W, W = ((w1.alloc (.cells #[.int .i64 0, .int .i64 0, .int .i64 0, .int .i64 0, .int .i64 0, .int .i64 0, .int .i64 0, .int .i64 0, .slice none 0 0, .slice none 0 0] 25)).setRow w1.heap.size (qstC OV OQ)) ∧ Ext w1 W ∧ W.heap[w1.heap.size]? = some (.cells (qstC OV OQ) 25 (0, 0)) := ⟨_, rfl, asked_row _ _ _ _⟩
            have x1 := x1.trans y1
            clear y1 gA
            have gA := HX.out _ x1
            have b1' := b1
            rw [hW1] at gA b1'
            go_wp2_with (first
              | (refine wpList_store_row rfl 25 (.tmp 3) (.tmp 8) rfl _ _ rfl rfl 25 _ (heap_new_at _ _ (by first | rfl | simp)) (by kernel_rfl) rfl (by simp [qstC, Value.oneCell']) ?_)
              | (refine wpList_load_row_g (by rfl) 25 (.tmp 1) rfl (w.heap.size) rfl 25 _ (0, 0) _ gA Try.underlying25 rfl (by kernel_rfl) ?_)
              | (refine wpList_load_row_g (by rfl) 25 (.tmp 3) rfl (w1.heap.size) rfl 25 _ (0, 0) _ b1' Try.underlying25 rfl (by kernel_rfl) ?_))
            rw [← hW1]
            refine (KS.out _ (He.out.trans x1)).mono ?_; rintro e w2 ⟨rfl, x2⟩
            have x2 := x1.trans x2
            clear gA b1' b1 hW1 x1
            obtain ⟨-, c1, -⟩ := HC.out _ x2
            go_wp2_with fail
            refine (rin15_v HI.out _).mono ?_; rintro e w3 ⟨rfl, rfl⟩
            clear c1
            obtain ⟨c0, c1, c2, c3, c4, c5, c6, c7, c8, c9⟩ := HC.out _ x2
            rw [HK.out] at c0
            go_wp2
            go_ret
            exact ⟨rfl, He.out.trans x2⟩
          · have hb : (Q.va == 0) = false := by simp [hv0]
            by_cases hv1 : Q.va = 65280
            · have hb1 : (Q.va == 65280) = true := by simp [hv1]
              rw [decide_eq_true (Or.inr hv1)]
              clear hv0 hv1
              go_enter Try.func20, Try.ntmps20
              go_upto_region 1 with fail
              rw [← hW0]
              clear hW0
              have gA := HX.out W0 (Ext.refl _)
              go_wp2_with (first
                | (refine wpList_load_row rfl 25 (.tmp 1) rfl (w.heap.size) rfl 25 _ (0, 0) _ gA Try.underlying25 rfl (by kernel_rfl) ?_))
              refine (KO.out _).mono ?_; rintro e w1 ⟨rfl, x1⟩
              obtain ⟨W1, hW1, y1, b1⟩ : ∃ W, W = ((w1.alloc (.cells #[.int .i64 0, .int .i64 0, .int .i64 0, .int .i64 0, .int .i64 0, .int .i64 0, .int .i64 0, .int .i64 0, .slice none 0 0, .slice none 0 0] 25)).setRow w1.heap.size (qstC OV OQ)) ∧ Ext w1 W ∧ W.heap[w1.heap.size]? = some (.cells (qstC OV OQ) 25 (0, 0)) := ⟨_, rfl, asked_row _ _ _ _⟩
              have x1 := x1.trans y1
              clear y1 gA
              have gA := HX.out _ x1
              have b1' := b1
              rw [hW1] at gA b1'
              go_wp2_with (first
                | (refine wpList_store_row rfl 25 (.tmp 3) (.tmp 8) rfl _ _ rfl rfl 25 _ (heap_new_at _ _ (by first | rfl | simp)) (by kernel_rfl) rfl (by simp [qstC, Value.oneCell']) ?_)
                | (refine wpList_load_row_g (by rfl) 25 (.tmp 1) rfl (w.heap.size) rfl 25 _ (0, 0) _ gA Try.underlying25 rfl (by kernel_rfl) ?_)
                | (refine wpList_load_row_g (by rfl) 25 (.tmp 3) rfl (w1.heap.size) rfl 25 _ (0, 0) _ b1' Try.underlying25 rfl (by kernel_rfl) ?_))
              rw [← hW1]
              refine (KS.out _ (He.out.trans x1)).mono ?_; rintro e w2 ⟨rfl, x2⟩
              have x2 := x1.trans x2
              clear gA b1' b1 hW1 x1
              obtain ⟨-, c1, -⟩ := HC.out _ x2
              go_wp2_with fail
              refine (rin15_v HI.out _).mono ?_; rintro e w3 ⟨rfl, rfl⟩
              clear c1
              obtain ⟨c0, c1, c2, c3, c4, c5, c6, c7, c8, c9⟩ := HC.out _ x2
              rw [HK.out] at c0
              go_wp2
              go_ret
              exact ⟨rfl, He.out.trans x2⟩
            · have hb1 : (Q.va == 65280) = false := by simp [hv1]
              rw [decide_eq_false (by omega)]
              clear hv0 hv1
              go_enter Try.func20, Try.ntmps20
              go_upto_region 1 with fail
              rw [← hW0]
              clear hW0
              have gA := HX.out W0 (Ext.refl _)
              go_wp2_with (first
                | (refine wpList_load_row rfl 25 (.tmp 1) rfl (w.heap.size) rfl 25 _ (0, 0) _ gA Try.underlying25 rfl (by kernel_rfl) ?_))
              refine (KO.out _).mono ?_; rintro e w1 ⟨rfl, x1⟩
              obtain ⟨W1, hW1, y1, b1⟩ : ∃ W, W = ((w1.alloc (.cells #[.int .i64 0, .int .i64 0, .int .i64 0, .int .i64 0, .int .i64 0, .int .i64 0, .int .i64 0, .int .i64 0, .slice none 0 0, .slice none 0 0] 25)).setRow w1.heap.size (qstC OV OQ)) ∧ Ext w1 W ∧ W.heap[w1.heap.size]? = some (.cells (qstC OV OQ) 25 (0, 0)) := ⟨_, rfl, asked_row _ _ _ _⟩
              have x1 := x1.trans y1
              clear y1 gA
              have gA := HX.out _ x1
              have b1' := b1
              rw [hW1] at gA b1'
              go_wp2_with (first
                | (refine wpList_store_row rfl 25 (.tmp 3) (.tmp 8) rfl _ _ rfl rfl 25 _ (heap_new_at _ _ (by first | rfl | simp)) (by kernel_rfl) rfl (by simp [qstC, Value.oneCell']) ?_)
                | (refine wpList_load_row_g (by rfl) 25 (.tmp 1) rfl (w.heap.size) rfl 25 _ (0, 0) _ gA Try.underlying25 rfl (by kernel_rfl) ?_)
                | (refine wpList_load_row_g (by rfl) 25 (.tmp 3) rfl (w1.heap.size) rfl 25 _ (0, 0) _ b1' Try.underlying25 rfl (by kernel_rfl) ?_))
              rw [← hW1]
              refine (KS.out _ (He.out.trans x1)).mono ?_; rintro e w2 ⟨rfl, x2⟩
              have x2 := x1.trans x2
              clear gA b1' b1 hW1 x1
              obtain ⟨-, c1, -⟩ := HC.out _ x2
              go_wp2_with fail
              refine (rin15_v HI.out _).mono ?_; rintro e w3 ⟨rfl, rfl⟩
              clear c1
              obtain ⟨c0, c1, c2, c3, c4, c5, c6, c7, c8, c9⟩ := HC.out _ x2
              rw [HK.out] at c0
              go_wp2
              go_ret
              exact ⟨rfl, He.out.trans x2⟩
        · have HK := Lib.hid hk6
          rw [hk6]

          simp (config := { decide := true }) only [if_true, if_false]
          obtain ⟨B2, h2⟩ : ∃ B, inB Q.va 0 65535 = B := ⟨_, rfl⟩
          rw [h2]
          have H2 := Lib.hid h2
          clear h2
          clear hk6
          go_enter Try.func20, Try.ntmps20
          go_upto_region 1 with fail
          rw [← hW0]
          clear hW0
          have gA := HX.out W0 (Ext.refl _)
          go_wp2_with (first
            | (refine wpList_load_row rfl 25 (.tmp 1) rfl (w.heap.size) rfl 25 _ (0, 0) _ gA Try.underlying25 rfl (by kernel_rfl) ?_))
          refine (KO.out _).mono ?_; rintro e w1 ⟨rfl, x1⟩
          obtain ⟨W1, hW1, y1, b1⟩ : ∃ W, W = ((w1.alloc (.cells #[.int .i64 0, .int .i64 0, .int .i64 0, .int .i64 0, .int .i64 0, .int .i64 0, .int .i64 0, .int .i64 0, .slice none 0 0, .slice none 0 0] 25)).setRow w1.heap.size (qstC OV OQ)) ∧ Ext w1 W ∧ W.heap[w1.heap.size]? = some (.cells (qstC OV OQ) 25 (0, 0)) := ⟨_, rfl, asked_row _ _ _ _⟩
          have x1 := x1.trans y1
          clear y1 gA
          have gA := HX.out _ x1
          have b1' := b1
          rw [hW1] at gA b1'
          go_wp2_with (first
            | (refine wpList_store_row rfl 25 (.tmp 3) (.tmp 8) rfl _ _ rfl rfl 25 _ (heap_new_at _ _ (by first | rfl | simp)) (by kernel_rfl) rfl (by simp [qstC, Value.oneCell']) ?_)
            | (refine wpList_load_row_g (by rfl) 25 (.tmp 1) rfl (w.heap.size) rfl 25 _ (0, 0) _ gA Try.underlying25 rfl (by kernel_rfl) ?_)
            | (refine wpList_load_row_g (by rfl) 25 (.tmp 3) rfl (w1.heap.size) rfl 25 _ (0, 0) _ b1' Try.underlying25 rfl (by kernel_rfl) ?_))
          rw [← hW1]
          refine (KS.out _ (He.out.trans x1)).mono ?_; rintro e w2 ⟨rfl, x2⟩
          have x2 := x1.trans x2
          clear gA b1' b1 hW1 x1
          obtain ⟨-, c1, -⟩ := HC.out _ x2
          go_wp2_with fail
          refine (rin15_v HI.out _).mono ?_; rintro e w3 ⟨rfl, rfl⟩
          clear c1
          obtain ⟨c0, c1, c2, c3, c4, c5, c6, c7, c8, c9⟩ := HC.out _ x2
          rw [HK.out] at c0
          go_wp2_with fail
          refine (rin15_v H2.out _).mono ?_; rintro e w4 ⟨rfl, rfl⟩
          go_wp2
          go_ret
          exact ⟨rfl, He.out.trans x2⟩
        · have HK := Lib.hid hk15
          rw [hk15]

          simp (config := { decide := true }) only [if_true, if_false]
          clear hk15
          cases h2 : inB Q.ct 1 1968 with
          | false =>
            have H2 := Lib.hid h2
            rw [Bool.false_and]
            clear h2
            go_enter Try.func20, Try.ntmps20
            go_upto_region 1 with fail
            rw [← hW0]
            clear hW0
            have gA := HX.out W0 (Ext.refl _)
            go_wp2_with (first
              | (refine wpList_load_row rfl 25 (.tmp 1) rfl (w.heap.size) rfl 25 _ (0, 0) _ gA Try.underlying25 rfl (by kernel_rfl) ?_))
            refine (KO.out _).mono ?_; rintro e w1 ⟨rfl, x1⟩
            obtain ⟨W1, hW1, y1, b1⟩ : ∃ W, W = ((w1.alloc (.cells #[.int .i64 0, .int .i64 0, .int .i64 0, .int .i64 0, .int .i64 0, .int .i64 0, .int .i64 0, .int .i64 0, .slice none 0 0, .slice none 0 0] 25)).setRow w1.heap.size (qstC OV OQ)) ∧ Ext w1 W ∧ W.heap[w1.heap.size]? = some (.cells (qstC OV OQ) 25 (0, 0)) := ⟨_, rfl, asked_row _ _ _ _⟩
            have x1 := x1.trans y1
            clear y1 gA
            have gA := HX.out _ x1
            have b1' := b1
            rw [hW1] at gA b1'
            go_wp2_with (first
              | (refine wpList_store_row rfl 25 (.tmp 3) (.tmp 8) rfl _ _ rfl rfl 25 _ (heap_new_at _ _ (by first | rfl | simp)) (by kernel_rfl) rfl (by simp [qstC, Value.oneCell']) ?_)
              | (refine wpList_load_row_g (by rfl) 25 (.tmp 1) rfl (w.heap.size) rfl 25 _ (0, 0) _ gA Try.underlying25 rfl (by kernel_rfl) ?_)
              | (refine wpList_load_row_g (by rfl) 25 (.tmp 3) rfl (w1.heap.size) rfl 25 _ (0, 0) _ b1' Try.underlying25 rfl (by kernel_rfl) ?_))
            rw [← hW1]
            refine (KS.out _ (He.out.trans x1)).mono ?_; rintro e w2 ⟨rfl, x2⟩
            have x2 := x1.trans x2
            clear gA b1' b1 hW1 x1
            obtain ⟨-, c1, -⟩ := HC.out _ x2
            go_wp2_with fail
            refine (rin15_v HI.out _).mono ?_; rintro e w3 ⟨rfl, rfl⟩
            clear c1
            obtain ⟨c0, c1, c2, c3, c4, c5, c6, c7, c8, c9⟩ := HC.out _ x2
            rw [HK.out] at c0
            go_wp2_with fail
            refine (rin15_v H2.out _).mono ?_; rintro e w4 ⟨rfl, rfl⟩
            go_wp2
            go_ret
            exact ⟨rfl, He.out.trans x2⟩
          | true =>
            have H2 := Lib.hid h2
            rw [Bool.true_and]
            clear h2
            by_cases hl : (Q.nb : Int) = Q.ct
            · have hb : ((Q.nb : Int) == Q.ct) = true := by simp [hl]
              rw [decide_eq_true hl]
              clear hl
              go_enter Try.func20, Try.ntmps20
              go_upto_region 1 with fail
              rw [← hW0]
              clear hW0
              have gA := HX.out W0 (Ext.refl _)
              go_wp2_with (first
                | (refine wpList_load_row rfl 25 (.tmp 1) rfl (w.heap.size) rfl 25 _ (0, 0) _ gA Try.underlying25 rfl (by kernel_rfl) ?_))
              refine (KO.out _).mono ?_; rintro e w1 ⟨rfl, x1⟩
              obtain ⟨W1, hW1, y1, b1⟩ : ∃ W, W = ((w1.alloc (.cells #[.int .i64 0, .int .i64 0, .int .i64 0, .int .i64 0, .int .i64 0, .int .i64 0, .int .i64 0, .int .i64 0, .slice none 0 0, .slice none 0 0] 25)).setRow w1.heap.size (qstC OV OQ)) ∧ Ext w1 W ∧ W.heap[w1.heap.size]? = some (.cells (qstC OV OQ) 25 (0, 0)) := ⟨_, rfl, asked_row _ _ _ _⟩
              have x1 := x1.trans y1
              clear y1 gA
              have gA := HX.out _ x1
              have b1' := b1
              rw [hW1] at gA b1'
              go_wp2_with (first
                | (refine wpList_store_row rfl 25 (.tmp 3) (.tmp 8) rfl _ _ rfl rfl 25 _ (heap_new_at _ _ (by first | rfl | simp)) (by kernel_rfl) rfl (by simp [qstC, Value.oneCell']) ?_)
                | (refine wpList_load_row_g (by rfl) 25 (.tmp 1) rfl (w.heap.size) rfl 25 _ (0, 0) _ gA Try.underlying25 rfl (by kernel_rfl) ?_)
                | (refine wpList_load_row_g (by rfl) 25 (.tmp 3) rfl (w1.heap.size) rfl 25 _ (0, 0) _ b1' Try.underlying25 rfl (by kernel_rfl) ?_))
              rw [← hW1]
              refine (KS.out _ (He.out.trans x1)).mono ?_; rintro e w2 ⟨rfl, x2⟩
              have x2 := x1.trans x2
              clear gA b1' b1 hW1 x1
              obtain ⟨-, c1, -⟩ := HC.out _ x2
              go_wp2_with fail
              refine (rin15_v HI.out _).mono ?_; rintro e w3 ⟨rfl, rfl⟩
              clear c1
              obtain ⟨c0, c1, c2, c3, c4, c5, c6, c7, c8, c9⟩ := HC.out _ x2
              rw [HK.out] at c0
              go_wp2_with fail
              refine (rin15_v H2.out _).mono ?_; rintro e w4 ⟨rfl, rfl⟩
              go_wp2
              go_ret
              exact ⟨rfl, He.out.trans x2⟩
            · have hb : ((Q.nb : Int) == Q.ct) = false := by simp [hl]
              rw [decide_eq_false hl]
              clear hl
              go_enter Try.func20, Try.ntmps20
              go_upto_region 1 with fail
              rw [← hW0]
              clear hW0
              have gA := HX.out W0 (Ext.refl _)
              go_wp2_with (first
                | (refine wpList_load_row rfl 25 (.tmp 1) rfl (w.heap.size) rfl 25 _ (0, 0) _ gA Try.underlying25 rfl (by kernel_rfl) ?_))
              refine (KO.out _).mono ?_; rintro e w1 ⟨rfl, x1⟩
              obtain ⟨W1, hW1, y1, b1⟩ : ∃ W, W = ((w1.alloc (.cells #[.int .i64 0, .int .i64 0, .int .i64 0, .int .i64 0, .int .i64 0, .int .i64 0, .int .i64 0, .int .i64 0, .slice none 0 0, .slice none 0 0] 25)).setRow w1.heap.size (qstC OV OQ)) ∧ Ext w1 W ∧ W.heap[w1.heap.size]? = some (.cells (qstC OV OQ) 25 (0, 0)) := ⟨_, rfl, asked_row _ _ _ _⟩
              have x1 := x1.trans y1
              clear y1 gA
              have gA := HX.out _ x1
              have b1' := b1
              rw [hW1] at gA b1'
              go_wp2_with (first
                | (refine wpList_store_row rfl 25 (.tmp 3) (.tmp 8) rfl _ _ rfl rfl 25 _ (heap_new_at _ _ (by first | rfl | simp)) (by kernel_rfl) rfl (by simp [qstC, Value.oneCell']) ?_)
                | (refine wpList_load_row_g (by rfl) 25 (.tmp 1) rfl (w.heap.size) rfl 25 _ (0, 0) _ gA Try.underlying25 rfl (by kernel_rfl) ?_)
                | (refine wpList_load_row_g (by rfl) 25 (.tmp 3) rfl (w1.heap.size) rfl 25 _ (0, 0) _ b1' Try.underlying25 rfl (by kernel_rfl) ?_))
              rw [← hW1]
              refine (KS.out _ (He.out.trans x1)).mono ?_; rintro e w2 ⟨rfl, x2⟩
              have x2 := x1.trans x2
              clear gA b1' b1 hW1 x1
              obtain ⟨-, c1, -⟩ := HC.out _ x2
              go_wp2_with fail
              refine (rin15_v HI.out _).mono ?_; rintro e w3 ⟨rfl, rfl⟩
              clear c1
              obtain ⟨c0, c1, c2, c3, c4, c5, c6, c7, c8, c9⟩ := HC.out _ x2
              rw [HK.out] at c0
              go_wp2_with fail
              refine (rin15_v H2.out _).mono ?_; rintro e w4 ⟨rfl, rfl⟩
              go_wp2
              go_ret
              exact ⟨rfl, He.out.trans x2⟩
        · have HK := Lib.hid hk16
          rw [hk16]

          simp (config := { decide := true }) only [if_true, if_false]
          clear hk16
          cases h2 : inB Q.ct 1 123 with
          | false =>
            have H2 := Lib.hid h2
            rw [Bool.false_and]
            clear h2
            go_enter Try.func20, Try.ntmps20
            go_upto_region 1 with fail
            rw [← hW0]
            clear hW0
            have gA := HX.out W0 (Ext.refl _)
            go_wp2_with (first
              | (refine wpList_load_row rfl 25 (.tmp 1) rfl (w.heap.size) rfl 25 _ (0, 0) _ gA Try.underlying25 rfl (by kernel_rfl) ?_))
            refine (KO.out _).mono ?_; rintro e w1 ⟨rfl, x1⟩
            obtain ⟨W1, hW1, y1, b1⟩ : ∃ W, W = ((w1.alloc (.cells #[.int .i64 0, .int .i64 0, .int .i64 0, .int .i64 0, .int .i64 0, .int .i64 0, .int .i64 0, .int .i64 0, .slice none 0 0, .slice none 0 0] 25)).setRow w1.heap.size (qstC OV OQ)) ∧ Ext w1 W ∧ W.heap[w1.heap.size]? = some (.cells (qstC OV OQ) 25 (0, 0)) := ⟨_, rfl, asked_row _ _ _ _⟩
            have x1 := x1.trans y1
            clear y1 gA
            have gA := HX.out _ x1
            have b1' := b1
            rw [hW1] at gA b1'
            go_wp2_with (first
              | (refine wpList_store_row rfl 25 (.tmp 3) (.tmp 8) rfl _ _ rfl rfl 25 _ (heap_new_at _ _ (by first | rfl | simp)) (by kernel_rfl) rfl (by simp [qstC, Value.oneCell']) ?_)
              | (refine wpList_load_row_g (by rfl) 25 (.tmp 1) rfl (w.heap.size) rfl 25 _ (0, 0) _ gA Try.underlying25 rfl (by kernel_rfl) ?_)
              | (refine wpList_load_row_g (by rfl) 25 (.tmp 3) rfl (w1.heap.size) rfl 25 _ (0, 0) _ b1' Try.underlying25 rfl (by kernel_rfl) ?_))
            rw [← hW1]
            refine (KS.out _ (He.out.trans x1)).mono ?_; rintro e w2 ⟨rfl, x2⟩
            have x2 := x1.trans x2
            clear gA b1' b1 hW1 x1
            obtain ⟨-, c1, -⟩ := HC.out _ x2
            go_wp2_with fail
            refine (rin15_v HI.out _).mono ?_; rintro e w3 ⟨rfl, rfl⟩
            clear c1
            obtain ⟨c0, c1, c2, c3, c4, c5, c6, c7, c8, c9⟩ := HC.out _ x2
            rw [HK.out] at c0
            go_wp2_with fail
            refine (rin15_v H2.out _).mono ?_; rintro e w4 ⟨rfl, rfl⟩
            go_wp2
            go_ret
            exact ⟨rfl, He.out.trans x2⟩
          | true =>
            have H2 := Lib.hid h2
            rw [Bool.true_and]
            clear h2
            by_cases hl : (Q.nr : Int) = Q.ct
            · have hb : ((Q.nr : Int) == Q.ct) = true := by simp [hl]
              rw [decide_eq_true hl]
              clear hl
              go_enter Try.func20, Try.ntmps20
              go_upto_region 1 with fail
              rw [← hW0]
              clear hW0
              have gA := HX.out W0 (Ext.refl _)
              go_wp2_with (first
                | (refine wpList_load_row rfl 25 (.tmp 1) rfl (w.heap.size) rfl 25 _ (0, 0) _ gA Try.underlying25 rfl (by kernel_rfl) ?_))
              refine (KO.out _).mono ?_; rintro e w1 ⟨rfl, x1⟩
              obtain ⟨W1, hW1, y1, b1⟩ : ∃ W, W = ((w1.alloc (.cells #[.int .i64 0, .int .i64 0, .int .i64 0, .int .i64 0, .int .i64 0, .int .i64 0, .int .i64 0, .int .i64 0, .slice none 0 0, .slice none 0 0] 25)).setRow w1.heap.size (qstC OV OQ)) ∧ Ext w1 W ∧ W.heap[w1.heap.size]? = some (.cells (qstC OV OQ) 25 (0, 0)) := ⟨_, rfl, asked_row _ _ _ _⟩
              have x1 := x1.trans y1
              clear y1 gA
              have gA := HX.out _ x1
              have b1' := b1
              rw [hW1] at gA b1'
              go_wp2_with (first
                | (refine wpList_store_row rfl 25 (.tmp 3) (.tmp 8) rfl _ _ rfl rfl 25 _ (heap_new_at _ _ (by first | rfl | simp)) (by kernel_rfl) rfl (by simp [qstC, Value.oneCell']) ?_)
                | (refine wpList_load_row_g (by rfl) 25 (.tmp 1) rfl (w.heap.size) rfl 25 _ (0, 0) _ gA Try.underlying25 rfl (by kernel_rfl) ?_)
                | (refine wpList_load_row_g (by rfl) 25 (.tmp 3) rfl (w1.heap.size) rfl 25 _ (0, 0) _ b1' Try.underlying25 rfl (by kernel_rfl) ?_))
              rw [← hW1]
              refine (KS.out _ (He.out.trans x1)).mono ?_; rintro e w2 ⟨rfl, x2⟩
              have x2 := x1.trans x2
              clear gA b1' b1 hW1 x1
              obtain ⟨-, c1, -⟩ := HC.out _ x2
              go_wp2_with fail
              refine (rin15_v HI.out _).mono ?_; rintro e w3 ⟨rfl, rfl⟩
              clear c1
              obtain ⟨c0, c1, c2, c3, c4, c5, c6, c7, c8, c9⟩ := HC.out _ x2
              rw [HK.out] at c0
              go_wp2_with fail
              refine (rin15_v H2.out _).mono ?_; rintro e w4 ⟨rfl, rfl⟩
              go_wp2
              go_ret
              exact ⟨rfl, He.out.trans x2⟩
            · have hb : ((Q.nr : Int) == Q.ct) = false := by simp [hl]
              rw [decide_eq_false hl]
              clear hl
              go_enter Try.func20, Try.ntmps20
              go_upto_region 1 with fail
              rw [← hW0]
              clear hW0
              have gA := HX.out W0 (Ext.refl _)
              go_wp2_with (first
                | (refine wpList_load_row rfl 25 (.tmp 1) rfl (w.heap.size) rfl 25 _ (0, 0) _ gA Try.underlying25 rfl (by kernel_rfl) ?_))
              refine (KO.out _).mono ?_; rintro e w1 ⟨rfl, x1⟩
              obtain ⟨W1, hW1, y1, b1⟩ : ∃ W, W = ((w1.alloc (.cells #[.int .i64 0, .int .i64 0, .int .i64 0, .int .i64 0, .int .i64 0, .int .i64 0, .int .i64 0, .int .i64 0, .slice none 0 0, .slice none 0 0] 25)).setRow w1.heap.size (qstC OV OQ)) ∧ Ext w1 W ∧ W.heap[w1.heap.size]? = some (.cells (qstC OV OQ) 25 (0, 0)) := ⟨_, rfl, asked_row _ _ _ _⟩
              have x1 := x1.trans y1
              clear y1 gA
              have gA := HX.out _ x1
              have b1' := b1
              rw [hW1] at gA b1'
              go_wp2_with (first
                | (refine wpList_store_row rfl 25 (.tmp 3) (.tmp 8) rfl _ _ rfl rfl 25 _ (heap_new_at _ _ (by first | rfl | simp)) (by kernel_rfl) rfl (by simp [qstC, Value.oneCell']) ?_)
                | (refine wpList_load_row_g (by rfl) 25 (.tmp 1) rfl (w.heap.size) rfl 25 _ (0, 0) _ gA Try.underlying25 rfl (by kernel_rfl) ?_)
                | (refine wpList_load_row_g (by rfl) 25 (.tmp 3) rfl (w1.heap.size) rfl 25 _ (0, 0) _ b1' Try.underlying25 rfl (by kernel_rfl) ?_))
              rw [← hW1]
              refine (KS.out _ (He.out.trans x1)).mono ?_; rintro e w2 ⟨rfl, x2⟩
              have x2 := x1.trans x2
              clear gA b1' b1 hW1 x1
              obtain ⟨-, c1, -⟩ := HC.out _ x2
              go_wp2_with fail
              refine (rin15_v HI.out _).mono ?_; rintro e w3 ⟨rfl, rfl⟩
              clear c1
              obtain ⟨c0, c1, c2, c3, c4, c5, c6, c7, c8, c9⟩ := HC.out _ x2
              rw [HK.out] at c0
              go_wp2_with fail
              refine (rin15_v H2.out _).mono ?_; rintro e w4 ⟨rfl, rfl⟩
              go_wp2
              go_ret
              exact ⟨rfl, He.out.trans x2⟩
        · have HK := Lib.hid hk22
          rw [hk22]

          simp (config := { decide := true }) only [if_true, if_false]
          clear hk22
          cases h2 : inB Q.an 0 65535 with
          | false =>
            have H2 := Lib.hid h2
            rw [Bool.false_and]
            clear h2
            go_enter Try.func20, Try.ntmps20
            go_upto_region 1 with fail
            rw [← hW0]
            clear hW0
            have gA := HX.out W0 (Ext.refl _)
            go_wp2_with (first
              | (refine wpList_load_row rfl 25 (.tmp 1) rfl (w.heap.size) rfl 25 _ (0, 0) _ gA Try.underlying25 rfl (by kernel_rfl) ?_))
            refine (KO.out _).mono ?_; rintro e w1 ⟨rfl, x1⟩
            obtain ⟨W1, hW1, y1, b1⟩ : ∃ W, W = ((w1.alloc (.cells #[.int .i64 0, .int .i64 0, .int .i64 0, .int .i64 0, .int .i64 0, .int .i64 0, .int .i64 0, .int .i64 0, .slice none 0 0, .slice none 0 0] 25)).setRow w1.heap.size (qstC OV OQ)) ∧ Ext w1 W ∧ W.heap[w1.heap.size]? = some (.cells (qstC OV OQ) 25 (0, 0)) := ⟨_, rfl, asked_row _ _ _ _⟩
            have x1 := x1.trans y1
            clear y1 gA
            have gA := HX.out _ x1
            have b1' := b1
            rw [hW1] at gA b1'
            go_wp2_with (first
              | (refine wpList_store_row rfl 25 (.tmp 3) (.tmp 8) rfl _ _ rfl rfl 25 _ (heap_new_at _ _ (by first | rfl | simp)) (by kernel_rfl) rfl (by simp [qstC, Value.oneCell']) ?_)
              | (refine wpList_load_row_g (by rfl) 25 (.tmp 1) rfl (w.heap.size) rfl 25 _ (0, 0) _ gA Try.underlying25 rfl (by kernel_rfl) ?_)
              | (refine wpList_load_row_g (by rfl) 25 (.tmp 3) rfl (w1.heap.size) rfl 25 _ (0, 0) _ b1' Try.underlying25 rfl (by kernel_rfl) ?_))
            rw [← hW1]
            refine (KS.out _ (He.out.trans x1)).mono ?_; rintro e w2 ⟨rfl, x2⟩
            have x2 := x1.trans x2
            clear gA b1' b1 hW1 x1
            obtain ⟨-, c1, -⟩ := HC.out _ x2
            go_wp2_with fail
            refine (rin15_v HI.out _).mono ?_; rintro e w3 ⟨rfl, rfl⟩
            clear c1
            obtain ⟨c0, c1, c2, c3, c4, c5, c6, c7, c8, c9⟩ := HC.out _ x2
            rw [HK.out] at c0
            go_wp2_with fail
            refine (rin15_v H2.out _).mono ?_; rintro e w4 ⟨rfl, rfl⟩
            go_wp2
            go_ret
            exact ⟨rfl, He.out.trans x2⟩
          | true =>
            have H2 := Lib.hid h2
            rw [Bool.true_and]
            clear h2
            obtain ⟨B3, h3⟩ : ∃ B, inB Q.oo 0 65535 = B := ⟨_, rfl⟩
            rw [h3]
            have H3 := Lib.hid h3
            clear h3
            go_enter Try.func20, Try.ntmps20
            go_upto_region 1 with fail
            rw [← hW0]
            clear hW0
            have gA := HX.out W0 (Ext.refl _)
            go_wp2_with (first
              | (refine wpList_load_row rfl 25 (.tmp 1) rfl (w.heap.size) rfl 25 _ (0, 0) _ gA Try.underlying25 rfl (by kernel_rfl) ?_))
            refine (KO.out _).mono ?_; rintro e w1 ⟨rfl, x1⟩
            obtain ⟨W1, hW1, y1, b1⟩ : ∃ W, W = ((w1.alloc (.cells #[.int .i64 0, .int .i64 0, .int .i64 0, .int .i64 0, .int .i64 0, .int .i64 0, .int .i64 0, .int .i64 0, .slice none 0 0, .slice none 0 0] 25)).setRow w1.heap.size (qstC OV OQ)) ∧ Ext w1 W ∧ W.heap[w1.heap.size]? = some (.cells (qstC OV OQ) 25 (0, 0)) := ⟨_, rfl, asked_row _ _ _ _⟩
            have x1 := x1.trans y1
            clear y1 gA
            have gA := HX.out _ x1
            have b1' := b1
            rw [hW1] at gA b1'
            go_wp2_with (first
              | (refine wpList_store_row rfl 25 (.tmp 3) (.tmp 8) rfl _ _ rfl rfl 25 _ (heap_new_at _ _ (by first | rfl | simp)) (by kernel_rfl) rfl (by simp [qstC, Value.oneCell']) ?_)
              | (refine wpList_load_row_g (by rfl) 25 (.tmp 1) rfl (w.heap.size) rfl 25 _ (0, 0) _ gA Try.underlying25 rfl (by kernel_rfl) ?_)
              | (refine wpList_load_row_g (by rfl) 25 (.tmp 3) rfl (w1.heap.size) rfl 25 _ (0, 0) _ b1' Try.underlying25 rfl (by kernel_rfl) ?_))
            rw [← hW1]
            refine (KS.out _ (He.out.trans x1)).mono ?_; rintro e w2 ⟨rfl, x2⟩
            have x2 := x1.trans x2
            clear gA b1' b1 hW1 x1
            obtain ⟨-, c1, -⟩ := HC.out _ x2
            go_wp2_with fail
            refine (rin15_v HI.out _).mono ?_; rintro e w3 ⟨rfl, rfl⟩
            clear c1
            obtain ⟨c0, c1, c2, c3, c4, c5, c6, c7, c8, c9⟩ := HC.out _ x2
            rw [HK.out] at c0
            go_wp2_with fail
            refine (rin15_v H2.out _).mono ?_; rintro e w4 ⟨rfl, rfl⟩
            go_wp2_with fail
            refine (rin15_v H3.out _).mono ?_; rintro e w4 ⟨rfl, rfl⟩
            go_wp2
            go_ret
            exact ⟨rfl, He.out.trans x2⟩
        · have HK := Lib.hid hk23
          rw [hk23]

          simp (config := { decide := true }) only [if_false]
          clear hk23
          cases h2 : inB Q.fr 0 65535 with
          | false =>
            have H2 := Lib.hid h2
            simp only [Bool.false_and]
            clear h2
            go_enter Try.func20, Try.ntmps20
            go_upto_region 1 with fail
            rw [← hW0]
            clear hW0
            have gA := HX.out W0 (Ext.refl _)
            go_wp2_with (first
              | (refine wpList_load_row rfl 25 (.tmp 1) rfl (w.heap.size) rfl 25 _ (0, 0) _ gA Try.underlying25 rfl (by kernel_rfl) ?_))
            refine (KO.out _).mono ?_; rintro e w1 ⟨rfl, x1⟩
            obtain ⟨W1, hW1, y1, b1⟩ : ∃ W, W = ((w1.alloc (.cells #[.int .i64 0, .int .i64 0, .int .i64 0, .int .i64 0, .int .i64 0, .int .i64 0, .int .i64 0, .int .i64 0, .slice none 0 0, .slice none 0 0] 25)).setRow w1.heap.size (qstC OV OQ)) ∧ Ext w1 W ∧ W.heap[w1.heap.size]? = some (.cells (qstC OV OQ) 25 (0, 0)) := ⟨_, rfl, asked_row _ _ _ _⟩
            have x1 := x1.trans y1
            clear y1 gA
            have gA := HX.out _ x1
            have b1' := b1
            rw [hW1] at gA b1'
            go_wp2_with (first
              | (refine wpList_store_row rfl 25 (.tmp 3) (.tmp 8) rfl _ _ rfl rfl 25 _ (heap_new_at _ _ (by first | rfl | simp)) (by kernel_rfl) rfl (by simp [qstC, Value.oneCell']) ?_)
              | (refine wpList_load_row_g (by rfl) 25 (.tmp 1) rfl (w.heap.size) rfl 25 _ (0, 0) _ gA Try.underlying25 rfl (by kernel_rfl) ?_)
              | (refine wpList_load_row_g (by rfl) 25 (.tmp 3) rfl (w1.heap.size) rfl 25 _ (0, 0) _ b1' Try.underlying25 rfl (by kernel_rfl) ?_))
            rw [← hW1]
            refine (KS.out _ (He.out.trans x1)).mono ?_; rintro e w2 ⟨rfl, x2⟩
            have x2 := x1.trans x2
            clear gA b1' b1 hW1 x1
            obtain ⟨-, c1, -⟩ := HC.out _ x2
            go_wp2_with fail
            refine (rin15_v HI.out _).mono ?_; rintro e w3 ⟨rfl, rfl⟩
            clear c1
            obtain ⟨c0, c1, c2, c3, c4, c5, c6, c7, c8, c9⟩ := HC.out _ x2
            rw [HK.out] at c0
            go_wp2_with fail
            refine (rin15_v H2.out _).mono ?_; rintro e w4 ⟨rfl, rfl⟩
            go_wp2
            go_ret
            exact ⟨rfl, He.out.trans x2⟩
          | true =>
            have H2 := Lib.hid h2
            clear h2
            cases h3 : inB Q.mn 1 125 with
            | false =>
              have H3 := Lib.hid h3
              simp only [Bool.false_and, Bool.true_and]
              clear h3
              go_enter Try.func20, Try.ntmps20
              go_upto_region 1 with fail
              rw [← hW0]
              clear hW0
              have gA := HX.out W0 (Ext.refl _)
              go_wp2_with (first
                | (refine wpList_load_row rfl 25 (.tmp 1) rfl (w.heap.size) rfl 25 _ (0, 0) _ gA Try.underlying25 rfl (by kernel_rfl) ?_))
              refine (KO.out _).mono ?_; rintro e w1 ⟨rfl, x1⟩
              obtain ⟨W1, hW1, y1, b1⟩ : ∃ W, W = ((w1.alloc (.cells #[.int .i64 0, .int .i64 0, .int .i64 0, .int .i64 0, .int .i64 0, .int .i64 0, .int .i64 0, .int .i64 0, .slice none 0 0, .slice none 0 0] 25)).setRow w1.heap.size (qstC OV OQ)) ∧ Ext w1 W ∧ W.heap[w1.heap.size]? = some (.cells (qstC OV OQ) 25 (0, 0)) := ⟨_, rfl, asked_row _ _ _ _⟩
              have x1 := x1.trans y1
              clear y1 gA
              have gA := HX.out _ x1
              have b1' := b1
              rw [hW1] at gA b1'
              go_wp2_with (first
                | (refine wpList_store_row rfl 25 (.tmp 3) (.tmp 8) rfl _ _ rfl rfl 25 _ (heap_new_at _ _ (by first | rfl | simp)) (by kernel_rfl) rfl (by simp [qstC, Value.oneCell']) ?_)
                | (refine wpList_load_row_g (by rfl) 25 (.tmp 1) rfl (w.heap.size) rfl 25 _ (0, 0) _ gA Try.underlying25 rfl (by kernel_rfl) ?_)
                | (refine wpList_load_row_g (by rfl) 25 (.tmp 3) rfl (w1.heap.size) rfl 25 _ (0, 0) _ b1' Try.underlying25 rfl (by kernel_rfl) ?_))
              rw [← hW1]
              refine (KS.out _ (He.out.trans x1)).mono ?_; rintro e w2 ⟨rfl, x2⟩
              have x2 := x1.trans x2
              clear gA b1' b1 hW1 x1
              obtain ⟨-, c1, -⟩ := HC.out _ x2
              go_wp2_with fail
              refine (rin15_v HI.out _).mono ?_; rintro e w3 ⟨rfl, rfl⟩
              clear c1
              obtain ⟨c0, c1, c2, c3, c4, c5, c6, c7, c8, c9⟩ := HC.out _ x2
              rw [HK.out] at c0
              go_wp2_with fail
              refine (rin15_v H2.out _).mono ?_; rintro e w4 ⟨rfl, rfl⟩
              go_wp2_with fail
              refine (rin15_v H3.out _).mono ?_; rintro e w4 ⟨rfl, rfl⟩
              go_wp2
              go_ret
              exact ⟨rfl, He.out.trans x2⟩
            | true =>
              have H3 := Lib.hid h3
              clear h3
              cases h4 : inB Q.ct 1 121 with
              | false =>
                have H4 := Lib.hid h4
                simp only [Bool.false_and, Bool.true_and]
                clear h4
                go_enter Try.func20, Try.ntmps20
                go_upto_region 1 with fail
                rw [← hW0]
                clear hW0
                have gA := HX.out W0 (Ext.refl _)
                go_wp2_with (first
                  | (refine wpList_load_row rfl 25 (.tmp 1) rfl (w.heap.size) rfl 25 _ (0, 0) _ gA Try.underlying25 rfl (by kernel_rfl) ?_))
                refine (KO.out _).mono ?_; rintro e w1 ⟨rfl, x1⟩
                obtain ⟨W1, hW1, y1, b1⟩ : ∃ W, W = ((w1.alloc (.cells #[.int .i64 0, .int .i64 0, .int .i64 0, .int .i64 0, .int .i64 0, .int .i64 0, .int .i64 0, .int .i64 0, .slice none 0 0, .slice none 0 0] 25)).setRow w1.heap.size (qstC OV OQ)) ∧ Ext w1 W ∧ W.heap[w1.heap.size]? = some (.cells (qstC OV OQ) 25 (0, 0)) := ⟨_, rfl, asked_row _ _ _ _⟩
                have x1 := x1.trans y1
                clear y1 gA
                have gA := HX.out _ x1
                have b1' := b1
                rw [hW1] at gA b1'
                go_wp2_with (first
                  | (refine wpList_store_row rfl 25 (.tmp 3) (.tmp 8) rfl _ _ rfl rfl 25 _ (heap_new_at _ _ (by first | rfl | simp)) (by kernel_rfl) rfl (by simp [qstC, Value.oneCell']) ?_)
                  | (refine wpList_load_row_g (by rfl) 25 (.tmp 1) rfl (w.heap.size) rfl 25 _ (0, 0) _ gA Try.underlying25 rfl (by kernel_rfl) ?_)
                  | (refine wpList_load_row_g (by rfl) 25 (.tmp 3) rfl (w1.heap.size) rfl 25 _ (0, 0) _ b1' Try.underlying25 rfl (by kernel_rfl) ?_))
                rw [← hW1]
                refine (KS.out _ (He.out.trans x1)).mono ?_; rintro e w2 ⟨rfl, x2⟩
                have x2 := x1.trans x2
                clear gA b1' b1 hW1 x1
                obtain ⟨-, c1, -⟩ := HC.out _ x2
                go_wp2_with fail
                refine (rin15_v HI.out _).mono ?_; rintro e w3 ⟨rfl, rfl⟩
                clear c1
                obtain ⟨c0, c1, c2, c3, c4, c5, c6, c7, c8, c9⟩ := HC.out _ x2
                rw [HK.out] at c0
                go_wp2_with fail
                refine (rin15_v H2.out _).mono ?_; rintro e w4 ⟨rfl, rfl⟩
                go_wp2_with fail
                refine (rin15_v H3.out _).mono ?_; rintro e w4 ⟨rfl, rfl⟩
                go_wp2_with fail
                refine (rin15_v H4.out _).mono ?_; rintro e w4 ⟨rfl, rfl⟩
                go_wp2
                go_ret
                exact ⟨rfl, He.out.trans x2⟩
              | true =>
                have H4 := Lib.hid h4
                simp only [Bool.true_and]
                clear h4
                by_cases hl : (Q.nr : Int) = Q.ct
                · have hb : ((Q.nr : Int) == Q.ct) = true := by simp [hl]
                  rw [decide_eq_true hl]
                  clear hl
                  go_enter Try.func20, Try.ntmps20
                  go_upto_region 1 with fail
                  rw [← hW0]
                  clear hW0
                  have gA := HX.out W0 (Ext.refl _)
                  go_wp2_with (first
                    | (refine wpList_load_row rfl 25 (.tmp 1) rfl (w.heap.size) rfl 25 _ (0, 0) _ gA Try.underlying25 rfl (by kernel_rfl) ?_))
                  refine (KO.out _).mono ?_; rintro e w1 ⟨rfl, x1⟩
                  obtain ⟨W1, hW1, y1, b1⟩ : ∃ W, W = ((w1.alloc (.cells #[.int .i64 0, .int .i64 0, .int .i64 0, .int .i64 0, .int .i64 0, .int .i64 0, .int .i64 0, .int .i64 0, .slice none 0 0, .slice none 0 0] 25)).setRow w1.heap.size (qstC OV OQ)) ∧ Ext w1 W ∧ W.heap[w1.heap.size]? = some (.cells (qstC OV OQ) 25 (0, 0)) := ⟨_, rfl, asked_row _ _ _ _⟩
                  have x1 := x1.trans y1
                  clear y1 gA
                  have gA := HX.out _ x1
                  have b1' := b1
                  rw [hW1] at gA b1'
                  go_wp2_with (first
                    | (refine wpList_store_row rfl 25 (.tmp 3) (.tmp 8) rfl _ _ rfl rfl 25 _ (heap_new_at _ _ (by first | rfl | simp)) (by kernel_rfl) rfl (by simp [qstC, Value.oneCell']) ?_)
                    | (refine wpList_load_row_g (by rfl) 25 (.tmp 1) rfl (w.heap.size) rfl 25 _ (0, 0) _ gA Try.underlying25 rfl (by kernel_rfl) ?_)
                    | (refine wpList_load_row_g (by rfl) 25 (.tmp 3) rfl (w1.heap.size) rfl 25 _ (0, 0) _ b1' Try.underlying25 rfl (by kernel_rfl) ?_))
                  rw [← hW1]
                  refine (KS.out _ (He.out.trans x1)).mono ?_; rintro e w2 ⟨rfl, x2⟩
                  have x2 := x1.trans x2
                  clear gA b1' b1 hW1 x1
                  obtain ⟨-, c1, -⟩ := HC.out _ x2
                  go_wp2_with fail
                  refine (rin15_v HI.out _).mono ?_; rintro e w3 ⟨rfl, rfl⟩
                  clear c1
                  obtain ⟨c0, c1, c2, c3, c4, c5, c6, c7, c8, c9⟩ := HC.out _ x2
                  rw [HK.out] at c0
                  go_wp2_with fail
                  refine (rin15_v H2.out _).mono ?_; rintro e w4 ⟨rfl, rfl⟩
                  go_wp2_with fail
                  refine (rin15_v H3.out _).mono ?_; rintro e w4 ⟨rfl, rfl⟩
                  go_wp2_with fail
                  refine (rin15_v H4.out _).mono ?_; rintro e w4 ⟨rfl, rfl⟩
                  go_wp2
                  go_ret
                  exact ⟨rfl, He.out.trans x2⟩
                · have hb : ((Q.nr : Int) == Q.ct) = false := by simp [hl]
                  rw [decide_eq_false hl]
                  clear hl
                  go_enter Try.func20, Try.ntmps20
                  go_upto_region 1 with fail
                  rw [← hW0]
                  clear hW0
                  have gA := HX.out W0 (Ext.refl _)
                  go_wp2_with (first
                    | (refine wpList_load_row rfl 25 (.tmp 1) rfl (w.heap.size) rfl 25 _ (0, 0) _ gA Try.underlying25 rfl (by kernel_rfl) ?_))
                  refine (KO.out _).mono ?_; rintro e w1 ⟨rfl, x1⟩
                  obtain ⟨W1, hW1, y1, b1⟩ : ∃ W, W = ((w1.alloc (.cells #[.int .i64 0, .int .i64 0, .int .i64 0, .int .i64 0, .int .i64 0, .int .i64 0, .int .i64 0, .int .i64 0, .slice none 0 0, .slice none 0 0] 25)).setRow w1.heap.size (qstC OV OQ)) ∧ Ext w1 W ∧ W.heap[w1.heap.size]? = some (.cells (qstC OV OQ) 25 (0, 0)) := ⟨_, rfl, asked_row _ _ _ _⟩
                  have x1 := x1.trans y1
                  clear y1 gA
                  have gA := HX.out _ x1
                  have b1' := b1
                  rw [hW1] at gA b1'
                  go_wp2_with (first
                    | (refine wpList_store_row rfl 25 (.tmp 3) (.tmp 8) rfl _ _ rfl rfl 25 _ (heap_new_at _ _ (by first | rfl | simp)) (by kernel_rfl) rfl (by simp [qstC, Value.oneCell']) ?_)
                    | (refine wpList_load_row_g (by rfl) 25 (.tmp 1) rfl (w.heap.size) rfl 25 _ (0, 0) _ gA Try.underlying25 rfl (by kernel_rfl) ?_)
                    | (refine wpList_load_row_g (by rfl) 25 (.tmp 3) rfl (w1.heap.size) rfl 25 _ (0, 0) _ b1' Try.underlying25 rfl (by kernel_rfl) ?_))
                  rw [← hW1]
                  refine (KS.out _ (He.out.trans x1)).mono ?_; rintro e w2 ⟨rfl, x2⟩
                  have x2 := x1.trans x2
                  clear gA b1' b1 hW1 x1
                  obtain ⟨-, c1, -⟩ := HC.out _ x2
                  go_wp2_with fail
                  refine (rin15_v HI.out _).mono ?_; rintro e w3 ⟨rfl, rfl⟩
                  clear c1
                  obtain ⟨c0, c1, c2, c3, c4, c5, c6, c7, c8, c9⟩ := HC.out _ x2
                  rw [HK.out] at c0
                  go_wp2_with fail
                  refine (rin15_v H2.out _).mono ?_; rintro e w4 ⟨rfl, rfl⟩
                  go_wp2_with fail
                  refine (rin15_v H3.out _).mono ?_; rintro e w4 ⟨rfl, rfl⟩
                  go_wp2_with fail
                  refine (rin15_v H4.out _).mono ?_; rintro e w4 ⟨rfl, rfl⟩
                  go_wp2
                  go_ret
                  exact ⟨rfl, He.out.trans x2⟩
theorem rright15_v {V : QstV} {Q : Qst} {B : Bool} (hB : rightQ Q = B) (w : World) (h : QstAt w V Q) (n1 : Q.nb ≤ 1000000) (n2 : Q.nr ≤ 1000000) : Calls Try.prog 20 #[.agg (qstC V Q)] w fun e w' => e = .returned (.bool B) ∧ Ext w w' := hB ▸ rright15_any V Q w h n1 n2
end Go.Proofs.Ytejiafihiielgaa
