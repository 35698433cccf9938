/-
  CONTRACTS: bilgeref15 (layer 15): whether an ask may be.
  CONTRACTS: bilgeref16 (layer 16): Right.
-/
import Derived.Test.YtlafnobjfajamaaGreatPm20
import Derived.Deep.DeepCutAuto
import Derived.Test.YtlafnobjfajamaaGreatPm19
namespace Go.Proofs.YtlafnobjfajamaaGreat
open Go.RowKit
set_option linter.unusedVariables false

theorem asked_row (w : World) (z cs : Array Value) (t : TypeId) : Ext w ((w.alloc (.cells z t)).setRow w.heap.size cs) ∧ ((w.alloc (.cells z t)).setRow w.heap.size cs).heap[w.heap.size]? = some (.cells cs t (0, 0)) :=
  ⟨below_setRow (Ext.alloc w _) (Nat.le_refl _) cs, setRow_heap _ _ _ _ _ _ (heap_alloc_new w _)⟩
theorem own_small {Q : Qst} : (ownQ Q).nb ≤ Q.nb ∧ (ownQ Q).nr ≤ Q.nr := by
  unfold ownQ
  split
  · exact ⟨Nat.zero_le _, Nat.zero_le _⟩
  split
  · exact ⟨Nat.zero_le _, Nat.zero_le _⟩
  split
  · exact ⟨Nat.le_refl _, Nat.zero_le _⟩
  split
  · exact ⟨Nat.zero_le _, Nat.le_refl _⟩
  split
  · exact ⟨Nat.zero_le _, Nat.zero_le _⟩
  split
  · exact ⟨Nat.zero_le _, Nat.le_refl _⟩
  · exact ⟨Nat.zero_le _, Nat.zero_le _⟩
theorem right_parts (Q : Qst) : rightQ Q = (knownB Q.k && sameQ Q (ownQ Q) && inB Q.ad 0 65535 && fitsB Q) := rfl
set_option maxRecDepth 100000 in
set_option maxHeartbeats 8000000 in
theorem rright15_any (V : QstV) (Q : Qst) (w : World) (h : QstAt w V Q) (n1 : Q.nb ≤ 1000000) (n2 : Q.nr ≤ 1000000) : Calls Tryz.prog 16 #[.agg (qstC V Q)] w fun e w' => e = .returned (.bool (rightQ Q)) ∧ Ext w w' := by
  have KO := Lib.hid (fun w' => ronly15_any V Q w')
  have KS := Lib.hid (fun w' (hx : Ext w w') => rsame15_any V Q (ownV V Q) (ownQ Q) w' (h.ext hx) (own_at (h.ext hx)) n1 n2 (Nat.le_trans own_small.1 n1) (Nat.le_trans own_small.2 n2))
  have hnb : (Q.nb : Int) ≤ 1000000 := by omega
  have hnr : (Q.nr : Int) ≤ 1000000 := by omega
  rw [right_parts]
  obtain ⟨OV, hOV⟩ : ∃ O, O = ownV V Q := ⟨_, rfl⟩
  obtain ⟨OQ, hOQ⟩ : ∃ O, O = ownQ Q := ⟨_, rfl⟩
  rw [← hOV, ← hOQ] at KO KS
  rw [← hOQ]
  clear hOV hOQ h n1 n2
  have HFit := Lib.hid (show fitsB Q = _ from rfl)
  generalize sameQ Q OQ = B1 at KS ⊢
  obtain ⟨W0, hW0, HX, He⟩ : ∃ W0, W0 = w.alloc (.cells (qstC V Q) 31) ∧ Hid (∀ W, Ext W0 W → W.heap[w.heap.size]? = some (.cells (qstC V Q) 31 (0, 0))) ∧ Hid (Ext w W0) := ⟨_, rfl, Lib.hid fun W hx => hx.block (heap_alloc_new w _), Lib.hid (Ext.alloc w _)⟩
  have HC := Lib.hid (fun W (hx : Ext W0 W) => (⟨cell_of_heap (HX.out W hx) rfl, cell_of_heap (HX.out W hx) rfl, cell_of_heap (HX.out W hx) rfl, cell_of_heap (HX.out W hx) rfl, cell_of_heap (HX.out W hx) rfl, cell_of_heap (HX.out W hx) rfl, cell_of_heap (HX.out W hx) rfl, cell_of_heap (HX.out W hx) rfl, cell_of_heap (HX.out W hx) rfl, cell_of_heap (HX.out W hx) rfl⟩ :
    W.cell? ⟨w.heap.size, 0, none⟩ = some (.int .i64 Q.k) ∧ W.cell? ⟨w.heap.size, 1, none⟩ = some (.int .i64 Q.ad) ∧ W.cell? ⟨w.heap.size, 2, none⟩ = some (.int .i64 Q.ct) ∧ W.cell? ⟨w.heap.size, 3, none⟩ = some (.int .i64 Q.va) ∧ W.cell? ⟨w.heap.size, 4, none⟩ = some (.int .i64 Q.an) ∧ W.cell? ⟨w.heap.size, 5, none⟩ = some (.int .i64 Q.oo) ∧ W.cell? ⟨w.heap.size, 6, none⟩ = some (.int .i64 Q.fr) ∧ W.cell? ⟨w.heap.size, 7, none⟩ = some (.int .i64 Q.mn) ∧ W.cell? ⟨w.heap.size, 8, none⟩ = some (.slice V.a1 Q.nb V.d1) ∧ W.cell? ⟨w.heap.size, 9, none⟩ = some (.slice V.a2 Q.nr V.d2)))
  cases hk : knownB Q.k with
  | false =>
    rw [hk] at KO
    simp only [Bool.false_and]
    clear HFit HC KS hk
    go_enter Tryz.func16, Tryz.ntmps16
    go_upto_region 1 with fail
    rw [← hW0]
    clear hW0
    have gA := HX.out W0 (Ext.refl _)
    go_wp2_with (first
      | (refine wpList_load_row rfl 31 (.tmp 1) rfl (w.heap.size) rfl 31 _ (0, 0) _ gA Tryz.underlying31 rfl (by kernel_rfl) ?_))
    refine (KO.out _).mono ?_; rintro e w1 ⟨rfl, x1⟩
    obtain ⟨W1, hW1, y1, b1⟩ : ∃ W, W = ((w1.alloc (.cells #[.int .i64 0, .int .i64 0, .int .i64 0, .int .i64 0, .int .i64 0, .int .i64 0, .int .i64 0, .int .i64 0, .slice none 0 0, .slice none 0 0] 31)).setRow w1.heap.size (qstC OV OQ)) ∧ Ext w1 W ∧ W.heap[w1.heap.size]? = some (.cells (qstC OV OQ) 31 (0, 0)) := ⟨_, rfl, asked_row _ _ _ _⟩
    have x1 := x1.trans y1
    clear y1 gA
    go_wp2_with (first
      | (refine wpList_store_row rfl 31 (.tmp 3) (.tmp 8) rfl _ _ rfl rfl 31 _ (heap_new_at _ _ (by first | rfl | simp)) (by kernel_rfl) rfl (by simp [qstC, Value.oneCell']) ?_))
    rw [← hW1]
    go_wp2
    go_ret
    exact ⟨rfl, He.out.trans x1⟩
  | true =>
    rw [hk] at KO
    simp only [Bool.true_and]
    cases B1 with
    | false =>
      simp only [Bool.false_and]
      clear HFit hk
      go_enter Tryz.func16, Tryz.ntmps16
      go_upto_region 1 with fail
      rw [← hW0]
      clear hW0
      have gA := HX.out W0 (Ext.refl _)
      go_wp2_with (first
        | (refine wpList_load_row rfl 31 (.tmp 1) rfl (w.heap.size) rfl 31 _ (0, 0) _ gA Tryz.underlying31 rfl (by kernel_rfl) ?_))
      refine (KO.out _).mono ?_; rintro e w1 ⟨rfl, x1⟩
      obtain ⟨W1, hW1, y1, b1⟩ : ∃ W, W = ((w1.alloc (.cells #[.int .i64 0, .int .i64 0, .int .i64 0, .int .i64 0, .int .i64 0, .int .i64 0, .int .i64 0, .int .i64 0, .slice none 0 0, .slice none 0 0] 31)).setRow w1.heap.size (qstC OV OQ)) ∧ Ext w1 W ∧ W.heap[w1.heap.size]? = some (.cells (qstC OV OQ) 31 (0, 0)) := ⟨_, rfl, asked_row _ _ _ _⟩
      have x1 := x1.trans y1
      clear y1 gA
      have gA := HX.out _ x1
      have b1' := b1
      rw [hW1] at gA b1'
      go_wp2_with (first
        | (refine wpList_store_row rfl 31 (.tmp 3) (.tmp 8) rfl _ _ rfl rfl 31 _ (heap_new_at _ _ (by first | rfl | simp)) (by kernel_rfl) rfl (by simp [qstC, Value.oneCell']) ?_)
        | (refine wpList_load_row_g (by rfl) 31 (.tmp 1) rfl (w.heap.size) rfl 31 _ (0, 0) _ gA Tryz.underlying31 rfl (by kernel_rfl) ?_)
        | (refine wpList_load_row_g (by rfl) 31 (.tmp 3) rfl (w1.heap.size) rfl 31 _ (0, 0) _ b1' Tryz.underlying31 rfl (by kernel_rfl) ?_))
      rw [← hW1]
      refine (KS.out _ (He.out.trans x1)).mono ?_; rintro e w2 ⟨rfl, x2⟩
      have x2 := x1.trans x2
      clear gA b1' b1 hW1 x1
      obtain ⟨-, c1, -⟩ := HC.out _ x2
      clear c1
      go_wp2
      go_ret
      exact ⟨rfl, He.out.trans x2⟩
    | true =>
      simp only [Bool.true_and]
      cases hi : inB Q.ad 0 65535 with
      | false =>
        have HI := Lib.hid hi
        simp only [Bool.false_and]
        clear HFit hk hi
        go_enter Tryz.func16, Tryz.ntmps16
        go_upto_region 1 with fail
        rw [← hW0]
        clear hW0
        have gA := HX.out W0 (Ext.refl _)
        go_wp2_with (first
          | (refine wpList_load_row rfl 31 (.tmp 1) rfl (w.heap.size) rfl 31 _ (0, 0) _ gA Tryz.underlying31 rfl (by kernel_rfl) ?_))
        refine (KO.out _).mono ?_; rintro e w1 ⟨rfl, x1⟩
        obtain ⟨W1, hW1, y1, b1⟩ : ∃ W, W = ((w1.alloc (.cells #[.int .i64 0, .int .i64 0, .int .i64 0, .int .i64 0, .int .i64 0, .int .i64 0, .int .i64 0, .int .i64 0, .slice none 0 0, .slice none 0 0] 31)).setRow w1.heap.size (qstC OV OQ)) ∧ Ext w1 W ∧ W.heap[w1.heap.size]? = some (.cells (qstC OV OQ) 31 (0, 0)) := ⟨_, rfl, asked_row _ _ _ _⟩
        have x1 := x1.trans y1
        clear y1 gA
        have gA := HX.out _ x1
        have b1' := b1
        rw [hW1] at gA b1'
        go_wp2_with (first
          | (refine wpList_store_row rfl 31 (.tmp 3) (.tmp 8) rfl _ _ rfl rfl 31 _ (heap_new_at _ _ (by first | rfl | simp)) (by kernel_rfl) rfl (by simp [qstC, Value.oneCell']) ?_)
          | (refine wpList_load_row_g (by rfl) 31 (.tmp 1) rfl (w.heap.size) rfl 31 _ (0, 0) _ gA Tryz.underlying31 rfl (by kernel_rfl) ?_)
          | (refine wpList_load_row_g (by rfl) 31 (.tmp 3) rfl (w1.heap.size) rfl 31 _ (0, 0) _ b1' Tryz.underlying31 rfl (by kernel_rfl) ?_))
        rw [← hW1]
        refine (KS.out _ (He.out.trans x1)).mono ?_; rintro e w2 ⟨rfl, x2⟩
        have x2 := x1.trans x2
        clear gA b1' b1 hW1 x1
        obtain ⟨-, c1, -⟩ := HC.out _ x2
        go_wp2_with fail
        refine (rin15_v HI.out _).mono ?_; rintro e w3 ⟨rfl, rfl⟩
        clear c1
        go_wp2
        go_ret
        exact ⟨rfl, He.out.trans x2⟩
      | true =>
        have HI := Lib.hid hi
        simp only [Bool.true_and]
        have hkk := (known_iff Q.k).1 hk
        clear HFit hk hi
        unfold fitsB
        rcases hkk with hk1 | hk2 | hk3 | hk4 | hk5 | hk6 | hk15 | hk16 | hk22 | hk23
        · have HK := Lib.hid hk1
          rw [hk1]

          simp (config := { decide := true }) only [if_true, if_false]
          obtain ⟨B2, h2⟩ : ∃ B, inB Q.ct 1 2000 = B := ⟨_, rfl⟩
          rw [h2]
          have H2 := Lib.hid h2
          clear h2
          clear hk1
          go_enter Tryz.func16, Tryz.ntmps16
          go_upto_region 1 with fail
          rw [← hW0]
          clear hW0
          have gA := HX.out W0 (Ext.refl _)
          go_wp2_with (first
            | (refine wpList_load_row rfl 31 (.tmp 1) rfl (w.heap.size) rfl 31 _ (0, 0) _ gA Tryz.underlying31 rfl (by kernel_rfl) ?_))
          refine (KO.out _).mono ?_; rintro e w1 ⟨rfl, x1⟩
          obtain ⟨W1, hW1, y1, b1⟩ : ∃ W, W = ((w1.alloc (.cells #[.int .i64 0, .int .i64 0, .int .i64 0, .int .i64 0, .int .i64 0, .int .i64 0, .int .i64 0, .int .i64 0, .slice none 0 0, .slice none 0 0] 31)).setRow w1.heap.size (qstC OV OQ)) ∧ Ext w1 W ∧ W.heap[w1.heap.size]? = some (.cells (qstC OV OQ) 31 (0, 0)) := ⟨_, rfl, asked_row _ _ _ _⟩
          have x1 := x1.trans y1
          clear y1 gA
          have gA := HX.out _ x1
          have b1' := b1
          rw [hW1] at gA b1'
          go_wp2_with (first
            | (refine wpList_store_row rfl 31 (.tmp 3) (.tmp 8) rfl _ _ rfl rfl 31 _ (heap_new_at _ _ (by first | rfl | simp)) (by kernel_rfl) rfl (by simp [qstC, Value.oneCell']) ?_)
            | (refine wpList_load_row_g (by rfl) 31 (.tmp 1) rfl (w.heap.size) rfl 31 _ (0, 0) _ gA Tryz.underlying31 rfl (by kernel_rfl) ?_)
            | (refine wpList_load_row_g (by rfl) 31 (.tmp 3) rfl (w1.heap.size) rfl 31 _ (0, 0) _ b1' Tryz.underlying31 rfl (by kernel_rfl) ?_))
          rw [← hW1]
          refine (KS.out _ (He.out.trans x1)).mono ?_; rintro e w2 ⟨rfl, x2⟩
          have x2 := x1.trans x2
          clear gA b1' b1 hW1 x1
          obtain ⟨-, c1, -⟩ := HC.out _ x2
          go_wp2_with fail
          refine (rin15_v HI.out _).mono ?_; rintro e w3 ⟨rfl, rfl⟩
          clear c1
          obtain ⟨c0, c1, c2, c3, c4, c5, c6, c7, c8, c9⟩ := HC.out _ x2
          rw [HK.out] at c0
          go_wp2_with fail
          refine (rin15_v H2.out _).mono ?_; rintro e w4 ⟨rfl, rfl⟩
          go_wp2
          go_ret
          exact ⟨rfl, He.out.trans x2⟩
        · have HK := Lib.hid hk2
          rw [hk2]

          simp (config := { decide := true }) only [if_true, if_false]
          obtain ⟨B2, h2⟩ : ∃ B, inB Q.ct 1 2000 = B := ⟨_, rfl⟩
          rw [h2]
          have H2 := Lib.hid h2
          clear h2
          clear hk2
          go_enter Tryz.func16, Tryz.ntmps16
          go_upto_region 1 with fail
          rw [← hW0]
          clear hW0
          have gA := HX.out W0 (Ext.refl _)
          go_wp2_with (first
            | (refine wpList_load_row rfl 31 (.tmp 1) rfl (w.heap.size) rfl 31 _ (0, 0) _ gA Tryz.underlying31 rfl (by kernel_rfl) ?_))
          refine (KO.out _).mono ?_; rintro e w1 ⟨rfl, x1⟩
          obtain ⟨W1, hW1, y1, b1⟩ : ∃ W, W = ((w1.alloc (.cells #[.int .i64 0, .int .i64 0, .int .i64 0, .int .i64 0, .int .i64 0, .int .i64 0, .int .i64 0, .int .i64 0, .slice none 0 0, .slice none 0 0] 31)).setRow w1.heap.size (qstC OV OQ)) ∧ Ext w1 W ∧ W.heap[w1.heap.size]? = some (.cells (qstC OV OQ) 31 (0, 0)) := ⟨_, rfl, asked_row _ _ _ _⟩
          have x1 := x1.trans y1
          clear y1 gA
          have gA := HX.out _ x1
          have b1' := b1
          rw [hW1] at gA b1'
          go_wp2_with (first
            | (refine wpList_store_row rfl 31 (.tmp 3) (.tmp 8) rfl _ _ rfl rfl 31 _ (heap_new_at _ _ (by first | rfl | simp)) (by kernel_rfl) rfl (by simp [qstC, Value.oneCell']) ?_)
            | (refine wpList_load_row_g (by rfl) 31 (.tmp 1) rfl (w.heap.size) rfl 31 _ (0, 0) _ gA Tryz.underlying31 rfl (by kernel_rfl) ?_)
            | (refine wpList_load_row_g (by rfl) 31 (.tmp 3) rfl (w1.heap.size) rfl 31 _ (0, 0) _ b1' Tryz.underlying31 rfl (by kernel_rfl) ?_))
          rw [← hW1]
          refine (KS.out _ (He.out.trans x1)).mono ?_; rintro e w2 ⟨rfl, x2⟩
          have x2 := x1.trans x2
          clear gA b1' b1 hW1 x1
          obtain ⟨-, c1, -⟩ := HC.out _ x2
          go_wp2_with fail
          refine (rin15_v HI.out _).mono ?_; rintro e w3 ⟨rfl, rfl⟩
          clear c1
          obtain ⟨c0, c1, c2, c3, c4, c5, c6, c7, c8, c9⟩ := HC.out _ x2
          rw [HK.out] at c0
          go_wp2_with fail
          refine (rin15_v H2.out _).mono ?_; rintro e w4 ⟨rfl, rfl⟩
          go_wp2
          go_ret
          exact ⟨rfl, He.out.trans x2⟩
        · have HK := Lib.hid hk3
          rw [hk3]

          simp (config := { decide := true }) only [if_true, if_false]
          obtain ⟨B2, h2⟩ : ∃ B, inB Q.ct 1 125 = B := ⟨_, rfl⟩
          rw [h2]
          have H2 := Lib.hid h2
          clear h2
          clear hk3
          go_enter Tryz.func16, Tryz.ntmps16
          go_upto_region 1 with fail
          rw [← hW0]
          clear hW0
          have gA := HX.out W0 (Ext.refl _)
          go_wp2_with (first
            | (refine wpList_load_row rfl 31 (.tmp 1) rfl (w.heap.size) rfl 31 _ (0, 0) _ gA Tryz.underlying31 rfl (by kernel_rfl) ?_))
          refine (KO.out _).mono ?_; rintro e w1 ⟨rfl, x1⟩
          obtain ⟨W1, hW1, y1, b1⟩ : ∃ W, W = ((w1.alloc (.cells #[.int .i64 0, .int .i64 0, .int .i64 0, .int .i64 0, .int .i64 0, .int .i64 0, .int .i64 0, .int .i64 0, .slice none 0 0, .slice none 0 0] 31)).setRow w1.heap.size (qstC OV OQ)) ∧ Ext w1 W ∧ W.heap[w1.heap.size]? = some (.cells (qstC OV OQ) 31 (0, 0)) := ⟨_, rfl, asked_row _ _ _ _⟩
          have x1 := x1.trans y1
          clear y1 gA
          have gA := HX.out _ x1
          have b1' := b1
          rw [hW1] at gA b1'
          go_wp2_with (first
            | (refine wpList_store_row rfl 31 (.tmp 3) (.tmp 8) rfl _ _ rfl rfl 31 _ (heap_new_at _ _ (by first | rfl | simp)) (by kernel_rfl) rfl (by simp [qstC, Value.oneCell']) ?_)
            | (refine wpList_load_row_g (by rfl) 31 (.tmp 1) rfl (w.heap.size) rfl 31 _ (0, 0) _ gA Tryz.underlying31 rfl (by kernel_rfl) ?_)
            | (refine wpList_load_row_g (by rfl) 31 (.tmp 3) rfl (w1.heap.size) rfl 31 _ (0, 0) _ b1' Tryz.underlying31 rfl (by kernel_rfl) ?_))
          rw [← hW1]
          refine (KS.out _ (He.out.trans x1)).mono ?_; rintro e w2 ⟨rfl, x2⟩
          have x2 := x1.trans x2
          clear gA b1' b1 hW1 x1
          obtain ⟨-, c1, -⟩ := HC.out _ x2
          go_wp2_with fail
          refine (rin15_v HI.out _).mono ?_; rintro e w3 ⟨rfl, rfl⟩
          clear c1
          obtain ⟨c0, c1, c2, c3, c4, c5, c6, c7, c8, c9⟩ := HC.out _ x2
          rw [HK.out] at c0
          go_wp2_with fail
          refine (rin15_v H2.out _).mono ?_; rintro e w4 ⟨rfl, rfl⟩
          go_wp2
          go_ret
          exact ⟨rfl, He.out.trans x2⟩
        · have HK := Lib.hid hk4
          rw [hk4]

          simp (config := { decide := true }) only [if_true, if_false]
          obtain ⟨B2, h2⟩ : ∃ B, inB Q.ct 1 125 = B := ⟨_, rfl⟩
          rw [h2]
          have H2 := Lib.hid h2
          clear h2
          clear hk4
          go_enter Tryz.func16, Tryz.ntmps16
          go_upto_region 1 with fail
          rw [← hW0]
          clear hW0
          have gA := HX.out W0 (Ext.refl _)
          go_wp2_with (first
            | (refine wpList_load_row rfl 31 (.tmp 1) rfl (w.heap.size) rfl 31 _ (0, 0) _ gA Tryz.underlying31 rfl (by kernel_rfl) ?_))
          refine (KO.out _).mono ?_; rintro e w1 ⟨rfl, x1⟩
          obtain ⟨W1, hW1, y1, b1⟩ : ∃ W, W = ((w1.alloc (.cells #[.int .i64 0, .int .i64 0, .int .i64 0, .int .i64 0, .int .i64 0, .int .i64 0, .int .i64 0, .int .i64 0, .slice none 0 0, .slice none 0 0] 31)).setRow w1.heap.size (qstC OV OQ)) ∧ Ext w1 W ∧ W.heap[w1.heap.size]? = some (.cells (qstC OV OQ) 31 (0, 0)) := ⟨_, rfl, asked_row _ _ _ _⟩
          have x1 := x1.trans y1
          clear y1 gA
          have gA := HX.out _ x1
          have b1' := b1
          rw [hW1] at gA b1'
          go_wp2_with (first
            | (refine wpList_store_row rfl 31 (.tmp 3) (.tmp 8) rfl _ _ rfl rfl 31 _ (heap_new_at _ _ (by first | rfl | simp)) (by kernel_rfl) rfl (by simp [qstC, Value.oneCell']) ?_)
            | (refine wpList_load_row_g (by rfl) 31 (.tmp 1) rfl (w.heap.size) rfl 31 _ (0, 0) _ gA Tryz.underlying31 rfl (by kernel_rfl) ?_)
            | (refine wpList_load_row_g (by rfl) 31 (.tmp 3) rfl (w1.heap.size) rfl 31 _ (0, 0) _ b1' Tryz.underlying31 rfl (by kernel_rfl) ?_))
          rw [← hW1]
          refine (KS.out _ (He.out.trans x1)).mono ?_; rintro e w2 ⟨rfl, x2⟩
          have x2 := x1.trans x2
          clear gA b1' b1 hW1 x1
          obtain ⟨-, c1, -⟩ := HC.out _ x2
          go_wp2_with fail
          refine (rin15_v HI.out _).mono ?_; rintro e w3 ⟨rfl, rfl⟩
          clear c1
          obtain ⟨c0, c1, c2, c3, c4, c5, c6, c7, c8, c9⟩ := HC.out _ x2
          rw [HK.out] at c0
          go_wp2_with fail
          refine (rin15_v H2.out _).mono ?_; rintro e w4 ⟨rfl, rfl⟩
          go_wp2
          go_ret
          exact ⟨rfl, He.out.trans x2⟩
        · have HK := Lib.hid hk5
          rw [hk5]

          simp (config := { decide := true }) only [if_true, if_false]
          clear hk5
          by_cases hv0 : Q.va = 0
          · have hb : (Q.va == 0) = true := by simp [hv0]
            rw [decide_eq_true (Or.inl hv0)]
            clear hv0
            go_enter Tryz.func16, Tryz.ntmps16
            go_upto_region 1 with fail
            rw [← hW0]
            clear hW0
            have gA := HX.out W0 (Ext.refl _)
            go_wp2_with (first
              | (refine wpList_load_row rfl 31 (.tmp 1) rfl (w.heap.size) rfl 31 _ (0, 0) _ gA Tryz.underlying31 rfl (by kernel_rfl) ?_))
            refine (KO.out _).mono ?_; rintro e w1 ⟨rfl, x1⟩
            obtain ⟨W1, hW1, y1, b1⟩ : ∃ W, W = ((w1.alloc (.cells #[.int .i64 0, .int .i64 0, .int .i64 0, .int .i64 0, .int .i64 0, .int .i64 0, .int .i64 0, .int .i64 0, .slice none 0 0, .slice none 0 0] 31)).setRow w1.heap.size (qstC OV OQ)) ∧ Ext w1 W ∧ W.heap[w1.heap.size]? = some (.cells (qstC OV OQ) 31 (0, 0)) := ⟨_, rfl, asked_row _ _ _ _⟩
            have x1 := x1.trans y1
            clear y1 gA
            have gA := HX.out _ x1
            have b1' := b1
            rw [hW1] at gA b1'
            go_wp2_with (first
              | (refine wpList_store_row rfl 31 (.tmp 3) (.tmp 8) rfl _ _ rfl rfl 31 _ (heap_new_at _ _ (by first | rfl | simp)) (by kernel_rfl) rfl (by simp [qstC, Value.oneCell']) ?_)
              | (refine wpList_load_row_g (by rfl) 31 (.tmp 1) rfl (w.heap.size) rfl 31 _ (0, 0) _ gA Tryz.underlying31 rfl (by kernel_rfl) ?_)
              | (refine wpList_load_row_g (by rfl) 31 (.tmp 3) rfl (w1.heap.size) rfl 31 _ (0, 0) _ b1' Tryz.underlying31 rfl (by kernel_rfl) ?_))
            rw [← hW1]
            refine (KS.out _ (He.out.trans x1)).mono ?_; rintro e w2 ⟨rfl, x2⟩
            have x2 := x1.trans x2
            clear gA b1' b1 hW1 x1
            obtain ⟨-, c1, -⟩ := HC.out _ x2
            go_wp2_with fail
            refine (rin15_v HI.out _).mono ?_; rintro e w3 ⟨rfl, rfl⟩
            clear c1
            obtain ⟨c0, c1, c2, c3, c4, c5, c6, c7, c8, c9⟩ := HC.out _ x2
            rw [HK.out] at c0
            go_wp2
            go_ret
            exact ⟨rfl, He.out.trans x2⟩
          · have hb : (Q.va == 0) = false := by simp [hv0]
            by_cases hv1 : Q.va = 65280
            · have hb1 : (Q.va == 65280) = true := by simp [hv1]
              rw [decide_eq_true (Or.inr hv1)]
              clear hv0 hv1
              go_enter Tryz.func16, Tryz.ntmps16
              go_upto_region 1 with fail
              rw [← hW0]
              clear hW0
              have gA := HX.out W0 (Ext.refl _)
              go_wp2_with (first
                | (refine wpList_load_row rfl 31 (.tmp 1) rfl (w.heap.size) rfl 31 _ (0, 0) _ gA Tryz.underlying31 rfl (by kernel_rfl) ?_))
              refine (KO.out _).mono ?_; rintro e w1 ⟨rfl, x1⟩
              obtain ⟨W1, hW1, y1, b1⟩ : ∃ W, W = ((w1.alloc (.cells #[.int .i64 0, .int .i64 0, .int .i64 0, .int .i64 0, .int .i64 0, .int .i64 0, .int .i64 0, .int .i64 0, .slice none 0 0, .slice none 0 0] 31)).setRow w1.heap.size (qstC OV OQ)) ∧ Ext w1 W ∧ W.heap[w1.heap.size]? = some (.cells (qstC OV OQ) 31 (0, 0)) := ⟨_, rfl, asked_row _ _ _ _⟩
              have x1 := x1.trans y1
              clear y1 gA
              have gA := HX.out _ x1
              have b1' := b1
              rw [hW1] at gA b1'
              go_wp2_with (first
                | (refine wpList_store_row rfl 31 (.tmp 3) (.tmp 8) rfl _ _ rfl rfl 31 _ (heap_new_at _ _ (by first | rfl | simp)) (by kernel_rfl) rfl (by simp [qstC, Value.oneCell']) ?_)
                | (refine wpList_load_row_g (by rfl) 31 (.tmp 1) rfl (w.heap.size) rfl 31 _ (0, 0) _ gA Tryz.underlying31 rfl (by kernel_rfl) ?_)
                | (refine wpList_load_row_g (by rfl) 31 (.tmp 3) rfl (w1.heap.size) rfl 31 _ (0, 0) _ b1' Tryz.underlying31 rfl (by kernel_rfl) ?_))
              rw [← hW1]
              refine (KS.out _ (He.out.trans x1)).mono ?_; rintro e w2 ⟨rfl, x2⟩
              have x2 := x1.trans x2
              clear gA b1' b1 hW1 x1
              obtain ⟨-, c1, -⟩ := HC.out _ x2
              go_wp2_with fail
              refine (rin15_v HI.out _).mono ?_; rintro e w3 ⟨rfl, rfl⟩
              clear c1
              obtain ⟨c0, c1, c2, c3, c4, c5, c6, c7, c8, c9⟩ := HC.out _ x2
              rw [HK.out] at c0
              go_wp2
              go_ret
              exact ⟨rfl, He.out.trans x2⟩
            · have hb1 : (Q.va == 65280) = false := by simp [hv1]
              rw [decide_eq_false (by omega)]
              clear hv0 hv1
              go_enter Tryz.func16, Tryz.ntmps16
              go_upto_region 1 with fail
              rw [← hW0]
              clear hW0
              have gA := HX.out W0 (Ext.refl _)
              go_wp2_with (first
                | (refine wpList_load_row rfl 31 (.tmp 1) rfl (w.heap.size) rfl 31 _ (0, 0) _ gA Tryz.underlying31 rfl (by kernel_rfl) ?_))
              refine (KO.out _).mono ?_; rintro e w1 ⟨rfl, x1⟩
              obtain ⟨W1, hW1, y1, b1⟩ : ∃ W, W = ((w1.alloc (.cells #[.int .i64 0, .int .i64 0, .int .i64 0, .int .i64 0, .int .i64 0, .int .i64 0, .int .i64 0, .int .i64 0, .slice none 0 0, .slice none 0 0] 31)).setRow w1.heap.size (qstC OV OQ)) ∧ Ext w1 W ∧ W.heap[w1.heap.size]? = some (.cells (qstC OV OQ) 31 (0, 0)) := ⟨_, rfl, asked_row _ _ _ _⟩
              have x1 := x1.trans y1
              clear y1 gA
              have gA := HX.out _ x1
              have b1' := b1
              rw [hW1] at gA b1'
              go_wp2_with (first
                | (refine wpList_store_row rfl 31 (.tmp 3) (.tmp 8) rfl _ _ rfl rfl 31 _ (heap_new_at _ _ (by first | rfl | simp)) (by kernel_rfl) rfl (by simp [qstC, Value.oneCell']) ?_)
                | (refine wpList_load_row_g (by rfl) 31 (.tmp 1) rfl (w.heap.size) rfl 31 _ (0, 0) _ gA Tryz.underlying31 rfl (by kernel_rfl) ?_)
                | (refine wpList_load_row_g (by rfl) 31 (.tmp 3) rfl (w1.heap.size) rfl 31 _ (0, 0) _ b1' Tryz.underlying31 rfl (by kernel_rfl) ?_))
              rw [← hW1]
              refine (KS.out _ (He.out.trans x1)).mono ?_; rintro e w2 ⟨rfl, x2⟩
              have x2 := x1.trans x2
              clear gA b1' b1 hW1 x1
              obtain ⟨-, c1, -⟩ := HC.out _ x2
              go_wp2_with fail
              refine (rin15_v HI.out _).mono ?_; rintro e w3 ⟨rfl, rfl⟩
              clear c1
              obtain ⟨c0, c1, c2, c3, c4, c5, c6, c7, c8, c9⟩ := HC.out _ x2
              rw [HK.out] at c0
              go_wp2
              go_ret
              exact ⟨rfl, He.out.trans x2⟩
        · have HK := Lib.hid hk6
          rw [hk6]

          simp (config := { decide := true }) only [if_true, if_false]
          obtain ⟨B2, h2⟩ : ∃ B, inB Q.va 0 65535 = B := ⟨_, rfl⟩
          rw [h2]
          have H2 := Lib.hid h2
          clear h2
          clear hk6
          go_enter Tryz.func16, Tryz.ntmps16
          go_upto_region 1 with fail
          rw [← hW0]
          clear hW0
          have gA := HX.out W0 (Ext.refl _)
          go_wp2_with (first
            | (refine wpList_load_row rfl 31 (.tmp 1) rfl (w.heap.size) rfl 31 _ (0, 0) _ gA Tryz.underlying31 rfl (by kernel_rfl) ?_))
          refine (KO.out _).mono ?_; rintro e w1 ⟨rfl, x1⟩
          obtain ⟨W1, hW1, y1, b1⟩ : ∃ W, W = ((w1.alloc (.cells #[.int .i64 0, .int .i64 0, .int .i64 0, .int .i64 0, .int .i64 0, .int .i64 0, .int .i64 0, .int .i64 0, .slice none 0 0, .slice none 0 0] 31)).setRow w1.heap.size (qstC OV OQ)) ∧ Ext w1 W ∧ W.heap[w1.heap.size]? = some (.cells (qstC OV OQ) 31 (0, 0)) := ⟨_, rfl, asked_row _ _ _ _⟩
          have x1 := x1.trans y1
          clear y1 gA
          have gA := HX.out _ x1
          have b1' := b1
          rw [hW1] at gA b1'
          go_wp2_with (first
            | (refine wpList_store_row rfl 31 (.tmp 3) (.tmp 8) rfl _ _ rfl rfl 31 _ (heap_new_at _ _ (by first | rfl | simp)) (by kernel_rfl) rfl (by simp [qstC, Value.oneCell']) ?_)
            | (refine wpList_load_row_g (by rfl) 31 (.tmp 1) rfl (w.heap.size) rfl 31 _ (0, 0) _ gA Tryz.underlying31 rfl (by kernel_rfl) ?_)
            | (refine wpList_load_row_g (by rfl) 31 (.tmp 3) rfl (w1.heap.size) rfl 31 _ (0, 0) _ b1' Tryz.underlying31 rfl (by kernel_rfl) ?_))
          rw [← hW1]
          refine (KS.out _ (He.out.trans x1)).mono ?_; rintro e w2 ⟨rfl, x2⟩
          have x2 := x1.trans x2
          clear gA b1' b1 hW1 x1
          obtain ⟨-, c1, -⟩ := HC.out _ x2
          go_wp2_with fail
          refine (rin15_v HI.out _).mono ?_; rintro e w3 ⟨rfl, rfl⟩
          clear c1
          obtain ⟨c0, c1, c2, c3, c4, c5, c6, c7, c8, c9⟩ := HC.out _ x2
          rw [HK.out] at c0
          go_wp2_with fail
          refine (rin15_v H2.out _).mono ?_; rintro e w4 ⟨rfl, rfl⟩
          go_wp2
          go_ret
          exact ⟨rfl, He.out.trans x2⟩
        · have HK := Lib.hid hk15
          rw [hk15]

          simp (config := { decide := true }) only [if_true, if_false]
          clear hk15
          cases h2 : inB Q.ct 1 1968 with
          | false =>
            have H2 := Lib.hid h2
            rw [Bool.false_and]
            clear h2
            go_enter Tryz.func16, Tryz.ntmps16
            go_upto_region 1 with fail
            rw [← hW0]
            clear hW0
            have gA := HX.out W0 (Ext.refl _)
            go_wp2_with (first
              | (refine wpList_load_row rfl 31 (.tmp 1) rfl (w.heap.size) rfl 31 _ (0, 0) _ gA Tryz.underlying31 rfl (by kernel_rfl) ?_))
            refine (KO.out _).mono ?_; rintro e w1 ⟨rfl, x1⟩
            obtain ⟨W1, hW1, y1, b1⟩ : ∃ W, W = ((w1.alloc (.cells #[.int .i64 0, .int .i64 0, .int .i64 0, .int .i64 0, .int .i64 0, .int .i64 0, .int .i64 0, .int .i64 0, .slice none 0 0, .slice none 0 0] 31)).setRow w1.heap.size (qstC OV OQ)) ∧ Ext w1 W ∧ W.heap[w1.heap.size]? = some (.cells (qstC OV OQ) 31 (0, 0)) := ⟨_, rfl, asked_row _ _ _ _⟩
            have x1 := x1.trans y1
            clear y1 gA
            have gA := HX.out _ x1
            have b1' := b1
            rw [hW1] at gA b1'
            go_wp2_with (first
              | (refine wpList_store_row rfl 31 (.tmp 3) (.tmp 8) rfl _ _ rfl rfl 31 _ (heap_new_at _ _ (by first | rfl | simp)) (by kernel_rfl) rfl (by simp [qstC, Value.oneCell']) ?_)
              | (refine wpList_load_row_g (by rfl) 31 (.tmp 1) rfl (w.heap.size) rfl 31 _ (0, 0) _ gA Tryz.underlying31 rfl (by kernel_rfl) ?_)
              | (refine wpList_load_row_g (by rfl) 31 (.tmp 3) rfl (w1.heap.size) rfl 31 _ (0, 0) _ b1' Tryz.underlying31 rfl (by kernel_rfl) ?_))
            rw [← hW1]
            refine (KS.out _ (He.out.trans x1)).mono ?_; rintro e w2 ⟨rfl, x2⟩
            have x2 := x1.trans x2
            clear gA b1' b1 hW1 x1
            obtain ⟨-, c1, -⟩ := HC.out _ x2
            go_wp2_with fail
            refine (rin15_v HI.out _).mono ?_; rintro e w3 ⟨rfl, rfl⟩
            clear c1
            obtain ⟨c0, c1, c2, c3, c4, c5, c6, c7, c8, c9⟩ := HC.out _ x2
            rw [HK.out] at c0
            go_wp2_with fail
            refine (rin15_v H2.out _).mono ?_; rintro e w4 ⟨rfl, rfl⟩
            go_wp2
            go_ret
            exact ⟨rfl, He.out.trans x2⟩
          | true =>
            have H2 := Lib.hid h2
            rw [Bool.true_and]
            clear h2
            by_cases hl : (Q.nb : Int) = Q.ct
            · have hb : ((Q.nb : Int) == Q.ct) = true := by simp [hl]
              rw [decide_eq_true hl]
              clear hl
              go_enter Tryz.func16, Tryz.ntmps16
              go_upto_region 1 with fail
              rw [← hW0]
              clear hW0
              have gA := HX.out W0 (Ext.refl _)
              go_wp2_with (first
                | (refine wpList_load_row rfl 31 (.tmp 1) rfl (w.heap.size) rfl 31 _ (0, 0) _ gA Tryz.underlying31 rfl (by kernel_rfl) ?_))
              refine (KO.out _).mono ?_; rintro e w1 ⟨rfl, x1⟩
              obtain ⟨W1, hW1, y1, b1⟩ : ∃ W, W = ((w1.alloc (.cells #[.int .i64 0, .int .i64 0, .int .i64 0, .int .i64 0, .int .i64 0, .int .i64 0, .int .i64 0, .int .i64 0, .slice none 0 0, .slice none 0 0] 31)).setRow w1.heap.size (qstC OV OQ)) ∧ Ext w1 W ∧ W.heap[w1.heap.size]? = some (.cells (qstC OV OQ) 31 (0, 0)) := ⟨_, rfl, asked_row _ _ _ _⟩
              have x1 := x1.trans y1
              clear y1 gA
              have gA := HX.out _ x1
              have b1' := b1
              rw [hW1] at gA b1'
              go_wp2_with (first
                | (refine wpList_store_row rfl 31 (.tmp 3) (.tmp 8) rfl _ _ rfl rfl 31 _ (heap_new_at _ _ (by first | rfl | simp)) (by kernel_rfl) rfl (by simp [qstC, Value.oneCell']) ?_)
                | (refine wpList_load_row_g (by rfl) 31 (.tmp 1) rfl (w.heap.size) rfl 31 _ (0, 0) _ gA Tryz.underlying31 rfl (by kernel_rfl) ?_)
                | (refine wpList_load_row_g (by rfl) 31 (.tmp 3) rfl (w1.heap.size) rfl 31 _ (0, 0) _ b1' Tryz.underlying31 rfl (by kernel_rfl) ?_))
              rw [← hW1]
              refine (KS.out _ (He.out.trans x1)).mono ?_; rintro e w2 ⟨rfl, x2⟩
              have x2 := x1.trans x2
              clear gA b1' b1 hW1 x1
              obtain ⟨-, c1, -⟩ := HC.out _ x2
              go_wp2_with fail
              refine (rin15_v HI.out _).mono ?_; rintro e w3 ⟨rfl, rfl⟩
              clear c1
              obtain ⟨c0, c1, c2, c3, c4, c5, c6, c7, c8, c9⟩ := HC.out _ x2
              rw [HK.out] at c0
              go_wp2_with fail
              refine (rin15_v H2.out _).mono ?_; rintro e w4 ⟨rfl, rfl⟩
              go_wp2
              go_ret
              exact ⟨rfl, He.out.trans x2⟩
            · have hb : ((Q.nb : Int) == Q.ct) = false := by simp [hl]
              rw [decide_eq_false hl]
              clear hl
              go_enter Tryz.func16, Tryz.ntmps16
              go_upto_region 1 with fail
              rw [← hW0]
              clear hW0
              have gA := HX.out W0 (Ext.refl _)
              go_wp2_with (first
                | (refine wpList_load_row rfl 31 (.tmp 1) rfl (w.heap.size) rfl 31 _ (0, 0) _ gA Tryz.underlying31 rfl (by kernel_rfl) ?_))
              refine (KO.out _).mono ?_; rintro e w1 ⟨rfl, x1⟩
              obtain ⟨W1, hW1, y1, b1⟩ : ∃ W, W = ((w1.alloc (.cells #[.int .i64 0, .int .i64 0, .int .i64 0, .int .i64 0, .int .i64 0, .int .i64 0, .int .i64 0, .int .i64 0, .slice none 0 0, .slice none 0 0] 31)).setRow w1.heap.size (qstC OV OQ)) ∧ Ext w1 W ∧ W.heap[w1.heap.size]? = some (.cells (qstC OV OQ) 31 (0, 0)) := ⟨_, rfl, asked_row _ _ _ _⟩
              have x1 := x1.trans y1
              clear y1 gA
              have gA := HX.out _ x1
              have b1' := b1
              rw [hW1] at gA b1'
              go_wp2_with (first
                | (refine wpList_store_row rfl 31 (.tmp 3) (.tmp 8) rfl _ _ rfl rfl 31 _ (heap_new_at _ _ (by first | rfl | simp)) (by kernel_rfl) rfl (by simp [qstC, Value.oneCell']) ?_)
                | (refine wpList_load_row_g (by rfl) 31 (.tmp 1) rfl (w.heap.size) rfl 31 _ (0, 0) _ gA Tryz.underlying31 rfl (by kernel_rfl) ?_)
                | (refine wpList_load_row_g (by rfl) 31 (.tmp 3) rfl (w1.heap.size) rfl 31 _ (0, 0) _ b1' Tryz.underlying31 rfl (by kernel_rfl) ?_))
              rw [← hW1]
              refine (KS.out _ (He.out.trans x1)).mono ?_; rintro e w2 ⟨rfl, x2⟩
              have x2 := x1.trans x2
              clear gA b1' b1 hW1 x1
              obtain ⟨-, c1, -⟩ := HC.out _ x2
              go_wp2_with fail
              refine (rin15_v HI.out _).mono ?_; rintro e w3 ⟨rfl, rfl⟩
              clear c1
              obtain ⟨c0, c1, c2, c3, c4, c5, c6, c7, c8, c9⟩ := HC.out _ x2
              rw [HK.out] at c0
              go_wp2_with fail
              refine (rin15_v H2.out _).mono ?_; rintro e w4 ⟨rfl, rfl⟩
              go_wp2
              go_ret
              exact ⟨rfl, He.out.trans x2⟩
        · have HK := Lib.hid hk16
          rw [hk16]

          simp (config := { decide := true }) only [if_true, if_false]
          clear hk16
          cases h2 : inB Q.ct 1 123 with
          | false =>
            have H2 := Lib.hid h2
            rw [Bool.false_and]
            clear h2
            go_enter Tryz.func16, Tryz.ntmps16
            go_upto_region 1 with fail
            rw [← hW0]
            clear hW0
            have gA := HX.out W0 (Ext.refl _)
            go_wp2_with (first
              | (refine wpList_load_row rfl 31 (.tmp 1) rfl (w.heap.size) rfl 31 _ (0, 0) _ gA Tryz.underlying31 rfl (by kernel_rfl) ?_))
            refine (KO.out _).mono ?_; rintro e w1 ⟨rfl, x1⟩
            obtain ⟨W1, hW1, y1, b1⟩ : ∃ W, W = ((w1.alloc (.cells #[.int .i64 0, .int .i64 0, .int .i64 0, .int .i64 0, .int .i64 0, .int .i64 0, .int .i64 0, .int .i64 0, .slice none 0 0, .slice none 0 0] 31)).setRow w1.heap.size (qstC OV OQ)) ∧ Ext w1 W ∧ W.heap[w1.heap.size]? = some (.cells (qstC OV OQ) 31 (0, 0)) := ⟨_, rfl, asked_row _ _ _ _⟩
            have x1 := x1.trans y1
            clear y1 gA
            have gA := HX.out _ x1
            have b1' := b1
            rw [hW1] at gA b1'
            go_wp2_with (first
              | (refine wpList_store_row rfl 31 (.tmp 3) (.tmp 8) rfl _ _ rfl rfl 31 _ (heap_new_at _ _ (by first | rfl | simp)) (by kernel_rfl) rfl (by simp [qstC, Value.oneCell']) ?_)
              | (refine wpList_load_row_g (by rfl) 31 (.tmp 1) rfl (w.heap.size) rfl 31 _ (0, 0) _ gA Tryz.underlying31 rfl (by kernel_rfl) ?_)
              | (refine wpList_load_row_g (by rfl) 31 (.tmp 3) rfl (w1.heap.size) rfl 31 _ (0, 0) _ b1' Tryz.underlying31 rfl (by kernel_rfl) ?_))
            rw [← hW1]
            refine (KS.out _ (He.out.trans x1)).mono ?_; rintro e w2 ⟨rfl, x2⟩
            have x2 := x1.trans x2
            clear gA b1' b1 hW1 x1
            obtain ⟨-, c1, -⟩ := HC.out _ x2
            go_wp2_with fail
            refine (rin15_v HI.out _).mono ?_; rintro e w3 ⟨rfl, rfl⟩
            clear c1
            obtain ⟨c0, c1, c2, c3, c4, c5, c6, c7, c8, c9⟩ := HC.out _ x2
            rw [HK.out] at c0
            go_wp2_with fail
            refine (rin15_v H2.out _).mono ?_; rintro e w4 ⟨rfl, rfl⟩
            go_wp2
            go_ret
            exact ⟨rfl, He.out.trans x2⟩
          | true =>
            have H2 := Lib.hid h2
            rw [Bool.true_and]
            clear h2
            by_cases hl : (Q.nr : Int) = Q.ct
            · have hb : ((Q.nr : Int) == Q.ct) = true := by simp [hl]
              rw [decide_eq_true hl]
              clear hl
              go_enter Tryz.func16, Tryz.ntmps16
              go_upto_region 1 with fail
              rw [← hW0]
              clear hW0
              have gA := HX.out W0 (Ext.refl _)
              go_wp2_with (first
                | (refine wpList_load_row rfl 31 (.tmp 1) rfl (w.heap.size) rfl 31 _ (0, 0) _ gA Tryz.underlying31 rfl (by kernel_rfl) ?_))
              refine (KO.out _).mono ?_; rintro e w1 ⟨rfl, x1⟩
              obtain ⟨W1, hW1, y1, b1⟩ : ∃ W, W = ((w1.alloc (.cells #[.int .i64 0, .int .i64 0, .int .i64 0, .int .i64 0, .int .i64 0, .int .i64 0, .int .i64 0, .int .i64 0, .slice none 0 0, .slice none 0 0] 31)).setRow w1.heap.size (qstC OV OQ)) ∧ Ext w1 W ∧ W.heap[w1.heap.size]? = some (.cells (qstC OV OQ) 31 (0, 0)) := ⟨_, rfl, asked_row _ _ _ _⟩
              have x1 := x1.trans y1
              clear y1 gA
              have gA := HX.out _ x1
              have b1' := b1
              rw [hW1] at gA b1'
              go_wp2_with (first
                | (refine wpList_store_row rfl 31 (.tmp 3) (.tmp 8) rfl _ _ rfl rfl 31 _ (heap_new_at _ _ (by first | rfl | simp)) (by kernel_rfl) rfl (by simp [qstC, Value.oneCell']) ?_)
                | (refine wpList_load_row_g (by rfl) 31 (.tmp 1) rfl (w.heap.size) rfl 31 _ (0, 0) _ gA Tryz.underlying31 rfl (by kernel_rfl) ?_)
                | (refine wpList_load_row_g (by rfl) 31 (.tmp 3) rfl (w1.heap.size) rfl 31 _ (0, 0) _ b1' Tryz.underlying31 rfl (by kernel_rfl) ?_))
              rw [← hW1]
              refine (KS.out _ (He.out.trans x1)).mono ?_; rintro e w2 ⟨rfl, x2⟩
              have x2 := x1.trans x2
              clear gA b1' b1 hW1 x1
              obtain ⟨-, c1, -⟩ := HC.out _ x2
              go_wp2_with fail
              refine (rin15_v HI.out _).mono ?_; rintro e w3 ⟨rfl, rfl⟩
              clear c1
              obtain ⟨c0, c1, c2, c3, c4, c5, c6, c7, c8, c9⟩ := HC.out _ x2
              rw [HK.out] at c0
              go_wp2_with fail
              refine (rin15_v H2.out _).mono ?_; rintro e w4 ⟨rfl, rfl⟩
              go_wp2
              go_ret
              exact ⟨rfl, He.out.trans x2⟩
            · have hb : ((Q.nr : Int) == Q.ct) = false := by simp [hl]
              rw [decide_eq_false hl]
              clear hl
              go_enter Tryz.func16, Tryz.ntmps16
              go_upto_region 1 with fail
              rw [← hW0]
              clear hW0
              have gA := HX.out W0 (Ext.refl _)
              go_wp2_with (first
                | (refine wpList_load_row rfl 31 (.tmp 1) rfl (w.heap.size) rfl 31 _ (0, 0) _ gA Tryz.underlying31 rfl (by kernel_rfl) ?_))
              refine (KO.out _).mono ?_; rintro e w1 ⟨rfl, x1⟩
              obtain ⟨W1, hW1, y1, b1⟩ : ∃ W, W = ((w1.alloc (.cells #[.int .i64 0, .int .i64 0, .int .i64 0, .int .i64 0, .int .i64 0, .int .i64 0, .int .i64 0, .int .i64 0, .slice none 0 0, .slice none 0 0] 31)).setRow w1.heap.size (qstC OV OQ)) ∧ Ext w1 W ∧ W.heap[w1.heap.size]? = some (.cells (qstC OV OQ) 31 (0, 0)) := ⟨_, rfl, asked_row _ _ _ _⟩
              have x1 := x1.trans y1
              clear y1 gA
              have gA := HX.out _ x1
              have b1' := b1
              rw [hW1] at gA b1'
              go_wp2_with (first
                | (refine wpList_store_row rfl 31 (.tmp 3) (.tmp 8) rfl _ _ rfl rfl 31 _ (heap_new_at _ _ (by first | rfl | simp)) (by kernel_rfl) rfl (by simp [qstC, Value.oneCell']) ?_)
                | (refine wpList_load_row_g (by rfl) 31 (.tmp 1) rfl (w.heap.size) rfl 31 _ (0, 0) _ gA Tryz.underlying31 rfl (by kernel_rfl) ?_)
                | (refine wpList_load_row_g (by rfl) 31 (.tmp 3) rfl (w1.heap.size) rfl 31 _ (0, 0) _ b1' Tryz.underlying31 rfl (by kernel_rfl) ?_))
              rw [← hW1]
              refine (KS.out _ (He.out.trans x1)).mono ?_; rintro e w2 ⟨rfl, x2⟩
              have x2 := x1.trans x2
              clear gA b1' b1 hW1 x1
              obtain ⟨-, c1, -⟩ := HC.out _ x2
              go_wp2_with fail
              refine (rin15_v HI.out _).mono ?_; rintro e w3 ⟨rfl, rfl⟩
              clear c1
              obtain ⟨c0, c1, c2, c3, c4, c5, c6, c7, c8, c9⟩ := HC.out _ x2
              rw [HK.out] at c0
              go_wp2_with fail
              refine (rin15_v H2.out _).mono ?_; rintro e w4 ⟨rfl, rfl⟩
              go_wp2
              go_ret
              exact ⟨rfl, He.out.trans x2⟩
        · have HK := Lib.hid hk22
          rw [hk22]

          simp (config := { decide := true }) only [if_true, if_false]
          clear hk22
          cases h2 : inB Q.an 0 65535 with
          | false =>
            have H2 := Lib.hid h2
            rw [Bool.false_and]
            clear h2
            go_enter Tryz.func16, Tryz.ntmps16
            go_upto_region 1 with fail
            rw [← hW0]
            clear hW0
            have gA := HX.out W0 (Ext.refl _)
            go_wp2_with (first
              | (refine wpList_load_row rfl 31 (.tmp 1) rfl (w.heap.size) rfl 31 _ (0, 0) _ gA Tryz.underlying31 rfl (by kernel_rfl) ?_))
            refine (KO.out _).mono ?_; rintro e w1 ⟨rfl, x1⟩
            obtain ⟨W1, hW1, y1, b1⟩ : ∃ W, W = ((w1.alloc (.cells #[.int .i64 0, .int .i64 0, .int .i64 0, .int .i64 0, .int .i64 0, .int .i64 0, .int .i64 0, .int .i64 0, .slice none 0 0, .slice none 0 0] 31)).setRow w1.heap.size (qstC OV OQ)) ∧ Ext w1 W ∧ W.heap[w1.heap.size]? = some (.cells (qstC OV OQ) 31 (0, 0)) := ⟨_, rfl, asked_row _ _ _ _⟩
            have x1 := x1.trans y1
            clear y1 gA
            have gA := HX.out _ x1
            have b1' := b1
            rw [hW1] at gA b1'
            go_wp2_with (first
              | (refine wpList_store_row rfl 31 (.tmp 3) (.tmp 8) rfl _ _ rfl rfl 31 _ (heap_new_at _ _ (by first | rfl | simp)) (by kernel_rfl) rfl (by simp [qstC, Value.oneCell']) ?_)
              | (refine wpList_load_row_g (by rfl) 31 (.tmp 1) rfl (w.heap.size) rfl 31 _ (0, 0) _ gA Tryz.underlying31 rfl (by kernel_rfl) ?_)
              | (refine wpList_load_row_g (by rfl) 31 (.tmp 3) rfl (w1.heap.size) rfl 31 _ (0, 0) _ b1' Tryz.underlying31 rfl (by kernel_rfl) ?_))
            rw [← hW1]
            refine (KS.out _ (He.out.trans x1)).mono ?_; rintro e w2 ⟨rfl, x2⟩
            have x2 := x1.trans x2
            clear gA b1' b1 hW1 x1
            obtain ⟨-, c1, -⟩ := HC.out _ x2
            go_wp2_with fail
            refine (rin15_v HI.out _).mono ?_; rintro e w3 ⟨rfl, rfl⟩
            clear c1
            obtain ⟨c0, c1, c2, c3, c4, c5, c6, c7, c8, c9⟩ := HC.out _ x2
            rw [HK.out] at c0
            go_wp2_with fail
            refine (rin15_v H2.out _).mono ?_; rintro e w4 ⟨rfl, rfl⟩
            go_wp2
            go_ret
            exact ⟨rfl, He.out.trans x2⟩
          | true =>
            have H2 := Lib.hid h2
            rw [Bool.true_and]
            clear h2
            obtain ⟨B3, h3⟩ : ∃ B, inB Q.oo 0 65535 = B := ⟨_, rfl⟩
            rw [h3]
            have H3 := Lib.hid h3
            clear h3
            go_enter Tryz.func16, Tryz.ntmps16
            go_upto_region 1 with fail
            rw [← hW0]
            clear hW0
            have gA := HX.out W0 (Ext.refl _)
            go_wp2_with (first
              | (refine wpList_load_row rfl 31 (.tmp 1) rfl (w.heap.size) rfl 31 _ (0, 0) _ gA Tryz.underlying31 rfl (by kernel_rfl) ?_))
            refine (KO.out _).mono ?_; rintro e w1 ⟨rfl, x1⟩
            obtain ⟨W1, hW1, y1, b1⟩ : ∃ W, W = ((w1.alloc (.cells #[.int .i64 0, .int .i64 0, .int .i64 0, .int .i64 0, .int .i64 0, .int .i64 0, .int .i64 0, .int .i64 0, .slice none 0 0, .slice none 0 0] 31)).setRow w1.heap.size (qstC OV OQ)) ∧ Ext w1 W ∧ W.heap[w1.heap.size]? = some (.cells (qstC OV OQ) 31 (0, 0)) := ⟨_, rfl, asked_row _ _ _ _⟩
            have x1 := x1.trans y1
            clear y1 gA
            have gA := HX.out _ x1
            have b1' := b1
            rw [hW1] at gA b1'
            go_wp2_with (first
              | (refine wpList_store_row rfl 31 (.tmp 3) (.tmp 8) rfl _ _ rfl rfl 31 _ (heap_new_at _ _ (by first | rfl | simp)) (by kernel_rfl) rfl (by simp [qstC, Value.oneCell']) ?_)
              | (refine wpList_load_row_g (by rfl) 31 (.tmp 1) rfl (w.heap.size) rfl 31 _ (0, 0) _ gA Tryz.underlying31 rfl (by kernel_rfl) ?_)
              | (refine wpList_load_row_g (by rfl) 31 (.tmp 3) rfl (w1.heap.size) rfl 31 _ (0, 0) _ b1' Tryz.underlying31 rfl (by kernel_rfl) ?_))
            rw [← hW1]
            refine (KS.out _ (He.out.trans x1)).mono ?_; rintro e w2 ⟨rfl, x2⟩
            have x2 := x1.trans x2
            clear gA b1' b1 hW1 x1
            obtain ⟨-, c1, -⟩ := HC.out _ x2
            go_wp2_with fail
            refine (rin15_v HI.out _).mono ?_; rintro e w3 ⟨rfl, rfl⟩
            clear c1
            obtain ⟨c0, c1, c2, c3, c4, c5, c6, c7, c8, c9⟩ := HC.out _ x2
            rw [HK.out] at c0
            go_wp2_with fail
            refine (rin15_v H2.out _).mono ?_; rintro e w4 ⟨rfl, rfl⟩
            go_wp2_with fail
            refine (rin15_v H3.out _).mono ?_; rintro e w4 ⟨rfl, rfl⟩
            go_wp2
            go_ret
            exact ⟨rfl, He.out.trans x2⟩
        · have HK := Lib.hid hk23
          rw [hk23]

          simp (config := { decide := true }) only [if_false]
          clear hk23
          cases h2 : inB Q.fr 0 65535 with
          | false =>
            have H2 := Lib.hid h2
            simp only [Bool.false_and]
            clear h2
            go_enter Tryz.func16, Tryz.ntmps16
            go_upto_region 1 with fail
            rw [← hW0]
            clear hW0
            have gA := HX.out W0 (Ext.refl _)
            go_wp2_with (first
              | (refine wpList_load_row rfl 31 (.tmp 1) rfl (w.heap.size) rfl 31 _ (0, 0) _ gA Tryz.underlying31 rfl (by kernel_rfl) ?_))
            refine (KO.out _).mono ?_; rintro e w1 ⟨rfl, x1⟩
            obtain ⟨W1, hW1, y1, b1⟩ : ∃ W, W = ((w1.alloc (.cells #[.int .i64 0, .int .i64 0, .int .i64 0, .int .i64 0, .int .i64 0, .int .i64 0, .int .i64 0, .int .i64 0, .slice none 0 0, .slice none 0 0] 31)).setRow w1.heap.size (qstC OV OQ)) ∧ Ext w1 W ∧ W.heap[w1.heap.size]? = some (.cells (qstC OV OQ) 31 (0, 0)) := ⟨_, rfl, asked_row _ _ _ _⟩
            have x1 := x1.trans y1
            clear y1 gA
            have gA := HX.out _ x1
            have b1' := b1
            rw [hW1] at gA b1'
            go_wp2_with (first
              | (refine wpList_store_row rfl 31 (.tmp 3) (.tmp 8) rfl _ _ rfl rfl 31 _ (heap_new_at _ _ (by first | rfl | simp)) (by kernel_rfl) rfl (by simp [qstC, Value.oneCell']) ?_)
              | (refine wpList_load_row_g (by rfl) 31 (.tmp 1) rfl (w.heap.size) rfl 31 _ (0, 0) _ gA Tryz.underlying31 rfl (by kernel_rfl) ?_)
              | (refine wpList_load_row_g (by rfl) 31 (.tmp 3) rfl (w1.heap.size) rfl 31 _ (0, 0) _ b1' Tryz.underlying31 rfl (by kernel_rfl) ?_))
            rw [← hW1]
            refine (KS.out _ (He.out.trans x1)).mono ?_; rintro e w2 ⟨rfl, x2⟩
            have x2 := x1.trans x2
            clear gA b1' b1 hW1 x1
            obtain ⟨-, c1, -⟩ := HC.out _ x2
            go_wp2_with fail
            refine (rin15_v HI.out _).mono ?_; rintro e w3 ⟨rfl, rfl⟩
            clear c1
            obtain ⟨c0, c1, c2, c3, c4, c5, c6, c7, c8, c9⟩ := HC.out _ x2
            rw [HK.out] at c0
            go_wp2_with fail
            refine (rin15_v H2.out _).mono ?_; rintro e w4 ⟨rfl, rfl⟩
            go_wp2
            go_ret
            exact ⟨rfl, He.out.trans x2⟩
          | true =>
            have H2 := Lib.hid h2
            clear h2
            cases h3 : inB Q.mn 1 125 with
            | false =>
              have H3 := Lib.hid h3
              simp only [Bool.false_and, Bool.true_and]
              clear h3
              go_enter Tryz.func16, Tryz.ntmps16
              go_upto_region 1 with fail
              rw [← hW0]
              clear hW0
              have gA := HX.out W0 (Ext.refl _)
              go_wp2_with (first
                | (refine wpList_load_row rfl 31 (.tmp 1) rfl (w.heap.size) rfl 31 _ (0, 0) _ gA Tryz.underlying31 rfl (by kernel_rfl) ?_))
              refine (KO.out _).mono ?_; rintro e w1 ⟨rfl, x1⟩
              obtain ⟨W1, hW1, y1, b1⟩ : ∃ W, W = ((w1.alloc (.cells #[.int .i64 0, .int .i64 0, .int .i64 0, .int .i64 0, .int .i64 0, .int .i64 0, .int .i64 0, .int .i64 0, .slice none 0 0, .slice none 0 0] 31)).setRow w1.heap.size (qstC OV OQ)) ∧ Ext w1 W ∧ W.heap[w1.heap.size]? = some (.cells (qstC OV OQ) 31 (0, 0)) := ⟨_, rfl, asked_row _ _ _ _⟩
              have x1 := x1.trans y1
              clear y1 gA
              have gA := HX.out _ x1
              have b1' := b1
              rw [hW1] at gA b1'
              go_wp2_with (first
                | (refine wpList_store_row rfl 31 (.tmp 3) (.tmp 8) rfl _ _ rfl rfl 31 _ (heap_new_at _ _ (by first | rfl | simp)) (by kernel_rfl) rfl (by simp [qstC, Value.oneCell']) ?_)
                | (refine wpList_load_row_g (by rfl) 31 (.tmp 1) rfl (w.heap.size) rfl 31 _ (0, 0) _ gA Tryz.underlying31 rfl (by kernel_rfl) ?_)
                | (refine wpList_load_row_g (by rfl) 31 (.tmp 3) rfl (w1.heap.size) rfl 31 _ (0, 0) _ b1' Tryz.underlying31 rfl (by kernel_rfl) ?_))
              rw [← hW1]
              refine (KS.out _ (He.out.trans x1)).mono ?_; rintro e w2 ⟨rfl, x2⟩
              have x2 := x1.trans x2
              clear gA b1' b1 hW1 x1
              obtain ⟨-, c1, -⟩ := HC.out _ x2
              go_wp2_with fail
              refine (rin15_v HI.out _).mono ?_; rintro e w3 ⟨rfl, rfl⟩
              clear c1
              obtain ⟨c0, c1, c2, c3, c4, c5, c6, c7, c8, c9⟩ := HC.out _ x2
              rw [HK.out] at c0
              go_wp2_with fail
              refine (rin15_v H2.out _).mono ?_; rintro e w4 ⟨rfl, rfl⟩
              go_wp2_with fail
              refine (rin15_v H3.out _).mono ?_; rintro e w4 ⟨rfl, rfl⟩
              go_wp2
              go_ret
              exact ⟨rfl, He.out.trans x2⟩
            | true =>
              have H3 := Lib.hid h3
              clear h3
              cases h4 : inB Q.ct 1 121 with
              | false =>
                have H4 := Lib.hid h4
                simp only [Bool.false_and, Bool.true_and]
                clear h4
                go_enter Tryz.func16, Tryz.ntmps16
                go_upto_region 1 with fail
                rw [← hW0]
                clear hW0
                have gA := HX.out W0 (Ext.refl _)
                go_wp2_with (first
                  | (refine wpList_load_row rfl 31 (.tmp 1) rfl (w.heap.size) rfl 31 _ (0, 0) _ gA Tryz.underlying31 rfl (by kernel_rfl) ?_))
                refine (KO.out _).mono ?_; rintro e w1 ⟨rfl, x1⟩
                obtain ⟨W1, hW1, y1, b1⟩ : ∃ W, W = ((w1.alloc (.cells #[.int .i64 0, .int .i64 0, .int .i64 0, .int .i64 0, .int .i64 0, .int .i64 0, .int .i64 0, .int .i64 0, .slice none 0 0, .slice none 0 0] 31)).setRow w1.heap.size (qstC OV OQ)) ∧ Ext w1 W ∧ W.heap[w1.heap.size]? = some (.cells (qstC OV OQ) 31 (0, 0)) := ⟨_, rfl, asked_row _ _ _ _⟩
                have x1 := x1.trans y1
                clear y1 gA
                have gA := HX.out _ x1
                have b1' := b1
                rw [hW1] at gA b1'
                go_wp2_with (first
                  | (refine wpList_store_row rfl 31 (.tmp 3) (.tmp 8) rfl _ _ rfl rfl 31 _ (heap_new_at _ _ (by first | rfl | simp)) (by kernel_rfl) rfl (by simp [qstC, Value.oneCell']) ?_)
                  | (refine wpList_load_row_g (by rfl) 31 (.tmp 1) rfl (w.heap.size) rfl 31 _ (0, 0) _ gA Tryz.underlying31 rfl (by kernel_rfl) ?_)
                  | (refine wpList_load_row_g (by rfl) 31 (.tmp 3) rfl (w1.heap.size) rfl 31 _ (0, 0) _ b1' Tryz.underlying31 rfl (by kernel_rfl) ?_))
                rw [← hW1]
                refine (KS.out _ (He.out.trans x1)).mono ?_; rintro e w2 ⟨rfl, x2⟩
                have x2 := x1.trans x2
                clear gA b1' b1 hW1 x1
                obtain ⟨-, c1, -⟩ := HC.out _ x2
                go_wp2_with fail
                refine (rin15_v HI.out _).mono ?_; rintro e w3 ⟨rfl, rfl⟩
                clear c1
                obtain ⟨c0, c1, c2, c3, c4, c5, c6, c7, c8, c9⟩ := HC.out _ x2
                rw [HK.out] at c0
                go_wp2_with fail
                refine (rin15_v H2.out _).mono ?_; rintro e w4 ⟨rfl, rfl⟩
                go_wp2_with fail
                refine (rin15_v H3.out _).mono ?_; rintro e w4 ⟨rfl, rfl⟩
                go_wp2_with fail
                refine (rin15_v H4.out _).mono ?_; rintro e w4 ⟨rfl, rfl⟩
                go_wp2
                go_ret
                exact ⟨rfl, He.out.trans x2⟩
              | true =>
                have H4 := Lib.hid h4
                simp only [Bool.true_and]
                clear h4
                by_cases hl : (Q.nr : Int) = Q.ct
                · have hb : ((Q.nr : Int) == Q.ct) = true := by simp [hl]
                  rw [decide_eq_true hl]
                  clear hl
                  go_enter Tryz.func16, Tryz.ntmps16
                  go_upto_region 1 with fail
                  rw [← hW0]
                  clear hW0
                  have gA := HX.out W0 (Ext.refl _)
                  go_wp2_with (first
                    | (refine wpList_load_row rfl 31 (.tmp 1) rfl (w.heap.size) rfl 31 _ (0, 0) _ gA Tryz.underlying31 rfl (by kernel_rfl) ?_))
                  refine (KO.out _).mono ?_; rintro e w1 ⟨rfl, x1⟩
                  obtain ⟨W1, hW1, y1, b1⟩ : ∃ W, W = ((w1.alloc (.cells #[.int .i64 0, .int .i64 0, .int .i64 0, .int .i64 0, .int .i64 0, .int .i64 0, .int .i64 0, .int .i64 0, .slice none 0 0, .slice none 0 0] 31)).setRow w1.heap.size (qstC OV OQ)) ∧ Ext w1 W ∧ W.heap[w1.heap.size]? = some (.cells (qstC OV OQ) 31 (0, 0)) := ⟨_, rfl, asked_row _ _ _ _⟩
                  have x1 := x1.trans y1
                  clear y1 gA
                  have gA := HX.out _ x1
                  have b1' := b1
                  rw [hW1] at gA b1'
                  go_wp2_with (first
                    | (refine wpList_store_row rfl 31 (.tmp 3) (.tmp 8) rfl _ _ rfl rfl 31 _ (heap_new_at _ _ (by first | rfl | simp)) (by kernel_rfl) rfl (by simp [qstC, Value.oneCell']) ?_)
                    | (refine wpList_load_row_g (by rfl) 31 (.tmp 1) rfl (w.heap.size) rfl 31 _ (0, 0) _ gA Tryz.underlying31 rfl (by kernel_rfl) ?_)
                    | (refine wpList_load_row_g (by rfl) 31 (.tmp 3) rfl (w1.heap.size) rfl 31 _ (0, 0) _ b1' Tryz.underlying31 rfl (by kernel_rfl) ?_))
                  rw [← hW1]
                  refine (KS.out _ (He.out.trans x1)).mono ?_; rintro e w2 ⟨rfl, x2⟩
                  have x2 := x1.trans x2
                  clear gA b1' b1 hW1 x1
                  obtain ⟨-, c1, -⟩ := HC.out _ x2
                  go_wp2_with fail
                  refine (rin15_v HI.out _).mono ?_; rintro e w3 ⟨rfl, rfl⟩
                  clear c1
                  obtain ⟨c0, c1, c2, c3, c4, c5, c6, c7, c8, c9⟩ := HC.out _ x2
                  rw [HK.out] at c0
                  go_wp2_with fail
                  refine (rin15_v H2.out _).mono ?_; rintro e w4 ⟨rfl, rfl⟩
                  go_wp2_with fail
                  refine (rin15_v H3.out _).mono ?_; rintro e w4 ⟨rfl, rfl⟩
                  go_wp2_with fail
                  refine (rin15_v H4.out _).mono ?_; rintro e w4 ⟨rfl, rfl⟩
                  go_wp2
                  go_ret
                  exact ⟨rfl, He.out.trans x2⟩
                · have hb : ((Q.nr : Int) == Q.ct) = false := by simp [hl]
                  rw [decide_eq_false hl]
                  clear hl
                  go_enter Tryz.func16, Tryz.ntmps16
                  go_upto_region 1 with fail
                  rw [← hW0]
                  clear hW0
                  have gA := HX.out W0 (Ext.refl _)
                  go_wp2_with (first
                    | (refine wpList_load_row rfl 31 (.tmp 1) rfl (w.heap.size) rfl 31 _ (0, 0) _ gA Tryz.underlying31 rfl (by kernel_rfl) ?_))
                  refine (KO.out _).mono ?_; rintro e w1 ⟨rfl, x1⟩
                  obtain ⟨W1, hW1, y1, b1⟩ : ∃ W, W = ((w1.alloc (.cells #[.int .i64 0, .int .i64 0, .int .i64 0, .int .i64 0, .int .i64 0, .int .i64 0, .int .i64 0, .int .i64 0, .slice none 0 0, .slice none 0 0] 31)).setRow w1.heap.size (qstC OV OQ)) ∧ Ext w1 W ∧ W.heap[w1.heap.size]? = some (.cells (qstC OV OQ) 31 (0, 0)) := ⟨_, rfl, asked_row _ _ _ _⟩
                  have x1 := x1.trans y1
                  clear y1 gA
                  have gA := HX.out _ x1
                  have b1' := b1
                  rw [hW1] at gA b1'
                  go_wp2_with (first
                    | (refine wpList_store_row rfl 31 (.tmp 3) (.tmp 8) rfl _ _ rfl rfl 31 _ (heap_new_at _ _ (by first | rfl | simp)) (by kernel_rfl) rfl (by simp [qstC, Value.oneCell']) ?_)
                    | (refine wpList_load_row_g (by rfl) 31 (.tmp 1) rfl (w.heap.size) rfl 31 _ (0, 0) _ gA Tryz.underlying31 rfl (by kernel_rfl) ?_)
                    | (refine wpList_load_row_g (by rfl) 31 (.tmp 3) rfl (w1.heap.size) rfl 31 _ (0, 0) _ b1' Tryz.underlying31 rfl (by kernel_rfl) ?_))
                  rw [← hW1]
                  refine (KS.out _ (He.out.trans x1)).mono ?_; rintro e w2 ⟨rfl, x2⟩
                  have x2 := x1.trans x2
                  clear gA b1' b1 hW1 x1
                  obtain ⟨-, c1, -⟩ := HC.out _ x2
                  go_wp2_with fail
                  refine (rin15_v HI.out _).mono ?_; rintro e w3 ⟨rfl, rfl⟩
                  clear c1
                  obtain ⟨c0, c1, c2, c3, c4, c5, c6, c7, c8, c9⟩ := HC.out _ x2
                  rw [HK.out] at c0
                  go_wp2_with fail
                  refine (rin15_v H2.out _).mono ?_; rintro e w4 ⟨rfl, rfl⟩
                  go_wp2_with fail
                  refine (rin15_v H3.out _).mono ?_; rintro e w4 ⟨rfl, rfl⟩
                  go_wp2_with fail
                  refine (rin15_v H4.out _).mono ?_; rintro e w4 ⟨rfl, rfl⟩
                  go_wp2
                  go_ret
                  exact ⟨rfl, He.out.trans x2⟩
theorem rright15_v {V : QstV} {Q : Qst} {B : Bool} (hB : rightQ Q = B) (w : World) (h : QstAt w V Q) (n1 : Q.nb ≤ 1000000) (n2 : Q.nr ≤ 1000000) : Calls Tryz.prog 16 #[.agg (qstC V Q)] w fun e w' => e = .returned (.bool B) ∧ Ext w w' := hB ▸ rright15_any V Q w h n1 n2
end Go.Proofs.YtlafnobjfajamaaGreat
namespace Go.Proofs.YtlafnobjfajamaaGreat
open Go.RowKit
set_option linter.unusedVariables false
set_option maxRecDepth 100000

theorem right16_yes {Q : Qst} {T : Tel} (hr : rightQ Q = true) : rightT Q T = (if T.cd = 0 then sameT T (wholeT Q T.nb T.B T.nr T.R) && cntB Q T else inB T.cd 1 4 && sameT T { zeroT with k := Q.k, cd := T.cd }) := by unfold rightT; rw [hr, Bool.true_and]
theorem right16_no {Q : Qst} {T : Tel} (hr : rightQ Q = false) : rightT Q T = false := by unfold rightT; rw [hr, Bool.false_and]
set_option maxHeartbeats 8000000 in
theorem rright16_any (V : QstV) (Q : Qst) (U : QstV) (T : Tel) (w : World) (h : QstAt w V Q) (n1 : Q.nb ≤ 1000000) (n2 : Q.nr ≤ 1000000) (k : TelAt w U T) (m1 : T.nb ≤ 1000000) (m2 : T.nr ≤ 1000000) :
    Calls Tryz.prog 25 #[.agg (qstC V Q), .agg (telC U T)] w fun e w' => e = .returned (.bool (rightT Q T)) ∧ Ext w w' := by
  obtain ⟨W2, hW2, e0, HX⟩ : ∃ W2, W2 = (w.alloc (.cells (qstC V Q) 31)).alloc (.cells (telC U T) 37) ∧ Ext w W2 ∧ Hid (∀ W, Ext W2 W → W.heap[w.heap.size]? = some (.cells (qstC V Q) 31 (0, 0)) ∧ W.heap[w.heap.size + 1]? = some (.cells (telC U T) 37 (0, 0))) :=
    ⟨_, rfl, (Ext.alloc w _).trans (Ext.alloc _ _), Lib.hid fun W x => ⟨x.block ((heap_alloc_old _ _ (by simp)).trans (heap_alloc_new w _)), x.block (heap_new_at _ _ (by simp))⟩⟩
  have b1 := (HX.out _ (Ext.refl W2)).1
  cases hr : rightQ Q with
  | false =>
    have HR := Lib.hid (right16_no (T := T) hr)
    have KR := Lib.hid (fun W (x : Ext w W) => rright15_v hr W (h.ext x) n1 n2)
    clear h k hr n1 n2 m1 m2
    go_enter Tryz.func25, Tryz.ntmps25
    go_upto_region 1 with fail
    rw [← hW2]
    clear hW2
    go_wp2_with (first
      | (refine wpList_load_row rfl 31 (.tmp 2) rfl w.heap.size rfl 31 _ (0, 0) _ b1 Tryz.underlying31 rfl (by kernel_rfl) ?_))
    refine (KR.out _ e0).mono ?_; rintro e w3 ⟨rfl, x3⟩
    go_wp2
    go_ret
    exact ⟨by rw [HR.out]; rfl, e0.trans x3⟩
  | true =>
    have KR := Lib.hid (fun W (x : Ext w W) => rright15_v hr W (h.ext x) n1 n2)
    have HRT := Lib.hid (right16_yes (T := T) hr)
    have HK := Lib.hid ((known_iff Q.k).1 ((rightQ_iff Q).1 hr).1)
    have KT := Lib.hid (fun W (x : Ext w W) => k.ext x)
    by_cases hcd : T.cd = 0
    · have hb0 : (T.cd != 0) = false := by simp [hcd]
      have HRR : Hid (rightT Q T = (sameT T (wholeT Q T.nb T.B T.nr T.R) && cntB Q T)) := Lib.hid (by rw [HRT.out, if_pos hcd])
      have hwk := whole_k Q T.nb T.B T.nr T.R
      have KS0 := Lib.hid (fun W (x : Ext w W) => rsame16_any U T (wholeV Q U) (wholeT Q T.nb T.B T.nr T.R) W (KT.out W x) (whole_at Q (KT.out W x).h1 k.l1 k.m1 (KT.out W x).h2 k.l2 k.m2) m1 m2 (Nat.le_trans hwk.2.2.1 m1) (Nat.le_trans hwk.2.2.2 m2))
      generalize sameT T (wholeT Q T.nb T.B T.nr T.R) = B at HRR KS0
      clear h k hr hcd hwk HRT KT n1 n2
      go_enter Tryz.func25, Tryz.ntmps25
      go_upto_region 1 with fail
      rw [← hW2]
      clear hW2
      go_wp2_with (first
        | (refine wpList_load_row rfl 31 (.tmp 2) rfl w.heap.size rfl 31 _ (0, 0) _ b1 Tryz.underlying31 rfl (by kernel_rfl) ?_))
      refine (KR.out _ e0).mono ?_; rintro e w3 ⟨rfl, x3⟩
      have x4 := x3
      clear b1 KR
      have c1 : w3.cell? ⟨w.heap.size + 1, 1, none⟩ = some (.int .i64 T.cd) := cell_of_heap (HX.out _ x4).2 rfl
      go_wp2_with fail
      obtain ⟨X, hX⟩ : ∃ X, X = w3.drew := ⟨_, rfl⟩
      have x5 : Ext W2 X := by rw [hX]; exact x4.trans (Ext.drew _)
      have hs : Ext X X := Ext.refl _
      refine wp_region_held_drew (S := fun W => Ext X W) (by kernel_rfl) (by rw [← hX]; exact hs) (fun _ => ?_)
      rw [← hX]
      clear hX c1 x3 x4 hb0
      have HX := Lib.hid (fun W (x : Ext X W) => HX.out W (x5.trans x))
      have HC := Lib.hid (fun W (x : Ext X W) => (⟨cell_of_heap (HX.out W x).2 rfl, cell_of_heap (HX.out W x).2 rfl⟩ : W.cell? ⟨w.heap.size + 1, 7, none⟩ = some (.slice U.a1 T.nb U.d1) ∧ W.cell? ⟨w.heap.size + 1, 8, none⟩ = some (.slice U.a2 T.nr U.d2)))
      have KS := Lib.hid (fun W (x : Ext X W) => KS0.out W (e0.trans (x5.trans x)))
      clear KS0
      cases B with
      | false =>
        have HR := Lib.hid (HRR.out.trans (Bool.false_and _))
        clear HRR
        refine wpAnyH_takeD (i := 0) (d := 28) rfl rfl (by kernel_rfl) (by kernel_rfl) (by kernel_rfl) (fun _ _ _ h => h) (yieldsIf_load_row (by rfl) 37 (.tmp 3) rfl (w.heap.size + 1) rfl 37 _ (0, 0) _ (fun w' hw' => (HX.out _ hw').2) Tryz.underlying37 rfl (by kernel_rfl)) hs ?_
        simp only [Act.put, tkA, tkB, tkC]
        refine wpAnyH_takeD (i := 1) (d := 29) rfl rfl (by kernel_rfl) (by kernel_rfl) (by kernel_rfl) (fun _ _ _ h => h) (yieldsIf_load_row (by rfl) 31 (.tmp 2) rfl (w.heap.size) rfl 31 _ (0, 0) _ (fun w' hw' => (HX.out _ hw').1) Tryz.underlying31 rfl (by kernel_rfl)) hs ?_
        simp only [Act.put, tkA, tkB, tkC]
        refine tkG 2 30 (.pointer (some ⟨w.heap.size + 1, 7, none⟩)) hs ?_
        simp only [Act.put, tkA, tkB, tkC]
        refine tkY 3 31 (.slice U.a1 T.nb U.d1) hs ?_ (y := fun W hW => by obtain ⟨c7, c8⟩ := HC.out W hW; go_simp)
        simp only [Act.put, tkA, tkB, tkC]
        refine tkG 4 32 (.pointer (some ⟨w.heap.size + 1, 8, none⟩)) hs ?_
        simp only [Act.put, tkA, tkB, tkC]
        refine tkY 5 33 (.slice U.a2 T.nr U.d2) hs ?_ (y := fun W hW => by obtain ⟨c7, c8⟩ := HC.out W hW; go_simp)
        simp only [Act.put, tkA, tkB, tkC]
        refine wpAnyH_ready (rs := [6]) (by kernel_rfl) (by simp) (AllReadyH.cons rfl (fun K hK => ?_) AllReadyH.nil)
        go_simp
        go_at_call 52
        refine (rwhole16_any V Q U T.nb T.B T.nr T.R _).mono ?_; rintro e Wc ⟨rfl, y⟩
        go_wp2_with fail
        refine hK.out _ _ (hs.trans y) (fun hs => ?_)
        clear hK K y
        refine wpAnyH_ready (rs := [7]) (by kernel_rfl) (by simp) (AllReadyH.cons rfl (fun K hK => ?_) AllReadyH.nil)
        go_simp
        go_at_call 18
        refine (KS.out _ hs).mono ?_; rintro e Wc ⟨rfl, y⟩
        go_wp2_with fail
        refine hK.out _ _ (hs.trans y) (fun hs => ?_)
        clear hK K y
        refine tkG 8 36 (.bool true) hs ?_
        simp only [Act.put, tkA, tkB, tkC]
        refine wpAnyH_done (by kernel_rfl) ?_ _
        go_wp2
        go_ret
        exact ⟨by rw [HR.out]; rfl, e0.trans (x5.trans hs)⟩
      | true =>
        have HR := Lib.hid (HRR.out.trans (Bool.true_and _))
        clear HRR
        refine wpAnyH_takeD (i := 0) (d := 28) rfl rfl (by kernel_rfl) (by kernel_rfl) (by kernel_rfl) (fun _ _ _ h => h) (yieldsIf_load_row (by rfl) 37 (.tmp 3) rfl (w.heap.size + 1) rfl 37 _ (0, 0) _ (fun w' hw' => (HX.out _ hw').2) Tryz.underlying37 rfl (by kernel_rfl)) hs ?_
        simp only [Act.put, tkA, tkB, tkC]
        refine wpAnyH_takeD (i := 1) (d := 29) rfl rfl (by kernel_rfl) (by kernel_rfl) (by kernel_rfl) (fun _ _ _ h => h) (yieldsIf_load_row (by rfl) 31 (.tmp 2) rfl (w.heap.size) rfl 31 _ (0, 0) _ (fun w' hw' => (HX.out _ hw').1) Tryz.underlying31 rfl (by kernel_rfl)) hs ?_
        simp only [Act.put, tkA, tkB, tkC]
        refine tkG 2 30 (.pointer (some ⟨w.heap.size + 1, 7, none⟩)) hs ?_
        simp only [Act.put, tkA, tkB, tkC]
        refine tkY 3 31 (.slice U.a1 T.nb U.d1) hs ?_ (y := fun W hW => by obtain ⟨c7, c8⟩ := HC.out W hW; go_simp)
        simp only [Act.put, tkA, tkB, tkC]
        refine tkG 4 32 (.pointer (some ⟨w.heap.size + 1, 8, none⟩)) hs ?_
        simp only [Act.put, tkA, tkB, tkC]
        refine tkY 5 33 (.slice U.a2 T.nr U.d2) hs ?_ (y := fun W hW => by obtain ⟨c7, c8⟩ := HC.out W hW; go_simp)
        simp only [Act.put, tkA, tkB, tkC]
        refine wpAnyH_ready (rs := [6]) (by kernel_rfl) (by simp) (AllReadyH.cons rfl (fun K hK => ?_) AllReadyH.nil)
        go_simp
        go_at_call 52
        refine (rwhole16_any V Q U T.nb T.B T.nr T.R _).mono ?_; rintro e Wc ⟨rfl, y⟩
        go_wp2_with fail
        refine hK.out _ _ (hs.trans y) (fun hs => ?_)
        clear hK K y
        refine wpAnyH_ready (rs := [7]) (by kernel_rfl) (by simp) (AllReadyH.cons rfl (fun K hK => ?_) AllReadyH.nil)
        go_simp
        go_at_call 18
        refine (KS.out _ hs).mono ?_; rintro e Wc ⟨rfl, y⟩
        go_wp2_with fail
        refine hK.out _ _ (hs.trans y) (fun hs => ?_)
        clear hK K y
        refine tkG 8 36 (.bool false) hs ?_
        simp only [Act.put, tkA, tkB, tkC]
        refine wpAnyH_done (by kernel_rfl) ?_ _
        obtain ⟨g1, g2⟩ := HX.out _ hs
        have d7 : Wc.cell? ⟨w.heap.size + 1, 7, none⟩ = some (.slice U.a1 T.nb U.d1) := cell_of_heap g2 rfl
        have d8 : Wc.cell? ⟨w.heap.size + 1, 8, none⟩ = some (.slice U.a2 T.nr U.d2) := cell_of_heap g2 rfl
        have dk : Wc.cell? ⟨w.heap.size, 0, none⟩ = some (.int .i64 Q.k) := cell_of_heap g1 rfl
        have dc : Wc.cell? ⟨w.heap.size, 2, none⟩ = some (.int .i64 Q.ct) := cell_of_heap g1 rfl
        have dm : Wc.cell? ⟨w.heap.size, 7, none⟩ = some (.int .i64 Q.mn) := cell_of_heap g1 rfl
        clear g1 g2 HC KS
        rcases HK.out with hk | hk | hk | hk | hk | hk | hk | hk | hk | hk
        all_goals
          rw [hk] at dk
          have HCn : Hid (cntB Q T = cntB Q T) := Lib.hid rfl
          go_wp2
        all_goals
          go_ret
          refine ⟨?_, e0.trans (x5.trans hs)⟩
          rw [HR.out]
          unfold cntB
          simp (config := { decide := true }) only [hk, if_true, if_false]
          first
            | rfl
            | (refine congrArg (fun b => Ending.returned (.bool b)) ?_; first | rfl | exact Bool.eq_iff_iff.2 (by simp))
    · have hb0 : (T.cd != 0) = true := by simp [hcd]
      have HRR : Hid (rightT Q T = (inB T.cd 1 4 && sameT T { zeroT with k := Q.k, cd := T.cd })) := Lib.hid (by rw [HRT.out, if_neg hcd])
      have KS := Lib.hid (fun W (x : Ext w W) => rsame16_any U T zeroQV { zeroT with k := Q.k, cd := T.cd } W (KT.out W x) (telnone_at W rfl rfl) m1 m2 (Nat.zero_le _) (Nat.zero_le _))
      generalize sameT T { zeroT with k := Q.k, cd := T.cd } = B at HRR KS
      have HIn := Lib.hid (inB_iff T.cd 1 4)
      clear h k hr hcd HRT KT n1 n2 m1 m2
      go_enter Tryz.func25, Tryz.ntmps25
      go_upto_region 1 with fail
      rw [← hW2]
      clear hW2
      go_wp2_with (first
        | (refine wpList_load_row rfl 31 (.tmp 2) rfl w.heap.size rfl 31 _ (0, 0) _ b1 Tryz.underlying31 rfl (by kernel_rfl) ?_))
      refine (KR.out _ e0).mono ?_; rintro e w3 ⟨rfl, x3⟩
      clear b1 KR
      have g3 := (HX.out _ x3).2
      have c1 : w3.cell? ⟨w.heap.size + 1, 1, none⟩ = some (.int .i64 T.cd) := cell_of_heap g3 rfl
      have c0 : w3.cell? ⟨w.heap.size, 0, none⟩ = some (.int .i64 Q.k) := cell_of_heap (HX.out _ x3).1 rfl
      by_cases h1 : 1 ≤ T.cd
      · by_cases h4 : T.cd ≤ 4
        · have hd1 : decide (1 ≤ T.cd) = true := decide_eq_true h1
          have hd4 : decide (T.cd ≤ 4) = true := decide_eq_true h4
          have HR : Hid (rightT Q T = B) := Lib.hid (by rw [HRR.out, HIn.out.2 ⟨h1, h4⟩, Bool.true_and])
          clear HRR HIn
          go_wp2_with (first
            | (refine wpList_load_row_g (by rfl) 37 (.tmp 3) rfl (w.heap.size + 1) rfl 37 _ (0, 0) _ g3 Tryz.underlying37 rfl (by kernel_rfl) ?_))
          refine (KS.out _ (e0.trans x3)).mono ?_; rintro e w4 ⟨rfl, x4⟩
          go_wp2
          go_ret
          exact ⟨by rw [HR.out]; rfl, (e0.trans x3).trans x4⟩
        · have hd1 : decide (1 ≤ T.cd) = true := decide_eq_true h1
          have hd4 : decide (T.cd ≤ 4) = false := decide_eq_false h4
          have HR : Hid (rightT Q T = false) := Lib.hid (by
            rw [HRR.out]
            cases hi : inB T.cd 1 4
            · rfl
            · exact absurd (HIn.out.1 hi).2 h4)
          clear HRR HIn KS
          go_wp2
          go_ret
          exact ⟨by rw [HR.out]; rfl, e0.trans x3⟩
      · have hd1 : decide (1 ≤ T.cd) = false := decide_eq_false h1
        have HR : Hid (rightT Q T = false) := Lib.hid (by
          rw [HRR.out]
          cases hi : inB T.cd 1 4
          · rfl
          · exact absurd (HIn.out.1 hi).1 h1)
        clear HRR HIn KS
        go_wp2
        go_ret
        exact ⟨by rw [HR.out]; rfl, e0.trans x3⟩
theorem rright16_v {V : QstV} {Q : Qst} {U : QstV} {T : Tel} {B : Bool} (hB : rightT Q T = B) (w : World) (h : QstAt w V Q) (n1 : Q.nb ≤ 1000000) (n2 : Q.nr ≤ 1000000) (k : TelAt w U T) (m1 : T.nb ≤ 1000000) (m2 : T.nr ≤ 1000000) :
    Calls Tryz.prog 25 #[.agg (qstC V Q), .agg (telC U T)] w fun e w' => e = .returned (.bool B) ∧ Ext w w' := hB ▸ rright16_any V Q U T w h n1 n2 k m1 m2
end Go.Proofs.YtlafnobjfajamaaGreat
