/-
  CONTRACTS: package tell (layer 16): numbers, Same, refuses, Refusal.
  CONTRACTS: package tell (layer 16): Right.
  THE LAWS OF LAYER 17: what must come whatever the input is (package data's contracts and file.New's as premises).
-/
import Derived.Test.YtlafnobjfajamaaGreatPm26
import Derived.Test.YtlafnobjfajamaaGreatPm20
import Derived.Test.YtlafnobjfajamaaGreatPm19
import Derived.Test.YtlafnobjfajamaaGreatPm15
import Derived.Test.YtlafnobjfajamaaGreatPm16
import Derived.Test.YtlafnobjfajamaaGreatPm6
namespace Go.Proofs.YtlafnobjfajamaaGreat
open Go.RowKit
set_option linter.unusedVariables false
set_option maxRecDepth 100000

def tnumsL (T : Tel) : Array Value := #[.int .i64 T.k, .int .i64 T.cd, .int .i64 T.ad, .int .i64 T.ct, .int .i64 T.va, .int .i64 T.an, .int .i64 T.oo]
theorem tnums_run (F G : Tel) (w : World) : (binOp .eql 164 (.agg (tnumsL F)) (.agg (tnumsL G))).run Tryz.prog w = .ok (.bool (numsT F G)) w := by
  obtain ⟨i0, hi0, hz0, hz1, hz2⟩ := info_parts Tryz.infoInt
  have hc : Tryz.prog.cellsOf 3 = 1 := by kernel_rfl
  rw [run_eql_struct, run_equalIn_array w 9999 _ _ Tryz.underlying164 hi0, hc]
  have hi := Tryz.underlying3
  rw [show List.range 7 = [0, 1, 2, 3, 4, 5, 6] from rfl]
  simp [Op.eqItems, go_sem, hi, tnumsL]
  by_cases h : numsT F G = true
  · rw [h]
    obtain ⟨h0, h1, h2, h3, h4, h5, h6⟩ := (numsT_iff F G).1 h
    rw [if_pos h0, if_pos h1, if_pos h2, if_pos h3, if_pos h4, if_pos h5, if_pos h6]
  · have hf : numsT F G = false := by cases hb : numsT F G; rfl; exact absurd hb h
    rw [hf]
    repeat' split
    all_goals first | rfl | (rename_i h0 h1 h2 h3 h4 h5 h6; exact absurd ((numsT_iff F G).2 ⟨h0, h1, h2, h3, h4, h5, h6⟩) h)
theorem tnums_guard (x y : Operand) (xs ys : Array Value) (w : World) : (eqGuard .eql 164 x y (.agg xs) (.agg ys)).run Tryz.prog w = .ok () w :=
  run_eqGuard_agg w .eql _ x y xs ys (by kernel_rfl)
set_option maxHeartbeats 2000000 in
theorem tnumbers_v (V : QstV) (T : Tel) (w : World) : Calls Tryz.prog 125 #[.agg (telC V T)] w fun e w' => e = .returned (.agg (tnumsL T)) ∧ Ext w w' := by
  obtain ⟨k, cd, ad, ct, va, an, oo, nb, B, nr, R⟩ := T
  obtain ⟨a1, d1, a2, d2⟩ := V
  unfold telC tnumsL
  dsimp only
  have e0 := (Ext.alloc w (.cells #[.int .i64 k, .int .i64 cd, .int .i64 ad, .int .i64 ct, .int .i64 va, .int .i64 an, .int .i64 oo, .slice a1 nb d1, .slice a2 nr d2] 37)).trans (Ext.alloc _ (.cells #[.int .i64 0, .int .i64 0, .int .i64 0, .int .i64 0, .int .i64 0, .int .i64 0, .int .i64 0] 164))
  go_enter Tryz.func125, Tryz.ntmps125
  go_wp2_with (first
    | (refine wpList_store_row rfl 164 (.tmp 2) (.tmp 17) rfl _ _ rfl rfl 164 _ (heap_new_at _ _ (by first | rfl | simp)) (by kernel_rfl) rfl (by simp [Value.oneCell']) ?_))
  refine bodyPost_ret (results_cell_row rfl _ _ (w.heap.size + 1) 164 _ (0, 0) _ rfl (setRow_heap _ _ _ _ _ _ (heap_new_at _ _ (by simp))) Tryz.underlying164 rfl (by kernel_rfl)) rfl ?_
  exact ⟨by rfl, below_setRow e0 (by simp) _⟩
set_option maxHeartbeats 4000000 in
theorem tsame_c : TSameC 124 := by
  intro V F U G w h k f1 f2 g1 g2
  obtain ⟨W2, hW2, e0, HX⟩ : ∃ W2, W2 = (w.alloc (.cells (telC V F) 37)).alloc (.cells (telC U G) 37) ∧ Ext w W2 ∧ Hid (∀ W, Ext W2 W → W.heap[w.heap.size]? = some (.cells (telC V F) 37 (0, 0)) ∧ W.heap[w.heap.size + 1]? = some (.cells (telC U G) 37 (0, 0))) :=
    ⟨_, rfl, (Ext.alloc w _).trans (Ext.alloc _ _), Lib.hid fun W x => ⟨x.block ((heap_alloc_old _ _ (by simp)).trans (heap_alloc_new w _)), x.block (heap_new_at _ _ (by simp))⟩⟩
  have HC := Lib.hid (fun W (x : Ext W2 W) => (⟨cell_of_heap (HX.out W x).1 rfl, cell_of_heap (HX.out W x).2 rfl, cell_of_heap (HX.out W x).1 rfl, cell_of_heap (HX.out W x).2 rfl⟩ : W.cell? ⟨w.heap.size, 7, none⟩ = some (.slice V.a1 F.nb V.d1) ∧ W.cell? ⟨w.heap.size + 1, 7, none⟩ = some (.slice U.a1 G.nb U.d1) ∧ W.cell? ⟨w.heap.size, 8, none⟩ = some (.slice V.a2 F.nr V.d2) ∧ W.cell? ⟨w.heap.size + 1, 8, none⟩ = some (.slice U.a2 G.nr U.d2)))
  have K1 := Lib.hid (fun w' (hx : Ext w w') => (sleqbool_any V.a1 U.a1 F.nb G.nb V.d1 U.d1 F.B G.B w' (h.h1.ext hx) (k.h1.ext hx) f1 g1).mono fun _ _ h => (⟨h.1, Ext.of_drewN h.2⟩ : _ ∧ Ext w' _))
  have K2 := Lib.hid (fun w' (hx : Ext w w') => (slequint16_any V.a2 U.a2 F.nr G.nr V.d2 U.d2 F.R G.R w' (h.h2.ext hx) (k.h2.ext hx) f2 g2).mono fun _ _ h => (⟨h.1, Ext.of_drewN h.2⟩ : _ ∧ Ext w' _))
  have hq := fun w => tnums_run F G w
  have hg := fun x y xs ys w => tnums_guard x y xs ys w
  unfold sameT
  generalize eqG F.nb G.nb F.B G.B = B1 at K1 ⊢
  generalize eqB F.nr G.nr F.R G.R = B2 at K2 ⊢
  generalize numsT F G = D at hq ⊢
  clear h k f1 f2 g1 g2
  cases D with
  | false =>
    rw [Bool.false_and, Bool.false_and]
    go_enter Tryz.func124, Tryz.ntmps124
    go_wp2_with fail
    rw [← hW2]
    clear hW2
    have hs : Ext W2 W2.drew := Ext.drew _
    refine wp_region_held_drew (S := fun W => Ext W2 W) (by kernel_rfl) hs (fun _ => ?_)
    refine wpAnyH_takeD (i := 0) (d := 5) rfl rfl (by kernel_rfl) (by kernel_rfl) (by kernel_rfl) (fun _ _ _ h => h) (yieldsIf_load_row (by rfl) 37 (.tmp 2) rfl (w.heap.size) rfl 37 _ (0, 0) _ (fun w' hw' => (HX.out _ hw').1) Tryz.underlying37 rfl (by kernel_rfl)) hs ?_
    simp only [Act.put, tkA, tkB, tkC]
    refine wpAnyH_takeD (i := 2) (d := 7) rfl rfl (by kernel_rfl) (by kernel_rfl) (by kernel_rfl) (fun _ _ _ h => h) (yieldsIf_load_row (by rfl) 37 (.tmp 3) rfl (w.heap.size + 1) rfl 37 _ (0, 0) _ (fun w' hw' => (HX.out _ hw').2) Tryz.underlying37 rfl (by kernel_rfl)) hs ?_
    simp only [Act.put, tkA, tkB, tkC]
    refine wpAnyH_ready (rs := [1]) (by kernel_rfl) (by simp) (AllReadyH.cons rfl (fun K hK => ?_) AllReadyH.nil)
    go_simp
    go_at_call 125
    refine (tnumbers_v V F _).mono ?_; rintro e Wc ⟨rfl, y⟩
    go_wp2_with fail
    refine hK.out _ _ (hs.trans y) (fun hs => ?_)
    clear hK K y
    refine wpAnyH_ready (rs := [3]) (by kernel_rfl) (by simp) (AllReadyH.cons rfl (fun K hK => ?_) AllReadyH.nil)
    go_simp
    go_at_call 125
    refine (tnumbers_v U G _).mono ?_; rintro e Wc ⟨rfl, y⟩
    go_wp2_with fail
    refine hK.out _ _ (hs.trans y) (fun hs => ?_)
    clear hK K y
    refine tkG 4 9 (.bool false) hs ?_
    simp only [Act.put, tkA, tkB, tkC]
    refine tkG 5 10 (.bool false) hs ?_
    simp only [Act.put, tkA, tkB, tkC]
    refine tkU 6 11 hs ?_
    simp only [Act.put, tkA, tkB, tkC]
    refine tkU 7 12 hs ?_
    simp only [Act.put, tkA, tkB, tkC]
    refine tkU 8 13 hs ?_
    simp only [Act.put, tkA, tkB, tkC]
    refine tkU 9 14 hs ?_
    simp only [Act.put, tkA, tkB, tkC]
    refine tkU 10 15 hs ?_
    simp only [Act.put, tkA, tkB, tkC]
    refine tkG 11 16 (.bool false) hs ?_
    simp only [Act.put, tkA, tkB, tkC]
    refine tkG 12 17 (.bool false) hs ?_
    simp only [Act.put, tkA, tkB, tkC]
    refine tkU 13 18 hs ?_
    simp only [Act.put, tkA, tkB, tkC]
    refine tkU 14 19 hs ?_
    simp only [Act.put, tkA, tkB, tkC]
    refine tkU 15 20 hs ?_
    simp only [Act.put, tkA, tkB, tkC]
    refine tkU 16 21 hs ?_
    simp only [Act.put, tkA, tkB, tkC]
    refine tkU 17 22 hs ?_
    simp only [Act.put, tkA, tkB, tkC]
    refine tkG 18 23 (.bool false) hs ?_
    simp only [Act.put, tkA, tkB, tkC]
    refine tkG 19 4 (.bool false) hs ?_
    simp only [Act.put, tkA, tkB, tkC]
    refine wpAnyH_done (by kernel_rfl) ?_ _
    go_wp2
    go_ret
    exact ⟨rfl, e0.trans hs⟩
  | true =>
   cases B1 with
   | false =>
    rw [Bool.true_and, Bool.false_and]
    go_enter Tryz.func124, Tryz.ntmps124
    go_wp2_with fail
    rw [← hW2]
    clear hW2
    have hs : Ext W2 W2.drew := Ext.drew _
    refine wp_region_held_drew (S := fun W => Ext W2 W) (by kernel_rfl) hs (fun _ => ?_)
    refine wpAnyH_takeD (i := 0) (d := 5) rfl rfl (by kernel_rfl) (by kernel_rfl) (by kernel_rfl) (fun _ _ _ h => h) (yieldsIf_load_row (by rfl) 37 (.tmp 2) rfl (w.heap.size) rfl 37 _ (0, 0) _ (fun w' hw' => (HX.out _ hw').1) Tryz.underlying37 rfl (by kernel_rfl)) hs ?_
    simp only [Act.put, tkA, tkB, tkC]
    refine wpAnyH_takeD (i := 2) (d := 7) rfl rfl (by kernel_rfl) (by kernel_rfl) (by kernel_rfl) (fun _ _ _ h => h) (yieldsIf_load_row (by rfl) 37 (.tmp 3) rfl (w.heap.size + 1) rfl 37 _ (0, 0) _ (fun w' hw' => (HX.out _ hw').2) Tryz.underlying37 rfl (by kernel_rfl)) hs ?_
    simp only [Act.put, tkA, tkB, tkC]
    refine wpAnyH_ready (rs := [1]) (by kernel_rfl) (by simp) (AllReadyH.cons rfl (fun K hK => ?_) AllReadyH.nil)
    go_simp
    go_at_call 125
    refine (tnumbers_v V F _).mono ?_; rintro e Wc ⟨rfl, y⟩
    go_wp2_with fail
    refine hK.out _ _ (hs.trans y) (fun hs => ?_)
    clear hK K y
    refine wpAnyH_ready (rs := [3]) (by kernel_rfl) (by simp) (AllReadyH.cons rfl (fun K hK => ?_) AllReadyH.nil)
    go_simp
    go_at_call 125
    refine (tnumbers_v U G _).mono ?_; rintro e Wc ⟨rfl, y⟩
    go_wp2_with fail
    refine hK.out _ _ (hs.trans y) (fun hs => ?_)
    clear hK K y
    refine tkG 4 9 (.bool true) hs ?_
    simp only [Act.put, tkA, tkB, tkC]
    refine tkG 5 10 (.bool true) hs ?_
    simp only [Act.put, tkA, tkB, tkC]
    refine tkG 6 11 (.pointer (some ⟨w.heap.size, 7, none⟩)) hs ?_
    simp only [Act.put, tkA, tkB, tkC]
    refine tkY 7 12 (.slice V.a1 F.nb V.d1) hs ?_ (y := fun W hW => by obtain ⟨c1, c2, c3, c4⟩ := HC.out W hW; go_simp)
    simp only [Act.put, tkA, tkB, tkC]
    refine tkG 8 13 (.pointer (some ⟨w.heap.size + 1, 7, none⟩)) hs ?_
    simp only [Act.put, tkA, tkB, tkC]
    refine tkY 9 14 (.slice U.a1 G.nb U.d1) hs ?_ (y := fun W hW => by obtain ⟨c1, c2, c3, c4⟩ := HC.out W hW; go_simp)
    simp only [Act.put, tkA, tkB, tkC]
    refine wpAnyH_ready (rs := [10]) (by kernel_rfl) (by simp) (AllReadyH.cons rfl (fun K hK => ?_) AllReadyH.nil)
    go_simp
    go_at_call 96
    refine (K1.out _ (e0.trans hs)).mono ?_; rintro e Wc ⟨rfl, y⟩
    go_wp2_with fail
    refine hK.out _ _ (hs.trans y) (fun hs => ?_)
    clear hK K y
    refine tkG 11 16 (.bool false) hs ?_
    simp only [Act.put, tkA, tkB, tkC]
    refine tkG 12 17 (.bool false) hs ?_
    simp only [Act.put, tkA, tkB, tkC]
    refine tkU 13 18 hs ?_
    simp only [Act.put, tkA, tkB, tkC]
    refine tkU 14 19 hs ?_
    simp only [Act.put, tkA, tkB, tkC]
    refine tkU 15 20 hs ?_
    simp only [Act.put, tkA, tkB, tkC]
    refine tkU 16 21 hs ?_
    simp only [Act.put, tkA, tkB, tkC]
    refine tkU 17 22 hs ?_
    simp only [Act.put, tkA, tkB, tkC]
    refine tkG 18 23 (.bool false) hs ?_
    simp only [Act.put, tkA, tkB, tkC]
    refine tkG 19 4 (.bool false) hs ?_
    simp only [Act.put, tkA, tkB, tkC]
    refine wpAnyH_done (by kernel_rfl) ?_ _
    go_wp2
    go_ret
    exact ⟨rfl, e0.trans hs⟩
   | true =>
    rw [Bool.true_and, Bool.true_and]
    go_enter Tryz.func124, Tryz.ntmps124
    go_wp2_with fail
    rw [← hW2]
    clear hW2
    have hs : Ext W2 W2.drew := Ext.drew _
    refine wp_region_held_drew (S := fun W => Ext W2 W) (by kernel_rfl) hs (fun _ => ?_)
    refine wpAnyH_takeD (i := 0) (d := 5) rfl rfl (by kernel_rfl) (by kernel_rfl) (by kernel_rfl) (fun _ _ _ h => h) (yieldsIf_load_row (by rfl) 37 (.tmp 2) rfl (w.heap.size) rfl 37 _ (0, 0) _ (fun w' hw' => (HX.out _ hw').1) Tryz.underlying37 rfl (by kernel_rfl)) hs ?_
    simp only [Act.put, tkA, tkB, tkC]
    refine wpAnyH_takeD (i := 2) (d := 7) rfl rfl (by kernel_rfl) (by kernel_rfl) (by kernel_rfl) (fun _ _ _ h => h) (yieldsIf_load_row (by rfl) 37 (.tmp 3) rfl (w.heap.size + 1) rfl 37 _ (0, 0) _ (fun w' hw' => (HX.out _ hw').2) Tryz.underlying37 rfl (by kernel_rfl)) hs ?_
    simp only [Act.put, tkA, tkB, tkC]
    refine wpAnyH_ready (rs := [1]) (by kernel_rfl) (by simp) (AllReadyH.cons rfl (fun K hK => ?_) AllReadyH.nil)
    go_simp
    go_at_call 125
    refine (tnumbers_v V F _).mono ?_; rintro e Wc ⟨rfl, y⟩
    go_wp2_with fail
    refine hK.out _ _ (hs.trans y) (fun hs => ?_)
    clear hK K y
    refine wpAnyH_ready (rs := [3]) (by kernel_rfl) (by simp) (AllReadyH.cons rfl (fun K hK => ?_) AllReadyH.nil)
    go_simp
    go_at_call 125
    refine (tnumbers_v U G _).mono ?_; rintro e Wc ⟨rfl, y⟩
    go_wp2_with fail
    refine hK.out _ _ (hs.trans y) (fun hs => ?_)
    clear hK K y
    refine tkG 4 9 (.bool true) hs ?_
    simp only [Act.put, tkA, tkB, tkC]
    refine tkG 5 10 (.bool true) hs ?_
    simp only [Act.put, tkA, tkB, tkC]
    refine tkG 6 11 (.pointer (some ⟨w.heap.size, 7, none⟩)) hs ?_
    simp only [Act.put, tkA, tkB, tkC]
    refine tkY 7 12 (.slice V.a1 F.nb V.d1) hs ?_ (y := fun W hW => by obtain ⟨c1, c2, c3, c4⟩ := HC.out W hW; go_simp)
    simp only [Act.put, tkA, tkB, tkC]
    refine tkG 8 13 (.pointer (some ⟨w.heap.size + 1, 7, none⟩)) hs ?_
    simp only [Act.put, tkA, tkB, tkC]
    refine tkY 9 14 (.slice U.a1 G.nb U.d1) hs ?_ (y := fun W hW => by obtain ⟨c1, c2, c3, c4⟩ := HC.out W hW; go_simp)
    simp only [Act.put, tkA, tkB, tkC]
    refine wpAnyH_ready (rs := [10]) (by kernel_rfl) (by simp) (AllReadyH.cons rfl (fun K hK => ?_) AllReadyH.nil)
    go_simp
    go_at_call 96
    refine (K1.out _ (e0.trans hs)).mono ?_; rintro e Wc ⟨rfl, y⟩
    go_wp2_with fail
    refine hK.out _ _ (hs.trans y) (fun hs => ?_)
    clear hK K y
    refine tkG 11 16 (.bool true) hs ?_
    simp only [Act.put, tkA, tkB, tkC]
    refine tkG 12 17 (.bool true) hs ?_
    simp only [Act.put, tkA, tkB, tkC]
    refine tkG 13 18 (.pointer (some ⟨w.heap.size, 8, none⟩)) hs ?_
    simp only [Act.put, tkA, tkB, tkC]
    refine tkY 14 19 (.slice V.a2 F.nr V.d2) hs ?_ (y := fun W hW => by obtain ⟨c1, c2, c3, c4⟩ := HC.out W hW; go_simp)
    simp only [Act.put, tkA, tkB, tkC]
    refine tkG 15 20 (.pointer (some ⟨w.heap.size + 1, 8, none⟩)) hs ?_
    simp only [Act.put, tkA, tkB, tkC]
    refine tkY 16 21 (.slice U.a2 G.nr U.d2) hs ?_ (y := fun W hW => by obtain ⟨c1, c2, c3, c4⟩ := HC.out W hW; go_simp)
    simp only [Act.put, tkA, tkB, tkC]
    refine wpAnyH_ready (rs := [17]) (by kernel_rfl) (by simp) (AllReadyH.cons rfl (fun K hK => ?_) AllReadyH.nil)
    go_simp
    go_at_call 98
    refine (K2.out _ (e0.trans hs)).mono ?_; rintro e Wc ⟨rfl, y⟩
    go_wp2_with fail
    refine hK.out _ _ (hs.trans y) (fun hs => ?_)
    clear hK K y
    refine tkG 18 23 (.bool B2) hs ?_
    simp only [Act.put, tkA, tkB, tkC]
    refine tkG 19 4 (.bool B2) hs ?_
    simp only [Act.put, tkA, tkB, tkC]
    refine wpAnyH_done (by kernel_rfl) ?_ _
    go_wp2
    go_ret
    exact ⟨rfl, e0.trans hs⟩
set_option maxHeartbeats 2000000 in
theorem refuses_v {c : Int} {B : Bool} (hB : inB c 1 4 = B) (w : World) : Calls Tryz.prog 84 #[.int .i64 c] w fun e w' => e = .returned (.bool B) ∧ w' = w := by
  subst hB
  by_cases h1 : 1 ≤ c
  · have d1 : decide (1 ≤ c) = true := decide_eq_true h1
    obtain ⟨D, hD⟩ : ∃ D, decide (c ≤ 4) = D := ⟨_, rfl⟩
    have hR : inB c 1 4 = D := by unfold inB; rw [← hD]; simp [h1]
    rw [hR]
    clear h1 hR
    cases D <;>
    · go_enter Tryz.func84, Tryz.ntmps84
      go_wp2
      go_ret
      exact ⟨rfl, rfl⟩
  · have d1 : decide (1 ≤ c) = false := decide_eq_false h1
    have hR : inB c 1 4 = false := by unfold inB; exact decide_eq_false (fun h => h1 h.1)
    rw [hR]
    clear h1 hR
    go_enter Tryz.func84, Tryz.ntmps84
    go_wp2
    go_ret
    exact ⟨rfl, rfl⟩
set_option maxHeartbeats 2000000 in
theorem tref_c : TRefC 46 := by
  intro k c w
  have KR := fun w => refuses_v (c := c) rfl w
  by_cases h1 : k < 1
  · rw [show refB k c = false from by unfold refB; exact decide_eq_false (by omega), if_neg (by decide), if_neg (by decide)]
    have d1 : decide (k < 1) = true := decide_eq_true h1
    clear h1 KR
    go_enter Tryz.func46, Tryz.ntmps46
    go_wp2
    go_ret2
    exact ⟨none, 0, by rfl, .inl rfl, Ext.refl _⟩
  have d1 : decide (k < 1) = false := decide_eq_false h1
  by_cases h2 : 128 ≤ k
  · rw [show refB k c = false from by unfold refB; exact decide_eq_false (by omega), if_neg (by decide), if_neg (by decide)]
    have d2 : decide (128 ≤ k) = true := decide_eq_true h2
    clear h1 h2 KR
    go_enter Tryz.func46, Tryz.ntmps46
    go_wp2
    go_ret2
    exact ⟨none, 0, by rfl, .inl rfl, Ext.refl _⟩
  have d2 : decide (128 ≤ k) = false := decide_eq_false h2
  obtain ⟨R, hR⟩ : ∃ R, inB c 1 4 = R := ⟨_, rfl⟩
  rw [show refB k c = R from by rw [← hR]; unfold refB inB; rw [decide_eq_decide]; omega]
  rw [hR] at KR
  have wc := Lib.hid (fun h : R = true => (by have h4 := hR.trans h; unfold inB at h4; have h5 := of_decide_eq_true h4; exact w8 (by omega) : IntKind.u8.wrap c = c))
  have w1 : IntKind.i64.wrap (128 + k) = 128 + k := IntWalk.i64_in _ (by omega)
  have w2 : IntKind.u8.wrap (128 + k) = 128 + k := w8 (by omega)
  clear h1 h2 hR
  cases R with
  | false =>
    rw [if_neg (by decide), if_neg (by decide)]
    go_enter Tryz.func46, Tryz.ntmps46
    go_wp2_with (first | (go_at_call 84; refine (KR _).mono ?_; rintro e W ⟨rfl, rfl⟩))
    go_ret2
    exact ⟨none, 0, by rfl, .inl rfl, Ext.refl _⟩
  | true =>
    rw [if_pos rfl, if_pos rfl]
    have w3 := wc.out rfl
    clear wc
    go_enter Tryz.func46, Tryz.ntmps46
    go_wp2_with (first | (go_at_call 84; refine (KR _).mono ?_; rintro e W ⟨rfl, rfl⟩))
    go_ret2
    refine ⟨some ⟨_, 0, none⟩, 2, by rfl, HoldsG.new _ _ _ 2 _ (fun i hi => ?_), Ext.alloc _ _⟩
    have h : i = 0 ∨ i = 1 := by omega
    rcases h with rfl | rfl
    · exact congrArg (fun z => some (Value.int .u8 z)) (Int.add_comm 128 k)
    · rfl
end Go.Proofs.YtlafnobjfajamaaGreat
namespace Go.Proofs.YtlafnobjfajamaaGreat
open Go.RowKit
set_option linter.unusedVariables false
set_option maxRecDepth 100000

theorem whole_nb (Q : Qst) (nb : Nat) (B : Nat → Bool) (nr : Nat) (R : Nat → Int) : (wholeT Q nb B nr R).nb = (if Q.k = 1 ∨ Q.k = 2 then nb else 0) ∧ (wholeT Q nb B nr R).nr = (if Q.k = 1 ∨ Q.k = 2 then 0 else if Q.k = 3 ∨ Q.k = 4 ∨ Q.k = 23 then nr else 0) := by
  unfold wholeT
  repeat' split
  all_goals exact ⟨rfl, rfl⟩
theorem whole_fun (Q : Qst) (nb : Nat) (B : Nat → Bool) (nr : Nat) (R : Nat → Int) : (∀ i, i < (wholeT Q nb B nr R).nb → (wholeT Q nb B nr R).B i = B i) ∧ (∀ i, i < (wholeT Q nb B nr R).nr → (wholeT Q nb B nr R).R i = R i) := by
  unfold wholeT
  repeat' split
  all_goals exact ⟨fun i hi => by first | rfl | exact absurd hi (Nat.not_lt_zero i), fun i hi => by first | rfl | exact absurd hi (Nat.not_lt_zero i)⟩
theorem whole_nums (Q : Qst) (nb nb' : Nat) (B B' : Nat → Bool) (nr nr' : Nat) (R R' : Nat → Int) (T : Tel) : numsT T (wholeT Q nb B nr R) = numsT T (wholeT Q nb' B' nr' R') := by
  unfold wholeT
  repeat' split
  all_goals rfl
theorem right_low {Q : Qst} {T : Tel} (hr : rightQ Q = true) (hc : inB T.cd 1 4 = false) : rightT Q T = (numsT T (replT Q) && ((T.nb : Int) == ((replT Q).nb : Int)) && ((T.nr : Int) == ((replT Q).nr : Int))) := by
  rw [tright_yes hr]
  by_cases h0 : T.cd = 0
  · rw [if_pos h0, Bool.eq_iff_iff, Bool.and_eq_true, sameT_iff, Bool.and_eq_true, Bool.and_eq_true, beq_iff_eq, beq_iff_eq]
    obtain ⟨hkn, -, -, hf⟩ := (rightQ_iff Q).1 hr
    have hk := (known_iff Q.k).1 hkn
    obtain ⟨w1, w2⟩ := whole_nb Q T.nb T.B T.nr T.R
    obtain ⟨w3, w4⟩ := whole_fun Q T.nb T.B T.nr T.R
    have w5 := whole_nums Q T.nb Q.ct.toNat T.B (fun _ => false) T.nr (if Q.k = 23 then Q.mn.toNat else Q.ct.toNat) T.R (fun _ => 0) T
    obtain ⟨w6, w7⟩ := whole_nb Q Q.ct.toNat (fun _ => false) (if Q.k = 23 then Q.mn.toNat else Q.ct.toNat) (fun _ => 0)
    have hkey : (T.nb = (wholeT Q T.nb T.B T.nr T.R).nb ∧ T.nr = (wholeT Q T.nb T.B T.nr T.R).nr ∧ cntB Q T = true) ↔ ((T.nb : Int) = ((replT Q).nb : Int) ∧ (T.nr : Int) = ((replT Q).nr : Int)) := by
      unfold replT
      rw [w1, w2, w6, w7]
      unfold cntB
      unfold fitsB at hf
      clear w1 w2 w3 w4 w5 w6 w7
      rcases hk with hk | hk | hk | hk | hk | hk | hk | hk | hk | hk <;>
      · simp (config := { decide := true }) only [hk, if_true, if_false, Bool.and_eq_true, inB_iff, decide_eq_true_iff, true_and, and_true, or_true, or_false] at hf ⊢
        first | trivial | omega
    constructor
    · rintro ⟨ha, hn⟩
      obtain ⟨k1, k2⟩ := hkey.1 ⟨ha.nb, ha.nr, hn⟩
      refine ⟨⟨?_, k1⟩, k2⟩
      unfold replT
      rw [← w5, numsT_iff]
      exact ⟨ha.k, ha.cd, ha.ad, ha.ct, ha.va, ha.an, ha.oo⟩
    · rintro ⟨⟨h1, k1⟩, k2⟩
      obtain ⟨e1, e2, e3⟩ := hkey.2 ⟨k1, k2⟩
      unfold replT at h1
      rw [← w5, numsT_iff] at h1
      obtain ⟨a1, a2, a3, a4, a5, a6, a7⟩ := h1
      exact ⟨⟨a1, a2, a3, a4, a5, a6, a7, e1, fun i hi => (w3 i (by rw [← e1]; exact hi)).symm, e2, fun i hi => (w4 i (by rw [← e2]; exact hi)).symm⟩, e3⟩
  · rw [if_neg h0, hc, Bool.false_and]
    have hn : numsT T (replT Q) = false := by
      cases h : numsT T (replT Q) with
      | false => rfl
      | true => exact absurd (((numsT_iff _ _).1 h).2.1.trans (whole_k Q _ _ _ _).2.1) h0
    rw [hn, Bool.false_and, Bool.false_and]
theorem right_high {Q : Qst} {T : Tel} (hr : rightQ Q = true) (hc : inB T.cd 1 4 = true) : rightT Q T = sameT T { zeroT with k := Q.k, cd := T.cd } := by
  rw [tright_yes hr, if_neg (by rw [inB_iff] at hc; omega), hc, Bool.true_and]
theorem told_field (w : World) (X : QstV) (T : Tel) (b : Option Addr) (n q : Nat) : (Instr.field 131 (.agg (repC X T b n q)) 0).run Tryz.prog w = .ok (.agg (telC X T)) w := by kernel_rfl
theorem again_field (w : World) (X : QstV) (T : Tel) (b : Option Addr) (n q : Nat) : (Instr.field 131 (.agg (repC X T b n q)) 1).run Tryz.prog w = .ok (.slice b n q) w := by kernel_rfl
set_option maxHeartbeats 4000000 in
theorem tright_c : TRightC 85 := by
  intro V Q U T w hQ hW n1 n2 hT m1 m2
  obtain ⟨W2, hW2, e0, HX⟩ : ∃ W2, W2 = (w.alloc (.cells (qstC V Q) 31)).alloc (.cells (telC U T) 37) ∧ Ext w W2 ∧ Hid (∀ W, Ext W2 W → W.heap[w.heap.size]? = some (.cells (qstC V Q) 31 (0, 0)) ∧ W.heap[w.heap.size + 1]? = some (.cells (telC U T) 37 (0, 0))) :=
    ⟨_, rfl, (Ext.alloc w _).trans (Ext.alloc _ _), Lib.hid fun W x => ⟨x.block ((heap_alloc_old _ _ (by simp)).trans (heap_alloc_new w _)), x.block (heap_new_at _ _ (by simp))⟩⟩
  have HQ := Lib.hid hQ
  have HT := Lib.hid hT
  have HK := Lib.hid (fun W (x : Ext W2 W) => (⟨cell_of_heap (HX.out W x).1 rfl, cell_of_heap (HX.out W x).2 rfl⟩ : W.cell? ⟨w.heap.size, 0, none⟩ = some (.int .i64 Q.k) ∧ W.cell? ⟨w.heap.size + 1, 1, none⟩ = some (.int .i64 T.cd)))
  have r0 := (HX.out W2 (Ext.refl _)).1
  have KR := Lib.hid (fun W (x : Ext w W) => aright_any V Q W (HQ.out.ext x) n1 n2)
  clear hQ hT
  obtain ⟨D, hD⟩ : ∃ D, rightQ Q = D := ⟨_, rfl⟩
  rw [hD] at KR
  cases D with
  | false =>
    rw [show rightT Q T = false from by unfold rightT; rw [hD, Bool.false_and]]
    clear hD
    go_enter Tryz.func85, Tryz.ntmps85
    go_upto_region 1 with fail
    rw [← hW2]
    clear hW2
    go_wp2_with (first
      | (refine wpList_load_row rfl 31 (.tmp 2) rfl w.heap.size rfl 31 _ (0, 0) _ r0 Tryz.underlying31 rfl (by kernel_rfl) ?_)
      | (go_at_call 32; refine (KR.out _ e0).mono ?_; rintro e w3 ⟨rfl, x3⟩))
    go_ret
    exact ⟨rfl, e0.trans x3⟩
  | true =>
    obtain ⟨C, hC⟩ : ∃ C, inB T.cd 1 4 = C := ⟨_, rfl⟩
    have KF := Lib.hid (fun W => refuses_v hC W)
    cases C with
    | true =>
      rw [right_high hD hC]
      have KS := Lib.hid (fun W (x : Ext w W) => tsame_c U T zeroQV { zeroT with k := Q.k, cd := T.cd } W (HT.out.ext x) (telnone_at W rfl rfl) m1 m2 (Nat.zero_le _) (Nat.zero_le _))
      clear hD hC
      go_enter Tryz.func85, Tryz.ntmps85
      go_upto_region 1 with fail
      rw [← hW2]
      clear hW2
      go_upto_region 3 with (first
        | (refine wpList_load_row rfl 31 (.tmp 2) rfl w.heap.size rfl 31 _ (0, 0) _ r0 Tryz.underlying31 rfl (by kernel_rfl) ?_)
        | (go_at_call 32; refine (KR.out _ e0).mono ?_; rintro e w3 ⟨rfl, x3⟩))
      obtain ⟨g0, g1⟩ := HX.out _ x3
      obtain ⟨c0, c1⟩ := HK.out _ x3
      go_wp2_with (first
        | (go_at_call 84; refine (KF.out _).mono ?_; rintro e w4 ⟨rfl, rfl⟩)
        | (refine wpList_load_row rfl 37 (.tmp 3) rfl (w.heap.size + 1) rfl 37 _ (0, 0) _ g1 Tryz.underlying37 rfl (by kernel_rfl) ?_)
        | (go_at_call 124; refine (KS.out _ (e0.trans x3)).mono ?_; rintro e w5 ⟨rfl, x5⟩))
      go_ret
      exact ⟨rfl, (e0.trans x3).trans x5⟩
    | false =>
      rw [right_low hD hC]
      have hq := fun w => tnums_run T (replT Q) w
      have hg := fun x y xs ys w => tnums_guard x y xs ys w
      obtain ⟨E1, hE1⟩ : ∃ E1, ((T.nb : Int) == ((replT Q).nb : Int)) = E1 := ⟨_, rfl⟩
      obtain ⟨E2, hE2⟩ : ∃ E2, ((T.nr : Int) == ((replT Q).nr : Int)) = E2 := ⟨_, rfl⟩
      rw [hE1, hE2]
      obtain ⟨D, hDD⟩ : ∃ D, numsT T (replT Q) = D := ⟨_, rfl⟩
      rw [hDD]
      rw [hDD] at hq
      clear hDD
      have KY := Lib.hid (fun W => reply_any V Q W hD)
      clear hD hC
      have hfd := fun w X b n q => told_field w X (replT Q) b n q
      go_enter Tryz.func85, Tryz.ntmps85
      go_upto_region 1 with fail
      rw [← hW2]
      clear hW2
      go_upto_region 3 with (first
        | (refine wpList_load_row rfl 31 (.tmp 2) rfl w.heap.size rfl 31 _ (0, 0) _ r0 Tryz.underlying31 rfl (by kernel_rfl) ?_)
        | (go_at_call 32; refine (KR.out _ e0).mono ?_; rintro e w3 ⟨rfl, x3⟩))
      obtain ⟨g0, g1⟩ := HX.out _ x3
      obtain ⟨c0, c1⟩ := HK.out _ x3
      go_upto_region 6 with (first
        | (go_at_call 84; refine (KF.out _).mono ?_; rintro e w4 ⟨rfl, rfl⟩)
        | (refine wpList_load_row rfl 31 (.tmp 2) rfl w.heap.size rfl 31 _ (0, 0) _ g0 Tryz.underlying31 rfl (by kernel_rfl) ?_)
        | (go_at_call 87; refine (KY.out _).mono ?_; rintro e w5 ⟨⟨X, b5, q5, rfl, ht5, -⟩, x5⟩)
        | (refine wpList_store_row rfl 37 (.tmp 5) (.tmp 21) rfl w5.heap.size _ rfl rfl 37 _ (heap_alloc_new w5 _) (by kernel_rfl) rfl (by simp [telC, Value.oneCell']) ?_))
      obtain ⟨W6, hW6, x6, g6⟩ : ∃ W6, W6 = (w5.alloc (.cells #[.int .i64 0, .int .i64 0, .int .i64 0, .int .i64 0, .int .i64 0, .int .i64 0, .int .i64 0, .slice none 0 0, .slice none 0 0] 37)).setRow w5.heap.size (telC X (replT Q)) ∧ Ext w5 W6 ∧ W6.heap[w5.heap.size]? = some (.cells (telC X (replT Q)) 37 (0, 0)) := ⟨_, rfl, (told_row _ _ _ _).1, (told_row _ _ _ _).2⟩
      rw [← hW6]
      clear hW6
      have HR := Lib.hid (fun W (hx : Ext W6 W) => (⟨((x5.trans x6).trans hx).block g1, hx.block g6⟩ : W.heap[w.heap.size + 1]? = some (.cells (telC U T) 37 (0, 0)) ∧ W.heap[w5.heap.size]? = some (.cells (telC X (replT Q)) 37 (0, 0))))
      have HC := Lib.hid (fun W (hx : Ext W6 W) => (⟨cell_of_heap (HR.out W hx).1 rfl, cell_of_heap (HR.out W hx).2 rfl, cell_of_heap (HR.out W hx).1 rfl, cell_of_heap (HR.out W hx).2 rfl⟩ : W.cell? ⟨w.heap.size + 1, 7, none⟩ = some (.slice U.a1 T.nb U.d1) ∧ W.cell? ⟨w5.heap.size, 7, none⟩ = some (.slice X.a1 (replT Q).nb X.d1) ∧ W.cell? ⟨w.heap.size + 1, 8, none⟩ = some (.slice U.a2 T.nr U.d2) ∧ W.cell? ⟨w5.heap.size, 8, none⟩ = some (.slice X.a2 (replT Q).nr X.d2)))
      have xA := ((e0.trans x3).trans x5).trans x6
      have hs : Ext W6 W6.drew := Ext.drew _
      clear g0 g1 c0 c1 x3 x5 x6 g6 ht5 KF KR KY HX HK r0 hfd e0
      cases D with
      | false =>
        refine wp_region_held_drew (S := fun W => Ext W6 W) (by kernel_rfl) hs (fun _ => ?_)
        refine wpAnyH_takeD (i := 0) (d := 22) rfl rfl (by kernel_rfl) (by kernel_rfl) (by kernel_rfl) (fun _ _ _ h => h) (yieldsIf_load_row (by rfl) 37 (.tmp 3) rfl (w.heap.size + 1) rfl 37 _ (0, 0) _ (fun w' hw' => (HR.out _ hw').1) Tryz.underlying37 rfl (by kernel_rfl)) hs ?_
        simp only [Act.put, tkA, tkB, tkC]
        refine wpAnyH_takeD (i := 2) (d := 24) rfl rfl (by kernel_rfl) (by kernel_rfl) (by kernel_rfl) (fun _ _ _ h => h) (yieldsIf_load_row (by rfl) 37 (.tmp 5) rfl (w5.heap.size) rfl 37 _ (0, 0) _ (fun w' hw' => (HR.out _ hw').2) Tryz.underlying37 rfl (by kernel_rfl)) hs ?_
        simp only [Act.put, tkA, tkB, tkC]
        refine wpAnyH_ready (rs := [1]) (by kernel_rfl) (by simp) (AllReadyH.cons rfl (fun K hK => ?_) AllReadyH.nil)
        go_simp
        go_at_call 125
        refine (tnumbers_v U T _).mono ?_; rintro e Wc ⟨rfl, y⟩
        go_wp2_with fail
        refine hK.out _ _ (hs.trans y) (fun hs => ?_)
        clear hK K y
        refine wpAnyH_ready (rs := [3]) (by kernel_rfl) (by simp) (AllReadyH.cons rfl (fun K hK => ?_) AllReadyH.nil)
        go_simp
        go_at_call 125
        refine (tnumbers_v X (replT Q) _).mono ?_; rintro e Wc ⟨rfl, y⟩
        go_wp2_with fail
        refine hK.out _ _ (hs.trans y) (fun hs => ?_)
        clear hK K y
        refine tkG 4 26 (.bool false) hs ?_
        simp only [Act.put, tkA, tkB, tkC]
        refine tkG 5 27 (.bool false) hs ?_
        simp only [Act.put, tkA, tkB, tkC]
        refine tkU 6 28 hs ?_
        simp only [Act.put, tkA, tkB, tkC]
        refine tkU 7 29 hs ?_
        simp only [Act.put, tkA, tkB, tkC]
        refine tkU 8 30 hs ?_
        simp only [Act.put, tkA, tkB, tkC]
        refine tkU 9 31 hs ?_
        simp only [Act.put, tkA, tkB, tkC]
        refine tkU 10 32 hs ?_
        simp only [Act.put, tkA, tkB, tkC]
        refine tkU 11 33 hs ?_
        simp only [Act.put, tkA, tkB, tkC]
        refine tkU 12 34 hs ?_
        simp only [Act.put, tkA, tkB, tkC]
        refine tkG 13 35 (.bool false) hs ?_
        simp only [Act.put, tkA, tkB, tkC]
        refine tkG 14 36 (.bool false) hs ?_
        simp only [Act.put, tkA, tkB, tkC]
        refine tkU 15 37 hs ?_
        simp only [Act.put, tkA, tkB, tkC]
        refine tkU 16 38 hs ?_
        simp only [Act.put, tkA, tkB, tkC]
        refine tkU 17 39 hs ?_
        simp only [Act.put, tkA, tkB, tkC]
        refine tkU 18 40 hs ?_
        simp only [Act.put, tkA, tkB, tkC]
        refine tkU 19 41 hs ?_
        simp only [Act.put, tkA, tkB, tkC]
        refine tkU 20 42 hs ?_
        simp only [Act.put, tkA, tkB, tkC]
        refine tkU 21 43 hs ?_
        simp only [Act.put, tkA, tkB, tkC]
        refine tkG 22 44 (.bool false) hs ?_
        simp only [Act.put, tkA, tkB, tkC]
        refine tkG 23 4 (.bool false) hs ?_
        simp only [Act.put, tkA, tkB, tkC]
        refine wpAnyH_done (by kernel_rfl) ?_ _
        go_wp2
        go_ret
        exact ⟨rfl, xA.trans hs⟩
      | true =>
       cases E1 with
       | false =>
        refine wp_region_held_drew (S := fun W => Ext W6 W) (by kernel_rfl) hs (fun _ => ?_)
        refine wpAnyH_takeD (i := 0) (d := 22) rfl rfl (by kernel_rfl) (by kernel_rfl) (by kernel_rfl) (fun _ _ _ h => h) (yieldsIf_load_row (by rfl) 37 (.tmp 3) rfl (w.heap.size + 1) rfl 37 _ (0, 0) _ (fun w' hw' => (HR.out _ hw').1) Tryz.underlying37 rfl (by kernel_rfl)) hs ?_
        simp only [Act.put, tkA, tkB, tkC]
        refine wpAnyH_takeD (i := 2) (d := 24) rfl rfl (by kernel_rfl) (by kernel_rfl) (by kernel_rfl) (fun _ _ _ h => h) (yieldsIf_load_row (by rfl) 37 (.tmp 5) rfl (w5.heap.size) rfl 37 _ (0, 0) _ (fun w' hw' => (HR.out _ hw').2) Tryz.underlying37 rfl (by kernel_rfl)) hs ?_
        simp only [Act.put, tkA, tkB, tkC]
        refine wpAnyH_ready (rs := [1]) (by kernel_rfl) (by simp) (AllReadyH.cons rfl (fun K hK => ?_) AllReadyH.nil)
        go_simp
        go_at_call 125
        refine (tnumbers_v U T _).mono ?_; rintro e Wc ⟨rfl, y⟩
        go_wp2_with fail
        refine hK.out _ _ (hs.trans y) (fun hs => ?_)
        clear hK K y
        refine wpAnyH_ready (rs := [3]) (by kernel_rfl) (by simp) (AllReadyH.cons rfl (fun K hK => ?_) AllReadyH.nil)
        go_simp
        go_at_call 125
        refine (tnumbers_v X (replT Q) _).mono ?_; rintro e Wc ⟨rfl, y⟩
        go_wp2_with fail
        refine hK.out _ _ (hs.trans y) (fun hs => ?_)
        clear hK K y
        refine tkG 4 26 (.bool true) hs ?_
        simp only [Act.put, tkA, tkB, tkC]
        refine tkG 5 27 (.bool true) hs ?_
        simp only [Act.put, tkA, tkB, tkC]
        refine tkG 6 28 (.pointer (some ⟨w.heap.size + 1, 7, none⟩)) hs ?_
        simp only [Act.put, tkA, tkB, tkC]
        refine tkY 7 29 (.slice U.a1 T.nb U.d1) hs ?_ (y := fun W hW => by obtain ⟨c1, c2, c3, c4⟩ := HC.out W hW; go_simp)
        simp only [Act.put, tkA, tkB, tkC]
        refine tkG 8 30 (.int .i64 T.nb) hs ?_
        simp only [Act.put, tkA, tkB, tkC]
        refine tkG 9 31 (.pointer (some ⟨w5.heap.size, 7, none⟩)) hs ?_
        simp only [Act.put, tkA, tkB, tkC]
        refine tkY 10 32 (.slice X.a1 (replT Q).nb X.d1) hs ?_ (y := fun W hW => by obtain ⟨c1, c2, c3, c4⟩ := HC.out W hW; go_simp)
        simp only [Act.put, tkA, tkB, tkC]
        refine tkG 11 33 (.int .i64 ((replT Q).nb : Nat)) hs ?_
        simp only [Act.put, tkA, tkB, tkC]
        refine tkG 12 34 (.bool false) hs ?_
        simp only [Act.put, tkA, tkB, tkC]
        refine tkG 13 35 (.bool false) hs ?_
        simp only [Act.put, tkA, tkB, tkC]
        refine tkG 14 36 (.bool false) hs ?_
        simp only [Act.put, tkA, tkB, tkC]
        refine tkU 15 37 hs ?_
        simp only [Act.put, tkA, tkB, tkC]
        refine tkU 16 38 hs ?_
        simp only [Act.put, tkA, tkB, tkC]
        refine tkU 17 39 hs ?_
        simp only [Act.put, tkA, tkB, tkC]
        refine tkU 18 40 hs ?_
        simp only [Act.put, tkA, tkB, tkC]
        refine tkU 19 41 hs ?_
        simp only [Act.put, tkA, tkB, tkC]
        refine tkU 20 42 hs ?_
        simp only [Act.put, tkA, tkB, tkC]
        refine tkU 21 43 hs ?_
        simp only [Act.put, tkA, tkB, tkC]
        refine tkG 22 44 (.bool false) hs ?_
        simp only [Act.put, tkA, tkB, tkC]
        refine tkG 23 4 (.bool false) hs ?_
        simp only [Act.put, tkA, tkB, tkC]
        refine wpAnyH_done (by kernel_rfl) ?_ _
        go_wp2
        go_ret
        exact ⟨rfl, xA.trans hs⟩
       | true =>
        refine wp_region_held_drew (S := fun W => Ext W6 W) (by kernel_rfl) hs (fun _ => ?_)
        refine wpAnyH_takeD (i := 0) (d := 22) rfl rfl (by kernel_rfl) (by kernel_rfl) (by kernel_rfl) (fun _ _ _ h => h) (yieldsIf_load_row (by rfl) 37 (.tmp 3) rfl (w.heap.size + 1) rfl 37 _ (0, 0) _ (fun w' hw' => (HR.out _ hw').1) Tryz.underlying37 rfl (by kernel_rfl)) hs ?_
        simp only [Act.put, tkA, tkB, tkC]
        refine wpAnyH_takeD (i := 2) (d := 24) rfl rfl (by kernel_rfl) (by kernel_rfl) (by kernel_rfl) (fun _ _ _ h => h) (yieldsIf_load_row (by rfl) 37 (.tmp 5) rfl (w5.heap.size) rfl 37 _ (0, 0) _ (fun w' hw' => (HR.out _ hw').2) Tryz.underlying37 rfl (by kernel_rfl)) hs ?_
        simp only [Act.put, tkA, tkB, tkC]
        refine wpAnyH_ready (rs := [1]) (by kernel_rfl) (by simp) (AllReadyH.cons rfl (fun K hK => ?_) AllReadyH.nil)
        go_simp
        go_at_call 125
        refine (tnumbers_v U T _).mono ?_; rintro e Wc ⟨rfl, y⟩
        go_wp2_with fail
        refine hK.out _ _ (hs.trans y) (fun hs => ?_)
        clear hK K y
        refine wpAnyH_ready (rs := [3]) (by kernel_rfl) (by simp) (AllReadyH.cons rfl (fun K hK => ?_) AllReadyH.nil)
        go_simp
        go_at_call 125
        refine (tnumbers_v X (replT Q) _).mono ?_; rintro e Wc ⟨rfl, y⟩
        go_wp2_with fail
        refine hK.out _ _ (hs.trans y) (fun hs => ?_)
        clear hK K y
        refine tkG 4 26 (.bool true) hs ?_
        simp only [Act.put, tkA, tkB, tkC]
        refine tkG 5 27 (.bool true) hs ?_
        simp only [Act.put, tkA, tkB, tkC]
        refine tkG 6 28 (.pointer (some ⟨w.heap.size + 1, 7, none⟩)) hs ?_
        simp only [Act.put, tkA, tkB, tkC]
        refine tkY 7 29 (.slice U.a1 T.nb U.d1) hs ?_ (y := fun W hW => by obtain ⟨c1, c2, c3, c4⟩ := HC.out W hW; go_simp)
        simp only [Act.put, tkA, tkB, tkC]
        refine tkG 8 30 (.int .i64 T.nb) hs ?_
        simp only [Act.put, tkA, tkB, tkC]
        refine tkG 9 31 (.pointer (some ⟨w5.heap.size, 7, none⟩)) hs ?_
        simp only [Act.put, tkA, tkB, tkC]
        refine tkY 10 32 (.slice X.a1 (replT Q).nb X.d1) hs ?_ (y := fun W hW => by obtain ⟨c1, c2, c3, c4⟩ := HC.out W hW; go_simp)
        simp only [Act.put, tkA, tkB, tkC]
        refine tkG 11 33 (.int .i64 ((replT Q).nb : Nat)) hs ?_
        simp only [Act.put, tkA, tkB, tkC]
        refine tkG 12 34 (.bool true) hs ?_
        simp only [Act.put, tkA, tkB, tkC]
        refine tkG 13 35 (.bool true) hs ?_
        simp only [Act.put, tkA, tkB, tkC]
        refine tkG 14 36 (.bool true) hs ?_
        simp only [Act.put, tkA, tkB, tkC]
        refine tkG 15 37 (.pointer (some ⟨w.heap.size + 1, 8, none⟩)) hs ?_
        simp only [Act.put, tkA, tkB, tkC]
        refine tkY 16 38 (.slice U.a2 T.nr U.d2) hs ?_ (y := fun W hW => by obtain ⟨c1, c2, c3, c4⟩ := HC.out W hW; go_simp)
        simp only [Act.put, tkA, tkB, tkC]
        refine tkG 17 39 (.int .i64 T.nr) hs ?_
        simp only [Act.put, tkA, tkB, tkC]
        refine tkG 18 40 (.pointer (some ⟨w5.heap.size, 8, none⟩)) hs ?_
        simp only [Act.put, tkA, tkB, tkC]
        refine tkY 19 41 (.slice X.a2 (replT Q).nr X.d2) hs ?_ (y := fun W hW => by obtain ⟨c1, c2, c3, c4⟩ := HC.out W hW; go_simp)
        simp only [Act.put, tkA, tkB, tkC]
        refine tkG 20 42 (.int .i64 ((replT Q).nr : Nat)) hs ?_
        simp only [Act.put, tkA, tkB, tkC]
        refine tkG 21 43 (.bool E2) hs ?_
        simp only [Act.put, tkA, tkB, tkC]
        refine tkG 22 44 (.bool E2) hs ?_
        simp only [Act.put, tkA, tkB, tkC]
        refine tkG 23 4 (.bool E2) hs ?_
        simp only [Act.put, tkA, tkB, tkC]
        refine wpAnyH_done (by kernel_rfl) ?_ _
        go_wp2
        go_ret
        exact ⟨rfl, xA.trans hs⟩
end Go.Proofs.YtlafnobjfajamaaGreat
namespace Go.Proofs.YtlafnobjfajamaaGreat
open Go.RowKit
set_option linter.unusedVariables false
set_option maxRecDepth 100000

def s17B : Fil := { zeroF with hc := 4 }
def s17F : Fil := newF s17B
def s17G : Fil := srvF s17F 5 (ofL [6, 0, 1, 0, 9])
theorem s17a : bankB s17B = true := by decide
theorem s17b : srvE s17F 5 (ofL [6, 0, 1, 0, 9]) = 0 ∧ srvN s17F 5 (ofL [6, 0, 1, 0, 9]) = 5 := by decide
theorem s17c : srvE s17G 5 (ofL [3, 0, 0, 0, 2]) = 0 ∧ srvN s17G 5 (ofL [3, 0, 0, 0, 2]) = 6 := by decide
theorem s17d : srvE s17G 5 (ofL [3, 0, 3, 0, 2]) = 0 ∧ srvN s17G 5 (ofL [3, 0, 3, 0, 2]) = 2 := by decide
theorem s17e : srvE s17G 1 (ofL [200]) = 15 := by decide
theorem s17f : codE s17G { zeroQ with k := 3, ad := 4, ct := 1 } = 2 := by decide
theorem s17g : Small s17F ∧ Small s17G := ⟨⟨by decide, by decide, by decide, by decide⟩, ⟨by decide, by decide, by decide, by decide⟩⟩
theorem s17h : FilW s17F := ⟨fun i hi => ⟨Int.le_refl 0, by show (0 : Int) < 65536; decide⟩, fun i hi => absurd hi (Nat.not_lt_zero i)⟩
theorem s17i : FilW s17G := ⟨fun i hi => by
  have h4 : i < 4 := hi
  have h : i = 0 ∨ i = 1 ∨ i = 2 ∨ i = 3 := by omega
  rcases h with rfl | rfl | rfl | rfl <;> decide, fun i hi => absurd hi (Nat.not_lt_zero i)⟩
theorem s17j : ∀ i, i < 5 → srvB s17F 5 (ofL [6, 0, 1, 0, 9]) i = ofL [6, 0, 1, 0, 9] i := fun i hi => by
  have h : i = 0 ∨ i = 1 ∨ i = 2 ∨ i = 3 ∨ i = 4 := by omega
  rcases h with rfl | rfl | rfl | rfl | rfl <;> decide
theorem s17k : ∀ i, i < 6 → srvB s17G 5 (ofL [3, 0, 0, 0, 2]) i = ofL [3, 4, 0, 0, 0, 9] i := fun i hi => by
  have h : i = 0 ∨ i = 1 ∨ i = 2 ∨ i = 3 ∨ i = 4 ∨ i = 5 := by omega
  rcases h with rfl | rfl | rfl | rfl | rfl | rfl <;> decide
theorem s17l : ∀ i, i < 2 → srvB s17G 5 (ofL [3, 0, 3, 0, 2]) i = ofL [131, 2] i := fun i hi => by
  have h : i = 0 ∨ i = 1 := by omega
  rcases h with rfl | rfl <;> decide
theorem s17w (l : List Int) (h : ∀ x ∈ l, 0 ≤ x ∧ x < 256) : ∀ i, i < l.length → 0 ≤ ofL l i ∧ ofL l i < 256 := fun i hi => by
  unfold ofL
  rw [List.getD_eq_getElem?_getD, List.getElem?_eq_getElem hi]
  exact h _ (List.getElem_mem _)
theorem s17Q : QstW { zeroQ with k := 3, ad := 4, ct := 1 } := ⟨by decide, by decide, by decide, by decide, by decide, by decide, by decide, by decide, fun i hi => absurd hi (Nat.not_lt_zero i)⟩
theorem told17b (w : World) (z cs : Array Value) (t : TypeId) : Ext w ((w.alloc (.cells z t)).setRow w.heap.size cs) ∧ ((w.alloc (.cells z t)).setRow w.heap.size cs).heap[w.heap.size]? = some (.cells cs t (0, 0)) :=
  ⟨below_setRow (Ext.alloc _ _) (Nat.le_refl _) _, setRow_heap _ _ _ _ _ _ (heap_alloc_new w _)⟩
set_option maxHeartbeats 8000000 in
theorem sure17 (w : World) (hN : FNewC 31) (hS : DServeC 21) (hW : DWritesC 14) (hC : DCodeC 13) :
    Calls Tryz.prog 11 #[] w fun e w' => e = .returned (.bool true) ∧ Ext w w' := by
  have P0 := Lib.hid (fun W => (hN s17B W).mono fun e w' h => (by rw [if_pos s17a, if_pos s17a] at h; obtain ⟨V, h1, h2, h3, _⟩ := h; exact ⟨V, h1, h2, h3⟩ : ∃ V, e = Ending.returned (.tuple #[.agg (filC V s17F), .int .i64 0]) ∧ FilAt w' V s17F ∧ Ext W w'))
  have P1 := Lib.hid (fun W V (h : FilAt W V s17F) => (hS V s17F (some ⟨W.heap.size, 0, none⟩) 5 5 (ofL [6, 0, 1, 0, 9]) (W.alloc (.cells #[.int .u8 6, .int .u8 0, .int .u8 1, .int .u8 0, .int .u8 9] 5)) (h.ext (Ext.alloc _ _)) s17h s17g.1 (Holds.lit W [6, 0, 1, 0, 9] 5 _ rfl 5 rfl) (by omega) (Nat.le_refl _) (by unfold maxLen; omega) (s17w [6, 0, 1, 0, 9] (by decide))).mono fun e w' h => (by obtain ⟨V', G, b, q, h1, h2, h3, h4, h5⟩ := h; rw [s17b.1] at h1 h2; rw [s17b.2] at h1 h4; have h2 := h2 (by decide); subst h2; exact ⟨V', b, q, h1, h3, h4, h5⟩ : ∃ V' b q, e = Ending.returned (.tuple #[.agg (filC V' s17G), .slice b 5 q, .int .i64 0]) ∧ FilAt w' V' s17G ∧ HoldsG (Value.int .u8) w' b 5 (srvB s17F 5 (ofL [6, 0, 1, 0, 9])) ∧ Ext (W.alloc (.cells #[.int .u8 6, .int .u8 0, .int .u8 1, .int .u8 0, .int .u8 9] 5)) w'))
  have P2 := Lib.hid (fun W V (h : FilAt W V s17G) => (hS V s17G (some ⟨W.heap.size, 0, none⟩) 5 5 (ofL [3, 0, 0, 0, 2]) (W.alloc (.cells #[.int .u8 3, .int .u8 0, .int .u8 0, .int .u8 0, .int .u8 2] 5)) (h.ext (Ext.alloc _ _)) s17i s17g.2 (Holds.lit W [3, 0, 0, 0, 2] 5 _ rfl 5 rfl) (by omega) (Nat.le_refl _) (by unfold maxLen; omega) (s17w [3, 0, 0, 0, 2] (by decide))).mono fun e w' h => (by obtain ⟨V', G, b, q, h1, h2, h3, h4, h5⟩ := h; rw [s17c.1] at h1 h2; rw [s17c.2] at h1 h4; have h2 := h2 (by decide); subst h2; exact ⟨V', b, q, h1, h3, h4, h5⟩ : ∃ V' b q, e = Ending.returned (.tuple #[.agg (filC V' (srvF s17G 5 (ofL [3, 0, 0, 0, 2]))), .slice b 6 q, .int .i64 0]) ∧ FilAt w' V' (srvF s17G 5 (ofL [3, 0, 0, 0, 2])) ∧ HoldsG (Value.int .u8) w' b 6 (srvB s17G 5 (ofL [3, 0, 0, 0, 2])) ∧ Ext (W.alloc (.cells #[.int .u8 3, .int .u8 0, .int .u8 0, .int .u8 0, .int .u8 2] 5)) w'))
  have P3 := Lib.hid (fun W V (h : FilAt W V s17G) => (hS V s17G (some ⟨W.heap.size, 0, none⟩) 5 5 (ofL [3, 0, 3, 0, 2]) (W.alloc (.cells #[.int .u8 3, .int .u8 0, .int .u8 3, .int .u8 0, .int .u8 2] 5)) (h.ext (Ext.alloc _ _)) s17i s17g.2 (Holds.lit W [3, 0, 3, 0, 2] 5 _ rfl 5 rfl) (by omega) (Nat.le_refl _) (by unfold maxLen; omega) (s17w [3, 0, 3, 0, 2] (by decide))).mono fun e w' h => (by obtain ⟨V', G, b, q, h1, h2, h3, h4, h5⟩ := h; rw [s17d.1] at h1 h2; rw [s17d.2] at h1 h4; have h2 := h2 (by decide); subst h2; exact ⟨V', b, q, h1, h3, h4, h5⟩ : ∃ V' b q, e = Ending.returned (.tuple #[.agg (filC V' (srvF s17G 5 (ofL [3, 0, 3, 0, 2]))), .slice b 2 q, .int .i64 0]) ∧ FilAt w' V' (srvF s17G 5 (ofL [3, 0, 3, 0, 2])) ∧ HoldsG (Value.int .u8) w' b 2 (srvB s17G 5 (ofL [3, 0, 3, 0, 2])) ∧ Ext (W.alloc (.cells #[.int .u8 3, .int .u8 0, .int .u8 3, .int .u8 0, .int .u8 2] 5)) w'))
  have P4 := Lib.hid (fun W V (h : FilAt W V s17G) => (hS V s17G (some ⟨W.heap.size, 0, none⟩) 1 1 (ofL [200]) (W.alloc (.cells #[.int .u8 200] 5)) (h.ext (Ext.alloc _ _)) s17i s17g.2 (Holds.lit W [200] 5 _ rfl 1 rfl) (by omega) (Nat.le_refl _) (by unfold maxLen; omega) (s17w [200] (by decide))).mono fun e w' h => (by obtain ⟨V', G, b, q, h1, h2, h3, h4, h5⟩ := h; rw [s17e] at h1; exact ⟨V', G, b, _, q, h1, h5⟩ : ∃ V' G b m q, e = Ending.returned (.tuple #[.agg (filC V' G), .slice b m q, .int .i64 15]) ∧ Ext (W.alloc (.cells #[.int .u8 200] 5)) w'))
  have P5 := Lib.hid (fun W => (hW 23 W).mono fun e w' h => (⟨h.1.trans (by rfl), h.2⟩ : e = Ending.returned (.bool true) ∧ Ext W w'))
  have P6 := Lib.hid (fun W => (hW 4 W).mono fun e w' h => (⟨h.1.trans (by rfl), h.2⟩ : e = Ending.returned (.bool false) ∧ Ext W w'))
  have P7 := Lib.hid (fun W V (h : FilAt W V s17G) => (hC V s17G zeroQV { zeroQ with k := 3, ad := 4, ct := 1 } W h s17i s17g.2 (none_at W rfl rfl) s17Q (Nat.zero_le _) (Nat.zero_le _)).mono fun e w' h => (⟨h.1.trans (by rw [s17f]), h.2⟩ : e = Ending.returned (.int .i64 2) ∧ Ext W w'))
  clear hN hS hW hC
  go_enter Tryz.func11, Tryz.ntmps11
  go_upto_region 1 with fail
  go_wp2_with fail
  refine (P0.out w).mono ?_; rintro e w1 ⟨V, rfl, hV, x1⟩
  obtain ⟨W1, hW1, yW1, g1⟩ : ∃ W, W = ((w1.alloc (.cells #[.int .i64 0, .int .i64 0, .int .i64 0, .int .i64 0, .int .i64 0, .int .i64 0, .int .i64 0, .int .i64 0, .int .i64 0, .int .i64 0, .slice none 0 0, .slice none 0 0, .slice none 0 0, .slice none 0 0] 29)).setRow w1.heap.size (filC V s17F)) ∧ Ext w1 W ∧ W.heap[w1.heap.size]? = some (.cells (filC V s17F) 29 (0, 0)) := ⟨_, rfl, told17b _ _ _ _⟩
  go_upto_region 2 with (first
    | (refine wpList_store_row rfl 29 (.tmp 1) (.tmp 19) rfl _ _ rfl rfl 29 _ (heap_new_at _ _ (by first | rfl | simp)) (by kernel_rfl) rfl (by simp [filC, Value.oneCell']) ?_))
  rw [← hW1]
  clear hW1
  have hV := hV.ext yW1
  have x1 := x1.trans yW1
  clear yW1
  generalize w1.heap.size = G_g1 at g1 ⊢
  go_wp2_with (first
    | (refine wpList_load_row rfl 29 (.tmp 1) rfl (G_g1) rfl 29 _ (0, 0) _ g1 Tryz.underlying29 rfl (by kernel_rfl) ?_))
  refine (P1.out W1 V hV).mono ?_; rintro e w2 ⟨U, pb, pq, rfl, hU, hp, zw2⟩
  have zw2 := (Ext.alloc W1 (.cells #[.int .u8 6, .int .u8 0, .int .u8 1, .int .u8 0, .int .u8 9] 5)).trans zw2
  have x2 := x1.trans zw2
  clear zw2 P1
  clear g1 hV
  obtain ⟨W2, hW2, yW2, g3⟩ : ∃ W, W = ((w2.alloc (.cells #[.int .i64 0, .int .i64 0, .int .i64 0, .int .i64 0, .int .i64 0, .int .i64 0, .int .i64 0, .int .i64 0, .int .i64 0, .int .i64 0, .slice none 0 0, .slice none 0 0, .slice none 0 0, .slice none 0 0] 29)).setRow w2.heap.size (filC U s17G)) ∧ Ext w2 W ∧ W.heap[w2.heap.size]? = some (.cells (filC U s17G) 29 (0, 0)) := ⟨_, rfl, told17b _ _ _ _⟩
  go_upto_region 3 with (first
    | (refine wpList_store_row rfl 29 (.tmp 3) (.tmp 25) rfl _ _ rfl rfl 29 _ (heap_new_at _ _ (by first | rfl | simp)) (by kernel_rfl) rfl (by simp [filC, Value.oneCell']) ?_))
  rw [← hW2]
  clear hW2
  have hU := hU.ext yW2
  have hp := hp.ext yW2
  have x2 := x2.trans yW2
  clear yW2
  generalize w2.heap.size = G_g3 at g3 ⊢
  go_wp2_with (first
    | (refine wpList_load_row rfl 29 (.tmp 3) rfl (G_g3) rfl 29 _ (0, 0) _ g3 Tryz.underlying29 rfl (by kernel_rfl) ?_))
  refine (P2.out W2 U hU).mono ?_; rintro e w3 ⟨U3, cb, cq, rfl, -, hc, zw3⟩
  have zw3 := (Ext.alloc W2 (.cells #[.int .u8 3, .int .u8 0, .int .u8 0, .int .u8 0, .int .u8 2] 5)).trans zw3
  have g3 := zw3.block g3
  have hU := hU.ext zw3
  have hp := hp.ext zw3
  have x3 := x2.trans zw3
  clear zw3 P2
  obtain ⟨W3, hW3, yW3, g6⟩ : ∃ W, W = ((w3.alloc (.cells #[.int .i64 0, .int .i64 0, .int .i64 0, .int .i64 0, .int .i64 0, .int .i64 0, .int .i64 0, .int .i64 0, .int .i64 0, .int .i64 0, .slice none 0 0, .slice none 0 0, .slice none 0 0, .slice none 0 0] 29)).setRow w3.heap.size (filC U3 (srvF s17G 5 (ofL [3, 0, 0, 0, 2])))) ∧ Ext w3 W ∧ W.heap[w3.heap.size]? = some (.cells (filC U3 (srvF s17G 5 (ofL [3, 0, 0, 0, 2]))) 29 (0, 0)) := ⟨_, rfl, told17b _ _ _ _⟩
  go_upto_region 4 with (first
    | (refine wpList_store_row rfl 29 (.tmp 6) (.tmp 32) rfl _ _ rfl rfl 29 _ (heap_new_at _ _ (by first | rfl | simp)) (by kernel_rfl) rfl (by simp [filC, Value.oneCell']) ?_))
  rw [← hW3]
  clear hW3
  have g3 := yW3.block g3
  have hU := hU.ext yW3
  have hp := hp.ext yW3
  have hc := hc.ext yW3
  have x3 := x3.trans yW3
  clear yW3
  generalize w3.heap.size = G_g6 at g6 ⊢
  clear g6
  go_wp2_with (first
    | (refine wpList_load_row rfl 29 (.tmp 3) rfl (G_g3) rfl 29 _ (0, 0) _ g3 Tryz.underlying29 rfl (by kernel_rfl) ?_))
  refine (P3.out W3 U hU).mono ?_; rintro e w4 ⟨U4, db, dq, rfl, -, hd, zw4⟩
  have zw4 := (Ext.alloc W3 (.cells #[.int .u8 3, .int .u8 0, .int .u8 3, .int .u8 0, .int .u8 2] 5)).trans zw4
  have g3 := zw4.block g3
  have hU := hU.ext zw4
  have hp := hp.ext zw4
  have hc := hc.ext zw4
  have x4 := x3.trans zw4
  clear zw4 P3
  obtain ⟨W4, hW4, yW4, g9⟩ : ∃ W, W = ((w4.alloc (.cells #[.int .i64 0, .int .i64 0, .int .i64 0, .int .i64 0, .int .i64 0, .int .i64 0, .int .i64 0, .int .i64 0, .int .i64 0, .int .i64 0, .slice none 0 0, .slice none 0 0, .slice none 0 0, .slice none 0 0] 29)).setRow w4.heap.size (filC U4 (srvF s17G 5 (ofL [3, 0, 3, 0, 2])))) ∧ Ext w4 W ∧ W.heap[w4.heap.size]? = some (.cells (filC U4 (srvF s17G 5 (ofL [3, 0, 3, 0, 2]))) 29 (0, 0)) := ⟨_, rfl, told17b _ _ _ _⟩
  go_upto_region 5 with (first
    | (refine wpList_store_row rfl 29 (.tmp 9) (.tmp 39) rfl _ _ rfl rfl 29 _ (heap_new_at _ _ (by first | rfl | simp)) (by kernel_rfl) rfl (by simp [filC, Value.oneCell']) ?_))
  rw [← hW4]
  clear hW4
  have g3 := yW4.block g3
  have hU := hU.ext yW4
  have hp := hp.ext yW4
  have hc := hc.ext yW4
  have hd := hd.ext yW4
  have x4 := x4.trans yW4
  clear yW4
  generalize w4.heap.size = G_g9 at g9 ⊢
  clear g9
  go_wp2_with (first
    | (refine wpList_load_row rfl 29 (.tmp 3) rfl (G_g3) rfl 29 _ (0, 0) _ g3 Tryz.underlying29 rfl (by kernel_rfl) ?_))
  refine (P4.out W4 U hU).mono ?_; rintro e w5 ⟨U5, G5, eb, em, eq, rfl, zw5⟩
  have zw5 := (Ext.alloc W4 (.cells #[.int .u8 200] 5)).trans zw5
  have g3 := zw5.block g3
  have hU := hU.ext zw5
  have hp := hp.ext zw5
  have hc := hc.ext zw5
  have hd := hd.ext zw5
  have x5 := x4.trans zw5
  clear zw5 P4
  obtain ⟨W5, hW5, yW5, g12⟩ : ∃ W, W = ((w5.alloc (.cells #[.int .i64 0, .int .i64 0, .int .i64 0, .int .i64 0, .int .i64 0, .int .i64 0, .int .i64 0, .int .i64 0, .int .i64 0, .int .i64 0, .slice none 0 0, .slice none 0 0, .slice none 0 0, .slice none 0 0] 29)).setRow w5.heap.size (filC U5 G5)) ∧ Ext w5 W ∧ W.heap[w5.heap.size]? = some (.cells (filC U5 G5) 29 (0, 0)) := ⟨_, rfl, told17b _ _ _ _⟩
  go_upto_region 6 with (first
    | (refine wpList_store_row rfl 29 (.tmp 12) (.tmp 46) rfl _ _ rfl rfl 29 _ (heap_new_at _ _ (by first | rfl | simp)) (by kernel_rfl) rfl (by simp [filC, Value.oneCell']) ?_))
  rw [← hW5]
  clear hW5
  have g3 := yW5.block g3
  have hU := hU.ext yW5
  have hp := hp.ext yW5
  have hc := hc.ext yW5
  have hd := hd.ext yW5
  have x5 := x5.trans yW5
  clear yW5
  generalize w5.heap.size = G_g12 at g12 ⊢
  clear g12
  go_wp2_with fail
  have yw6 := Ext.alloc W5 (.cells #[.int .u8 6, .int .u8 0, .int .u8 1, .int .u8 0, .int .u8 9] 5)
  refine (bytes_eq pb (some ⟨W5.heap.size, 0, none⟩) 5 5 pq 5 (srvB s17F 5 (ofL [6, 0, 1, 0, 9])) (ofL [6, 0, 1, 0, 9]) _ (hp.ext yw6) (Holds.lit W5 [6, 0, 1, 0, 9] 5 _ rfl 5 rfl) (by omega) ⟨rfl, s17j⟩).mono ?_; rintro e w6 ⟨rfl, zw6⟩
  have zw6 := yw6.trans zw6
  have g3 := zw6.block g3
  have hU := hU.ext zw6
  have hc := hc.ext zw6
  have hd := hd.ext zw6
  have x6 := x5.trans zw6
  clear zw6 yw6 x5 hp
  go_wp2_with fail
  have yw7 := Ext.alloc w6 (.cells #[.int .u8 3, .int .u8 4, .int .u8 0, .int .u8 0, .int .u8 0, .int .u8 9] 5)
  refine (bytes_eq cb (some ⟨w6.heap.size, 0, none⟩) 6 6 cq 6 (srvB s17G 5 (ofL [3, 0, 0, 0, 2])) (ofL [3, 4, 0, 0, 0, 9]) _ (hc.ext yw7) (Holds.lit w6 [3, 4, 0, 0, 0, 9] 5 _ rfl 6 rfl) (by omega) ⟨rfl, s17k⟩).mono ?_; rintro e w7 ⟨rfl, zw7⟩
  have zw7 := yw7.trans zw7
  have g3 := zw7.block g3
  have hU := hU.ext zw7
  have hd := hd.ext zw7
  have x7 := x6.trans zw7
  clear zw7 yw7 x6 hc
  go_wp2_with fail
  have yw8 := Ext.alloc w7 (.cells #[.int .u8 131, .int .u8 2] 5)
  refine (bytes_eq db (some ⟨w7.heap.size, 0, none⟩) 2 2 dq 2 (srvB s17G 5 (ofL [3, 0, 3, 0, 2])) (ofL [131, 2]) _ (hd.ext yw8) (Holds.lit w7 [131, 2] 5 _ rfl 2 rfl) (by omega) ⟨rfl, s17l⟩).mono ?_; rintro e w8 ⟨rfl, zw8⟩
  have zw8 := yw8.trans zw8
  have g3 := zw8.block g3
  have hU := hU.ext zw8
  have x8 := x7.trans zw8
  clear zw8 yw8 x7 hd
  go_wp2_with fail
  refine (P5.out _).mono ?_; rintro e w9 ⟨rfl, zw9⟩
  go_wp2_with fail
  refine (P6.out _).mono ?_; rintro e wA ⟨rfl, zwA⟩
  have zB := zw9.trans zwA
  have g3 := zB.block g3
  have hU := hU.ext zB
  have x9 := x8.trans zB
  clear P5 P6 zw9 zwA zB x8
  go_wp2_with (first
    | (refine wpList_load_row_g (by rfl) 29 (.tmp 3) rfl (G_g3) rfl 29 _ (0, 0) _ g3 Tryz.underlying29 rfl (by kernel_rfl) ?_))
  refine (P7.out _ U hU).mono ?_; rintro e wC ⟨rfl, zC⟩
  go_wp2
  go_ret
  exact ⟨rfl, x9.trans zC⟩
end Go.Proofs.YtlafnobjfajamaaGreat
