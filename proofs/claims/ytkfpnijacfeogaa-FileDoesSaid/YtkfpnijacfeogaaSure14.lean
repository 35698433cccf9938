/-
  THE LAWS OF LAYER 14: what must come whatever the input is (package file's contracts as premises).
-/
import Derived.Test.YtkfpnijacfeogaaFilC
import Derived.Test.YtkfpnijacfeogaaFilU
import Derived.Test.YtkfpnijacfeogaaFilN
import Derived.Test.YtkfpnijacfeogaaStepStore
namespace Go.Proofs.Ytkfpnijacfeogaa
open Go.RowKit
set_option linter.unusedVariables false

def sB14 : Fil := ⟨0, 0, 0, 0, 0, 4, 0, 0, 2, 1, 0, fun _ => false, 0, fun _ => false, 0, fun _ => 0, 0, fun _ => 0⟩
def sF14 : Fil := ⟨0, 0, 0, 0, 0, 4, 0, 0, 2, 1, 0, fun _ => false, 0, fun _ => false, 4, fun _ => 0, 0, fun _ => 0⟩
def sX14 : Fil := ⟨0, 0, 0, 0, 0, 4, 0, 0, 2, 1, 0, fun _ => false, 0, fun _ => false, 4, wrF (fun _ => 0) (fun _ => 7) 0 3 1, 0, fun _ => 0⟩
def sN14 : Fil := ⟨-1, 0, 0, 0, 0, 0, 0, 0, 0, 0, 0, fun _ => false, 0, fun _ => false, 0, fun _ => 0, 0, fun _ => 0⟩
theorem s14a : bankB sB14 = true ∧ newF sB14 = sF14 ∧ bankB sN14 = false := ⟨by decide, rfl, by decide⟩
theorem s14b : wrdE sF14 false 1 1 = 0 ∧ wrdN sF14 false 1 1 = 1 ∧ wrdE sF14 false 1 2 = 4 ∧ wrdE sF14 false 3 2 = 2 ∧ rightB sF14 = true := ⟨by decide, by decide, by decide, by decide, by decide⟩
theorem s14c : swE sF14 3 1 = 0 := by decide
theorem s14d : swF sF14 3 1 (fun _ => 7) = sX14 := by unfold swF; rw [if_pos s14c]; rfl
theorem s14e : sameF sF14 sX14 = false := by decide
theorem s14s : Small sF14 ∧ Small sX14 := ⟨⟨by decide, by decide, by decide, by decide⟩, ⟨by decide, by decide, by decide, by decide⟩⟩
theorem slot_of {w : World} {V : FilV} {F : Fil} (h : FilAt w V F) (hn : 0 < F.nH) : ∃ b o, V.a3 = some ⟨b, o, none⟩ ∧ ∀ i, i < F.nH → w.cell? ⟨b, o + i, none⟩ = some (.int .u16 (F.H i)) := by
  obtain ⟨b, o, ha, _, hc⟩ := h.h3.resolve_left (by omega)
  exact ⟨b, o, ha, hc⟩
set_option maxRecDepth 100000 in
set_option maxHeartbeats 8000000 in
theorem sure14_of (hN : FNewC 8) (hR : FRightC 14) (hW : FWordsC 17) (hSW : FSetWordsC 21) (hS : FSameC 24) (hC : FCopyC 25) (w : World) :
    Calls Try.prog 7 #[] w fun e w' => e = .returned (.bool true) ∧ Ext w w' := by
  have K1 := hN sB14 w
  rw [if_pos s14a.1, if_pos s14a.1, s14a.2.1] at K1
  have K6 := fun w' => hN sN14 w'
  rw [s14a.2.2] at K6
  simp only [Bool.false_eq_true, if_false] at K6
  have K2 := Lib.hid (fun V w' (h : FilAt w' V sF14) => hW V sF14 false 1 1 w' h (by decide) (by decide))
  rw [s14b.1, s14b.2.1] at K2
  have K3 := Lib.hid (fun V w' (h : FilAt w' V sF14) => hW V sF14 false 1 2 w' h (by decide) (by decide))
  rw [s14b.2.2.1] at K3
  have K4 := Lib.hid (fun V w' (h : FilAt w' V sF14) => hW V sF14 false 3 2 w' h (by decide) (by decide))
  rw [s14b.2.2.2.1] at K4
  have K5 := Lib.hid (fun V a w' (h : FilAt w' V sF14) (hl : HoldsG (Value.int .u16) w' a 1 (fun _ => 7)) => hSW V sF14 3 a 1 1 (fun _ => 7) w' h hl (by decide) (by decide) (by decide) (by decide))
  rw [s14c, s14d] at K5
  unfold SlP at K2 K3 K4
  unfold FP at K1 K5 K6
  have K1 := Lib.hid K1
  have K6 := Lib.hid K6
  have HRt := Lib.hid (fun V w' (h : FilAt w' V sF14) => hR V sF14 w' h)
  rw [s14b.2.2.2.2] at HRt
  have HCo := Lib.hid (fun V w' (h : FilAt w' V sF14) => hC V sF14 w' h s14s.1)
  have HSa := Lib.hid (fun V U w' (h : FilAt w' V sF14) (k : FilAt w' U sF14) => hS V sF14 U sF14 w' h k s14s.1 s14s.1)
  rw [sameF_self] at HSa
  have HSb := Lib.hid (fun V U w' (h : FilAt w' V sF14) (k : FilAt w' U sX14) => hS V sF14 U sX14 w' h k s14s.1 s14s.2)
  rw [s14e] at HSb
  clear hN hR hW hSW hS hC
  go_enter Try.func7, Try.ntmps7
  go_wp2_with fail
  refine K1.out.mono ?_; rintro e w1 ⟨V1, rfl, f1, x1, -⟩
  obtain ⟨W1, hW1, y1, hg1⟩ : ∃ W, W = ((w1.alloc (.cells #[.int .i64 0, .int .i64 0, .int .i64 0, .int .i64 0, .int .i64 0, .int .i64 0, .int .i64 0, .int .i64 0, .int .i64 0, .int .i64 0, .slice none 0 0, .slice none 0 0, .slice none 0 0, .slice none 0 0] 31)).setRow w1.heap.size (filC V1 sF14)) ∧ Ext w1 W ∧ W.heap[w1.heap.size]? = some (.cells (filC V1 sF14) 31 (0, 0)) := ⟨_, rfl, boxed_row _ _ _ _⟩
  have f1 := f1.ext y1
  have x1 := x1.trans y1
  clear y1 K1
  go_wp2_with (first
    | (refine wpList_store_row rfl 31 (.tmp 1) (.tmp 18) rfl (w1.heap.size) _ rfl rfl 31 _ (heap_alloc_new w1 _) (by kernel_rfl) rfl (by simp [filC, Value.oneCell']) ?_)
    | (refine wpList_load_row rfl 31 (.tmp 1) rfl _ rfl 31 _ (0, 0) _ (setRow_heap _ _ _ _ _ _ (heap_alloc_new w1 _)) Try.underlying31 rfl (by kernel_rfl) ?_))
  rw [← hW1]
  clear hW1
  generalize w1.heap.size = G1 at hg1 ⊢
  refine (K2.out V1 _ f1).mono ?_; rintro e w2 ⟨a2, q2, rfl, -, -, h2, x2, -⟩
  have x1 := x1.trans x2
  have f1 := f1.ext x2
  have hg1 := x2.block hg1
  clear x2 K2
  go_wp2_with (first | (refine wpList_load_row rfl 31 (.tmp 1) rfl _ rfl 31 _ (0, 0) _ hg1 Try.underlying31 rfl (by kernel_rfl) ?_))
  refine (K3.out V1 _ f1).mono ?_; rintro e w3 ⟨a3, q3, rfl, -, -, -, x3, -⟩
  have x1 := x1.trans x3
  have f1 := f1.ext x3
  have hg1 := x3.block hg1
  have h2 := h2.ext x3
  clear x3 K3
  go_wp2_with (first | (refine wpList_load_row rfl 31 (.tmp 1) rfl _ rfl 31 _ (0, 0) _ hg1 Try.underlying31 rfl (by kernel_rfl) ?_))
  refine (K4.out V1 _ f1).mono ?_; rintro e w4 ⟨a4, q4, rfl, -, -, -, x4, -⟩
  have x1 := x1.trans x4
  have f1 := f1.ext x4
  have hg1 := x4.block hg1
  have h2 := h2.ext x4
  clear x4 K4
  go_wp2_with (first | (refine wpList_load_row rfl 31 (.tmp 1) rfl _ rfl 31 _ (0, 0) _ hg1 Try.underlying31 rfl (by kernel_rfl) ?_))
  have y5 := Ext.alloc w4 (.cells #[.int .u16 7] 61)
  refine (K5.out V1 _ _ (f1.ext y5) (one_cell _ _ _)).mono ?_; rintro e w5 ⟨V5, rfl, f5, x5, -⟩
  have x5 := y5.trans x5
  obtain ⟨W5, hW5, y5', hg9⟩ : ∃ W, W = ((w5.alloc (.cells #[.int .i64 0, .int .i64 0, .int .i64 0, .int .i64 0, .int .i64 0, .int .i64 0, .int .i64 0, .int .i64 0, .int .i64 0, .int .i64 0, .slice none 0 0, .slice none 0 0, .slice none 0 0, .slice none 0 0] 31)).setRow w5.heap.size (filC V5 sX14)) ∧ Ext w5 W ∧ W.heap[w5.heap.size]? = some (.cells (filC V5 sX14) 31 (0, 0)) := ⟨_, rfl, boxed_row _ _ _ _⟩
  have x5 := x5.trans y5'
  have x1 := x1.trans x5
  have f1 := f1.ext x5
  have f5 := f5.ext y5'
  have hg1 := x5.block hg1
  have h2 := h2.ext x5
  clear x5 y5 y5' K5
  go_wp2_with (first
    | (refine wpList_store_row rfl 31 (.tmp 9) (.tmp 39) rfl (w5.heap.size) _ rfl rfl 31 _ (heap_alloc_new w5 _) (by kernel_rfl) rfl (by simp [filC, Value.oneCell']) ?_))
  rw [← hW5]
  clear hW5
  generalize w5.heap.size = G9 at hg9 ⊢
  refine (K6.out _).mono ?_; rintro e w6 ⟨V6, rfl, -, x6, -⟩
  obtain ⟨W6, hW6, y6, -⟩ : ∃ W, W = ((w6.alloc (.cells #[.int .i64 0, .int .i64 0, .int .i64 0, .int .i64 0, .int .i64 0, .int .i64 0, .int .i64 0, .int .i64 0, .int .i64 0, .int .i64 0, .slice none 0 0, .slice none 0 0, .slice none 0 0, .slice none 0 0] 31)).setRow w6.heap.size (filC V6 zeroF)) ∧ Ext w6 W ∧ W.heap[w6.heap.size]? = some (.cells (filC V6 zeroF) 31 (0, 0)) := ⟨_, rfl, boxed_row _ _ _ _⟩
  have x6 := x6.trans y6
  have x1 := x1.trans x6
  have f1 := f1.ext x6
  have f5 := f5.ext x6
  have hg1 := x6.block hg1
  have hg9 := x6.block hg9
  have h2 := h2.ext x6
  clear x6 y6 K6
  go_wp2_with (first
    | (refine wpList_store_row rfl 31 (.tmp 11) (.tmp 45) rfl (w6.heap.size) _ rfl rfl 31 _ (heap_alloc_new w6 _) (by kernel_rfl) rfl (by simp [filC, Value.oneCell']) ?_))
  rw [← hW6]
  clear hW6
  generalize w6.heap.size = G6 at *
  obtain ⟨W7, hW7⟩ : ∃ W7, W7 = W6.drew := ⟨_, rfl⟩
  have x6 : Ext W6 W7 := by rw [hW7]; exact Ext.drew _
  have x1 := x1.trans x6
  have f1 := f1.ext x6
  have f5 := f5.ext x6
  have hg1 := x6.block hg1
  have hg9 := x6.block hg9
  have h2 := h2.ext x6
  clear x6
  obtain ⟨b1, o1, hb1, hc1⟩ := slot_of f1 (by decide)
  obtain ⟨b9, o9, hb9, hc9⟩ := slot_of f5 (by decide)
  have e1 := hc1 3 (by decide)
  have e9 := hc9 3 (by decide)
  have HCell := Lib.hid (fun W (hx : Ext W7 W) => And.intro (hx.cell (heap_lt hg9) (show W7.cell? ⟨G9, 12, none⟩ = some (.slice (some ⟨b9, o9, none⟩) 4 V5.d3) from by rw [← hb9]; exact cell_of_heap hg9 rfl)) (And.intro (hx.cell (World.block_lt_of_cell? _ _ e9) (show W7.cell? ⟨b9, o9 + 3, none⟩ = some (.int .u16 7) from e9))
    (And.intro (hx.cell (heap_lt hg1) (show W7.cell? ⟨G1, 12, none⟩ = some (.slice (some ⟨b1, o1, none⟩) 4 V1.d3) from by rw [← hb1]; exact cell_of_heap hg1 rfl)) (hx.cell (World.block_lt_of_cell? _ _ e1) (show W7.cell? ⟨b1, o1 + 3, none⟩ = some (.int .u16 0) from e1)))))
  clear hc1 hc9 e1 e9
  generalize V5.d3 = d9 at HCell
  generalize V1.d3 = d1 at HCell
  have HW1 := Lib.hid (fun W (hx : Ext W7 W) k (hk : HoldsG (Value.int .u16) W k 1 (fun _ => 0)) => words_eq a2 k 1 1 q2 1 (wrdL sF14 false 1) (fun _ => 0) W (h2.ext hx) hk (by decide) ⟨rfl, fun i hi => rfl⟩)
  have HR := Lib.hid (fun W (hx : Ext W7 W) => HRt.out V1 W (f1.ext hx))
  have HCp := Lib.hid (fun W (hx : Ext W7 W) => HCo.out V1 W (f1.ext hx))
  have HSm := Lib.hid (fun W VC (hx : Ext W7 W) (hc : FilAt W VC sF14) => HSa.out V1 VC W (f1.ext hx) hc)
  have HSx := Lib.hid (fun W (hx : Ext W7 W) => HSb.out V1 V5 W (f1.ext hx) (f5.ext hx))
  have hs0 : Ext W7 W7 := Ext.refl _
  have HX := Lib.hid x1
  clear f1 f5 h2 HRt HCo HSa HSb x1
  refine wp_region_held_drew (S := fun W => Ext W7 W) (by kernel_rfl) (by rw [← hW7]; exact hs0) (fun _ => ?_)
  rw [← hW7]
  clear hW7
  have hs := hs0
  clear hs0
  refine wpAnyH_takeD (i := 0) (d := 47) (v := .int .i64 0) rfl rfl (by kernel_rfl) (by kernel_rfl) (by kernel_rfl) (fun _ _ _ h => h) (Or.inl ⟨by rfl, fun W hW => by go_simp⟩) hs ?_
  simp only [Act.put, List.setIfInBounds_toArray, List.set_cons_succ, List.set_cons_zero]
  refine wpAnyH_takeD (i := 1) (d := 48) (v := .bool true) rfl rfl (by kernel_rfl) (by kernel_rfl) (by kernel_rfl) (fun _ _ _ h => h) (Or.inl ⟨by rfl, fun W hW => by go_simp⟩) hs ?_
  simp only [Act.put, List.setIfInBounds_toArray, List.set_cons_succ, List.set_cons_zero]
  refine wpAnyH_takeD (i := 2) (d := 49) (v := .bool true) rfl rfl (by kernel_rfl) (by kernel_rfl) (by kernel_rfl) (fun _ _ _ h => h) (Or.inl ⟨by rfl, fun W hW => by go_simp⟩) hs ?_
  simp only [Act.put, List.setIfInBounds_toArray, List.set_cons_succ, List.set_cons_zero]
  refine wpAnyH_takeD (i := 3) (d := 50) (v := .int .i64 0) rfl rfl (by kernel_rfl) (by kernel_rfl) (by kernel_rfl) (fun _ _ _ h => h) (Or.inl ⟨by rfl, fun W hW => by go_simp⟩) hs ?_
  simp only [Act.put, List.setIfInBounds_toArray, List.set_cons_succ, List.set_cons_zero]
  refine wpAnyH_takeD (i := 4) (d := 51) (v := .bool true) rfl rfl (by kernel_rfl) (by kernel_rfl) (by kernel_rfl) (fun _ _ _ h => h) (Or.inl ⟨by rfl, fun W hW => by go_simp⟩) hs ?_
  simp only [Act.put, List.setIfInBounds_toArray, List.set_cons_succ, List.set_cons_zero]
  refine wpAnyH_takeD (i := 5) (d := 52) (v := .bool true) rfl rfl (by kernel_rfl) (by kernel_rfl) (by kernel_rfl) (fun _ _ _ h => h) (Or.inl ⟨by rfl, fun W hW => by go_simp⟩) hs ?_
  simp only [Act.put, List.setIfInBounds_toArray, List.set_cons_succ, List.set_cons_zero]
  refine wpAnyH_takeD (i := 6) (d := 53) (v := .bool true) rfl rfl (by kernel_rfl) (by kernel_rfl) (by kernel_rfl) (fun _ _ _ h => h) (Or.inl ⟨by rfl, fun W hW => by go_simp⟩) hs ?_
  simp only [Act.put, List.setIfInBounds_toArray, List.set_cons_succ, List.set_cons_zero]
  refine wpAnyH_takeD (i := 7) (d := 54) (v := .slice a2 1 q2) rfl rfl (by kernel_rfl) (by kernel_rfl) (by kernel_rfl) (fun _ _ _ h => h) (Or.inl ⟨by rfl, fun W hW => by go_simp⟩) hs ?_
  simp only [Act.put, List.setIfInBounds_toArray, List.set_cons_succ, List.set_cons_zero]
  refine wpAnyH_ready (rs := [8]) (by kernel_rfl) (by simp) (AllReadyH.cons rfl (fun K hK => ?_) AllReadyH.nil)
  go_simp
  refine hK.out _ _ (hs.trans (Ext.alloc _ _)) (fun hs => ?_)
  clear hK K
  refine wpAnyH_ready (rs := [9]) (by kernel_rfl) (by simp) (AllReadyH.cons rfl (fun K hK => ?_) AllReadyH.nil)
  go_simp
  go_at_call 20
  refine (HW1.out _ hs _ (one_cell W7 0 61)).mono ?_; rintro e W9 ⟨rfl, y⟩
  go_wp2_with fail
  refine hK.out _ _ (hs.trans y) (fun hs => ?_)
  clear hK K y
  refine wpAnyH_takeD (i := 10) (d := 57) (v := .bool true) rfl rfl (by kernel_rfl) (by kernel_rfl) (by kernel_rfl) (fun _ _ _ h => h) (Or.inl ⟨by rfl, fun W hW => by go_simp⟩) hs ?_
  simp only [Act.put, List.setIfInBounds_toArray, List.set_cons_succ, List.set_cons_zero]
  refine wpAnyH_takeD (i := 11) (d := 58) (v := .bool true) rfl rfl (by kernel_rfl) (by kernel_rfl) (by kernel_rfl) (fun _ _ _ h => h) (Or.inl ⟨by rfl, fun W hW => by go_simp⟩) hs ?_
  simp only [Act.put, List.setIfInBounds_toArray, List.set_cons_succ, List.set_cons_zero]
  refine wpAnyH_takeD (i := 12) (d := 59) (v := .int .i64 4) rfl rfl (by kernel_rfl) (by kernel_rfl) (by kernel_rfl) (fun _ _ _ h => h) (Or.inl ⟨by rfl, fun W hW => by go_simp⟩) hs ?_
  simp only [Act.put, List.setIfInBounds_toArray, List.set_cons_succ, List.set_cons_zero]
  refine wpAnyH_takeD (i := 13) (d := 60) (v := .bool true) rfl rfl (by kernel_rfl) (by kernel_rfl) (by kernel_rfl) (fun _ _ _ h => h) (Or.inl ⟨by rfl, fun W hW => by go_simp⟩) hs ?_
  simp only [Act.put, List.setIfInBounds_toArray, List.set_cons_succ, List.set_cons_zero]
  refine wpAnyH_takeD (i := 14) (d := 61) (v := .bool true) rfl rfl (by kernel_rfl) (by kernel_rfl) (by kernel_rfl) (fun _ _ _ h => h) (Or.inl ⟨by rfl, fun W hW => by go_simp⟩) hs ?_
  simp only [Act.put, List.setIfInBounds_toArray, List.set_cons_succ, List.set_cons_zero]
  refine wpAnyH_takeD (i := 15) (d := 62) (v := .bool true) rfl rfl (by kernel_rfl) (by kernel_rfl) (by kernel_rfl) (fun _ _ _ h => h) (Or.inl ⟨by rfl, fun W hW => by go_simp⟩) hs ?_
  simp only [Act.put, List.setIfInBounds_toArray, List.set_cons_succ, List.set_cons_zero]
  refine wpAnyH_takeD (i := 16) (d := 63) (v := .int .i64 2) rfl rfl (by kernel_rfl) (by kernel_rfl) (by kernel_rfl) (fun _ _ _ h => h) (Or.inl ⟨by rfl, fun W hW => by go_simp⟩) hs ?_
  simp only [Act.put, List.setIfInBounds_toArray, List.set_cons_succ, List.set_cons_zero]
  refine wpAnyH_takeD (i := 17) (d := 64) (v := .bool true) rfl rfl (by kernel_rfl) (by kernel_rfl) (by kernel_rfl) (fun _ _ _ h => h) (Or.inl ⟨by rfl, fun W hW => by go_simp⟩) hs ?_
  simp only [Act.put, List.setIfInBounds_toArray, List.set_cons_succ, List.set_cons_zero]
  refine wpAnyH_takeD (i := 18) (d := 65) (v := .bool true) rfl rfl (by kernel_rfl) (by kernel_rfl) (by kernel_rfl) (fun _ _ _ h => h) (Or.inl ⟨by rfl, fun W hW => by go_simp⟩) hs ?_
  simp only [Act.put, List.setIfInBounds_toArray, List.set_cons_succ, List.set_cons_zero]
  refine wpAnyH_takeD (i := 19) (d := 66) (v := .bool true) rfl rfl (by kernel_rfl) (by kernel_rfl) (by kernel_rfl) (fun _ _ _ h => h) (Or.inl ⟨by rfl, fun W hW => by go_simp⟩) hs ?_
  simp only [Act.put, List.setIfInBounds_toArray, List.set_cons_succ, List.set_cons_zero]
  refine wpAnyH_takeD (i := 20) (d := 67) (v := .int .i64 0) rfl rfl (by kernel_rfl) (by kernel_rfl) (by kernel_rfl) (fun _ _ _ h => h) (Or.inl ⟨by rfl, fun W hW => by go_simp⟩) hs ?_
  simp only [Act.put, List.setIfInBounds_toArray, List.set_cons_succ, List.set_cons_zero]
  refine wpAnyH_takeD (i := 21) (d := 68) (v := .bool true) rfl rfl (by kernel_rfl) (by kernel_rfl) (by kernel_rfl) (fun _ _ _ h => h) (Or.inl ⟨by rfl, fun W hW => by go_simp⟩) hs ?_
  simp only [Act.put, List.setIfInBounds_toArray, List.set_cons_succ, List.set_cons_zero]
  refine wpAnyH_takeD (i := 22) (d := 69) (v := .bool true) rfl rfl (by kernel_rfl) (by kernel_rfl) (by kernel_rfl) (fun _ _ _ h => h) (Or.inl ⟨by rfl, fun W hW => by go_simp⟩) hs ?_
  simp only [Act.put, List.setIfInBounds_toArray, List.set_cons_succ, List.set_cons_zero]
  refine wpAnyH_takeD (i := 23) (d := 70) (v := .bool true) rfl rfl (by kernel_rfl) (by kernel_rfl) (by kernel_rfl) (fun _ _ _ h => h) (Or.inl ⟨by rfl, fun W hW => by go_simp⟩) hs ?_
  simp only [Act.put, List.setIfInBounds_toArray, List.set_cons_succ, List.set_cons_zero]
  refine wpAnyH_takeD (i := 24) (d := 71) (v := .pointer (some ⟨G9, 12, none⟩)) rfl rfl (by kernel_rfl) (by kernel_rfl) (by kernel_rfl) (fun _ _ _ h => h) (Or.inl ⟨by rfl, fun W hW => by go_simp⟩) hs ?_
  simp only [Act.put, List.setIfInBounds_toArray, List.set_cons_succ, List.set_cons_zero]
  refine wpAnyH_takeD (i := 25) (d := 72) (v := .slice (some ⟨b9, o9, none⟩) 4 d9) rfl rfl (by kernel_rfl) (by kernel_rfl) (by kernel_rfl) (fun _ _ _ h => h) (Or.inl ⟨by rfl, fun W hW => by obtain ⟨k1, k2, k3, k4⟩ := HCell.out W hW; go_simp⟩) hs ?_
  simp only [Act.put, List.setIfInBounds_toArray, List.set_cons_succ, List.set_cons_zero]
  refine wpAnyH_takeD (i := 26) (d := 73) (v := .pointer (some ⟨b9, o9 + 3, none⟩)) rfl rfl (by kernel_rfl) (by kernel_rfl) (by kernel_rfl) (fun _ _ _ h => h) (Or.inl ⟨by rfl, fun W hW => by obtain ⟨k1, k2, k3, k4⟩ := HCell.out W hW; go_simp⟩) hs ?_
  simp only [Act.put, List.setIfInBounds_toArray, List.set_cons_succ, List.set_cons_zero]
  refine wpAnyH_takeD (i := 27) (d := 74) (v := .int .u16 7) rfl rfl (by kernel_rfl) (by kernel_rfl) (by kernel_rfl) (fun _ _ _ h => h) (Or.inl ⟨by rfl, fun W hW => by obtain ⟨k1, k2, k3, k4⟩ := HCell.out W hW; go_simp⟩) hs ?_
  simp only [Act.put, List.setIfInBounds_toArray, List.set_cons_succ, List.set_cons_zero]
  refine wpAnyH_takeD (i := 28) (d := 75) (v := .bool true) rfl rfl (by kernel_rfl) (by kernel_rfl) (by kernel_rfl) (fun _ _ _ h => h) (Or.inl ⟨by rfl, fun W hW => by go_simp⟩) hs ?_
  simp only [Act.put, List.setIfInBounds_toArray, List.set_cons_succ, List.set_cons_zero]
  refine wpAnyH_takeD (i := 29) (d := 76) (v := .bool true) rfl rfl (by kernel_rfl) (by kernel_rfl) (by kernel_rfl) (fun _ _ _ h => h) (Or.inl ⟨by rfl, fun W hW => by go_simp⟩) hs ?_
  simp only [Act.put, List.setIfInBounds_toArray, List.set_cons_succ, List.set_cons_zero]
  refine wpAnyH_takeD (i := 30) (d := 77) (v := .bool true) rfl rfl (by kernel_rfl) (by kernel_rfl) (by kernel_rfl) (fun _ _ _ h => h) (Or.inl ⟨by rfl, fun W hW => by go_simp⟩) hs ?_
  simp only [Act.put, List.setIfInBounds_toArray, List.set_cons_succ, List.set_cons_zero]
  refine wpAnyH_takeD (i := 31) (d := 78) (v := .pointer (some ⟨G1, 12, none⟩)) rfl rfl (by kernel_rfl) (by kernel_rfl) (by kernel_rfl) (fun _ _ _ h => h) (Or.inl ⟨by rfl, fun W hW => by go_simp⟩) hs ?_
  simp only [Act.put, List.setIfInBounds_toArray, List.set_cons_succ, List.set_cons_zero]
  refine wpAnyH_takeD (i := 32) (d := 79) (v := .slice (some ⟨b1, o1, none⟩) 4 d1) rfl rfl (by kernel_rfl) (by kernel_rfl) (by kernel_rfl) (fun _ _ _ h => h) (Or.inl ⟨by rfl, fun W hW => by obtain ⟨k1, k2, k3, k4⟩ := HCell.out W hW; go_simp⟩) hs ?_
  simp only [Act.put, List.setIfInBounds_toArray, List.set_cons_succ, List.set_cons_zero]
  refine wpAnyH_takeD (i := 33) (d := 80) (v := .pointer (some ⟨b1, o1 + 3, none⟩)) rfl rfl (by kernel_rfl) (by kernel_rfl) (by kernel_rfl) (fun _ _ _ h => h) (Or.inl ⟨by rfl, fun W hW => by obtain ⟨k1, k2, k3, k4⟩ := HCell.out W hW; go_simp⟩) hs ?_
  simp only [Act.put, List.setIfInBounds_toArray, List.set_cons_succ, List.set_cons_zero]
  refine wpAnyH_takeD (i := 34) (d := 81) (v := .int .u16 0) rfl rfl (by kernel_rfl) (by kernel_rfl) (by kernel_rfl) (fun _ _ _ h => h) (Or.inl ⟨by rfl, fun W hW => by obtain ⟨k1, k2, k3, k4⟩ := HCell.out W hW; go_simp⟩) hs ?_
  simp only [Act.put, List.setIfInBounds_toArray, List.set_cons_succ, List.set_cons_zero]
  refine wpAnyH_takeD (i := 35) (d := 82) (v := .bool true) rfl rfl (by kernel_rfl) (by kernel_rfl) (by kernel_rfl) (fun _ _ _ h => h) (Or.inl ⟨by rfl, fun W hW => by go_simp⟩) hs ?_
  simp only [Act.put, List.setIfInBounds_toArray, List.set_cons_succ, List.set_cons_zero]
  refine wpAnyH_takeD (i := 36) (d := 83) (v := .bool true) rfl rfl (by kernel_rfl) (by kernel_rfl) (by kernel_rfl) (fun _ _ _ h => h) (Or.inl ⟨by rfl, fun W hW => by go_simp⟩) hs ?_
  simp only [Act.put, List.setIfInBounds_toArray, List.set_cons_succ, List.set_cons_zero]
  refine wpAnyH_takeD (i := 37) (d := 84) (v := .bool true) rfl rfl (by kernel_rfl) (by kernel_rfl) (by kernel_rfl) (fun _ _ _ h => h) (Or.inl ⟨by rfl, fun W hW => by go_simp⟩) hs ?_
  simp only [Act.put, List.setIfInBounds_toArray, List.set_cons_succ, List.set_cons_zero]
  refine wpAnyH_takeD (i := 38) (d := 85) (v := .int .i64 11) rfl rfl (by kernel_rfl) (by kernel_rfl) (by kernel_rfl) (fun _ _ _ h => h) (Or.inl ⟨by rfl, fun W hW => by go_simp⟩) hs ?_
  simp only [Act.put, List.setIfInBounds_toArray, List.set_cons_succ, List.set_cons_zero]
  refine wpAnyH_takeD (i := 39) (d := 86) (v := .bool true) rfl rfl (by kernel_rfl) (by kernel_rfl) (by kernel_rfl) (fun _ _ _ h => h) (Or.inl ⟨by rfl, fun W hW => by go_simp⟩) hs ?_
  simp only [Act.put, List.setIfInBounds_toArray, List.set_cons_succ, List.set_cons_zero]
  refine wpAnyH_takeD (i := 40) (d := 87) (v := .bool true) rfl rfl (by kernel_rfl) (by kernel_rfl) (by kernel_rfl) (fun _ _ _ h => h) (Or.inl ⟨by rfl, fun W hW => by go_simp⟩) hs ?_
  simp only [Act.put, List.setIfInBounds_toArray, List.set_cons_succ, List.set_cons_zero]
  refine wpAnyH_takeD (i := 41) (d := 88) (v := .bool true) rfl rfl (by kernel_rfl) (by kernel_rfl) (by kernel_rfl) (fun _ _ _ h => h) (Or.inl ⟨by rfl, fun W hW => by go_simp⟩) hs ?_
  simp only [Act.put, List.setIfInBounds_toArray, List.set_cons_succ, List.set_cons_zero]
  refine wpAnyH_takeD (i := 42) (d := 89) rfl rfl (by kernel_rfl) (by kernel_rfl) (by kernel_rfl) (fun _ _ _ h => h) (yieldsIf_load_row (by rfl) 31 (.tmp 1) rfl (G1) rfl 31 _ (0, 0) _ (fun w' hw' => hw'.block hg1) Try.underlying31 rfl (by kernel_rfl)) hs ?_
  simp only [Act.put, List.setIfInBounds_toArray, List.set_cons_succ, List.set_cons_zero]
  refine wpAnyH_ready (rs := [43]) (by kernel_rfl) (by simp) (AllReadyH.cons rfl (fun K hK => ?_) AllReadyH.nil)
  go_simp
  go_at_call 14
  refine (HR.out _ hs).mono ?_; rintro e W43 ⟨rfl, y⟩
  go_wp2_with fail
  refine hK.out _ _ (hs.trans y) (fun hs => ?_)
  clear hK K y
  refine wpAnyH_takeD (i := 44) (d := 91) (v := .bool true) rfl rfl (by kernel_rfl) (by kernel_rfl) (by kernel_rfl) (fun _ _ _ h => h) (Or.inl ⟨by rfl, fun W hW => by go_simp⟩) hs ?_
  simp only [Act.put, List.setIfInBounds_toArray, List.set_cons_succ, List.set_cons_zero]
  refine wpAnyH_takeD (i := 45) (d := 92) (v := .bool true) rfl rfl (by kernel_rfl) (by kernel_rfl) (by kernel_rfl) (fun _ _ _ h => h) (Or.inl ⟨by rfl, fun W hW => by go_simp⟩) hs ?_
  simp only [Act.put, List.setIfInBounds_toArray, List.set_cons_succ, List.set_cons_zero]
  refine wpAnyH_takeD (i := 46) (d := 93) rfl rfl (by kernel_rfl) (by kernel_rfl) (by kernel_rfl) (fun _ _ _ h => h) (yieldsIf_load_row (by rfl) 31 (.tmp 1) rfl (G1) rfl 31 _ (0, 0) _ (fun w' hw' => hw'.block hg1) Try.underlying31 rfl (by kernel_rfl)) hs ?_
  simp only [Act.put, List.setIfInBounds_toArray, List.set_cons_succ, List.set_cons_zero]
  refine wpAnyH_takeD (i := 47) (d := 94) rfl rfl (by kernel_rfl) (by kernel_rfl) (by kernel_rfl) (fun _ _ _ h => h) (yieldsIf_load_row (by rfl) 31 (.tmp 1) rfl (G1) rfl 31 _ (0, 0) _ (fun w' hw' => hw'.block hg1) Try.underlying31 rfl (by kernel_rfl)) hs ?_
  simp only [Act.put, List.setIfInBounds_toArray, List.set_cons_succ, List.set_cons_zero]
  refine wpAnyH_ready (rs := [48]) (by kernel_rfl) (by simp) (AllReadyH.cons rfl (fun K hK => ?_) AllReadyH.nil)
  go_simp
  go_at_call 25
  refine (HCp.out _ hs).mono ?_; rintro e W48 ⟨VC, rfl, hc, y, -⟩
  go_wp2_with fail
  refine hK.out _ _ (hs.trans y) (fun hs => ?_)
  clear hK K y
  refine wpAnyH_ready (rs := [49]) (by kernel_rfl) (by simp) (AllReadyH.cons rfl (fun K hK => ?_) AllReadyH.nil)
  go_simp
  go_at_call 24
  refine (HSm.out _ VC hs hc).mono ?_; rintro e W49 ⟨rfl, y⟩
  go_wp2_with fail
  refine hK.out _ _ (hs.trans y) (fun hs => ?_)
  clear hK K y
  refine wpAnyH_takeD (i := 50) (d := 97) (v := .bool true) rfl rfl (by kernel_rfl) (by kernel_rfl) (by kernel_rfl) (fun _ _ _ h => h) (Or.inl ⟨by rfl, fun W hW => by go_simp⟩) hs ?_
  simp only [Act.put, List.setIfInBounds_toArray, List.set_cons_succ, List.set_cons_zero]
  refine wpAnyH_takeD (i := 51) (d := 98) (v := .bool true) rfl rfl (by kernel_rfl) (by kernel_rfl) (by kernel_rfl) (fun _ _ _ h => h) (Or.inl ⟨by rfl, fun W hW => by go_simp⟩) hs ?_
  simp only [Act.put, List.setIfInBounds_toArray, List.set_cons_succ, List.set_cons_zero]
  refine wpAnyH_takeD (i := 52) (d := 99) rfl rfl (by kernel_rfl) (by kernel_rfl) (by kernel_rfl) (fun _ _ _ h => h) (yieldsIf_load_row (by rfl) 31 (.tmp 1) rfl (G1) rfl 31 _ (0, 0) _ (fun w' hw' => hw'.block hg1) Try.underlying31 rfl (by kernel_rfl)) hs ?_
  simp only [Act.put, List.setIfInBounds_toArray, List.set_cons_succ, List.set_cons_zero]
  refine wpAnyH_takeD (i := 53) (d := 100) rfl rfl (by kernel_rfl) (by kernel_rfl) (by kernel_rfl) (fun _ _ _ h => h) (yieldsIf_load_row (by rfl) 31 (.tmp 9) rfl (G9) rfl 31 _ (0, 0) _ (fun w' hw' => hw'.block hg9) Try.underlying31 rfl (by kernel_rfl)) hs ?_
  simp only [Act.put, List.setIfInBounds_toArray, List.set_cons_succ, List.set_cons_zero]
  refine wpAnyH_ready (rs := [54]) (by kernel_rfl) (by simp) (AllReadyH.cons rfl (fun K hK => ?_) AllReadyH.nil)
  go_simp
  go_at_call 24
  refine (HSx.out _ hs).mono ?_; rintro e W54 ⟨rfl, y⟩
  go_wp2_with fail
  refine hK.out _ _ (hs.trans y) (fun hs => ?_)
  clear hK K y
  refine wpAnyH_takeD (i := 55) (d := 102) (v := .bool true) rfl rfl (by kernel_rfl) (by kernel_rfl) (by kernel_rfl) (fun _ _ _ h => h) (Or.inl ⟨by rfl, fun W hW => by go_simp⟩) hs ?_
  simp only [Act.put, List.setIfInBounds_toArray, List.set_cons_succ, List.set_cons_zero]
  refine wpAnyH_takeD (i := 56) (d := 103) (v := .bool true) rfl rfl (by kernel_rfl) (by kernel_rfl) (by kernel_rfl) (fun _ _ _ h => h) (Or.inl ⟨by rfl, fun W hW => by go_simp⟩) hs ?_
  simp only [Act.put, List.setIfInBounds_toArray, List.set_cons_succ, List.set_cons_zero]
  refine wpAnyH_takeD (i := 57) (d := 0) (v := .bool true) rfl rfl (by kernel_rfl) (by kernel_rfl) (by kernel_rfl) (fun _ _ _ h => h) (Or.inl ⟨by rfl, fun W hW => by go_simp⟩) hs ?_
  simp only [Act.put, List.setIfInBounds_toArray, List.set_cons_zero]
  refine wpAnyH_done (by kernel_rfl) ?_ _
  go_wp2
  go_ret
  exact ⟨rfl, HX.out.trans hs⟩
end Go.Proofs.Ytkfpnijacfeogaa
