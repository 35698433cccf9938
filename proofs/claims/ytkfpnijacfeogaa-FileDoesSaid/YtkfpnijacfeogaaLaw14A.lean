/-
  THE LAWS OF LAYER 14: the walk of FileAny (package file's contracts and 'sure' as premises).
-/
import Derived.Test.YtkfpnijacfeogaaFilC
import Derived.Test.YtkfpnijacfeogaaFilU
import Derived.Test.YtkfpnijacfeogaaFilN
import Derived.Test.YtkfpnijacfeogaaStepStore
namespace Go.Proofs.Ytkfpnijacfeogaa
open Go.RowKit
set_option linter.unusedVariables false

/-- Tables that memory can hold. -/
structure Big (F : Fil) : Prop where
  b1 : F.nC ≤ 1000000000000000
  b2 : F.nI ≤ 1000000000000000
  b3 : F.nH ≤ 1000000000000000
  b4 : F.nR ≤ 1000000000000000
/-- The first of a walk's boxes: two files, an operation. -/
theorem any_boxes (w : World) (a b c : Array Value) (t u v : TypeId) {W : World} (x : Ext (((w.alloc (.cells a t)).alloc (.cells b u)).alloc (.cells c v)) W) :
    W.heap[w.heap.size]? = some (.cells a t (0, 0)) ∧ W.heap[w.heap.size + 1]? = some (.cells b u (0, 0)) ∧ W.heap[w.heap.size + 1 + 1]? = some (.cells c v (0, 0)) :=
  ⟨x.block ((heap_alloc_old _ _ (by first | (simp; done) | (simp; omega))).trans ((heap_alloc_old _ _ (by simp)).trans (heap_alloc_new w _))), x.block ((heap_alloc_old _ _ (by first | (simp; done) | (simp; omega))).trans (heap_new_at _ _ (by simp))), x.block (heap_new_at _ _ (by simp))⟩
theorem ope_cells {w : World} {g : Nat} {X : OpeV} {o : Ope} {t : TypeId} (h : w.heap[g]? = some (.cells (opeC X o) t (0, 0))) :
    w.cell? ⟨g, 1, none⟩ = some (.int .i64 o.x) ∧ w.cell? ⟨g, 2, none⟩ = some (.int .i64 o.c) ∧ w.cell? ⟨g, 3, none⟩ = some (.int .i64 o.v) ∧ w.cell? ⟨g, 4, none⟩ = some (.slice X.a1 o.nb X.d1) ∧ w.cell? ⟨g, 5, none⟩ = some (.slice X.a2 o.nr X.d2) :=
  ⟨cell_of_heap h rfl, cell_of_heap h rfl, cell_of_heap h rfl, cell_of_heap h rfl, cell_of_heap h rfl⟩

set_option maxRecDepth 100000 in
set_option maxHeartbeats 8000000 in
theorem fileAny.walk0 (V : FilV) (F : Fil) (U : FilV) (G : Fil) (X : OpeV) (o : Ope) (w : World) (hf : FilAt w V F) (hg : FilAt w U G) (ho : OpeAt w X o) (hw : OpeW o) (bF : Big F) (bG : Big G) (hb1 : o.nb ≤ 1000000000000000) (hb2 : o.nr ≤ 1000000000000000)
    (hR : FRightC 14) (hB : FBitsC 15) (hSW : FSetWordsC 21) (hSe : FSenseC 22) (hS : FSameC 24) (hC : FCopyC 25)
    (sure : ∀ w, Calls Try.prog 7 #[] w fun e w' => e = .returned (.bool true) ∧ Ext w w') :
    Calls Try.prog 4 #[.agg (filC V F), .agg (filC U G), .agg (opeC X o)] w fun e w' => e = .returned (.bool true) ∧ Ext w w' := by
  have HS := Lib.hid sure
  have KF := Lib.hid (fun w' => rfew14_any V F w' bF.b1 bF.b2 bF.b3 bF.b4)
  have KG := Lib.hid (fun w' => rfew14_any U G w' bG.b1 bG.b2 bG.b3 bG.b4)
  have hnb : (o.nb : Int) ≤ 1000000000000000 := by omega
  have hnr : (o.nr : Int) ≤ 1000000000000000 := by omega
  by_cases h1 : F.nC + F.nI + F.nH + F.nR ≤ 4000
  · rw [decide_eq_true h1] at KF
    by_cases h2 : G.nC + G.nI + G.nH + G.nR ≤ 4000
    · rw [decide_eq_true h2] at KG
      by_cases h3 : 300 < o.nb + o.nr
      · have h3' : (300 : Int) < (o.nb : Int) + (o.nr : Int) := by omega
        clear hf hg ho hw bF bG hb1 hb2 hR hB hSW hSe hS hC sure h1 h2 h3
        go_enter Try.func4, Try.ntmps4
        go_upto_region 1 with fail
        obtain ⟨W0, hW0, HX, He⟩ : ∃ W0, W0 = (((w.alloc (.cells (filC V F) 31)).alloc (.cells (filC U G) 31)).alloc (.cells (opeC X o) 40)) ∧ Hid (∀ W, Ext W0 W → W.heap[w.heap.size]? = some (.cells (filC V F) 31 (0, 0)) ∧ W.heap[w.heap.size + 1]? = some (.cells (filC U G) 31 (0, 0)) ∧ W.heap[w.heap.size + 1 + 1]? = some (.cells (opeC X o) 40 (0, 0))) ∧ Hid (Ext w W0) :=
          ⟨_, rfl, Lib.hid (fun W hx => any_boxes w _ _ _ _ _ _ hx), Lib.hid ((((Ext.alloc w _).alloc' _).alloc' _))⟩
        rw [← hW0]
        clear hW0
        have g0 := HX.out W0 (Ext.refl _)
        have gA := g0.1
        clear g0
        go_wp2_with (first | (refine wpList_load_row rfl 31 (.tmp 3) rfl (w.heap.size) rfl 31 _ (0, 0) _ gA Try.underlying31 rfl (by kernel_rfl) ?_))
        refine (KF.out _).mono ?_; rintro e w1 ⟨rfl, x1⟩
        have gB := (HX.out _ x1).2.1
        clear gA
        go_wp2_with (first | (refine wpList_load_row_g (by rfl) 31 (.tmp 4) rfl (w.heap.size + 1) rfl 31 _ (0, 0) _ gB Try.underlying31 rfl (by kernel_rfl) ?_))
        refine (KG.out _).mono ?_; rintro e w2 ⟨rfl, x2⟩
        have X := x1.trans x2
        obtain ⟨k1, k2, k3, k4, k5⟩ := ope_cells (HX.out _ X).2.2
        clear gB x1 x2
        go_wp2_with fail
        refine (HS.out _).mono ?_; rintro e w9 ⟨rfl, y9⟩
        go_wp2
        go_ret
        exact ⟨rfl, He.out.trans (X.trans y9)⟩
      · have h3' : ¬ (300 : Int) < (o.nb : Int) + (o.nr : Int) := by omega
        have sF : Small F := ⟨by omega, by omega, by omega, by omega⟩
        have sG : Small G := ⟨by omega, by omega, by omega, by omega⟩
        have K1 := Lib.hid (fun w' (hx : Ext w w') => hB V F false o.x o.c w' (hf.ext hx) hw.wx hw.wc)
        have K2 := Lib.hid (fun w' (hx : Ext w w') => hSW V F o.x X.a2 o.nr X.d2 o.R w' (hf.ext hx) (ho.h2.ext hx) ho.l2 ho.m2 (by omega) hw.wx)
        have K3 := Lib.hid (fun w' (hx : Ext w w') => hSe V F true o.x o.v w' (hf.ext hx) hw.wx hw.wv)
        have KQ := Lib.hid (fun w' => rright14_any V F w')
        have KP := Lib.hid (fun w' (hx : Ext w w') => hR V F w' (hf.ext hx))
        have KS := Lib.hid (fun w' (hx : Ext w w') => hS V F U G w' (hf.ext hx) (hg.ext hx) sF sG)
        have KR := Lib.hid (fun w' (hx : Ext w w') => rsame14_any V F U G w' (hf.ext hx) (hg.ext hx) sF.all sG.all)
        have KC := Lib.hid (fun w' (hx : Ext w w') => hC V F w' (hf.ext hx) sF)
        have KR2 := Lib.hid (fun w' VC (hx : Ext w w') (hc : FilAt w' VC F) => rsame14_v (sameF_self F) w' hc (hf.ext hx) sF.all sF.all)
        unfold SlP at K1
        unfold FP at K2 K3
        generalize sameF F G = B at KS KR
        generalize swF F o.x o.nr o.R = X2 at K2
        generalize seF F true o.x o.v = X3 at K3
        generalize bitN F false o.x o.c = N1 at K1
        generalize bitL F false o.x = L1 at K1
        cases hr : rightB F with
        | false =>
          rw [(bitE_no (x := o.x) (k := o.c) false hr).1] at K1
          rw [swE_wrong hr] at K2
          rw [seE_wrong hr] at K3
          rw [hr] at KQ KP
          clear hf hg ho hw bF bG hb1 hb2 hR hB hSW hSe hS hC sure h1 h2 h3 hr sF sG
          go_enter Try.func4, Try.ntmps4
          go_upto_region 1 with fail
          obtain ⟨W0, hW0, HX, He⟩ : ∃ W0, W0 = (((w.alloc (.cells (filC V F) 31)).alloc (.cells (filC U G) 31)).alloc (.cells (opeC X o) 40)) ∧ Hid (∀ W, Ext W0 W → W.heap[w.heap.size]? = some (.cells (filC V F) 31 (0, 0)) ∧ W.heap[w.heap.size + 1]? = some (.cells (filC U G) 31 (0, 0)) ∧ W.heap[w.heap.size + 1 + 1]? = some (.cells (opeC X o) 40 (0, 0))) ∧ Hid (Ext w W0) :=
            ⟨_, rfl, Lib.hid (fun W hx => any_boxes w _ _ _ _ _ _ hx), Lib.hid ((((Ext.alloc w _).alloc' _).alloc' _))⟩
          rw [← hW0]
          clear hW0
          have g0 := HX.out W0 (Ext.refl _)
          have gA := g0.1
          clear g0
          go_wp2_with (first | (refine wpList_load_row rfl 31 (.tmp 3) rfl (w.heap.size) rfl 31 _ (0, 0) _ gA Try.underlying31 rfl (by kernel_rfl) ?_))
          refine (KF.out _).mono ?_; rintro e w1 ⟨rfl, x1⟩
          have gB := (HX.out _ x1).2.1
          clear gA
          go_wp2_with (first | (refine wpList_load_row_g (by rfl) 31 (.tmp 4) rfl (w.heap.size + 1) rfl 31 _ (0, 0) _ gB Try.underlying31 rfl (by kernel_rfl) ?_))
          refine (KG.out _).mono ?_; rintro e w2 ⟨rfl, x2⟩
          have x2 := x1.trans x2
          obtain ⟨k1, k2, k3, k4, k5⟩ := ope_cells (HX.out _ x2).2.2
          have gA := (HX.out _ x2).1
          clear gB x1
          go_wp2_with (first | (refine wpList_load_row rfl 31 (.tmp 3) rfl (w.heap.size) rfl 31 _ (0, 0) _ gA Try.underlying31 rfl (by kernel_rfl) ?_))
          refine (K1.out _ (He.out.trans x2)).mono ?_; rintro e w3 ⟨p1, q1, rfl, -, -, -, x3, -⟩
          have x3 := x2.trans x3
          clear k1 k2 k3 k4 k5 gA x2
          obtain ⟨k1, k2, k3, k4, k5⟩ := ope_cells (HX.out _ x3).2.2
          have gA := (HX.out _ x3).1
          go_wp2_with (first | (refine wpList_load_row rfl 31 (.tmp 3) rfl (w.heap.size) rfl 31 _ (0, 0) _ gA Try.underlying31 rfl (by kernel_rfl) ?_))
          refine (K2.out _ (He.out.trans x3)).mono ?_; rintro e w4 ⟨V4, rfl, -, x4, -⟩
          obtain ⟨W4, hW4, y4, -⟩ : ∃ W, W = ((w4.alloc (.cells #[.int .i64 0, .int .i64 0, .int .i64 0, .int .i64 0, .int .i64 0, .int .i64 0, .int .i64 0, .int .i64 0, .int .i64 0, .int .i64 0, .slice none 0 0, .slice none 0 0, .slice none 0 0, .slice none 0 0] 31)).setRow w4.heap.size (filC V4 X2)) ∧ Ext w4 W ∧ W.heap[w4.heap.size]? = some (.cells (filC V4 X2) 31 (0, 0)) := ⟨_, rfl, boxed_row _ _ _ _⟩
          have x4 := x3.trans (x4.trans y4)
          clear k1 k2 k3 k4 k5 gA x3 y4
          rw [hW4] at x4
          obtain ⟨k1, k2, k3, k4, k5⟩ := ope_cells (HX.out _ x4).2.2
          have gA := (HX.out _ x4).1
          go_wp2_with (first
            | (refine wpList_store_row rfl 31 (.tmp 9) (.tmp 49) rfl (w4.heap.size) _ rfl rfl 31 _ (heap_alloc_new w4 _) (by kernel_rfl) rfl (by simp [filC, Value.oneCell']) ?_)
            | (refine wpList_load_row rfl 31 (.tmp 3) rfl (w.heap.size) rfl 31 _ (0, 0) _ gA Try.underlying31 rfl (by kernel_rfl) ?_))
          rw [← hW4] at x4 ⊢
          clear hW4 k1 k2 k3 k4 k5 gA
          generalize w4.heap.size = G4
          refine (K3.out _ (He.out.trans x4)).mono ?_; rintro e w5 ⟨V5, rfl, -, x5, -⟩
          obtain ⟨W5, hW5, y5, -⟩ : ∃ W, W = ((w5.alloc (.cells #[.int .i64 0, .int .i64 0, .int .i64 0, .int .i64 0, .int .i64 0, .int .i64 0, .int .i64 0, .int .i64 0, .int .i64 0, .int .i64 0, .slice none 0 0, .slice none 0 0, .slice none 0 0, .slice none 0 0] 31)).setRow w5.heap.size (filC V5 X3)) ∧ Ext w5 W ∧ W.heap[w5.heap.size]? = some (.cells (filC V5 X3) 31 (0, 0)) := ⟨_, rfl, boxed_row _ _ _ _⟩
          have x5 := x4.trans (x5.trans y5)
          clear x4 y5
          rw [hW5] at x5
          have gA := (HX.out _ x5).1
          go_wp2_with (first
            | (refine wpList_store_row rfl 31 (.tmp 11) (.tmp 58) rfl (w5.heap.size) _ rfl rfl 31 _ (heap_alloc_new w5 _) (by kernel_rfl) rfl (by simp [filC, Value.oneCell']) ?_)
            | (refine wpList_load_row rfl 31 (.tmp 3) rfl (w.heap.size) rfl 31 _ (0, 0) _ gA Try.underlying31 rfl (by kernel_rfl) ?_))
          rw [← hW5] at x5 ⊢
          clear hW5 gA
          generalize w5.heap.size = G5
          refine (KQ.out _).mono ?_; rintro e w6 ⟨rfl, x6⟩
          have x6 := x5.trans x6
          have gA := (HX.out _ x6).1
          clear x5
          go_wp2_with (first | (refine wpList_load_row rfl 31 (.tmp 3) rfl (w.heap.size) rfl 31 _ (0, 0) _ gA Try.underlying31 rfl (by kernel_rfl) ?_))
          refine (KP.out _ (He.out.trans x6)).mono ?_; rintro e w7 ⟨rfl, x7⟩
          have x7 := x6.trans x7
          clear gA x6
          go_wp2_with fail
          have hs := x7.trans (Ext.drew w7)
          refine wp_region_held_drew (S := fun W => Ext W0 W) (by kernel_rfl) hs (fun _ => ?_)
          refine wpAnyH_takeD (i := 0) (d := 82) rfl rfl (by kernel_rfl) (by kernel_rfl) (by kernel_rfl) (fun _ _ _ h => h) (yieldsIf_load_row (by rfl) 31 (.tmp 3) rfl (w.heap.size) rfl 31 _ (0, 0) _ (fun w' hw' => (HX.out _ hw').1) Try.underlying31 rfl (by kernel_rfl)) hs ?_
          simp only [Act.put, List.setIfInBounds_toArray, List.set_cons_succ, List.set_cons_zero]
          refine wpAnyH_takeD (i := 1) (d := 83) rfl rfl (by kernel_rfl) (by kernel_rfl) (by kernel_rfl) (fun _ _ _ h => h) (yieldsIf_load_row (by rfl) 31 (.tmp 4) rfl (w.heap.size + 1) rfl 31 _ (0, 0) _ (fun w' hw' => (HX.out _ hw').2.1) Try.underlying31 rfl (by kernel_rfl)) hs ?_
          simp only [Act.put, List.setIfInBounds_toArray, List.set_cons_succ, List.set_cons_zero]
          refine wpAnyH_takeD (i := 3) (d := 85) rfl rfl (by kernel_rfl) (by kernel_rfl) (by kernel_rfl) (fun _ _ _ h => h) (yieldsIf_load_row (by rfl) 31 (.tmp 3) rfl (w.heap.size) rfl 31 _ (0, 0) _ (fun w' hw' => (HX.out _ hw').1) Try.underlying31 rfl (by kernel_rfl)) hs ?_
          simp only [Act.put, List.setIfInBounds_toArray, List.set_cons_succ, List.set_cons_zero]
          refine wpAnyH_takeD (i := 4) (d := 86) rfl rfl (by kernel_rfl) (by kernel_rfl) (by kernel_rfl) (fun _ _ _ h => h) (yieldsIf_load_row (by rfl) 31 (.tmp 4) rfl (w.heap.size + 1) rfl 31 _ (0, 0) _ (fun w' hw' => (HX.out _ hw').2.1) Try.underlying31 rfl (by kernel_rfl)) hs ?_
          simp only [Act.put, List.setIfInBounds_toArray, List.set_cons_succ, List.set_cons_zero]
          refine wpAnyH_ready (rs := [2]) (by kernel_rfl) (by simp) (AllReadyH.cons rfl (fun K hK => ?_) AllReadyH.nil)
          go_simp
          go_at_call 24
          refine (KS.out _ (He.out.trans hs)).mono ?_; rintro e W2 ⟨rfl, y⟩
          go_wp2_with fail
          refine hK.out _ _ (hs.trans y) (fun hs => ?_)
          clear hK K y
          refine wpAnyH_ready (rs := [5]) (by kernel_rfl) (by simp) (AllReadyH.cons rfl (fun K hK => ?_) AllReadyH.nil)
          go_simp
          go_at_call 10
          refine (KR.out _ (He.out.trans hs)).mono ?_; rintro e W5 ⟨rfl, y⟩
          go_wp2_with fail
          refine hK.out _ _ (hs.trans y) (fun hs => ?_)
          clear hK K y
          refine wpAnyH_takeD (i := 6) (d := 88) (v := .bool true) rfl rfl (by kernel_rfl) (by kernel_rfl) (by kernel_rfl) (fun _ _ _ h => h) (Or.inl ⟨by rfl, fun W hW => by go_simp⟩) hs ?_
          simp only [Act.put, List.setIfInBounds_toArray, List.set_cons_succ, List.set_cons_zero]
          refine wpAnyH_takeD (i := 7) (d := 89) (v := .bool true) rfl rfl (by kernel_rfl) (by kernel_rfl) (by kernel_rfl) (fun _ _ _ h => h) (Or.inl ⟨by rfl, fun W hW => by go_simp⟩) hs ?_
          simp only [Act.put, List.setIfInBounds_toArray, List.set_cons_succ, List.set_cons_zero]
          refine wpAnyH_takeD (i := 8) (d := 90) rfl rfl (by kernel_rfl) (by kernel_rfl) (by kernel_rfl) (fun _ _ _ h => h) (yieldsIf_load_row (by rfl) 31 (.tmp 3) rfl (w.heap.size) rfl 31 _ (0, 0) _ (fun w' hw' => (HX.out _ hw').1) Try.underlying31 rfl (by kernel_rfl)) hs ?_
          simp only [Act.put, List.setIfInBounds_toArray, List.set_cons_succ, List.set_cons_zero]
          refine wpAnyH_takeD (i := 10) (d := 92) rfl rfl (by kernel_rfl) (by kernel_rfl) (by kernel_rfl) (fun _ _ _ h => h) (yieldsIf_load_row (by rfl) 31 (.tmp 3) rfl (w.heap.size) rfl 31 _ (0, 0) _ (fun w' hw' => (HX.out _ hw').1) Try.underlying31 rfl (by kernel_rfl)) hs ?_
          simp only [Act.put, List.setIfInBounds_toArray, List.set_cons_succ, List.set_cons_zero]
          refine wpAnyH_ready (rs := [9]) (by kernel_rfl) (by simp) (AllReadyH.cons rfl (fun K hK => ?_) AllReadyH.nil)
          go_simp
          go_at_call 25
          refine (KC.out _ (He.out.trans hs)).mono ?_; rintro e W9 ⟨VC, rfl, hc, y, -⟩
          go_wp2_with fail
          refine hK.out _ _ (hs.trans y) (fun hs => ?_)
          clear hK K y
          refine wpAnyH_ready (rs := [11]) (by kernel_rfl) (by simp) (AllReadyH.cons rfl (fun K hK => ?_) AllReadyH.nil)
          go_simp
          go_at_call 10
          refine (KR2.out _ VC (He.out.trans hs) hc).mono ?_; rintro e W11 ⟨rfl, y⟩
          go_wp2_with fail
          refine hK.out _ _ (hs.trans y) (fun hs => ?_)
          clear hK K y
          refine wpAnyH_takeD (i := 12) (d := 94) (v := .bool true) rfl rfl (by kernel_rfl) (by kernel_rfl) (by kernel_rfl) (fun _ _ _ h => h) (Or.inl ⟨by rfl, fun W hW => by go_simp⟩) hs ?_
          simp only [Act.put, List.setIfInBounds_toArray, List.set_cons_succ, List.set_cons_zero]
          refine wpAnyH_takeD (i := 13) (d := 95) (v := .bool true) rfl rfl (by kernel_rfl) (by kernel_rfl) (by kernel_rfl) (fun _ _ _ h => h) (Or.inl ⟨by rfl, fun W hW => by go_simp⟩) hs ?_
          simp only [Act.put, List.setIfInBounds_toArray, List.set_cons_succ, List.set_cons_zero]
          refine wpAnyH_ready (rs := [14]) (by kernel_rfl) (by simp) (AllReadyH.cons rfl (fun K hK => ?_) AllReadyH.nil)
          go_simp
          go_at_call 7
          refine (HS.out _).mono ?_; rintro e W14 ⟨rfl, y⟩
          go_wp2_with fail
          refine hK.out _ _ (hs.trans y) (fun hs => ?_)
          clear hK K y
          refine wpAnyH_takeD (i := 15) (d := 97) (v := .bool true) rfl rfl (by kernel_rfl) (by kernel_rfl) (by kernel_rfl) (fun _ _ _ h => h) (Or.inl ⟨by rfl, fun W hW => by go_simp⟩) hs ?_
          simp only [Act.put, List.setIfInBounds_toArray, List.set_cons_succ, List.set_cons_zero]
          refine wpAnyH_takeD (i := 16) (d := 6) (v := .bool true) rfl rfl (by kernel_rfl) (by kernel_rfl) (by kernel_rfl) (fun _ _ _ h => h) (Or.inl ⟨by rfl, fun W hW => by go_simp⟩) hs ?_
          simp only [Act.put, List.setIfInBounds_toArray, List.set_cons_succ, List.set_cons_zero]
          refine wpAnyH_done (by kernel_rfl) ?_ _
          go_wp2
          go_ret
          exact ⟨rfl, He.out.trans hs⟩
        | true =>
          rw [hr] at KQ KP
          generalize bitE F false o.x o.c = E1 at K1
          generalize swE F o.x o.nr = E2 at K2
          generalize seE F true o.x = E3 at K3
          clear hf hg ho hw bF bG hb1 hb2 hR hB hSW hSe hS hC sure h1 h2 h3 hr sF sG
          go_enter Try.func4, Try.ntmps4
          go_upto_region 1 with fail
          obtain ⟨W0, hW0, HX, He⟩ : ∃ W0, W0 = (((w.alloc (.cells (filC V F) 31)).alloc (.cells (filC U G) 31)).alloc (.cells (opeC X o) 40)) ∧ Hid (∀ W, Ext W0 W → W.heap[w.heap.size]? = some (.cells (filC V F) 31 (0, 0)) ∧ W.heap[w.heap.size + 1]? = some (.cells (filC U G) 31 (0, 0)) ∧ W.heap[w.heap.size + 1 + 1]? = some (.cells (opeC X o) 40 (0, 0))) ∧ Hid (Ext w W0) :=
            ⟨_, rfl, Lib.hid (fun W hx => any_boxes w _ _ _ _ _ _ hx), Lib.hid ((((Ext.alloc w _).alloc' _).alloc' _))⟩
          rw [← hW0]
          clear hW0
          have g0 := HX.out W0 (Ext.refl _)
          have gA := g0.1
          clear g0
          go_wp2_with (first | (refine wpList_load_row rfl 31 (.tmp 3) rfl (w.heap.size) rfl 31 _ (0, 0) _ gA Try.underlying31 rfl (by kernel_rfl) ?_))
          refine (KF.out _).mono ?_; rintro e w1 ⟨rfl, x1⟩
          have gB := (HX.out _ x1).2.1
          clear gA
          go_wp2_with (first | (refine wpList_load_row_g (by rfl) 31 (.tmp 4) rfl (w.heap.size + 1) rfl 31 _ (0, 0) _ gB Try.underlying31 rfl (by kernel_rfl) ?_))
          refine (KG.out _).mono ?_; rintro e w2 ⟨rfl, x2⟩
          have x2 := x1.trans x2
          obtain ⟨k1, k2, k3, k4, k5⟩ := ope_cells (HX.out _ x2).2.2
          have gA := (HX.out _ x2).1
          clear gB x1
          go_wp2_with (first | (refine wpList_load_row rfl 31 (.tmp 3) rfl (w.heap.size) rfl 31 _ (0, 0) _ gA Try.underlying31 rfl (by kernel_rfl) ?_))
          refine (K1.out _ (He.out.trans x2)).mono ?_; rintro e w3 ⟨p1, q1, rfl, -, -, -, x3, -⟩
          have x3 := x2.trans x3
          clear k1 k2 k3 k4 k5 gA x2
          obtain ⟨k1, k2, k3, k4, k5⟩ := ope_cells (HX.out _ x3).2.2
          have gA := (HX.out _ x3).1
          go_wp2_with (first | (refine wpList_load_row rfl 31 (.tmp 3) rfl (w.heap.size) rfl 31 _ (0, 0) _ gA Try.underlying31 rfl (by kernel_rfl) ?_))
          refine (K2.out _ (He.out.trans x3)).mono ?_; rintro e w4 ⟨V4, rfl, -, x4, -⟩
          obtain ⟨W4, hW4, y4, -⟩ : ∃ W, W = ((w4.alloc (.cells #[.int .i64 0, .int .i64 0, .int .i64 0, .int .i64 0, .int .i64 0, .int .i64 0, .int .i64 0, .int .i64 0, .int .i64 0, .int .i64 0, .slice none 0 0, .slice none 0 0, .slice none 0 0, .slice none 0 0] 31)).setRow w4.heap.size (filC V4 X2)) ∧ Ext w4 W ∧ W.heap[w4.heap.size]? = some (.cells (filC V4 X2) 31 (0, 0)) := ⟨_, rfl, boxed_row _ _ _ _⟩
          have x4 := x3.trans (x4.trans y4)
          clear k1 k2 k3 k4 k5 gA x3 y4
          rw [hW4] at x4
          obtain ⟨k1, k2, k3, k4, k5⟩ := ope_cells (HX.out _ x4).2.2
          have gA := (HX.out _ x4).1
          go_wp2_with (first
            | (refine wpList_store_row rfl 31 (.tmp 9) (.tmp 49) rfl (w4.heap.size) _ rfl rfl 31 _ (heap_alloc_new w4 _) (by kernel_rfl) rfl (by simp [filC, Value.oneCell']) ?_)
            | (refine wpList_load_row rfl 31 (.tmp 3) rfl (w.heap.size) rfl 31 _ (0, 0) _ gA Try.underlying31 rfl (by kernel_rfl) ?_))
          rw [← hW4] at x4 ⊢
          clear hW4 k1 k2 k3 k4 k5 gA
          generalize w4.heap.size = G4
          refine (K3.out _ (He.out.trans x4)).mono ?_; rintro e w5 ⟨V5, rfl, -, x5, -⟩
          obtain ⟨W5, hW5, y5, -⟩ : ∃ W, W = ((w5.alloc (.cells #[.int .i64 0, .int .i64 0, .int .i64 0, .int .i64 0, .int .i64 0, .int .i64 0, .int .i64 0, .int .i64 0, .int .i64 0, .int .i64 0, .slice none 0 0, .slice none 0 0, .slice none 0 0, .slice none 0 0] 31)).setRow w5.heap.size (filC V5 X3)) ∧ Ext w5 W ∧ W.heap[w5.heap.size]? = some (.cells (filC V5 X3) 31 (0, 0)) := ⟨_, rfl, boxed_row _ _ _ _⟩
          have x5 := x4.trans (x5.trans y5)
          clear x4 y5
          rw [hW5] at x5
          have gA := (HX.out _ x5).1
          go_wp2_with (first
            | (refine wpList_store_row rfl 31 (.tmp 11) (.tmp 58) rfl (w5.heap.size) _ rfl rfl 31 _ (heap_alloc_new w5 _) (by kernel_rfl) rfl (by simp [filC, Value.oneCell']) ?_)
            | (refine wpList_load_row rfl 31 (.tmp 3) rfl (w.heap.size) rfl 31 _ (0, 0) _ gA Try.underlying31 rfl (by kernel_rfl) ?_))
          rw [← hW5] at x5 ⊢
          clear hW5 gA
          generalize w5.heap.size = G5
          refine (KQ.out _).mono ?_; rintro e w6 ⟨rfl, x6⟩
          have x6 := x5.trans x6
          have gA := (HX.out _ x6).1
          clear x5
          go_wp2_with (first | (refine wpList_load_row rfl 31 (.tmp 3) rfl (w.heap.size) rfl 31 _ (0, 0) _ gA Try.underlying31 rfl (by kernel_rfl) ?_))
          refine (KP.out _ (He.out.trans x6)).mono ?_; rintro e w7 ⟨rfl, x7⟩
          have x7 := x6.trans x7
          clear gA x6
          go_wp2_with fail
          have hs := x7.trans (Ext.drew w7)
          refine wp_region_held_drew (S := fun W => Ext W0 W) (by kernel_rfl) hs (fun _ => ?_)
          refine wpAnyH_takeD (i := 0) (d := 82) rfl rfl (by kernel_rfl) (by kernel_rfl) (by kernel_rfl) (fun _ _ _ h => h) (yieldsIf_load_row (by rfl) 31 (.tmp 3) rfl (w.heap.size) rfl 31 _ (0, 0) _ (fun w' hw' => (HX.out _ hw').1) Try.underlying31 rfl (by kernel_rfl)) hs ?_
          simp only [Act.put, List.setIfInBounds_toArray, List.set_cons_succ, List.set_cons_zero]
          refine wpAnyH_takeD (i := 1) (d := 83) rfl rfl (by kernel_rfl) (by kernel_rfl) (by kernel_rfl) (fun _ _ _ h => h) (yieldsIf_load_row (by rfl) 31 (.tmp 4) rfl (w.heap.size + 1) rfl 31 _ (0, 0) _ (fun w' hw' => (HX.out _ hw').2.1) Try.underlying31 rfl (by kernel_rfl)) hs ?_
          simp only [Act.put, List.setIfInBounds_toArray, List.set_cons_succ, List.set_cons_zero]
          refine wpAnyH_takeD (i := 3) (d := 85) rfl rfl (by kernel_rfl) (by kernel_rfl) (by kernel_rfl) (fun _ _ _ h => h) (yieldsIf_load_row (by rfl) 31 (.tmp 3) rfl (w.heap.size) rfl 31 _ (0, 0) _ (fun w' hw' => (HX.out _ hw').1) Try.underlying31 rfl (by kernel_rfl)) hs ?_
          simp only [Act.put, List.setIfInBounds_toArray, List.set_cons_succ, List.set_cons_zero]
          refine wpAnyH_takeD (i := 4) (d := 86) rfl rfl (by kernel_rfl) (by kernel_rfl) (by kernel_rfl) (fun _ _ _ h => h) (yieldsIf_load_row (by rfl) 31 (.tmp 4) rfl (w.heap.size + 1) rfl 31 _ (0, 0) _ (fun w' hw' => (HX.out _ hw').2.1) Try.underlying31 rfl (by kernel_rfl)) hs ?_
          simp only [Act.put, List.setIfInBounds_toArray, List.set_cons_succ, List.set_cons_zero]
          refine wpAnyH_ready (rs := [2]) (by kernel_rfl) (by simp) (AllReadyH.cons rfl (fun K hK => ?_) AllReadyH.nil)
          go_simp
          go_at_call 24
          refine (KS.out _ (He.out.trans hs)).mono ?_; rintro e W2 ⟨rfl, y⟩
          go_wp2_with fail
          refine hK.out _ _ (hs.trans y) (fun hs => ?_)
          clear hK K y
          refine wpAnyH_ready (rs := [5]) (by kernel_rfl) (by simp) (AllReadyH.cons rfl (fun K hK => ?_) AllReadyH.nil)
          go_simp
          go_at_call 10
          refine (KR.out _ (He.out.trans hs)).mono ?_; rintro e W5 ⟨rfl, y⟩
          go_wp2_with fail
          refine hK.out _ _ (hs.trans y) (fun hs => ?_)
          clear hK K y
          refine wpAnyH_takeD (i := 6) (d := 88) (v := .bool true) rfl rfl (by kernel_rfl) (by kernel_rfl) (by kernel_rfl) (fun _ _ _ h => h) (Or.inl ⟨by rfl, fun W hW => by go_simp⟩) hs ?_
          simp only [Act.put, List.setIfInBounds_toArray, List.set_cons_succ, List.set_cons_zero]
          refine wpAnyH_takeD (i := 7) (d := 89) (v := .bool true) rfl rfl (by kernel_rfl) (by kernel_rfl) (by kernel_rfl) (fun _ _ _ h => h) (Or.inl ⟨by rfl, fun W hW => by go_simp⟩) hs ?_
          simp only [Act.put, List.setIfInBounds_toArray, List.set_cons_succ, List.set_cons_zero]
          refine wpAnyH_takeD (i := 8) (d := 90) rfl rfl (by kernel_rfl) (by kernel_rfl) (by kernel_rfl) (fun _ _ _ h => h) (yieldsIf_load_row (by rfl) 31 (.tmp 3) rfl (w.heap.size) rfl 31 _ (0, 0) _ (fun w' hw' => (HX.out _ hw').1) Try.underlying31 rfl (by kernel_rfl)) hs ?_
          simp only [Act.put, List.setIfInBounds_toArray, List.set_cons_succ, List.set_cons_zero]
          refine wpAnyH_takeD (i := 10) (d := 92) rfl rfl (by kernel_rfl) (by kernel_rfl) (by kernel_rfl) (fun _ _ _ h => h) (yieldsIf_load_row (by rfl) 31 (.tmp 3) rfl (w.heap.size) rfl 31 _ (0, 0) _ (fun w' hw' => (HX.out _ hw').1) Try.underlying31 rfl (by kernel_rfl)) hs ?_
          simp only [Act.put, List.setIfInBounds_toArray, List.set_cons_succ, List.set_cons_zero]
          refine wpAnyH_ready (rs := [9]) (by kernel_rfl) (by simp) (AllReadyH.cons rfl (fun K hK => ?_) AllReadyH.nil)
          go_simp
          go_at_call 25
          refine (KC.out _ (He.out.trans hs)).mono ?_; rintro e W9 ⟨VC, rfl, hc, y, -⟩
          go_wp2_with fail
          refine hK.out _ _ (hs.trans y) (fun hs => ?_)
          clear hK K y
          refine wpAnyH_ready (rs := [11]) (by kernel_rfl) (by simp) (AllReadyH.cons rfl (fun K hK => ?_) AllReadyH.nil)
          go_simp
          go_at_call 10
          refine (KR2.out _ VC (He.out.trans hs) hc).mono ?_; rintro e W11 ⟨rfl, y⟩
          go_wp2_with fail
          refine hK.out _ _ (hs.trans y) (fun hs => ?_)
          clear hK K y
          refine wpAnyH_takeD (i := 12) (d := 94) (v := .bool true) rfl rfl (by kernel_rfl) (by kernel_rfl) (by kernel_rfl) (fun _ _ _ h => h) (Or.inl ⟨by rfl, fun W hW => by go_simp⟩) hs ?_
          simp only [Act.put, List.setIfInBounds_toArray, List.set_cons_succ, List.set_cons_zero]
          refine wpAnyH_takeD (i := 13) (d := 95) (v := .bool true) rfl rfl (by kernel_rfl) (by kernel_rfl) (by kernel_rfl) (fun _ _ _ h => h) (Or.inl ⟨by rfl, fun W hW => by go_simp⟩) hs ?_
          simp only [Act.put, List.setIfInBounds_toArray, List.set_cons_succ, List.set_cons_zero]
          refine wpAnyH_ready (rs := [14]) (by kernel_rfl) (by simp) (AllReadyH.cons rfl (fun K hK => ?_) AllReadyH.nil)
          go_simp
          go_at_call 7
          refine (HS.out _).mono ?_; rintro e W14 ⟨rfl, y⟩
          go_wp2_with fail
          refine hK.out _ _ (hs.trans y) (fun hs => ?_)
          clear hK K y
          refine wpAnyH_takeD (i := 15) (d := 97) (v := .bool true) rfl rfl (by kernel_rfl) (by kernel_rfl) (by kernel_rfl) (fun _ _ _ h => h) (Or.inl ⟨by rfl, fun W hW => by go_simp⟩) hs ?_
          simp only [Act.put, List.setIfInBounds_toArray, List.set_cons_succ, List.set_cons_zero]
          refine wpAnyH_takeD (i := 16) (d := 6) (v := .bool true) rfl rfl (by kernel_rfl) (by kernel_rfl) (by kernel_rfl) (fun _ _ _ h => h) (Or.inl ⟨by rfl, fun W hW => by go_simp⟩) hs ?_
          simp only [Act.put, List.setIfInBounds_toArray, List.set_cons_succ, List.set_cons_zero]
          refine wpAnyH_done (by kernel_rfl) ?_ _
          go_wp2
          go_ret
          exact ⟨rfl, He.out.trans hs⟩
    · rw [decide_eq_false h2] at KG
      clear hf hg ho hw bF bG hb1 hb2 hR hB hSW hSe hS hC sure h1 h2
      go_enter Try.func4, Try.ntmps4
      go_upto_region 1 with fail
      obtain ⟨W0, hW0, HX, He⟩ : ∃ W0, W0 = (((w.alloc (.cells (filC V F) 31)).alloc (.cells (filC U G) 31)).alloc (.cells (opeC X o) 40)) ∧ Hid (∀ W, Ext W0 W → W.heap[w.heap.size]? = some (.cells (filC V F) 31 (0, 0)) ∧ W.heap[w.heap.size + 1]? = some (.cells (filC U G) 31 (0, 0)) ∧ W.heap[w.heap.size + 1 + 1]? = some (.cells (opeC X o) 40 (0, 0))) ∧ Hid (Ext w W0) :=
        ⟨_, rfl, Lib.hid (fun W hx => any_boxes w _ _ _ _ _ _ hx), Lib.hid ((((Ext.alloc w _).alloc' _).alloc' _))⟩
      rw [← hW0]
      clear hW0
      have g0 := HX.out W0 (Ext.refl _)
      have gA := g0.1
      clear g0
      go_wp2_with (first | (refine wpList_load_row rfl 31 (.tmp 3) rfl (w.heap.size) rfl 31 _ (0, 0) _ gA Try.underlying31 rfl (by kernel_rfl) ?_))
      refine (KF.out _).mono ?_; rintro e w1 ⟨rfl, x1⟩
      have gB := (HX.out _ x1).2.1
      clear gA
      go_wp2_with (first | (refine wpList_load_row_g (by rfl) 31 (.tmp 4) rfl (w.heap.size + 1) rfl 31 _ (0, 0) _ gB Try.underlying31 rfl (by kernel_rfl) ?_))
      refine (KG.out _).mono ?_; rintro e w2 ⟨rfl, x2⟩
      have X := x1.trans x2
      clear gB x1 x2
      go_wp2_with fail
      refine (HS.out _).mono ?_; rintro e w9 ⟨rfl, y9⟩
      go_wp2
      go_ret
      exact ⟨rfl, He.out.trans (X.trans y9)⟩
  · rw [decide_eq_false h1] at KF
    clear hf hg ho hw bF bG hb1 hb2 hR hB hSW hSe hS hC sure h1
    go_enter Try.func4, Try.ntmps4
    go_upto_region 1 with fail
    obtain ⟨W0, hW0, HX, He⟩ : ∃ W0, W0 = (((w.alloc (.cells (filC V F) 31)).alloc (.cells (filC U G) 31)).alloc (.cells (opeC X o) 40)) ∧ Hid (∀ W, Ext W0 W → W.heap[w.heap.size]? = some (.cells (filC V F) 31 (0, 0)) ∧ W.heap[w.heap.size + 1]? = some (.cells (filC U G) 31 (0, 0)) ∧ W.heap[w.heap.size + 1 + 1]? = some (.cells (opeC X o) 40 (0, 0))) ∧ Hid (Ext w W0) :=
      ⟨_, rfl, Lib.hid (fun W hx => any_boxes w _ _ _ _ _ _ hx), Lib.hid ((((Ext.alloc w _).alloc' _).alloc' _))⟩
    rw [← hW0]
    clear hW0
    have g0 := HX.out W0 (Ext.refl _)
    have gA := g0.1
    clear g0
    go_wp2_with (first | (refine wpList_load_row rfl 31 (.tmp 3) rfl (w.heap.size) rfl 31 _ (0, 0) _ gA Try.underlying31 rfl (by kernel_rfl) ?_))
    refine (KF.out _).mono ?_; rintro e w1 ⟨rfl, x1⟩
    have gB := (HX.out _ x1).2.1
    clear gA
    have X := x1
    clear gB x1
    go_wp2_with fail
    refine (HS.out _).mono ?_; rintro e w9 ⟨rfl, y9⟩
    go_wp2
    go_ret
    exact ⟨rfl, He.out.trans (X.trans y9)⟩
end Go.Proofs.Ytkfpnijacfeogaa
