/-
  CONTRACTS: package file (layer 14): a table written.
-/
import Derived.Test.YtkfpnijacfeogaaFilW
namespace Go.Proofs.Ytkfpnijacfeogaa
open Go.RowKit
set_option linter.unusedVariables false

theorem not_block {a b : Nat} (h : a < b) : (b : Nat) ≠ a := by omega
set_option maxRecDepth 100000 in
set_option maxHeartbeats 2000000 in
theorem fwritebool_no (V : FilV) (F : Fil) (T G : FuncId) (x : Int) (b : Option Addr) (m e : Nat) (w : World) (hr : rightB F = false) :
    Calls Try.prog 46 #[.agg (filC V F), .func (Fn.func T) #[] #[], .func (Fn.func G) #[] #[], .int .i64 x, .slice b m e] w (FP 11 zeroF V F w) := by
  unfold FP
  have HR := Lib.hid (fun w' => fright_v (V := V) hr w')
  have e0 := (Ext.alloc w (.cells (filC V F) 31)).trans (Ext.alloc _ (.cells (filC zeroV zeroF) 31))
  obtain ⟨gA, gR⟩ := two_boxes w (filC V F) (filC zeroV zeroF) 31 31
  clear hr gA
  unfold filC at HR e0 gR ⊢
  dsimp only [zeroV, zeroF] at e0 gR
  go_enter Try.func46, Try.ntmps46
  go_wp2_with fail
  refine (HR.out _).mono ?_; rintro e w1 ⟨rfl, x1⟩
  have gR1 := x1.block gR
  have y1 := e0.trans x1
  clear x1 e0 gR
  go_wp2_with (first | (refine wpList_store_row rfl 31 (.tmp 10) (.tmp 20) rfl (w.heap.size + 1) _ rfl rfl 31 _ gR1 (by kernel_rfl) rfl (by simp [Value.oneCell']) ?_))
  refine bodyPost_ret (results_row_tmp rfl _ _ (w.heap.size + 1) 31 _ (0, 0) _ rfl (setRow_heap _ _ _ _ _ _ gR1) Try.underlying31 rfl (by kernel_rfl)) rfl ⟨zeroV, by rfl, zero_at _, below_setRow y1 (Nat.le_succ _) _, From.zero _ _ _⟩
set_option maxRecDepth 100000 in
set_option maxHeartbeats 2000000 in
theorem fwriteuint16_no (V : FilV) (F : Fil) (T G : FuncId) (x : Int) (b : Option Addr) (m e : Nat) (w : World) (hr : rightB F = false) :
    Calls Try.prog 44 #[.agg (filC V F), .func (Fn.func T) #[] #[], .func (Fn.func G) #[] #[], .int .i64 x, .slice b m e] w (FP 11 zeroF V F w) := by
  unfold FP
  have HR := Lib.hid (fun w' => fright_v (V := V) hr w')
  have e0 := (Ext.alloc w (.cells (filC V F) 31)).trans (Ext.alloc _ (.cells (filC zeroV zeroF) 31))
  obtain ⟨gA, gR⟩ := two_boxes w (filC V F) (filC zeroV zeroF) 31 31
  clear hr gA
  unfold filC at HR e0 gR ⊢
  dsimp only [zeroV, zeroF] at e0 gR
  go_enter Try.func44, Try.ntmps44
  go_wp2_with fail
  refine (HR.out _).mono ?_; rintro e w1 ⟨rfl, x1⟩
  have gR1 := x1.block gR
  have y1 := e0.trans x1
  clear x1 e0 gR
  go_wp2_with (first | (refine wpList_store_row rfl 31 (.tmp 10) (.tmp 20) rfl (w.heap.size + 1) _ rfl rfl 31 _ gR1 (by kernel_rfl) rfl (by simp [Value.oneCell']) ?_))
  refine bodyPost_ret (results_row_tmp rfl _ _ (w.heap.size + 1) 31 _ (0, 0) _ rfl (setRow_heap _ _ _ _ _ _ gR1) Try.underlying31 rfl (by kernel_rfl)) rfl ⟨zeroV, by rfl, zero_at _, below_setRow y1 (Nat.le_succ _) _, From.zero _ _ _⟩
set_option maxRecDepth 100000 in
set_option maxHeartbeats 8000000 in
theorem fwrite_coils (V : FilV) (F : Fil) (x : Int) (b : Option Addr) (m e : Nat) (v : Nat → Bool) (w : World) (h : FilAt w V F) (hv : HoldsG Value.bool w b m v) (hme : m ≤ e) (hem : e ≤ maxLen) (hm : m ≤ 1000000) (wx : (Lit.int .i64 x).wf = true) (hr : rightB F = true) :
    Calls Try.prog 46 #[.agg (filC V F), .func (Fn.func 32) #[] #[], .func (Fn.func 47) #[] #[], .int .i64 x, .slice b m e] w (FP (rdE F.cf F.cc F.nC x m) (if rdE F.cf F.cc F.nC x m = 0 then { F with C := wrF F.C v F.cf x m } else zeroF) V F w) := by
  have hs := right_small hr
  have hsm := Small.of_right hr
  unfold FP
  have HR := Lib.hid (fun w' => fright_v (V := V) hr w')
  have HT := Lib.hid (fun g w' hb => fcoils_v V F g w' hb)
  have K := Lib.hid (fun w' (hx : Ext w w') => (csetbits_f F.cf F.cc x V.a1 F.nC V.d1 F.C b m e v w' (h.h1.ext hx) h.l1 h.m1 (Nat.le_trans hs.1 (by decide)) (hv.ext hx) hme hem (Nat.le_trans hm (by decide)) wx).mono fun _ _ => WrPostF.sl)
  have HC := Lib.hid (fun V' F' w' (hf : FilAt w' V' F') (hz : Small F') => fcopy_c V' F' w' hf hz)
  unfold SlP at K
  obtain ⟨W0, hW0, HX, HE0⟩ : ∃ W0, W0 = ((w.alloc (.cells (filC V F) 31)).alloc (.cells #[.int .i64 0, .int .i64 0, .int .i64 0, .int .i64 0, .int .i64 0, .int .i64 0, .int .i64 0, .int .i64 0, .int .i64 0, .int .i64 0, .slice none 0 0, .slice none 0 0, .slice none 0 0, .slice none 0 0] 31)) ∧ Hid (∀ W, Ext W0 W → W.heap[w.heap.size]? = some (.cells (filC V F) 31 (0, 0)) ∧ W.heap[w.heap.size + 1]? = some (.cells #[.int .i64 0, .int .i64 0, .int .i64 0, .int .i64 0, .int .i64 0, .int .i64 0, .int .i64 0, .int .i64 0, .int .i64 0, .int .i64 0, .slice none 0 0, .slice none 0 0, .slice none 0 0, .slice none 0 0] 31 (0, 0))) ∧ Hid (Ext w W0) :=
    ⟨_, rfl, Lib.hid fun W hx => ⟨hx.block (two_boxes w _ _ _ _).1, hx.block (two_boxes w _ _ _ _).2⟩, Lib.hid ((Ext.alloc w _).trans (Ext.alloc _ _))⟩
  have hsz : w.heap.size + 2 ≤ W0.heap.size := by rw [hW0]; simp
  have HZ := Lib.hid hsz
  have HH := Lib.hid h
  have hN : rdN F.cf F.cc F.nC x m F.nC = if rdE F.cf F.cc F.nC x m = 0 then F.nC else 0 := rfl
  clear h hs hr wx hv hme hem hm hsz
  by_cases hE0 : rdE F.cf F.cc F.nC x m = 0
  · rw [if_pos hE0] at hN ⊢
    rw [hN, hE0] at K
    rw [hE0]
    have hsm' : Small { F with C := wrF F.C v F.cf x m } := ⟨hsm.1, hsm.2, hsm.3, hsm.4⟩
    have HSm := Lib.hid hsm'
    generalize wrF F.C v F.cf x m = L at K HSm ⊢
    clear hN hsm hE0 hsm'
    go_enter Try.func46, Try.ntmps46
    go_upto_region 1 with fail
    rw [← hW0]
    clear hW0
    have gA := (HX.out W0 (Ext.refl _)).1
    go_wp2_with (first | (refine wpList_load_row rfl 31 (.tmp 5) rfl w.heap.size rfl 31 _ (0, 0) _ gA Try.underlying31 rfl (by kernel_rfl) ?_))
    refine (HR.out _).mono ?_; rintro e w1 ⟨rfl, x1⟩
    have gB := (HX.out w1 x1).1
    obtain ⟨W3, hW3, y3, b3⟩ : ∃ W, W = ((w1.alloc (.cells #[.int .i64 0, .int .i64 0, .int .i64 0, .int .i64 0, .int .i64 0, .int .i64 0, .int .i64 0, .int .i64 0, .int .i64 0, .int .i64 0, .slice none 0 0, .slice none 0 0, .slice none 0 0, .slice none 0 0] 96)).setRow w1.heap.size (filC V F)) ∧ Ext w1 W ∧ W.heap[w1.heap.size]? = some (.cells (filC V F) 96 (0, 0)) := ⟨_, rfl, boxed_row _ _ _ _⟩
    have gN := heap_alloc_new w1 (.cells #[.int .i64 0, .int .i64 0, .int .i64 0, .int .i64 0, .int .i64 0, .int .i64 0, .int .i64 0, .int .i64 0, .int .i64 0, .int .i64 0, .slice none 0 0, .slice none 0 0, .slice none 0 0, .slice none 0 0] 96)
    clear gA
    go_wp2_with (first
      | (refine wpList_load_row rfl 31 (.tmp 5) rfl w.heap.size rfl 31 _ (0, 0) _ gB Try.underlying31 rfl (by kernel_rfl) ?_)
      | (refine wpList_store_row rfl 96 (.tmp 12) (.tmp 21) rfl w1.heap.size _ rfl rfl 96 _ gN (by kernel_rfl) rfl (by simp [filC, Value.oneCell']) ?_))
    rw [← hW3]
    clear hW3 gN gB
    refine (HT.out _ _ b3).mono ?_; rintro e w4 ⟨rfl, x4⟩
    have b4 := x4.block b3
    obtain ⟨W5, hW5, HY, HE⟩ : ∃ W5, W5 = w4.alloc (.cells #[.int .i64 F.cf, .int .i64 F.cc] 23) ∧ Hid (∀ W, Ext W5 W → W.cell? ⟨w4.heap.size, 0, none⟩ = some (.int .i64 F.cf) ∧ W.cell? ⟨w4.heap.size, 1, none⟩ = some (.int .i64 F.cc) ∧ W.heap[w1.heap.size]? = some (.cells (filC V F) 96 (0, 0))) ∧ Hid (Ext W0 W5) :=
      ⟨_, rfl, Lib.hid (fun W hx => ⟨hx.made 0 _ rfl, hx.made 1 _ rfl, ((Ext.alloc w4 _).trans hx).block b4⟩), Lib.hid (x1.trans (y3.trans (x4.trans (Ext.alloc _ _))))⟩
    have HL : Hid (W0.heap.size ≤ w1.heap.size ∧ w1.heap.size < W5.heap.size ∧ W0.heap.size ≤ W5.heap.size) := Lib.hid ⟨x1.size, heap_lt (HY.out W5 (Ext.refl _)).2.2, HE.out.size⟩
    clear y3 b3 x4 b4 x1
    go_wp2_with fail
    rw [← hW5]
    clear hW5
    obtain ⟨q0, q1, q2⟩ := HY.out W5.drew (Ext.drew _)
    have q2 := cell_of_heap (j := 10) q2 rfl
    have y0 : Ext W5 W5.drew := Ext.drew _
    go_region_held3 (fun w' => w'.cell? ⟨w4.heap.size, 0, none⟩ = some (.int .i64 F.cf) ∧ w'.cell? ⟨w4.heap.size, 1, none⟩ = some (.int .i64 F.cc) ∧ w'.cell? ⟨w1.heap.size, 10, none⟩ = some (.slice V.a1 F.nC V.d1) ∧ Ext W5 w')
      ((refine ⟨?_, ?_, ?_, ?_⟩ <;> assumption))
      (first
        | (go_at_call 47; refine (K.out _ (HE0.out.trans (HE.out.trans (by assumption)))).mono ?_; rintro e w6 ⟨b', q', rfl, h1, h2, h3, x6, f6⟩; have f7 : Fresh W5 b' := Fresh.back f6 (by assumption); have y6 : Ext W5 w6 := Ext.trans (by assumption) x6; obtain ⟨a0, a1, a2⟩ := HY.out _ y6; have a2 := cell_of_heap (j := 10) a2 rfl))
    have gR := (HX.out _ (HE.out.trans y6)).2
    have y7 : Ext w w6 := HE0.out.trans (HE.out.trans y6)
    have gT := (HY.out _ y6).2.2
    clear q0 q1 q2 a0 a1 y0 x6 f6
    have z2 := frozen_of (j := 10) gT
    have gL : (w6.setCell ⟨w1.heap.size, 10, none⟩ (.slice b' F.nC q')).heap[w1.heap.size]? = some (.cells (filC { V with a1 := b', d1 := q' } { F with C := L }) 96 (0, 0)) := (heap_setCell_same _ _ 10 _ _ (.slice b' F.nC q') gT).trans (by rfl)
    have gQ : (w6.setCell ⟨w1.heap.size, 10, none⟩ (.slice b' F.nC q')).heap[w.heap.size + 1]? = some (.cells #[.int .i64 0, .int .i64 0, .int .i64 0, .int .i64 0, .int .i64 0, .int .i64 0, .int .i64 0, .int .i64 0, .int .i64 0, .int .i64 0, .slice none 0 0, .slice none 0 0, .slice none 0 0, .slice none 0 0] 31 (0, 0)) := (heap_setCell_other w6 ⟨w1.heap.size, 10, none⟩ (w.heap.size + 1) _ (by have := HZ.out; have := HL.out; show w.heap.size + 1 ≠ w1.heap.size; omega)).trans gR
    have HF : Hid (FilAt (w6.setCell ⟨w1.heap.size, 10, none⟩ (.slice b' F.nC q')) { V with a1 := b', d1 := q' } { F with C := L } ∧ From w V F { V with a1 := b', d1 := q' } { F with C := L } ∧ FilOff (fun i => i = w.heap.size + 1) { V with a1 := b', d1 := q' } { F with C := L } ∧ Ext w (w6.setCell ⟨w1.heap.size, 10, none⟩ (.slice b' F.nC q'))) := by
      have h' := HH.out.ext y7
      have o := HH.out.off (Φ := fun i => i = w.heap.size + 1) (w := w) (fun i hi => by omega) (Nat.le_refl _)
      have hlow : w.heap.size ≤ w1.heap.size := by have := HZ.out; have := HL.out; omega
      have k6 : FilAt w6 { V with a1 := b', d1 := q' } { F with C := L } := ⟨h3, h1, h2, h'.h2, h'.l2, h'.m2, h'.h3, h'.l3, h'.m3, h'.h4, h'.l4, h'.m4⟩
      have o1 := HH.out.off (Φ := fun i => i = w1.heap.size) (w := w) (fun i hi => by omega) (Nat.le_refl _)
      refine Lib.hid ⟨k6.keep (keepCell w6 w1.heap.size 10 _) ?_, ⟨.inr (fresh_le f7 (by have := HL.out; have := HZ.out; omega)), .inl ⟨rfl, rfl⟩, .inl ⟨rfl, rfl⟩, .inl ⟨rfl, rfl⟩⟩, ⟨f7.offN (fun i hi => by have := HL.out; have := HZ.out; omega), o.o2, o.o3, o.o4⟩, Below.setCell y7 hlow _⟩
      exact ⟨f7.offN (fun i hi => by have := HL.out; omega), o1.o2, o1.o3, o1.o4⟩
    clear h1 h2 h3 gT gR y7 y6 f7
    go_wp2_with (first
      | (refine wpList_load_row rfl 96 (.tmp 12) rfl w1.heap.size rfl 96 _ (0, 0) _ gL Try.underlying96 rfl (by kernel_rfl) ?_))
    refine (HC.out _ _ _ HF.out.1 HSm.out).mono ?_; rintro e w7 ⟨U, rfl, h8, x8, f8⟩
    have gR7 := x8.block gQ
    have HO : Hid (FilOff (fun i => i = w.heap.size + 1) U { F with C := L } ∧ From w V F U { F with C := L } ∧ Ext w w7) := Lib.hid ⟨f8.off HF.out.2.2.1 (fun i hi => by have h9 := HF.out.2.2.2.size; have := heap_lt gQ; omega), HF.out.2.1.trans f8 HF.out.2.2.2, HF.out.2.2.2.trans x8⟩
    clear gQ gL z2 a2 x8 f8
    go_wp2_with (first | (refine wpList_store_row rfl 31 (.tmp 10) (.tmp 46) rfl (w.heap.size + 1) _ rfl rfl 31 _ gR7 (by kernel_rfl) rfl (by simp [filC, Value.oneCell']) ?_))
    refine bodyPost_ret (results_row_tmp rfl _ _ (w.heap.size + 1) 31 _ (0, 0) _ rfl (setRow_heap _ _ _ _ _ _ gR7) Try.underlying31 rfl (by kernel_rfl)) rfl ⟨U, by rfl, h8.keep (keepRow _ _ _) HO.out.1, below_setRow HO.out.2.2 (Nat.le_succ _) _, HO.out.2.1⟩
  · rw [if_neg hE0] at hN ⊢
    rw [hN] at K
    generalize rdE F.cf F.cc F.nC x m = E at K hE0 ⊢
    generalize wrF F.C v F.cf x m = L at K
    clear hN hsm
    go_enter Try.func46, Try.ntmps46
    go_upto_region 1 with fail
    rw [← hW0]
    clear hW0
    have gA := (HX.out W0 (Ext.refl _)).1
    go_wp2_with (first | (refine wpList_load_row rfl 31 (.tmp 5) rfl w.heap.size rfl 31 _ (0, 0) _ gA Try.underlying31 rfl (by kernel_rfl) ?_))
    refine (HR.out _).mono ?_; rintro e w1 ⟨rfl, x1⟩
    have gB := (HX.out w1 x1).1
    obtain ⟨W3, hW3, y3, b3⟩ : ∃ W, W = ((w1.alloc (.cells #[.int .i64 0, .int .i64 0, .int .i64 0, .int .i64 0, .int .i64 0, .int .i64 0, .int .i64 0, .int .i64 0, .int .i64 0, .int .i64 0, .slice none 0 0, .slice none 0 0, .slice none 0 0, .slice none 0 0] 96)).setRow w1.heap.size (filC V F)) ∧ Ext w1 W ∧ W.heap[w1.heap.size]? = some (.cells (filC V F) 96 (0, 0)) := ⟨_, rfl, boxed_row _ _ _ _⟩
    have gN := heap_alloc_new w1 (.cells #[.int .i64 0, .int .i64 0, .int .i64 0, .int .i64 0, .int .i64 0, .int .i64 0, .int .i64 0, .int .i64 0, .int .i64 0, .int .i64 0, .slice none 0 0, .slice none 0 0, .slice none 0 0, .slice none 0 0] 96)
    clear gA
    go_wp2_with (first
      | (refine wpList_load_row rfl 31 (.tmp 5) rfl w.heap.size rfl 31 _ (0, 0) _ gB Try.underlying31 rfl (by kernel_rfl) ?_)
      | (refine wpList_store_row rfl 96 (.tmp 12) (.tmp 21) rfl w1.heap.size _ rfl rfl 96 _ gN (by kernel_rfl) rfl (by simp [filC, Value.oneCell']) ?_))
    rw [← hW3]
    clear hW3 gN gB
    refine (HT.out _ _ b3).mono ?_; rintro e w4 ⟨rfl, x4⟩
    have b4 := x4.block b3
    obtain ⟨W5, hW5, HY, HE⟩ : ∃ W5, W5 = w4.alloc (.cells #[.int .i64 F.cf, .int .i64 F.cc] 23) ∧ Hid (∀ W, Ext W5 W → W.cell? ⟨w4.heap.size, 0, none⟩ = some (.int .i64 F.cf) ∧ W.cell? ⟨w4.heap.size, 1, none⟩ = some (.int .i64 F.cc) ∧ W.heap[w1.heap.size]? = some (.cells (filC V F) 96 (0, 0))) ∧ Hid (Ext W0 W5) :=
      ⟨_, rfl, Lib.hid (fun W hx => ⟨hx.made 0 _ rfl, hx.made 1 _ rfl, ((Ext.alloc w4 _).trans hx).block b4⟩), Lib.hid (x1.trans (y3.trans (x4.trans (Ext.alloc _ _))))⟩
    have HL : Hid (W0.heap.size ≤ w1.heap.size ∧ w1.heap.size < W5.heap.size ∧ W0.heap.size ≤ W5.heap.size) := Lib.hid ⟨x1.size, heap_lt (HY.out W5 (Ext.refl _)).2.2, HE.out.size⟩
    clear y3 b3 x4 b4 x1
    go_wp2_with fail
    rw [← hW5]
    clear hW5
    obtain ⟨q0, q1, q2⟩ := HY.out W5.drew (Ext.drew _)
    have q2 := cell_of_heap (j := 10) q2 rfl
    have y0 : Ext W5 W5.drew := Ext.drew _
    go_region_held3 (fun w' => w'.cell? ⟨w4.heap.size, 0, none⟩ = some (.int .i64 F.cf) ∧ w'.cell? ⟨w4.heap.size, 1, none⟩ = some (.int .i64 F.cc) ∧ w'.cell? ⟨w1.heap.size, 10, none⟩ = some (.slice V.a1 F.nC V.d1) ∧ Ext W5 w')
      ((refine ⟨?_, ?_, ?_, ?_⟩ <;> assumption))
      (first
        | (go_at_call 47; refine (K.out _ (HE0.out.trans (HE.out.trans (by assumption)))).mono ?_; rintro e w6 ⟨b', q', rfl, h1, h2, h3, x6, f6⟩; have f7 : Fresh W5 b' := Fresh.back f6 (by assumption); have y6 : Ext W5 w6 := Ext.trans (by assumption) x6; obtain ⟨a0, a1, a2⟩ := HY.out _ y6; have a2 := cell_of_heap (j := 10) a2 rfl))
    have gR := (HX.out _ (HE.out.trans y6)).2
    have y7 : Ext w w6 := HE0.out.trans (HE.out.trans y6)
    have gT := (HY.out _ y6).2.2
    clear q0 q1 q2 a0 a1 y0 x6 f6
    clear gT a2 y6
    go_wp2_with (first | (refine wpList_store_row rfl 31 (.tmp 10) (.tmp 40) rfl (w.heap.size + 1) _ rfl rfl 31 _ gR (by kernel_rfl) rfl (by simp [Value.oneCell']) ?_))
    refine bodyPost_ret (results_row_tmp rfl _ _ (w.heap.size + 1) 31 _ (0, 0) _ rfl (setRow_heap _ _ _ _ _ _ gR) Try.underlying31 rfl (by kernel_rfl)) rfl ⟨zeroV, by rfl, zero_at _, below_setRow y7 (Nat.le_succ _) _, From.zero _ _ _⟩
set_option maxRecDepth 100000 in
set_option maxHeartbeats 8000000 in
theorem fwrite_inputs (V : FilV) (F : Fil) (x : Int) (b : Option Addr) (m e : Nat) (v : Nat → Bool) (w : World) (h : FilAt w V F) (hv : HoldsG Value.bool w b m v) (hme : m ≤ e) (hem : e ≤ maxLen) (hm : m ≤ 1000000) (wx : (Lit.int .i64 x).wf = true) (hr : rightB F = true) :
    Calls Try.prog 46 #[.agg (filC V F), .func (Fn.func 33) #[] #[], .func (Fn.func 47) #[] #[], .int .i64 x, .slice b m e] w (FP (rdE F.jf F.jc F.nI x m) (if rdE F.jf F.jc F.nI x m = 0 then { F with I := wrF F.I v F.jf x m } else zeroF) V F w) := by
  have hs := right_small hr
  have hsm := Small.of_right hr
  unfold FP
  have HR := Lib.hid (fun w' => fright_v (V := V) hr w')
  have HT := Lib.hid (fun g w' hb => finputs_v V F g w' hb)
  have K := Lib.hid (fun w' (hx : Ext w w') => (csetbits_f F.jf F.jc x V.a2 F.nI V.d2 F.I b m e v w' (h.h2.ext hx) h.l2 h.m2 (Nat.le_trans hs.2.1 (by decide)) (hv.ext hx) hme hem (Nat.le_trans hm (by decide)) wx).mono fun _ _ => WrPostF.sl)
  have HC := Lib.hid (fun V' F' w' (hf : FilAt w' V' F') (hz : Small F') => fcopy_c V' F' w' hf hz)
  unfold SlP at K
  obtain ⟨W0, hW0, HX, HE0⟩ : ∃ W0, W0 = ((w.alloc (.cells (filC V F) 31)).alloc (.cells #[.int .i64 0, .int .i64 0, .int .i64 0, .int .i64 0, .int .i64 0, .int .i64 0, .int .i64 0, .int .i64 0, .int .i64 0, .int .i64 0, .slice none 0 0, .slice none 0 0, .slice none 0 0, .slice none 0 0] 31)) ∧ Hid (∀ W, Ext W0 W → W.heap[w.heap.size]? = some (.cells (filC V F) 31 (0, 0)) ∧ W.heap[w.heap.size + 1]? = some (.cells #[.int .i64 0, .int .i64 0, .int .i64 0, .int .i64 0, .int .i64 0, .int .i64 0, .int .i64 0, .int .i64 0, .int .i64 0, .int .i64 0, .slice none 0 0, .slice none 0 0, .slice none 0 0, .slice none 0 0] 31 (0, 0))) ∧ Hid (Ext w W0) :=
    ⟨_, rfl, Lib.hid fun W hx => ⟨hx.block (two_boxes w _ _ _ _).1, hx.block (two_boxes w _ _ _ _).2⟩, Lib.hid ((Ext.alloc w _).trans (Ext.alloc _ _))⟩
  have hsz : w.heap.size + 2 ≤ W0.heap.size := by rw [hW0]; simp
  have HZ := Lib.hid hsz
  have HH := Lib.hid h
  have hN : rdN F.jf F.jc F.nI x m F.nI = if rdE F.jf F.jc F.nI x m = 0 then F.nI else 0 := rfl
  clear h hs hr wx hv hme hem hm hsz
  by_cases hE0 : rdE F.jf F.jc F.nI x m = 0
  · rw [if_pos hE0] at hN ⊢
    rw [hN, hE0] at K
    rw [hE0]
    have hsm' : Small { F with I := wrF F.I v F.jf x m } := ⟨hsm.1, hsm.2, hsm.3, hsm.4⟩
    have HSm := Lib.hid hsm'
    generalize wrF F.I v F.jf x m = L at K HSm ⊢
    clear hN hsm hE0 hsm'
    go_enter Try.func46, Try.ntmps46
    go_upto_region 1 with fail
    rw [← hW0]
    clear hW0
    have gA := (HX.out W0 (Ext.refl _)).1
    go_wp2_with (first | (refine wpList_load_row rfl 31 (.tmp 5) rfl w.heap.size rfl 31 _ (0, 0) _ gA Try.underlying31 rfl (by kernel_rfl) ?_))
    refine (HR.out _).mono ?_; rintro e w1 ⟨rfl, x1⟩
    have gB := (HX.out w1 x1).1
    obtain ⟨W3, hW3, y3, b3⟩ : ∃ W, W = ((w1.alloc (.cells #[.int .i64 0, .int .i64 0, .int .i64 0, .int .i64 0, .int .i64 0, .int .i64 0, .int .i64 0, .int .i64 0, .int .i64 0, .int .i64 0, .slice none 0 0, .slice none 0 0, .slice none 0 0, .slice none 0 0] 96)).setRow w1.heap.size (filC V F)) ∧ Ext w1 W ∧ W.heap[w1.heap.size]? = some (.cells (filC V F) 96 (0, 0)) := ⟨_, rfl, boxed_row _ _ _ _⟩
    have gN := heap_alloc_new w1 (.cells #[.int .i64 0, .int .i64 0, .int .i64 0, .int .i64 0, .int .i64 0, .int .i64 0, .int .i64 0, .int .i64 0, .int .i64 0, .int .i64 0, .slice none 0 0, .slice none 0 0, .slice none 0 0, .slice none 0 0] 96)
    clear gA
    go_wp2_with (first
      | (refine wpList_load_row rfl 31 (.tmp 5) rfl w.heap.size rfl 31 _ (0, 0) _ gB Try.underlying31 rfl (by kernel_rfl) ?_)
      | (refine wpList_store_row rfl 96 (.tmp 12) (.tmp 21) rfl w1.heap.size _ rfl rfl 96 _ gN (by kernel_rfl) rfl (by simp [filC, Value.oneCell']) ?_))
    rw [← hW3]
    clear hW3 gN gB
    refine (HT.out _ _ b3).mono ?_; rintro e w4 ⟨rfl, x4⟩
    have b4 := x4.block b3
    obtain ⟨W5, hW5, HY, HE⟩ : ∃ W5, W5 = w4.alloc (.cells #[.int .i64 F.jf, .int .i64 F.jc] 23) ∧ Hid (∀ W, Ext W5 W → W.cell? ⟨w4.heap.size, 0, none⟩ = some (.int .i64 F.jf) ∧ W.cell? ⟨w4.heap.size, 1, none⟩ = some (.int .i64 F.jc) ∧ W.heap[w1.heap.size]? = some (.cells (filC V F) 96 (0, 0))) ∧ Hid (Ext W0 W5) :=
      ⟨_, rfl, Lib.hid (fun W hx => ⟨hx.made 0 _ rfl, hx.made 1 _ rfl, ((Ext.alloc w4 _).trans hx).block b4⟩), Lib.hid (x1.trans (y3.trans (x4.trans (Ext.alloc _ _))))⟩
    have HL : Hid (W0.heap.size ≤ w1.heap.size ∧ w1.heap.size < W5.heap.size ∧ W0.heap.size ≤ W5.heap.size) := Lib.hid ⟨x1.size, heap_lt (HY.out W5 (Ext.refl _)).2.2, HE.out.size⟩
    clear y3 b3 x4 b4 x1
    go_wp2_with fail
    rw [← hW5]
    clear hW5
    obtain ⟨q0, q1, q2⟩ := HY.out W5.drew (Ext.drew _)
    have q2 := cell_of_heap (j := 11) q2 rfl
    have y0 : Ext W5 W5.drew := Ext.drew _
    go_region_held3 (fun w' => w'.cell? ⟨w4.heap.size, 0, none⟩ = some (.int .i64 F.jf) ∧ w'.cell? ⟨w4.heap.size, 1, none⟩ = some (.int .i64 F.jc) ∧ w'.cell? ⟨w1.heap.size, 11, none⟩ = some (.slice V.a2 F.nI V.d2) ∧ Ext W5 w')
      ((refine ⟨?_, ?_, ?_, ?_⟩ <;> assumption))
      (first
        | (go_at_call 47; refine (K.out _ (HE0.out.trans (HE.out.trans (by assumption)))).mono ?_; rintro e w6 ⟨b', q', rfl, h1, h2, h3, x6, f6⟩; have f7 : Fresh W5 b' := Fresh.back f6 (by assumption); have y6 : Ext W5 w6 := Ext.trans (by assumption) x6; obtain ⟨a0, a1, a2⟩ := HY.out _ y6; have a2 := cell_of_heap (j := 11) a2 rfl))
    have gR := (HX.out _ (HE.out.trans y6)).2
    have y7 : Ext w w6 := HE0.out.trans (HE.out.trans y6)
    have gT := (HY.out _ y6).2.2
    clear q0 q1 q2 a0 a1 y0 x6 f6
    have z2 := frozen_of (j := 11) gT
    have gL : (w6.setCell ⟨w1.heap.size, 11, none⟩ (.slice b' F.nI q')).heap[w1.heap.size]? = some (.cells (filC { V with a2 := b', d2 := q' } { F with I := L }) 96 (0, 0)) := (heap_setCell_same _ _ 11 _ _ (.slice b' F.nI q') gT).trans (by rfl)
    have gQ : (w6.setCell ⟨w1.heap.size, 11, none⟩ (.slice b' F.nI q')).heap[w.heap.size + 1]? = some (.cells #[.int .i64 0, .int .i64 0, .int .i64 0, .int .i64 0, .int .i64 0, .int .i64 0, .int .i64 0, .int .i64 0, .int .i64 0, .int .i64 0, .slice none 0 0, .slice none 0 0, .slice none 0 0, .slice none 0 0] 31 (0, 0)) := (heap_setCell_other w6 ⟨w1.heap.size, 11, none⟩ (w.heap.size + 1) _ (by have := HZ.out; have := HL.out; show w.heap.size + 1 ≠ w1.heap.size; omega)).trans gR
    have HF : Hid (FilAt (w6.setCell ⟨w1.heap.size, 11, none⟩ (.slice b' F.nI q')) { V with a2 := b', d2 := q' } { F with I := L } ∧ From w V F { V with a2 := b', d2 := q' } { F with I := L } ∧ FilOff (fun i => i = w.heap.size + 1) { V with a2 := b', d2 := q' } { F with I := L } ∧ Ext w (w6.setCell ⟨w1.heap.size, 11, none⟩ (.slice b' F.nI q'))) := by
      have h' := HH.out.ext y7
      have o := HH.out.off (Φ := fun i => i = w.heap.size + 1) (w := w) (fun i hi => by omega) (Nat.le_refl _)
      have hlow : w.heap.size ≤ w1.heap.size := by have := HZ.out; have := HL.out; omega
      have k6 : FilAt w6 { V with a2 := b', d2 := q' } { F with I := L } := ⟨h'.h1, h'.l1, h'.m1, h3, h1, h2, h'.h3, h'.l3, h'.m3, h'.h4, h'.l4, h'.m4⟩
      have o1 := HH.out.off (Φ := fun i => i = w1.heap.size) (w := w) (fun i hi => by omega) (Nat.le_refl _)
      refine Lib.hid ⟨k6.keep (keepCell w6 w1.heap.size 11 _) ?_, ⟨.inl ⟨rfl, rfl⟩, .inr (fresh_le f7 (by have := HL.out; have := HZ.out; omega)), .inl ⟨rfl, rfl⟩, .inl ⟨rfl, rfl⟩⟩, ⟨o.o1, f7.offN (fun i hi => by have := HL.out; have := HZ.out; omega), o.o3, o.o4⟩, Below.setCell y7 hlow _⟩
      exact ⟨o1.o1, f7.offN (fun i hi => by have := HL.out; omega), o1.o3, o1.o4⟩
    clear h1 h2 h3 gT gR y7 y6 f7
    go_wp2_with (first
      | (refine wpList_load_row rfl 96 (.tmp 12) rfl w1.heap.size rfl 96 _ (0, 0) _ gL Try.underlying96 rfl (by kernel_rfl) ?_))
    refine (HC.out _ _ _ HF.out.1 HSm.out).mono ?_; rintro e w7 ⟨U, rfl, h8, x8, f8⟩
    have gR7 := x8.block gQ
    have HO : Hid (FilOff (fun i => i = w.heap.size + 1) U { F with I := L } ∧ From w V F U { F with I := L } ∧ Ext w w7) := Lib.hid ⟨f8.off HF.out.2.2.1 (fun i hi => by have h9 := HF.out.2.2.2.size; have := heap_lt gQ; omega), HF.out.2.1.trans f8 HF.out.2.2.2, HF.out.2.2.2.trans x8⟩
    clear gQ gL z2 a2 x8 f8
    go_wp2_with (first | (refine wpList_store_row rfl 31 (.tmp 10) (.tmp 46) rfl (w.heap.size + 1) _ rfl rfl 31 _ gR7 (by kernel_rfl) rfl (by simp [filC, Value.oneCell']) ?_))
    refine bodyPost_ret (results_row_tmp rfl _ _ (w.heap.size + 1) 31 _ (0, 0) _ rfl (setRow_heap _ _ _ _ _ _ gR7) Try.underlying31 rfl (by kernel_rfl)) rfl ⟨U, by rfl, h8.keep (keepRow _ _ _) HO.out.1, below_setRow HO.out.2.2 (Nat.le_succ _) _, HO.out.2.1⟩
  · rw [if_neg hE0] at hN ⊢
    rw [hN] at K
    generalize rdE F.jf F.jc F.nI x m = E at K hE0 ⊢
    generalize wrF F.I v F.jf x m = L at K
    clear hN hsm
    go_enter Try.func46, Try.ntmps46
    go_upto_region 1 with fail
    rw [← hW0]
    clear hW0
    have gA := (HX.out W0 (Ext.refl _)).1
    go_wp2_with (first | (refine wpList_load_row rfl 31 (.tmp 5) rfl w.heap.size rfl 31 _ (0, 0) _ gA Try.underlying31 rfl (by kernel_rfl) ?_))
    refine (HR.out _).mono ?_; rintro e w1 ⟨rfl, x1⟩
    have gB := (HX.out w1 x1).1
    obtain ⟨W3, hW3, y3, b3⟩ : ∃ W, W = ((w1.alloc (.cells #[.int .i64 0, .int .i64 0, .int .i64 0, .int .i64 0, .int .i64 0, .int .i64 0, .int .i64 0, .int .i64 0, .int .i64 0, .int .i64 0, .slice none 0 0, .slice none 0 0, .slice none 0 0, .slice none 0 0] 96)).setRow w1.heap.size (filC V F)) ∧ Ext w1 W ∧ W.heap[w1.heap.size]? = some (.cells (filC V F) 96 (0, 0)) := ⟨_, rfl, boxed_row _ _ _ _⟩
    have gN := heap_alloc_new w1 (.cells #[.int .i64 0, .int .i64 0, .int .i64 0, .int .i64 0, .int .i64 0, .int .i64 0, .int .i64 0, .int .i64 0, .int .i64 0, .int .i64 0, .slice none 0 0, .slice none 0 0, .slice none 0 0, .slice none 0 0] 96)
    clear gA
    go_wp2_with (first
      | (refine wpList_load_row rfl 31 (.tmp 5) rfl w.heap.size rfl 31 _ (0, 0) _ gB Try.underlying31 rfl (by kernel_rfl) ?_)
      | (refine wpList_store_row rfl 96 (.tmp 12) (.tmp 21) rfl w1.heap.size _ rfl rfl 96 _ gN (by kernel_rfl) rfl (by simp [filC, Value.oneCell']) ?_))
    rw [← hW3]
    clear hW3 gN gB
    refine (HT.out _ _ b3).mono ?_; rintro e w4 ⟨rfl, x4⟩
    have b4 := x4.block b3
    obtain ⟨W5, hW5, HY, HE⟩ : ∃ W5, W5 = w4.alloc (.cells #[.int .i64 F.jf, .int .i64 F.jc] 23) ∧ Hid (∀ W, Ext W5 W → W.cell? ⟨w4.heap.size, 0, none⟩ = some (.int .i64 F.jf) ∧ W.cell? ⟨w4.heap.size, 1, none⟩ = some (.int .i64 F.jc) ∧ W.heap[w1.heap.size]? = some (.cells (filC V F) 96 (0, 0))) ∧ Hid (Ext W0 W5) :=
      ⟨_, rfl, Lib.hid (fun W hx => ⟨hx.made 0 _ rfl, hx.made 1 _ rfl, ((Ext.alloc w4 _).trans hx).block b4⟩), Lib.hid (x1.trans (y3.trans (x4.trans (Ext.alloc _ _))))⟩
    have HL : Hid (W0.heap.size ≤ w1.heap.size ∧ w1.heap.size < W5.heap.size ∧ W0.heap.size ≤ W5.heap.size) := Lib.hid ⟨x1.size, heap_lt (HY.out W5 (Ext.refl _)).2.2, HE.out.size⟩
    clear y3 b3 x4 b4 x1
    go_wp2_with fail
    rw [← hW5]
    clear hW5
    obtain ⟨q0, q1, q2⟩ := HY.out W5.drew (Ext.drew _)
    have q2 := cell_of_heap (j := 11) q2 rfl
    have y0 : Ext W5 W5.drew := Ext.drew _
    go_region_held3 (fun w' => w'.cell? ⟨w4.heap.size, 0, none⟩ = some (.int .i64 F.jf) ∧ w'.cell? ⟨w4.heap.size, 1, none⟩ = some (.int .i64 F.jc) ∧ w'.cell? ⟨w1.heap.size, 11, none⟩ = some (.slice V.a2 F.nI V.d2) ∧ Ext W5 w')
      ((refine ⟨?_, ?_, ?_, ?_⟩ <;> assumption))
      (first
        | (go_at_call 47; refine (K.out _ (HE0.out.trans (HE.out.trans (by assumption)))).mono ?_; rintro e w6 ⟨b', q', rfl, h1, h2, h3, x6, f6⟩; have f7 : Fresh W5 b' := Fresh.back f6 (by assumption); have y6 : Ext W5 w6 := Ext.trans (by assumption) x6; obtain ⟨a0, a1, a2⟩ := HY.out _ y6; have a2 := cell_of_heap (j := 11) a2 rfl))
    have gR := (HX.out _ (HE.out.trans y6)).2
    have y7 : Ext w w6 := HE0.out.trans (HE.out.trans y6)
    have gT := (HY.out _ y6).2.2
    clear q0 q1 q2 a0 a1 y0 x6 f6
    clear gT a2 y6
    go_wp2_with (first | (refine wpList_store_row rfl 31 (.tmp 10) (.tmp 40) rfl (w.heap.size + 1) _ rfl rfl 31 _ gR (by kernel_rfl) rfl (by simp [Value.oneCell']) ?_))
    refine bodyPost_ret (results_row_tmp rfl _ _ (w.heap.size + 1) 31 _ (0, 0) _ rfl (setRow_heap _ _ _ _ _ _ gR) Try.underlying31 rfl (by kernel_rfl)) rfl ⟨zeroV, by rfl, zero_at _, below_setRow y7 (Nat.le_succ _) _, From.zero _ _ _⟩
set_option maxRecDepth 100000 in
set_option maxHeartbeats 8000000 in
theorem fwrite_holding (V : FilV) (F : Fil) (x : Int) (b : Option Addr) (m e : Nat) (v : Nat → Int) (w : World) (h : FilAt w V F) (hv : HoldsG (Value.int .u16) w b m v) (hme : m ≤ e) (hem : e ≤ maxLen) (hm : m ≤ 1000000) (wx : (Lit.int .i64 x).wf = true) (hr : rightB F = true) :
    Calls Try.prog 44 #[.agg (filC V F), .func (Fn.func 40) #[] #[], .func (Fn.func 45) #[] #[], .int .i64 x, .slice b m e] w (FP (rdE F.hf F.hc F.nH x m) (if rdE F.hf F.hc F.nH x m = 0 then { F with H := wrF F.H v F.hf x m } else zeroF) V F w) := by
  have hs := right_small hr
  have hsm := Small.of_right hr
  unfold FP
  have HR := Lib.hid (fun w' => fright_v (V := V) hr w')
  have HT := Lib.hid (fun g w' hb => fholding_v V F g w' hb)
  have K := Lib.hid (fun w' (hx : Ext w w') => (csetwords_f F.hf F.hc x V.a3 F.nH V.d3 F.H b m e v w' (h.h3.ext hx) h.l3 h.m3 (Nat.le_trans hs.2.2.1 (by decide)) (hv.ext hx) hme hem (Nat.le_trans hm (by decide)) wx).mono fun _ _ => WrPostF.sl)
  have HC := Lib.hid (fun V' F' w' (hf : FilAt w' V' F') (hz : Small F') => fcopy_c V' F' w' hf hz)
  unfold SlP at K
  obtain ⟨W0, hW0, HX, HE0⟩ : ∃ W0, W0 = ((w.alloc (.cells (filC V F) 31)).alloc (.cells #[.int .i64 0, .int .i64 0, .int .i64 0, .int .i64 0, .int .i64 0, .int .i64 0, .int .i64 0, .int .i64 0, .int .i64 0, .int .i64 0, .slice none 0 0, .slice none 0 0, .slice none 0 0, .slice none 0 0] 31)) ∧ Hid (∀ W, Ext W0 W → W.heap[w.heap.size]? = some (.cells (filC V F) 31 (0, 0)) ∧ W.heap[w.heap.size + 1]? = some (.cells #[.int .i64 0, .int .i64 0, .int .i64 0, .int .i64 0, .int .i64 0, .int .i64 0, .int .i64 0, .int .i64 0, .int .i64 0, .int .i64 0, .slice none 0 0, .slice none 0 0, .slice none 0 0, .slice none 0 0] 31 (0, 0))) ∧ Hid (Ext w W0) :=
    ⟨_, rfl, Lib.hid fun W hx => ⟨hx.block (two_boxes w _ _ _ _).1, hx.block (two_boxes w _ _ _ _).2⟩, Lib.hid ((Ext.alloc w _).trans (Ext.alloc _ _))⟩
  have hsz : w.heap.size + 2 ≤ W0.heap.size := by rw [hW0]; simp
  have HZ := Lib.hid hsz
  have HH := Lib.hid h
  have hN : rdN F.hf F.hc F.nH x m F.nH = if rdE F.hf F.hc F.nH x m = 0 then F.nH else 0 := rfl
  clear h hs hr wx hv hme hem hm hsz
  by_cases hE0 : rdE F.hf F.hc F.nH x m = 0
  · rw [if_pos hE0] at hN ⊢
    rw [hN, hE0] at K
    rw [hE0]
    have hsm' : Small { F with H := wrF F.H v F.hf x m } := ⟨hsm.1, hsm.2, hsm.3, hsm.4⟩
    have HSm := Lib.hid hsm'
    generalize wrF F.H v F.hf x m = L at K HSm ⊢
    clear hN hsm hE0 hsm'
    go_enter Try.func44, Try.ntmps44
    go_upto_region 1 with fail
    rw [← hW0]
    clear hW0
    have gA := (HX.out W0 (Ext.refl _)).1
    go_wp2_with (first | (refine wpList_load_row rfl 31 (.tmp 5) rfl w.heap.size rfl 31 _ (0, 0) _ gA Try.underlying31 rfl (by kernel_rfl) ?_))
    refine (HR.out _).mono ?_; rintro e w1 ⟨rfl, x1⟩
    have gB := (HX.out w1 x1).1
    obtain ⟨W3, hW3, y3, b3⟩ : ∃ W, W = ((w1.alloc (.cells #[.int .i64 0, .int .i64 0, .int .i64 0, .int .i64 0, .int .i64 0, .int .i64 0, .int .i64 0, .int .i64 0, .int .i64 0, .int .i64 0, .slice none 0 0, .slice none 0 0, .slice none 0 0, .slice none 0 0] 96)).setRow w1.heap.size (filC V F)) ∧ Ext w1 W ∧ W.heap[w1.heap.size]? = some (.cells (filC V F) 96 (0, 0)) := ⟨_, rfl, boxed_row _ _ _ _⟩
    have gN := heap_alloc_new w1 (.cells #[.int .i64 0, .int .i64 0, .int .i64 0, .int .i64 0, .int .i64 0, .int .i64 0, .int .i64 0, .int .i64 0, .int .i64 0, .int .i64 0, .slice none 0 0, .slice none 0 0, .slice none 0 0, .slice none 0 0] 96)
    clear gA
    go_wp2_with (first
      | (refine wpList_load_row rfl 31 (.tmp 5) rfl w.heap.size rfl 31 _ (0, 0) _ gB Try.underlying31 rfl (by kernel_rfl) ?_)
      | (refine wpList_store_row rfl 96 (.tmp 12) (.tmp 21) rfl w1.heap.size _ rfl rfl 96 _ gN (by kernel_rfl) rfl (by simp [filC, Value.oneCell']) ?_))
    rw [← hW3]
    clear hW3 gN gB
    refine (HT.out _ _ b3).mono ?_; rintro e w4 ⟨rfl, x4⟩
    have b4 := x4.block b3
    obtain ⟨W5, hW5, HY, HE⟩ : ∃ W5, W5 = w4.alloc (.cells #[.int .i64 F.hf, .int .i64 F.hc] 23) ∧ Hid (∀ W, Ext W5 W → W.cell? ⟨w4.heap.size, 0, none⟩ = some (.int .i64 F.hf) ∧ W.cell? ⟨w4.heap.size, 1, none⟩ = some (.int .i64 F.hc) ∧ W.heap[w1.heap.size]? = some (.cells (filC V F) 96 (0, 0))) ∧ Hid (Ext W0 W5) :=
      ⟨_, rfl, Lib.hid (fun W hx => ⟨hx.made 0 _ rfl, hx.made 1 _ rfl, ((Ext.alloc w4 _).trans hx).block b4⟩), Lib.hid (x1.trans (y3.trans (x4.trans (Ext.alloc _ _))))⟩
    have HL : Hid (W0.heap.size ≤ w1.heap.size ∧ w1.heap.size < W5.heap.size ∧ W0.heap.size ≤ W5.heap.size) := Lib.hid ⟨x1.size, heap_lt (HY.out W5 (Ext.refl _)).2.2, HE.out.size⟩
    clear y3 b3 x4 b4 x1
    go_wp2_with fail
    rw [← hW5]
    clear hW5
    obtain ⟨q0, q1, q2⟩ := HY.out W5.drew (Ext.drew _)
    have q2 := cell_of_heap (j := 12) q2 rfl
    have y0 : Ext W5 W5.drew := Ext.drew _
    go_region_held3 (fun w' => w'.cell? ⟨w4.heap.size, 0, none⟩ = some (.int .i64 F.hf) ∧ w'.cell? ⟨w4.heap.size, 1, none⟩ = some (.int .i64 F.hc) ∧ w'.cell? ⟨w1.heap.size, 12, none⟩ = some (.slice V.a3 F.nH V.d3) ∧ Ext W5 w')
      ((refine ⟨?_, ?_, ?_, ?_⟩ <;> assumption))
      (first
        | (go_at_call 45; refine (K.out _ (HE0.out.trans (HE.out.trans (by assumption)))).mono ?_; rintro e w6 ⟨b', q', rfl, h1, h2, h3, x6, f6⟩; have f7 : Fresh W5 b' := Fresh.back f6 (by assumption); have y6 : Ext W5 w6 := Ext.trans (by assumption) x6; obtain ⟨a0, a1, a2⟩ := HY.out _ y6; have a2 := cell_of_heap (j := 12) a2 rfl))
    have gR := (HX.out _ (HE.out.trans y6)).2
    have y7 : Ext w w6 := HE0.out.trans (HE.out.trans y6)
    have gT := (HY.out _ y6).2.2
    clear q0 q1 q2 a0 a1 y0 x6 f6
    have z2 := frozen_of (j := 12) gT
    have gL : (w6.setCell ⟨w1.heap.size, 12, none⟩ (.slice b' F.nH q')).heap[w1.heap.size]? = some (.cells (filC { V with a3 := b', d3 := q' } { F with H := L }) 96 (0, 0)) := (heap_setCell_same _ _ 12 _ _ (.slice b' F.nH q') gT).trans (by rfl)
    have gQ : (w6.setCell ⟨w1.heap.size, 12, none⟩ (.slice b' F.nH q')).heap[w.heap.size + 1]? = some (.cells #[.int .i64 0, .int .i64 0, .int .i64 0, .int .i64 0, .int .i64 0, .int .i64 0, .int .i64 0, .int .i64 0, .int .i64 0, .int .i64 0, .slice none 0 0, .slice none 0 0, .slice none 0 0, .slice none 0 0] 31 (0, 0)) := (heap_setCell_other w6 ⟨w1.heap.size, 12, none⟩ (w.heap.size + 1) _ (by have := HZ.out; have := HL.out; show w.heap.size + 1 ≠ w1.heap.size; omega)).trans gR
    have HF : Hid (FilAt (w6.setCell ⟨w1.heap.size, 12, none⟩ (.slice b' F.nH q')) { V with a3 := b', d3 := q' } { F with H := L } ∧ From w V F { V with a3 := b', d3 := q' } { F with H := L } ∧ FilOff (fun i => i = w.heap.size + 1) { V with a3 := b', d3 := q' } { F with H := L } ∧ Ext w (w6.setCell ⟨w1.heap.size, 12, none⟩ (.slice b' F.nH q'))) := by
      have h' := HH.out.ext y7
      have o := HH.out.off (Φ := fun i => i = w.heap.size + 1) (w := w) (fun i hi => by omega) (Nat.le_refl _)
      have hlow : w.heap.size ≤ w1.heap.size := by have := HZ.out; have := HL.out; omega
      have k6 : FilAt w6 { V with a3 := b', d3 := q' } { F with H := L } := ⟨h'.h1, h'.l1, h'.m1, h'.h2, h'.l2, h'.m2, h3, h1, h2, h'.h4, h'.l4, h'.m4⟩
      have o1 := HH.out.off (Φ := fun i => i = w1.heap.size) (w := w) (fun i hi => by omega) (Nat.le_refl _)
      refine Lib.hid ⟨k6.keep (keepCell w6 w1.heap.size 12 _) ?_, ⟨.inl ⟨rfl, rfl⟩, .inl ⟨rfl, rfl⟩, .inr (fresh_le f7 (by have := HL.out; have := HZ.out; omega)), .inl ⟨rfl, rfl⟩⟩, ⟨o.o1, o.o2, f7.offN (fun i hi => by have := HL.out; have := HZ.out; omega), o.o4⟩, Below.setCell y7 hlow _⟩
      exact ⟨o1.o1, o1.o2, f7.offN (fun i hi => by have := HL.out; omega), o1.o4⟩
    clear h1 h2 h3 gT gR y7 y6 f7
    go_wp2_with (first
      | (refine wpList_load_row rfl 96 (.tmp 12) rfl w1.heap.size rfl 96 _ (0, 0) _ gL Try.underlying96 rfl (by kernel_rfl) ?_))
    refine (HC.out _ _ _ HF.out.1 HSm.out).mono ?_; rintro e w7 ⟨U, rfl, h8, x8, f8⟩
    have gR7 := x8.block gQ
    have HO : Hid (FilOff (fun i => i = w.heap.size + 1) U { F with H := L } ∧ From w V F U { F with H := L } ∧ Ext w w7) := Lib.hid ⟨f8.off HF.out.2.2.1 (fun i hi => by have h9 := HF.out.2.2.2.size; have := heap_lt gQ; omega), HF.out.2.1.trans f8 HF.out.2.2.2, HF.out.2.2.2.trans x8⟩
    clear gQ gL z2 a2 x8 f8
    go_wp2_with (first | (refine wpList_store_row rfl 31 (.tmp 10) (.tmp 46) rfl (w.heap.size + 1) _ rfl rfl 31 _ gR7 (by kernel_rfl) rfl (by simp [filC, Value.oneCell']) ?_))
    refine bodyPost_ret (results_row_tmp rfl _ _ (w.heap.size + 1) 31 _ (0, 0) _ rfl (setRow_heap _ _ _ _ _ _ gR7) Try.underlying31 rfl (by kernel_rfl)) rfl ⟨U, by rfl, h8.keep (keepRow _ _ _) HO.out.1, below_setRow HO.out.2.2 (Nat.le_succ _) _, HO.out.2.1⟩
  · rw [if_neg hE0] at hN ⊢
    rw [hN] at K
    generalize rdE F.hf F.hc F.nH x m = E at K hE0 ⊢
    generalize wrF F.H v F.hf x m = L at K
    clear hN hsm
    go_enter Try.func44, Try.ntmps44
    go_upto_region 1 with fail
    rw [← hW0]
    clear hW0
    have gA := (HX.out W0 (Ext.refl _)).1
    go_wp2_with (first | (refine wpList_load_row rfl 31 (.tmp 5) rfl w.heap.size rfl 31 _ (0, 0) _ gA Try.underlying31 rfl (by kernel_rfl) ?_))
    refine (HR.out _).mono ?_; rintro e w1 ⟨rfl, x1⟩
    have gB := (HX.out w1 x1).1
    obtain ⟨W3, hW3, y3, b3⟩ : ∃ W, W = ((w1.alloc (.cells #[.int .i64 0, .int .i64 0, .int .i64 0, .int .i64 0, .int .i64 0, .int .i64 0, .int .i64 0, .int .i64 0, .int .i64 0, .int .i64 0, .slice none 0 0, .slice none 0 0, .slice none 0 0, .slice none 0 0] 96)).setRow w1.heap.size (filC V F)) ∧ Ext w1 W ∧ W.heap[w1.heap.size]? = some (.cells (filC V F) 96 (0, 0)) := ⟨_, rfl, boxed_row _ _ _ _⟩
    have gN := heap_alloc_new w1 (.cells #[.int .i64 0, .int .i64 0, .int .i64 0, .int .i64 0, .int .i64 0, .int .i64 0, .int .i64 0, .int .i64 0, .int .i64 0, .int .i64 0, .slice none 0 0, .slice none 0 0, .slice none 0 0, .slice none 0 0] 96)
    clear gA
    go_wp2_with (first
      | (refine wpList_load_row rfl 31 (.tmp 5) rfl w.heap.size rfl 31 _ (0, 0) _ gB Try.underlying31 rfl (by kernel_rfl) ?_)
      | (refine wpList_store_row rfl 96 (.tmp 12) (.tmp 21) rfl w1.heap.size _ rfl rfl 96 _ gN (by kernel_rfl) rfl (by simp [filC, Value.oneCell']) ?_))
    rw [← hW3]
    clear hW3 gN gB
    refine (HT.out _ _ b3).mono ?_; rintro e w4 ⟨rfl, x4⟩
    have b4 := x4.block b3
    obtain ⟨W5, hW5, HY, HE⟩ : ∃ W5, W5 = w4.alloc (.cells #[.int .i64 F.hf, .int .i64 F.hc] 23) ∧ Hid (∀ W, Ext W5 W → W.cell? ⟨w4.heap.size, 0, none⟩ = some (.int .i64 F.hf) ∧ W.cell? ⟨w4.heap.size, 1, none⟩ = some (.int .i64 F.hc) ∧ W.heap[w1.heap.size]? = some (.cells (filC V F) 96 (0, 0))) ∧ Hid (Ext W0 W5) :=
      ⟨_, rfl, Lib.hid (fun W hx => ⟨hx.made 0 _ rfl, hx.made 1 _ rfl, ((Ext.alloc w4 _).trans hx).block b4⟩), Lib.hid (x1.trans (y3.trans (x4.trans (Ext.alloc _ _))))⟩
    have HL : Hid (W0.heap.size ≤ w1.heap.size ∧ w1.heap.size < W5.heap.size ∧ W0.heap.size ≤ W5.heap.size) := Lib.hid ⟨x1.size, heap_lt (HY.out W5 (Ext.refl _)).2.2, HE.out.size⟩
    clear y3 b3 x4 b4 x1
    go_wp2_with fail
    rw [← hW5]
    clear hW5
    obtain ⟨q0, q1, q2⟩ := HY.out W5.drew (Ext.drew _)
    have q2 := cell_of_heap (j := 12) q2 rfl
    have y0 : Ext W5 W5.drew := Ext.drew _
    go_region_held3 (fun w' => w'.cell? ⟨w4.heap.size, 0, none⟩ = some (.int .i64 F.hf) ∧ w'.cell? ⟨w4.heap.size, 1, none⟩ = some (.int .i64 F.hc) ∧ w'.cell? ⟨w1.heap.size, 12, none⟩ = some (.slice V.a3 F.nH V.d3) ∧ Ext W5 w')
      ((refine ⟨?_, ?_, ?_, ?_⟩ <;> assumption))
      (first
        | (go_at_call 45; refine (K.out _ (HE0.out.trans (HE.out.trans (by assumption)))).mono ?_; rintro e w6 ⟨b', q', rfl, h1, h2, h3, x6, f6⟩; have f7 : Fresh W5 b' := Fresh.back f6 (by assumption); have y6 : Ext W5 w6 := Ext.trans (by assumption) x6; obtain ⟨a0, a1, a2⟩ := HY.out _ y6; have a2 := cell_of_heap (j := 12) a2 rfl))
    have gR := (HX.out _ (HE.out.trans y6)).2
    have y7 : Ext w w6 := HE0.out.trans (HE.out.trans y6)
    have gT := (HY.out _ y6).2.2
    clear q0 q1 q2 a0 a1 y0 x6 f6
    clear gT a2 y6
    go_wp2_with (first | (refine wpList_store_row rfl 31 (.tmp 10) (.tmp 40) rfl (w.heap.size + 1) _ rfl rfl 31 _ gR (by kernel_rfl) rfl (by simp [Value.oneCell']) ?_))
    refine bodyPost_ret (results_row_tmp rfl _ _ (w.heap.size + 1) 31 _ (0, 0) _ rfl (setRow_heap _ _ _ _ _ _ gR) Try.underlying31 rfl (by kernel_rfl)) rfl ⟨zeroV, by rfl, zero_at _, below_setRow y7 (Nat.le_succ _) _, From.zero _ _ _⟩
set_option maxRecDepth 100000 in
set_option maxHeartbeats 8000000 in
theorem fwrite_regs (V : FilV) (F : Fil) (x : Int) (b : Option Addr) (m e : Nat) (v : Nat → Int) (w : World) (h : FilAt w V F) (hv : HoldsG (Value.int .u16) w b m v) (hme : m ≤ e) (hem : e ≤ maxLen) (hm : m ≤ 1000000) (wx : (Lit.int .i64 x).wf = true) (hr : rightB F = true) :
    Calls Try.prog 44 #[.agg (filC V F), .func (Fn.func 38) #[] #[], .func (Fn.func 45) #[] #[], .int .i64 x, .slice b m e] w (FP (rdE F.rf F.rc F.nR x m) (if rdE F.rf F.rc F.nR x m = 0 then { F with R := wrF F.R v F.rf x m } else zeroF) V F w) := by
  have hs := right_small hr
  have hsm := Small.of_right hr
  unfold FP
  have HR := Lib.hid (fun w' => fright_v (V := V) hr w')
  have HT := Lib.hid (fun g w' hb => fregs_v V F g w' hb)
  have K := Lib.hid (fun w' (hx : Ext w w') => (csetwords_f F.rf F.rc x V.a4 F.nR V.d4 F.R b m e v w' (h.h4.ext hx) h.l4 h.m4 (Nat.le_trans hs.2.2.2 (by decide)) (hv.ext hx) hme hem (Nat.le_trans hm (by decide)) wx).mono fun _ _ => WrPostF.sl)
  have HC := Lib.hid (fun V' F' w' (hf : FilAt w' V' F') (hz : Small F') => fcopy_c V' F' w' hf hz)
  unfold SlP at K
  obtain ⟨W0, hW0, HX, HE0⟩ : ∃ W0, W0 = ((w.alloc (.cells (filC V F) 31)).alloc (.cells #[.int .i64 0, .int .i64 0, .int .i64 0, .int .i64 0, .int .i64 0, .int .i64 0, .int .i64 0, .int .i64 0, .int .i64 0, .int .i64 0, .slice none 0 0, .slice none 0 0, .slice none 0 0, .slice none 0 0] 31)) ∧ Hid (∀ W, Ext W0 W → W.heap[w.heap.size]? = some (.cells (filC V F) 31 (0, 0)) ∧ W.heap[w.heap.size + 1]? = some (.cells #[.int .i64 0, .int .i64 0, .int .i64 0, .int .i64 0, .int .i64 0, .int .i64 0, .int .i64 0, .int .i64 0, .int .i64 0, .int .i64 0, .slice none 0 0, .slice none 0 0, .slice none 0 0, .slice none 0 0] 31 (0, 0))) ∧ Hid (Ext w W0) :=
    ⟨_, rfl, Lib.hid fun W hx => ⟨hx.block (two_boxes w _ _ _ _).1, hx.block (two_boxes w _ _ _ _).2⟩, Lib.hid ((Ext.alloc w _).trans (Ext.alloc _ _))⟩
  have hsz : w.heap.size + 2 ≤ W0.heap.size := by rw [hW0]; simp
  have HZ := Lib.hid hsz
  have HH := Lib.hid h
  have hN : rdN F.rf F.rc F.nR x m F.nR = if rdE F.rf F.rc F.nR x m = 0 then F.nR else 0 := rfl
  clear h hs hr wx hv hme hem hm hsz
  by_cases hE0 : rdE F.rf F.rc F.nR x m = 0
  · rw [if_pos hE0] at hN ⊢
    rw [hN, hE0] at K
    rw [hE0]
    have hsm' : Small { F with R := wrF F.R v F.rf x m } := ⟨hsm.1, hsm.2, hsm.3, hsm.4⟩
    have HSm := Lib.hid hsm'
    generalize wrF F.R v F.rf x m = L at K HSm ⊢
    clear hN hsm hE0 hsm'
    go_enter Try.func44, Try.ntmps44
    go_upto_region 1 with fail
    rw [← hW0]
    clear hW0
    have gA := (HX.out W0 (Ext.refl _)).1
    go_wp2_with (first | (refine wpList_load_row rfl 31 (.tmp 5) rfl w.heap.size rfl 31 _ (0, 0) _ gA Try.underlying31 rfl (by kernel_rfl) ?_))
    refine (HR.out _).mono ?_; rintro e w1 ⟨rfl, x1⟩
    have gB := (HX.out w1 x1).1
    obtain ⟨W3, hW3, y3, b3⟩ : ∃ W, W = ((w1.alloc (.cells #[.int .i64 0, .int .i64 0, .int .i64 0, .int .i64 0, .int .i64 0, .int .i64 0, .int .i64 0, .int .i64 0, .int .i64 0, .int .i64 0, .slice none 0 0, .slice none 0 0, .slice none 0 0, .slice none 0 0] 96)).setRow w1.heap.size (filC V F)) ∧ Ext w1 W ∧ W.heap[w1.heap.size]? = some (.cells (filC V F) 96 (0, 0)) := ⟨_, rfl, boxed_row _ _ _ _⟩
    have gN := heap_alloc_new w1 (.cells #[.int .i64 0, .int .i64 0, .int .i64 0, .int .i64 0, .int .i64 0, .int .i64 0, .int .i64 0, .int .i64 0, .int .i64 0, .int .i64 0, .slice none 0 0, .slice none 0 0, .slice none 0 0, .slice none 0 0] 96)
    clear gA
    go_wp2_with (first
      | (refine wpList_load_row rfl 31 (.tmp 5) rfl w.heap.size rfl 31 _ (0, 0) _ gB Try.underlying31 rfl (by kernel_rfl) ?_)
      | (refine wpList_store_row rfl 96 (.tmp 12) (.tmp 21) rfl w1.heap.size _ rfl rfl 96 _ gN (by kernel_rfl) rfl (by simp [filC, Value.oneCell']) ?_))
    rw [← hW3]
    clear hW3 gN gB
    refine (HT.out _ _ b3).mono ?_; rintro e w4 ⟨rfl, x4⟩
    have b4 := x4.block b3
    obtain ⟨W5, hW5, HY, HE⟩ : ∃ W5, W5 = w4.alloc (.cells #[.int .i64 F.rf, .int .i64 F.rc] 23) ∧ Hid (∀ W, Ext W5 W → W.cell? ⟨w4.heap.size, 0, none⟩ = some (.int .i64 F.rf) ∧ W.cell? ⟨w4.heap.size, 1, none⟩ = some (.int .i64 F.rc) ∧ W.heap[w1.heap.size]? = some (.cells (filC V F) 96 (0, 0))) ∧ Hid (Ext W0 W5) :=
      ⟨_, rfl, Lib.hid (fun W hx => ⟨hx.made 0 _ rfl, hx.made 1 _ rfl, ((Ext.alloc w4 _).trans hx).block b4⟩), Lib.hid (x1.trans (y3.trans (x4.trans (Ext.alloc _ _))))⟩
    have HL : Hid (W0.heap.size ≤ w1.heap.size ∧ w1.heap.size < W5.heap.size ∧ W0.heap.size ≤ W5.heap.size) := Lib.hid ⟨x1.size, heap_lt (HY.out W5 (Ext.refl _)).2.2, HE.out.size⟩
    clear y3 b3 x4 b4 x1
    go_wp2_with fail
    rw [← hW5]
    clear hW5
    obtain ⟨q0, q1, q2⟩ := HY.out W5.drew (Ext.drew _)
    have q2 := cell_of_heap (j := 13) q2 rfl
    have y0 : Ext W5 W5.drew := Ext.drew _
    go_region_held3 (fun w' => w'.cell? ⟨w4.heap.size, 0, none⟩ = some (.int .i64 F.rf) ∧ w'.cell? ⟨w4.heap.size, 1, none⟩ = some (.int .i64 F.rc) ∧ w'.cell? ⟨w1.heap.size, 13, none⟩ = some (.slice V.a4 F.nR V.d4) ∧ Ext W5 w')
      ((refine ⟨?_, ?_, ?_, ?_⟩ <;> assumption))
      (first
        | (go_at_call 45; refine (K.out _ (HE0.out.trans (HE.out.trans (by assumption)))).mono ?_; rintro e w6 ⟨b', q', rfl, h1, h2, h3, x6, f6⟩; have f7 : Fresh W5 b' := Fresh.back f6 (by assumption); have y6 : Ext W5 w6 := Ext.trans (by assumption) x6; obtain ⟨a0, a1, a2⟩ := HY.out _ y6; have a2 := cell_of_heap (j := 13) a2 rfl))
    have gR := (HX.out _ (HE.out.trans y6)).2
    have y7 : Ext w w6 := HE0.out.trans (HE.out.trans y6)
    have gT := (HY.out _ y6).2.2
    clear q0 q1 q2 a0 a1 y0 x6 f6
    have z2 := frozen_of (j := 13) gT
    have gL : (w6.setCell ⟨w1.heap.size, 13, none⟩ (.slice b' F.nR q')).heap[w1.heap.size]? = some (.cells (filC { V with a4 := b', d4 := q' } { F with R := L }) 96 (0, 0)) := (heap_setCell_same _ _ 13 _ _ (.slice b' F.nR q') gT).trans (by rfl)
    have gQ : (w6.setCell ⟨w1.heap.size, 13, none⟩ (.slice b' F.nR q')).heap[w.heap.size + 1]? = some (.cells #[.int .i64 0, .int .i64 0, .int .i64 0, .int .i64 0, .int .i64 0, .int .i64 0, .int .i64 0, .int .i64 0, .int .i64 0, .int .i64 0, .slice none 0 0, .slice none 0 0, .slice none 0 0, .slice none 0 0] 31 (0, 0)) := (heap_setCell_other w6 ⟨w1.heap.size, 13, none⟩ (w.heap.size + 1) _ (by have := HZ.out; have := HL.out; show w.heap.size + 1 ≠ w1.heap.size; omega)).trans gR
    have HF : Hid (FilAt (w6.setCell ⟨w1.heap.size, 13, none⟩ (.slice b' F.nR q')) { V with a4 := b', d4 := q' } { F with R := L } ∧ From w V F { V with a4 := b', d4 := q' } { F with R := L } ∧ FilOff (fun i => i = w.heap.size + 1) { V with a4 := b', d4 := q' } { F with R := L } ∧ Ext w (w6.setCell ⟨w1.heap.size, 13, none⟩ (.slice b' F.nR q'))) := by
      have h' := HH.out.ext y7
      have o := HH.out.off (Φ := fun i => i = w.heap.size + 1) (w := w) (fun i hi => by omega) (Nat.le_refl _)
      have hlow : w.heap.size ≤ w1.heap.size := by have := HZ.out; have := HL.out; omega
      have k6 : FilAt w6 { V with a4 := b', d4 := q' } { F with R := L } := ⟨h'.h1, h'.l1, h'.m1, h'.h2, h'.l2, h'.m2, h'.h3, h'.l3, h'.m3, h3, h1, h2⟩
      have o1 := HH.out.off (Φ := fun i => i = w1.heap.size) (w := w) (fun i hi => by omega) (Nat.le_refl _)
      refine Lib.hid ⟨k6.keep (keepCell w6 w1.heap.size 13 _) ?_, ⟨.inl ⟨rfl, rfl⟩, .inl ⟨rfl, rfl⟩, .inl ⟨rfl, rfl⟩, .inr (fresh_le f7 (by have := HL.out; have := HZ.out; omega))⟩, ⟨o.o1, o.o2, o.o3, f7.offN (fun i hi => by have := HL.out; have := HZ.out; omega)⟩, Below.setCell y7 hlow _⟩
      exact ⟨o1.o1, o1.o2, o1.o3, f7.offN (fun i hi => by have := HL.out; omega)⟩
    clear h1 h2 h3 gT gR y7 y6 f7
    go_wp2_with (first
      | (refine wpList_load_row rfl 96 (.tmp 12) rfl w1.heap.size rfl 96 _ (0, 0) _ gL Try.underlying96 rfl (by kernel_rfl) ?_))
    refine (HC.out _ _ _ HF.out.1 HSm.out).mono ?_; rintro e w7 ⟨U, rfl, h8, x8, f8⟩
    have gR7 := x8.block gQ
    have HO : Hid (FilOff (fun i => i = w.heap.size + 1) U { F with R := L } ∧ From w V F U { F with R := L } ∧ Ext w w7) := Lib.hid ⟨f8.off HF.out.2.2.1 (fun i hi => by have h9 := HF.out.2.2.2.size; have := heap_lt gQ; omega), HF.out.2.1.trans f8 HF.out.2.2.2, HF.out.2.2.2.trans x8⟩
    clear gQ gL z2 a2 x8 f8
    go_wp2_with (first | (refine wpList_store_row rfl 31 (.tmp 10) (.tmp 46) rfl (w.heap.size + 1) _ rfl rfl 31 _ gR7 (by kernel_rfl) rfl (by simp [filC, Value.oneCell']) ?_))
    refine bodyPost_ret (results_row_tmp rfl _ _ (w.heap.size + 1) 31 _ (0, 0) _ rfl (setRow_heap _ _ _ _ _ _ gR7) Try.underlying31 rfl (by kernel_rfl)) rfl ⟨U, by rfl, h8.keep (keepRow _ _ _) HO.out.1, below_setRow HO.out.2.2 (Nat.le_succ _) _, HO.out.2.1⟩
  · rw [if_neg hE0] at hN ⊢
    rw [hN] at K
    generalize rdE F.rf F.rc F.nR x m = E at K hE0 ⊢
    generalize wrF F.R v F.rf x m = L at K
    clear hN hsm
    go_enter Try.func44, Try.ntmps44
    go_upto_region 1 with fail
    rw [← hW0]
    clear hW0
    have gA := (HX.out W0 (Ext.refl _)).1
    go_wp2_with (first | (refine wpList_load_row rfl 31 (.tmp 5) rfl w.heap.size rfl 31 _ (0, 0) _ gA Try.underlying31 rfl (by kernel_rfl) ?_))
    refine (HR.out _).mono ?_; rintro e w1 ⟨rfl, x1⟩
    have gB := (HX.out w1 x1).1
    obtain ⟨W3, hW3, y3, b3⟩ : ∃ W, W = ((w1.alloc (.cells #[.int .i64 0, .int .i64 0, .int .i64 0, .int .i64 0, .int .i64 0, .int .i64 0, .int .i64 0, .int .i64 0, .int .i64 0, .int .i64 0, .slice none 0 0, .slice none 0 0, .slice none 0 0, .slice none 0 0] 96)).setRow w1.heap.size (filC V F)) ∧ Ext w1 W ∧ W.heap[w1.heap.size]? = some (.cells (filC V F) 96 (0, 0)) := ⟨_, rfl, boxed_row _ _ _ _⟩
    have gN := heap_alloc_new w1 (.cells #[.int .i64 0, .int .i64 0, .int .i64 0, .int .i64 0, .int .i64 0, .int .i64 0, .int .i64 0, .int .i64 0, .int .i64 0, .int .i64 0, .slice none 0 0, .slice none 0 0, .slice none 0 0, .slice none 0 0] 96)
    clear gA
    go_wp2_with (first
      | (refine wpList_load_row rfl 31 (.tmp 5) rfl w.heap.size rfl 31 _ (0, 0) _ gB Try.underlying31 rfl (by kernel_rfl) ?_)
      | (refine wpList_store_row rfl 96 (.tmp 12) (.tmp 21) rfl w1.heap.size _ rfl rfl 96 _ gN (by kernel_rfl) rfl (by simp [filC, Value.oneCell']) ?_))
    rw [← hW3]
    clear hW3 gN gB
    refine (HT.out _ _ b3).mono ?_; rintro e w4 ⟨rfl, x4⟩
    have b4 := x4.block b3
    obtain ⟨W5, hW5, HY, HE⟩ : ∃ W5, W5 = w4.alloc (.cells #[.int .i64 F.rf, .int .i64 F.rc] 23) ∧ Hid (∀ W, Ext W5 W → W.cell? ⟨w4.heap.size, 0, none⟩ = some (.int .i64 F.rf) ∧ W.cell? ⟨w4.heap.size, 1, none⟩ = some (.int .i64 F.rc) ∧ W.heap[w1.heap.size]? = some (.cells (filC V F) 96 (0, 0))) ∧ Hid (Ext W0 W5) :=
      ⟨_, rfl, Lib.hid (fun W hx => ⟨hx.made 0 _ rfl, hx.made 1 _ rfl, ((Ext.alloc w4 _).trans hx).block b4⟩), Lib.hid (x1.trans (y3.trans (x4.trans (Ext.alloc _ _))))⟩
    have HL : Hid (W0.heap.size ≤ w1.heap.size ∧ w1.heap.size < W5.heap.size ∧ W0.heap.size ≤ W5.heap.size) := Lib.hid ⟨x1.size, heap_lt (HY.out W5 (Ext.refl _)).2.2, HE.out.size⟩
    clear y3 b3 x4 b4 x1
    go_wp2_with fail
    rw [← hW5]
    clear hW5
    obtain ⟨q0, q1, q2⟩ := HY.out W5.drew (Ext.drew _)
    have q2 := cell_of_heap (j := 13) q2 rfl
    have y0 : Ext W5 W5.drew := Ext.drew _
    go_region_held3 (fun w' => w'.cell? ⟨w4.heap.size, 0, none⟩ = some (.int .i64 F.rf) ∧ w'.cell? ⟨w4.heap.size, 1, none⟩ = some (.int .i64 F.rc) ∧ w'.cell? ⟨w1.heap.size, 13, none⟩ = some (.slice V.a4 F.nR V.d4) ∧ Ext W5 w')
      ((refine ⟨?_, ?_, ?_, ?_⟩ <;> assumption))
      (first
        | (go_at_call 45; refine (K.out _ (HE0.out.trans (HE.out.trans (by assumption)))).mono ?_; rintro e w6 ⟨b', q', rfl, h1, h2, h3, x6, f6⟩; have f7 : Fresh W5 b' := Fresh.back f6 (by assumption); have y6 : Ext W5 w6 := Ext.trans (by assumption) x6; obtain ⟨a0, a1, a2⟩ := HY.out _ y6; have a2 := cell_of_heap (j := 13) a2 rfl))
    have gR := (HX.out _ (HE.out.trans y6)).2
    have y7 : Ext w w6 := HE0.out.trans (HE.out.trans y6)
    have gT := (HY.out _ y6).2.2
    clear q0 q1 q2 a0 a1 y0 x6 f6
    clear gT a2 y6
    go_wp2_with (first | (refine wpList_store_row rfl 31 (.tmp 10) (.tmp 40) rfl (w.heap.size + 1) _ rfl rfl 31 _ gR (by kernel_rfl) rfl (by simp [Value.oneCell']) ?_))
    refine bodyPost_ret (results_row_tmp rfl _ _ (w.heap.size + 1) 31 _ (0, 0) _ rfl (setRow_heap _ _ _ _ _ _ gR) Try.underlying31 rfl (by kernel_rfl)) rfl ⟨zeroV, by rfl, zero_at _, below_setRow y7 (Nat.le_succ _) _, From.zero _ _ _⟩
end Go.Proofs.Ytkfpnijacfeogaa
