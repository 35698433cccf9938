/-
  CONTRACTS: package file (layer 14): what is read.
-/
import Derived.Test.YtkfpnijacfeogaaFilP
import Derived.Test.YtkfpnijacfeogaaFilS
import Derived.Test.YtkfpnijacfeogaaCells
namespace Go.Proofs.Ytkfpnijacfeogaa
open Go.RowKit
set_option linter.unusedVariables false

set_option maxHeartbeats 1000000 in
theorem ffails_v {F : Fil} {x k : Int} {B : Bool} (hm : meetB F.bf F.bc x k = B) (V : FilV) (w : World) (wx : (Lit.int .i64 x).wf = true) (wk : (Lit.int .i64 k).wf = true) : Calls Try.prog 41 #[.agg (filC V F), .int .i64 x, .int .i64 k] w fun e w' => e = .returned (.bool B) ∧ Ext w w' := by
  have hbd := trm_in wk wx
  have e0 := Ext.alloc w (.cells (filC V F) 31)
  have HM := Lib.hid (fun w' => wmeets_v hm hbd w')
  clear hm hbd
  unfold filC at e0 ⊢
  go_enter Try.func41, Try.ntmps41
  go_wp2_with fail
  refine (HM.out _).mono ?_; rintro e w1 ⟨rfl, x1⟩
  have y := e0.trans x1
  go_wp2
  go_ret
  exact ⟨rfl, y⟩
set_option maxHeartbeats 2000000 in
theorem freadbool_no (V : FilV) (F : Fil) (T G : FuncId) (x k : Int) (w : World) (hr : rightB F = false) :
    Calls Try.prog 34 #[.agg (filC V F), .func (Fn.func T) #[] #[], .func (Fn.func G) #[] #[], .int .i64 x, .int .i64 k] w fun e w' => e = .returned (.tuple #[.slice none 0 0, .int .i64 11]) ∧ Ext w w' := by
  have e0 := Ext.alloc w (.cells (filC V F) 31)
  have HR := Lib.hid (fun w' => fright_v (V := V) hr w')
  clear hr
  unfold filC at HR e0 ⊢
  go_enter Try.func34, Try.ntmps34
  go_wp2_with fail
  refine (HR.out _).mono ?_; rintro e w1 ⟨rfl, x1⟩
  have x2 := e0.trans x1
  go_wp2
  go_ret2
  exact ⟨rfl, x2⟩
set_option maxHeartbeats 2000000 in
theorem freaduint16_no (V : FilV) (F : Fil) (T G : FuncId) (x k : Int) (w : World) (hr : rightB F = false) :
    Calls Try.prog 37 #[.agg (filC V F), .func (Fn.func T) #[] #[], .func (Fn.func G) #[] #[], .int .i64 x, .int .i64 k] w fun e w' => e = .returned (.tuple #[.slice none 0 0, .int .i64 11]) ∧ Ext w w' := by
  have e0 := Ext.alloc w (.cells (filC V F) 31)
  have HR := Lib.hid (fun w' => fright_v (V := V) hr w')
  clear hr
  unfold filC at HR e0 ⊢
  go_enter Try.func37, Try.ntmps37
  go_wp2_with fail
  refine (HR.out _).mono ?_; rintro e w1 ⟨rfl, x1⟩
  have x2 := e0.trans x1
  go_wp2
  go_ret2
  exact ⟨rfl, x2⟩
set_option maxRecDepth 100000 in
set_option maxHeartbeats 4000000 in
theorem fread_coils (V : FilV) (F : Fil) (x k : Int) (w : World) (h : FilAt w V F) (wx : (Lit.int .i64 x).wf = true) (wk : (Lit.int .i64 k).wf = true) (hr : rightB F = true) :
    Calls Try.prog 34 #[.agg (filC V F), .func (Fn.func 32) #[] #[], .func (Fn.func 35) #[] #[], .int .i64 x, .int .i64 k] w (SlP Value.bool (rdE F.cf F.cc F.nC x k) (rdN F.cf F.cc F.nC x k k.toNat) (rdF F.C F.cf x) w) := by
  have hs := right_small hr
  unfold SlP
  have e0 := Ext.alloc w (.cells (filC V F) 31)
  have HR := Lib.hid (fun w' => fright_v (V := V) hr w')
  have HT := Lib.hid (fun g w' hb => fcoils_v V F g w' hb)
  have K := Lib.hid (fun w' (hx : Ext w w') => (cbits_f F.cf F.cc x k V.a1 F.nC V.d1 F.C w' (h.h1.ext hx) h.l1 h.m1 (Nat.le_trans hs.1 (by decide)) wx wk).mono fun _ _ => RdPostF.sl)
  unfold SlP at K
  generalize rdE F.cf F.cc F.nC x k = E at K ⊢
  generalize rdN F.cf F.cc F.nC x k k.toNat = N at K ⊢
  generalize rdF F.C F.cf x = L at K ⊢
  clear h hs hr wx wk
  go_enter Try.func34, Try.ntmps34
  go_upto_region 1 with fail
  have gA := heap_alloc_new w (.cells (filC V F) 31)
  go_wp2_with (first | (refine wpList_load_row rfl 31 (.tmp 5) rfl w.heap.size rfl 31 _ (0, 0) _ gA Try.underlying31 rfl (by kernel_rfl) ?_))
  refine (HR.out _).mono ?_; rintro e w1 ⟨rfl, x1⟩
  have gB := x1.block gA
  have x2 := e0.trans x1
  clear gA x1 e0
  obtain ⟨W3, hW3, y3, b3⟩ : ∃ W, W = ((w1.alloc (.cells #[.int .i64 0, .int .i64 0, .int .i64 0, .int .i64 0, .int .i64 0, .int .i64 0, .int .i64 0, .int .i64 0, .int .i64 0, .int .i64 0, .slice none 0 0, .slice none 0 0, .slice none 0 0, .slice none 0 0] 96)).setRow w1.heap.size (filC V F)) ∧ Ext w1 W ∧ W.heap[w1.heap.size]? = some (.cells (filC V F) 96 (0, 0)) := ⟨_, rfl, boxed_row _ _ _ _⟩
  have gN := heap_alloc_new w1 (.cells #[.int .i64 0, .int .i64 0, .int .i64 0, .int .i64 0, .int .i64 0, .int .i64 0, .int .i64 0, .int .i64 0, .int .i64 0, .int .i64 0, .slice none 0 0, .slice none 0 0, .slice none 0 0, .slice none 0 0] 96)
  go_wp2_with (first
    | (refine wpList_load_row rfl 31 (.tmp 5) rfl w.heap.size rfl 31 _ (0, 0) _ gB Try.underlying31 rfl (by kernel_rfl) ?_)
    | (refine wpList_store_row rfl 96 (.tmp 12) (.tmp 18) rfl w1.heap.size _ rfl rfl 96 _ gN (by kernel_rfl) rfl (by simp [filC, Value.oneCell']) ?_))
  rw [← hW3]
  clear hW3 gN gB
  refine (HT.out _ _ b3).mono ?_; rintro e w4 ⟨rfl, x4⟩
  have b4 := x4.block b3
  obtain ⟨W5, hW5, HY, HE⟩ : ∃ W5, W5 = w4.alloc (.cells #[.int .i64 F.cf, .int .i64 F.cc] 23) ∧ Hid (∀ W, Ext W5 W → W.cell? ⟨w4.heap.size, 0, none⟩ = some (.int .i64 F.cf) ∧ W.cell? ⟨w4.heap.size, 1, none⟩ = some (.int .i64 F.cc) ∧ W.cell? ⟨w1.heap.size, 10, none⟩ = some (.slice V.a1 F.nC V.d1)) ∧ Hid (Ext w W5) :=
    ⟨_, rfl, Lib.hid (fun W hx => ⟨hx.made 0 _ rfl, hx.made 1 _ rfl, cell_of_heap (((Ext.alloc w4 _).trans hx).block b4) rfl⟩), Lib.hid (x2.trans (y3.trans (x4.trans (Ext.alloc _ _))))⟩
  clear y3 b3 x4 b4 x2
  go_wp2_with fail
  rw [← hW5]
  clear hW5
  obtain ⟨q0, q1, q2⟩ := HY.out W5.drew (Ext.drew _)
  have y0 : Ext W5 W5.drew := Ext.drew _
  go_region_held3 (fun w' => w'.cell? ⟨w4.heap.size, 0, none⟩ = some (.int .i64 F.cf) ∧ w'.cell? ⟨w4.heap.size, 1, none⟩ = some (.int .i64 F.cc) ∧ w'.cell? ⟨w1.heap.size, 10, none⟩ = some (.slice V.a1 F.nC V.d1) ∧ Ext W5 w')
    ((refine ⟨?_, ?_, ?_, ?_⟩ <;> assumption))
    (first
      | (go_at_call 35; refine (K.out _ (HE.out.trans (by assumption))).mono ?_; rintro e w6 ⟨b, q, rfl, h1, h2, h3, x6, f6⟩; have f7 : Fresh w b := Fresh.back f6 (HE.out.trans (by assumption)); have y6 : Ext W5 w6 := Ext.trans (by assumption) x6; obtain ⟨a0, a1, a2⟩ := HY.out _ y6))
  clear q0 q1 q2 a0 a1 a2
  go_wp2
  go_ret2
  exact ⟨b, q, rfl, h1, h2, h3, HE.out.trans y6, f7⟩
set_option maxRecDepth 100000 in
set_option maxHeartbeats 4000000 in
theorem fread_inputs (V : FilV) (F : Fil) (x k : Int) (w : World) (h : FilAt w V F) (wx : (Lit.int .i64 x).wf = true) (wk : (Lit.int .i64 k).wf = true) (hr : rightB F = true) :
    Calls Try.prog 34 #[.agg (filC V F), .func (Fn.func 33) #[] #[], .func (Fn.func 35) #[] #[], .int .i64 x, .int .i64 k] w (SlP Value.bool (rdE F.jf F.jc F.nI x k) (rdN F.jf F.jc F.nI x k k.toNat) (rdF F.I F.jf x) w) := by
  have hs := right_small hr
  unfold SlP
  have e0 := Ext.alloc w (.cells (filC V F) 31)
  have HR := Lib.hid (fun w' => fright_v (V := V) hr w')
  have HT := Lib.hid (fun g w' hb => finputs_v V F g w' hb)
  have K := Lib.hid (fun w' (hx : Ext w w') => (cbits_f F.jf F.jc x k V.a2 F.nI V.d2 F.I w' (h.h2.ext hx) h.l2 h.m2 (Nat.le_trans hs.2.1 (by decide)) wx wk).mono fun _ _ => RdPostF.sl)
  unfold SlP at K
  generalize rdE F.jf F.jc F.nI x k = E at K ⊢
  generalize rdN F.jf F.jc F.nI x k k.toNat = N at K ⊢
  generalize rdF F.I F.jf x = L at K ⊢
  clear h hs hr wx wk
  go_enter Try.func34, Try.ntmps34
  go_upto_region 1 with fail
  have gA := heap_alloc_new w (.cells (filC V F) 31)
  go_wp2_with (first | (refine wpList_load_row rfl 31 (.tmp 5) rfl w.heap.size rfl 31 _ (0, 0) _ gA Try.underlying31 rfl (by kernel_rfl) ?_))
  refine (HR.out _).mono ?_; rintro e w1 ⟨rfl, x1⟩
  have gB := x1.block gA
  have x2 := e0.trans x1
  clear gA x1 e0
  obtain ⟨W3, hW3, y3, b3⟩ : ∃ W, W = ((w1.alloc (.cells #[.int .i64 0, .int .i64 0, .int .i64 0, .int .i64 0, .int .i64 0, .int .i64 0, .int .i64 0, .int .i64 0, .int .i64 0, .int .i64 0, .slice none 0 0, .slice none 0 0, .slice none 0 0, .slice none 0 0] 96)).setRow w1.heap.size (filC V F)) ∧ Ext w1 W ∧ W.heap[w1.heap.size]? = some (.cells (filC V F) 96 (0, 0)) := ⟨_, rfl, boxed_row _ _ _ _⟩
  have gN := heap_alloc_new w1 (.cells #[.int .i64 0, .int .i64 0, .int .i64 0, .int .i64 0, .int .i64 0, .int .i64 0, .int .i64 0, .int .i64 0, .int .i64 0, .int .i64 0, .slice none 0 0, .slice none 0 0, .slice none 0 0, .slice none 0 0] 96)
  go_wp2_with (first
    | (refine wpList_load_row rfl 31 (.tmp 5) rfl w.heap.size rfl 31 _ (0, 0) _ gB Try.underlying31 rfl (by kernel_rfl) ?_)
    | (refine wpList_store_row rfl 96 (.tmp 12) (.tmp 18) rfl w1.heap.size _ rfl rfl 96 _ gN (by kernel_rfl) rfl (by simp [filC, Value.oneCell']) ?_))
  rw [← hW3]
  clear hW3 gN gB
  refine (HT.out _ _ b3).mono ?_; rintro e w4 ⟨rfl, x4⟩
  have b4 := x4.block b3
  obtain ⟨W5, hW5, HY, HE⟩ : ∃ W5, W5 = w4.alloc (.cells #[.int .i64 F.jf, .int .i64 F.jc] 23) ∧ Hid (∀ W, Ext W5 W → W.cell? ⟨w4.heap.size, 0, none⟩ = some (.int .i64 F.jf) ∧ W.cell? ⟨w4.heap.size, 1, none⟩ = some (.int .i64 F.jc) ∧ W.cell? ⟨w1.heap.size, 11, none⟩ = some (.slice V.a2 F.nI V.d2)) ∧ Hid (Ext w W5) :=
    ⟨_, rfl, Lib.hid (fun W hx => ⟨hx.made 0 _ rfl, hx.made 1 _ rfl, cell_of_heap (((Ext.alloc w4 _).trans hx).block b4) rfl⟩), Lib.hid (x2.trans (y3.trans (x4.trans (Ext.alloc _ _))))⟩
  clear y3 b3 x4 b4 x2
  go_wp2_with fail
  rw [← hW5]
  clear hW5
  obtain ⟨q0, q1, q2⟩ := HY.out W5.drew (Ext.drew _)
  have y0 : Ext W5 W5.drew := Ext.drew _
  go_region_held3 (fun w' => w'.cell? ⟨w4.heap.size, 0, none⟩ = some (.int .i64 F.jf) ∧ w'.cell? ⟨w4.heap.size, 1, none⟩ = some (.int .i64 F.jc) ∧ w'.cell? ⟨w1.heap.size, 11, none⟩ = some (.slice V.a2 F.nI V.d2) ∧ Ext W5 w')
    ((refine ⟨?_, ?_, ?_, ?_⟩ <;> assumption))
    (first
      | (go_at_call 35; refine (K.out _ (HE.out.trans (by assumption))).mono ?_; rintro e w6 ⟨b, q, rfl, h1, h2, h3, x6, f6⟩; have f7 : Fresh w b := Fresh.back f6 (HE.out.trans (by assumption)); have y6 : Ext W5 w6 := Ext.trans (by assumption) x6; obtain ⟨a0, a1, a2⟩ := HY.out _ y6))
  clear q0 q1 q2 a0 a1 a2
  go_wp2
  go_ret2
  exact ⟨b, q, rfl, h1, h2, h3, HE.out.trans y6, f7⟩
set_option maxRecDepth 100000 in
set_option maxHeartbeats 4000000 in
theorem fread_holding (V : FilV) (F : Fil) (x k : Int) (w : World) (h : FilAt w V F) (wx : (Lit.int .i64 x).wf = true) (wk : (Lit.int .i64 k).wf = true) (hr : rightB F = true) :
    Calls Try.prog 37 #[.agg (filC V F), .func (Fn.func 40) #[] #[], .func (Fn.func 39) #[] #[], .int .i64 x, .int .i64 k] w (SlP (Value.int .u16) (rdE F.hf F.hc F.nH x k) (rdN F.hf F.hc F.nH x k k.toNat) (rdF F.H F.hf x) w) := by
  have hs := right_small hr
  unfold SlP
  have e0 := Ext.alloc w (.cells (filC V F) 31)
  have HR := Lib.hid (fun w' => fright_v (V := V) hr w')
  have HT := Lib.hid (fun g w' hb => fholding_v V F g w' hb)
  have K := Lib.hid (fun w' (hx : Ext w w') => (cwords_f F.hf F.hc x k V.a3 F.nH V.d3 F.H w' (h.h3.ext hx) h.l3 h.m3 (Nat.le_trans hs.2.2.1 (by decide)) wx wk).mono fun _ _ => RdPostF.sl)
  unfold SlP at K
  generalize rdE F.hf F.hc F.nH x k = E at K ⊢
  generalize rdN F.hf F.hc F.nH x k k.toNat = N at K ⊢
  generalize rdF F.H F.hf x = L at K ⊢
  clear h hs hr wx wk
  go_enter Try.func37, Try.ntmps37
  go_upto_region 1 with fail
  have gA := heap_alloc_new w (.cells (filC V F) 31)
  go_wp2_with (first | (refine wpList_load_row rfl 31 (.tmp 5) rfl w.heap.size rfl 31 _ (0, 0) _ gA Try.underlying31 rfl (by kernel_rfl) ?_))
  refine (HR.out _).mono ?_; rintro e w1 ⟨rfl, x1⟩
  have gB := x1.block gA
  have x2 := e0.trans x1
  clear gA x1 e0
  obtain ⟨W3, hW3, y3, b3⟩ : ∃ W, W = ((w1.alloc (.cells #[.int .i64 0, .int .i64 0, .int .i64 0, .int .i64 0, .int .i64 0, .int .i64 0, .int .i64 0, .int .i64 0, .int .i64 0, .int .i64 0, .slice none 0 0, .slice none 0 0, .slice none 0 0, .slice none 0 0] 96)).setRow w1.heap.size (filC V F)) ∧ Ext w1 W ∧ W.heap[w1.heap.size]? = some (.cells (filC V F) 96 (0, 0)) := ⟨_, rfl, boxed_row _ _ _ _⟩
  have gN := heap_alloc_new w1 (.cells #[.int .i64 0, .int .i64 0, .int .i64 0, .int .i64 0, .int .i64 0, .int .i64 0, .int .i64 0, .int .i64 0, .int .i64 0, .int .i64 0, .slice none 0 0, .slice none 0 0, .slice none 0 0, .slice none 0 0] 96)
  go_wp2_with (first
    | (refine wpList_load_row rfl 31 (.tmp 5) rfl w.heap.size rfl 31 _ (0, 0) _ gB Try.underlying31 rfl (by kernel_rfl) ?_)
    | (refine wpList_store_row rfl 96 (.tmp 12) (.tmp 18) rfl w1.heap.size _ rfl rfl 96 _ gN (by kernel_rfl) rfl (by simp [filC, Value.oneCell']) ?_))
  rw [← hW3]
  clear hW3 gN gB
  refine (HT.out _ _ b3).mono ?_; rintro e w4 ⟨rfl, x4⟩
  have b4 := x4.block b3
  obtain ⟨W5, hW5, HY, HE⟩ : ∃ W5, W5 = w4.alloc (.cells #[.int .i64 F.hf, .int .i64 F.hc] 23) ∧ Hid (∀ W, Ext W5 W → W.cell? ⟨w4.heap.size, 0, none⟩ = some (.int .i64 F.hf) ∧ W.cell? ⟨w4.heap.size, 1, none⟩ = some (.int .i64 F.hc) ∧ W.cell? ⟨w1.heap.size, 12, none⟩ = some (.slice V.a3 F.nH V.d3)) ∧ Hid (Ext w W5) :=
    ⟨_, rfl, Lib.hid (fun W hx => ⟨hx.made 0 _ rfl, hx.made 1 _ rfl, cell_of_heap (((Ext.alloc w4 _).trans hx).block b4) rfl⟩), Lib.hid (x2.trans (y3.trans (x4.trans (Ext.alloc _ _))))⟩
  clear y3 b3 x4 b4 x2
  go_wp2_with fail
  rw [← hW5]
  clear hW5
  obtain ⟨q0, q1, q2⟩ := HY.out W5.drew (Ext.drew _)
  have y0 : Ext W5 W5.drew := Ext.drew _
  go_region_held3 (fun w' => w'.cell? ⟨w4.heap.size, 0, none⟩ = some (.int .i64 F.hf) ∧ w'.cell? ⟨w4.heap.size, 1, none⟩ = some (.int .i64 F.hc) ∧ w'.cell? ⟨w1.heap.size, 12, none⟩ = some (.slice V.a3 F.nH V.d3) ∧ Ext W5 w')
    ((refine ⟨?_, ?_, ?_, ?_⟩ <;> assumption))
    (first
      | (go_at_call 39; refine (K.out _ (HE.out.trans (by assumption))).mono ?_; rintro e w6 ⟨b, q, rfl, h1, h2, h3, x6, f6⟩; have f7 : Fresh w b := Fresh.back f6 (HE.out.trans (by assumption)); have y6 : Ext W5 w6 := Ext.trans (by assumption) x6; obtain ⟨a0, a1, a2⟩ := HY.out _ y6))
  clear q0 q1 q2 a0 a1 a2
  go_wp2
  go_ret2
  exact ⟨b, q, rfl, h1, h2, h3, HE.out.trans y6, f7⟩
set_option maxRecDepth 100000 in
set_option maxHeartbeats 4000000 in
theorem fread_regs (V : FilV) (F : Fil) (x k : Int) (w : World) (h : FilAt w V F) (wx : (Lit.int .i64 x).wf = true) (wk : (Lit.int .i64 k).wf = true) (hr : rightB F = true) :
    Calls Try.prog 37 #[.agg (filC V F), .func (Fn.func 38) #[] #[], .func (Fn.func 39) #[] #[], .int .i64 x, .int .i64 k] w (SlP (Value.int .u16) (rdE F.rf F.rc F.nR x k) (rdN F.rf F.rc F.nR x k k.toNat) (rdF F.R F.rf x) w) := by
  have hs := right_small hr
  unfold SlP
  have e0 := Ext.alloc w (.cells (filC V F) 31)
  have HR := Lib.hid (fun w' => fright_v (V := V) hr w')
  have HT := Lib.hid (fun g w' hb => fregs_v V F g w' hb)
  have K := Lib.hid (fun w' (hx : Ext w w') => (cwords_f F.rf F.rc x k V.a4 F.nR V.d4 F.R w' (h.h4.ext hx) h.l4 h.m4 (Nat.le_trans hs.2.2.2 (by decide)) wx wk).mono fun _ _ => RdPostF.sl)
  unfold SlP at K
  generalize rdE F.rf F.rc F.nR x k = E at K ⊢
  generalize rdN F.rf F.rc F.nR x k k.toNat = N at K ⊢
  generalize rdF F.R F.rf x = L at K ⊢
  clear h hs hr wx wk
  go_enter Try.func37, Try.ntmps37
  go_upto_region 1 with fail
  have gA := heap_alloc_new w (.cells (filC V F) 31)
  go_wp2_with (first | (refine wpList_load_row rfl 31 (.tmp 5) rfl w.heap.size rfl 31 _ (0, 0) _ gA Try.underlying31 rfl (by kernel_rfl) ?_))
  refine (HR.out _).mono ?_; rintro e w1 ⟨rfl, x1⟩
  have gB := x1.block gA
  have x2 := e0.trans x1
  clear gA x1 e0
  obtain ⟨W3, hW3, y3, b3⟩ : ∃ W, W = ((w1.alloc (.cells #[.int .i64 0, .int .i64 0, .int .i64 0, .int .i64 0, .int .i64 0, .int .i64 0, .int .i64 0, .int .i64 0, .int .i64 0, .int .i64 0, .slice none 0 0, .slice none 0 0, .slice none 0 0, .slice none 0 0] 96)).setRow w1.heap.size (filC V F)) ∧ Ext w1 W ∧ W.heap[w1.heap.size]? = some (.cells (filC V F) 96 (0, 0)) := ⟨_, rfl, boxed_row _ _ _ _⟩
  have gN := heap_alloc_new w1 (.cells #[.int .i64 0, .int .i64 0, .int .i64 0, .int .i64 0, .int .i64 0, .int .i64 0, .int .i64 0, .int .i64 0, .int .i64 0, .int .i64 0, .slice none 0 0, .slice none 0 0, .slice none 0 0, .slice none 0 0] 96)
  go_wp2_with (first
    | (refine wpList_load_row rfl 31 (.tmp 5) rfl w.heap.size rfl 31 _ (0, 0) _ gB Try.underlying31 rfl (by kernel_rfl) ?_)
    | (refine wpList_store_row rfl 96 (.tmp 12) (.tmp 18) rfl w1.heap.size _ rfl rfl 96 _ gN (by kernel_rfl) rfl (by simp [filC, Value.oneCell']) ?_))
  rw [← hW3]
  clear hW3 gN gB
  refine (HT.out _ _ b3).mono ?_; rintro e w4 ⟨rfl, x4⟩
  have b4 := x4.block b3
  obtain ⟨W5, hW5, HY, HE⟩ : ∃ W5, W5 = w4.alloc (.cells #[.int .i64 F.rf, .int .i64 F.rc] 23) ∧ Hid (∀ W, Ext W5 W → W.cell? ⟨w4.heap.size, 0, none⟩ = some (.int .i64 F.rf) ∧ W.cell? ⟨w4.heap.size, 1, none⟩ = some (.int .i64 F.rc) ∧ W.cell? ⟨w1.heap.size, 13, none⟩ = some (.slice V.a4 F.nR V.d4)) ∧ Hid (Ext w W5) :=
    ⟨_, rfl, Lib.hid (fun W hx => ⟨hx.made 0 _ rfl, hx.made 1 _ rfl, cell_of_heap (((Ext.alloc w4 _).trans hx).block b4) rfl⟩), Lib.hid (x2.trans (y3.trans (x4.trans (Ext.alloc _ _))))⟩
  clear y3 b3 x4 b4 x2
  go_wp2_with fail
  rw [← hW5]
  clear hW5
  obtain ⟨q0, q1, q2⟩ := HY.out W5.drew (Ext.drew _)
  have y0 : Ext W5 W5.drew := Ext.drew _
  go_region_held3 (fun w' => w'.cell? ⟨w4.heap.size, 0, none⟩ = some (.int .i64 F.rf) ∧ w'.cell? ⟨w4.heap.size, 1, none⟩ = some (.int .i64 F.rc) ∧ w'.cell? ⟨w1.heap.size, 13, none⟩ = some (.slice V.a4 F.nR V.d4) ∧ Ext W5 w')
    ((refine ⟨?_, ?_, ?_, ?_⟩ <;> assumption))
    (first
      | (go_at_call 39; refine (K.out _ (HE.out.trans (by assumption))).mono ?_; rintro e w6 ⟨b, q, rfl, h1, h2, h3, x6, f6⟩; have f7 : Fresh w b := Fresh.back f6 (HE.out.trans (by assumption)); have y6 : Ext W5 w6 := Ext.trans (by assumption) x6; obtain ⟨a0, a1, a2⟩ := HY.out _ y6))
  clear q0 q1 q2 a0 a1 a2
  go_wp2
  go_ret2
  exact ⟨b, q, rfl, h1, h2, h3, HE.out.trans y6, f7⟩
end Go.Proofs.Ytkfpnijacfeogaa
