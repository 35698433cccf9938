/-
  CONTRACTS: package file (layer 14): Same.
-/
import Derived.Test.YtkfpnijacfeogaaFilE
namespace Go.Proofs.Ytkfpnijacfeogaa
open Go.RowKit
set_option linter.unusedVariables false

theorem same_split (F G : Fil) : sameF F G = (((((eqW F.cf F.cc G.cf G.cc && eqG F.nC G.nC F.C G.C) && (eqW F.jf F.jc G.jf G.jc && eqG F.nI G.nI F.I G.I)) && (eqW F.hf F.hc G.hf G.hc && eqB F.nH G.nH F.H G.H)) && (eqW F.rf F.rc G.rf G.rc && eqB F.nR G.nR F.R G.R)) && eqW F.bf F.bc G.bf G.bc) := by
  unfold sameF sbankB
  ac_rfl
/-- Two boxes, laid one behind the other. -/
theorem two_laid (X : World) (z a b : Array Value) (t : TypeId) :
    Ext X ((((X.alloc (.cells z t)).alloc (.cells z t)).setRow X.heap.size a).setRow (X.heap.size + 1) b) ∧
    ((((X.alloc (.cells z t)).alloc (.cells z t)).setRow X.heap.size a).setRow (X.heap.size + 1) b).heap[X.heap.size]? = some (.cells a t (0, 0)) ∧
    ((((X.alloc (.cells z t)).alloc (.cells z t)).setRow X.heap.size a).setRow (X.heap.size + 1) b).heap[X.heap.size + 1]? = some (.cells b t (0, 0)) := by
  refine ⟨below_setRow (below_setRow ((Ext.alloc X _).trans (Ext.alloc _ _)) (Nat.le_refl _) _) (Nat.le_succ _) _, ?_, ?_⟩
  · exact (setRow_other _ _ _ _ (by omega)).trans (setRow_heap _ _ _ _ _ _ (two_boxes X z z t t).1)
  · exact setRow_heap _ _ _ _ _ _ ((setRow_other _ _ _ _ (by omega)).trans (two_boxes X z z t t).2)
theorem two_laid' (X : World) (z a b : Array Value) (t : TypeId) :
    Ext X ((((X.alloc (.cells z t)).alloc (.cells z t)).setRow (X.heap.size + 1) b).setRow X.heap.size a) ∧
    ((((X.alloc (.cells z t)).alloc (.cells z t)).setRow (X.heap.size + 1) b).setRow X.heap.size a).heap[X.heap.size]? = some (.cells a t (0, 0)) ∧
    ((((X.alloc (.cells z t)).alloc (.cells z t)).setRow (X.heap.size + 1) b).setRow X.heap.size a).heap[X.heap.size + 1]? = some (.cells b t (0, 0)) := by
  refine ⟨below_setRow (below_setRow ((Ext.alloc X _).trans (Ext.alloc _ _)) (Nat.le_succ _) _) (Nat.le_refl _) _, ?_, ?_⟩
  · exact setRow_heap _ _ _ _ _ _ ((setRow_other _ _ _ _ (by omega)).trans (two_boxes X z z t t).1)
  · exact (setRow_other _ _ _ _ (by omega)).trans (setRow_heap _ _ _ _ _ _ (two_boxes X z z t t).2)
set_option maxRecDepth 100000 in
set_option maxHeartbeats 4000000 in
theorem fagainstbool_any (V : FilV) (F : Fil) (U : FilV) (G : Fil) (w : World) : Calls Try.prog 48 #[.agg (filC V F), .agg (filC U G)] w fun e w' => ∃ A D, e = .returned (.func (Fn.func 62) #[] #[.pointer (some ⟨A, 0, none⟩), .pointer (some ⟨D, 0, none⟩)]) ∧ w'.heap[A]? = some (.cells (filC V F) 96 (0, 0)) ∧ w'.heap[D]? = some (.cells (filC U G) 96 (0, 0)) ∧ Ext w w' := by
  obtain ⟨W0, hW0, HX, HE⟩ : ∃ W0, W0 = ((w.alloc (.cells (filC V F) 31)).alloc (.cells (filC U G) 31)) ∧ Hid (∀ W, Ext W0 W → W.heap[w.heap.size]? = some (.cells (filC V F) 31 (0, 0)) ∧ W.heap[w.heap.size + 1]? = some (.cells (filC U G) 31 (0, 0))) ∧ Hid (Ext w W0) :=
    ⟨_, rfl, Lib.hid fun W hx => ⟨hx.block (two_boxes w _ _ _ _).1, hx.block (two_boxes w _ _ _ _).2⟩, Lib.hid ((Ext.alloc w _).trans (Ext.alloc _ _))⟩
  go_enter Try.func48, Try.ntmps48
  go_upto_region 1 with fail
  rw [← hW0]
  clear hW0
  have hs : Ext W0 W0.drew := Ext.drew _
  refine wp_region_held_drew (S := fun W => Ext W0 W) (by kernel_rfl) hs (fun _ => ?_)
  obtain ⟨X, hX⟩ : ∃ X, X = W0.drew := ⟨_, rfl⟩
  rw [← hX] at hs ⊢
  clear hX
  have hx := hs
  have hXs := hs.size
  refine wpAnyH_takeD (i := 0) (d := 7) rfl rfl (by kernel_rfl) (by kernel_rfl) (by kernel_rfl) (fun _ _ _ h => h) (yieldsIf_load_row (by rfl) 31 (.tmp 2) rfl (w.heap.size) rfl 31 _ (0, 0) _ (fun w' hw' => (HX.out _ hw').1) Try.underlying31 rfl (by kernel_rfl)) hs ?_
  simp only [Act.put, List.setIfInBounds_toArray, List.set_cons_succ, List.set_cons_zero]
  refine wpAnyH_takeD (i := 1) (d := 8) rfl rfl (by kernel_rfl) (by kernel_rfl) (by kernel_rfl) (fun _ _ _ h => h) (yieldsIf_load_row (by rfl) 31 (.tmp 3) rfl (w.heap.size + 1) rfl 31 _ (0, 0) _ (fun w' hw' => (HX.out _ hw').2) Try.underlying31 rfl (by kernel_rfl)) hs ?_
  simp only [Act.put, List.setIfInBounds_toArray, List.set_cons_succ, List.set_cons_zero]
  refine wpAnyH_ready (rs := [2, 3]) (by kernel_rfl) (by simp) (AllReadyH.cons rfl (fun K hK => ?_) (AllReadyH.cons rfl (fun K hK => ?_) (AllReadyH.nil)))
  · go_simp
    refine hK.out _ _ (hs.trans (Ext.alloc _ _)) (fun hs => ?_)
    clear hK K
    refine wpAnyH_ready (rs := [3]) (by kernel_rfl) (by simp) (AllReadyH.cons rfl (fun K hK => ?_) (AllReadyH.nil))
    go_simp
    refine hK.out _ _ (hs.trans (Ext.alloc _ _)) (fun hs => ?_)
    clear hK K
    refine wpAnyH_ready (rs := [4]) (by kernel_rfl) (by simp) (AllReadyH.cons rfl (fun K hK => ?_) AllReadyH.nil)
    refine step_store_row rfl 96 (.tmp 5) (.tmp 7) rfl (X.heap.size) _ rfl rfl 96 _ (two_boxes X #[.int .i64 0, .int .i64 0, .int .i64 0, .int .i64 0, .int .i64 0, .int .i64 0, .int .i64 0, .int .i64 0, .int .i64 0, .int .i64 0, .slice none 0 0, .slice none 0 0, .slice none 0 0, .slice none 0 0] #[.int .i64 0, .int .i64 0, .int .i64 0, .int .i64 0, .int .i64 0, .int .i64 0, .int .i64 0, .int .i64 0, .int .i64 0, .int .i64 0, .slice none 0 0, .slice none 0 0, .slice none 0 0, .slice none 0 0] 96 96).1 (by kernel_rfl) rfl (by simp [filC, Value.oneCell']) rfl ?_
    refine hK.out _ _ (below_setRow hs (by have := hXs; omega) _) (fun hs => ?_)
    clear hK K
    simp only [Act.put]
    refine wpAnyH_ready (rs := [5]) (by kernel_rfl) (by simp) (AllReadyH.cons rfl (fun K hK => ?_) AllReadyH.nil)
    refine step_store_row rfl 96 (.tmp 6) (.tmp 8) rfl (X.heap.size + 1) _ rfl rfl 96 _ ((setRow_other _ _ _ _ (by omega)).trans (two_boxes X #[.int .i64 0, .int .i64 0, .int .i64 0, .int .i64 0, .int .i64 0, .int .i64 0, .int .i64 0, .int .i64 0, .int .i64 0, .int .i64 0, .slice none 0 0, .slice none 0 0, .slice none 0 0, .slice none 0 0] #[.int .i64 0, .int .i64 0, .int .i64 0, .int .i64 0, .int .i64 0, .int .i64 0, .int .i64 0, .int .i64 0, .int .i64 0, .int .i64 0, .slice none 0 0, .slice none 0 0, .slice none 0 0, .slice none 0 0] 96 96).2) (by kernel_rfl) rfl (by simp [filC, Value.oneCell']) rfl ?_
    refine hK.out _ _ (below_setRow hs (by have := hXs; omega) _) (fun hs => ?_)
    clear hK K
    simp only [Act.put]
    refine wpAnyH_done (by kernel_rfl) ?_ _
    have hl := two_laid X #[.int .i64 0, .int .i64 0, .int .i64 0, .int .i64 0, .int .i64 0, .int .i64 0, .int .i64 0, .int .i64 0, .int .i64 0, .int .i64 0, .slice none 0 0, .slice none 0 0, .slice none 0 0, .slice none 0 0] (filC V F) (filC U G) 96
    go_wp2
    go_ret
    exact ⟨_, _, rfl, hl.2.1, hl.2.2, HE.out.trans (hx.trans hl.1)⟩
  · go_simp
    refine hK.out _ _ (hs.trans (Ext.alloc _ _)) (fun hs => ?_)
    clear hK K
    refine wpAnyH_ready (rs := [2]) (by kernel_rfl) (by simp) (AllReadyH.cons rfl (fun K hK => ?_) (AllReadyH.nil))
    go_simp
    refine hK.out _ _ (hs.trans (Ext.alloc _ _)) (fun hs => ?_)
    clear hK K
    refine wpAnyH_ready (rs := [4]) (by kernel_rfl) (by simp) (AllReadyH.cons rfl (fun K hK => ?_) AllReadyH.nil)
    refine step_store_row rfl 96 (.tmp 5) (.tmp 7) rfl (X.heap.size + 1) _ rfl rfl 96 _ (two_boxes X #[.int .i64 0, .int .i64 0, .int .i64 0, .int .i64 0, .int .i64 0, .int .i64 0, .int .i64 0, .int .i64 0, .int .i64 0, .int .i64 0, .slice none 0 0, .slice none 0 0, .slice none 0 0, .slice none 0 0] #[.int .i64 0, .int .i64 0, .int .i64 0, .int .i64 0, .int .i64 0, .int .i64 0, .int .i64 0, .int .i64 0, .int .i64 0, .int .i64 0, .slice none 0 0, .slice none 0 0, .slice none 0 0, .slice none 0 0] 96 96).2 (by kernel_rfl) rfl (by simp [filC, Value.oneCell']) rfl ?_
    refine hK.out _ _ (below_setRow hs (by have := hXs; omega) _) (fun hs => ?_)
    clear hK K
    simp only [Act.put]
    refine wpAnyH_ready (rs := [5]) (by kernel_rfl) (by simp) (AllReadyH.cons rfl (fun K hK => ?_) AllReadyH.nil)
    refine step_store_row rfl 96 (.tmp 6) (.tmp 8) rfl (X.heap.size) _ rfl rfl 96 _ ((setRow_other _ _ _ _ (by omega)).trans (two_boxes X #[.int .i64 0, .int .i64 0, .int .i64 0, .int .i64 0, .int .i64 0, .int .i64 0, .int .i64 0, .int .i64 0, .int .i64 0, .int .i64 0, .slice none 0 0, .slice none 0 0, .slice none 0 0, .slice none 0 0] #[.int .i64 0, .int .i64 0, .int .i64 0, .int .i64 0, .int .i64 0, .int .i64 0, .int .i64 0, .int .i64 0, .int .i64 0, .int .i64 0, .slice none 0 0, .slice none 0 0, .slice none 0 0, .slice none 0 0] 96 96).1) (by kernel_rfl) rfl (by simp [filC, Value.oneCell']) rfl ?_
    refine hK.out _ _ (below_setRow hs (by have := hXs; omega) _) (fun hs => ?_)
    clear hK K
    simp only [Act.put]
    refine wpAnyH_done (by kernel_rfl) ?_ _
    have hl := two_laid' X #[.int .i64 0, .int .i64 0, .int .i64 0, .int .i64 0, .int .i64 0, .int .i64 0, .int .i64 0, .int .i64 0, .int .i64 0, .int .i64 0, .slice none 0 0, .slice none 0 0, .slice none 0 0, .slice none 0 0] (filC U G) (filC V F) 96
    go_wp2
    go_ret
    exact ⟨_, _, rfl, hl.2.2, hl.2.1, HE.out.trans (hx.trans hl.1)⟩
set_option maxRecDepth 100000 in
set_option maxHeartbeats 4000000 in
theorem fagainstuint16_any (V : FilV) (F : Fil) (U : FilV) (G : Fil) (w : World) : Calls Try.prog 49 #[.agg (filC V F), .agg (filC U G)] w fun e w' => ∃ A D, e = .returned (.func (Fn.func 64) #[] #[.pointer (some ⟨A, 0, none⟩), .pointer (some ⟨D, 0, none⟩)]) ∧ w'.heap[A]? = some (.cells (filC V F) 96 (0, 0)) ∧ w'.heap[D]? = some (.cells (filC U G) 96 (0, 0)) ∧ Ext w w' := by
  obtain ⟨W0, hW0, HX, HE⟩ : ∃ W0, W0 = ((w.alloc (.cells (filC V F) 31)).alloc (.cells (filC U G) 31)) ∧ Hid (∀ W, Ext W0 W → W.heap[w.heap.size]? = some (.cells (filC V F) 31 (0, 0)) ∧ W.heap[w.heap.size + 1]? = some (.cells (filC U G) 31 (0, 0))) ∧ Hid (Ext w W0) :=
    ⟨_, rfl, Lib.hid fun W hx => ⟨hx.block (two_boxes w _ _ _ _).1, hx.block (two_boxes w _ _ _ _).2⟩, Lib.hid ((Ext.alloc w _).trans (Ext.alloc _ _))⟩
  go_enter Try.func49, Try.ntmps49
  go_upto_region 1 with fail
  rw [← hW0]
  clear hW0
  have hs : Ext W0 W0.drew := Ext.drew _
  refine wp_region_held_drew (S := fun W => Ext W0 W) (by kernel_rfl) hs (fun _ => ?_)
  obtain ⟨X, hX⟩ : ∃ X, X = W0.drew := ⟨_, rfl⟩
  rw [← hX] at hs ⊢
  clear hX
  have hx := hs
  have hXs := hs.size
  refine wpAnyH_takeD (i := 0) (d := 7) rfl rfl (by kernel_rfl) (by kernel_rfl) (by kernel_rfl) (fun _ _ _ h => h) (yieldsIf_load_row (by rfl) 31 (.tmp 2) rfl (w.heap.size) rfl 31 _ (0, 0) _ (fun w' hw' => (HX.out _ hw').1) Try.underlying31 rfl (by kernel_rfl)) hs ?_
  simp only [Act.put, List.setIfInBounds_toArray, List.set_cons_succ, List.set_cons_zero]
  refine wpAnyH_takeD (i := 1) (d := 8) rfl rfl (by kernel_rfl) (by kernel_rfl) (by kernel_rfl) (fun _ _ _ h => h) (yieldsIf_load_row (by rfl) 31 (.tmp 3) rfl (w.heap.size + 1) rfl 31 _ (0, 0) _ (fun w' hw' => (HX.out _ hw').2) Try.underlying31 rfl (by kernel_rfl)) hs ?_
  simp only [Act.put, List.setIfInBounds_toArray, List.set_cons_succ, List.set_cons_zero]
  refine wpAnyH_ready (rs := [2, 3]) (by kernel_rfl) (by simp) (AllReadyH.cons rfl (fun K hK => ?_) (AllReadyH.cons rfl (fun K hK => ?_) (AllReadyH.nil)))
  · go_simp
    refine hK.out _ _ (hs.trans (Ext.alloc _ _)) (fun hs => ?_)
    clear hK K
    refine wpAnyH_ready (rs := [3]) (by kernel_rfl) (by simp) (AllReadyH.cons rfl (fun K hK => ?_) (AllReadyH.nil))
    go_simp
    refine hK.out _ _ (hs.trans (Ext.alloc _ _)) (fun hs => ?_)
    clear hK K
    refine wpAnyH_ready (rs := [4]) (by kernel_rfl) (by simp) (AllReadyH.cons rfl (fun K hK => ?_) AllReadyH.nil)
    refine step_store_row rfl 96 (.tmp 5) (.tmp 7) rfl (X.heap.size) _ rfl rfl 96 _ (two_boxes X #[.int .i64 0, .int .i64 0, .int .i64 0, .int .i64 0, .int .i64 0, .int .i64 0, .int .i64 0, .int .i64 0, .int .i64 0, .int .i64 0, .slice none 0 0, .slice none 0 0, .slice none 0 0, .slice none 0 0] #[.int .i64 0, .int .i64 0, .int .i64 0, .int .i64 0, .int .i64 0, .int .i64 0, .int .i64 0, .int .i64 0, .int .i64 0, .int .i64 0, .slice none 0 0, .slice none 0 0, .slice none 0 0, .slice none 0 0] 96 96).1 (by kernel_rfl) rfl (by simp [filC, Value.oneCell']) rfl ?_
    refine hK.out _ _ (below_setRow hs (by have := hXs; omega) _) (fun hs => ?_)
    clear hK K
    simp only [Act.put]
    refine wpAnyH_ready (rs := [5]) (by kernel_rfl) (by simp) (AllReadyH.cons rfl (fun K hK => ?_) AllReadyH.nil)
    refine step_store_row rfl 96 (.tmp 6) (.tmp 8) rfl (X.heap.size + 1) _ rfl rfl 96 _ ((setRow_other _ _ _ _ (by omega)).trans (two_boxes X #[.int .i64 0, .int .i64 0, .int .i64 0, .int .i64 0, .int .i64 0, .int .i64 0, .int .i64 0, .int .i64 0, .int .i64 0, .int .i64 0, .slice none 0 0, .slice none 0 0, .slice none 0 0, .slice none 0 0] #[.int .i64 0, .int .i64 0, .int .i64 0, .int .i64 0, .int .i64 0, .int .i64 0, .int .i64 0, .int .i64 0, .int .i64 0, .int .i64 0, .slice none 0 0, .slice none 0 0, .slice none 0 0, .slice none 0 0] 96 96).2) (by kernel_rfl) rfl (by simp [filC, Value.oneCell']) rfl ?_
    refine hK.out _ _ (below_setRow hs (by have := hXs; omega) _) (fun hs => ?_)
    clear hK K
    simp only [Act.put]
    refine wpAnyH_done (by kernel_rfl) ?_ _
    have hl := two_laid X #[.int .i64 0, .int .i64 0, .int .i64 0, .int .i64 0, .int .i64 0, .int .i64 0, .int .i64 0, .int .i64 0, .int .i64 0, .int .i64 0, .slice none 0 0, .slice none 0 0, .slice none 0 0, .slice none 0 0] (filC V F) (filC U G) 96
    go_wp2
    go_ret
    exact ⟨_, _, rfl, hl.2.1, hl.2.2, HE.out.trans (hx.trans hl.1)⟩
  · go_simp
    refine hK.out _ _ (hs.trans (Ext.alloc _ _)) (fun hs => ?_)
    clear hK K
    refine wpAnyH_ready (rs := [2]) (by kernel_rfl) (by simp) (AllReadyH.cons rfl (fun K hK => ?_) (AllReadyH.nil))
    go_simp
    refine hK.out _ _ (hs.trans (Ext.alloc _ _)) (fun hs => ?_)
    clear hK K
    refine wpAnyH_ready (rs := [4]) (by kernel_rfl) (by simp) (AllReadyH.cons rfl (fun K hK => ?_) AllReadyH.nil)
    refine step_store_row rfl 96 (.tmp 5) (.tmp 7) rfl (X.heap.size + 1) _ rfl rfl 96 _ (two_boxes X #[.int .i64 0, .int .i64 0, .int .i64 0, .int .i64 0, .int .i64 0, .int .i64 0, .int .i64 0, .int .i64 0, .int .i64 0, .int .i64 0, .slice none 0 0, .slice none 0 0, .slice none 0 0, .slice none 0 0] #[.int .i64 0, .int .i64 0, .int .i64 0, .int .i64 0, .int .i64 0, .int .i64 0, .int .i64 0, .int .i64 0, .int .i64 0, .int .i64 0, .slice none 0 0, .slice none 0 0, .slice none 0 0, .slice none 0 0] 96 96).2 (by kernel_rfl) rfl (by simp [filC, Value.oneCell']) rfl ?_
    refine hK.out _ _ (below_setRow hs (by have := hXs; omega) _) (fun hs => ?_)
    clear hK K
    simp only [Act.put]
    refine wpAnyH_ready (rs := [5]) (by kernel_rfl) (by simp) (AllReadyH.cons rfl (fun K hK => ?_) AllReadyH.nil)
    refine step_store_row rfl 96 (.tmp 6) (.tmp 8) rfl (X.heap.size) _ rfl rfl 96 _ ((setRow_other _ _ _ _ (by omega)).trans (two_boxes X #[.int .i64 0, .int .i64 0, .int .i64 0, .int .i64 0, .int .i64 0, .int .i64 0, .int .i64 0, .int .i64 0, .int .i64 0, .int .i64 0, .slice none 0 0, .slice none 0 0, .slice none 0 0, .slice none 0 0] #[.int .i64 0, .int .i64 0, .int .i64 0, .int .i64 0, .int .i64 0, .int .i64 0, .int .i64 0, .int .i64 0, .int .i64 0, .int .i64 0, .slice none 0 0, .slice none 0 0, .slice none 0 0, .slice none 0 0] 96 96).1) (by kernel_rfl) rfl (by simp [filC, Value.oneCell']) rfl ?_
    refine hK.out _ _ (below_setRow hs (by have := hXs; omega) _) (fun hs => ?_)
    clear hK K
    simp only [Act.put]
    refine wpAnyH_done (by kernel_rfl) ?_ _
    have hl := two_laid' X #[.int .i64 0, .int .i64 0, .int .i64 0, .int .i64 0, .int .i64 0, .int .i64 0, .int .i64 0, .int .i64 0, .int .i64 0, .int .i64 0, .slice none 0 0, .slice none 0 0, .slice none 0 0, .slice none 0 0] (filC U G) (filC V F) 96
    go_wp2
    go_ret
    exact ⟨_, _, rfl, hl.2.2, hl.2.1, HE.out.trans (hx.trans hl.1)⟩
set_option maxRecDepth 100000 in
set_option maxHeartbeats 8000000 in
theorem fsame_c : FSameC 24 := by
  intro V F U G w hf hg sF sG
  obtain ⟨W0, hW0, HX, HE⟩ : ∃ W0, W0 = ((w.alloc (.cells (filC V F) 31)).alloc (.cells (filC U G) 31)) ∧ Hid (∀ W, Ext W0 W → W.heap[w.heap.size]? = some (.cells (filC V F) 31 (0, 0)) ∧ W.heap[w.heap.size + 1]? = some (.cells (filC U G) 31 (0, 0))) ∧ Hid (Ext w W0) :=
    ⟨_, rfl, Lib.hid fun W hx => ⟨hx.block (two_boxes w _ _ _ _).1, hx.block (two_boxes w _ _ _ _).2⟩, Lib.hid ((Ext.alloc w _).trans (Ext.alloc _ _))⟩
  have HF := Lib.hid hf
  have HG := Lib.hid hg
  have hb := same_split F G
  have HSp := Lib.hid hb
  rw [hb]
  have hgd := fun x y xs ys w => weqg .eql x y xs ys w
  have KK := Lib.hid (fun (Wb : World) A1 D1 A2 D2 (hx : Ext w Wb) (hA1 : Wb.heap[A1]? = some (.cells (filC V F) 96 (0, 0))) (hD1 : Wb.heap[D1]? = some (.cells (filC U G) 96 (0, 0))) (hA2 : Wb.heap[A2]? = some (.cells (filC V F) 96 (0, 0))) (hD2 : Wb.heap[D2]? = some (.cells (filC U G) 96 (0, 0))) =>
    And.intro (fun w' (hy : Ext Wb w') => fagainst_coils V F U G A1 D1 w' (hy.block hA1) (hy.block hD1) (hf.ext (hx.trans hy)) (hg.ext (hx.trans hy)) sF sG)
    (And.intro (fun w' (hy : Ext Wb w') => fagainst_inputs V F U G A1 D1 w' (hy.block hA1) (hy.block hD1) (hf.ext (hx.trans hy)) (hg.ext (hx.trans hy)) sF sG)
    (And.intro (fun w' (hy : Ext Wb w') => fagainst_holding V F U G A2 D2 w' (hy.block hA2) (hy.block hD2) (hf.ext (hx.trans hy)) (hg.ext (hx.trans hy)) sF sG)
      (fun w' (hy : Ext Wb w') => fagainst_regs V F U G A2 D2 w' (hy.block hA2) (hy.block hD2) (hf.ext (hx.trans hy)) (hg.ext (hx.trans hy)) sF sG))))
  obtain ⟨E, hE⟩ : ∃ E, eqW F.bf F.bc G.bf G.bc = E := ⟨_, rfl⟩
  have hq := fun w => weql_v hE w
  rw [hE]
  generalize (eqW F.cf F.cc G.cf G.cc && eqG F.nC G.nC F.C G.C) = B1 at KK ⊢
  generalize (eqW F.jf F.jc G.jf G.jc && eqG F.nI G.nI F.I G.I) = B2 at KK ⊢
  generalize (eqW F.hf F.hc G.hf G.hc && eqB F.nH G.nH F.H G.H) = B3 at KK ⊢
  generalize (eqW F.rf F.rc G.rf G.rc && eqB F.nR G.nR F.R G.R) = B4 at KK ⊢
  clear hb HSp hE hf hg sF sG
  go_enter Try.func24, Try.ntmps24
  go_upto_region 1 with fail
  rw [← hW0]
  clear hW0
  have hs : Ext W0 W0.drew := Ext.drew _
  refine wp_region_held_drew (S := fun W => Ext W0 W) (by kernel_rfl) hs (fun _ => ?_)
  refine wpAnyH_takeD (i := 0) (d := 7) rfl rfl (by kernel_rfl) (by kernel_rfl) (by kernel_rfl) (fun _ _ _ h => h) (yieldsIf_load_row (by rfl) 31 (.tmp 2) rfl (w.heap.size) rfl 31 _ (0, 0) _ (fun w' hw' => (HX.out _ hw').1) Try.underlying31 rfl (by kernel_rfl)) hs ?_
  simp only [Act.put, List.setIfInBounds_toArray, List.set_cons_succ, List.set_cons_zero]
  refine wpAnyH_takeD (i := 1) (d := 8) rfl rfl (by kernel_rfl) (by kernel_rfl) (by kernel_rfl) (fun _ _ _ h => h) (yieldsIf_load_row (by rfl) 31 (.tmp 3) rfl (w.heap.size + 1) rfl 31 _ (0, 0) _ (fun w' hw' => (HX.out _ hw').2) Try.underlying31 rfl (by kernel_rfl)) hs ?_
  simp only [Act.put, List.setIfInBounds_toArray, List.set_cons_succ, List.set_cons_zero]
  refine wpAnyH_takeD (i := 3) (d := 10) rfl rfl (by kernel_rfl) (by kernel_rfl) (by kernel_rfl) (fun _ _ _ h => h) (yieldsIf_load_row (by rfl) 31 (.tmp 2) rfl (w.heap.size) rfl 31 _ (0, 0) _ (fun w' hw' => (HX.out _ hw').1) Try.underlying31 rfl (by kernel_rfl)) hs ?_
  simp only [Act.put, List.setIfInBounds_toArray, List.set_cons_succ, List.set_cons_zero]
  refine wpAnyH_takeD (i := 4) (d := 11) rfl rfl (by kernel_rfl) (by kernel_rfl) (by kernel_rfl) (fun _ _ _ h => h) (yieldsIf_load_row (by rfl) 31 (.tmp 3) rfl (w.heap.size + 1) rfl 31 _ (0, 0) _ (fun w' hw' => (HX.out _ hw').2) Try.underlying31 rfl (by kernel_rfl)) hs ?_
  simp only [Act.put, List.setIfInBounds_toArray, List.set_cons_succ, List.set_cons_zero]
  refine wpAnyH_ready (rs := [2]) (by kernel_rfl) (by simp) (AllReadyH.cons rfl (fun K hK => ?_) (AllReadyH.nil))
  go_simp
  go_at_call 48
  refine (fagainstbool_any V F U G _).mono ?_; rintro e Wa ⟨A1, D1, rfl, hA1, hD1, y⟩
  go_wp2_with fail
  refine hK.out _ _ (hs.trans y) (fun hs => ?_)
  clear hK K
  have ya := y
  clear y
  refine wpAnyH_ready (rs := [5]) (by kernel_rfl) (by simp) (AllReadyH.cons rfl (fun K hK => ?_) (AllReadyH.nil))
  go_simp
  go_at_call 49
  refine (fagainstuint16_any V F U G _).mono ?_; rintro e Wb ⟨A2, D2, rfl, hA2, hD2, y⟩
  go_wp2_with fail
  refine hK.out _ _ (hs.trans y) (fun hWb => ?_)
  have hs := hWb
  obtain ⟨K1, K2, K3, K4⟩ := KK.out Wb A1 D1 A2 D2 (HE.out.trans hWb) (y.block hA1) (y.block hD1) hA2 hD2
  have K1 := Lib.hid K1
  have K2 := Lib.hid K2
  have K3 := Lib.hid K3
  have K4 := Lib.hid K4
  clear hK K y ya hA1 hD1 hA2 hD2 KK
  refine wpAnyH_takeD (i := 6) (d := 5) (v := .func (Fn.func 62) #[] #[.pointer (some ⟨A1, 0, none⟩), .pointer (some ⟨D1, 0, none⟩)]) rfl rfl (by kernel_rfl) (by kernel_rfl) (by kernel_rfl) (fun _ _ _ h => h) (Or.inl ⟨by rfl, fun W hW => by go_simp⟩) hs ?_
  simp only [Act.put, List.setIfInBounds_toArray, List.set_cons_succ, List.set_cons_zero]
  refine wpAnyH_takeD (i := 7) (d := 6) (v := .func (Fn.func 64) #[] #[.pointer (some ⟨A2, 0, none⟩), .pointer (some ⟨D2, 0, none⟩)]) rfl rfl (by kernel_rfl) (by kernel_rfl) (by kernel_rfl) (fun _ _ _ h => h) (Or.inl ⟨by rfl, fun W hW => by go_simp⟩) hs ?_
  simp only [Act.put, List.setIfInBounds_toArray, List.set_cons_succ, List.set_cons_zero]
  refine wpAnyH_done (by kernel_rfl) ?_ _
  clear hs
  have yb : Ext Wb Wb := Ext.refl _
  go_wp2_with fail
  refine (K1.out _ yb).mono ?_; rintro e w11 ⟨rfl, x11⟩
  have y11 : Ext Wb w11 := Ext.trans yb x11
  cases B1 with
  | false =>
    go_wp2
    go_ret
    exact ⟨ret_b (by simp), HE.out.trans (hWb.trans y11)⟩
  | true =>
    go_wp2_with fail
    refine (K2.out _ y11).mono ?_; rintro e w12 ⟨rfl, x12⟩
    have y12 : Ext Wb w12 := Ext.trans y11 x12
    cases B2 with
    | false =>
      go_wp2
      go_ret
      exact ⟨ret_b (by simp), HE.out.trans (hWb.trans y12)⟩
    | true =>
      go_wp2_with fail
      refine (K3.out _ y12).mono ?_; rintro e w13 ⟨rfl, x13⟩
      have y13 : Ext Wb w13 := Ext.trans y12 x13
      cases B3 with
      | false =>
        go_wp2
        go_ret
        exact ⟨ret_b (by simp), HE.out.trans (hWb.trans y13)⟩
      | true =>
        go_wp2_with fail
        refine (K4.out _ y13).mono ?_; rintro e w14 ⟨rfl, x14⟩
        have y14 : Ext Wb w14 := Ext.trans y13 x14
        cases B4 with
        | false =>
          go_wp2
          go_ret
          exact ⟨ret_b (by simp), HE.out.trans (hWb.trans y14)⟩
        | true =>
          obtain ⟨gF, gG⟩ := HX.out _ (hWb.trans y14)
          have c8 : w14.cell? ⟨w.heap.size, 8, none⟩ = some (.int .i64 F.bf) := cell_of_heap (j := 8) gF rfl
          have c9 : w14.cell? ⟨w.heap.size, 9, none⟩ = some (.int .i64 F.bc) := cell_of_heap (j := 9) gF rfl
          have d8 : w14.cell? ⟨w.heap.size + 1, 8, none⟩ = some (.int .i64 G.bf) := cell_of_heap (j := 8) gG rfl
          have d9 : w14.cell? ⟨w.heap.size + 1, 9, none⟩ = some (.int .i64 G.bc) := cell_of_heap (j := 9) gG rfl
          clear gF gG
          go_wp2
          go_ret
          exact ⟨ret_b (by simp), HE.out.trans (hWb.trans y14)⟩
end Go.Proofs.Ytkfpnijacfeogaa
