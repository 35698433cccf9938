/-
  CONTRACTS: package ask (layer 15): the fields of each function.
-/
import Derived.Test.YtejiafihiielgaaAskC
import Derived.Test.YtejiafihiielgaaAsk
import Derived.Test.YtejiafihiielgaaStructs
import Derived.Test.YtejiafihiielgaaRef01
import Derived.Laws.CopyOwn
import Derived.Laws.Rows
import Derived.Test.YtejiafihiielgaaStepStore
namespace Go.Proofs.Ytejiafihiielgaa
open Go.RowKit
set_option linter.unusedVariables false
set_option maxRecDepth 100000

/-- The fields of a function, as a list of structs in memory: of the ask in block p. -/
structure FldS (w : World) (b off p : Nat) (k : Int) : Prop where
  lt : b < w.heap.size
  at0 : ∀ i, i < fldN k → w.cell? ⟨b, off + i * 4, none⟩ = some (.pointer (some ⟨p, fldO k i, none⟩))
  at1 : ∀ i, i < fldN k → w.cell? ⟨b, off + i * 4 + 1, none⟩ = some (.int .i64 (fldL k i))
  at2 : ∀ i, i < fldN k → w.cell? ⟨b, off + i * 4 + 2, none⟩ = some (.int .i64 (fldH k i))
  at3 : ∀ i, i < fldN k → w.cell? ⟨b, off + i * 4 + 3, none⟩ = some (.int .i64 (fldT k i))
theorem FldS.ext {w w' : World} {b off p : Nat} {k : Int} (h : FldS w b off p k) (x : Ext w w') : FldS w' b off p k :=
  ⟨Nat.lt_of_lt_of_le h.lt x.size, fun i hi => x.cell h.lt (h.at0 i hi), fun i hi => x.cell h.lt (h.at1 i hi), fun i hi => x.cell h.lt (h.at2 i hi), fun i hi => x.cell h.lt (h.at3 i hi)⟩
theorem FldS.keep {F : Nat → Prop} {w w' : World} {b off p : Nat} {k : Int} (h : FldS w b off p k) (x : Keep F w w') (hF : ¬ F b) : FldS w' b off p k :=
  ⟨Nat.lt_of_lt_of_le h.lt x.size, fun i hi => x.cell hF (h.at0 i hi), fun i hi => x.cell hF (h.at1 i hi), fun i hi => x.cell hF (h.at2 i hi), fun i hi => x.cell hF (h.at3 i hi)⟩
/-- What a reader tells. -/
def FldP (p : Nat) (k : Int) (w : World) (e : Ending) (w' : World) : Prop :=
  ∃ b off, e = .returned (.slice (some ⟨b, off, none⟩) (fldN k) (fldN k)) ∧ FldS w' b off p k ∧ w.heap.size ≤ b ∧ Ext w w'
theorem free_v (a : Option Addr) (w : World) : Calls Try.prog 69 #[.pointer a] w fun e w' => e = .returned (.agg #[.pointer a, .int .i64 0, .int .i64 65535, .int .i64 1]) ∧ Ext w w' := by
  go_enter Try.func69, Try.ntmps69
  go_wp2_with (first
    | (refine wpList_store_row rfl 87 (.tmp 2) (.tmp 4) rfl _ _ rfl rfl 87 _ (heap_new_at _ _ (by first | rfl | simp)) (by kernel_rfl) rfl (by simp [Value.oneCell']) ?_))
  refine bodyPost_ret (results_cell_row rfl _ _ w.heap.size 87 _ (0, 0) _ rfl (setRow_heap _ _ _ _ _ _ (heap_alloc_new w _)) Try.underlying87 rfl (by kernel_rfl)) rfl ?_
  exact ⟨by rfl, below_setRow (Ext.alloc w _) (Nat.le_refl _) _⟩
theorem amount_v (a : Option Addr) (m : Int) (w : World) : Calls Try.prog 70 #[.pointer a, .int .i64 m] w fun e w' => e = .returned (.agg #[.pointer a, .int .i64 1, .int .i64 m, .int .i64 1]) ∧ Ext w w' := by
  go_enter Try.func70, Try.ntmps70
  go_wp2_with (first
    | (refine wpList_store_row rfl 87 (.tmp 4) (.tmp 7) rfl _ _ rfl rfl 87 _ (heap_new_at _ _ (by first | rfl | simp)) (by kernel_rfl) rfl (by simp [Value.oneCell']) ?_))
  refine bodyPost_ret (results_cell_row rfl _ _ w.heap.size 87 _ (0, 0) _ rfl (setRow_heap _ _ _ _ _ _ (heap_alloc_new w _)) Try.underlying87 rfl (by kernel_rfl)) rfl ?_
  exact ⟨by rfl, below_setRow (Ext.alloc w _) (Nat.le_refl _) _⟩
/-- Fields that were laid as a new list. -/
theorem fld_new (W : World) (cs : Array Value) (p : Nat) (k : Int) (h : ∀ i, i < fldN k → cs[i * 4]? = some (.pointer (some ⟨p, fldO k i, none⟩)) ∧ cs[i * 4 + 1]? = some (.int .i64 (fldL k i)) ∧ cs[i * 4 + 2]? = some (.int .i64 (fldH k i)) ∧ cs[i * 4 + 3]? = some (.int .i64 (fldT k i))) :
    FldS (W.alloc (.cells cs 87)) W.heap.size 0 p k := by
  have e : ∀ j v, cs[j]? = some v → (W.alloc (.cells cs 87)).cell? ⟨W.heap.size, j, none⟩ = some v := fun j v hv => cell_of_heap (heap_alloc_new W _) hv
  refine ⟨by simp, fun i hi => ?_, fun i hi => ?_, fun i hi => ?_, fun i hi => ?_⟩
  · rw [Nat.zero_add]; exact e _ _ (h i hi).1
  · rw [Nat.zero_add]; exact e _ _ (h i hi).2.1
  · rw [Nat.zero_add]; exact e _ _ (h i hi).2.2.1
  · rw [Nat.zero_add]; exact e _ _ (h i hi).2.2.2
set_option maxHeartbeats 2000000 in
theorem fld_readBits (p : Nat) (k : Int) (hk : k = 1 ∨ k = 2) (w : World) : Calls Try.prog 59 #[.pointer (some ⟨p, 0, none⟩)] w (FldP p k w) := by
  have HF : Hid (∀ W, Ext w W → FldP p k w (.returned (.slice (some ⟨W.heap.size, 0, none⟩) 2 2)) (W.alloc (.cells #[.pointer (some ⟨p, 1, none⟩), .int .i64 0, .int .i64 65535, .int .i64 1, .pointer (some ⟨p, 2, none⟩), .int .i64 1, .int .i64 2000, .int .i64 1] 87))) := Lib.hid (by
    intro W x
    have hn : fldN k = 2 := by rcases hk with rfl | rfl <;> rfl
    refine ⟨W.heap.size, 0, by rw [hn], fld_new W _ p k ?_, x.size, x.trans (Ext.alloc _ _)⟩
    rw [hn]
    refine all_2.2 ?_
    rcases hk with rfl | rfl <;> (repeat' constructor))
  clear hk
  go_enter Try.func59, Try.ntmps59
  go_wp2_with fail
  have hs : Ext w w.drew := Ext.drew _
  refine wp_region_held_drew (S := fun W => Ext w W) (by kernel_rfl) hs (fun _ => ?_)
  refine wpAnyH_takeD (i := 0) (d := 3) (v := .pointer (some ⟨p, 0, none⟩)) rfl rfl (by kernel_rfl) (by kernel_rfl) (by kernel_rfl) (fun _ _ _ h => h) (Or.inl ⟨by rfl, fun W hW => by go_simp⟩) hs ?_
  simp only [Act.put, List.setIfInBounds_toArray, List.set_cons_succ, List.set_cons_zero]
  refine wpAnyH_takeD (i := 1) (d := 4) (v := .pointer (some ⟨p, 0, none⟩)) rfl rfl (by kernel_rfl) (by kernel_rfl) (by kernel_rfl) (fun _ _ _ h => h) (Or.inl ⟨by rfl, fun W hW => by go_simp⟩) hs ?_
  simp only [Act.put, List.setIfInBounds_toArray, List.set_cons_succ, List.set_cons_zero]
  refine wpAnyH_takeD (i := 2) (d := 5) (v := .pointer (some ⟨p, 1, none⟩)) rfl rfl (by kernel_rfl) (by kernel_rfl) (by kernel_rfl) (fun _ _ _ h => h) (Or.inl ⟨by rfl, fun W hW => by go_simp⟩) hs ?_
  simp only [Act.put, List.setIfInBounds_toArray, List.set_cons_succ, List.set_cons_zero]
  refine wpAnyH_takeD (i := 4) (d := 7) (v := .pointer (some ⟨p, 0, none⟩)) rfl rfl (by kernel_rfl) (by kernel_rfl) (by kernel_rfl) (fun _ _ _ h => h) (Or.inl ⟨by rfl, fun W hW => by go_simp⟩) hs ?_
  simp only [Act.put, List.setIfInBounds_toArray, List.set_cons_succ, List.set_cons_zero]
  refine wpAnyH_takeD (i := 5) (d := 8) (v := .pointer (some ⟨p, 0, none⟩)) rfl rfl (by kernel_rfl) (by kernel_rfl) (by kernel_rfl) (fun _ _ _ h => h) (Or.inl ⟨by rfl, fun W hW => by go_simp⟩) hs ?_
  simp only [Act.put, List.setIfInBounds_toArray, List.set_cons_succ, List.set_cons_zero]
  refine wpAnyH_takeD (i := 6) (d := 9) (v := .pointer (some ⟨p, 2, none⟩)) rfl rfl (by kernel_rfl) (by kernel_rfl) (by kernel_rfl) (fun _ _ _ h => h) (Or.inl ⟨by rfl, fun W hW => by go_simp⟩) hs ?_
  simp only [Act.put, List.setIfInBounds_toArray, List.set_cons_succ, List.set_cons_zero]
  refine wpAnyH_ready (rs := [3]) (by kernel_rfl) (by simp) (AllReadyH.cons rfl (fun K hK => ?_) AllReadyH.nil)
  go_simp
  go_at_call 69
  refine (free_v _ _).mono ?_; rintro e Wc ⟨rfl, y⟩
  go_wp2_with fail
  refine hK.out _ _ (hs.trans y) (fun hs => ?_)
  clear hK K y
  refine wpAnyH_ready (rs := [7]) (by kernel_rfl) (by simp) (AllReadyH.cons rfl (fun K hK => ?_) AllReadyH.nil)
  go_simp
  go_at_call 70
  refine (amount_v _ _ _).mono ?_; rintro e Wc ⟨rfl, y⟩
  go_wp2_with fail
  refine hK.out _ _ (hs.trans y) (fun hs => ?_)
  clear hK K y
  refine wpAnyH_ready (rs := [8]) (by kernel_rfl) (by simp) (AllReadyH.cons rfl (fun K hK => ?_) AllReadyH.nil)
  go_simp
  have hq := hs
  refine hK.out _ _ (hs.trans (Ext.alloc _ _)) (fun hs => ?_)
  clear hK K
  refine wpAnyH_takeD (i := 9) (d := 2) (v := .slice (some ⟨Wc.heap.size, 0, none⟩) 2 2) rfl rfl (by kernel_rfl) (by kernel_rfl) (by kernel_rfl) (fun _ _ _ h => h) (Or.inl ⟨by rfl, fun W hW => by go_simp⟩) hs ?_
  simp only [Act.put, List.setIfInBounds_toArray, List.set_cons_succ, List.set_cons_zero]
  refine wpAnyH_done (by kernel_rfl) ?_ _
  go_wp2
  go_ret
  exact HF.out _ hq
set_option maxHeartbeats 2000000 in
theorem fld_readRegs (p : Nat) (k : Int) (hk : k = 3 ∨ k = 4) (w : World) : Calls Try.prog 60 #[.pointer (some ⟨p, 0, none⟩)] w (FldP p k w) := by
  have HF : Hid (∀ W, Ext w W → FldP p k w (.returned (.slice (some ⟨W.heap.size, 0, none⟩) 2 2)) (W.alloc (.cells #[.pointer (some ⟨p, 1, none⟩), .int .i64 0, .int .i64 65535, .int .i64 1, .pointer (some ⟨p, 2, none⟩), .int .i64 1, .int .i64 125, .int .i64 1] 87))) := Lib.hid (by
    intro W x
    have hn : fldN k = 2 := by rcases hk with rfl | rfl <;> rfl
    refine ⟨W.heap.size, 0, by rw [hn], fld_new W _ p k ?_, x.size, x.trans (Ext.alloc _ _)⟩
    rw [hn]
    refine all_2.2 ?_
    rcases hk with rfl | rfl <;> (repeat' constructor))
  clear hk
  go_enter Try.func60, Try.ntmps60
  go_wp2_with fail
  have hs : Ext w w.drew := Ext.drew _
  refine wp_region_held_drew (S := fun W => Ext w W) (by kernel_rfl) hs (fun _ => ?_)
  refine wpAnyH_takeD (i := 0) (d := 3) (v := .pointer (some ⟨p, 0, none⟩)) rfl rfl (by kernel_rfl) (by kernel_rfl) (by kernel_rfl) (fun _ _ _ h => h) (Or.inl ⟨by rfl, fun W hW => by go_simp⟩) hs ?_
  simp only [Act.put, List.setIfInBounds_toArray, List.set_cons_succ, List.set_cons_zero]
  refine wpAnyH_takeD (i := 1) (d := 4) (v := .pointer (some ⟨p, 0, none⟩)) rfl rfl (by kernel_rfl) (by kernel_rfl) (by kernel_rfl) (fun _ _ _ h => h) (Or.inl ⟨by rfl, fun W hW => by go_simp⟩) hs ?_
  simp only [Act.put, List.setIfInBounds_toArray, List.set_cons_succ, List.set_cons_zero]
  refine wpAnyH_takeD (i := 2) (d := 5) (v := .pointer (some ⟨p, 1, none⟩)) rfl rfl (by kernel_rfl) (by kernel_rfl) (by kernel_rfl) (fun _ _ _ h => h) (Or.inl ⟨by rfl, fun W hW => by go_simp⟩) hs ?_
  simp only [Act.put, List.setIfInBounds_toArray, List.set_cons_succ, List.set_cons_zero]
  refine wpAnyH_takeD (i := 4) (d := 7) (v := .pointer (some ⟨p, 0, none⟩)) rfl rfl (by kernel_rfl) (by kernel_rfl) (by kernel_rfl) (fun _ _ _ h => h) (Or.inl ⟨by rfl, fun W hW => by go_simp⟩) hs ?_
  simp only [Act.put, List.setIfInBounds_toArray, List.set_cons_succ, List.set_cons_zero]
  refine wpAnyH_takeD (i := 5) (d := 8) (v := .pointer (some ⟨p, 0, none⟩)) rfl rfl (by kernel_rfl) (by kernel_rfl) (by kernel_rfl) (fun _ _ _ h => h) (Or.inl ⟨by rfl, fun W hW => by go_simp⟩) hs ?_
  simp only [Act.put, List.setIfInBounds_toArray, List.set_cons_succ, List.set_cons_zero]
  refine wpAnyH_takeD (i := 6) (d := 9) (v := .pointer (some ⟨p, 2, none⟩)) rfl rfl (by kernel_rfl) (by kernel_rfl) (by kernel_rfl) (fun _ _ _ h => h) (Or.inl ⟨by rfl, fun W hW => by go_simp⟩) hs ?_
  simp only [Act.put, List.setIfInBounds_toArray, List.set_cons_succ, List.set_cons_zero]
  refine wpAnyH_ready (rs := [3]) (by kernel_rfl) (by simp) (AllReadyH.cons rfl (fun K hK => ?_) AllReadyH.nil)
  go_simp
  go_at_call 69
  refine (free_v _ _).mono ?_; rintro e Wc ⟨rfl, y⟩
  go_wp2_with fail
  refine hK.out _ _ (hs.trans y) (fun hs => ?_)
  clear hK K y
  refine wpAnyH_ready (rs := [7]) (by kernel_rfl) (by simp) (AllReadyH.cons rfl (fun K hK => ?_) AllReadyH.nil)
  go_simp
  go_at_call 70
  refine (amount_v _ _ _).mono ?_; rintro e Wc ⟨rfl, y⟩
  go_wp2_with fail
  refine hK.out _ _ (hs.trans y) (fun hs => ?_)
  clear hK K y
  refine wpAnyH_ready (rs := [8]) (by kernel_rfl) (by simp) (AllReadyH.cons rfl (fun K hK => ?_) AllReadyH.nil)
  go_simp
  have hq := hs
  refine hK.out _ _ (hs.trans (Ext.alloc _ _)) (fun hs => ?_)
  clear hK K
  refine wpAnyH_takeD (i := 9) (d := 2) (v := .slice (some ⟨Wc.heap.size, 0, none⟩) 2 2) rfl rfl (by kernel_rfl) (by kernel_rfl) (by kernel_rfl) (fun _ _ _ h => h) (Or.inl ⟨by rfl, fun W hW => by go_simp⟩) hs ?_
  simp only [Act.put, List.setIfInBounds_toArray, List.set_cons_succ, List.set_cons_zero]
  refine wpAnyH_done (by kernel_rfl) ?_ _
  go_wp2
  go_ret
  exact HF.out _ hq
set_option maxHeartbeats 2000000 in
theorem fld_setBit (p : Nat) (k : Int) (hk : k = 5) (w : World) : Calls Try.prog 61 #[.pointer (some ⟨p, 0, none⟩)] w (FldP p k w) := by
  have HF : Hid (∀ W, Ext w W → FldP p k w (.returned (.slice (some ⟨W.heap.size, 0, none⟩) 2 2)) (W.alloc (.cells #[.pointer (some ⟨p, 1, none⟩), .int .i64 0, .int .i64 65535, .int .i64 1, .pointer (some ⟨p, 3, none⟩), .int .i64 0, .int .i64 65280, .int .i64 65280] 87))) := Lib.hid (by
    intro W x
    have hn : fldN k = 2 := by subst hk <;> rfl
    refine ⟨W.heap.size, 0, by rw [hn], fld_new W _ p k ?_, x.size, x.trans (Ext.alloc _ _)⟩
    rw [hn]
    refine all_2.2 ?_
    subst hk <;> (repeat' constructor))
  clear hk
  go_enter Try.func61, Try.ntmps61
  go_wp2_with fail
  have hs : Ext w w.drew := Ext.drew _
  refine wp_region_held_drew (S := fun W => Ext w W) (by kernel_rfl) hs (fun _ => ?_)
  refine wpAnyH_takeD (i := 0) (d := 3) (v := .pointer (some ⟨p, 0, none⟩)) rfl rfl (by kernel_rfl) (by kernel_rfl) (by kernel_rfl) (fun _ _ _ h => h) (Or.inl ⟨by rfl, fun W hW => by go_simp⟩) hs ?_
  simp only [Act.put, List.setIfInBounds_toArray, List.set_cons_succ, List.set_cons_zero]
  refine wpAnyH_takeD (i := 1) (d := 4) (v := .pointer (some ⟨p, 0, none⟩)) rfl rfl (by kernel_rfl) (by kernel_rfl) (by kernel_rfl) (fun _ _ _ h => h) (Or.inl ⟨by rfl, fun W hW => by go_simp⟩) hs ?_
  simp only [Act.put, List.setIfInBounds_toArray, List.set_cons_succ, List.set_cons_zero]
  refine wpAnyH_takeD (i := 2) (d := 5) (v := .pointer (some ⟨p, 1, none⟩)) rfl rfl (by kernel_rfl) (by kernel_rfl) (by kernel_rfl) (fun _ _ _ h => h) (Or.inl ⟨by rfl, fun W hW => by go_simp⟩) hs ?_
  simp only [Act.put, List.setIfInBounds_toArray, List.set_cons_succ, List.set_cons_zero]
  refine wpAnyH_takeD (i := 4) (d := 7) (v := .pointer (some ⟨p, 0, none⟩)) rfl rfl (by kernel_rfl) (by kernel_rfl) (by kernel_rfl) (fun _ _ _ h => h) (Or.inl ⟨by rfl, fun W hW => by go_simp⟩) hs ?_
  simp only [Act.put, List.setIfInBounds_toArray, List.set_cons_succ, List.set_cons_zero]
  refine wpAnyH_takeD (i := 5) (d := 8) (v := .pointer (some ⟨p, 0, none⟩)) rfl rfl (by kernel_rfl) (by kernel_rfl) (by kernel_rfl) (fun _ _ _ h => h) (Or.inl ⟨by rfl, fun W hW => by go_simp⟩) hs ?_
  simp only [Act.put, List.setIfInBounds_toArray, List.set_cons_succ, List.set_cons_zero]
  refine wpAnyH_takeD (i := 6) (d := 9) (v := .pointer (some ⟨p, 3, none⟩)) rfl rfl (by kernel_rfl) (by kernel_rfl) (by kernel_rfl) (fun _ _ _ h => h) (Or.inl ⟨by rfl, fun W hW => by go_simp⟩) hs ?_
  simp only [Act.put, List.setIfInBounds_toArray, List.set_cons_succ, List.set_cons_zero]
  refine wpAnyH_takeD (i := 7) (d := 10) (v := .agg #[.pointer (some ⟨p, 3, none⟩), .int .i64 0, .int .i64 65280, .int .i64 65280]) rfl rfl (by kernel_rfl) (by kernel_rfl) (by kernel_rfl) (fun _ _ _ h => h) (Or.inl ⟨by rfl, fun W hW => by go_simp⟩) hs ?_
  simp only [Act.put, List.setIfInBounds_toArray, List.set_cons_succ, List.set_cons_zero]
  refine wpAnyH_ready (rs := [3]) (by kernel_rfl) (by simp) (AllReadyH.cons rfl (fun K hK => ?_) AllReadyH.nil)
  go_simp
  go_at_call 69
  refine (free_v _ _).mono ?_; rintro e Wc ⟨rfl, y⟩
  go_wp2_with fail
  refine hK.out _ _ (hs.trans y) (fun hs => ?_)
  clear hK K y
  refine wpAnyH_ready (rs := [8]) (by kernel_rfl) (by simp) (AllReadyH.cons rfl (fun K hK => ?_) AllReadyH.nil)
  go_simp
  have hq := hs
  refine hK.out _ _ (hs.trans (Ext.alloc _ _)) (fun hs => ?_)
  clear hK K
  refine wpAnyH_takeD (i := 9) (d := 2) (v := .slice (some ⟨Wc.heap.size, 0, none⟩) 2 2) rfl rfl (by kernel_rfl) (by kernel_rfl) (by kernel_rfl) (fun _ _ _ h => h) (Or.inl ⟨by rfl, fun W hW => by go_simp⟩) hs ?_
  simp only [Act.put, List.setIfInBounds_toArray, List.set_cons_succ, List.set_cons_zero]
  refine wpAnyH_done (by kernel_rfl) ?_ _
  go_wp2
  go_ret
  exact HF.out _ hq
set_option maxHeartbeats 2000000 in
theorem fld_setReg (p : Nat) (k : Int) (hk : k = 6) (w : World) : Calls Try.prog 62 #[.pointer (some ⟨p, 0, none⟩)] w (FldP p k w) := by
  have HF : Hid (∀ W, Ext w W → FldP p k w (.returned (.slice (some ⟨W.heap.size, 0, none⟩) 2 2)) (W.alloc (.cells #[.pointer (some ⟨p, 1, none⟩), .int .i64 0, .int .i64 65535, .int .i64 1, .pointer (some ⟨p, 3, none⟩), .int .i64 0, .int .i64 65535, .int .i64 1] 87))) := Lib.hid (by
    intro W x
    have hn : fldN k = 2 := by subst hk <;> rfl
    refine ⟨W.heap.size, 0, by rw [hn], fld_new W _ p k ?_, x.size, x.trans (Ext.alloc _ _)⟩
    rw [hn]
    refine all_2.2 ?_
    subst hk <;> (repeat' constructor))
  clear hk
  go_enter Try.func62, Try.ntmps62
  go_wp2_with fail
  have hs : Ext w w.drew := Ext.drew _
  refine wp_region_held_drew (S := fun W => Ext w W) (by kernel_rfl) hs (fun _ => ?_)
  refine wpAnyH_takeD (i := 0) (d := 3) (v := .pointer (some ⟨p, 0, none⟩)) rfl rfl (by kernel_rfl) (by kernel_rfl) (by kernel_rfl) (fun _ _ _ h => h) (Or.inl ⟨by rfl, fun W hW => by go_simp⟩) hs ?_
  simp only [Act.put, List.setIfInBounds_toArray, List.set_cons_succ, List.set_cons_zero]
  refine wpAnyH_takeD (i := 1) (d := 4) (v := .pointer (some ⟨p, 0, none⟩)) rfl rfl (by kernel_rfl) (by kernel_rfl) (by kernel_rfl) (fun _ _ _ h => h) (Or.inl ⟨by rfl, fun W hW => by go_simp⟩) hs ?_
  simp only [Act.put, List.setIfInBounds_toArray, List.set_cons_succ, List.set_cons_zero]
  refine wpAnyH_takeD (i := 2) (d := 5) (v := .pointer (some ⟨p, 1, none⟩)) rfl rfl (by kernel_rfl) (by kernel_rfl) (by kernel_rfl) (fun _ _ _ h => h) (Or.inl ⟨by rfl, fun W hW => by go_simp⟩) hs ?_
  simp only [Act.put, List.setIfInBounds_toArray, List.set_cons_succ, List.set_cons_zero]
  refine wpAnyH_takeD (i := 4) (d := 7) (v := .pointer (some ⟨p, 0, none⟩)) rfl rfl (by kernel_rfl) (by kernel_rfl) (by kernel_rfl) (fun _ _ _ h => h) (Or.inl ⟨by rfl, fun W hW => by go_simp⟩) hs ?_
  simp only [Act.put, List.setIfInBounds_toArray, List.set_cons_succ, List.set_cons_zero]
  refine wpAnyH_takeD (i := 5) (d := 8) (v := .pointer (some ⟨p, 0, none⟩)) rfl rfl (by kernel_rfl) (by kernel_rfl) (by kernel_rfl) (fun _ _ _ h => h) (Or.inl ⟨by rfl, fun W hW => by go_simp⟩) hs ?_
  simp only [Act.put, List.setIfInBounds_toArray, List.set_cons_succ, List.set_cons_zero]
  refine wpAnyH_takeD (i := 6) (d := 9) (v := .pointer (some ⟨p, 3, none⟩)) rfl rfl (by kernel_rfl) (by kernel_rfl) (by kernel_rfl) (fun _ _ _ h => h) (Or.inl ⟨by rfl, fun W hW => by go_simp⟩) hs ?_
  simp only [Act.put, List.setIfInBounds_toArray, List.set_cons_succ, List.set_cons_zero]
  refine wpAnyH_ready (rs := [3]) (by kernel_rfl) (by simp) (AllReadyH.cons rfl (fun K hK => ?_) AllReadyH.nil)
  go_simp
  go_at_call 69
  refine (free_v _ _).mono ?_; rintro e Wc ⟨rfl, y⟩
  go_wp2_with fail
  refine hK.out _ _ (hs.trans y) (fun hs => ?_)
  clear hK K y
  refine wpAnyH_ready (rs := [7]) (by kernel_rfl) (by simp) (AllReadyH.cons rfl (fun K hK => ?_) AllReadyH.nil)
  go_simp
  go_at_call 69
  refine (free_v _ _).mono ?_; rintro e Wc ⟨rfl, y⟩
  go_wp2_with fail
  refine hK.out _ _ (hs.trans y) (fun hs => ?_)
  clear hK K y
  refine wpAnyH_ready (rs := [8]) (by kernel_rfl) (by simp) (AllReadyH.cons rfl (fun K hK => ?_) AllReadyH.nil)
  go_simp
  have hq := hs
  refine hK.out _ _ (hs.trans (Ext.alloc _ _)) (fun hs => ?_)
  clear hK K
  refine wpAnyH_takeD (i := 9) (d := 2) (v := .slice (some ⟨Wc.heap.size, 0, none⟩) 2 2) rfl rfl (by kernel_rfl) (by kernel_rfl) (by kernel_rfl) (fun _ _ _ h => h) (Or.inl ⟨by rfl, fun W hW => by go_simp⟩) hs ?_
  simp only [Act.put, List.setIfInBounds_toArray, List.set_cons_succ, List.set_cons_zero]
  refine wpAnyH_done (by kernel_rfl) ?_ _
  go_wp2
  go_ret
  exact HF.out _ hq
set_option maxHeartbeats 2000000 in
theorem fld_setBits (p : Nat) (k : Int) (hk : k = 15) (w : World) : Calls Try.prog 63 #[.pointer (some ⟨p, 0, none⟩)] w (FldP p k w) := by
  have HF : Hid (∀ W, Ext w W → FldP p k w (.returned (.slice (some ⟨W.heap.size, 0, none⟩) 2 2)) (W.alloc (.cells #[.pointer (some ⟨p, 1, none⟩), .int .i64 0, .int .i64 65535, .int .i64 1, .pointer (some ⟨p, 2, none⟩), .int .i64 1, .int .i64 1968, .int .i64 1] 87))) := Lib.hid (by
    intro W x
    have hn : fldN k = 2 := by subst hk <;> rfl
    refine ⟨W.heap.size, 0, by rw [hn], fld_new W _ p k ?_, x.size, x.trans (Ext.alloc _ _)⟩
    rw [hn]
    refine all_2.2 ?_
    subst hk <;> (repeat' constructor))
  clear hk
  go_enter Try.func63, Try.ntmps63
  go_wp2_with fail
  have hs : Ext w w.drew := Ext.drew _
  refine wp_region_held_drew (S := fun W => Ext w W) (by kernel_rfl) hs (fun _ => ?_)
  refine wpAnyH_takeD (i := 0) (d := 3) (v := .pointer (some ⟨p, 0, none⟩)) rfl rfl (by kernel_rfl) (by kernel_rfl) (by kernel_rfl) (fun _ _ _ h => h) (Or.inl ⟨by rfl, fun W hW => by go_simp⟩) hs ?_
  simp only [Act.put, List.setIfInBounds_toArray, List.set_cons_succ, List.set_cons_zero]
  refine wpAnyH_takeD (i := 1) (d := 4) (v := .pointer (some ⟨p, 0, none⟩)) rfl rfl (by kernel_rfl) (by kernel_rfl) (by kernel_rfl) (fun _ _ _ h => h) (Or.inl ⟨by rfl, fun W hW => by go_simp⟩) hs ?_
  simp only [Act.put, List.setIfInBounds_toArray, List.set_cons_succ, List.set_cons_zero]
  refine wpAnyH_takeD (i := 2) (d := 5) (v := .pointer (some ⟨p, 1, none⟩)) rfl rfl (by kernel_rfl) (by kernel_rfl) (by kernel_rfl) (fun _ _ _ h => h) (Or.inl ⟨by rfl, fun W hW => by go_simp⟩) hs ?_
  simp only [Act.put, List.setIfInBounds_toArray, List.set_cons_succ, List.set_cons_zero]
  refine wpAnyH_takeD (i := 4) (d := 7) (v := .pointer (some ⟨p, 0, none⟩)) rfl rfl (by kernel_rfl) (by kernel_rfl) (by kernel_rfl) (fun _ _ _ h => h) (Or.inl ⟨by rfl, fun W hW => by go_simp⟩) hs ?_
  simp only [Act.put, List.setIfInBounds_toArray, List.set_cons_succ, List.set_cons_zero]
  refine wpAnyH_takeD (i := 5) (d := 8) (v := .pointer (some ⟨p, 0, none⟩)) rfl rfl (by kernel_rfl) (by kernel_rfl) (by kernel_rfl) (fun _ _ _ h => h) (Or.inl ⟨by rfl, fun W hW => by go_simp⟩) hs ?_
  simp only [Act.put, List.setIfInBounds_toArray, List.set_cons_succ, List.set_cons_zero]
  refine wpAnyH_takeD (i := 6) (d := 9) (v := .pointer (some ⟨p, 2, none⟩)) rfl rfl (by kernel_rfl) (by kernel_rfl) (by kernel_rfl) (fun _ _ _ h => h) (Or.inl ⟨by rfl, fun W hW => by go_simp⟩) hs ?_
  simp only [Act.put, List.setIfInBounds_toArray, List.set_cons_succ, List.set_cons_zero]
  refine wpAnyH_ready (rs := [3]) (by kernel_rfl) (by simp) (AllReadyH.cons rfl (fun K hK => ?_) AllReadyH.nil)
  go_simp
  go_at_call 69
  refine (free_v _ _).mono ?_; rintro e Wc ⟨rfl, y⟩
  go_wp2_with fail
  refine hK.out _ _ (hs.trans y) (fun hs => ?_)
  clear hK K y
  refine wpAnyH_ready (rs := [7]) (by kernel_rfl) (by simp) (AllReadyH.cons rfl (fun K hK => ?_) AllReadyH.nil)
  go_simp
  go_at_call 70
  refine (amount_v _ _ _).mono ?_; rintro e Wc ⟨rfl, y⟩
  go_wp2_with fail
  refine hK.out _ _ (hs.trans y) (fun hs => ?_)
  clear hK K y
  refine wpAnyH_ready (rs := [8]) (by kernel_rfl) (by simp) (AllReadyH.cons rfl (fun K hK => ?_) AllReadyH.nil)
  go_simp
  have hq := hs
  refine hK.out _ _ (hs.trans (Ext.alloc _ _)) (fun hs => ?_)
  clear hK K
  refine wpAnyH_takeD (i := 9) (d := 2) (v := .slice (some ⟨Wc.heap.size, 0, none⟩) 2 2) rfl rfl (by kernel_rfl) (by kernel_rfl) (by kernel_rfl) (fun _ _ _ h => h) (Or.inl ⟨by rfl, fun W hW => by go_simp⟩) hs ?_
  simp only [Act.put, List.setIfInBounds_toArray, List.set_cons_succ, List.set_cons_zero]
  refine wpAnyH_done (by kernel_rfl) ?_ _
  go_wp2
  go_ret
  exact HF.out _ hq
set_option maxHeartbeats 2000000 in
theorem fld_setRegs (p : Nat) (k : Int) (hk : k = 16) (w : World) : Calls Try.prog 64 #[.pointer (some ⟨p, 0, none⟩)] w (FldP p k w) := by
  have HF : Hid (∀ W, Ext w W → FldP p k w (.returned (.slice (some ⟨W.heap.size, 0, none⟩) 2 2)) (W.alloc (.cells #[.pointer (some ⟨p, 1, none⟩), .int .i64 0, .int .i64 65535, .int .i64 1, .pointer (some ⟨p, 2, none⟩), .int .i64 1, .int .i64 123, .int .i64 1] 87))) := Lib.hid (by
    intro W x
    have hn : fldN k = 2 := by subst hk <;> rfl
    refine ⟨W.heap.size, 0, by rw [hn], fld_new W _ p k ?_, x.size, x.trans (Ext.alloc _ _)⟩
    rw [hn]
    refine all_2.2 ?_
    subst hk <;> (repeat' constructor))
  clear hk
  go_enter Try.func64, Try.ntmps64
  go_wp2_with fail
  have hs : Ext w w.drew := Ext.drew _
  refine wp_region_held_drew (S := fun W => Ext w W) (by kernel_rfl) hs (fun _ => ?_)
  refine wpAnyH_takeD (i := 0) (d := 3) (v := .pointer (some ⟨p, 0, none⟩)) rfl rfl (by kernel_rfl) (by kernel_rfl) (by kernel_rfl) (fun _ _ _ h => h) (Or.inl ⟨by rfl, fun W hW => by go_simp⟩) hs ?_
  simp only [Act.put, List.setIfInBounds_toArray, List.set_cons_succ, List.set_cons_zero]
  refine wpAnyH_takeD (i := 1) (d := 4) (v := .pointer (some ⟨p, 0, none⟩)) rfl rfl (by kernel_rfl) (by kernel_rfl) (by kernel_rfl) (fun _ _ _ h => h) (Or.inl ⟨by rfl, fun W hW => by go_simp⟩) hs ?_
  simp only [Act.put, List.setIfInBounds_toArray, List.set_cons_succ, List.set_cons_zero]
  refine wpAnyH_takeD (i := 2) (d := 5) (v := .pointer (some ⟨p, 1, none⟩)) rfl rfl (by kernel_rfl) (by kernel_rfl) (by kernel_rfl) (fun _ _ _ h => h) (Or.inl ⟨by rfl, fun W hW => by go_simp⟩) hs ?_
  simp only [Act.put, List.setIfInBounds_toArray, List.set_cons_succ, List.set_cons_zero]
  refine wpAnyH_takeD (i := 4) (d := 7) (v := .pointer (some ⟨p, 0, none⟩)) rfl rfl (by kernel_rfl) (by kernel_rfl) (by kernel_rfl) (fun _ _ _ h => h) (Or.inl ⟨by rfl, fun W hW => by go_simp⟩) hs ?_
  simp only [Act.put, List.setIfInBounds_toArray, List.set_cons_succ, List.set_cons_zero]
  refine wpAnyH_takeD (i := 5) (d := 8) (v := .pointer (some ⟨p, 0, none⟩)) rfl rfl (by kernel_rfl) (by kernel_rfl) (by kernel_rfl) (fun _ _ _ h => h) (Or.inl ⟨by rfl, fun W hW => by go_simp⟩) hs ?_
  simp only [Act.put, List.setIfInBounds_toArray, List.set_cons_succ, List.set_cons_zero]
  refine wpAnyH_takeD (i := 6) (d := 9) (v := .pointer (some ⟨p, 2, none⟩)) rfl rfl (by kernel_rfl) (by kernel_rfl) (by kernel_rfl) (fun _ _ _ h => h) (Or.inl ⟨by rfl, fun W hW => by go_simp⟩) hs ?_
  simp only [Act.put, List.setIfInBounds_toArray, List.set_cons_succ, List.set_cons_zero]
  refine wpAnyH_ready (rs := [3]) (by kernel_rfl) (by simp) (AllReadyH.cons rfl (fun K hK => ?_) AllReadyH.nil)
  go_simp
  go_at_call 69
  refine (free_v _ _).mono ?_; rintro e Wc ⟨rfl, y⟩
  go_wp2_with fail
  refine hK.out _ _ (hs.trans y) (fun hs => ?_)
  clear hK K y
  refine wpAnyH_ready (rs := [7]) (by kernel_rfl) (by simp) (AllReadyH.cons rfl (fun K hK => ?_) AllReadyH.nil)
  go_simp
  go_at_call 70
  refine (amount_v _ _ _).mono ?_; rintro e Wc ⟨rfl, y⟩
  go_wp2_with fail
  refine hK.out _ _ (hs.trans y) (fun hs => ?_)
  clear hK K y
  refine wpAnyH_ready (rs := [8]) (by kernel_rfl) (by simp) (AllReadyH.cons rfl (fun K hK => ?_) AllReadyH.nil)
  go_simp
  have hq := hs
  refine hK.out _ _ (hs.trans (Ext.alloc _ _)) (fun hs => ?_)
  clear hK K
  refine wpAnyH_takeD (i := 9) (d := 2) (v := .slice (some ⟨Wc.heap.size, 0, none⟩) 2 2) rfl rfl (by kernel_rfl) (by kernel_rfl) (by kernel_rfl) (fun _ _ _ h => h) (Or.inl ⟨by rfl, fun W hW => by go_simp⟩) hs ?_
  simp only [Act.put, List.setIfInBounds_toArray, List.set_cons_succ, List.set_cons_zero]
  refine wpAnyH_done (by kernel_rfl) ?_ _
  go_wp2
  go_ret
  exact HF.out _ hq
set_option maxHeartbeats 2000000 in
theorem fld_mask (p : Nat) (k : Int) (hk : k = 22) (w : World) : Calls Try.prog 65 #[.pointer (some ⟨p, 0, none⟩)] w (FldP p k w) := by
  have HF : Hid (∀ W, Ext w W → FldP p k w (.returned (.slice (some ⟨W.heap.size, 0, none⟩) 3 3)) (W.alloc (.cells #[.pointer (some ⟨p, 1, none⟩), .int .i64 0, .int .i64 65535, .int .i64 1, .pointer (some ⟨p, 4, none⟩), .int .i64 0, .int .i64 65535, .int .i64 1, .pointer (some ⟨p, 5, none⟩), .int .i64 0, .int .i64 65535, .int .i64 1] 87))) := Lib.hid (by
    intro W x
    have hn : fldN k = 3 := by subst hk <;> rfl
    refine ⟨W.heap.size, 0, by rw [hn], fld_new W _ p k ?_, x.size, x.trans (Ext.alloc _ _)⟩
    rw [hn]
    refine all_3.2 ?_
    subst hk <;> (repeat' constructor))
  clear hk
  go_enter Try.func65, Try.ntmps65
  go_wp2_with fail
  have hs : Ext w w.drew := Ext.drew _
  refine wp_region_held_drew (S := fun W => Ext w W) (by kernel_rfl) hs (fun _ => ?_)
  refine wpAnyH_takeD (i := 0) (d := 3) (v := .pointer (some ⟨p, 0, none⟩)) rfl rfl (by kernel_rfl) (by kernel_rfl) (by kernel_rfl) (fun _ _ _ h => h) (Or.inl ⟨by rfl, fun W hW => by go_simp⟩) hs ?_
  simp only [Act.put, List.setIfInBounds_toArray, List.set_cons_succ, List.set_cons_zero]
  refine wpAnyH_takeD (i := 1) (d := 4) (v := .pointer (some ⟨p, 0, none⟩)) rfl rfl (by kernel_rfl) (by kernel_rfl) (by kernel_rfl) (fun _ _ _ h => h) (Or.inl ⟨by rfl, fun W hW => by go_simp⟩) hs ?_
  simp only [Act.put, List.setIfInBounds_toArray, List.set_cons_succ, List.set_cons_zero]
  refine wpAnyH_takeD (i := 2) (d := 5) (v := .pointer (some ⟨p, 1, none⟩)) rfl rfl (by kernel_rfl) (by kernel_rfl) (by kernel_rfl) (fun _ _ _ h => h) (Or.inl ⟨by rfl, fun W hW => by go_simp⟩) hs ?_
  simp only [Act.put, List.setIfInBounds_toArray, List.set_cons_succ, List.set_cons_zero]
  refine wpAnyH_takeD (i := 4) (d := 7) (v := .pointer (some ⟨p, 0, none⟩)) rfl rfl (by kernel_rfl) (by kernel_rfl) (by kernel_rfl) (fun _ _ _ h => h) (Or.inl ⟨by rfl, fun W hW => by go_simp⟩) hs ?_
  simp only [Act.put, List.setIfInBounds_toArray, List.set_cons_succ, List.set_cons_zero]
  refine wpAnyH_takeD (i := 5) (d := 8) (v := .pointer (some ⟨p, 0, none⟩)) rfl rfl (by kernel_rfl) (by kernel_rfl) (by kernel_rfl) (fun _ _ _ h => h) (Or.inl ⟨by rfl, fun W hW => by go_simp⟩) hs ?_
  simp only [Act.put, List.setIfInBounds_toArray, List.set_cons_succ, List.set_cons_zero]
  refine wpAnyH_takeD (i := 6) (d := 9) (v := .pointer (some ⟨p, 4, none⟩)) rfl rfl (by kernel_rfl) (by kernel_rfl) (by kernel_rfl) (fun _ _ _ h => h) (Or.inl ⟨by rfl, fun W hW => by go_simp⟩) hs ?_
  simp only [Act.put, List.setIfInBounds_toArray, List.set_cons_succ, List.set_cons_zero]
  refine wpAnyH_takeD (i := 8) (d := 11) (v := .pointer (some ⟨p, 0, none⟩)) rfl rfl (by kernel_rfl) (by kernel_rfl) (by kernel_rfl) (fun _ _ _ h => h) (Or.inl ⟨by rfl, fun W hW => by go_simp⟩) hs ?_
  simp only [Act.put, List.setIfInBounds_toArray, List.set_cons_succ, List.set_cons_zero]
  refine wpAnyH_takeD (i := 9) (d := 12) (v := .pointer (some ⟨p, 0, none⟩)) rfl rfl (by kernel_rfl) (by kernel_rfl) (by kernel_rfl) (fun _ _ _ h => h) (Or.inl ⟨by rfl, fun W hW => by go_simp⟩) hs ?_
  simp only [Act.put, List.setIfInBounds_toArray, List.set_cons_succ, List.set_cons_zero]
  refine wpAnyH_takeD (i := 10) (d := 13) (v := .pointer (some ⟨p, 5, none⟩)) rfl rfl (by kernel_rfl) (by kernel_rfl) (by kernel_rfl) (fun _ _ _ h => h) (Or.inl ⟨by rfl, fun W hW => by go_simp⟩) hs ?_
  simp only [Act.put, List.setIfInBounds_toArray, List.set_cons_succ, List.set_cons_zero]
  refine wpAnyH_ready (rs := [3]) (by kernel_rfl) (by simp) (AllReadyH.cons rfl (fun K hK => ?_) AllReadyH.nil)
  go_simp
  go_at_call 69
  refine (free_v _ _).mono ?_; rintro e Wc ⟨rfl, y⟩
  go_wp2_with fail
  refine hK.out _ _ (hs.trans y) (fun hs => ?_)
  clear hK K y
  refine wpAnyH_ready (rs := [7]) (by kernel_rfl) (by simp) (AllReadyH.cons rfl (fun K hK => ?_) AllReadyH.nil)
  go_simp
  go_at_call 69
  refine (free_v _ _).mono ?_; rintro e Wc ⟨rfl, y⟩
  go_wp2_with fail
  refine hK.out _ _ (hs.trans y) (fun hs => ?_)
  clear hK K y
  refine wpAnyH_ready (rs := [11]) (by kernel_rfl) (by simp) (AllReadyH.cons rfl (fun K hK => ?_) AllReadyH.nil)
  go_simp
  go_at_call 69
  refine (free_v _ _).mono ?_; rintro e Wc ⟨rfl, y⟩
  go_wp2_with fail
  refine hK.out _ _ (hs.trans y) (fun hs => ?_)
  clear hK K y
  refine wpAnyH_ready (rs := [12]) (by kernel_rfl) (by simp) (AllReadyH.cons rfl (fun K hK => ?_) AllReadyH.nil)
  go_simp
  have hq := hs
  refine hK.out _ _ (hs.trans (Ext.alloc _ _)) (fun hs => ?_)
  clear hK K
  refine wpAnyH_takeD (i := 13) (d := 2) (v := .slice (some ⟨Wc.heap.size, 0, none⟩) 3 3) rfl rfl (by kernel_rfl) (by kernel_rfl) (by kernel_rfl) (fun _ _ _ h => h) (Or.inl ⟨by rfl, fun W hW => by go_simp⟩) hs ?_
  simp only [Act.put, List.setIfInBounds_toArray, List.set_cons_succ, List.set_cons_zero]
  refine wpAnyH_done (by kernel_rfl) ?_ _
  go_wp2
  go_ret
  exact HF.out _ hq
set_option maxHeartbeats 2000000 in
theorem fld_readSetRegs (p : Nat) (k : Int) (hk : k = 23) (w : World) : Calls Try.prog 66 #[.pointer (some ⟨p, 0, none⟩)] w (FldP p k w) := by
  have HF : Hid (∀ W, Ext w W → FldP p k w (.returned (.slice (some ⟨W.heap.size, 0, none⟩) 4 4)) (W.alloc (.cells #[.pointer (some ⟨p, 6, none⟩), .int .i64 0, .int .i64 65535, .int .i64 1, .pointer (some ⟨p, 7, none⟩), .int .i64 1, .int .i64 125, .int .i64 1, .pointer (some ⟨p, 1, none⟩), .int .i64 0, .int .i64 65535, .int .i64 1, .pointer (some ⟨p, 2, none⟩), .int .i64 1, .int .i64 121, .int .i64 1] 87))) := Lib.hid (by
    intro W x
    have hn : fldN k = 4 := by subst hk <;> rfl
    refine ⟨W.heap.size, 0, by rw [hn], fld_new W _ p k ?_, x.size, x.trans (Ext.alloc _ _)⟩
    rw [hn]
    refine all_4.2 ?_
    subst hk <;> (repeat' constructor))
  clear hk
  go_enter Try.func66, Try.ntmps66
  go_wp2_with fail
  have hs : Ext w w.drew := Ext.drew _
  refine wp_region_held_drew (S := fun W => Ext w W) (by kernel_rfl) hs (fun _ => ?_)
  refine wpAnyH_takeD (i := 0) (d := 3) (v := .pointer (some ⟨p, 0, none⟩)) rfl rfl (by kernel_rfl) (by kernel_rfl) (by kernel_rfl) (fun _ _ _ h => h) (Or.inl ⟨by rfl, fun W hW => by go_simp⟩) hs ?_
  simp only [Act.put, List.setIfInBounds_toArray, List.set_cons_succ, List.set_cons_zero]
  refine wpAnyH_takeD (i := 1) (d := 4) (v := .pointer (some ⟨p, 0, none⟩)) rfl rfl (by kernel_rfl) (by kernel_rfl) (by kernel_rfl) (fun _ _ _ h => h) (Or.inl ⟨by rfl, fun W hW => by go_simp⟩) hs ?_
  simp only [Act.put, List.setIfInBounds_toArray, List.set_cons_succ, List.set_cons_zero]
  refine wpAnyH_takeD (i := 2) (d := 5) (v := .pointer (some ⟨p, 6, none⟩)) rfl rfl (by kernel_rfl) (by kernel_rfl) (by kernel_rfl) (fun _ _ _ h => h) (Or.inl ⟨by rfl, fun W hW => by go_simp⟩) hs ?_
  simp only [Act.put, List.setIfInBounds_toArray, List.set_cons_succ, List.set_cons_zero]
  refine wpAnyH_takeD (i := 4) (d := 7) (v := .pointer (some ⟨p, 0, none⟩)) rfl rfl (by kernel_rfl) (by kernel_rfl) (by kernel_rfl) (fun _ _ _ h => h) (Or.inl ⟨by rfl, fun W hW => by go_simp⟩) hs ?_
  simp only [Act.put, List.setIfInBounds_toArray, List.set_cons_succ, List.set_cons_zero]
  refine wpAnyH_takeD (i := 5) (d := 8) (v := .pointer (some ⟨p, 0, none⟩)) rfl rfl (by kernel_rfl) (by kernel_rfl) (by kernel_rfl) (fun _ _ _ h => h) (Or.inl ⟨by rfl, fun W hW => by go_simp⟩) hs ?_
  simp only [Act.put, List.setIfInBounds_toArray, List.set_cons_succ, List.set_cons_zero]
  refine wpAnyH_takeD (i := 6) (d := 9) (v := .pointer (some ⟨p, 7, none⟩)) rfl rfl (by kernel_rfl) (by kernel_rfl) (by kernel_rfl) (fun _ _ _ h => h) (Or.inl ⟨by rfl, fun W hW => by go_simp⟩) hs ?_
  simp only [Act.put, List.setIfInBounds_toArray, List.set_cons_succ, List.set_cons_zero]
  refine wpAnyH_takeD (i := 8) (d := 11) (v := .pointer (some ⟨p, 0, none⟩)) rfl rfl (by kernel_rfl) (by kernel_rfl) (by kernel_rfl) (fun _ _ _ h => h) (Or.inl ⟨by rfl, fun W hW => by go_simp⟩) hs ?_
  simp only [Act.put, List.setIfInBounds_toArray, List.set_cons_succ, List.set_cons_zero]
  refine wpAnyH_takeD (i := 9) (d := 12) (v := .pointer (some ⟨p, 0, none⟩)) rfl rfl (by kernel_rfl) (by kernel_rfl) (by kernel_rfl) (fun _ _ _ h => h) (Or.inl ⟨by rfl, fun W hW => by go_simp⟩) hs ?_
  simp only [Act.put, List.setIfInBounds_toArray, List.set_cons_succ, List.set_cons_zero]
  refine wpAnyH_takeD (i := 10) (d := 13) (v := .pointer (some ⟨p, 1, none⟩)) rfl rfl (by kernel_rfl) (by kernel_rfl) (by kernel_rfl) (fun _ _ _ h => h) (Or.inl ⟨by rfl, fun W hW => by go_simp⟩) hs ?_
  simp only [Act.put, List.setIfInBounds_toArray, List.set_cons_succ, List.set_cons_zero]
  refine wpAnyH_takeD (i := 12) (d := 15) (v := .pointer (some ⟨p, 0, none⟩)) rfl rfl (by kernel_rfl) (by kernel_rfl) (by kernel_rfl) (fun _ _ _ h => h) (Or.inl ⟨by rfl, fun W hW => by go_simp⟩) hs ?_
  simp only [Act.put, List.setIfInBounds_toArray, List.set_cons_succ, List.set_cons_zero]
  refine wpAnyH_takeD (i := 13) (d := 16) (v := .pointer (some ⟨p, 0, none⟩)) rfl rfl (by kernel_rfl) (by kernel_rfl) (by kernel_rfl) (fun _ _ _ h => h) (Or.inl ⟨by rfl, fun W hW => by go_simp⟩) hs ?_
  simp only [Act.put, List.setIfInBounds_toArray, List.set_cons_succ, List.set_cons_zero]
  refine wpAnyH_takeD (i := 14) (d := 17) (v := .pointer (some ⟨p, 2, none⟩)) rfl rfl (by kernel_rfl) (by kernel_rfl) (by kernel_rfl) (fun _ _ _ h => h) (Or.inl ⟨by rfl, fun W hW => by go_simp⟩) hs ?_
  simp only [Act.put, List.setIfInBounds_toArray, List.set_cons_succ, List.set_cons_zero]
  refine wpAnyH_ready (rs := [3]) (by kernel_rfl) (by simp) (AllReadyH.cons rfl (fun K hK => ?_) AllReadyH.nil)
  go_simp
  go_at_call 69
  refine (free_v _ _).mono ?_; rintro e Wc ⟨rfl, y⟩
  go_wp2_with fail
  refine hK.out _ _ (hs.trans y) (fun hs => ?_)
  clear hK K y
  refine wpAnyH_ready (rs := [7]) (by kernel_rfl) (by simp) (AllReadyH.cons rfl (fun K hK => ?_) AllReadyH.nil)
  go_simp
  go_at_call 70
  refine (amount_v _ _ _).mono ?_; rintro e Wc ⟨rfl, y⟩
  go_wp2_with fail
  refine hK.out _ _ (hs.trans y) (fun hs => ?_)
  clear hK K y
  refine wpAnyH_ready (rs := [11]) (by kernel_rfl) (by simp) (AllReadyH.cons rfl (fun K hK => ?_) AllReadyH.nil)
  go_simp
  go_at_call 69
  refine (free_v _ _).mono ?_; rintro e Wc ⟨rfl, y⟩
  go_wp2_with fail
  refine hK.out _ _ (hs.trans y) (fun hs => ?_)
  clear hK K y
  refine wpAnyH_ready (rs := [15]) (by kernel_rfl) (by simp) (AllReadyH.cons rfl (fun K hK => ?_) AllReadyH.nil)
  go_simp
  go_at_call 70
  refine (amount_v _ _ _).mono ?_; rintro e Wc ⟨rfl, y⟩
  go_wp2_with fail
  refine hK.out _ _ (hs.trans y) (fun hs => ?_)
  clear hK K y
  refine wpAnyH_ready (rs := [16]) (by kernel_rfl) (by simp) (AllReadyH.cons rfl (fun K hK => ?_) AllReadyH.nil)
  go_simp
  have hq := hs
  refine hK.out _ _ (hs.trans (Ext.alloc _ _)) (fun hs => ?_)
  clear hK K
  refine wpAnyH_takeD (i := 17) (d := 2) (v := .slice (some ⟨Wc.heap.size, 0, none⟩) 4 4) rfl rfl (by kernel_rfl) (by kernel_rfl) (by kernel_rfl) (fun _ _ _ h => h) (Or.inl ⟨by rfl, fun W hW => by go_simp⟩) hs ?_
  simp only [Act.put, List.setIfInBounds_toArray, List.set_cons_succ, List.set_cons_zero]
  refine wpAnyH_done (by kernel_rfl) ?_ _
  go_wp2
  go_ret
  exact HF.out _ hq
end Go.Proofs.Ytejiafihiielgaa
