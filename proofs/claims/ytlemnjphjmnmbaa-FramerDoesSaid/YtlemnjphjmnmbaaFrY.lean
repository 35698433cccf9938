/-
  THE LAWS OF LAYER 10: one call, both ways ('op'), where the framer begins anew.
-/
import Derived.Test.YtlemnjphjmnmbaaFrX
namespace Go.Proofs.Ytlemnjphjmnmbaa
open Go.RowKit
set_option linter.unusedVariables false

set_option maxRecDepth 100000 in
set_option maxHeartbeats 16000000 in
theorem op_reset_ok (p : Nat) (F : Nat → Prop) (x : Fr) (a : Option Addr) (n cp : Nat) (L : List Byt) (T : List Seg) (y0 y1 : Int) (y2 : Bool) (w : World) (h : St w p F x a n cp L T) (he : errB x y0 = false) :
    Calls Try.prog 8 #[.pointer (some ⟨p, 0, none⟩), .agg (refC x a n cp T.length), .agg #[.int .i64 2, .int .i64 y0, .int .u8 y1, .bool y2]] w fun e w' => OpPost w F x n e w' := by
  have hreset := fun w' (k : Ext w w') => freset_any p F x y0 w' (h.fr.ext k)
  have hlt := h.fr.lt
  obtain ⟨hv, hle⟩ := err_yes h.fr.ok he
  have hcnt := h.fr.ok.count
  have e1 : idleN x y0 = 0 := by unfold idleN; rw [he]; rfl
  have e2 : resetF x y0 = newF x.c x.s x.l x.u y0 := by unfold resetF; rw [he]; rfl
  rw [e1, e2] at hreset
  obtain ⟨c, s, l, u, f, t', sg⟩ := x
  unfold OpPost
  rw [show refC ⟨c, s, l, u, f, t', sg⟩ a n cp T.length = #[.int .i64 c, .int .i64 s, .int .i64 l, .int .i64 u, .int .i64 f, .int .i64 t', .slice a n cp, .int .i64 T.length] from rfl]
  simp only at hreset hv hle hcnt ⊢
  generalize T.length = told
  have HReset := Lib.hid hreset
  have HLt := Lib.hid hlt
  have HCnt := Lib.hid hcnt
  have HV := Lib.hid hv
  have hd1 : t' ≤ y0 := hle
  have hd2 : y0 ≤ 1099511627776 := hv.2
  clear hreset hlt h he e1 e2 hcnt hv hle
  go_enter Try.func8, Try.ntmps8
  go_wp2_with fail
  obtain ⟨W, hW⟩ : ∃ W, W = ((w.alloc (.cells #[.int .i64 c, .int .i64 s, .int .i64 l, .int .i64 u, .int .i64 y0, .int .i64 y0, .slice none 0 0, .int .i64 0] 31)).alloc (.cells #[.int .i64 2, .int .i64 y0, .int .u8 y1, .bool y2] 35)).alloc (.cells #[.int .i64 0, .int .i64 0, .int .i64 0, .int .i64 0, .int .i64 0, .int .i64 0, .slice none 0 0, .int .i64 0] 31) := ⟨_, rfl⟩
  have xW : Ext w W := by rw [hW]; exact ((Ext.alloc _ _).alloc' _).alloc' _
  have gS : W.heap[w.heap.size]? = some (.cells #[.int .i64 c, .int .i64 s, .int .i64 l, .int .i64 u, .int .i64 y0, .int .i64 y0, .slice none 0 0, .int .i64 0] 31 (0, 0)) := by rw [hW, heap_alloc_old _ _ (by simp; omega), heap_alloc_old _ _ (by simp)]; exact heap_new_at _ _ rfl
  have gO : W.heap[w.heap.size + 1]? = some (.cells #[.int .i64 2, .int .i64 y0, .int .u8 y1, .bool y2] 35 (0, 0)) := by rw [hW, heap_alloc_old _ _ (by simp)]; exact heap_new_at _ _ (by simp)
  have gR : W.heap[w.heap.size + 1 + 1]? = some (.cells refZ 31 (0, 0)) := by rw [hW]; exact heap_new_at _ _ (by simp)
  have sW : W.heap.size = w.heap.size + 3 := by rw [hW]; simp
  have hFn : ∀ q, w.heap.size ≤ q → ¬ F q := fun q hq hf => by have := HLt.out q hf; omega
  rw [← hW]
  let S : World → Prop := fun w' => Keep (fun i => F i ∨ i = w.heap.size + 1 + 1) W w' ∧ ∃ old : Array Value, old.size = 8 ∧ w'.heap[w.heap.size + 1 + 1]? = some (.cells old 31 (0, 0))
  have hs0 : S W.drew := ⟨.of_ext (Ext.drew _), refZ, rfl, gR⟩
  have hsKeep : ∀ w9, Keep F W.drew w9 → S w9 := fun w9 k9 => ⟨((Keep.of_ext (Ext.drew W)).same k9).mono (fun i hi => .inl hi), refZ, rfl, (k9.block _ (by rw [heap_drew]; exact heap_lt gR) (hFn _ (by omega))).trans gR⟩
  have hsStore : ∀ w9 old, Keep (fun i => F i ∨ i = w.heap.size + 1 + 1) W w9 → w9.heap[w.heap.size + 1 + 1]? = some (.cells old 31 (0, 0)) → S (w9.setRow (w.heap.size + 1 + 1) #[.int .i64 c, .int .i64 s, .int .i64 l, .int .i64 u, .int .i64 y0, .int .i64 y0, .slice none 0 0, .int .i64 0]) := fun w9 old k9 hr9 =>
    ⟨k9.same ((Keep.row _ _ _).mono fun i hi => .inr hi), #[.int .i64 c, .int .i64 s, .int .i64 l, .int .i64 u, .int .i64 y0, .int .i64 y0, .slice none 0 0, .int .i64 0], rfl, setRow_heap _ _ _ _ _ _ hr9⟩
  have hrow : ∀ w', S w' → w'.heap[w.heap.size]? = some (.cells #[.int .i64 c, .int .i64 s, .int .i64 l, .int .i64 u, .int .i64 y0, .int .i64 y0, .slice none 0 0, .int .i64 0] 31 (0, 0)) := fun w' h => (h.1.block _ (heap_lt gS) (fun e => e.elim (hFn _ (Nat.le_refl _)) (by omega))).trans gS
  have hcellf : ∀ w', S w' → w'.cell? ⟨w.heap.size + 1, 1, none⟩ = some (.int .i64 y0) := fun w' h => cell_of_heap (j := 1) ((h.1.block _ (heap_lt gO) (fun e => e.elim (hFn _ (by omega)) (by omega))).trans gO) rfl
  have hend : ∀ w9 G, Keep F W.drew w9 → Grows F G W.drew → ∀ cs, Keep F w (w9.setRow (w.heap.size + 1 + 1) cs) ∧ Grows F G w ∧ (∀ y, FR w9 p G y → FR (w9.setRow (w.heap.size + 1 + 1) cs) p G y) := by
    intro w9 G k9 g9 cs
    have hG : ∀ i, G i → F i ∨ w.heap.size + 3 ≤ i := fun i hi => (g9 i hi).imp id (fun h => by rw [← sW]; exact h)
    refine ⟨((Keep.of_ext (xW.trans (Ext.drew _))).same k9).trans (Keep.row _ _ _) (fun i hi => .inr (by rw [hi]; omega)), fun i hi => (hG i hi).imp id (fun h => by omega), fun y hy => hy.keep (Keep.row _ _ _) fun i hi e => ?_⟩
    rcases hG i hi with h | h
    · exact hFn i (by omega) h
    · omega
  have HXW := Lib.hid xW
  have HEnd := Lib.hid hend
  clear hW xW gS gO gR sW hend
  go_wp2_with fail
  refine wp_region_held_drew (S := S) (by kernel_rfl) hs0 (fun _ => ?_)
  refine wpAnyH_takeD (i := 0) (d := 137) (v := .pointer (some ⟨p, 0, none⟩)) rfl rfl (by kernel_rfl) (by kernel_rfl) (by kernel_rfl) (fun _ _ _ h => h) (Or.inl ⟨by rfl, fun w _ => by go_simp⟩) hs0 ?_
  simp only [Act.put, List.setIfInBounds_toArray, List.set_cons_succ, List.set_cons_zero]
  refine wpAnyH_takeD (i := 1) (d := 138) rfl rfl (by kernel_rfl) (by kernel_rfl) (by kernel_rfl) (fun _ _ _ h => h) (yieldsIf_load_row (by rfl) 31 (.tmp 4) rfl w.heap.size rfl 31 _ (0, 0) _ (fun w' hw' => hrow w' hw') Try.underlying31 rfl (by kernel_rfl)) hs0 ?_
  simp only [Act.put, List.setIfInBounds_toArray, List.set_cons_succ, List.set_cons_zero]
  refine wpAnyH_takeD (i := 2) (d := 139) (v := .pointer (some ⟨p, 0, none⟩)) rfl rfl (by kernel_rfl) (by kernel_rfl) (by kernel_rfl) (fun _ _ _ h => h) (Or.inl ⟨by rfl, fun w _ => by go_simp⟩) hs0 ?_
  simp only [Act.put, List.setIfInBounds_toArray, List.set_cons_succ, List.set_cons_zero]
  refine wpAnyH_takeD (i := 3) (d := 140) (v := .pointer (some ⟨w.heap.size + 1, 1, none⟩)) rfl rfl (by kernel_rfl) (by kernel_rfl) (by kernel_rfl) (fun _ _ _ h => h) (Or.inl ⟨by rfl, fun w _ => by go_simp⟩) hs0 ?_
  simp only [Act.put, List.setIfInBounds_toArray, List.set_cons_succ, List.set_cons_zero]
  refine wpAnyH_takeD (i := 4) (d := 141) (v := .int .i64 y0) rfl rfl (by kernel_rfl) (by kernel_rfl) (by kernel_rfl) (fun _ _ _ h => h) (Or.inl ⟨by rfl, fun w' hw' => by have hcell := hcellf w' hw'; go_simp⟩) hs0 ?_
  simp only [Act.put, List.setIfInBounds_toArray, List.set_cons_succ, List.set_cons_zero]
  refine wpAnyH_takeD (i := 7) (d := 144) (v := .bool true) rfl rfl (by kernel_rfl) (by kernel_rfl) (by kernel_rfl) (fun _ _ _ h => h) (Or.inl ⟨by rfl, fun w _ => by go_simp⟩) hs0 ?_
  simp only [Act.put, List.setIfInBounds_toArray, List.set_cons_succ, List.set_cons_zero]
  refine wpAnyH_ready (rs := [5]) (by kernel_rfl) (by simp) (AllReadyH.cons rfl (fun K hK => ?_) AllReadyH.nil)
  go_simp
  go_at_call 18
  refine (HReset.out _ (HXW.out.trans (Ext.drew _))).mono ?_; rintro e w9 ⟨G, rfl, k9, r9, g9⟩
  go_wp2_with fail
  refine hK.out _ _ (hsKeep _ k9) (fun hs1 => ?_)
  clear hK K
  refine wpAnyH_takeD (i := 6) (d := 143) (v := .bool true) rfl rfl (by kernel_rfl) (by kernel_rfl) (by kernel_rfl) (fun _ _ _ h => h) (Or.inl ⟨by rfl, fun w _ => by go_simp⟩) hs1 ?_
  simp only [Act.put, List.setIfInBounds_toArray, List.set_cons_succ, List.set_cons_zero]
  refine wpAnyH_takeD (i := 8) (d := 145) (v := .bool true) rfl rfl (by kernel_rfl) (by kernel_rfl) (by kernel_rfl) (fun _ _ _ h => h) (Or.inl ⟨by rfl, fun w _ => by go_simp⟩) hs1 ?_
  simp only [Act.put, List.setIfInBounds_toArray, List.set_cons_succ, List.set_cons_zero]
  refine wpAnyH_takeD (i := 9) (d := 6) (v := .pointer (some ⟨p, 0, none⟩)) rfl rfl (by kernel_rfl) (by kernel_rfl) (by kernel_rfl) (fun _ _ _ h => h) (Or.inl ⟨by rfl, fun w _ => by go_simp⟩) hs1 ?_
  simp only [Act.put, List.setIfInBounds_toArray, List.set_cons_succ, List.set_cons_zero]
  refine wpAnyH_ready (rs := [10]) (by kernel_rfl) (by simp) (AllReadyH.cons rfl (fun K hK => ?_) AllReadyH.nil)
  rw [if_pos (by rfl)]
  obtain ⟨hk9, old9, ho9, hr9⟩ := id hs1
  refine wp_store_row 31 (.tmp 7) (.tmp 138) rfl (w.heap.size + 1 + 1) _ rfl rfl 31 _ hr9 (by kernel_rfl) (by rw [ho9]; rfl) (by simp [Value.oneCell']) ?_
  refine hK.out _ _ (hsStore _ _ hk9 hr9) (fun hs2 => ?_)
  clear hK K
  refine wpAnyH_takeD (i := 11) (d := 8) (v := .bool true) rfl rfl (by kernel_rfl) (by kernel_rfl) (by kernel_rfl) (fun _ _ _ h => h) (Or.inl ⟨by rfl, fun w _ => by go_simp⟩) hs2 ?_
  simp only [Act.put, List.setIfInBounds_toArray]
  refine wpAnyH_done (by kernel_rfl) ?_ _
  go_wp2_with fail
  refine bodyPost_ret (results_tmp_row_tmp rfl _ _ (w.heap.size + 1 + 1) 31 _ (0, 0) _ rfl (setRow_heap _ _ _ _ _ _ hr9) Try.underlying31 rfl (by kernel_rfl)) rfl ?_
  obtain ⟨hke, hge, hre⟩ := HEnd.out w9 G k9 g9 _
  exact ⟨p, G, newF c s l u y0, none, 0, 0, [], [], rfl, hke, ⟨hre _ r9, RefR.new HV.out.1 HV.out.2, ⟨.inl rfl, Nat.le_refl _, Nat.zero_le _, Nat.zero_le _, fun _ h => by cases h⟩, rfl, .inl rfl⟩, hge, by have := HCnt.out; show (0 : Int) ≤ _; omega, Nat.zero_le _⟩
set_option maxRecDepth 100000 in
set_option maxHeartbeats 16000000 in
theorem op_reset_err (p : Nat) (F : Nat → Prop) (x : Fr) (a : Option Addr) (n cp : Nat) (L : List Byt) (T : List Seg) (y0 y1 : Int) (y2 : Bool) (w : World) (h : St w p F x a n cp L T) (he : errB x y0 = true) :
    Calls Try.prog 8 #[.pointer (some ⟨p, 0, none⟩), .agg (refC x a n cp T.length), .agg #[.int .i64 2, .int .i64 y0, .int .u8 y1, .bool y2]] w fun e w' => OpPost w F x n e w' := by
  have hreset := fun w' (k : Ext w w') => freset_any p F x y0 w' (h.fr.ext k)
  have hlt := h.fr.lt
  have hd : y0 < x.now ∨ ¬ y0 < x.now ∧ 1099511627776 < y0 := by unfold errB at he; simp at he; omega
  have e1 : idleN x y0 = 11 := by unfold idleN; rw [he]; rfl
  have e2 : resetF x y0 = x := by unfold resetF; rw [he]; rfl
  rw [e1, e2] at hreset
  have HSt := Lib.hid h
  obtain ⟨c, s, l, u, f, t', sg⟩ := x
  unfold OpPost
  rw [show refC ⟨c, s, l, u, f, t', sg⟩ a n cp T.length = #[.int .i64 c, .int .i64 s, .int .i64 l, .int .i64 u, .int .i64 f, .int .i64 t', .slice a n cp, .int .i64 T.length] from rfl]
  simp only at hreset hd ⊢
  obtain ⟨told, htold⟩ : ∃ q, q = T.length := ⟨_, rfl⟩
  rw [← htold]
  have HTold := Lib.hid htold
  have HReset := Lib.hid hreset
  have HLt := Lib.hid hlt
  clear hreset hlt h he e1 e2 htold
  obtain ⟨W, hW⟩ : ∃ W, W = ((w.alloc (.cells #[.int .i64 c, .int .i64 s, .int .i64 l, .int .i64 u, .int .i64 f, .int .i64 t', .slice a n cp, .int .i64 told] 31)).alloc (.cells #[.int .i64 2, .int .i64 y0, .int .u8 y1, .bool y2] 35)).alloc (.cells #[.int .i64 0, .int .i64 0, .int .i64 0, .int .i64 0, .int .i64 0, .int .i64 0, .slice none 0 0, .int .i64 0] 31) := ⟨_, rfl⟩
  have xW : Ext w W := by rw [hW]; exact ((Ext.alloc _ _).alloc' _).alloc' _
  have gS : W.heap[w.heap.size]? = some (.cells #[.int .i64 c, .int .i64 s, .int .i64 l, .int .i64 u, .int .i64 f, .int .i64 t', .slice a n cp, .int .i64 told] 31 (0, 0)) := by rw [hW, heap_alloc_old _ _ (by simp; omega), heap_alloc_old _ _ (by simp)]; exact heap_new_at _ _ rfl
  have gO : W.heap[w.heap.size + 1]? = some (.cells #[.int .i64 2, .int .i64 y0, .int .u8 y1, .bool y2] 35 (0, 0)) := by rw [hW, heap_alloc_old _ _ (by simp)]; exact heap_new_at _ _ (by simp)
  have gR : W.heap[w.heap.size + 1 + 1]? = some (.cells refZ 31 (0, 0)) := by rw [hW]; exact heap_new_at _ _ (by simp)
  have sW : W.heap.size = w.heap.size + 3 := by rw [hW]; simp
  have hFn : ∀ q, w.heap.size ≤ q → ¬ F q := fun q hq hf => by have := HLt.out q hf; omega
  have HW := Lib.hid hW
  let S : World → Prop := fun w' => Keep (fun i => F i ∨ i = w.heap.size + 1 + 1) W w' ∧ ∃ old : Array Value, old.size = 8 ∧ w'.heap[w.heap.size + 1 + 1]? = some (.cells old 31 (0, 0))
  have hs0 : S W.drew := ⟨.of_ext (Ext.drew _), refZ, rfl, gR⟩
  have hsKeep : ∀ w9, Keep F W.drew w9 → S w9 := fun w9 k9 => ⟨((Keep.of_ext (Ext.drew W)).same k9).mono (fun i hi => .inl hi), refZ, rfl, (k9.block _ (by rw [heap_drew]; exact heap_lt gR) (hFn _ (by omega))).trans gR⟩
  have hsStore : ∀ w9 old, Keep (fun i => F i ∨ i = w.heap.size + 1 + 1) W w9 → w9.heap[w.heap.size + 1 + 1]? = some (.cells old 31 (0, 0)) → S (w9.setRow (w.heap.size + 1 + 1) #[.int .i64 c, .int .i64 s, .int .i64 l, .int .i64 u, .int .i64 f, .int .i64 t', .slice a n cp, .int .i64 told]) := fun w9 old k9 hr9 =>
    ⟨k9.same ((Keep.row _ _ _).mono fun i hi => .inr hi), #[.int .i64 c, .int .i64 s, .int .i64 l, .int .i64 u, .int .i64 f, .int .i64 t', .slice a n cp, .int .i64 told], rfl, setRow_heap _ _ _ _ _ _ hr9⟩
  have hrow : ∀ w', S w' → w'.heap[w.heap.size]? = some (.cells #[.int .i64 c, .int .i64 s, .int .i64 l, .int .i64 u, .int .i64 f, .int .i64 t', .slice a n cp, .int .i64 told] 31 (0, 0)) := fun w' h => (h.1.block _ (heap_lt gS) (fun e => e.elim (hFn _ (Nat.le_refl _)) (by omega))).trans gS
  have hcellf : ∀ w', S w' → w'.cell? ⟨w.heap.size + 1, 1, none⟩ = some (.int .i64 y0) := fun w' h => cell_of_heap (j := 1) ((h.1.block _ (heap_lt gO) (fun e => e.elim (hFn _ (by omega)) (by omega))).trans gO) rfl
  have hend : ∀ w9 G, Keep F W.drew w9 → Grows F G W.drew → ∀ cs, Keep F w (w9.setRow (w.heap.size + 1 + 1) cs) ∧ Grows F G w ∧ (∀ y, FR w9 p G y → FR (w9.setRow (w.heap.size + 1 + 1) cs) p G y) := by
    intro w9 G k9 g9 cs
    have hG : ∀ i, G i → F i ∨ w.heap.size + 3 ≤ i := fun i hi => (g9 i hi).imp id (fun h => by rw [← sW]; exact h)
    refine ⟨((Keep.of_ext (xW.trans (Ext.drew _))).same k9).trans (Keep.row _ _ _) (fun i hi => .inr (by rw [hi]; omega)), fun i hi => (hG i hi).imp id (fun h => by omega), fun y hy => hy.keep (Keep.row _ _ _) fun i hi e => ?_⟩
    rcases hG i hi with h | h
    · exact hFn i (by omega) h
    · omega
  have HXW := Lib.hid xW
  have HEnd := Lib.hid hend
  clear hW xW gS gO gR sW hend
  replace hd : y0 < t' ∨ t' ≤ y0 ∧ 1099511627776 < y0 := by omega
  rcases hd with hd1 | ⟨hd1, hd2⟩
  · go_enter Try.func8, Try.ntmps8
    go_wp2_with fail
    rw [← HW.out]
    go_wp2_with fail
    refine wp_region_held_drew (S := S) (by kernel_rfl) hs0 (fun _ => ?_)
    refine wpAnyH_takeD (i := 0) (d := 137) (v := .pointer (some ⟨p, 0, none⟩)) rfl rfl (by kernel_rfl) (by kernel_rfl) (by kernel_rfl) (fun _ _ _ h => h) (Or.inl ⟨by rfl, fun w _ => by go_simp⟩) hs0 ?_
    simp only [Act.put, List.setIfInBounds_toArray, List.set_cons_succ, List.set_cons_zero]
    refine wpAnyH_takeD (i := 1) (d := 138) rfl rfl (by kernel_rfl) (by kernel_rfl) (by kernel_rfl) (fun _ _ _ h => h) (yieldsIf_load_row (by rfl) 31 (.tmp 4) rfl w.heap.size rfl 31 _ (0, 0) _ (fun w' hw' => hrow w' hw') Try.underlying31 rfl (by kernel_rfl)) hs0 ?_
    simp only [Act.put, List.setIfInBounds_toArray, List.set_cons_succ, List.set_cons_zero]
    refine wpAnyH_takeD (i := 2) (d := 139) (v := .pointer (some ⟨p, 0, none⟩)) rfl rfl (by kernel_rfl) (by kernel_rfl) (by kernel_rfl) (fun _ _ _ h => h) (Or.inl ⟨by rfl, fun w _ => by go_simp⟩) hs0 ?_
    simp only [Act.put, List.setIfInBounds_toArray, List.set_cons_succ, List.set_cons_zero]
    refine wpAnyH_takeD (i := 3) (d := 140) (v := .pointer (some ⟨w.heap.size + 1, 1, none⟩)) rfl rfl (by kernel_rfl) (by kernel_rfl) (by kernel_rfl) (fun _ _ _ h => h) (Or.inl ⟨by rfl, fun w _ => by go_simp⟩) hs0 ?_
    simp only [Act.put, List.setIfInBounds_toArray, List.set_cons_succ, List.set_cons_zero]
    refine wpAnyH_takeD (i := 4) (d := 141) (v := .int .i64 y0) rfl rfl (by kernel_rfl) (by kernel_rfl) (by kernel_rfl) (fun _ _ _ h => h) (Or.inl ⟨by rfl, fun w' hw' => by have hcell := hcellf w' hw'; go_simp⟩) hs0 ?_
    simp only [Act.put, List.setIfInBounds_toArray, List.set_cons_succ, List.set_cons_zero]
    refine wpAnyH_takeD (i := 7) (d := 144) (v := .bool false) rfl rfl (by kernel_rfl) (by kernel_rfl) (by kernel_rfl) (fun _ _ _ h => h) (Or.inl ⟨by rfl, fun w _ => by go_simp⟩) hs0 ?_
    simp only [Act.put, List.setIfInBounds_toArray, List.set_cons_succ, List.set_cons_zero]
    refine wpAnyH_ready (rs := [5]) (by kernel_rfl) (by simp) (AllReadyH.cons rfl (fun K hK => ?_) AllReadyH.nil)
    go_simp
    go_at_call 18
    refine (HReset.out _ (HXW.out.trans (Ext.drew _))).mono ?_; rintro e w9 ⟨G, rfl, k9, r9, g9⟩
    go_wp2_with fail
    refine hK.out _ _ (hsKeep _ k9) (fun hs1 => ?_)
    clear hK K
    refine wpAnyH_takeD (i := 6) (d := 143) (v := .bool false) rfl rfl (by kernel_rfl) (by kernel_rfl) (by kernel_rfl) (fun _ _ _ h => h) (Or.inl ⟨by rfl, fun w _ => by go_simp⟩) hs1 ?_
    simp only [Act.put, List.setIfInBounds_toArray, List.set_cons_succ, List.set_cons_zero]
    refine wpAnyH_takeD (i := 8) (d := 145) (v := .bool true) rfl rfl (by kernel_rfl) (by kernel_rfl) (by kernel_rfl) (fun _ _ _ h => h) (Or.inl ⟨by rfl, fun w _ => by go_simp⟩) hs1 ?_
    simp only [Act.put, List.setIfInBounds_toArray, List.set_cons_succ, List.set_cons_zero]
    refine wpAnyH_takeD (i := 9) (d := 6) (v := .pointer (some ⟨p, 0, none⟩)) rfl rfl (by kernel_rfl) (by kernel_rfl) (by kernel_rfl) (fun _ _ _ h => h) (Or.inl ⟨by rfl, fun w _ => by go_simp⟩) hs1 ?_
    simp only [Act.put, List.setIfInBounds_toArray, List.set_cons_succ, List.set_cons_zero]
    refine wpAnyH_ready (rs := [10]) (by kernel_rfl) (by simp) (AllReadyH.cons rfl (fun K hK => ?_) AllReadyH.nil)
    rw [if_pos (by rfl)]
    obtain ⟨hk9, old9, ho9, hr9⟩ := id hs1
    refine wp_store_row 31 (.tmp 7) (.tmp 138) rfl (w.heap.size + 1 + 1) _ rfl rfl 31 _ hr9 (by kernel_rfl) (by rw [ho9]; rfl) (by simp [Value.oneCell']) ?_
    refine hK.out _ _ (hsStore _ _ hk9 hr9) (fun hs2 => ?_)
    clear hK K
    refine wpAnyH_takeD (i := 11) (d := 8) (v := .bool true) rfl rfl (by kernel_rfl) (by kernel_rfl) (by kernel_rfl) (fun _ _ _ h => h) (Or.inl ⟨by rfl, fun w _ => by go_simp⟩) hs2 ?_
    simp only [Act.put, List.setIfInBounds_toArray]
    refine wpAnyH_done (by kernel_rfl) ?_ _
    go_wp2_with fail
    refine bodyPost_ret (results_tmp_row_tmp rfl _ _ (w.heap.size + 1 + 1) 31 _ (0, 0) _ rfl (setRow_heap _ _ _ _ _ _ hr9) Try.underlying31 rfl (by kernel_rfl)) rfl ?_
    obtain ⟨hke, hge, hre⟩ := HEnd.out w9 G k9 g9 _
    exact ⟨p, G, ⟨c, s, l, u, f, t', sg⟩, a, n, cp, L, T, by rw [HTold.out]; rfl, hke, ⟨hre _ r9, HSt.out.ref, ⟨HSt.out.mem.holds.keepN hke HSt.out.off, HSt.out.mem.le, HSt.out.mem.max, HSt.out.mem.few, HSt.out.mem.small⟩, HSt.out.len, HSt.out.off.grows hge HSt.out.mem.holds⟩, hge, by show sg.count ≤ sg.count + 1; omega, Nat.le_succ _⟩
  · go_enter Try.func8, Try.ntmps8
    go_wp2_with fail
    rw [← HW.out]
    go_wp2_with fail
    refine wp_region_held_drew (S := S) (by kernel_rfl) hs0 (fun _ => ?_)
    refine wpAnyH_takeD (i := 0) (d := 137) (v := .pointer (some ⟨p, 0, none⟩)) rfl rfl (by kernel_rfl) (by kernel_rfl) (by kernel_rfl) (fun _ _ _ h => h) (Or.inl ⟨by rfl, fun w _ => by go_simp⟩) hs0 ?_
    simp only [Act.put, List.setIfInBounds_toArray, List.set_cons_succ, List.set_cons_zero]
    refine wpAnyH_takeD (i := 1) (d := 138) rfl rfl (by kernel_rfl) (by kernel_rfl) (by kernel_rfl) (fun _ _ _ h => h) (yieldsIf_load_row (by rfl) 31 (.tmp 4) rfl w.heap.size rfl 31 _ (0, 0) _ (fun w' hw' => hrow w' hw') Try.underlying31 rfl (by kernel_rfl)) hs0 ?_
    simp only [Act.put, List.setIfInBounds_toArray, List.set_cons_succ, List.set_cons_zero]
    refine wpAnyH_takeD (i := 2) (d := 139) (v := .pointer (some ⟨p, 0, none⟩)) rfl rfl (by kernel_rfl) (by kernel_rfl) (by kernel_rfl) (fun _ _ _ h => h) (Or.inl ⟨by rfl, fun w _ => by go_simp⟩) hs0 ?_
    simp only [Act.put, List.setIfInBounds_toArray, List.set_cons_succ, List.set_cons_zero]
    refine wpAnyH_takeD (i := 3) (d := 140) (v := .pointer (some ⟨w.heap.size + 1, 1, none⟩)) rfl rfl (by kernel_rfl) (by kernel_rfl) (by kernel_rfl) (fun _ _ _ h => h) (Or.inl ⟨by rfl, fun w _ => by go_simp⟩) hs0 ?_
    simp only [Act.put, List.setIfInBounds_toArray, List.set_cons_succ, List.set_cons_zero]
    refine wpAnyH_takeD (i := 4) (d := 141) (v := .int .i64 y0) rfl rfl (by kernel_rfl) (by kernel_rfl) (by kernel_rfl) (fun _ _ _ h => h) (Or.inl ⟨by rfl, fun w' hw' => by have hcell := hcellf w' hw'; go_simp⟩) hs0 ?_
    simp only [Act.put, List.setIfInBounds_toArray, List.set_cons_succ, List.set_cons_zero]
    refine wpAnyH_takeD (i := 7) (d := 144) (v := .bool false) rfl rfl (by kernel_rfl) (by kernel_rfl) (by kernel_rfl) (fun _ _ _ h => h) (Or.inl ⟨by rfl, fun w _ => by go_simp⟩) hs0 ?_
    simp only [Act.put, List.setIfInBounds_toArray, List.set_cons_succ, List.set_cons_zero]
    refine wpAnyH_ready (rs := [5]) (by kernel_rfl) (by simp) (AllReadyH.cons rfl (fun K hK => ?_) AllReadyH.nil)
    go_simp
    go_at_call 18
    refine (HReset.out _ (HXW.out.trans (Ext.drew _))).mono ?_; rintro e w9 ⟨G, rfl, k9, r9, g9⟩
    go_wp2_with fail
    refine hK.out _ _ (hsKeep _ k9) (fun hs1 => ?_)
    clear hK K
    refine wpAnyH_takeD (i := 6) (d := 143) (v := .bool false) rfl rfl (by kernel_rfl) (by kernel_rfl) (by kernel_rfl) (fun _ _ _ h => h) (Or.inl ⟨by rfl, fun w _ => by go_simp⟩) hs1 ?_
    simp only [Act.put, List.setIfInBounds_toArray, List.set_cons_succ, List.set_cons_zero]
    refine wpAnyH_takeD (i := 8) (d := 145) (v := .bool true) rfl rfl (by kernel_rfl) (by kernel_rfl) (by kernel_rfl) (fun _ _ _ h => h) (Or.inl ⟨by rfl, fun w _ => by go_simp⟩) hs1 ?_
    simp only [Act.put, List.setIfInBounds_toArray, List.set_cons_succ, List.set_cons_zero]
    refine wpAnyH_takeD (i := 9) (d := 6) (v := .pointer (some ⟨p, 0, none⟩)) rfl rfl (by kernel_rfl) (by kernel_rfl) (by kernel_rfl) (fun _ _ _ h => h) (Or.inl ⟨by rfl, fun w _ => by go_simp⟩) hs1 ?_
    simp only [Act.put, List.setIfInBounds_toArray, List.set_cons_succ, List.set_cons_zero]
    refine wpAnyH_ready (rs := [10]) (by kernel_rfl) (by simp) (AllReadyH.cons rfl (fun K hK => ?_) AllReadyH.nil)
    rw [if_pos (by rfl)]
    obtain ⟨hk9, old9, ho9, hr9⟩ := id hs1
    refine wp_store_row 31 (.tmp 7) (.tmp 138) rfl (w.heap.size + 1 + 1) _ rfl rfl 31 _ hr9 (by kernel_rfl) (by rw [ho9]; rfl) (by simp [Value.oneCell']) ?_
    refine hK.out _ _ (hsStore _ _ hk9 hr9) (fun hs2 => ?_)
    clear hK K
    refine wpAnyH_takeD (i := 11) (d := 8) (v := .bool true) rfl rfl (by kernel_rfl) (by kernel_rfl) (by kernel_rfl) (fun _ _ _ h => h) (Or.inl ⟨by rfl, fun w _ => by go_simp⟩) hs2 ?_
    simp only [Act.put, List.setIfInBounds_toArray]
    refine wpAnyH_done (by kernel_rfl) ?_ _
    go_wp2_with fail
    refine bodyPost_ret (results_tmp_row_tmp rfl _ _ (w.heap.size + 1 + 1) 31 _ (0, 0) _ rfl (setRow_heap _ _ _ _ _ _ hr9) Try.underlying31 rfl (by kernel_rfl)) rfl ?_
    obtain ⟨hke, hge, hre⟩ := HEnd.out w9 G k9 g9 _
    exact ⟨p, G, ⟨c, s, l, u, f, t', sg⟩, a, n, cp, L, T, by rw [HTold.out]; rfl, hke, ⟨hre _ r9, HSt.out.ref, ⟨HSt.out.mem.holds.keepN hke HSt.out.off, HSt.out.mem.le, HSt.out.mem.max, HSt.out.mem.few, HSt.out.mem.small⟩, HSt.out.len, HSt.out.off.grows hge HSt.out.mem.holds⟩, hge, by show sg.count ≤ sg.count + 1; omega, Nat.le_succ _⟩
end Go.Proofs.Ytlemnjphjmnmbaa
