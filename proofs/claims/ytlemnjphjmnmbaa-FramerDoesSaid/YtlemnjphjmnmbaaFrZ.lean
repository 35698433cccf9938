/-
  THE LAWS OF LAYER 10: one call, both ways ('op'), where another one is made.
-/
import Derived.Test.YtlemnjphjmnmbaaFrY
namespace Go.Proofs.Ytlemnjphjmnmbaa
open Go.RowKit
set_option linter.unusedVariables false

set_option maxRecDepth 100000 in
set_option maxHeartbeats 16000000 in
theorem op_clone (p : Nat) (F : Nat → Prop) (x : Fr) (a : Option Addr) (n cp : Nat) (L : List Byt) (T : List Seg) (k y0 y1 : Int) (y2 : Bool) (w : World) (h : St w p F x a n cp L T) (hk : x.sg.count ≤ 999999) (hk0 : k ≠ 0) (hk1 : k ≠ 1) (hk2 : k ≠ 2) :
    Calls Try.prog 8 #[.pointer (some ⟨p, 0, none⟩), .agg (refC x a n cp T.length), .agg #[.int .i64 k, .int .i64 y0, .int .u8 y1, .bool y2]] w fun e w' => OpPost w F x n e w' := by
  have hcl := fun w' (y : Ext w w') => fclone_any p F x w' (h.fr.ext y)
  have hby := fun w' (y : Ext w w') => fbyte_any p F x (x.now, 1, false) w' (h.fr.ext y) (by omega) (show (0 : Int) ≤ 1 by decide) (show (1 : Int) < 256 by decide)
  have hlt := h.fr.lt
  have HSt := Lib.hid h
  obtain ⟨c, s, l, u, f, t', sg⟩ := x
  unfold OpPost
  rw [show refC ⟨c, s, l, u, f, t', sg⟩ a n cp T.length = #[.int .i64 c, .int .i64 s, .int .i64 l, .int .i64 u, .int .i64 f, .int .i64 t', .slice a n cp, .int .i64 T.length] from rfl]
  rw [show (byt ((⟨c, s, l, u, f, t', sg⟩ : Fr).now, 1, false)).toArray = #[.int .i64 t', .int .u8 1, .bool false] from rfl] at hby
  obtain ⟨told, htold⟩ : ∃ q, q = T.length := ⟨_, rfl⟩
  rw [← htold]
  have HTold := Lib.hid htold
  have HCl := Lib.hid hcl
  have HBy := Lib.hid hby
  have HLt := Lib.hid hlt
  clear hcl hby hlt h htold hk
  obtain ⟨W, hW⟩ : ∃ W, W = ((w.alloc (.cells #[.int .i64 c, .int .i64 s, .int .i64 l, .int .i64 u, .int .i64 f, .int .i64 t', .slice a n cp, .int .i64 told] 31)).alloc (.cells #[.int .i64 k, .int .i64 y0, .int .u8 y1, .bool y2] 35)).alloc (.cells #[.int .i64 0, .int .i64 0, .int .i64 0, .int .i64 0, .int .i64 0, .int .i64 0, .slice none 0 0, .int .i64 0] 31) := ⟨_, rfl⟩
  have xW : Ext w W := by rw [hW]; exact ((Ext.alloc _ _).alloc' _).alloc' _
  have gS : W.heap[w.heap.size]? = some (.cells #[.int .i64 c, .int .i64 s, .int .i64 l, .int .i64 u, .int .i64 f, .int .i64 t', .slice a n cp, .int .i64 told] 31 (0, 0)) := by rw [hW, heap_alloc_old _ _ (by simp; omega), heap_alloc_old _ _ (by simp)]; exact heap_new_at _ _ rfl
  have gR : W.heap[w.heap.size + 1 + 1]? = some (.cells refZ 31 (0, 0)) := by rw [hW]; exact heap_new_at _ _ (by simp)
  have sW : W.heap.size = w.heap.size + 3 := by rw [hW]; simp
  have HW := Lib.hid hW; have HXW := Lib.hid xW; have HGS := Lib.hid gS; have HGR := Lib.hid gR; have HSW := Lib.hid sW
  clear hW xW gS gR sW
  go_enter Try.func8, Try.ntmps8
  go_wp2_with fail
  rw [← HW.out]
  clear HW
  refine (HCl.out _ HXW.out).mono ?_; rintro e w1 ⟨q, Q, rfl, x1, r1, b1⟩
  have c5 := cell_of_heap (j := 5) (x1.block HGS.out) rfl
  have hBlt := heap_lt (x1.block HGS.out)
  clear HCl
  go_wp2_with fail
  refine (HBy.out _ (HXW.out.trans x1)).mono ?_; rintro e w2 ⟨A2, c2, G, rfl, k2, r2, g2, -⟩
  clear HBy c5 hBlt
  have hFn : ∀ i, w.heap.size ≤ i → ¬ F i := fun i hi hf => by have := HLt.out i hf; omega
  have gS2 := (k2.block _ (heap_lt (x1.block HGS.out)) (hFn _ (Nat.le_refl _))).trans (x1.block HGS.out)
  have gR2 := (k2.block _ (heap_lt (x1.block HGR.out)) (hFn _ (by omega))).trans (x1.block HGR.out)
  let S : World → Prop := fun w' => Keep (fun i => i = w.heap.size + 1 + 1) w2 w' ∧ ∃ old : Array Value, old.size = 8 ∧ w'.heap[w.heap.size + 1 + 1]? = some (.cells old 31 (0, 0))
  have hs0 : S w2.drew := ⟨.of_ext (Ext.drew _), refZ, rfl, gR2⟩
  have hsStore : ∀ w9 old, Keep (fun i => i = w.heap.size + 1 + 1) w2 w9 → w9.heap[w.heap.size + 1 + 1]? = some (.cells old 31 (0, 0)) → S (w9.setRow (w.heap.size + 1 + 1) #[.int .i64 c, .int .i64 s, .int .i64 l, .int .i64 u, .int .i64 f, .int .i64 t', .slice a n cp, .int .i64 told]) := fun w9 old k9 hr9 =>
    ⟨k9.same (Keep.row _ _ _), #[.int .i64 c, .int .i64 s, .int .i64 l, .int .i64 u, .int .i64 f, .int .i64 t', .slice a n cp, .int .i64 told], rfl, setRow_heap _ _ _ _ _ _ hr9⟩
  have hrow : ∀ w', S w' → w'.heap[w.heap.size]? = some (.cells #[.int .i64 c, .int .i64 s, .int .i64 l, .int .i64 u, .int .i64 f, .int .i64 t', .slice a n cp, .int .i64 told] 31 (0, 0)) := fun w' h => (h.1.block _ (heap_lt gS2) (by omega)).trans gS2
  have hend : ∀ w9, Keep (fun i => i = w.heap.size + 1 + 1) w2 w9 → Keep F w w9 ∧ FR w9 q Q ⟨c, s, l, u, f, t', sg⟩ ∧ Grows F Q w := by
    intro w9 k9
    have hsz := HXW.out.size
    have hx1 := x1.size
    have hsw := HSW.out
    refine ⟨(((Keep.of_ext (HXW.out.trans x1)).same k2).trans k9 (fun i hi => .inr (by omega))), (r1.keep k2 fun i hi hf => ?_).keep k9 fun i hi e => ?_, fun i hi => .inr (by have := b1 i hi; omega)⟩
    · exact hFn i (by have := b1 i hi; omega) hf
    · have := b1 i hi; omega
  have HEnd := Lib.hid hend
  clear r1 r2 g2 k2 x1 b1 gS2 gR2 hFn hend
  go_wp2_with fail
  refine wp_region_held_drew (S := S) (by kernel_rfl) hs0 (fun _ => ?_)
  refine wpAnyH_takeD (i := 0) (d := 153) (v := .pointer (some ⟨q, 0, none⟩)) rfl rfl (by kernel_rfl) (by kernel_rfl) (by kernel_rfl) (fun _ _ _ h => h) (Or.inl ⟨by rfl, fun w _ => by go_simp⟩) hs0 ?_
  simp only [Act.put, List.setIfInBounds_toArray, List.set_cons_succ, List.set_cons_zero]
  refine wpAnyH_takeD (i := 1) (d := 154) rfl rfl (by kernel_rfl) (by kernel_rfl) (by kernel_rfl) (fun _ _ _ h => h) (yieldsIf_load_row (by rfl) 31 (.tmp 4) rfl w.heap.size rfl 31 _ (0, 0) _ (fun w' hw' => hrow w' hw') Try.underlying31 rfl (by kernel_rfl)) hs0 ?_
  simp only [Act.put, List.setIfInBounds_toArray, List.set_cons_succ, List.set_cons_zero]
  refine wpAnyH_takeD (i := 2) (d := 155) (v := .pointer (some ⟨q, 0, none⟩)) rfl rfl (by kernel_rfl) (by kernel_rfl) (by kernel_rfl) (fun _ _ _ h => h) (Or.inl ⟨by rfl, fun w _ => by go_simp⟩) hs0 ?_
  simp only [Act.put, List.setIfInBounds_toArray, List.set_cons_succ, List.set_cons_zero]
  refine wpAnyH_takeD (i := 3) (d := 156) (v := .bool true) rfl rfl (by kernel_rfl) (by kernel_rfl) (by kernel_rfl) (fun _ _ _ h => h) (Or.inl ⟨by rfl, fun w _ => by go_simp⟩) hs0 ?_
  simp only [Act.put, List.setIfInBounds_toArray, List.set_cons_succ, List.set_cons_zero]
  refine wpAnyH_takeD (i := 4) (d := 6) (v := .pointer (some ⟨q, 0, none⟩)) rfl rfl (by kernel_rfl) (by kernel_rfl) (by kernel_rfl) (fun _ _ _ h => h) (Or.inl ⟨by rfl, fun w _ => by go_simp⟩) hs0 ?_
  simp only [Act.put, List.setIfInBounds_toArray, List.set_cons_succ, List.set_cons_zero]
  refine wpAnyH_ready (rs := [5]) (by kernel_rfl) (by simp) (AllReadyH.cons rfl (fun K hK => ?_) AllReadyH.nil)
  rw [if_pos (by rfl)]
  obtain ⟨hk9, old9, ho9, hr9⟩ := id hs0
  refine wp_store_row 31 (.tmp 7) (.tmp 154) rfl (w.heap.size + 1 + 1) _ rfl rfl 31 _ hr9 (by kernel_rfl) (by rw [ho9]; rfl) (by simp [Value.oneCell']) ?_
  refine hK.out _ _ (hsStore _ _ hk9 hr9) (fun hs2 => ?_)
  clear hK K
  refine wpAnyH_takeD (i := 6) (d := 8) (v := .bool true) rfl rfl (by kernel_rfl) (by kernel_rfl) (by kernel_rfl) (fun _ _ _ h => h) (Or.inl ⟨by rfl, fun w _ => by go_simp⟩) hs2 ?_
  simp only [Act.put, List.setIfInBounds_toArray]
  refine wpAnyH_done (by kernel_rfl) ?_ _
  go_wp2_with fail
  refine bodyPost_ret (results_tmp_row_tmp rfl _ _ (w.heap.size + 1 + 1) 31 _ (0, 0) _ rfl (setRow_heap _ _ _ _ _ _ hr9) Try.underlying31 rfl (by kernel_rfl)) rfl ?_
  obtain ⟨hke, hre, hge⟩ := HEnd.out _ hs2.1
  exact ⟨q, Q, ⟨c, s, l, u, f, t', sg⟩, a, n, cp, L, T, by rw [HTold.out]; rfl, hke, ⟨hre, HSt.out.ref, ⟨HSt.out.mem.holds.keepN hke HSt.out.off, HSt.out.mem.le, HSt.out.mem.max, HSt.out.mem.few, HSt.out.mem.small⟩, HSt.out.len, HSt.out.off.grows hge HSt.out.mem.holds⟩, hge, by show sg.count ≤ sg.count + 1; omega, Nat.le_succ _⟩
/-- One call, both ways: the same is told. -/
theorem op_any (p : Nat) (F : Nat → Prop) (x : Fr) (a : Option Addr) (n cp : Nat) (L : List Byt) (T : List Seg) (k y0 y1 : Int) (y2 : Bool) (w : World) (h : St w p F x a n cp L T) (hk : x.sg.count ≤ 999999) (hn2 : n ≤ 999999) (h0 : 0 ≤ y1) (h1 : y1 < 256) :
    Calls Try.prog 8 #[.pointer (some ⟨p, 0, none⟩), .agg (refC x a n cp T.length), .agg #[.int .i64 k, .int .i64 y0, .int .u8 y1, .bool y2]] w fun e w' => OpPost w F x n e w' := by
  by_cases e0 : k = 0
  · rw [e0]; exact op_byte p F x a n cp L T y0 y1 y2 w h hk hn2 h0 h1
  · by_cases e1 : k = 1
    · rw [e1]; exact op_idle p F x a n cp L T y0 y1 y2 w h
    · by_cases e2 : k = 2
      · rw [e2]
        cases he : errB x y0
        · exact op_reset_ok p F x a n cp L T y0 y1 y2 w h he
        · exact op_reset_err p F x a n cp L T y0 y1 y2 w h he
      · exact op_clone p F x a n cp L T k y0 y1 y2 w h hk e0 e1 e2
end Go.Proofs.Ytlemnjphjmnmbaa
