/-
  CONTRACTS: package ident (layer 21): Write.
-/
import Derived.Test.YthdkhdbabohohaaIdeB
namespace Go.Proofs.Ythdkhdbabohohaa
open Go.RowKit
set_option linter.unusedVariables false
set_option maxRecDepth 100000

theorem Sai.told {W0 w : World} {R : Nat} {l : List Int} {v : Value} (h : Sai W0 w R l v) : ∃ b q, v = .slice b l.length q ∧ Holds .u8 w b l.length (ofL l) ∧ l.length ≤ q ∧ q ≤ maxLen ∧ ∀ p, b = some p → W0.heap.size ≤ p.block := by
  have ho := h.own
  rw [← lst_ofL] at ho
  obtain ⟨b, q, h1, h2, h3, h4, h5⟩ := Holds.of_own_at ho
  exact ⟨b, q, h1, h4, h2, h3, h5⟩
/-- What Write tells. -/
def WriP (P : Prt) (w : World) (e : Ending) (w' : World) : Prop := ∃ b q, e = .returned (.tuple #[.slice b (wrK P) q, .int .i64 (wrE P)]) ∧ Holds .u8 w' b (wrK P) (ofL (sayP P)) ∧ wrK P ≤ q ∧ q ≤ maxLen ∧ Fresh w b ∧ Ext w w'
theorem write_no {P : Prt} {w W1 w' : World} (h : rightP P = false) (x1 : Ext w W1) (x : Ext W1 w') : WriP P w (.returned (.tuple #[.slice none 0 0, .int .i64 11])) w' := by
  have hk : wrK P = 0 := by unfold wrK; rw [h]; rfl
  have he : wrE P = 11 := by unfold wrE; rw [h]; rfl
  refine ⟨none, 0, by rw [hk, he], .inl hk, by omega, Nat.zero_le _, Fresh.nil _, x1.trans x⟩
theorem write_yes {P : Prt} {w W1 w' : World} {R F : Nat} {v : Value} (h : rightP P = true) (hF : F = P.L.length) (x1 : Ext w W1) (x : Ext W1 w') (hS : Sai W1 w' R (begL P ++ (P.L.take F).flatMap sayO) v) : WriP P w (.returned (.tuple #[v, .int .i64 0])) w' := by
  have hk : wrK P = 6 + lenO P.L := by unfold wrK; rw [h]; rfl
  have he : wrE P = 0 := by unfold wrE; rw [h]; rfl
  have hl : begL P ++ (P.L.take F).flatMap sayO = sayP P := by rw [hF, List.take_length, begL_head h]; rfl
  rw [hl] at hS
  obtain ⟨b, q, hv, h1, h2, h3, h4⟩ := hS.told
  rw [sayP_len, ← hk] at hv h1 h2
  exact ⟨b, q, by rw [hv, he], h1, h2, h3, fun p hp => Nat.le_trans x1.size (h4 p hp), x1.trans x⟩
set_option maxHeartbeats 8000000 in
theorem write_f (P : Prt) (a : Option Addr) (n c : Nat) (w : World) (h : PrtAt w P a n c) (fL : ObjF P.L) : Calls Try.prog 10 #[.agg (prC P a n c)] w (WriP P w) := by
  obtain ⟨G, hG⟩ : ∃ G, G = w.heap.size := ⟨_, rfl⟩
  obtain ⟨W1, hW1, x1, HG⟩ : ∃ W1, W1 = w.alloc (.cells (prC P a n c) 24) ∧ Ext w W1 ∧ Hid (W1.heap[G]? = some (.cells (prC P a n c) 24 (0, 0))) := ⟨_, rfl, Ext.alloc _ _, Lib.hid (by rw [hG]; exact heap_alloc_new _ _)⟩
  have HX1 := Lib.hid x1
  have HA := Lib.hid (h.ext x1)
  have HFL0 := Lib.hid fL
  have HBe := Lib.hid (begin_any P a n c W1 (h.ext x1))
  have HMB := Lib.hid (fun W (x : Ext W1 W) => may_any P a n c W ((h.ext x1).ext x))
  have HR0 : Hid (rightP P = (mayB P && decide (filN 6 P.L = P.L.length))) := Lib.hid (rightP_may P)
  have HFn := Lib.hid (filN_le 6 P.L)
  have HLn := Lib.hid h.o.len
  have HC := Lib.hid (fun W (x : Ext W1 W) => (cell_of_heap (x.block HG.out) rfl : W.cell? ⟨G, 4, none⟩ = some (.slice a n c)))
  clear h fL x1
  go_enter Try.func10, Try.ntmps10
  go_upto_region 1 with fail
  rw [← hW1, ← hG]
  clear hW1 hG
  have gR := HG.out
  go_wp2_with (refine wpList_load_row rfl 24 (.tmp 1) rfl G rfl 24 (prC P a n c) (0, 0) _ gR Try.underlying24 rfl (by kernel_rfl) ?_)
  clear gR
  refine HBe.out.mono ?_; rintro e w2 ⟨v, rfl, hown, x2⟩
  obtain ⟨b, q, rfl⟩ := own_shape hown
  obtain ⟨R, hR⟩ : ∃ R, R = w2.heap.size := ⟨_, rfl⟩
  obtain ⟨W3, hW3, x3, HG3⟩ : ∃ W3, W3 = w2.alloc (.cells #[.slice b 6 q] 57) ∧ Ext w2 W3 ∧ Hid (W3.heap[R]? = some (.cells #[.slice b 6 q] 57 (0, 0))) := ⟨_, rfl, Ext.alloc _ _, Lib.hid (by rw [hR]; exact heap_alloc_new _ _)⟩
  have HS3 : Hid (Sai W1 W3 R (begL P) (.slice b 6 q)) := Lib.hid ⟨HG3.out, own_ext hown x3, fun e => by have := (hown.lt R e).2; omega, by rw [hR]; exact x2.size⟩
  have HX3 := Lib.hid (x2.trans x3)
  clear hown x2 x3
  go_upto_region 2 with fail
  rw [← hW3, ← hR]
  clear hW3 hR
  obtain ⟨X, hX⟩ : ∃ X, X = W3.drew := ⟨_, rfl⟩
  have x3X : Ext W3 X := by rw [hX]; exact Ext.drew _
  have hs : Ext W1 X := HX3.out.trans x3X
  obtain ⟨F, hF⟩ : ∃ F, filN 6 P.L = F := ⟨_, rfl⟩
  have HFL := Lib.hid (fun W (x : Ext X W) => fill_any W1 W R _ (begL P) a n c P.L ((HS3.out.ext x3X).ext x) (hs.trans x) HA.out.o HFL0.out (by show (6 : Nat) ≤ 252; decide))
  rw [show (begL P).length = 6 from rfl, hF] at HFL
  rw [hF] at HR0 HFn
  clear hF
  unfold prC at *
  refine wp_region_held_drew (S := fun W => Ext W1 W) (by kernel_rfl) (by rw [← hX]; exact hs) (fun _ => ?_)
  rw [← hX]
  clear hX x3X
  cases hm : mayB P with
  | false =>
    rw [hm] at HMB
    have HRP : Hid (rightP P = false) := Lib.hid (by rw [HR0.out, hm]; rfl)
    -- REGION bilge/ident.Write 2 ident_write2:N
    refine wpAnyH_takeD (i := 0) (d := 7) rfl rfl (by kernel_rfl) (by kernel_rfl) (by kernel_rfl) (fun _ _ _ h => h) (yieldsIf_load_row (by rfl) 24 (.tmp 1) rfl (G) rfl 24 _ (0, 0) _ (fun w' hw' => (hw'.block HG.out)) Try.underlying24 rfl (by kernel_rfl)) hs ?_
    simp only [Act.put, List.setIfInBounds_toArray, List.set_cons_succ, List.set_cons_zero]
    refine wpAnyH_ready (rs := [1]) (by kernel_rfl) (by simp) (AllReadyH.cons rfl (fun K hK => ?_) AllReadyH.nil)
    go_simp
    go_at_call 26
    refine (HMB.out _ hs).mono ?_; rintro e w5 ⟨rfl, x5⟩
    go_wp2_with fail
    refine hK.out _ _ (hs.trans x5) (fun hs => ?_)
    clear hK K
    refine wpAnyH_takeD (i := 2) (d := 9) (v := .bool true) rfl rfl (by kernel_rfl) (by kernel_rfl) (by kernel_rfl) (fun _ _ _ h => h) (Or.inl ⟨by rfl, fun W hW => by go_simp⟩) hs ?_
    simp only [Act.put, List.setIfInBounds_toArray, List.set_cons_succ, List.set_cons_zero]
    refine wpAnyH_takeD (i := 3) (d := 10) (v := .bool true) rfl rfl (by kernel_rfl) (by kernel_rfl) (by kernel_rfl) (fun _ _ _ h => h) (Or.inl ⟨by rfl, fun W hW => by go_simp⟩) hs ?_
    simp only [Act.put, List.setIfInBounds_toArray, List.set_cons_succ, List.set_cons_zero]
    refine wpAnyH_takeD (i := 4) (d := 11) (v := undef) rfl rfl (by kernel_rfl) (by kernel_rfl) (by kernel_rfl) (fun _ _ _ h => h) (Or.inr ⟨by rfl, rfl⟩) hs ?_
    simp only [Act.put, List.setIfInBounds_toArray, List.set_cons_succ, List.set_cons_zero]
    refine wpAnyH_takeD (i := 5) (d := 12) (v := undef) rfl rfl (by kernel_rfl) (by kernel_rfl) (by kernel_rfl) (fun _ _ _ h => h) (Or.inr ⟨by rfl, rfl⟩) hs ?_
    simp only [Act.put, List.setIfInBounds_toArray, List.set_cons_succ, List.set_cons_zero]
    refine wpAnyH_takeD (i := 6) (d := 13) (v := undef) rfl rfl (by kernel_rfl) (by kernel_rfl) (by kernel_rfl) (fun _ _ _ h => h) (Or.inr ⟨by rfl, rfl⟩) hs ?_
    simp only [Act.put, List.setIfInBounds_toArray, List.set_cons_succ, List.set_cons_zero]
    refine wpAnyH_takeD (i := 7) (d := 14) (v := undef) rfl rfl (by kernel_rfl) (by kernel_rfl) (by kernel_rfl) (fun _ _ _ h => h) (Or.inr ⟨by rfl, rfl⟩) hs ?_
    simp only [Act.put, List.setIfInBounds_toArray, List.set_cons_succ, List.set_cons_zero]
    refine wpAnyH_takeD (i := 8) (d := 15) (v := undef) rfl rfl (by kernel_rfl) (by kernel_rfl) (by kernel_rfl) (fun _ _ _ h => h) (Or.inr ⟨by rfl, rfl⟩) hs ?_
    simp only [Act.put, List.setIfInBounds_toArray, List.set_cons_succ, List.set_cons_zero]
    refine wpAnyH_takeD (i := 9) (d := 16) (v := undef) rfl rfl (by kernel_rfl) (by kernel_rfl) (by kernel_rfl) (fun _ _ _ h => h) (Or.inr ⟨by rfl, rfl⟩) hs ?_
    simp only [Act.put, List.setIfInBounds_toArray, List.set_cons_succ, List.set_cons_zero]
    refine wpAnyH_takeD (i := 10) (d := 17) (v := undef) rfl rfl (by kernel_rfl) (by kernel_rfl) (by kernel_rfl) (fun _ _ _ h => h) (Or.inr ⟨by rfl, rfl⟩) hs ?_
    simp only [Act.put, List.setIfInBounds_toArray, List.set_cons_succ, List.set_cons_zero]
    refine wpAnyH_takeD (i := 11) (d := 18) (v := undef) rfl rfl (by kernel_rfl) (by kernel_rfl) (by kernel_rfl) (fun _ _ _ h => h) (Or.inr ⟨by rfl, rfl⟩) hs ?_
    simp only [Act.put, List.setIfInBounds_toArray, List.set_cons_succ, List.set_cons_zero]
    refine wpAnyH_takeD (i := 12) (d := 19) (v := .bool true) rfl rfl (by kernel_rfl) (by kernel_rfl) (by kernel_rfl) (fun _ _ _ h => h) (Or.inl ⟨by rfl, fun W hW => by go_simp⟩) hs ?_
    simp only [Act.put, List.setIfInBounds_toArray, List.set_cons_succ, List.set_cons_zero]
    refine wpAnyH_done (by kernel_rfl) ?_ _
    go_wp2_with fail
    go_ret2
    exact write_no HRP.out HX1.out hs
    -- END REGION
  | true =>
    rw [hm] at HMB
    by_cases hF : F = P.L.length
    · have HFA := Lib.hid hF
      have HRP : Hid (rightP P = true) := Lib.hid (by rw [HR0.out, hm, decide_eq_true hF]; rfl)
      have hlt : n ≤ F := by have := HLn.out; omega
      clear hF hm
      -- REGION bilge/ident.Write 2 ident_write2:Y
      refine wpAnyH_takeD (i := 0) (d := 7) rfl rfl (by kernel_rfl) (by kernel_rfl) (by kernel_rfl) (fun _ _ _ h => h) (yieldsIf_load_row (by rfl) 24 (.tmp 1) rfl (G) rfl 24 _ (0, 0) _ (fun w' hw' => (hw'.block HG.out)) Try.underlying24 rfl (by kernel_rfl)) hs ?_
      simp only [Act.put, List.setIfInBounds_toArray, List.set_cons_succ, List.set_cons_zero]
      refine wpAnyH_ready (rs := [1]) (by kernel_rfl) (by simp) (AllReadyH.cons rfl (fun K hK => ?_) AllReadyH.nil)
      go_simp
      go_at_call 26
      refine (HMB.out _ hs).mono ?_; rintro e w5 ⟨rfl, x5⟩
      go_wp2_with fail
      refine hK.out _ _ (hs.trans x5) (fun hs => ?_)
      clear hK K
      refine wpAnyH_takeD (i := 2) (d := 9) (v := .bool false) rfl rfl (by kernel_rfl) (by kernel_rfl) (by kernel_rfl) (fun _ _ _ h => h) (Or.inl ⟨by rfl, fun W hW => by go_simp⟩) hs ?_
      simp only [Act.put, List.setIfInBounds_toArray, List.set_cons_succ, List.set_cons_zero]
      refine wpAnyH_takeD (i := 3) (d := 10) (v := .bool false) rfl rfl (by kernel_rfl) (by kernel_rfl) (by kernel_rfl) (fun _ _ _ h => h) (Or.inl ⟨by rfl, fun W hW => by go_simp⟩) hs ?_
      simp only [Act.put, List.setIfInBounds_toArray, List.set_cons_succ, List.set_cons_zero]
      refine wpAnyH_takeD (i := 4) (d := 11) (v := .pointer (some ⟨G, 4, none⟩)) rfl rfl (by kernel_rfl) (by kernel_rfl) (by kernel_rfl) (fun _ _ _ h => h) (Or.inl ⟨by rfl, fun W hW => by go_simp⟩) hs ?_
      simp only [Act.put, List.setIfInBounds_toArray, List.set_cons_succ, List.set_cons_zero]
      refine wpAnyH_takeD (i := 5) (d := 12) (v := .slice a n c) rfl rfl (by kernel_rfl) (by kernel_rfl) (by kernel_rfl) (fun _ _ _ h => h) (Or.inl ⟨by rfl, fun W hW => by have k4 := HC.out W hW; go_simp⟩) hs ?_
      simp only [Act.put, List.setIfInBounds_toArray, List.set_cons_succ, List.set_cons_zero]
      refine wpAnyH_takeD (i := 6) (d := 13) (v := .func (Fn.func 28) #[.pointer (some ⟨R, 0, none⟩)] #[]) rfl rfl (by kernel_rfl) (by kernel_rfl) (by kernel_rfl) (fun _ _ _ h => h) (Or.inl ⟨by rfl, fun W hW => by go_simp⟩) hs ?_
      simp only [Act.put, List.setIfInBounds_toArray, List.set_cons_succ, List.set_cons_zero]
      refine wpAnyH_takeD (i := 8) (d := 15) (v := .pointer (some ⟨G, 4, none⟩)) rfl rfl (by kernel_rfl) (by kernel_rfl) (by kernel_rfl) (fun _ _ _ h => h) (Or.inl ⟨by rfl, fun W hW => by go_simp⟩) hs ?_
      simp only [Act.put, List.setIfInBounds_toArray, List.set_cons_succ, List.set_cons_zero]
      refine wpAnyH_takeD (i := 9) (d := 16) (v := .slice a n c) rfl rfl (by kernel_rfl) (by kernel_rfl) (by kernel_rfl) (fun _ _ _ h => h) (Or.inl ⟨by rfl, fun W hW => by have k4 := HC.out W hW; go_simp⟩) hs ?_
      simp only [Act.put, List.setIfInBounds_toArray, List.set_cons_succ, List.set_cons_zero]
      refine wpAnyH_takeD (i := 10) (d := 17) (v := .int .i64 n) rfl rfl (by kernel_rfl) (by kernel_rfl) (by kernel_rfl) (fun _ _ _ h => h) (Or.inl ⟨by rfl, fun W hW => by go_simp⟩) hs ?_
      simp only [Act.put, List.setIfInBounds_toArray, List.set_cons_succ, List.set_cons_zero]
      refine wpAnyH_ready (rs := [7]) (by kernel_rfl) (by simp) (AllReadyH.cons rfl (fun K hK => ?_) AllReadyH.nil)
      go_simp
      go_at_call 27
      refine (HFL.out _ x5).mono ?_; rintro e w6 ⟨rfl, ⟨v6, h6⟩, x6⟩
      go_wp2_with fail
      refine hK.out _ _ x6 (fun hs => ?_)
      clear hK K
      refine wpAnyH_takeD (i := 11) (d := 18) (v := .bool false) rfl rfl (by kernel_rfl) (by kernel_rfl) (by kernel_rfl) (fun _ _ _ h => h) (Or.inl ⟨by rfl, fun W hW => by go_simp⟩) hs ?_
      simp only [Act.put, List.setIfInBounds_toArray, List.set_cons_succ, List.set_cons_zero]
      refine wpAnyH_takeD (i := 12) (d := 19) (v := .bool false) rfl rfl (by kernel_rfl) (by kernel_rfl) (by kernel_rfl) (fun _ _ _ h => h) (Or.inl ⟨by rfl, fun W hW => by go_simp⟩) hs ?_
      simp only [Act.put, List.setIfInBounds_toArray, List.set_cons_succ, List.set_cons_zero]
      refine wpAnyH_done (by kernel_rfl) ?_ _
      have H6 := Lib.hid h6
      have cR := cell_of_heap (j := 0) H6.out.at_ rfl
      have HX6 := Lib.hid hs
      clear h6 x6 hs
      go_wp2_with fail
      go_ret2
      exact write_yes HRP.out HFA.out HX1.out HX6.out H6.out
      -- END REGION
    · have HRP : Hid (rightP P = false) := Lib.hid (by rw [HR0.out, hm, decide_eq_false hF]; rfl)
      have hlt : (F : Int) < n := by have := HLn.out; have := HFn.out; omega
      clear hF hm
      -- REGION bilge/ident.Write 2 ident_write2:F
      refine wpAnyH_takeD (i := 0) (d := 7) rfl rfl (by kernel_rfl) (by kernel_rfl) (by kernel_rfl) (fun _ _ _ h => h) (yieldsIf_load_row (by rfl) 24 (.tmp 1) rfl (G) rfl 24 _ (0, 0) _ (fun w' hw' => (hw'.block HG.out)) Try.underlying24 rfl (by kernel_rfl)) hs ?_
      simp only [Act.put, List.setIfInBounds_toArray, List.set_cons_succ, List.set_cons_zero]
      refine wpAnyH_ready (rs := [1]) (by kernel_rfl) (by simp) (AllReadyH.cons rfl (fun K hK => ?_) AllReadyH.nil)
      go_simp
      go_at_call 26
      refine (HMB.out _ hs).mono ?_; rintro e w5 ⟨rfl, x5⟩
      go_wp2_with fail
      refine hK.out _ _ (hs.trans x5) (fun hs => ?_)
      clear hK K
      refine wpAnyH_takeD (i := 2) (d := 9) (v := .bool false) rfl rfl (by kernel_rfl) (by kernel_rfl) (by kernel_rfl) (fun _ _ _ h => h) (Or.inl ⟨by rfl, fun W hW => by go_simp⟩) hs ?_
      simp only [Act.put, List.setIfInBounds_toArray, List.set_cons_succ, List.set_cons_zero]
      refine wpAnyH_takeD (i := 3) (d := 10) (v := .bool false) rfl rfl (by kernel_rfl) (by kernel_rfl) (by kernel_rfl) (fun _ _ _ h => h) (Or.inl ⟨by rfl, fun W hW => by go_simp⟩) hs ?_
      simp only [Act.put, List.setIfInBounds_toArray, List.set_cons_succ, List.set_cons_zero]
      refine wpAnyH_takeD (i := 4) (d := 11) (v := .pointer (some ⟨G, 4, none⟩)) rfl rfl (by kernel_rfl) (by kernel_rfl) (by kernel_rfl) (fun _ _ _ h => h) (Or.inl ⟨by rfl, fun W hW => by go_simp⟩) hs ?_
      simp only [Act.put, List.setIfInBounds_toArray, List.set_cons_succ, List.set_cons_zero]
      refine wpAnyH_takeD (i := 5) (d := 12) (v := .slice a n c) rfl rfl (by kernel_rfl) (by kernel_rfl) (by kernel_rfl) (fun _ _ _ h => h) (Or.inl ⟨by rfl, fun W hW => by have k4 := HC.out W hW; go_simp⟩) hs ?_
      simp only [Act.put, List.setIfInBounds_toArray, List.set_cons_succ, List.set_cons_zero]
      refine wpAnyH_takeD (i := 6) (d := 13) (v := .func (Fn.func 28) #[.pointer (some ⟨R, 0, none⟩)] #[]) rfl rfl (by kernel_rfl) (by kernel_rfl) (by kernel_rfl) (fun _ _ _ h => h) (Or.inl ⟨by rfl, fun W hW => by go_simp⟩) hs ?_
      simp only [Act.put, List.setIfInBounds_toArray, List.set_cons_succ, List.set_cons_zero]
      refine wpAnyH_takeD (i := 8) (d := 15) (v := .pointer (some ⟨G, 4, none⟩)) rfl rfl (by kernel_rfl) (by kernel_rfl) (by kernel_rfl) (fun _ _ _ h => h) (Or.inl ⟨by rfl, fun W hW => by go_simp⟩) hs ?_
      simp only [Act.put, List.setIfInBounds_toArray, List.set_cons_succ, List.set_cons_zero]
      refine wpAnyH_takeD (i := 9) (d := 16) (v := .slice a n c) rfl rfl (by kernel_rfl) (by kernel_rfl) (by kernel_rfl) (fun _ _ _ h => h) (Or.inl ⟨by rfl, fun W hW => by have k4 := HC.out W hW; go_simp⟩) hs ?_
      simp only [Act.put, List.setIfInBounds_toArray, List.set_cons_succ, List.set_cons_zero]
      refine wpAnyH_takeD (i := 10) (d := 17) (v := .int .i64 n) rfl rfl (by kernel_rfl) (by kernel_rfl) (by kernel_rfl) (fun _ _ _ h => h) (Or.inl ⟨by rfl, fun W hW => by go_simp⟩) hs ?_
      simp only [Act.put, List.setIfInBounds_toArray, List.set_cons_succ, List.set_cons_zero]
      refine wpAnyH_ready (rs := [7]) (by kernel_rfl) (by simp) (AllReadyH.cons rfl (fun K hK => ?_) AllReadyH.nil)
      go_simp
      go_at_call 27
      refine (HFL.out _ x5).mono ?_; rintro e w6 ⟨rfl, ⟨v6, h6⟩, x6⟩
      go_wp2_with fail
      refine hK.out _ _ x6 (fun hs => ?_)
      clear hK K
      refine wpAnyH_takeD (i := 11) (d := 18) (v := .bool true) rfl rfl (by kernel_rfl) (by kernel_rfl) (by kernel_rfl) (fun _ _ _ h => h) (Or.inl ⟨by rfl, fun W hW => by go_simp⟩) hs ?_
      simp only [Act.put, List.setIfInBounds_toArray, List.set_cons_succ, List.set_cons_zero]
      refine wpAnyH_takeD (i := 12) (d := 19) (v := .bool true) rfl rfl (by kernel_rfl) (by kernel_rfl) (by kernel_rfl) (fun _ _ _ h => h) (Or.inl ⟨by rfl, fun W hW => by go_simp⟩) hs ?_
      simp only [Act.put, List.setIfInBounds_toArray, List.set_cons_succ, List.set_cons_zero]
      refine wpAnyH_done (by kernel_rfl) ?_ _
      go_wp2_with fail
      go_ret2
      exact write_no HRP.out HX1.out hs
      -- END REGION
end Go.Proofs.Ythdkhdbabohohaa
