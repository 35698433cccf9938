/-
  CONTRACTS: package tell (layer 16): guess, Parse.
-/
import Derived.Test.YtejiafihiielgaaTellE
import Derived.Test.YtejiafihiielgaaAskV
namespace Go.Proofs.Ytejiafihiielgaa
open Go.RowKit
set_option linter.unusedVariables false
set_option maxRecDepth 100000

/-- What bytes are taken to tell. -/
def gu2 (Q : Qst) (n : Nat) (f : Nat → Int) : Tel := if n = 2 then { zeroT with k := Q.k, cd := f 1 } else tgue Q n f
def GueP (Q : Qst) (n : Nat) (f : Nat → Int) (w : World) (e : Ending) (w' : World) : Prop := ∃ X, e = .returned (.agg (telC X (gu2 Q n f))) ∧ TelAt w' X (gu2 Q n f) ∧ Ext w w'
theorem keepG (w : World) (G o : Nat) (v : Value) : Keep (fun i => i = G) w (w.setCell ⟨G, o, none⟩ v) := ⟨rfl, rfl, rfl, by simp [World.setCell], fun k _ hn => heap_setCell_other _ _ _ _ hn⟩
theorem holds_far {α : Type} {mk : α → Value} {w : World} {x : Option Addr} {m : Nat} {B : Nat → α} (h : HoldsG mk w x m B) (G o : Nat) (v u : Value) (hG : w.cell? ⟨G, o, none⟩ = some u) (hmk : ∀ y, mk y ≠ u) (hu : ∀ j, ∀ y, w.cell? ⟨G, j, none⟩ = some (mk y) → False) : HoldsG mk (w.setCell ⟨G, o, none⟩ v) x m B := by
  by_cases hm : m = 0
  · exact .inl hm
  · obtain ⟨b, off, ha, hlt, hc⟩ := h.resolve_left hm
    have hb : b ≠ G := by rintro rfl; exact hu _ _ (hc 0 (by omega))
    exact .inr ⟨b, off, ha, by simpa [World.setCell] using hlt, fun i hi => (cell_far hb _ _ _ _).trans (hc i hi)⟩
/-- A tell's box holds no bool and no word. -/
theorem box_no {w : World} {G : Nat} {X : QstV} {T : Tel} {t : TypeId} (g : w.heap[G]? = some (.cells (telC X T) t (0, 0))) : (∀ j y, w.cell? ⟨G, j, none⟩ = some (.bool y) → False) ∧ (∀ j y, w.cell? ⟨G, j, none⟩ = some (.int .u16 y) → False) := by
  constructor
  · intro j y h
    rw [cell_of_row _ _ _ _ _ _ g] at h
    have := Array.mem_of_getElem? h
    simp [telC] at this
  · intro j y h
    rw [cell_of_row _ _ _ _ _ _ g] at h
    have := Array.mem_of_getElem? h
    simp [telC] at this
theorem holds_box {w : World} {G o : Nat} {X : QstV} {T : Tel} {t : TypeId} (g : w.heap[G]? = some (.cells (telC X T) t (0, 0))) (v : Value) : (∀ {x : Option Addr} {m : Nat} {B : Nat → Bool}, HoldsG Value.bool w x m B → HoldsG Value.bool (w.setCell ⟨G, o, none⟩ v) x m B) ∧ (∀ {x : Option Addr} {m : Nat} {B : Nat → Int}, HoldsG (Value.int .u16) w x m B → HoldsG (Value.int .u16) (w.setCell ⟨G, o, none⟩ v) x m B) := by
  obtain ⟨h1, h2⟩ := box_no g
  constructor
  · intro x m B h
    by_cases hm : m = 0
    · exact .inl hm
    · obtain ⟨b, off, ha, hlt, hc⟩ := h.resolve_left hm
      have hb : b ≠ G := by rintro rfl; exact h1 _ _ (hc 0 (by omega))
      exact .inr ⟨b, off, ha, by simpa [World.setCell] using hlt, fun i hi => (cell_far hb _ _ _ _).trans (hc i hi)⟩
  · intro x m B h
    by_cases hm : m = 0
    · exact .inl hm
    · obtain ⟨b, off, ha, hlt, hc⟩ := h.resolve_left hm
      have hb : b ≠ G := by rintro rfl; exact h2 _ _ (hc 0 (by omega))
      exact .inr ⟨b, off, ha, by simpa [World.setCell] using hlt, fun i hi => (cell_far hb _ _ _ _).trans (hc i hi)⟩
set_option maxHeartbeats 2000000 in
theorem guess_short (V : QstV) (Q : Qst) (a : Option Addr) (n c : Nat) (f : Nat → Int) (w : World) (hr : rightQ Q = true) (ha : Holds .u8 w a n f) (hn : n ≤ 100000) (hnc : n ≤ c) (hcm : c ≤ maxLen) (hf : ∀ i, i < n → 0 ≤ f i ∧ f i < 256) (h2 : n < 2) : Calls Try.prog 35 #[.agg (qstC V Q), .slice a n c] w (GueP Q n f w) := by
  have hb1 : decide ((n : Int) < 2) = true := decide_eq_true (by omega)
  have HT : Hid (gu2 Q n f = zeroT) := Lib.hid (by unfold gu2 tgue; rw [if_neg (by omega), if_neg (by omega), if_neg (by omega)])
  clear ha hf hnc hn hcm hr
  go_enter Try.func35, Try.ntmps35
  go_wp2
  refine bodyPost_ret (results_cell_row rfl _ _ (w.heap.size + 1) 28 _ (0, 0) _ rfl (heap_new_at _ _ (by simp)) Try.underlying28 rfl (by kernel_rfl)) rfl ?_
  refine ⟨zeroQV, ?_, ?_, (Ext.alloc w _).trans (Ext.alloc _ _)⟩
  · rw [HT.out]; rfl
  · rw [HT.out]; exact telnone_at _ rfl rfl
set_option maxHeartbeats 4000000 in
theorem guess_two (V : QstV) (Q : Qst) (a : Option Addr) (n c : Nat) (f : Nat → Int) (w : World) (hr : rightQ Q = true) (ha : Holds .u8 w a n f) (hn : n ≤ 100000) (hnc : n ≤ c) (hcm : c ≤ maxLen) (hf : ∀ i, i < n → 0 ≤ f i ∧ f i < 256) (h2 : n = 2) : Calls Try.prog 35 #[.agg (qstC V Q), .slice a n c] w (GueP Q n f w) := by
  subst h2
  have HT : Hid (gu2 Q 2 f = { zeroT with k := Q.k, cd := f 1 }) := Lib.hid (by unfold gu2; rw [if_pos rfl])
  obtain ⟨W2, hW2, e0, HX⟩ : ∃ W2, W2 = (w.alloc (.cells (qstC V Q) 25)).alloc (.cells #[.int .i64 0, .int .i64 0, .int .i64 0, .int .i64 0, .int .i64 0, .int .i64 0, .int .i64 0, .slice none 0 0, .slice none 0 0] 28) ∧ Ext w W2 ∧ Hid (∀ W, Ext W2 W → W.heap[w.heap.size]? = some (.cells (qstC V Q) 25 (0, 0)) ∧ W.heap[w.heap.size + 1]? = some (.cells #[.int .i64 0, .int .i64 0, .int .i64 0, .int .i64 0, .int .i64 0, .int .i64 0, .int .i64 0, .slice none 0 0, .slice none 0 0] 28 (0, 0))) :=
    ⟨_, rfl, (Ext.alloc w _).trans (Ext.alloc _ _), Lib.hid fun W x => ⟨x.block ((heap_alloc_old _ _ (by simp)).trans (heap_alloc_new w _)), x.block (heap_new_at _ _ (by simp))⟩⟩
  obtain ⟨b, off, rfl, hlt, hc⟩ := ha.resolve_left (by omega)
  have hbd := hf 1 (by omega)
  have hw1 : IntKind.i64.wrap (f 1) = f 1 := IntWalk.i64_in _ (by omega)
  have cp : W2.cell? ⟨b, off + 1, none⟩ = some (.int .u8 (f 1)) := e0.cell hlt (hc 1 (by omega))
  have ck : W2.cell? ⟨w.heap.size, 0, none⟩ = some (.int .i64 Q.k) := cell_of_heap (HX.out _ (Ext.refl _)).1 rfl
  have hz2 : W2.heap.size = w.heap.size + 2 := by rw [hW2]; simp
  clear ha hf hn hnc hcm hc hbd
  go_enter Try.func35, Try.ntmps35
  go_upto_region 1 with fail
  rw [← hW2]
  clear hW2
  go_wp2_with fail
  obtain ⟨X, hX⟩ : ∃ X, X = W2.drew := ⟨_, rfl⟩
  have x5 : Ext W2 X := by rw [hX]; exact Ext.drew _
  have gX := (HX.out _ x5).2
  have hbG : b ≠ w.heap.size + 1 := by omega
  have HC5 := Lib.hid (fun W (x : Keep (fun i => i = w.heap.size + 1) X W) => And.intro (x.cell (show ¬ w.heap.size = w.heap.size + 1 by omega) (Ext.cell x5 (World.block_lt_of_cell? _ _ ck) ck)) (x.cell hbG (Ext.cell x5 (World.block_lt_of_cell? _ _ cp) cp)))
  have hs : Keep (fun i => i = w.heap.size + 1) X X := Keep.refl _ _
  refine wp_region_held_drew (S := fun W => Keep (fun i => i = w.heap.size + 1) X W) (by kernel_rfl) (by rw [← hX]; exact hs) (fun _ => ?_)
  rw [← hX]
  clear hX cp ck
  refine wpAnyH_takeD (i := 0) (d := 15) (v := .pointer (some ⟨w.heap.size, 0, none⟩)) rfl rfl (by kernel_rfl) (by kernel_rfl) (by kernel_rfl) (fun _ _ _ h => h) (Or.inl ⟨by rfl, fun W hW => by go_simp⟩) hs ?_
  simp only [Act.put, List.setIfInBounds_toArray, List.set_cons_succ, List.set_cons_zero]
  refine wpAnyH_takeD (i := 1) (d := 16) (v := .int .i64 Q.k) rfl rfl (by kernel_rfl) (by kernel_rfl) (by kernel_rfl) (fun _ _ _ h => h) (Or.inl ⟨by rfl, fun W hW => by obtain ⟨c0, c1⟩ := HC5.out W hW; go_simp⟩) hs ?_
  simp only [Act.put, List.setIfInBounds_toArray, List.set_cons_succ, List.set_cons_zero]
  refine wpAnyH_takeD (i := 2) (d := 17) (v := .slice (some ⟨b, off, none⟩) 2 c) rfl rfl (by kernel_rfl) (by kernel_rfl) (by kernel_rfl) (fun _ _ _ h => h) (Or.inl ⟨by rfl, fun W hW => by go_simp⟩) hs ?_
  simp only [Act.put, List.setIfInBounds_toArray, List.set_cons_succ, List.set_cons_zero]
  refine wpAnyH_takeD (i := 3) (d := 18) (v := .pointer (some ⟨b, off + 1, none⟩)) rfl rfl (by kernel_rfl) (by kernel_rfl) (by kernel_rfl) (fun _ _ _ h => h) (Or.inl ⟨by rfl, fun W hW => by obtain ⟨c0, c1⟩ := HC5.out W hW; go_simp⟩) hs ?_
  simp only [Act.put, List.setIfInBounds_toArray, List.set_cons_succ, List.set_cons_zero]
  refine wpAnyH_takeD (i := 4) (d := 19) (v := .int .u8 (f 1)) rfl rfl (by kernel_rfl) (by kernel_rfl) (by kernel_rfl) (fun _ _ _ h => h) (Or.inl ⟨by rfl, fun W hW => by obtain ⟨c0, c1⟩ := HC5.out W hW; go_simp⟩) hs ?_
  simp only [Act.put, List.setIfInBounds_toArray, List.set_cons_succ, List.set_cons_zero]
  refine wpAnyH_takeD (i := 5) (d := 20) (v := .int .i64 (f 1)) rfl rfl (by kernel_rfl) (by kernel_rfl) (by kernel_rfl) (fun _ _ _ h => h) (Or.inl ⟨by rfl, fun W hW => by go_simp⟩) hs ?_
  simp only [Act.put, List.setIfInBounds_toArray, List.set_cons_succ, List.set_cons_zero]
  refine wpAnyH_takeD (i := 6) (d := 21) (v := .agg #[.int .i64 Q.k, .int .i64 (f 1), .int .i64 0, .int .i64 0, .int .i64 0, .int .i64 0, .int .i64 0, .slice none 0 0, .slice none 0 0]) rfl rfl (by kernel_rfl) (by kernel_rfl) (by kernel_rfl) (fun _ _ _ h => h) (Or.inl ⟨by rfl, fun W hW => by go_simp⟩) hs ?_
  simp only [Act.put, List.setIfInBounds_toArray, List.set_cons_succ, List.set_cons_zero]
  refine wpAnyH_ready (rs := [7]) (by kernel_rfl) (by simp) (AllReadyH.cons rfl (fun K hK => ?_) AllReadyH.nil)
  refine step_store_row rfl 28 (.tmp 4) (.tmp 21) rfl (w.heap.size + 1) _ rfl rfl 28 _ gX (by kernel_rfl) rfl (by simp [Value.oneCell']) rfl ?_
  refine hK.out _ _ ⟨rfl, rfl, rfl, by simp, fun k _ hn => setRow_other X _ k _ hn⟩ (fun hs => ?_)
  clear hK K
  simp only [Act.put]
  refine wpAnyH_done (by kernel_rfl) ?_ _
  go_wp2_with fail
  refine bodyPost_ret (results_cell_row rfl _ _ (w.heap.size + 1) 28 _ (0, 0) _ rfl (setRow_heap _ _ _ _ _ _ gX) Try.underlying28 rfl (by kernel_rfl)) rfl ?_
  refine ⟨zeroQV, ?_, ?_, below_setRow (e0.trans x5) (by omega) _⟩
  · rw [HT.out]; rfl
  · rw [HT.out]; exact telnone_at _ rfl rfl
set_option maxHeartbeats 4000000 in
theorem guess_bits (V : QstV) (Q : Qst) (a : Option Addr) (n c : Nat) (f : Nat → Int) (w : World) (hr : rightQ Q = true) (ha : Holds .u8 w a n f) (hn : n ≤ 100000) (hnc : n ≤ c) (hcm : c ≤ maxLen) (hf : ∀ i, i < n → 0 ≤ f i ∧ f i < 256) (h2 : 2 < n) (hk : Q.k = 1 ∨ Q.k = 2) : Calls Try.prog 35 #[.agg (qstC V Q), .slice a n c] w (GueP Q n f w) := by
  have hct : 1 ≤ Q.ct ∧ Q.ct ≤ 2000 := by
    obtain ⟨-, -, -, hfi⟩ := (rightQ_iff Q).1 hr
    unfold fitsB at hfi; rw [if_pos hk, inB_iff] at hfi; exact hfi
  obtain ⟨N1, N2⟩ := whole_nb Q Q.ct.toNat (fun _ => false) (if Q.k = 23 then Q.mn.toNat else Q.ct.toNat) (fun _ => 0)
  rw [if_pos hk] at N1 N2
  obtain ⟨NB, hNB⟩ : ∃ NB, (replT Q).nb = NB := ⟨_, rfl⟩
  have hNc : (NB : Int) = Q.ct := by rw [← hNB]; unfold replT; rw [N1]; omega
  have hN0 : (replT Q).nr = 0 := by unfold replT; rw [N2]
  have hNI : (0 : Int) < NB := by omega
  have HT : Hid (gu2 Q n f = { zeroT with k := Q.k, nb := unN (n - 2) (NB : Nat), B := unF (fun i => f (2 + i)) }) := Lib.hid (by
    unfold gu2 tgue; rw [if_neg (by omega), if_neg (by omega), if_pos h2, hNc]; unfold wholeT; rw [if_pos hk])
  have HTR : Hid (∀ X : QstV, telC X (replT Q) = telC X { zeroT with k := Q.k, nb := NB }) := Lib.hid (fun X => by rw [← hNB]; unfold replT wholeT; rw [if_pos hk]; rfl)
  have h2I : (2 : Int) < n := by omega
  have h2n : (2 : Int) ≤ n := by omega
  have h2c : ¬ c = 2 := by omega
  have hb1 : decide ((n : Int) < 2) = false := decide_eq_false (by omega)
  have hb2 : ((n : Int) == 2) = false := by simp; omega
  obtain ⟨W2, hW2, e0, HX⟩ : ∃ W2, W2 = (w.alloc (.cells (qstC V Q) 25)).alloc (.cells #[.int .i64 0, .int .i64 0, .int .i64 0, .int .i64 0, .int .i64 0, .int .i64 0, .int .i64 0, .slice none 0 0, .slice none 0 0] 28) ∧ Ext w W2 ∧ Hid (∀ W, Ext W2 W → W.heap[w.heap.size]? = some (.cells (qstC V Q) 25 (0, 0)) ∧ W.heap[w.heap.size + 1]? = some (.cells #[.int .i64 0, .int .i64 0, .int .i64 0, .int .i64 0, .int .i64 0, .int .i64 0, .int .i64 0, .slice none 0 0, .slice none 0 0] 28 (0, 0))) :=
    ⟨_, rfl, (Ext.alloc w _).trans (Ext.alloc _ _), Lib.hid fun W x => ⟨x.block ((heap_alloc_old _ _ (by simp)).trans (heap_alloc_new w _)), x.block (heap_new_at _ _ (by simp))⟩⟩
  have hz2 : W2.heap.size = w.heap.size + 2 := by rw [hW2]; simp
  obtain ⟨r0, -⟩ := HX.out W2 (Ext.refl _)
  have KY := Lib.hid (fun W => reply_any V Q W hr)
  have hfd := fun w X b n q => told_field w X (replT Q) b n q
  obtain ⟨b, off, ea, hlt, hcl⟩ := ha.resolve_left (by omega)
  subst ea
  have HA := Lib.hid (fun W (x : Ext w W) => HoldsG.drop (mk := Value.int .u8) (ha.ext x) (k := 2))
  have hfd2 : ∀ i, i < n - 2 → 0 ≤ f (2 + i) ∧ f (2 + i) < 256 := fun i hi => hf _ (by omega)
  have hNle : NB ≤ 2000 := by omega
  clear ha hf hr hcl N1 N2 hct hNc
  go_enter Try.func35, Try.ntmps35
  go_upto_region 1 with fail
  rw [← hW2]
  clear hW2
  go_upto_region 6 with (first
    | (refine wpList_load_row rfl 25 (.tmp 2) rfl w.heap.size rfl 25 _ (0, 0) _ r0 Try.underlying25 rfl (by kernel_rfl) ?_)
    | (go_at_call 24; refine (KY.out _).mono ?_; rintro e w5 ⟨⟨X, b5, q5, rfl, ht5, -⟩, x5⟩)
    | (refine wpList_store_row rfl 28 (.tmp 5) (.tmp 24) rfl w5.heap.size _ rfl rfl 28 _ (heap_alloc_new w5 _) (by kernel_rfl) rfl (by simp [telC, Value.oneCell']) ?_))
  obtain ⟨W6, hW6, x6, g6⟩ : ∃ W6, W6 = (w5.alloc (.cells #[.int .i64 0, .int .i64 0, .int .i64 0, .int .i64 0, .int .i64 0, .int .i64 0, .int .i64 0, .slice none 0 0, .slice none 0 0] 28)).setRow w5.heap.size (telC X (replT Q)) ∧ Ext w5 W6 ∧ W6.heap[w5.heap.size]? = some (.cells (telC X (replT Q)) 28 (0, 0)) := ⟨_, rfl, (told_row _ _ _ _).1, (told_row _ _ _ _).2⟩
  rw [← hW6]
  clear hW6
  have hGs : w.heap.size + 2 ≤ w5.heap.size := by have := x5.size; omega
  have xR := x5.trans x6
  have xA := e0.trans xR
  have ht6 := ht5.ext x6
  generalize w5.heap.size = G at g6 hGs ⊢
  clear x5 x6 ht5 KY r0 hfd
  have c7 : W6.cell? ⟨G, 7, none⟩ = some (.slice X.a1 NB X.d1) := by rw [← hNB]; exact cell_of_heap g6 rfl
  have HG6 := Lib.hid g6
  go_upto_region 7 with fail
  have hs6 : Ext W6 W6.drew := Ext.drew _
  have hs : Keep (fun i => i = G) W6 W6.drew := Keep.of_ext hs6
  have KU := Lib.hid (unpack_x (some ⟨b, off + 2, none⟩) (n - 2) (c - 2) (fun i => f (2 + i)) (NB : Nat) W6.drew (HA.out _ (xA.trans hs6)) (by omega) hfd2 (by omega))
  refine wp_region_held_drew (S := fun W => Keep (fun i => i = G) W6 W) (by kernel_rfl) hs (fun _ => ?_)
  have c7' : W6.drew.cell? ⟨G, 7, none⟩ = some (.slice X.a1 NB X.d1) := c7
  refine wpAnyH_takeD (i := 0) (d := 30) (v := .slice (some ⟨b, off, none⟩) n c) rfl rfl (by kernel_rfl) (by kernel_rfl) (by kernel_rfl) (fun _ _ _ h => h) (Or.inl ⟨by rfl, fun W hW => by go_simp⟩) hs ?_
  simp only [Act.put, List.setIfInBounds_toArray, List.set_cons_succ, List.set_cons_zero]
  refine wpAnyH_takeD (i := 1) (d := 31) (v := .slice (some ⟨b, off + 2, none⟩) (n - 2) (c - 2)) rfl rfl (by kernel_rfl) (by kernel_rfl) (by kernel_rfl) (fun _ _ _ h => h) (Or.inl ⟨by rfl, fun W hW => by go_simp⟩) hs ?_
  simp only [Act.put, List.setIfInBounds_toArray, List.set_cons_succ, List.set_cons_zero]
  refine wpAnyH_takeD (i := 2) (d := 32) (v := .pointer (some ⟨G, 7, none⟩)) rfl rfl (by kernel_rfl) (by kernel_rfl) (by kernel_rfl) (fun _ _ _ h => h) (Or.inl ⟨by rfl, fun W hW => by go_simp⟩) hs ?_
  simp only [Act.put, List.setIfInBounds_toArray, List.set_cons_succ, List.set_cons_zero]
  refine wpAnyH_ready (rs := [3]) (by kernel_rfl) (by simp) (AllReadyH.cons rfl (fun K hK => ?_) AllReadyH.nil)
  go_simp
  refine hK.out _ _ hs (fun hs => ?_)
  clear hK K
  refine wpAnyH_takeD (i := 4) (d := 34) (v := .int .i64 (NB : Nat)) rfl rfl (by kernel_rfl) (by kernel_rfl) (by kernel_rfl) (fun _ _ _ h => h) (Or.inl ⟨by rfl, fun W hW => by go_simp⟩) hs ?_
  simp only [Act.put, List.setIfInBounds_toArray, List.set_cons_succ, List.set_cons_zero]
  refine wpAnyH_ready (rs := [5]) (by kernel_rfl) (by simp) (AllReadyH.cons rfl (fun K hK => ?_) AllReadyH.nil)
  go_simp
  go_at_call 51
  refine KU.out.mono ?_; rintro e Wc ⟨x1, d1, rfl, l1, m1, hu, y⟩
  go_wp2_with fail
  have yc := hs6.trans y
  have gc := yc.block g6
  have pc : Wc.cell? ⟨G, 7, none⟩ = some (.slice X.a1 NB X.d1) := yc.cell (heap_lt g6) c7
  have qc : Wc.frozen? ⟨G, 7, none⟩ = false := frozenT gc
  refine hK.out _ _ (Keep.of_ext yc) (fun hs => ?_)
  clear hK K y
  refine wpAnyH_takeD (i := 6) (d := 29) (v := .tuple #[.slice x1 (unN (n - 2) (NB : Nat)) d1, .int .i64 (unE (n - 2) (NB : Nat))]) rfl rfl (by kernel_rfl) (by kernel_rfl) (by kernel_rfl) (fun _ _ _ h => h) (Or.inl ⟨by rfl, fun W hW => by go_simp⟩) hs ?_
  simp only [Act.put, List.setIfInBounds_toArray, List.set_cons_succ, List.set_cons_zero]
  refine wpAnyH_takeD (i := 7) (d := 36) (v := .slice x1 (unN (n - 2) (NB : Nat)) d1) rfl rfl (by kernel_rfl) (by kernel_rfl) (by kernel_rfl) (fun _ _ _ h => h) (Or.inl ⟨by rfl, fun W hW => by go_simp⟩) hs ?_
  simp only [Act.put, List.setIfInBounds_toArray, List.set_cons_succ, List.set_cons_zero]
  refine wpAnyH_takeD (i := 8) (d := 37) (v := .int .i64 (unE (n - 2) (NB : Nat))) rfl rfl (by kernel_rfl) (by kernel_rfl) (by kernel_rfl) (fun _ _ _ h => h) (Or.inl ⟨by rfl, fun W hW => by go_simp⟩) hs ?_
  simp only [Act.put, List.setIfInBounds_toArray, List.set_cons_succ, List.set_cons_zero]
  refine wpAnyH_takeD (i := 9) (d := 38) (v := .pointer (some ⟨G, 7, none⟩)) rfl rfl (by kernel_rfl) (by kernel_rfl) (by kernel_rfl) (fun _ _ _ h => h) (Or.inl ⟨by rfl, fun W hW => by go_simp⟩) hs ?_
  simp only [Act.put, List.setIfInBounds_toArray, List.set_cons_succ, List.set_cons_zero]
  refine wpAnyH_ready (rs := [10]) (by kernel_rfl) (by simp) (AllReadyH.cons rfl (fun K hK => ?_) AllReadyH.nil)
  go_simp
  refine hK.out _ _ (hs.trans (keepG Wc G 7 _) (fun i hi => .inl hi)) (fun hs => ?_)
  clear hK K
  refine wpAnyH_done (by kernel_rfl) ?_ _
  obtain ⟨Wd, hWd⟩ : ∃ Wd, Wd = Wc.setCell ⟨G, 7, none⟩ (.slice x1 (unN (n - 2) (NB : Nat)) d1) := ⟨_, rfl⟩
  have gd : Wd.heap[G]? = some (.cells (telC ⟨x1, d1, X.a2, X.d2⟩ { zeroT with k := Q.k, nb := unN (n - 2) (NB : Nat), B := unF (fun i => f (2 + i)) }) 28 (0, 0)) := by
    rw [hWd]
    have h0 := gc
    rw [HTR.out X] at h0
    refine (heap_setCell_same Wc G 7 _ _ _ h0).trans ?_
    show some (Obj.cells _ _ (0, 0)) = _
    unfold telC
    rfl
  have xd : Ext w Wd := by rw [hWd]; exact Below.setCell (xA.trans yc) (by show w.heap.size ≤ G; omega) _
  have hd : TelAt Wd ⟨x1, d1, X.a2, X.d2⟩ { zeroT with k := Q.k, nb := unN (n - 2) (NB : Nat), B := unF (fun i => f (2 + i)) } := by
    rw [hWd]; exact ⟨(holds_box gc _).1 hu, l1, m1, .inl rfl, Nat.zero_le _, ht6.m2⟩
  have gR2 : Wd.heap[w.heap.size + 1]? = some (.cells #[.int .i64 0, .int .i64 0, .int .i64 0, .int .i64 0, .int .i64 0, .int .i64 0, .int .i64 0, .slice none 0 0, .slice none 0 0] 28 (0, 0)) := by rw [hWd, heap_setCell_other _ _ _ _ (by show w.heap.size + 1 ≠ G; omega)]; exact (HX.out _ (xR.trans yc)).2
  have c8 : Wd.cell? ⟨G, 8, none⟩ = some (.slice X.a2 0 X.d2) := cell_of_heap gd rfl
  rw [← hWd]
  clear hWd gc pc qc hu hs HG6 c7 c7' g6 KU HA hfd2
  have gRd := gR2
  go_wp2_with (first
    | (refine wpList_load_row rfl 28 (.tmp 5) rfl G rfl 28 _ (0, 0) _ gd Try.underlying28 rfl (by kernel_rfl) ?_)
    | (refine wpList_store_row rfl 28 (.tmp 4) (.tmp 50) rfl (w.heap.size + 1) _ rfl rfl 28 _ gRd (by kernel_rfl) rfl (by simp [telC, Value.oneCell']) ?_))
  refine bodyPost_ret (results_cell_row rfl _ _ (w.heap.size + 1) 28 _ (0, 0) _ rfl (setRow_heap _ _ _ _ _ _ gRd) Try.underlying28 rfl (by kernel_rfl)) rfl ?_
  unfold GueP
  rw [HT.out]
  exact ⟨_, rfl, setRow_tel _ hd gRd, below_setRow xd (by omega) _⟩
set_option maxHeartbeats 4000000 in
theorem guess_words (V : QstV) (Q : Qst) (a : Option Addr) (n c : Nat) (f : Nat → Int) (w : World) (hr : rightQ Q = true) (ha : Holds .u8 w a n f) (hn : n ≤ 100000) (hnc : n ≤ c) (hcm : c ≤ maxLen) (hf : ∀ i, i < n → 0 ≤ f i ∧ f i < 256) (h2 : 2 < n) (hk : Q.k = 3 ∨ Q.k = 4 ∨ Q.k = 23) : Calls Try.prog 35 #[.agg (qstC V Q), .slice a n c] w (GueP Q n f w) := by
  obtain ⟨N1, N2⟩ := whole_nb Q Q.ct.toNat (fun _ => false) (if Q.k = 23 then Q.mn.toNat else Q.ct.toNat) (fun _ => 0)
  have hk1 : ¬ (Q.k = 1 ∨ Q.k = 2) := by omega
  rw [if_neg hk1] at N1
  rw [if_neg hk1, if_pos hk] at N2
  obtain ⟨NR, hNR⟩ : ∃ NR, (replT Q).nr = NR := ⟨_, rfl⟩
  have hN0 : (replT Q).nb = 0 := by unfold replT; rw [N1]
  have hNI : (0 : Int) < NR := by
    obtain ⟨-, -, -, hfi⟩ := (rightQ_iff Q).1 hr
    rw [← hNR]; unfold replT; rw [N2]
    unfold fitsB at hfi
    by_cases h23 : Q.k = 23
    · rw [if_neg (by omega), if_neg (by omega), if_neg (by omega), if_neg (by omega), if_neg (by omega), if_neg (by omega), if_neg (by omega)] at hfi
      simp only [Bool.and_eq_true, inB_iff, decide_eq_true_iff] at hfi
      rw [if_pos h23]; omega
    · rw [if_neg hk1, if_pos (by omega), inB_iff] at hfi
      rw [if_neg h23]; omega
  have HT : Hid (gu2 Q n f = { zeroT with k := Q.k, nr := getN (n - 2), R := getF (fun i => f (2 + i)) }) := Lib.hid (by
    unfold gu2 tgue; rw [if_neg (by omega), if_neg (by omega), if_pos h2]; unfold wholeT; rw [if_neg hk1, if_pos hk])
  have HTR : Hid (∀ X : QstV, telC X (replT Q) = telC X { zeroT with k := Q.k, nr := NR }) := Lib.hid (fun X => by rw [← hNR]; unfold replT wholeT; rw [if_neg hk1, if_pos hk]; rfl)
  have h2I : (2 : Int) < n := by omega
  have h2n : (2 : Int) ≤ n := by omega
  have h2c : ¬ c = 2 := by omega
  have hb1 : decide ((n : Int) < 2) = false := decide_eq_false (by omega)
  have hb2 : ((n : Int) == 2) = false := by simp; omega
  obtain ⟨W2, hW2, e0, HX⟩ : ∃ W2, W2 = (w.alloc (.cells (qstC V Q) 25)).alloc (.cells #[.int .i64 0, .int .i64 0, .int .i64 0, .int .i64 0, .int .i64 0, .int .i64 0, .int .i64 0, .slice none 0 0, .slice none 0 0] 28) ∧ Ext w W2 ∧ Hid (∀ W, Ext W2 W → W.heap[w.heap.size]? = some (.cells (qstC V Q) 25 (0, 0)) ∧ W.heap[w.heap.size + 1]? = some (.cells #[.int .i64 0, .int .i64 0, .int .i64 0, .int .i64 0, .int .i64 0, .int .i64 0, .int .i64 0, .slice none 0 0, .slice none 0 0] 28 (0, 0))) :=
    ⟨_, rfl, (Ext.alloc w _).trans (Ext.alloc _ _), Lib.hid fun W x => ⟨x.block ((heap_alloc_old _ _ (by simp)).trans (heap_alloc_new w _)), x.block (heap_new_at _ _ (by simp))⟩⟩
  have hz2 : W2.heap.size = w.heap.size + 2 := by rw [hW2]; simp
  obtain ⟨r0, -⟩ := HX.out W2 (Ext.refl _)
  have KY := Lib.hid (fun W => reply_any V Q W hr)
  have hfd := fun w X b n q => told_field w X (replT Q) b n q
  obtain ⟨b, off, ea, hlt, hcl⟩ := ha.resolve_left (by omega)
  subst ea
  have HA := Lib.hid (fun W (x : Ext w W) => HoldsG.drop (mk := Value.int .u8) (ha.ext x) (k := 2))
  have hfd2 : ∀ i, i < n - 2 → 0 ≤ f (2 + i) ∧ f (2 + i) < 256 := fun i hi => hf _ (by omega)
  clear ha hf hr hcl N1 N2 hk1
  go_enter Try.func35, Try.ntmps35
  go_upto_region 1 with fail
  rw [← hW2]
  clear hW2
  go_upto_region 6 with (first
    | (refine wpList_load_row rfl 25 (.tmp 2) rfl w.heap.size rfl 25 _ (0, 0) _ r0 Try.underlying25 rfl (by kernel_rfl) ?_)
    | (go_at_call 24; refine (KY.out _).mono ?_; rintro e w5 ⟨⟨X, b5, q5, rfl, ht5, -⟩, x5⟩)
    | (refine wpList_store_row rfl 28 (.tmp 5) (.tmp 24) rfl w5.heap.size _ rfl rfl 28 _ (heap_alloc_new w5 _) (by kernel_rfl) rfl (by simp [telC, Value.oneCell']) ?_))
  obtain ⟨W6, hW6, x6, g6⟩ : ∃ W6, W6 = (w5.alloc (.cells #[.int .i64 0, .int .i64 0, .int .i64 0, .int .i64 0, .int .i64 0, .int .i64 0, .int .i64 0, .slice none 0 0, .slice none 0 0] 28)).setRow w5.heap.size (telC X (replT Q)) ∧ Ext w5 W6 ∧ W6.heap[w5.heap.size]? = some (.cells (telC X (replT Q)) 28 (0, 0)) := ⟨_, rfl, (told_row _ _ _ _).1, (told_row _ _ _ _).2⟩
  rw [← hW6]
  clear hW6
  have hGs : w.heap.size + 2 ≤ w5.heap.size := by have := x5.size; omega
  have xR := x5.trans x6
  have xA := e0.trans xR
  have ht6 := ht5.ext x6
  generalize w5.heap.size = G at g6 hGs ⊢
  clear x5 x6 ht5 KY r0 hfd
  have c7 : W6.cell? ⟨G, 7, none⟩ = some (.slice X.a1 0 X.d1) := by rw [← hN0]; exact cell_of_heap g6 rfl
  have c8 : W6.cell? ⟨G, 8, none⟩ = some (.slice X.a2 NR X.d2) := by rw [← hNR]; exact cell_of_heap g6 rfl
  have KU := Lib.hid (get_x (some ⟨b, off + 2, none⟩) (n - 2) (c - 2) (fun i => f (2 + i)) W6 (HA.out _ xA) (by omega) hfd2)
  go_upto_region 9 with fail
  clear c7
  go_upto_region 10 with (first
    | (go_at_call 52; refine KU.out.mono ?_; rintro e Wc ⟨x2, d2, E2, rfl, l2, m2, hu, yc⟩; have gc := yc.block g6; have pc : Wc.cell? ⟨G, 8, none⟩ = some (.slice X.a2 NR X.d2) := yc.cell (heap_lt g6) c8; have qc : Wc.frozen? ⟨G, 8, none⟩ = false := frozenT gc; clear c8))
  obtain ⟨Wd, hWd⟩ : ∃ Wd, Wd = Wc.setCell ⟨G, 8, none⟩ (.slice x2 (getN (n - 2)) d2) := ⟨_, rfl⟩
  have gd : Wd.heap[G]? = some (.cells (telC ⟨X.a1, X.d1, x2, d2⟩ { zeroT with k := Q.k, nr := getN (n - 2), R := getF (fun i => f (2 + i)) }) 28 (0, 0)) := by
    rw [hWd]
    have h0 := gc
    rw [HTR.out X] at h0
    refine (heap_setCell_same Wc G 8 _ _ _ h0).trans ?_
    show some (Obj.cells _ _ (0, 0)) = _
    unfold telC
    rfl
  have xd : Ext w Wd := by rw [hWd]; exact Below.setCell (xA.trans yc) (by show w.heap.size ≤ G; omega) _
  have hd : TelAt Wd ⟨X.a1, X.d1, x2, d2⟩ { zeroT with k := Q.k, nr := getN (n - 2), R := getF (fun i => f (2 + i)) } := by
    rw [hWd]; exact ⟨.inl rfl, Nat.zero_le _, ht6.m1, (holds_box gc _).2 hu, l2, m2⟩
  have gR2 : Wd.heap[w.heap.size + 1]? = some (.cells #[.int .i64 0, .int .i64 0, .int .i64 0, .int .i64 0, .int .i64 0, .int .i64 0, .int .i64 0, .slice none 0 0, .slice none 0 0] 28 (0, 0)) := by rw [hWd, heap_setCell_other _ _ _ _ (by show w.heap.size + 1 ≠ G; omega)]; exact (HX.out _ (xR.trans yc)).2
  rw [← hWd]
  clear hWd gc pc qc hu g6 KU HA hfd2
  have gRd := gR2
  go_wp2_with (first
    | (refine wpList_load_row rfl 28 (.tmp 5) rfl G rfl 28 _ (0, 0) _ gd Try.underlying28 rfl (by kernel_rfl) ?_)
    | (refine wpList_store_row rfl 28 (.tmp 4) (.tmp 50) rfl (w.heap.size + 1) _ rfl rfl 28 _ gRd (by kernel_rfl) rfl (by simp [telC, Value.oneCell']) ?_))
  refine bodyPost_ret (results_cell_row rfl _ _ (w.heap.size + 1) 28 _ (0, 0) _ rfl (setRow_heap _ _ _ _ _ _ gRd) Try.underlying28 rfl (by kernel_rfl)) rfl ?_
  unfold GueP
  rw [HT.out]
  exact ⟨_, rfl, setRow_tel _ hd gRd, below_setRow xd (by omega) _⟩
set_option maxHeartbeats 4000000 in
theorem guess_none (V : QstV) (Q : Qst) (a : Option Addr) (n c : Nat) (f : Nat → Int) (w : World) (hr : rightQ Q = true) (ha : Holds .u8 w a n f) (hn : n ≤ 100000) (hnc : n ≤ c) (hcm : c ≤ maxLen) (hf : ∀ i, i < n → 0 ≤ f i ∧ f i < 256) (h2 : 2 < n) (hk1 : ¬ (Q.k = 1 ∨ Q.k = 2)) (hk3 : ¬ (Q.k = 3 ∨ Q.k = 4 ∨ Q.k = 23)) : Calls Try.prog 35 #[.agg (qstC V Q), .slice a n c] w (GueP Q n f w) := by
  obtain ⟨N1, N2⟩ := whole_nb Q Q.ct.toNat (fun _ => false) (if Q.k = 23 then Q.mn.toNat else Q.ct.toNat) (fun _ => 0)
  rw [if_neg hk1] at N1
  rw [if_neg hk1, if_neg hk3] at N2
  have hN0 : (replT Q).nb = 0 := by unfold replT; rw [N1]
  have hR0 : (replT Q).nr = 0 := by unfold replT; rw [N2]
  have HT : Hid (gu2 Q n f = replT Q) := Lib.hid (by
    unfold gu2 tgue replT; rw [if_neg (by omega), if_neg (by omega), if_pos h2]; unfold wholeT; rw [if_neg hk1, if_neg hk1, if_neg hk3, if_neg hk3])
  have h2I : (2 : Int) < n := by omega
  have h2n : (2 : Int) ≤ n := by omega
  have h2c : ¬ c = 2 := by omega
  have hb1 : decide ((n : Int) < 2) = false := decide_eq_false (by omega)
  have hb2 : ((n : Int) == 2) = false := by simp; omega
  obtain ⟨W2, hW2, e0, HX⟩ : ∃ W2, W2 = (w.alloc (.cells (qstC V Q) 25)).alloc (.cells #[.int .i64 0, .int .i64 0, .int .i64 0, .int .i64 0, .int .i64 0, .int .i64 0, .int .i64 0, .slice none 0 0, .slice none 0 0] 28) ∧ Ext w W2 ∧ Hid (∀ W, Ext W2 W → W.heap[w.heap.size]? = some (.cells (qstC V Q) 25 (0, 0)) ∧ W.heap[w.heap.size + 1]? = some (.cells #[.int .i64 0, .int .i64 0, .int .i64 0, .int .i64 0, .int .i64 0, .int .i64 0, .int .i64 0, .slice none 0 0, .slice none 0 0] 28 (0, 0))) :=
    ⟨_, rfl, (Ext.alloc w _).trans (Ext.alloc _ _), Lib.hid fun W x => ⟨x.block ((heap_alloc_old _ _ (by simp)).trans (heap_alloc_new w _)), x.block (heap_new_at _ _ (by simp))⟩⟩
  have hz2 : W2.heap.size = w.heap.size + 2 := by rw [hW2]; simp
  obtain ⟨r0, -⟩ := HX.out W2 (Ext.refl _)
  have KY := Lib.hid (fun W => reply_any V Q W hr)
  have hfd := fun w X b n q => told_field w X (replT Q) b n q
  obtain ⟨b, off, ea, hlt, hcl⟩ := ha.resolve_left (by omega)
  subst ea
  have HA := Lib.hid (fun W (x : Ext w W) => HoldsG.drop (mk := Value.int .u8) (ha.ext x) (k := 2))
  have hfd2 : ∀ i, i < n - 2 → 0 ≤ f (2 + i) ∧ f (2 + i) < 256 := fun i hi => hf _ (by omega)
  clear ha hf hr hcl N1 N2
  go_enter Try.func35, Try.ntmps35
  go_upto_region 1 with fail
  rw [← hW2]
  clear hW2
  go_upto_region 6 with (first
    | (refine wpList_load_row rfl 25 (.tmp 2) rfl w.heap.size rfl 25 _ (0, 0) _ r0 Try.underlying25 rfl (by kernel_rfl) ?_)
    | (go_at_call 24; refine (KY.out _).mono ?_; rintro e w5 ⟨⟨X, b5, q5, rfl, ht5, -⟩, x5⟩)
    | (refine wpList_store_row rfl 28 (.tmp 5) (.tmp 24) rfl w5.heap.size _ rfl rfl 28 _ (heap_alloc_new w5 _) (by kernel_rfl) rfl (by simp [telC, Value.oneCell']) ?_))
  obtain ⟨W6, hW6, x6, g6⟩ : ∃ W6, W6 = (w5.alloc (.cells #[.int .i64 0, .int .i64 0, .int .i64 0, .int .i64 0, .int .i64 0, .int .i64 0, .int .i64 0, .slice none 0 0, .slice none 0 0] 28)).setRow w5.heap.size (telC X (replT Q)) ∧ Ext w5 W6 ∧ W6.heap[w5.heap.size]? = some (.cells (telC X (replT Q)) 28 (0, 0)) := ⟨_, rfl, (told_row _ _ _ _).1, (told_row _ _ _ _).2⟩
  rw [← hW6]
  clear hW6
  have hGs : w.heap.size + 2 ≤ w5.heap.size := by have := x5.size; omega
  have xR := x5.trans x6
  have xA := e0.trans xR
  have ht6 := ht5.ext x6
  generalize w5.heap.size = G at g6 hGs ⊢
  clear x5 x6 ht5 KY r0 hfd
  have c7 : W6.cell? ⟨G, 7, none⟩ = some (.slice X.a1 0 X.d1) := by rw [← hN0]; exact cell_of_heap g6 rfl
  have c8 : W6.cell? ⟨G, 8, none⟩ = some (.slice X.a2 0 X.d2) := by rw [← hR0]; exact cell_of_heap g6 rfl
  have gR2 := (HX.out _ xR).2
  have gd := g6
  have hd := ht6
  have xd := xA
  clear g6 HA hfd2
  have gRd := gR2
  go_wp2_with (first
    | (refine wpList_load_row rfl 28 (.tmp 5) rfl G rfl 28 _ (0, 0) _ gd Try.underlying28 rfl (by kernel_rfl) ?_)
    | (refine wpList_store_row rfl 28 (.tmp 4) (.tmp 50) rfl (w.heap.size + 1) _ rfl rfl 28 _ gRd (by kernel_rfl) rfl (by simp [telC, Value.oneCell']) ?_))
  refine bodyPost_ret (results_cell_row rfl _ _ (w.heap.size + 1) 28 _ (0, 0) _ rfl (setRow_heap _ _ _ _ _ _ gRd) Try.underlying28 rfl (by kernel_rfl)) rfl ?_
  unfold GueP
  rw [HT.out]
  exact ⟨_, rfl, setRow_tel _ hd gRd, below_setRow xd (by omega) _⟩
theorem guess_any (V : QstV) (Q : Qst) (a : Option Addr) (n c : Nat) (f : Nat → Int) (w : World) (hr : rightQ Q = true) (ha : Holds .u8 w a n f) (hn : n ≤ 100000) (hnc : n ≤ c) (hcm : c ≤ maxLen) (hf : ∀ i, i < n → 0 ≤ f i ∧ f i < 256) : Calls Try.prog 35 #[.agg (qstC V Q), .slice a n c] w (GueP Q n f w) := by
  by_cases h2 : n < 2
  · exact guess_short V Q a n c f w hr ha hn hnc hcm hf h2
  by_cases h3 : n = 2
  · exact guess_two V Q a n c f w hr ha hn hnc hcm hf h3
  by_cases hk : Q.k = 1 ∨ Q.k = 2
  · exact guess_bits V Q a n c f w hr ha hn hnc hcm hf (by omega) hk
  by_cases hk3 : Q.k = 3 ∨ Q.k = 4 ∨ Q.k = 23
  · exact guess_words V Q a n c f w hr ha hn hnc hcm hf (by omega) hk3
  · exact guess_none V Q a n c f w hr ha hn hnc hcm hf (by omega) hk hk3
theorem gu2_small {Q : Qst} {n : Nat} {f : Nat → Int} (hn : n ≤ 100000) (hf : ∀ i, i < n → 0 ≤ f i ∧ f i < 256) : (gu2 Q n f).nb ≤ 1000000 ∧ (gu2 Q n f).nr ≤ 1000000 ∧ ∀ i, i < (gu2 Q n f).nr → 0 ≤ (gu2 Q n f).R i ∧ (gu2 Q n f).R i < 65536 := by
  unfold gu2
  split
  · exact ⟨Nat.zero_le _, Nat.zero_le _, fun i hi => absurd hi (Nat.not_lt_zero i)⟩
  · exact tgue_small hn hf
theorem gu2_says {Q : Qst} {n : Nat} {f : Nat → Int} (hr : rightQ Q = true) : (tsays Q n f = true ↔ rightT Q (gu2 Q n f) = true ∧ tsayN (gu2 Q n f) = n ∧ ∀ i, i < n → tsayF (gu2 Q n f) i = f i) ∧ (tsays Q n f = true → tgue Q n f = gu2 Q n f) := by
  by_cases h2 : n = 2
  · have e1 : gu2 Q n f = { zeroT with k := Q.k, cd := f 1 } := by unfold gu2; rw [if_pos h2]
    by_cases h0 : f 0 = Q.k + 128
    · have e2 : tgue Q n f = gu2 Q n f := by rw [e1]; unfold tgue; rw [if_pos ⟨h2, h0⟩]
      rw [← e2]
      exact ⟨tsays_iff Q n f, fun _ => rfl⟩
    · have e2 : tgue Q n f = zeroT := by unfold tgue; rw [if_neg (fun h => h0 h.2), if_neg (by omega)]
      have hk := (known_iff Q.k).1 ((rightQ_iff Q).1 hr).1
      have hno : ¬ tsays Q n f = true := fun h => by
        have h1 := ((tsays_iff Q n f).1 h).1
        rw [e2] at h1
        have := (rightT_k h1).1
        have hz : zeroT.k = 0 := rfl
        omega
      refine ⟨⟨fun h => absurd h hno, fun h => ?_⟩, fun h => absurd h hno⟩
      obtain ⟨h1, hn, hF⟩ := h
      exfalso
      have hz := tsay_zero h1
      rw [hF 0 (by omega)] at hz
      by_cases hc : (gu2 Q n f).cd = 0
      · obtain ⟨c1, c2, c3, -⟩ := tcnt h1 hc
        have hTk := (rightT_k h1).1
        unfold tsayN at hn
        rw [if_neg (by omega)] at hn
        have nb0 : (gu2 Q n f).nb = 0 := by rw [e1]; rfl
        have nr0 : (gu2 Q n f).nr = 0 := by rw [e1]; rfl
        rw [nb0] at c1
        rw [nr0] at c2 c3
        by_cases k1 : Q.k = 1 ∨ Q.k = 2
        · have := c1 k1; omega
        by_cases k3 : Q.k = 3 ∨ Q.k = 4
        · have := c2 k3; omega
        by_cases k23 : Q.k = 23
        · have := c3 k23; omega
        rw [if_neg (by omega), if_neg (by omega)] at hn
        split at hn <;> omega
      · rw [if_neg hc] at hz
        exact h0 hz
  · have e1 : gu2 Q n f = tgue Q n f := by unfold gu2; rw [if_neg h2]
    rw [e1]
    exact ⟨tsays_iff Q n f, fun _ => rfl⟩
set_option maxHeartbeats 4000000 in
theorem tparse_c : TParseC 18 := by
  intro V Q a n c f w h hW n1 n2 ha hn hnc hcm hf
  have hways := tpaE_ways Q n f
  obtain ⟨W2, hW2, e0, HX⟩ : ∃ W2, W2 = (w.alloc (.cells (qstC V Q) 25)).alloc (.cells #[.int .i64 0, .int .i64 0, .int .i64 0, .int .i64 0, .int .i64 0, .int .i64 0, .int .i64 0, .slice none 0 0, .slice none 0 0] 28) ∧ Ext w W2 ∧ Hid (∀ W, Ext W2 W → W.heap[w.heap.size]? = some (.cells (qstC V Q) 25 (0, 0)) ∧ W.heap[w.heap.size + 1]? = some (.cells #[.int .i64 0, .int .i64 0, .int .i64 0, .int .i64 0, .int .i64 0, .int .i64 0, .int .i64 0, .slice none 0 0, .slice none 0 0] 28 (0, 0))) :=
    ⟨_, rfl, (Ext.alloc w _).trans (Ext.alloc _ _), Lib.hid fun W x => ⟨x.block ((heap_alloc_old _ _ (by simp)).trans (heap_alloc_new w _)), x.block (heap_new_at _ _ (by simp))⟩⟩
  have b1 := (HX.out _ (Ext.refl W2)).1
  have HQ := Lib.hid (fun W (x : Ext w W) => h.ext x)
  cases hr : rightQ Q with
  | false =>
    have hE : tpaE Q n f = 11 := by
      rcases hways with h | h | h
      · exact h.1
      · rw [h.2.1] at hr; cases hr
      · rw [h.2.1] at hr; cases hr
    have HE := Lib.hid (tpa_no hE (by decide))
    have KR := Lib.hid (fun W (x : Ext w W) => aright_v hr W (HQ.out W x) n1 n2)
    clear h ha hf hr hE hways
    go_enter Try.func18, Try.ntmps18
    go_upto_region 1 with fail
    rw [← hW2]
    clear hW2
    go_wp2_with (first
      | (refine wpList_load_row rfl 25 (.tmp 2) rfl w.heap.size rfl 25 _ (0, 0) _ b1 Try.underlying25 rfl (by kernel_rfl) ?_))
    refine (KR.out _ e0).mono ?_; rintro e w3 ⟨rfl, x3⟩
    have gR := (HX.out _ x3).2
    have xe := e0.trans x3
    go_wp2_with (first
      | (refine wpList_store_row rfl 28 (.tmp 4) (.tmp 12) rfl (w.heap.size + 1) _ rfl rfl 28 _ gR (by kernel_rfl) rfl (by simp [Value.oneCell']) ?_))
    refine bodyPost_ret (results_row_tmp rfl _ _ (w.heap.size + 1) 28 _ (0, 0) _ rfl (setRow_heap _ _ _ _ _ _ gR) Try.underlying28 rfl (by kernel_rfl)) rfl ?_
    rw [HE.out.1, HE.out.2]
    exact ⟨zeroQV, by rfl, telnone_at _ rfl rfl, below_setRow xe (by omega) _⟩
  | true =>
    have KR := Lib.hid (fun W (x : Ext w W) => aright_v hr W (HQ.out W x) n1 n2)
    have KG := Lib.hid (fun W (x : Ext w W) => guess_any V Q a n c f W hr (ha.ext x) hn hnc hcm hf)
    obtain ⟨g1, g2⟩ := gu2_says (n := n) (f := f) hr
    have HS := Lib.hid g1
    have HTP := Lib.hid (show tpaE Q n f = 0 → tpaT Q n f = gu2 Q n f from fun h0 => by
      unfold tpaT; rw [if_pos h0]
      rcases hways with h | h | h
      · rw [h.1] at h0; cases h0
      · rw [h.1] at h0; cases h0
      · exact g2 h.2.2)
    have hsm := gu2_small (Q := Q) hn hf
    have KP := Lib.hid (fun W X (x : Ext w W) (k : TelAt W X (gu2 Q n f)) => tprint_c V Q X (gu2 Q n f) W (HQ.out W x) hW n1 n2 k hsm.1 hsm.2.1 hsm.2.2)
    have hpb : tprN Q (gu2 Q n f) ≤ 1000 := by
      unfold tprN
      split
      · rename_i hh
        have := (tsay_size hh).2
        omega
      · omega
    have HA := Lib.hid (fun W (x : Ext w W) => ha.ext x)
    have HW := Lib.hid hways
    have HRQ := Lib.hid hr
    have HPR := Lib.hid (fun (hb : rightT Q (gu2 Q n f) = true) => tprE_yes hb)
    have HPN := Lib.hid (fun (hb : rightT Q (gu2 Q n f) = false) => tprE_no hb)
    unfold GueP at KG
    clear h ha hf hr hways g1 g2 hsm
    generalize gu2 Q n f = T at *
    obtain ⟨N, hNn⟩ : ∃ N, tprN Q T = N := ⟨_, rfl⟩
    obtain ⟨E, hEe⟩ : ∃ E, tprE Q T = E := ⟨_, rfl⟩
    rw [hNn, hEe] at KP
    rw [hNn] at hpb
    have HNE := Lib.hid (And.intro hNn hEe)
    clear hNn hEe
    go_enter Try.func18, Try.ntmps18
    go_upto_region 1 with fail
    rw [← hW2]
    clear hW2
    go_upto_region 3 with (first
      | (refine wpList_load_row rfl 25 (.tmp 2) rfl w.heap.size rfl 25 _ (0, 0) _ b1 Try.underlying25 rfl (by kernel_rfl) ?_)
      | (go_at_call 29; refine (KR.out _ e0).mono ?_; rintro e w3 ⟨rfl, x3⟩))
    have b3 := (HX.out _ x3).1
    clear b1 KR
    go_upto_region 4 with (first
      | (refine wpList_load_row rfl 25 (.tmp 2) rfl w.heap.size rfl 25 _ (0, 0) _ b3 Try.underlying25 rfl (by kernel_rfl) ?_)
      | (go_at_call 35; refine (KG.out _ (e0.trans x3)).mono ?_; rintro e w4 ⟨X, rfl, hX4, x4⟩)
      | (refine wpList_store_row rfl 28 (.tmp 6) (.tmp 15) rfl w4.heap.size _ rfl rfl 28 _ (heap_alloc_new w4 _) (by kernel_rfl) rfl (by simp [telC, Value.oneCell']) ?_))
    obtain ⟨W6, hW6, x6, g6⟩ : ∃ W6, W6 = (w4.alloc (.cells #[.int .i64 0, .int .i64 0, .int .i64 0, .int .i64 0, .int .i64 0, .int .i64 0, .int .i64 0, .slice none 0 0, .slice none 0 0] 28)).setRow w4.heap.size (telC X T) ∧ Ext w4 W6 ∧ W6.heap[w4.heap.size]? = some (.cells (telC X T) 28 (0, 0)) := ⟨_, rfl, (told_row _ _ _ _).1, (told_row _ _ _ _).2⟩
    rw [← hW6]
    clear hW6 b3
    have xR := (x3.trans x4).trans x6
    have hX := hX4.ext x6
    have hGs : w.heap.size ≤ w4.heap.size := (e0.trans (x3.trans x4)).size
    generalize w4.heap.size = G at g6 hGs ⊢
    clear x3 x4 x6 hX4
    have b6 := (HX.out _ xR).1
    go_upto_region 5 with (first
      | (refine wpList_load_row rfl 25 (.tmp 2) rfl w.heap.size rfl 25 _ (0, 0) _ b6 Try.underlying25 rfl (by kernel_rfl) ?_)
      | (refine wpList_load_row rfl 28 (.tmp 6) rfl G rfl 28 _ (0, 0) _ g6 Try.underlying28 rfl (by kernel_rfl) ?_)
      | (go_at_call 9; refine (KP.out _ X (e0.trans xR) hX).mono ?_; rintro e w7 ⟨pb, pq, rfl, -, -, hp, y7⟩))
    have x7 := xR.trans y7
    have g7 := y7.block g6
    have hX7 := hX.ext y7
    clear KP b6 g6 hX y7 xR
    obtain ⟨B, hB⟩ : ∃ B, rightT Q T = B := ⟨_, rfl⟩
    have HB := Lib.hid hB
    cases B with
    | false =>
      have hE : tpaE Q n f = 14 := by
        rcases HW.out with h | h | h
        · have := HRQ.out; rw [h.2] at this; cases this
        · exact h.1
        · have := (HS.out.1 h.2.2).1; rw [HB.out] at this; cases this
      have HE := Lib.hid (tpa_no hE (by decide))
      have gR := (HX.out _ x7).2
      have xe := e0.trans x7
      have hE11 : (E != 0) = true := by rw [← HNE.out.2, (HPN.out hB).1]; rfl
      clear hE hB
      go_wp2_with (first
        | (refine wpList_store_row rfl 28 (.tmp 4) (.tmp 30) rfl (w.heap.size + 1) _ rfl rfl 28 _ gR (by kernel_rfl) rfl (by simp [Value.oneCell']) ?_))
      refine bodyPost_ret (results_row_tmp rfl _ _ (w.heap.size + 1) 28 _ (0, 0) _ rfl (setRow_heap _ _ _ _ _ _ gR) Try.underlying28 rfl (by kernel_rfl)) rfl ?_
      rw [HE.out.1, HE.out.2]
      exact ⟨zeroQV, by rfl, telnone_at _ rfl rfl, below_setRow xe (by omega) _⟩
    | true =>
      have hNs : N = tsayN T := by rw [← HNE.out.1, (HPR.out hB).2]
      have hE0 : (E != 0) = false := by rw [← HNE.out.2, (HPR.out hB).1]; rfl
      have KB := Lib.hid ((slequint8_any pb a N n pq c (tsayF T) f w7 hp (HA.out _ (e0.trans x7)) (by omega) (by omega)).mono fun e w' hh => (⟨hh.1, Ext.of_drewN hh.2⟩ : e = .returned (.bool (eqB N n (tsayF T) f)) ∧ Ext w7 w'))
      obtain ⟨Z, hZ⟩ : ∃ Z, eqB N n (tsayF T) f = Z := ⟨_, rfl⟩
      rw [hZ] at KB
      have HZ := Lib.hid hZ
      have HNs := Lib.hid hNs
      clear hZ hNs hp hB
      cases Z with
      | false =>
        have hE : tpaE Q n f = 14 := by
          rcases HW.out with h | h | h
          · have := HRQ.out; rw [h.2] at this; cases this
          · exact h.1
          · obtain ⟨p1, p2, p3⟩ := HS.out.1 h.2.2
            have := eqB_true (f := tsayF T) (g := f) (HNs.out.trans p2) (fun i hi => p3 i (by rw [← p2, ← HNs.out]; exact hi))
            rw [HZ.out] at this; cases this
        have HE := Lib.hid (tpa_no hE (by decide))
        clear hE
        go_wp2_with fail
        refine KB.out.mono ?_; rintro e w8 ⟨rfl, y8⟩
        have x8 := x7.trans y8
        have gR := (HX.out _ x8).2
        have xe := e0.trans x8
        go_wp2_with (first
          | (refine wpList_store_row rfl 28 (.tmp 4) (.tmp 30) rfl (w.heap.size + 1) _ rfl rfl 28 _ gR (by kernel_rfl) rfl (by simp [Value.oneCell']) ?_))
        refine bodyPost_ret (results_row_tmp rfl _ _ (w.heap.size + 1) 28 _ (0, 0) _ rfl (setRow_heap _ _ _ _ _ _ gR) Try.underlying28 rfl (by kernel_rfl)) rfl ?_
        rw [HE.out.1, HE.out.2]
        exact ⟨zeroQV, by rfl, telnone_at _ rfl rfl, below_setRow xe (by omega) _⟩
      | true =>
        obtain ⟨z1, z2⟩ := eqB_iff.1 HZ.out
        have hE : tpaE Q n f = 0 := by
          rcases HW.out with h | h | h
          · have := HRQ.out; rw [h.2] at this; cases this
          · have := HS.out.2 ⟨HB.out, by rw [← HNs.out]; exact z1, fun i hi => z2 i (by rw [z1]; exact hi)⟩
            rw [h.2.2] at this; cases this
          · exact h.1
        have HE := Lib.hid (And.intro hE (HTP.out hE))
        clear hE z1 z2
        go_wp2_with fail
        refine KB.out.mono ?_; rintro e w8 ⟨rfl, y8⟩
        have x8 := x7.trans y8
        have gR := (HX.out _ x8).2
        have g8 := y8.block g7
        have xe := e0.trans x8
        have hq := Lib.hid (setRow_tel (telC X T) (hX7.ext y8) gR)
        clear g7
        go_wp2_with (first
          | (refine wpList_load_row rfl 28 (.tmp 6) rfl G rfl 28 _ (0, 0) _ g8 Try.underlying28 rfl (by kernel_rfl) ?_)
          | (refine wpList_store_row rfl 28 (.tmp 4) (.tmp 31) rfl (w.heap.size + 1) _ rfl rfl 28 _ gR (by kernel_rfl) rfl (by simp [telC, Value.oneCell']) ?_))
        refine bodyPost_ret (results_row_tmp rfl _ _ (w.heap.size + 1) 28 _ (0, 0) _ rfl (setRow_heap _ _ _ _ _ _ gR) Try.underlying28 rfl (by kernel_rfl)) rfl ?_
        rw [HE.out.1, HE.out.2]
        exact ⟨X, by rfl, hq.out, below_setRow xe (by omega) _⟩
end Go.Proofs.Ytejiafihiielgaa
