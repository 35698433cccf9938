/-
  CONTRACTS: package file (layer 14): a new file.
  CONTRACTS: package file (layer 14): Same.
  CONTRACTS: package file (layer 14): Same.
-/
import Derived.Test.YtlafnobjfajamaaGreatPk23
import Derived.Test.YtlafnobjfajamaaGreatPk17
import Derived.Test.YtlafnobjfajamaaGreatPk6
import Derived.Test.YtlafnobjfajamaaGreatPk3
namespace Go.Proofs.YtlafnobjfajamaaGreat
open Go.RowKit
set_option linter.unusedVariables false

/-- A new file's tables, wherever they have been made. -/
theorem new_told' {w W0 W4 : World} {cf jf hf rf bf bc : Int} {n1 n2 n3 n4 g1 g2 g3 g4 : Nat} (hx0 : Ext w W0) (hs0 : w.heap.size + 2 ≤ W0.heap.size) (hx : Ext W0 W4)
    (h : HoldsG Value.bool W4 (some ⟨g1, 0, none⟩) n1 (fun _ => false) ∧ HoldsG Value.bool W4 (some ⟨g2, 0, none⟩) n2 (fun _ => false) ∧ HoldsG (Value.int .u16) W4 (some ⟨g3, 0, none⟩) n3 (fun _ => 0) ∧ HoldsG (Value.int .u16) W4 (some ⟨g4, 0, none⟩) n4 (fun _ => 0))
    (l1 : n1 ≤ 65536) (l2 : n2 ≤ 65536) (l3 : n3 ≤ 65536) (l4 : n4 ≤ 65536) (b1 : w.heap.size + 2 ≤ g1) (b2 : w.heap.size + 2 ≤ g2) (b3 : w.heap.size + 2 ≤ g3) (b4 : w.heap.size + 2 ≤ g4) (G : Fil) (hG : G = ⟨cf, n1, jf, n2, hf, n3, rf, n4, bf, bc, n1, fun _ => false, n2, fun _ => false, n3, fun _ => 0, n4, fun _ => 0⟩) :
    (∀ cs, FilAt (W4.setRow (w.heap.size + 1) cs) ⟨some ⟨g1, 0, none⟩, n1, some ⟨g2, 0, none⟩, n2, some ⟨g3, 0, none⟩, n3, some ⟨g4, 0, none⟩, n4⟩ G) ∧ (∀ cs, Ext w (W4.setRow (w.heap.size + 1) cs)) ∧ (Fresh w (some ⟨g1, 0, none⟩) ∧ Fresh w (some ⟨g2, 0, none⟩) ∧ Fresh w (some ⟨g3, 0, none⟩) ∧ Fresh w (some ⟨g4, 0, none⟩)) := by
  subst hG
  have hm : ∀ n : Nat, n ≤ 65536 → n ≤ maxLen := fun n h => by unfold maxLen; omega
  refine ⟨fun cs => ?_, fun cs => below_setRow (hx0.trans hx) (Nat.le_succ _) _, ⟨fun p hp => by cases hp; show _ ≤ g1; omega, fun p hp => by cases hp; show _ ≤ g2; omega, fun p hp => by cases hp; show _ ≤ g3; omega, fun p hp => by cases hp; show _ ≤ g4; omega⟩⟩
  have k : FilAt W4 ⟨some ⟨g1, 0, none⟩, n1, some ⟨g2, 0, none⟩, n2, some ⟨g3, 0, none⟩, n3, some ⟨g4, 0, none⟩, n4⟩ ⟨cf, n1, jf, n2, hf, n3, rf, n4, bf, bc, n1, fun _ => false, n2, fun _ => false, n3, fun _ => 0, n4, fun _ => 0⟩ :=
    ⟨h.1, Nat.le_refl _, hm _ l1, h.2.1, Nat.le_refl _, hm _ l2, h.2.2.1, Nat.le_refl _, hm _ l3, h.2.2.2, Nat.le_refl _, hm _ l4⟩
  exact k.keep (keepRow _ _ _) ⟨.inr fun p hp hf => (by cases hp; simp at hf; omega), .inr fun p hp hf => (by cases hp; simp at hf; omega), .inr fun p hp hf => (by cases hp; simp at hf; omega), .inr fun p hp hf => (by cases hp; simp at hf; omega)⟩
set_option maxRecDepth 100000 in
set_option maxHeartbeats 16000000 in
theorem fnew_yes (F : Fil) (w : World) (hb : bankB F = true) : Calls Tryz.prog 31 #[.agg (bnkC F)] w (FP 0 (newF F) zeroV zeroF w) := by
  unfold FP
  have HB := Lib.hid (fun w' => fmaybe_v hb w')
  have hsm := bank_small hb
  clear hb
  obtain ⟨cf, cc, jf, jc, hf, hc, rf, rc, bf, bc, nC, C, nI, I, nH, H, nR, R⟩ := F
  simp only at hsm
  obtain ⟨n1, rfl⟩ : ∃ n : Nat, cc = n := ⟨cc.toNat, by omega⟩
  obtain ⟨n2, rfl⟩ : ∃ n : Nat, jc = n := ⟨jc.toNat, by omega⟩
  obtain ⟨n3, rfl⟩ : ∃ n : Nat, hc = n := ⟨hc.toNat, by omega⟩
  obtain ⟨n4, rfl⟩ : ∃ n : Nat, rc = n := ⟨rc.toNat, by omega⟩
  have l1 : n1 ≤ 65536 := by omega
  have l2 : n2 ≤ 65536 := by omega
  have l3 : n3 ≤ 65536 := by omega
  have l4 : n4 ≤ 65536 := by omega
  rw [show newF ⟨cf, n1, jf, n2, hf, n3, rf, n4, bf, bc, nC, C, nI, I, nH, H, nR, R⟩ = ⟨cf, n1, jf, n2, hf, n3, rf, n4, bf, bc, n1, fun _ => false, n2, fun _ => false, n3, fun _ => 0, n4, fun _ => 0⟩ from by simp [newF]]
  have HEnd := Lib.hid (fun W0 W4 g1 g2 g3 g4 hx0 hs0 hx h b1 b2 b3 b4 => @new_told' w W0 W4 cf jf hf rf bf bc n1 n2 n3 n4 g1 g2 g3 g4 hx0 hs0 hx h l1 l2 l3 l4 b1 b2 b3 b4 _ rfl)
  obtain ⟨ib, hib0, hib1, hib2, hib3⟩ := info_parts Tryz.infoCb
  obtain ⟨iw, hiw0, hiw1, hiw2, hiw3⟩ := info_parts Tryz.infoCw
  clear hsm
  unfold bnkC at HB ⊢
  dsimp only at HB ⊢
  have e0 := (Ext.alloc w (.cells #[.int .i64 cf, .int .i64 n1, .int .i64 jf, .int .i64 n2, .int .i64 hf, .int .i64 n3, .int .i64 rf, .int .i64 n4, .int .i64 bf, .int .i64 bc] 25)).trans (Ext.alloc _ (.cells (filC zeroV zeroF) 29))
  have g0 := two_boxes w #[.int .i64 cf, .int .i64 n1, .int .i64 jf, .int .i64 n2, .int .i64 hf, .int .i64 n3, .int .i64 rf, .int .i64 n4, .int .i64 bf, .int .i64 bc] (filC zeroV zeroF) 25 29
  have z0 : ((w.alloc (.cells #[.int .i64 cf, .int .i64 n1, .int .i64 jf, .int .i64 n2, .int .i64 hf, .int .i64 n3, .int .i64 rf, .int .i64 n4, .int .i64 bf, .int .i64 bc] 25)).alloc (.cells (filC zeroV zeroF) 29)).heap.size = w.heap.size + 2 := by simp
  obtain ⟨gA, gR0⟩ := g0
  unfold filC at e0 gR0 z0
  dsimp only [zeroV, zeroF] at e0 gR0 z0
  have HC := Lib.hid (fun (W : World) (h : W.heap[w.heap.size]? = some (.cells #[.int .i64 cf, .int .i64 n1, .int .i64 jf, .int .i64 n2, .int .i64 hf, .int .i64 n3, .int .i64 rf, .int .i64 n4, .int .i64 bf, .int .i64 bc] 25 (0, 0))) =>
    And.intro (cell_of_heap (j := 1) h rfl) (And.intro (cell_of_heap (j := 3) h rfl) (And.intro (cell_of_heap (j := 5) h rfl) (cell_of_heap (j := 7) h rfl))))
  go_enter Tryz.func31, Tryz.ntmps31
  go_upto_region 1 with fail
  go_wp2_with fail
  refine (HB.out _).mono ?_; rintro e w1 ⟨rfl, x1⟩
  obtain ⟨W0, hW0⟩ : ∃ W0, W0 = w1.drew := ⟨_, rfl⟩
  have hx0 : Ext w W0 := by rw [hW0]; exact ext_drew (e0.trans x1)
  have hs0 : w.heap.size + 2 ≤ W0.heap.size := by rw [hW0]; have := x1.size; simp at this ⊢; try omega
  have hs : W0.heap[w.heap.size]? = some (.cells #[.int .i64 cf, .int .i64 n1, .int .i64 jf, .int .i64 n2, .int .i64 hf, .int .i64 n3, .int .i64 rf, .int .i64 n4, .int .i64 bf, .int .i64 bc] 25 (0, 0)) := by rw [hW0]; exact x1.block gA
  have hR : W0.heap[w.heap.size + 1]? = some (.cells #[.int .i64 0, .int .i64 0, .int .i64 0, .int .i64 0, .int .i64 0, .int .i64 0, .int .i64 0, .int .i64 0, .int .i64 0, .int .i64 0, .slice none 0 0, .slice none 0 0, .slice none 0 0, .slice none 0 0] 29 (0, 0)) := by rw [hW0]; exact x1.block gR0
  have gA1 := x1.block gA
  clear gA gR0 e0 z0 x1
  go_wp2_with fail
  refine wp_region_held_drew (S := fun W => W.heap[w.heap.size]? = some (.cells #[.int .i64 cf, .int .i64 n1, .int .i64 jf, .int .i64 n2, .int .i64 hf, .int .i64 n3, .int .i64 rf, .int .i64 n4, .int .i64 bf, .int .i64 bc] 25 (0, 0))) (by kernel_rfl) gA1 (fun _ => ?_)
  rw [← hW0]
  clear hW0 gA1
  refine wpAnyH_takeD (i := 0) (d := 8) rfl rfl (by kernel_rfl) (by kernel_rfl) (by kernel_rfl) (fun _ _ _ h => h) (yieldsIf_load_row (by rfl) 25 (.tmp 1) rfl w.heap.size rfl 25 _ (0, 0) _ (fun w' hw' => hw') Tryz.underlying25 rfl (by kernel_rfl)) hs ?_
  simp only [Act.put, List.setIfInBounds_toArray, List.set_cons_succ, List.set_cons_zero]
  refine wpAnyH_takeD (i := 1) (d := 9) (v := .pointer (some ⟨w.heap.size, 0, none⟩)) rfl rfl (by kernel_rfl) (by kernel_rfl) (by kernel_rfl) (fun _ _ _ h => h) (Or.inl ⟨by rfl, fun W hW => by obtain ⟨k1, k3, k5, k7⟩ := HC.out W hW; go_simp⟩) hs ?_
  simp only [Act.put, List.setIfInBounds_toArray, List.set_cons_succ, List.set_cons_zero]
  refine wpAnyH_takeD (i := 2) (d := 10) (v := .pointer (some ⟨w.heap.size, 1, none⟩)) rfl rfl (by kernel_rfl) (by kernel_rfl) (by kernel_rfl) (fun _ _ _ h => h) (Or.inl ⟨by rfl, fun W hW => by obtain ⟨k1, k3, k5, k7⟩ := HC.out W hW; go_simp⟩) hs ?_
  simp only [Act.put, List.setIfInBounds_toArray, List.set_cons_succ, List.set_cons_zero]
  refine wpAnyH_takeD (i := 3) (d := 11) (v := .int .i64 n1) rfl rfl (by kernel_rfl) (by kernel_rfl) (by kernel_rfl) (fun _ _ _ h => h) (Or.inl ⟨by rfl, fun W hW => by obtain ⟨k1, k3, k5, k7⟩ := HC.out W hW; go_simp⟩) hs ?_
  simp only [Act.put, List.setIfInBounds_toArray, List.set_cons_succ, List.set_cons_zero]
  refine wpAnyH_takeD (i := 5) (d := 13) (v := .pointer (some ⟨w.heap.size, 2, none⟩)) rfl rfl (by kernel_rfl) (by kernel_rfl) (by kernel_rfl) (fun _ _ _ h => h) (Or.inl ⟨by rfl, fun W hW => by obtain ⟨k1, k3, k5, k7⟩ := HC.out W hW; go_simp⟩) hs ?_
  simp only [Act.put, List.setIfInBounds_toArray, List.set_cons_succ, List.set_cons_zero]
  refine wpAnyH_takeD (i := 6) (d := 14) (v := .pointer (some ⟨w.heap.size, 3, none⟩)) rfl rfl (by kernel_rfl) (by kernel_rfl) (by kernel_rfl) (fun _ _ _ h => h) (Or.inl ⟨by rfl, fun W hW => by obtain ⟨k1, k3, k5, k7⟩ := HC.out W hW; go_simp⟩) hs ?_
  simp only [Act.put, List.setIfInBounds_toArray, List.set_cons_succ, List.set_cons_zero]
  refine wpAnyH_takeD (i := 7) (d := 15) (v := .int .i64 n2) rfl rfl (by kernel_rfl) (by kernel_rfl) (by kernel_rfl) (fun _ _ _ h => h) (Or.inl ⟨by rfl, fun W hW => by obtain ⟨k1, k3, k5, k7⟩ := HC.out W hW; go_simp⟩) hs ?_
  simp only [Act.put, List.setIfInBounds_toArray, List.set_cons_succ, List.set_cons_zero]
  refine wpAnyH_takeD (i := 9) (d := 17) (v := .pointer (some ⟨w.heap.size, 4, none⟩)) rfl rfl (by kernel_rfl) (by kernel_rfl) (by kernel_rfl) (fun _ _ _ h => h) (Or.inl ⟨by rfl, fun W hW => by obtain ⟨k1, k3, k5, k7⟩ := HC.out W hW; go_simp⟩) hs ?_
  simp only [Act.put, List.setIfInBounds_toArray, List.set_cons_succ, List.set_cons_zero]
  refine wpAnyH_takeD (i := 10) (d := 18) (v := .pointer (some ⟨w.heap.size, 5, none⟩)) rfl rfl (by kernel_rfl) (by kernel_rfl) (by kernel_rfl) (fun _ _ _ h => h) (Or.inl ⟨by rfl, fun W hW => by obtain ⟨k1, k3, k5, k7⟩ := HC.out W hW; go_simp⟩) hs ?_
  simp only [Act.put, List.setIfInBounds_toArray, List.set_cons_succ, List.set_cons_zero]
  refine wpAnyH_takeD (i := 11) (d := 19) (v := .int .i64 n3) rfl rfl (by kernel_rfl) (by kernel_rfl) (by kernel_rfl) (fun _ _ _ h => h) (Or.inl ⟨by rfl, fun W hW => by obtain ⟨k1, k3, k5, k7⟩ := HC.out W hW; go_simp⟩) hs ?_
  simp only [Act.put, List.setIfInBounds_toArray, List.set_cons_succ, List.set_cons_zero]
  refine wpAnyH_takeD (i := 13) (d := 21) (v := .pointer (some ⟨w.heap.size, 6, none⟩)) rfl rfl (by kernel_rfl) (by kernel_rfl) (by kernel_rfl) (fun _ _ _ h => h) (Or.inl ⟨by rfl, fun W hW => by obtain ⟨k1, k3, k5, k7⟩ := HC.out W hW; go_simp⟩) hs ?_
  simp only [Act.put, List.setIfInBounds_toArray, List.set_cons_succ, List.set_cons_zero]
  refine wpAnyH_takeD (i := 14) (d := 22) (v := .pointer (some ⟨w.heap.size, 7, none⟩)) rfl rfl (by kernel_rfl) (by kernel_rfl) (by kernel_rfl) (fun _ _ _ h => h) (Or.inl ⟨by rfl, fun W hW => by obtain ⟨k1, k3, k5, k7⟩ := HC.out W hW; go_simp⟩) hs ?_
  simp only [Act.put, List.setIfInBounds_toArray, List.set_cons_succ, List.set_cons_zero]
  refine wpAnyH_takeD (i := 15) (d := 23) (v := .int .i64 n4) rfl rfl (by kernel_rfl) (by kernel_rfl) (by kernel_rfl) (fun _ _ _ h => h) (Or.inl ⟨by rfl, fun W hW => by obtain ⟨k1, k3, k5, k7⟩ := HC.out W hW; go_simp⟩) hs ?_
  simp only [Act.put, List.setIfInBounds_toArray, List.set_cons_succ, List.set_cons_zero]
  refine wpAnyH_ready (rs := [4, 8, 12, 16]) (by kernel_rfl) (by simp) (AllReadyH.cons rfl (fun K hK => ?_) (AllReadyH.cons rfl (fun K hK => ?_) (AllReadyH.cons rfl (fun K hK => ?_) (AllReadyH.cons rfl (fun K hK => ?_) (AllReadyH.nil)))))
  · refine step_make (mk := Value.bool) rfl (.tmp 11) (.tmp 11) 26 rfl 4 ib false 1 Tryz.underlying26 hib0 hib1 hib2 hib3 rfl n1 rfl rfl (by omega) (by decide) 12 rfl (fun W1 r4 x1 s1 => ?_)
    refine hK.out _ _ (x1.block hs) (fun hs => ?_)
    clear hK K
    simp only [Act.put, List.setIfInBounds_toArray, List.set_cons_succ, List.set_cons_zero]
    refine wpAnyH_ready (rs := [8, 12, 16]) (by kernel_rfl) (by simp) (AllReadyH.cons rfl (fun K hK => ?_) (AllReadyH.cons rfl (fun K hK => ?_) (AllReadyH.cons rfl (fun K hK => ?_) (AllReadyH.nil))))
    · refine step_make (mk := Value.bool) rfl (.tmp 15) (.tmp 15) 26 rfl 4 ib false 1 Tryz.underlying26 hib0 hib1 hib2 hib3 rfl n2 rfl rfl (by omega) (by decide) 16 rfl (fun W2 r8 x2 s2 => ?_)
      refine hK.out _ _ (x2.block hs) (fun hs => ?_)
      clear hK K
      simp only [Act.put, List.setIfInBounds_toArray, List.set_cons_succ, List.set_cons_zero]
      refine wpAnyH_ready (rs := [12, 16]) (by kernel_rfl) (by simp) (AllReadyH.cons rfl (fun K hK => ?_) (AllReadyH.cons rfl (fun K hK => ?_) (AllReadyH.nil)))
      · refine step_make (mk := Value.int .u16) rfl (.tmp 19) (.tmp 19) 27 rfl 59 iw 0 2 Tryz.underlying27 hiw0 hiw1 hiw2 hiw3 rfl n3 rfl rfl (by omega) (by decide) 20 rfl (fun W3 r12 x3 s3 => ?_)
        refine hK.out _ _ (x3.block hs) (fun hs => ?_)
        clear hK K
        simp only [Act.put, List.setIfInBounds_toArray, List.set_cons_succ, List.set_cons_zero]
        refine wpAnyH_ready (rs := [16]) (by kernel_rfl) (by simp) (AllReadyH.cons rfl (fun K hK => ?_) (AllReadyH.nil))
        · refine step_make (mk := Value.int .u16) rfl (.tmp 23) (.tmp 23) 27 rfl 59 iw 0 2 Tryz.underlying27 hiw0 hiw1 hiw2 hiw3 rfl n4 rfl rfl (by omega) (by decide) 24 rfl (fun W4 r16 x4 s4 => ?_)
          refine hK.out _ _ (x4.block hs) (fun hs => ?_)
          clear hK K
          simp only [Act.put, List.setIfInBounds_toArray, List.set_cons_succ, List.set_cons_zero]
          have gR := x4.block (x3.block (x2.block (x1.block hR)))
          refine wpAnyH_takeD (i := 17) (d := 25) (v := .agg #[.int .i64 cf, .int .i64 n1, .int .i64 jf, .int .i64 n2, .int .i64 hf, .int .i64 n3, .int .i64 rf, .int .i64 n4, .int .i64 bf, .int .i64 bc, .slice (some ⟨W0.heap.size, 0, none⟩) n1 n1, .slice (some ⟨W1.heap.size, 0, none⟩) n2 n2, .slice (some ⟨W2.heap.size, 0, none⟩) n3 n3, .slice (some ⟨W3.heap.size, 0, none⟩) n4 n4]) rfl rfl (by kernel_rfl) (by kernel_rfl) (by kernel_rfl) (fun _ _ _ h => h) (Or.inl ⟨by rfl, fun W _ => by go_simp⟩) hs ?_
          simp only [Act.put, List.setIfInBounds_toArray, List.set_cons_succ, List.set_cons_zero]
          refine wpAnyH_ready (rs := [18]) (by kernel_rfl) (by simp) (AllReadyH.cons rfl (fun K hK => ?_) AllReadyH.nil)
          refine step_store_row rfl 29 (.tmp 2) (.tmp 25) rfl (w.heap.size + 1) _ rfl rfl 29 _ gR (by kernel_rfl) rfl (by simp [Value.oneCell']) rfl ?_
          refine hK.out _ _ ((setRow_other _ _ _ _ (by omega)).trans hs) (fun hs => ?_)
          clear hK K
          simp only [Act.put]
          refine wpAnyH_takeD (i := 19) (d := 3) (v := .int .i64 0) rfl rfl (by kernel_rfl) (by kernel_rfl) (by kernel_rfl) (fun _ _ _ h => h) (Or.inl ⟨by rfl, fun W hW => by go_simp⟩) hs ?_
          simp only [Act.put, List.setIfInBounds_toArray, List.set_cons_succ, List.set_cons_zero]
          refine wpAnyH_done (by kernel_rfl) ?_ _
          have hold := HEnd.out W0 W4 W0.heap.size W1.heap.size W2.heap.size W3.heap.size hx0 hs0 (((x1.trans x2).trans x3).trans x4) ⟨((((Row.holds r4).ext x2).ext x3).ext x4), (((Row.holds r8).ext x3).ext x4), ((Row.holds r12).ext x4), (Row.holds r16)⟩ (by omega) (by omega) (by omega) (by omega)
          clear s1 s2 s3 s4 hs0
          go_wp2_with fail
          refine bodyPost_ret (results_row_tmp rfl _ _ (w.heap.size + 1) 29 _ (0, 0) _ rfl (setRow_heap _ _ _ _ _ _ gR) Tryz.underlying29 rfl (by kernel_rfl)) rfl ⟨⟨some ⟨W0.heap.size, 0, none⟩, n1, some ⟨W1.heap.size, 0, none⟩, n2, some ⟨W2.heap.size, 0, none⟩, n3, some ⟨W3.heap.size, 0, none⟩, n4⟩, by rfl, hold.1 _, hold.2.1 _, ⟨.inr hold.2.2.1, .inr hold.2.2.2.1, .inr hold.2.2.2.2.1, .inr hold.2.2.2.2.2⟩⟩
      · refine step_make (mk := Value.int .u16) rfl (.tmp 23) (.tmp 23) 27 rfl 59 iw 0 2 Tryz.underlying27 hiw0 hiw1 hiw2 hiw3 rfl n4 rfl rfl (by omega) (by decide) 24 rfl (fun W3 r16 x3 s3 => ?_)
        refine hK.out _ _ (x3.block hs) (fun hs => ?_)
        clear hK K
        simp only [Act.put, List.setIfInBounds_toArray, List.set_cons_succ, List.set_cons_zero]
        refine wpAnyH_ready (rs := [12]) (by kernel_rfl) (by simp) (AllReadyH.cons rfl (fun K hK => ?_) (AllReadyH.nil))
        · refine step_make (mk := Value.int .u16) rfl (.tmp 19) (.tmp 19) 27 rfl 59 iw 0 2 Tryz.underlying27 hiw0 hiw1 hiw2 hiw3 rfl n3 rfl rfl (by omega) (by decide) 20 rfl (fun W4 r12 x4 s4 => ?_)
          refine hK.out _ _ (x4.block hs) (fun hs => ?_)
          clear hK K
          simp only [Act.put, List.setIfInBounds_toArray, List.set_cons_succ, List.set_cons_zero]
          have gR := x4.block (x3.block (x2.block (x1.block hR)))
          refine wpAnyH_takeD (i := 17) (d := 25) (v := .agg #[.int .i64 cf, .int .i64 n1, .int .i64 jf, .int .i64 n2, .int .i64 hf, .int .i64 n3, .int .i64 rf, .int .i64 n4, .int .i64 bf, .int .i64 bc, .slice (some ⟨W0.heap.size, 0, none⟩) n1 n1, .slice (some ⟨W1.heap.size, 0, none⟩) n2 n2, .slice (some ⟨W3.heap.size, 0, none⟩) n3 n3, .slice (some ⟨W2.heap.size, 0, none⟩) n4 n4]) rfl rfl (by kernel_rfl) (by kernel_rfl) (by kernel_rfl) (fun _ _ _ h => h) (Or.inl ⟨by rfl, fun W _ => by go_simp⟩) hs ?_
          simp only [Act.put, List.setIfInBounds_toArray, List.set_cons_succ, List.set_cons_zero]
          refine wpAnyH_ready (rs := [18]) (by kernel_rfl) (by simp) (AllReadyH.cons rfl (fun K hK => ?_) AllReadyH.nil)
          refine step_store_row rfl 29 (.tmp 2) (.tmp 25) rfl (w.heap.size + 1) _ rfl rfl 29 _ gR (by kernel_rfl) rfl (by simp [Value.oneCell']) rfl ?_
          refine hK.out _ _ ((setRow_other _ _ _ _ (by omega)).trans hs) (fun hs => ?_)
          clear hK K
          simp only [Act.put]
          refine wpAnyH_takeD (i := 19) (d := 3) (v := .int .i64 0) rfl rfl (by kernel_rfl) (by kernel_rfl) (by kernel_rfl) (fun _ _ _ h => h) (Or.inl ⟨by rfl, fun W hW => by go_simp⟩) hs ?_
          simp only [Act.put, List.setIfInBounds_toArray, List.set_cons_succ, List.set_cons_zero]
          refine wpAnyH_done (by kernel_rfl) ?_ _
          have hold := HEnd.out W0 W4 W0.heap.size W1.heap.size W3.heap.size W2.heap.size hx0 hs0 (((x1.trans x2).trans x3).trans x4) ⟨((((Row.holds r4).ext x2).ext x3).ext x4), (((Row.holds r8).ext x3).ext x4), (Row.holds r12), ((Row.holds r16).ext x4)⟩ (by omega) (by omega) (by omega) (by omega)
          clear s1 s2 s3 s4 hs0
          go_wp2_with fail
          refine bodyPost_ret (results_row_tmp rfl _ _ (w.heap.size + 1) 29 _ (0, 0) _ rfl (setRow_heap _ _ _ _ _ _ gR) Tryz.underlying29 rfl (by kernel_rfl)) rfl ⟨⟨some ⟨W0.heap.size, 0, none⟩, n1, some ⟨W1.heap.size, 0, none⟩, n2, some ⟨W3.heap.size, 0, none⟩, n3, some ⟨W2.heap.size, 0, none⟩, n4⟩, by rfl, hold.1 _, hold.2.1 _, ⟨.inr hold.2.2.1, .inr hold.2.2.2.1, .inr hold.2.2.2.2.1, .inr hold.2.2.2.2.2⟩⟩
    · refine step_make (mk := Value.int .u16) rfl (.tmp 19) (.tmp 19) 27 rfl 59 iw 0 2 Tryz.underlying27 hiw0 hiw1 hiw2 hiw3 rfl n3 rfl rfl (by omega) (by decide) 20 rfl (fun W2 r12 x2 s2 => ?_)
      refine hK.out _ _ (x2.block hs) (fun hs => ?_)
      clear hK K
      simp only [Act.put, List.setIfInBounds_toArray, List.set_cons_succ, List.set_cons_zero]
      refine wpAnyH_ready (rs := [8, 16]) (by kernel_rfl) (by simp) (AllReadyH.cons rfl (fun K hK => ?_) (AllReadyH.cons rfl (fun K hK => ?_) (AllReadyH.nil)))
      · refine step_make (mk := Value.bool) rfl (.tmp 15) (.tmp 15) 26 rfl 4 ib false 1 Tryz.underlying26 hib0 hib1 hib2 hib3 rfl n2 rfl rfl (by omega) (by decide) 16 rfl (fun W3 r8 x3 s3 => ?_)
        refine hK.out _ _ (x3.block hs) (fun hs => ?_)
        clear hK K
        simp only [Act.put, List.setIfInBounds_toArray, List.set_cons_succ, List.set_cons_zero]
        refine wpAnyH_ready (rs := [16]) (by kernel_rfl) (by simp) (AllReadyH.cons rfl (fun K hK => ?_) (AllReadyH.nil))
        · refine step_make (mk := Value.int .u16) rfl (.tmp 23) (.tmp 23) 27 rfl 59 iw 0 2 Tryz.underlying27 hiw0 hiw1 hiw2 hiw3 rfl n4 rfl rfl (by omega) (by decide) 24 rfl (fun W4 r16 x4 s4 => ?_)
          refine hK.out _ _ (x4.block hs) (fun hs => ?_)
          clear hK K
          simp only [Act.put, List.setIfInBounds_toArray, List.set_cons_succ, List.set_cons_zero]
          have gR := x4.block (x3.block (x2.block (x1.block hR)))
          refine wpAnyH_takeD (i := 17) (d := 25) (v := .agg #[.int .i64 cf, .int .i64 n1, .int .i64 jf, .int .i64 n2, .int .i64 hf, .int .i64 n3, .int .i64 rf, .int .i64 n4, .int .i64 bf, .int .i64 bc, .slice (some ⟨W0.heap.size, 0, none⟩) n1 n1, .slice (some ⟨W2.heap.size, 0, none⟩) n2 n2, .slice (some ⟨W1.heap.size, 0, none⟩) n3 n3, .slice (some ⟨W3.heap.size, 0, none⟩) n4 n4]) rfl rfl (by kernel_rfl) (by kernel_rfl) (by kernel_rfl) (fun _ _ _ h => h) (Or.inl ⟨by rfl, fun W _ => by go_simp⟩) hs ?_
          simp only [Act.put, List.setIfInBounds_toArray, List.set_cons_succ, List.set_cons_zero]
          refine wpAnyH_ready (rs := [18]) (by kernel_rfl) (by simp) (AllReadyH.cons rfl (fun K hK => ?_) AllReadyH.nil)
          refine step_store_row rfl 29 (.tmp 2) (.tmp 25) rfl (w.heap.size + 1) _ rfl rfl 29 _ gR (by kernel_rfl) rfl (by simp [Value.oneCell']) rfl ?_
          refine hK.out _ _ ((setRow_other _ _ _ _ (by omega)).trans hs) (fun hs => ?_)
          clear hK K
          simp only [Act.put]
          refine wpAnyH_takeD (i := 19) (d := 3) (v := .int .i64 0) rfl rfl (by kernel_rfl) (by kernel_rfl) (by kernel_rfl) (fun _ _ _ h => h) (Or.inl ⟨by rfl, fun W hW => by go_simp⟩) hs ?_
          simp only [Act.put, List.setIfInBounds_toArray, List.set_cons_succ, List.set_cons_zero]
          refine wpAnyH_done (by kernel_rfl) ?_ _
          have hold := HEnd.out W0 W4 W0.heap.size W2.heap.size W1.heap.size W3.heap.size hx0 hs0 (((x1.trans x2).trans x3).trans x4) ⟨((((Row.holds r4).ext x2).ext x3).ext x4), ((Row.holds r8).ext x4), (((Row.holds r12).ext x3).ext x4), (Row.holds r16)⟩ (by omega) (by omega) (by omega) (by omega)
          clear s1 s2 s3 s4 hs0
          go_wp2_with fail
          refine bodyPost_ret (results_row_tmp rfl _ _ (w.heap.size + 1) 29 _ (0, 0) _ rfl (setRow_heap _ _ _ _ _ _ gR) Tryz.underlying29 rfl (by kernel_rfl)) rfl ⟨⟨some ⟨W0.heap.size, 0, none⟩, n1, some ⟨W2.heap.size, 0, none⟩, n2, some ⟨W1.heap.size, 0, none⟩, n3, some ⟨W3.heap.size, 0, none⟩, n4⟩, by rfl, hold.1 _, hold.2.1 _, ⟨.inr hold.2.2.1, .inr hold.2.2.2.1, .inr hold.2.2.2.2.1, .inr hold.2.2.2.2.2⟩⟩
      · refine step_make (mk := Value.int .u16) rfl (.tmp 23) (.tmp 23) 27 rfl 59 iw 0 2 Tryz.underlying27 hiw0 hiw1 hiw2 hiw3 rfl n4 rfl rfl (by omega) (by decide) 24 rfl (fun W3 r16 x3 s3 => ?_)
        refine hK.out _ _ (x3.block hs) (fun hs => ?_)
        clear hK K
        simp only [Act.put, List.setIfInBounds_toArray, List.set_cons_succ, List.set_cons_zero]
        refine wpAnyH_ready (rs := [8]) (by kernel_rfl) (by simp) (AllReadyH.cons rfl (fun K hK => ?_) (AllReadyH.nil))
        · refine step_make (mk := Value.bool) rfl (.tmp 15) (.tmp 15) 26 rfl 4 ib false 1 Tryz.underlying26 hib0 hib1 hib2 hib3 rfl n2 rfl rfl (by omega) (by decide) 16 rfl (fun W4 r8 x4 s4 => ?_)
          refine hK.out _ _ (x4.block hs) (fun hs => ?_)
          clear hK K
          simp only [Act.put, List.setIfInBounds_toArray, List.set_cons_succ, List.set_cons_zero]
          have gR := x4.block (x3.block (x2.block (x1.block hR)))
          refine wpAnyH_takeD (i := 17) (d := 25) (v := .agg #[.int .i64 cf, .int .i64 n1, .int .i64 jf, .int .i64 n2, .int .i64 hf, .int .i64 n3, .int .i64 rf, .int .i64 n4, .int .i64 bf, .int .i64 bc, .slice (some ⟨W0.heap.size, 0, none⟩) n1 n1, .slice (some ⟨W3.heap.size, 0, none⟩) n2 n2, .slice (some ⟨W1.heap.size, 0, none⟩) n3 n3, .slice (some ⟨W2.heap.size, 0, none⟩) n4 n4]) rfl rfl (by kernel_rfl) (by kernel_rfl) (by kernel_rfl) (fun _ _ _ h => h) (Or.inl ⟨by rfl, fun W _ => by go_simp⟩) hs ?_
          simp only [Act.put, List.setIfInBounds_toArray, List.set_cons_succ, List.set_cons_zero]
          refine wpAnyH_ready (rs := [18]) (by kernel_rfl) (by simp) (AllReadyH.cons rfl (fun K hK => ?_) AllReadyH.nil)
          refine step_store_row rfl 29 (.tmp 2) (.tmp 25) rfl (w.heap.size + 1) _ rfl rfl 29 _ gR (by kernel_rfl) rfl (by simp [Value.oneCell']) rfl ?_
          refine hK.out _ _ ((setRow_other _ _ _ _ (by omega)).trans hs) (fun hs => ?_)
          clear hK K
          simp only [Act.put]
          refine wpAnyH_takeD (i := 19) (d := 3) (v := .int .i64 0) rfl rfl (by kernel_rfl) (by kernel_rfl) (by kernel_rfl) (fun _ _ _ h => h) (Or.inl ⟨by rfl, fun W hW => by go_simp⟩) hs ?_
          simp only [Act.put, List.setIfInBounds_toArray, List.set_cons_succ, List.set_cons_zero]
          refine wpAnyH_done (by kernel_rfl) ?_ _
          have hold := HEnd.out W0 W4 W0.heap.size W3.heap.size W1.heap.size W2.heap.size hx0 hs0 (((x1.trans x2).trans x3).trans x4) ⟨((((Row.holds r4).ext x2).ext x3).ext x4), (Row.holds r8), (((Row.holds r12).ext x3).ext x4), ((Row.holds r16).ext x4)⟩ (by omega) (by omega) (by omega) (by omega)
          clear s1 s2 s3 s4 hs0
          go_wp2_with fail
          refine bodyPost_ret (results_row_tmp rfl _ _ (w.heap.size + 1) 29 _ (0, 0) _ rfl (setRow_heap _ _ _ _ _ _ gR) Tryz.underlying29 rfl (by kernel_rfl)) rfl ⟨⟨some ⟨W0.heap.size, 0, none⟩, n1, some ⟨W3.heap.size, 0, none⟩, n2, some ⟨W1.heap.size, 0, none⟩, n3, some ⟨W2.heap.size, 0, none⟩, n4⟩, by rfl, hold.1 _, hold.2.1 _, ⟨.inr hold.2.2.1, .inr hold.2.2.2.1, .inr hold.2.2.2.2.1, .inr hold.2.2.2.2.2⟩⟩
    · refine step_make (mk := Value.int .u16) rfl (.tmp 23) (.tmp 23) 27 rfl 59 iw 0 2 Tryz.underlying27 hiw0 hiw1 hiw2 hiw3 rfl n4 rfl rfl (by omega) (by decide) 24 rfl (fun W2 r16 x2 s2 => ?_)
      refine hK.out _ _ (x2.block hs) (fun hs => ?_)
      clear hK K
      simp only [Act.put, List.setIfInBounds_toArray, List.set_cons_succ, List.set_cons_zero]
      refine wpAnyH_ready (rs := [8, 12]) (by kernel_rfl) (by simp) (AllReadyH.cons rfl (fun K hK => ?_) (AllReadyH.cons rfl (fun K hK => ?_) (AllReadyH.nil)))
      · refine step_make (mk := Value.bool) rfl (.tmp 15) (.tmp 15) 26 rfl 4 ib false 1 Tryz.underlying26 hib0 hib1 hib2 hib3 rfl n2 rfl rfl (by omega) (by decide) 16 rfl (fun W3 r8 x3 s3 => ?_)
        refine hK.out _ _ (x3.block hs) (fun hs => ?_)
        clear hK K
        simp only [Act.put, List.setIfInBounds_toArray, List.set_cons_succ, List.set_cons_zero]
        refine wpAnyH_ready (rs := [12]) (by kernel_rfl) (by simp) (AllReadyH.cons rfl (fun K hK => ?_) (AllReadyH.nil))
        · refine step_make (mk := Value.int .u16) rfl (.tmp 19) (.tmp 19) 27 rfl 59 iw 0 2 Tryz.underlying27 hiw0 hiw1 hiw2 hiw3 rfl n3 rfl rfl (by omega) (by decide) 20 rfl (fun W4 r12 x4 s4 => ?_)
          refine hK.out _ _ (x4.block hs) (fun hs => ?_)
          clear hK K
          simp only [Act.put, List.setIfInBounds_toArray, List.set_cons_succ, List.set_cons_zero]
          have gR := x4.block (x3.block (x2.block (x1.block hR)))
          refine wpAnyH_takeD (i := 17) (d := 25) (v := .agg #[.int .i64 cf, .int .i64 n1, .int .i64 jf, .int .i64 n2, .int .i64 hf, .int .i64 n3, .int .i64 rf, .int .i64 n4, .int .i64 bf, .int .i64 bc, .slice (some ⟨W0.heap.size, 0, none⟩) n1 n1, .slice (some ⟨W2.heap.size, 0, none⟩) n2 n2, .slice (some ⟨W3.heap.size, 0, none⟩) n3 n3, .slice (some ⟨W1.heap.size, 0, none⟩) n4 n4]) rfl rfl (by kernel_rfl) (by kernel_rfl) (by kernel_rfl) (fun _ _ _ h => h) (Or.inl ⟨by rfl, fun W _ => by go_simp⟩) hs ?_
          simp only [Act.put, List.setIfInBounds_toArray, List.set_cons_succ, List.set_cons_zero]
          refine wpAnyH_ready (rs := [18]) (by kernel_rfl) (by simp) (AllReadyH.cons rfl (fun K hK => ?_) AllReadyH.nil)
          refine step_store_row rfl 29 (.tmp 2) (.tmp 25) rfl (w.heap.size + 1) _ rfl rfl 29 _ gR (by kernel_rfl) rfl (by simp [Value.oneCell']) rfl ?_
          refine hK.out _ _ ((setRow_other _ _ _ _ (by omega)).trans hs) (fun hs => ?_)
          clear hK K
          simp only [Act.put]
          refine wpAnyH_takeD (i := 19) (d := 3) (v := .int .i64 0) rfl rfl (by kernel_rfl) (by kernel_rfl) (by kernel_rfl) (fun _ _ _ h => h) (Or.inl ⟨by rfl, fun W hW => by go_simp⟩) hs ?_
          simp only [Act.put, List.setIfInBounds_toArray, List.set_cons_succ, List.set_cons_zero]
          refine wpAnyH_done (by kernel_rfl) ?_ _
          have hold := HEnd.out W0 W4 W0.heap.size W2.heap.size W3.heap.size W1.heap.size hx0 hs0 (((x1.trans x2).trans x3).trans x4) ⟨((((Row.holds r4).ext x2).ext x3).ext x4), ((Row.holds r8).ext x4), (Row.holds r12), (((Row.holds r16).ext x3).ext x4)⟩ (by omega) (by omega) (by omega) (by omega)
          clear s1 s2 s3 s4 hs0
          go_wp2_with fail
          refine bodyPost_ret (results_row_tmp rfl _ _ (w.heap.size + 1) 29 _ (0, 0) _ rfl (setRow_heap _ _ _ _ _ _ gR) Tryz.underlying29 rfl (by kernel_rfl)) rfl ⟨⟨some ⟨W0.heap.size, 0, none⟩, n1, some ⟨W2.heap.size, 0, none⟩, n2, some ⟨W3.heap.size, 0, none⟩, n3, some ⟨W1.heap.size, 0, none⟩, n4⟩, by rfl, hold.1 _, hold.2.1 _, ⟨.inr hold.2.2.1, .inr hold.2.2.2.1, .inr hold.2.2.2.2.1, .inr hold.2.2.2.2.2⟩⟩
      · refine step_make (mk := Value.int .u16) rfl (.tmp 19) (.tmp 19) 27 rfl 59 iw 0 2 Tryz.underlying27 hiw0 hiw1 hiw2 hiw3 rfl n3 rfl rfl (by omega) (by decide) 20 rfl (fun W3 r12 x3 s3 => ?_)
        refine hK.out _ _ (x3.block hs) (fun hs => ?_)
        clear hK K
        simp only [Act.put, List.setIfInBounds_toArray, List.set_cons_succ, List.set_cons_zero]
        refine wpAnyH_ready (rs := [8]) (by kernel_rfl) (by simp) (AllReadyH.cons rfl (fun K hK => ?_) (AllReadyH.nil))
        · refine step_make (mk := Value.bool) rfl (.tmp 15) (.tmp 15) 26 rfl 4 ib false 1 Tryz.underlying26 hib0 hib1 hib2 hib3 rfl n2 rfl rfl (by omega) (by decide) 16 rfl (fun W4 r8 x4 s4 => ?_)
          refine hK.out _ _ (x4.block hs) (fun hs => ?_)
          clear hK K
          simp only [Act.put, List.setIfInBounds_toArray, List.set_cons_succ, List.set_cons_zero]
          have gR := x4.block (x3.block (x2.block (x1.block hR)))
          refine wpAnyH_takeD (i := 17) (d := 25) (v := .agg #[.int .i64 cf, .int .i64 n1, .int .i64 jf, .int .i64 n2, .int .i64 hf, .int .i64 n3, .int .i64 rf, .int .i64 n4, .int .i64 bf, .int .i64 bc, .slice (some ⟨W0.heap.size, 0, none⟩) n1 n1, .slice (some ⟨W3.heap.size, 0, none⟩) n2 n2, .slice (some ⟨W2.heap.size, 0, none⟩) n3 n3, .slice (some ⟨W1.heap.size, 0, none⟩) n4 n4]) rfl rfl (by kernel_rfl) (by kernel_rfl) (by kernel_rfl) (fun _ _ _ h => h) (Or.inl ⟨by rfl, fun W _ => by go_simp⟩) hs ?_
          simp only [Act.put, List.setIfInBounds_toArray, List.set_cons_succ, List.set_cons_zero]
          refine wpAnyH_ready (rs := [18]) (by kernel_rfl) (by simp) (AllReadyH.cons rfl (fun K hK => ?_) AllReadyH.nil)
          refine step_store_row rfl 29 (.tmp 2) (.tmp 25) rfl (w.heap.size + 1) _ rfl rfl 29 _ gR (by kernel_rfl) rfl (by simp [Value.oneCell']) rfl ?_
          refine hK.out _ _ ((setRow_other _ _ _ _ (by omega)).trans hs) (fun hs => ?_)
          clear hK K
          simp only [Act.put]
          refine wpAnyH_takeD (i := 19) (d := 3) (v := .int .i64 0) rfl rfl (by kernel_rfl) (by kernel_rfl) (by kernel_rfl) (fun _ _ _ h => h) (Or.inl ⟨by rfl, fun W hW => by go_simp⟩) hs ?_
          simp only [Act.put, List.setIfInBounds_toArray, List.set_cons_succ, List.set_cons_zero]
          refine wpAnyH_done (by kernel_rfl) ?_ _
          have hold := HEnd.out W0 W4 W0.heap.size W3.heap.size W2.heap.size W1.heap.size hx0 hs0 (((x1.trans x2).trans x3).trans x4) ⟨((((Row.holds r4).ext x2).ext x3).ext x4), (Row.holds r8), ((Row.holds r12).ext x4), (((Row.holds r16).ext x3).ext x4)⟩ (by omega) (by omega) (by omega) (by omega)
          clear s1 s2 s3 s4 hs0
          go_wp2_with fail
          refine bodyPost_ret (results_row_tmp rfl _ _ (w.heap.size + 1) 29 _ (0, 0) _ rfl (setRow_heap _ _ _ _ _ _ gR) Tryz.underlying29 rfl (by kernel_rfl)) rfl ⟨⟨some ⟨W0.heap.size, 0, none⟩, n1, some ⟨W3.heap.size, 0, none⟩, n2, some ⟨W2.heap.size, 0, none⟩, n3, some ⟨W1.heap.size, 0, none⟩, n4⟩, by rfl, hold.1 _, hold.2.1 _, ⟨.inr hold.2.2.1, .inr hold.2.2.2.1, .inr hold.2.2.2.2.1, .inr hold.2.2.2.2.2⟩⟩
  · refine step_make (mk := Value.bool) rfl (.tmp 15) (.tmp 15) 26 rfl 4 ib false 1 Tryz.underlying26 hib0 hib1 hib2 hib3 rfl n2 rfl rfl (by omega) (by decide) 16 rfl (fun W1 r8 x1 s1 => ?_)
    refine hK.out _ _ (x1.block hs) (fun hs => ?_)
    clear hK K
    simp only [Act.put, List.setIfInBounds_toArray, List.set_cons_succ, List.set_cons_zero]
    refine wpAnyH_ready (rs := [4, 12, 16]) (by kernel_rfl) (by simp) (AllReadyH.cons rfl (fun K hK => ?_) (AllReadyH.cons rfl (fun K hK => ?_) (AllReadyH.cons rfl (fun K hK => ?_) (AllReadyH.nil))))
    · refine step_make (mk := Value.bool) rfl (.tmp 11) (.tmp 11) 26 rfl 4 ib false 1 Tryz.underlying26 hib0 hib1 hib2 hib3 rfl n1 rfl rfl (by omega) (by decide) 12 rfl (fun W2 r4 x2 s2 => ?_)
      refine hK.out _ _ (x2.block hs) (fun hs => ?_)
      clear hK K
      simp only [Act.put, List.setIfInBounds_toArray, List.set_cons_succ, List.set_cons_zero]
      refine wpAnyH_ready (rs := [12, 16]) (by kernel_rfl) (by simp) (AllReadyH.cons rfl (fun K hK => ?_) (AllReadyH.cons rfl (fun K hK => ?_) (AllReadyH.nil)))
      · refine step_make (mk := Value.int .u16) rfl (.tmp 19) (.tmp 19) 27 rfl 59 iw 0 2 Tryz.underlying27 hiw0 hiw1 hiw2 hiw3 rfl n3 rfl rfl (by omega) (by decide) 20 rfl (fun W3 r12 x3 s3 => ?_)
        refine hK.out _ _ (x3.block hs) (fun hs => ?_)
        clear hK K
        simp only [Act.put, List.setIfInBounds_toArray, List.set_cons_succ, List.set_cons_zero]
        refine wpAnyH_ready (rs := [16]) (by kernel_rfl) (by simp) (AllReadyH.cons rfl (fun K hK => ?_) (AllReadyH.nil))
        · refine step_make (mk := Value.int .u16) rfl (.tmp 23) (.tmp 23) 27 rfl 59 iw 0 2 Tryz.underlying27 hiw0 hiw1 hiw2 hiw3 rfl n4 rfl rfl (by omega) (by decide) 24 rfl (fun W4 r16 x4 s4 => ?_)
          refine hK.out _ _ (x4.block hs) (fun hs => ?_)
          clear hK K
          simp only [Act.put, List.setIfInBounds_toArray, List.set_cons_succ, List.set_cons_zero]
          have gR := x4.block (x3.block (x2.block (x1.block hR)))
          refine wpAnyH_takeD (i := 17) (d := 25) (v := .agg #[.int .i64 cf, .int .i64 n1, .int .i64 jf, .int .i64 n2, .int .i64 hf, .int .i64 n3, .int .i64 rf, .int .i64 n4, .int .i64 bf, .int .i64 bc, .slice (some ⟨W1.heap.size, 0, none⟩) n1 n1, .slice (some ⟨W0.heap.size, 0, none⟩) n2 n2, .slice (some ⟨W2.heap.size, 0, none⟩) n3 n3, .slice (some ⟨W3.heap.size, 0, none⟩) n4 n4]) rfl rfl (by kernel_rfl) (by kernel_rfl) (by kernel_rfl) (fun _ _ _ h => h) (Or.inl ⟨by rfl, fun W _ => by go_simp⟩) hs ?_
          simp only [Act.put, List.setIfInBounds_toArray, List.set_cons_succ, List.set_cons_zero]
          refine wpAnyH_ready (rs := [18]) (by kernel_rfl) (by simp) (AllReadyH.cons rfl (fun K hK => ?_) AllReadyH.nil)
          refine step_store_row rfl 29 (.tmp 2) (.tmp 25) rfl (w.heap.size + 1) _ rfl rfl 29 _ gR (by kernel_rfl) rfl (by simp [Value.oneCell']) rfl ?_
          refine hK.out _ _ ((setRow_other _ _ _ _ (by omega)).trans hs) (fun hs => ?_)
          clear hK K
          simp only [Act.put]
          refine wpAnyH_takeD (i := 19) (d := 3) (v := .int .i64 0) rfl rfl (by kernel_rfl) (by kernel_rfl) (by kernel_rfl) (fun _ _ _ h => h) (Or.inl ⟨by rfl, fun W hW => by go_simp⟩) hs ?_
          simp only [Act.put, List.setIfInBounds_toArray, List.set_cons_succ, List.set_cons_zero]
          refine wpAnyH_done (by kernel_rfl) ?_ _
          have hold := HEnd.out W0 W4 W1.heap.size W0.heap.size W2.heap.size W3.heap.size hx0 hs0 (((x1.trans x2).trans x3).trans x4) ⟨(((Row.holds r4).ext x3).ext x4), ((((Row.holds r8).ext x2).ext x3).ext x4), ((Row.holds r12).ext x4), (Row.holds r16)⟩ (by omega) (by omega) (by omega) (by omega)
          clear s1 s2 s3 s4 hs0
          go_wp2_with fail
          refine bodyPost_ret (results_row_tmp rfl _ _ (w.heap.size + 1) 29 _ (0, 0) _ rfl (setRow_heap _ _ _ _ _ _ gR) Tryz.underlying29 rfl (by kernel_rfl)) rfl ⟨⟨some ⟨W1.heap.size, 0, none⟩, n1, some ⟨W0.heap.size, 0, none⟩, n2, some ⟨W2.heap.size, 0, none⟩, n3, some ⟨W3.heap.size, 0, none⟩, n4⟩, by rfl, hold.1 _, hold.2.1 _, ⟨.inr hold.2.2.1, .inr hold.2.2.2.1, .inr hold.2.2.2.2.1, .inr hold.2.2.2.2.2⟩⟩
      · refine step_make (mk := Value.int .u16) rfl (.tmp 23) (.tmp 23) 27 rfl 59 iw 0 2 Tryz.underlying27 hiw0 hiw1 hiw2 hiw3 rfl n4 rfl rfl (by omega) (by decide) 24 rfl (fun W3 r16 x3 s3 => ?_)
        refine hK.out _ _ (x3.block hs) (fun hs => ?_)
        clear hK K
        simp only [Act.put, List.setIfInBounds_toArray, List.set_cons_succ, List.set_cons_zero]
        refine wpAnyH_ready (rs := [12]) (by kernel_rfl) (by simp) (AllReadyH.cons rfl (fun K hK => ?_) (AllReadyH.nil))
        · refine step_make (mk := Value.int .u16) rfl (.tmp 19) (.tmp 19) 27 rfl 59 iw 0 2 Tryz.underlying27 hiw0 hiw1 hiw2 hiw3 rfl n3 rfl rfl (by omega) (by decide) 20 rfl (fun W4 r12 x4 s4 => ?_)
          refine hK.out _ _ (x4.block hs) (fun hs => ?_)
          clear hK K
          simp only [Act.put, List.setIfInBounds_toArray, List.set_cons_succ, List.set_cons_zero]
          have gR := x4.block (x3.block (x2.block (x1.block hR)))
          refine wpAnyH_takeD (i := 17) (d := 25) (v := .agg #[.int .i64 cf, .int .i64 n1, .int .i64 jf, .int .i64 n2, .int .i64 hf, .int .i64 n3, .int .i64 rf, .int .i64 n4, .int .i64 bf, .int .i64 bc, .slice (some ⟨W1.heap.size, 0, none⟩) n1 n1, .slice (some ⟨W0.heap.size, 0, none⟩) n2 n2, .slice (some ⟨W3.heap.size, 0, none⟩) n3 n3, .slice (some ⟨W2.heap.size, 0, none⟩) n4 n4]) rfl rfl (by kernel_rfl) (by kernel_rfl) (by kernel_rfl) (fun _ _ _ h => h) (Or.inl ⟨by rfl, fun W _ => by go_simp⟩) hs ?_
          simp only [Act.put, List.setIfInBounds_toArray, List.set_cons_succ, List.set_cons_zero]
          refine wpAnyH_ready (rs := [18]) (by kernel_rfl) (by simp) (AllReadyH.cons rfl (fun K hK => ?_) AllReadyH.nil)
          refine step_store_row rfl 29 (.tmp 2) (.tmp 25) rfl (w.heap.size + 1) _ rfl rfl 29 _ gR (by kernel_rfl) rfl (by simp [Value.oneCell']) rfl ?_
          refine hK.out _ _ ((setRow_other _ _ _ _ (by omega)).trans hs) (fun hs => ?_)
          clear hK K
          simp only [Act.put]
          refine wpAnyH_takeD (i := 19) (d := 3) (v := .int .i64 0) rfl rfl (by kernel_rfl) (by kernel_rfl) (by kernel_rfl) (fun _ _ _ h => h) (Or.inl ⟨by rfl, fun W hW => by go_simp⟩) hs ?_
          simp only [Act.put, List.setIfInBounds_toArray, List.set_cons_succ, List.set_cons_zero]
          refine wpAnyH_done (by kernel_rfl) ?_ _
          have hold := HEnd.out W0 W4 W1.heap.size W0.heap.size W3.heap.size W2.heap.size hx0 hs0 (((x1.trans x2).trans x3).trans x4) ⟨(((Row.holds r4).ext x3).ext x4), ((((Row.holds r8).ext x2).ext x3).ext x4), (Row.holds r12), ((Row.holds r16).ext x4)⟩ (by omega) (by omega) (by omega) (by omega)
          clear s1 s2 s3 s4 hs0
          go_wp2_with fail
          refine bodyPost_ret (results_row_tmp rfl _ _ (w.heap.size + 1) 29 _ (0, 0) _ rfl (setRow_heap _ _ _ _ _ _ gR) Tryz.underlying29 rfl (by kernel_rfl)) rfl ⟨⟨some ⟨W1.heap.size, 0, none⟩, n1, some ⟨W0.heap.size, 0, none⟩, n2, some ⟨W3.heap.size, 0, none⟩, n3, some ⟨W2.heap.size, 0, none⟩, n4⟩, by rfl, hold.1 _, hold.2.1 _, ⟨.inr hold.2.2.1, .inr hold.2.2.2.1, .inr hold.2.2.2.2.1, .inr hold.2.2.2.2.2⟩⟩
    · refine step_make (mk := Value.int .u16) rfl (.tmp 19) (.tmp 19) 27 rfl 59 iw 0 2 Tryz.underlying27 hiw0 hiw1 hiw2 hiw3 rfl n3 rfl rfl (by omega) (by decide) 20 rfl (fun W2 r12 x2 s2 => ?_)
      refine hK.out _ _ (x2.block hs) (fun hs => ?_)
      clear hK K
      simp only [Act.put, List.setIfInBounds_toArray, List.set_cons_succ, List.set_cons_zero]
      refine wpAnyH_ready (rs := [4, 16]) (by kernel_rfl) (by simp) (AllReadyH.cons rfl (fun K hK => ?_) (AllReadyH.cons rfl (fun K hK => ?_) (AllReadyH.nil)))
      · refine step_make (mk := Value.bool) rfl (.tmp 11) (.tmp 11) 26 rfl 4 ib false 1 Tryz.underlying26 hib0 hib1 hib2 hib3 rfl n1 rfl rfl (by omega) (by decide) 12 rfl (fun W3 r4 x3 s3 => ?_)
        refine hK.out _ _ (x3.block hs) (fun hs => ?_)
        clear hK K
        simp only [Act.put, List.setIfInBounds_toArray, List.set_cons_succ, List.set_cons_zero]
        refine wpAnyH_ready (rs := [16]) (by kernel_rfl) (by simp) (AllReadyH.cons rfl (fun K hK => ?_) (AllReadyH.nil))
        · refine step_make (mk := Value.int .u16) rfl (.tmp 23) (.tmp 23) 27 rfl 59 iw 0 2 Tryz.underlying27 hiw0 hiw1 hiw2 hiw3 rfl n4 rfl rfl (by omega) (by decide) 24 rfl (fun W4 r16 x4 s4 => ?_)
          refine hK.out _ _ (x4.block hs) (fun hs => ?_)
          clear hK K
          simp only [Act.put, List.setIfInBounds_toArray, List.set_cons_succ, List.set_cons_zero]
          have gR := x4.block (x3.block (x2.block (x1.block hR)))
          refine wpAnyH_takeD (i := 17) (d := 25) (v := .agg #[.int .i64 cf, .int .i64 n1, .int .i64 jf, .int .i64 n2, .int .i64 hf, .int .i64 n3, .int .i64 rf, .int .i64 n4, .int .i64 bf, .int .i64 bc, .slice (some ⟨W2.heap.size, 0, none⟩) n1 n1, .slice (some ⟨W0.heap.size, 0, none⟩) n2 n2, .slice (some ⟨W1.heap.size, 0, none⟩) n3 n3, .slice (some ⟨W3.heap.size, 0, none⟩) n4 n4]) rfl rfl (by kernel_rfl) (by kernel_rfl) (by kernel_rfl) (fun _ _ _ h => h) (Or.inl ⟨by rfl, fun W _ => by go_simp⟩) hs ?_
          simp only [Act.put, List.setIfInBounds_toArray, List.set_cons_succ, List.set_cons_zero]
          refine wpAnyH_ready (rs := [18]) (by kernel_rfl) (by simp) (AllReadyH.cons rfl (fun K hK => ?_) AllReadyH.nil)
          refine step_store_row rfl 29 (.tmp 2) (.tmp 25) rfl (w.heap.size + 1) _ rfl rfl 29 _ gR (by kernel_rfl) rfl (by simp [Value.oneCell']) rfl ?_
          refine hK.out _ _ ((setRow_other _ _ _ _ (by omega)).trans hs) (fun hs => ?_)
          clear hK K
          simp only [Act.put]
          refine wpAnyH_takeD (i := 19) (d := 3) (v := .int .i64 0) rfl rfl (by kernel_rfl) (by kernel_rfl) (by kernel_rfl) (fun _ _ _ h => h) (Or.inl ⟨by rfl, fun W hW => by go_simp⟩) hs ?_
          simp only [Act.put, List.setIfInBounds_toArray, List.set_cons_succ, List.set_cons_zero]
          refine wpAnyH_done (by kernel_rfl) ?_ _
          have hold := HEnd.out W0 W4 W2.heap.size W0.heap.size W1.heap.size W3.heap.size hx0 hs0 (((x1.trans x2).trans x3).trans x4) ⟨((Row.holds r4).ext x4), ((((Row.holds r8).ext x2).ext x3).ext x4), (((Row.holds r12).ext x3).ext x4), (Row.holds r16)⟩ (by omega) (by omega) (by omega) (by omega)
          clear s1 s2 s3 s4 hs0
          go_wp2_with fail
          refine bodyPost_ret (results_row_tmp rfl _ _ (w.heap.size + 1) 29 _ (0, 0) _ rfl (setRow_heap _ _ _ _ _ _ gR) Tryz.underlying29 rfl (by kernel_rfl)) rfl ⟨⟨some ⟨W2.heap.size, 0, none⟩, n1, some ⟨W0.heap.size, 0, none⟩, n2, some ⟨W1.heap.size, 0, none⟩, n3, some ⟨W3.heap.size, 0, none⟩, n4⟩, by rfl, hold.1 _, hold.2.1 _, ⟨.inr hold.2.2.1, .inr hold.2.2.2.1, .inr hold.2.2.2.2.1, .inr hold.2.2.2.2.2⟩⟩
      · refine step_make (mk := Value.int .u16) rfl (.tmp 23) (.tmp 23) 27 rfl 59 iw 0 2 Tryz.underlying27 hiw0 hiw1 hiw2 hiw3 rfl n4 rfl rfl (by omega) (by decide) 24 rfl (fun W3 r16 x3 s3 => ?_)
        refine hK.out _ _ (x3.block hs) (fun hs => ?_)
        clear hK K
        simp only [Act.put, List.setIfInBounds_toArray, List.set_cons_succ, List.set_cons_zero]
        refine wpAnyH_ready (rs := [4]) (by kernel_rfl) (by simp) (AllReadyH.cons rfl (fun K hK => ?_) (AllReadyH.nil))
        · refine step_make (mk := Value.bool) rfl (.tmp 11) (.tmp 11) 26 rfl 4 ib false 1 Tryz.underlying26 hib0 hib1 hib2 hib3 rfl n1 rfl rfl (by omega) (by decide) 12 rfl (fun W4 r4 x4 s4 => ?_)
          refine hK.out _ _ (x4.block hs) (fun hs => ?_)
          clear hK K
          simp only [Act.put, List.setIfInBounds_toArray, List.set_cons_succ, List.set_cons_zero]
          have gR := x4.block (x3.block (x2.block (x1.block hR)))
          refine wpAnyH_takeD (i := 17) (d := 25) (v := .agg #[.int .i64 cf, .int .i64 n1, .int .i64 jf, .int .i64 n2, .int .i64 hf, .int .i64 n3, .int .i64 rf, .int .i64 n4, .int .i64 bf, .int .i64 bc, .slice (some ⟨W3.heap.size, 0, none⟩) n1 n1, .slice (some ⟨W0.heap.size, 0, none⟩) n2 n2, .slice (some ⟨W1.heap.size, 0, none⟩) n3 n3, .slice (some ⟨W2.heap.size, 0, none⟩) n4 n4]) rfl rfl (by kernel_rfl) (by kernel_rfl) (by kernel_rfl) (fun _ _ _ h => h) (Or.inl ⟨by rfl, fun W _ => by go_simp⟩) hs ?_
          simp only [Act.put, List.setIfInBounds_toArray, List.set_cons_succ, List.set_cons_zero]
          refine wpAnyH_ready (rs := [18]) (by kernel_rfl) (by simp) (AllReadyH.cons rfl (fun K hK => ?_) AllReadyH.nil)
          refine step_store_row rfl 29 (.tmp 2) (.tmp 25) rfl (w.heap.size + 1) _ rfl rfl 29 _ gR (by kernel_rfl) rfl (by simp [Value.oneCell']) rfl ?_
          refine hK.out _ _ ((setRow_other _ _ _ _ (by omega)).trans hs) (fun hs => ?_)
          clear hK K
          simp only [Act.put]
          refine wpAnyH_takeD (i := 19) (d := 3) (v := .int .i64 0) rfl rfl (by kernel_rfl) (by kernel_rfl) (by kernel_rfl) (fun _ _ _ h => h) (Or.inl ⟨by rfl, fun W hW => by go_simp⟩) hs ?_
          simp only [Act.put, List.setIfInBounds_toArray, List.set_cons_succ, List.set_cons_zero]
          refine wpAnyH_done (by kernel_rfl) ?_ _
          have hold := HEnd.out W0 W4 W3.heap.size W0.heap.size W1.heap.size W2.heap.size hx0 hs0 (((x1.trans x2).trans x3).trans x4) ⟨(Row.holds r4), ((((Row.holds r8).ext x2).ext x3).ext x4), (((Row.holds r12).ext x3).ext x4), ((Row.holds r16).ext x4)⟩ (by omega) (by omega) (by omega) (by omega)
          clear s1 s2 s3 s4 hs0
          go_wp2_with fail
          refine bodyPost_ret (results_row_tmp rfl _ _ (w.heap.size + 1) 29 _ (0, 0) _ rfl (setRow_heap _ _ _ _ _ _ gR) Tryz.underlying29 rfl (by kernel_rfl)) rfl ⟨⟨some ⟨W3.heap.size, 0, none⟩, n1, some ⟨W0.heap.size, 0, none⟩, n2, some ⟨W1.heap.size, 0, none⟩, n3, some ⟨W2.heap.size, 0, none⟩, n4⟩, by rfl, hold.1 _, hold.2.1 _, ⟨.inr hold.2.2.1, .inr hold.2.2.2.1, .inr hold.2.2.2.2.1, .inr hold.2.2.2.2.2⟩⟩
    · refine step_make (mk := Value.int .u16) rfl (.tmp 23) (.tmp 23) 27 rfl 59 iw 0 2 Tryz.underlying27 hiw0 hiw1 hiw2 hiw3 rfl n4 rfl rfl (by omega) (by decide) 24 rfl (fun W2 r16 x2 s2 => ?_)
      refine hK.out _ _ (x2.block hs) (fun hs => ?_)
      clear hK K
      simp only [Act.put, List.setIfInBounds_toArray, List.set_cons_succ, List.set_cons_zero]
      refine wpAnyH_ready (rs := [4, 12]) (by kernel_rfl) (by simp) (AllReadyH.cons rfl (fun K hK => ?_) (AllReadyH.cons rfl (fun K hK => ?_) (AllReadyH.nil)))
      · refine step_make (mk := Value.bool) rfl (.tmp 11) (.tmp 11) 26 rfl 4 ib false 1 Tryz.underlying26 hib0 hib1 hib2 hib3 rfl n1 rfl rfl (by omega) (by decide) 12 rfl (fun W3 r4 x3 s3 => ?_)
        refine hK.out _ _ (x3.block hs) (fun hs => ?_)
        clear hK K
        simp only [Act.put, List.setIfInBounds_toArray, List.set_cons_succ, List.set_cons_zero]
        refine wpAnyH_ready (rs := [12]) (by kernel_rfl) (by simp) (AllReadyH.cons rfl (fun K hK => ?_) (AllReadyH.nil))
        · refine step_make (mk := Value.int .u16) rfl (.tmp 19) (.tmp 19) 27 rfl 59 iw 0 2 Tryz.underlying27 hiw0 hiw1 hiw2 hiw3 rfl n3 rfl rfl (by omega) (by decide) 20 rfl (fun W4 r12 x4 s4 => ?_)
          refine hK.out _ _ (x4.block hs) (fun hs => ?_)
          clear hK K
          simp only [Act.put, List.setIfInBounds_toArray, List.set_cons_succ, List.set_cons_zero]
          have gR := x4.block (x3.block (x2.block (x1.block hR)))
          refine wpAnyH_takeD (i := 17) (d := 25) (v := .agg #[.int .i64 cf, .int .i64 n1, .int .i64 jf, .int .i64 n2, .int .i64 hf, .int .i64 n3, .int .i64 rf, .int .i64 n4, .int .i64 bf, .int .i64 bc, .slice (some ⟨W2.heap.size, 0, none⟩) n1 n1, .slice (some ⟨W0.heap.size, 0, none⟩) n2 n2, .slice (some ⟨W3.heap.size, 0, none⟩) n3 n3, .slice (some ⟨W1.heap.size, 0, none⟩) n4 n4]) rfl rfl (by kernel_rfl) (by kernel_rfl) (by kernel_rfl) (fun _ _ _ h => h) (Or.inl ⟨by rfl, fun W _ => by go_simp⟩) hs ?_
          simp only [Act.put, List.setIfInBounds_toArray, List.set_cons_succ, List.set_cons_zero]
          refine wpAnyH_ready (rs := [18]) (by kernel_rfl) (by simp) (AllReadyH.cons rfl (fun K hK => ?_) AllReadyH.nil)
          refine step_store_row rfl 29 (.tmp 2) (.tmp 25) rfl (w.heap.size + 1) _ rfl rfl 29 _ gR (by kernel_rfl) rfl (by simp [Value.oneCell']) rfl ?_
          refine hK.out _ _ ((setRow_other _ _ _ _ (by omega)).trans hs) (fun hs => ?_)
          clear hK K
          simp only [Act.put]
          refine wpAnyH_takeD (i := 19) (d := 3) (v := .int .i64 0) rfl rfl (by kernel_rfl) (by kernel_rfl) (by kernel_rfl) (fun _ _ _ h => h) (Or.inl ⟨by rfl, fun W hW => by go_simp⟩) hs ?_
          simp only [Act.put, List.setIfInBounds_toArray, List.set_cons_succ, List.set_cons_zero]
          refine wpAnyH_done (by kernel_rfl) ?_ _
          have hold := HEnd.out W0 W4 W2.heap.size W0.heap.size W3.heap.size W1.heap.size hx0 hs0 (((x1.trans x2).trans x3).trans x4) ⟨((Row.holds r4).ext x4), ((((Row.holds r8).ext x2).ext x3).ext x4), (Row.holds r12), (((Row.holds r16).ext x3).ext x4)⟩ (by omega) (by omega) (by omega) (by omega)
          clear s1 s2 s3 s4 hs0
          go_wp2_with fail
          refine bodyPost_ret (results_row_tmp rfl _ _ (w.heap.size + 1) 29 _ (0, 0) _ rfl (setRow_heap _ _ _ _ _ _ gR) Tryz.underlying29 rfl (by kernel_rfl)) rfl ⟨⟨some ⟨W2.heap.size, 0, none⟩, n1, some ⟨W0.heap.size, 0, none⟩, n2, some ⟨W3.heap.size, 0, none⟩, n3, some ⟨W1.heap.size, 0, none⟩, n4⟩, by rfl, hold.1 _, hold.2.1 _, ⟨.inr hold.2.2.1, .inr hold.2.2.2.1, .inr hold.2.2.2.2.1, .inr hold.2.2.2.2.2⟩⟩
      · refine step_make (mk := Value.int .u16) rfl (.tmp 19) (.tmp 19) 27 rfl 59 iw 0 2 Tryz.underlying27 hiw0 hiw1 hiw2 hiw3 rfl n3 rfl rfl (by omega) (by decide) 20 rfl (fun W3 r12 x3 s3 => ?_)
        refine hK.out _ _ (x3.block hs) (fun hs => ?_)
        clear hK K
        simp only [Act.put, List.setIfInBounds_toArray, List.set_cons_succ, List.set_cons_zero]
        refine wpAnyH_ready (rs := [4]) (by kernel_rfl) (by simp) (AllReadyH.cons rfl (fun K hK => ?_) (AllReadyH.nil))
        · refine step_make (mk := Value.bool) rfl (.tmp 11) (.tmp 11) 26 rfl 4 ib false 1 Tryz.underlying26 hib0 hib1 hib2 hib3 rfl n1 rfl rfl (by omega) (by decide) 12 rfl (fun W4 r4 x4 s4 => ?_)
          refine hK.out _ _ (x4.block hs) (fun hs => ?_)
          clear hK K
          simp only [Act.put, List.setIfInBounds_toArray, List.set_cons_succ, List.set_cons_zero]
          have gR := x4.block (x3.block (x2.block (x1.block hR)))
          refine wpAnyH_takeD (i := 17) (d := 25) (v := .agg #[.int .i64 cf, .int .i64 n1, .int .i64 jf, .int .i64 n2, .int .i64 hf, .int .i64 n3, .int .i64 rf, .int .i64 n4, .int .i64 bf, .int .i64 bc, .slice (some ⟨W3.heap.size, 0, none⟩) n1 n1, .slice (some ⟨W0.heap.size, 0, none⟩) n2 n2, .slice (some ⟨W2.heap.size, 0, none⟩) n3 n3, .slice (some ⟨W1.heap.size, 0, none⟩) n4 n4]) rfl rfl (by kernel_rfl) (by kernel_rfl) (by kernel_rfl) (fun _ _ _ h => h) (Or.inl ⟨by rfl, fun W _ => by go_simp⟩) hs ?_
          simp only [Act.put, List.setIfInBounds_toArray, List.set_cons_succ, List.set_cons_zero]
          refine wpAnyH_ready (rs := [18]) (by kernel_rfl) (by simp) (AllReadyH.cons rfl (fun K hK => ?_) AllReadyH.nil)
          refine step_store_row rfl 29 (.tmp 2) (.tmp 25) rfl (w.heap.size + 1) _ rfl rfl 29 _ gR (by kernel_rfl) rfl (by simp [Value.oneCell']) rfl ?_
          refine hK.out _ _ ((setRow_other _ _ _ _ (by omega)).trans hs) (fun hs => ?_)
          clear hK K
          simp only [Act.put]
          refine wpAnyH_takeD (i := 19) (d := 3) (v := .int .i64 0) rfl rfl (by kernel_rfl) (by kernel_rfl) (by kernel_rfl) (fun _ _ _ h => h) (Or.inl ⟨by rfl, fun W hW => by go_simp⟩) hs ?_
          simp only [Act.put, List.setIfInBounds_toArray, List.set_cons_succ, List.set_cons_zero]
          refine wpAnyH_done (by kernel_rfl) ?_ _
          have hold := HEnd.out W0 W4 W3.heap.size W0.heap.size W2.heap.size W1.heap.size hx0 hs0 (((x1.trans x2).trans x3).trans x4) ⟨(Row.holds r4), ((((Row.holds r8).ext x2).ext x3).ext x4), ((Row.holds r12).ext x4), (((Row.holds r16).ext x3).ext x4)⟩ (by omega) (by omega) (by omega) (by omega)
          clear s1 s2 s3 s4 hs0
          go_wp2_with fail
          refine bodyPost_ret (results_row_tmp rfl _ _ (w.heap.size + 1) 29 _ (0, 0) _ rfl (setRow_heap _ _ _ _ _ _ gR) Tryz.underlying29 rfl (by kernel_rfl)) rfl ⟨⟨some ⟨W3.heap.size, 0, none⟩, n1, some ⟨W0.heap.size, 0, none⟩, n2, some ⟨W2.heap.size, 0, none⟩, n3, some ⟨W1.heap.size, 0, none⟩, n4⟩, by rfl, hold.1 _, hold.2.1 _, ⟨.inr hold.2.2.1, .inr hold.2.2.2.1, .inr hold.2.2.2.2.1, .inr hold.2.2.2.2.2⟩⟩
  · refine step_make (mk := Value.int .u16) rfl (.tmp 19) (.tmp 19) 27 rfl 59 iw 0 2 Tryz.underlying27 hiw0 hiw1 hiw2 hiw3 rfl n3 rfl rfl (by omega) (by decide) 20 rfl (fun W1 r12 x1 s1 => ?_)
    refine hK.out _ _ (x1.block hs) (fun hs => ?_)
    clear hK K
    simp only [Act.put, List.setIfInBounds_toArray, List.set_cons_succ, List.set_cons_zero]
    refine wpAnyH_ready (rs := [4, 8, 16]) (by kernel_rfl) (by simp) (AllReadyH.cons rfl (fun K hK => ?_) (AllReadyH.cons rfl (fun K hK => ?_) (AllReadyH.cons rfl (fun K hK => ?_) (AllReadyH.nil))))
    · refine step_make (mk := Value.bool) rfl (.tmp 11) (.tmp 11) 26 rfl 4 ib false 1 Tryz.underlying26 hib0 hib1 hib2 hib3 rfl n1 rfl rfl (by omega) (by decide) 12 rfl (fun W2 r4 x2 s2 => ?_)
      refine hK.out _ _ (x2.block hs) (fun hs => ?_)
      clear hK K
      simp only [Act.put, List.setIfInBounds_toArray, List.set_cons_succ, List.set_cons_zero]
      refine wpAnyH_ready (rs := [8, 16]) (by kernel_rfl) (by simp) (AllReadyH.cons rfl (fun K hK => ?_) (AllReadyH.cons rfl (fun K hK => ?_) (AllReadyH.nil)))
      · refine step_make (mk := Value.bool) rfl (.tmp 15) (.tmp 15) 26 rfl 4 ib false 1 Tryz.underlying26 hib0 hib1 hib2 hib3 rfl n2 rfl rfl (by omega) (by decide) 16 rfl (fun W3 r8 x3 s3 => ?_)
        refine hK.out _ _ (x3.block hs) (fun hs => ?_)
        clear hK K
        simp only [Act.put, List.setIfInBounds_toArray, List.set_cons_succ, List.set_cons_zero]
        refine wpAnyH_ready (rs := [16]) (by kernel_rfl) (by simp) (AllReadyH.cons rfl (fun K hK => ?_) (AllReadyH.nil))
        · refine step_make (mk := Value.int .u16) rfl (.tmp 23) (.tmp 23) 27 rfl 59 iw 0 2 Tryz.underlying27 hiw0 hiw1 hiw2 hiw3 rfl n4 rfl rfl (by omega) (by decide) 24 rfl (fun W4 r16 x4 s4 => ?_)
          refine hK.out _ _ (x4.block hs) (fun hs => ?_)
          clear hK K
          simp only [Act.put, List.setIfInBounds_toArray, List.set_cons_succ, List.set_cons_zero]
          have gR := x4.block (x3.block (x2.block (x1.block hR)))
          refine wpAnyH_takeD (i := 17) (d := 25) (v := .agg #[.int .i64 cf, .int .i64 n1, .int .i64 jf, .int .i64 n2, .int .i64 hf, .int .i64 n3, .int .i64 rf, .int .i64 n4, .int .i64 bf, .int .i64 bc, .slice (some ⟨W1.heap.size, 0, none⟩) n1 n1, .slice (some ⟨W2.heap.size, 0, none⟩) n2 n2, .slice (some ⟨W0.heap.size, 0, none⟩) n3 n3, .slice (some ⟨W3.heap.size, 0, none⟩) n4 n4]) rfl rfl (by kernel_rfl) (by kernel_rfl) (by kernel_rfl) (fun _ _ _ h => h) (Or.inl ⟨by rfl, fun W _ => by go_simp⟩) hs ?_
          simp only [Act.put, List.setIfInBounds_toArray, List.set_cons_succ, List.set_cons_zero]
          refine wpAnyH_ready (rs := [18]) (by kernel_rfl) (by simp) (AllReadyH.cons rfl (fun K hK => ?_) AllReadyH.nil)
          refine step_store_row rfl 29 (.tmp 2) (.tmp 25) rfl (w.heap.size + 1) _ rfl rfl 29 _ gR (by kernel_rfl) rfl (by simp [Value.oneCell']) rfl ?_
          refine hK.out _ _ ((setRow_other _ _ _ _ (by omega)).trans hs) (fun hs => ?_)
          clear hK K
          simp only [Act.put]
          refine wpAnyH_takeD (i := 19) (d := 3) (v := .int .i64 0) rfl rfl (by kernel_rfl) (by kernel_rfl) (by kernel_rfl) (fun _ _ _ h => h) (Or.inl ⟨by rfl, fun W hW => by go_simp⟩) hs ?_
          simp only [Act.put, List.setIfInBounds_toArray, List.set_cons_succ, List.set_cons_zero]
          refine wpAnyH_done (by kernel_rfl) ?_ _
          have hold := HEnd.out W0 W4 W1.heap.size W2.heap.size W0.heap.size W3.heap.size hx0 hs0 (((x1.trans x2).trans x3).trans x4) ⟨(((Row.holds r4).ext x3).ext x4), ((Row.holds r8).ext x4), ((((Row.holds r12).ext x2).ext x3).ext x4), (Row.holds r16)⟩ (by omega) (by omega) (by omega) (by omega)
          clear s1 s2 s3 s4 hs0
          go_wp2_with fail
          refine bodyPost_ret (results_row_tmp rfl _ _ (w.heap.size + 1) 29 _ (0, 0) _ rfl (setRow_heap _ _ _ _ _ _ gR) Tryz.underlying29 rfl (by kernel_rfl)) rfl ⟨⟨some ⟨W1.heap.size, 0, none⟩, n1, some ⟨W2.heap.size, 0, none⟩, n2, some ⟨W0.heap.size, 0, none⟩, n3, some ⟨W3.heap.size, 0, none⟩, n4⟩, by rfl, hold.1 _, hold.2.1 _, ⟨.inr hold.2.2.1, .inr hold.2.2.2.1, .inr hold.2.2.2.2.1, .inr hold.2.2.2.2.2⟩⟩
      · refine step_make (mk := Value.int .u16) rfl (.tmp 23) (.tmp 23) 27 rfl 59 iw 0 2 Tryz.underlying27 hiw0 hiw1 hiw2 hiw3 rfl n4 rfl rfl (by omega) (by decide) 24 rfl (fun W3 r16 x3 s3 => ?_)
        refine hK.out _ _ (x3.block hs) (fun hs => ?_)
        clear hK K
        simp only [Act.put, List.setIfInBounds_toArray, List.set_cons_succ, List.set_cons_zero]
        refine wpAnyH_ready (rs := [8]) (by kernel_rfl) (by simp) (AllReadyH.cons rfl (fun K hK => ?_) (AllReadyH.nil))
        · refine step_make (mk := Value.bool) rfl (.tmp 15) (.tmp 15) 26 rfl 4 ib false 1 Tryz.underlying26 hib0 hib1 hib2 hib3 rfl n2 rfl rfl (by omega) (by decide) 16 rfl (fun W4 r8 x4 s4 => ?_)
          refine hK.out _ _ (x4.block hs) (fun hs => ?_)
          clear hK K
          simp only [Act.put, List.setIfInBounds_toArray, List.set_cons_succ, List.set_cons_zero]
          have gR := x4.block (x3.block (x2.block (x1.block hR)))
          refine wpAnyH_takeD (i := 17) (d := 25) (v := .agg #[.int .i64 cf, .int .i64 n1, .int .i64 jf, .int .i64 n2, .int .i64 hf, .int .i64 n3, .int .i64 rf, .int .i64 n4, .int .i64 bf, .int .i64 bc, .slice (some ⟨W1.heap.size, 0, none⟩) n1 n1, .slice (some ⟨W3.heap.size, 0, none⟩) n2 n2, .slice (some ⟨W0.heap.size, 0, none⟩) n3 n3, .slice (some ⟨W2.heap.size, 0, none⟩) n4 n4]) rfl rfl (by kernel_rfl) (by kernel_rfl) (by kernel_rfl) (fun _ _ _ h => h) (Or.inl ⟨by rfl, fun W _ => by go_simp⟩) hs ?_
          simp only [Act.put, List.setIfInBounds_toArray, List.set_cons_succ, List.set_cons_zero]
          refine wpAnyH_ready (rs := [18]) (by kernel_rfl) (by simp) (AllReadyH.cons rfl (fun K hK => ?_) AllReadyH.nil)
          refine step_store_row rfl 29 (.tmp 2) (.tmp 25) rfl (w.heap.size + 1) _ rfl rfl 29 _ gR (by kernel_rfl) rfl (by simp [Value.oneCell']) rfl ?_
          refine hK.out _ _ ((setRow_other _ _ _ _ (by omega)).trans hs) (fun hs => ?_)
          clear hK K
          simp only [Act.put]
          refine wpAnyH_takeD (i := 19) (d := 3) (v := .int .i64 0) rfl rfl (by kernel_rfl) (by kernel_rfl) (by kernel_rfl) (fun _ _ _ h => h) (Or.inl ⟨by rfl, fun W hW => by go_simp⟩) hs ?_
          simp only [Act.put, List.setIfInBounds_toArray, List.set_cons_succ, List.set_cons_zero]
          refine wpAnyH_done (by kernel_rfl) ?_ _
          have hold := HEnd.out W0 W4 W1.heap.size W3.heap.size W0.heap.size W2.heap.size hx0 hs0 (((x1.trans x2).trans x3).trans x4) ⟨(((Row.holds r4).ext x3).ext x4), (Row.holds r8), ((((Row.holds r12).ext x2).ext x3).ext x4), ((Row.holds r16).ext x4)⟩ (by omega) (by omega) (by omega) (by omega)
          clear s1 s2 s3 s4 hs0
          go_wp2_with fail
          refine bodyPost_ret (results_row_tmp rfl _ _ (w.heap.size + 1) 29 _ (0, 0) _ rfl (setRow_heap _ _ _ _ _ _ gR) Tryz.underlying29 rfl (by kernel_rfl)) rfl ⟨⟨some ⟨W1.heap.size, 0, none⟩, n1, some ⟨W3.heap.size, 0, none⟩, n2, some ⟨W0.heap.size, 0, none⟩, n3, some ⟨W2.heap.size, 0, none⟩, n4⟩, by rfl, hold.1 _, hold.2.1 _, ⟨.inr hold.2.2.1, .inr hold.2.2.2.1, .inr hold.2.2.2.2.1, .inr hold.2.2.2.2.2⟩⟩
    · refine step_make (mk := Value.bool) rfl (.tmp 15) (.tmp 15) 26 rfl 4 ib false 1 Tryz.underlying26 hib0 hib1 hib2 hib3 rfl n2 rfl rfl (by omega) (by decide) 16 rfl (fun W2 r8 x2 s2 => ?_)
      refine hK.out _ _ (x2.block hs) (fun hs => ?_)
      clear hK K
      simp only [Act.put, List.setIfInBounds_toArray, List.set_cons_succ, List.set_cons_zero]
      refine wpAnyH_ready (rs := [4, 16]) (by kernel_rfl) (by simp) (AllReadyH.cons rfl (fun K hK => ?_) (AllReadyH.cons rfl (fun K hK => ?_) (AllReadyH.nil)))
      · refine step_make (mk := Value.bool) rfl (.tmp 11) (.tmp 11) 26 rfl 4 ib false 1 Tryz.underlying26 hib0 hib1 hib2 hib3 rfl n1 rfl rfl (by omega) (by decide) 12 rfl (fun W3 r4 x3 s3 => ?_)
        refine hK.out _ _ (x3.block hs) (fun hs => ?_)
        clear hK K
        simp only [Act.put, List.setIfInBounds_toArray, List.set_cons_succ, List.set_cons_zero]
        refine wpAnyH_ready (rs := [16]) (by kernel_rfl) (by simp) (AllReadyH.cons rfl (fun K hK => ?_) (AllReadyH.nil))
        · refine step_make (mk := Value.int .u16) rfl (.tmp 23) (.tmp 23) 27 rfl 59 iw 0 2 Tryz.underlying27 hiw0 hiw1 hiw2 hiw3 rfl n4 rfl rfl (by omega) (by decide) 24 rfl (fun W4 r16 x4 s4 => ?_)
          refine hK.out _ _ (x4.block hs) (fun hs => ?_)
          clear hK K
          simp only [Act.put, List.setIfInBounds_toArray, List.set_cons_succ, List.set_cons_zero]
          have gR := x4.block (x3.block (x2.block (x1.block hR)))
          refine wpAnyH_takeD (i := 17) (d := 25) (v := .agg #[.int .i64 cf, .int .i64 n1, .int .i64 jf, .int .i64 n2, .int .i64 hf, .int .i64 n3, .int .i64 rf, .int .i64 n4, .int .i64 bf, .int .i64 bc, .slice (some ⟨W2.heap.size, 0, none⟩) n1 n1, .slice (some ⟨W1.heap.size, 0, none⟩) n2 n2, .slice (some ⟨W0.heap.size, 0, none⟩) n3 n3, .slice (some ⟨W3.heap.size, 0, none⟩) n4 n4]) rfl rfl (by kernel_rfl) (by kernel_rfl) (by kernel_rfl) (fun _ _ _ h => h) (Or.inl ⟨by rfl, fun W _ => by go_simp⟩) hs ?_
          simp only [Act.put, List.setIfInBounds_toArray, List.set_cons_succ, List.set_cons_zero]
          refine wpAnyH_ready (rs := [18]) (by kernel_rfl) (by simp) (AllReadyH.cons rfl (fun K hK => ?_) AllReadyH.nil)
          refine step_store_row rfl 29 (.tmp 2) (.tmp 25) rfl (w.heap.size + 1) _ rfl rfl 29 _ gR (by kernel_rfl) rfl (by simp [Value.oneCell']) rfl ?_
          refine hK.out _ _ ((setRow_other _ _ _ _ (by omega)).trans hs) (fun hs => ?_)
          clear hK K
          simp only [Act.put]
          refine wpAnyH_takeD (i := 19) (d := 3) (v := .int .i64 0) rfl rfl (by kernel_rfl) (by kernel_rfl) (by kernel_rfl) (fun _ _ _ h => h) (Or.inl ⟨by rfl, fun W hW => by go_simp⟩) hs ?_
          simp only [Act.put, List.setIfInBounds_toArray, List.set_cons_succ, List.set_cons_zero]
          refine wpAnyH_done (by kernel_rfl) ?_ _
          have hold := HEnd.out W0 W4 W2.heap.size W1.heap.size W0.heap.size W3.heap.size hx0 hs0 (((x1.trans x2).trans x3).trans x4) ⟨((Row.holds r4).ext x4), (((Row.holds r8).ext x3).ext x4), ((((Row.holds r12).ext x2).ext x3).ext x4), (Row.holds r16)⟩ (by omega) (by omega) (by omega) (by omega)
          clear s1 s2 s3 s4 hs0
          go_wp2_with fail
          refine bodyPost_ret (results_row_tmp rfl _ _ (w.heap.size + 1) 29 _ (0, 0) _ rfl (setRow_heap _ _ _ _ _ _ gR) Tryz.underlying29 rfl (by kernel_rfl)) rfl ⟨⟨some ⟨W2.heap.size, 0, none⟩, n1, some ⟨W1.heap.size, 0, none⟩, n2, some ⟨W0.heap.size, 0, none⟩, n3, some ⟨W3.heap.size, 0, none⟩, n4⟩, by rfl, hold.1 _, hold.2.1 _, ⟨.inr hold.2.2.1, .inr hold.2.2.2.1, .inr hold.2.2.2.2.1, .inr hold.2.2.2.2.2⟩⟩
      · refine step_make (mk := Value.int .u16) rfl (.tmp 23) (.tmp 23) 27 rfl 59 iw 0 2 Tryz.underlying27 hiw0 hiw1 hiw2 hiw3 rfl n4 rfl rfl (by omega) (by decide) 24 rfl (fun W3 r16 x3 s3 => ?_)
        refine hK.out _ _ (x3.block hs) (fun hs => ?_)
        clear hK K
        simp only [Act.put, List.setIfInBounds_toArray, List.set_cons_succ, List.set_cons_zero]
        refine wpAnyH_ready (rs := [4]) (by kernel_rfl) (by simp) (AllReadyH.cons rfl (fun K hK => ?_) (AllReadyH.nil))
        · refine step_make (mk := Value.bool) rfl (.tmp 11) (.tmp 11) 26 rfl 4 ib false 1 Tryz.underlying26 hib0 hib1 hib2 hib3 rfl n1 rfl rfl (by omega) (by decide) 12 rfl (fun W4 r4 x4 s4 => ?_)
          refine hK.out _ _ (x4.block hs) (fun hs => ?_)
          clear hK K
          simp only [Act.put, List.setIfInBounds_toArray, List.set_cons_succ, List.set_cons_zero]
          have gR := x4.block (x3.block (x2.block (x1.block hR)))
          refine wpAnyH_takeD (i := 17) (d := 25) (v := .agg #[.int .i64 cf, .int .i64 n1, .int .i64 jf, .int .i64 n2, .int .i64 hf, .int .i64 n3, .int .i64 rf, .int .i64 n4, .int .i64 bf, .int .i64 bc, .slice (some ⟨W3.heap.size, 0, none⟩) n1 n1, .slice (some ⟨W1.heap.size, 0, none⟩) n2 n2, .slice (some ⟨W0.heap.size, 0, none⟩) n3 n3, .slice (some ⟨W2.heap.size, 0, none⟩) n4 n4]) rfl rfl (by kernel_rfl) (by kernel_rfl) (by kernel_rfl) (fun _ _ _ h => h) (Or.inl ⟨by rfl, fun W _ => by go_simp⟩) hs ?_
          simp only [Act.put, List.setIfInBounds_toArray, List.set_cons_succ, List.set_cons_zero]
          refine wpAnyH_ready (rs := [18]) (by kernel_rfl) (by simp) (AllReadyH.cons rfl (fun K hK => ?_) AllReadyH.nil)
          refine step_store_row rfl 29 (.tmp 2) (.tmp 25) rfl (w.heap.size + 1) _ rfl rfl 29 _ gR (by kernel_rfl) rfl (by simp [Value.oneCell']) rfl ?_
          refine hK.out _ _ ((setRow_other _ _ _ _ (by omega)).trans hs) (fun hs => ?_)
          clear hK K
          simp only [Act.put]
          refine wpAnyH_takeD (i := 19) (d := 3) (v := .int .i64 0) rfl rfl (by kernel_rfl) (by kernel_rfl) (by kernel_rfl) (fun _ _ _ h => h) (Or.inl ⟨by rfl, fun W hW => by go_simp⟩) hs ?_
          simp only [Act.put, List.setIfInBounds_toArray, List.set_cons_succ, List.set_cons_zero]
          refine wpAnyH_done (by kernel_rfl) ?_ _
          have hold := HEnd.out W0 W4 W3.heap.size W1.heap.size W0.heap.size W2.heap.size hx0 hs0 (((x1.trans x2).trans x3).trans x4) ⟨(Row.holds r4), (((Row.holds r8).ext x3).ext x4), ((((Row.holds r12).ext x2).ext x3).ext x4), ((Row.holds r16).ext x4)⟩ (by omega) (by omega) (by omega) (by omega)
          clear s1 s2 s3 s4 hs0
          go_wp2_with fail
          refine bodyPost_ret (results_row_tmp rfl _ _ (w.heap.size + 1) 29 _ (0, 0) _ rfl (setRow_heap _ _ _ _ _ _ gR) Tryz.underlying29 rfl (by kernel_rfl)) rfl ⟨⟨some ⟨W3.heap.size, 0, none⟩, n1, some ⟨W1.heap.size, 0, none⟩, n2, some ⟨W0.heap.size, 0, none⟩, n3, some ⟨W2.heap.size, 0, none⟩, n4⟩, by rfl, hold.1 _, hold.2.1 _, ⟨.inr hold.2.2.1, .inr hold.2.2.2.1, .inr hold.2.2.2.2.1, .inr hold.2.2.2.2.2⟩⟩
    · refine step_make (mk := Value.int .u16) rfl (.tmp 23) (.tmp 23) 27 rfl 59 iw 0 2 Tryz.underlying27 hiw0 hiw1 hiw2 hiw3 rfl n4 rfl rfl (by omega) (by decide) 24 rfl (fun W2 r16 x2 s2 => ?_)
      refine hK.out _ _ (x2.block hs) (fun hs => ?_)
      clear hK K
      simp only [Act.put, List.setIfInBounds_toArray, List.set_cons_succ, List.set_cons_zero]
      refine wpAnyH_ready (rs := [4, 8]) (by kernel_rfl) (by simp) (AllReadyH.cons rfl (fun K hK => ?_) (AllReadyH.cons rfl (fun K hK => ?_) (AllReadyH.nil)))
      · refine step_make (mk := Value.bool) rfl (.tmp 11) (.tmp 11) 26 rfl 4 ib false 1 Tryz.underlying26 hib0 hib1 hib2 hib3 rfl n1 rfl rfl (by omega) (by decide) 12 rfl (fun W3 r4 x3 s3 => ?_)
        refine hK.out _ _ (x3.block hs) (fun hs => ?_)
        clear hK K
        simp only [Act.put, List.setIfInBounds_toArray, List.set_cons_succ, List.set_cons_zero]
        refine wpAnyH_ready (rs := [8]) (by kernel_rfl) (by simp) (AllReadyH.cons rfl (fun K hK => ?_) (AllReadyH.nil))
        · refine step_make (mk := Value.bool) rfl (.tmp 15) (.tmp 15) 26 rfl 4 ib false 1 Tryz.underlying26 hib0 hib1 hib2 hib3 rfl n2 rfl rfl (by omega) (by decide) 16 rfl (fun W4 r8 x4 s4 => ?_)
          refine hK.out _ _ (x4.block hs) (fun hs => ?_)
          clear hK K
          simp only [Act.put, List.setIfInBounds_toArray, List.set_cons_succ, List.set_cons_zero]
          have gR := x4.block (x3.block (x2.block (x1.block hR)))
          refine wpAnyH_takeD (i := 17) (d := 25) (v := .agg #[.int .i64 cf, .int .i64 n1, .int .i64 jf, .int .i64 n2, .int .i64 hf, .int .i64 n3, .int .i64 rf, .int .i64 n4, .int .i64 bf, .int .i64 bc, .slice (some ⟨W2.heap.size, 0, none⟩) n1 n1, .slice (some ⟨W3.heap.size, 0, none⟩) n2 n2, .slice (some ⟨W0.heap.size, 0, none⟩) n3 n3, .slice (some ⟨W1.heap.size, 0, none⟩) n4 n4]) rfl rfl (by kernel_rfl) (by kernel_rfl) (by kernel_rfl) (fun _ _ _ h => h) (Or.inl ⟨by rfl, fun W _ => by go_simp⟩) hs ?_
          simp only [Act.put, List.setIfInBounds_toArray, List.set_cons_succ, List.set_cons_zero]
          refine wpAnyH_ready (rs := [18]) (by kernel_rfl) (by simp) (AllReadyH.cons rfl (fun K hK => ?_) AllReadyH.nil)
          refine step_store_row rfl 29 (.tmp 2) (.tmp 25) rfl (w.heap.size + 1) _ rfl rfl 29 _ gR (by kernel_rfl) rfl (by simp [Value.oneCell']) rfl ?_
          refine hK.out _ _ ((setRow_other _ _ _ _ (by omega)).trans hs) (fun hs => ?_)
          clear hK K
          simp only [Act.put]
          refine wpAnyH_takeD (i := 19) (d := 3) (v := .int .i64 0) rfl rfl (by kernel_rfl) (by kernel_rfl) (by kernel_rfl) (fun _ _ _ h => h) (Or.inl ⟨by rfl, fun W hW => by go_simp⟩) hs ?_
          simp only [Act.put, List.setIfInBounds_toArray, List.set_cons_succ, List.set_cons_zero]
          refine wpAnyH_done (by kernel_rfl) ?_ _
          have hold := HEnd.out W0 W4 W2.heap.size W3.heap.size W0.heap.size W1.heap.size hx0 hs0 (((x1.trans x2).trans x3).trans x4) ⟨((Row.holds r4).ext x4), (Row.holds r8), ((((Row.holds r12).ext x2).ext x3).ext x4), (((Row.holds r16).ext x3).ext x4)⟩ (by omega) (by omega) (by omega) (by omega)
          clear s1 s2 s3 s4 hs0
          go_wp2_with fail
          refine bodyPost_ret (results_row_tmp rfl _ _ (w.heap.size + 1) 29 _ (0, 0) _ rfl (setRow_heap _ _ _ _ _ _ gR) Tryz.underlying29 rfl (by kernel_rfl)) rfl ⟨⟨some ⟨W2.heap.size, 0, none⟩, n1, some ⟨W3.heap.size, 0, none⟩, n2, some ⟨W0.heap.size, 0, none⟩, n3, some ⟨W1.heap.size, 0, none⟩, n4⟩, by rfl, hold.1 _, hold.2.1 _, ⟨.inr hold.2.2.1, .inr hold.2.2.2.1, .inr hold.2.2.2.2.1, .inr hold.2.2.2.2.2⟩⟩
      · refine step_make (mk := Value.bool) rfl (.tmp 15) (.tmp 15) 26 rfl 4 ib false 1 Tryz.underlying26 hib0 hib1 hib2 hib3 rfl n2 rfl rfl (by omega) (by decide) 16 rfl (fun W3 r8 x3 s3 => ?_)
        refine hK.out _ _ (x3.block hs) (fun hs => ?_)
        clear hK K
        simp only [Act.put, List.setIfInBounds_toArray, List.set_cons_succ, List.set_cons_zero]
        refine wpAnyH_ready (rs := [4]) (by kernel_rfl) (by simp) (AllReadyH.cons rfl (fun K hK => ?_) (AllReadyH.nil))
        · refine step_make (mk := Value.bool) rfl (.tmp 11) (.tmp 11) 26 rfl 4 ib false 1 Tryz.underlying26 hib0 hib1 hib2 hib3 rfl n1 rfl rfl (by omega) (by decide) 12 rfl (fun W4 r4 x4 s4 => ?_)
          refine hK.out _ _ (x4.block hs) (fun hs => ?_)
          clear hK K
          simp only [Act.put, List.setIfInBounds_toArray, List.set_cons_succ, List.set_cons_zero]
          have gR := x4.block (x3.block (x2.block (x1.block hR)))
          refine wpAnyH_takeD (i := 17) (d := 25) (v := .agg #[.int .i64 cf, .int .i64 n1, .int .i64 jf, .int .i64 n2, .int .i64 hf, .int .i64 n3, .int .i64 rf, .int .i64 n4, .int .i64 bf, .int .i64 bc, .slice (some ⟨W3.heap.size, 0, none⟩) n1 n1, .slice (some ⟨W2.heap.size, 0, none⟩) n2 n2, .slice (some ⟨W0.heap.size, 0, none⟩) n3 n3, .slice (some ⟨W1.heap.size, 0, none⟩) n4 n4]) rfl rfl (by kernel_rfl) (by kernel_rfl) (by kernel_rfl) (fun _ _ _ h => h) (Or.inl ⟨by rfl, fun W _ => by go_simp⟩) hs ?_
          simp only [Act.put, List.setIfInBounds_toArray, List.set_cons_succ, List.set_cons_zero]
          refine wpAnyH_ready (rs := [18]) (by kernel_rfl) (by simp) (AllReadyH.cons rfl (fun K hK => ?_) AllReadyH.nil)
          refine step_store_row rfl 29 (.tmp 2) (.tmp 25) rfl (w.heap.size + 1) _ rfl rfl 29 _ gR (by kernel_rfl) rfl (by simp [Value.oneCell']) rfl ?_
          refine hK.out _ _ ((setRow_other _ _ _ _ (by omega)).trans hs) (fun hs => ?_)
          clear hK K
          simp only [Act.put]
          refine wpAnyH_takeD (i := 19) (d := 3) (v := .int .i64 0) rfl rfl (by kernel_rfl) (by kernel_rfl) (by kernel_rfl) (fun _ _ _ h => h) (Or.inl ⟨by rfl, fun W hW => by go_simp⟩) hs ?_
          simp only [Act.put, List.setIfInBounds_toArray, List.set_cons_succ, List.set_cons_zero]
          refine wpAnyH_done (by kernel_rfl) ?_ _
          have hold := HEnd.out W0 W4 W3.heap.size W2.heap.size W0.heap.size W1.heap.size hx0 hs0 (((x1.trans x2).trans x3).trans x4) ⟨(Row.holds r4), ((Row.holds r8).ext x4), ((((Row.holds r12).ext x2).ext x3).ext x4), (((Row.holds r16).ext x3).ext x4)⟩ (by omega) (by omega) (by omega) (by omega)
          clear s1 s2 s3 s4 hs0
          go_wp2_with fail
          refine bodyPost_ret (results_row_tmp rfl _ _ (w.heap.size + 1) 29 _ (0, 0) _ rfl (setRow_heap _ _ _ _ _ _ gR) Tryz.underlying29 rfl (by kernel_rfl)) rfl ⟨⟨some ⟨W3.heap.size, 0, none⟩, n1, some ⟨W2.heap.size, 0, none⟩, n2, some ⟨W0.heap.size, 0, none⟩, n3, some ⟨W1.heap.size, 0, none⟩, n4⟩, by rfl, hold.1 _, hold.2.1 _, ⟨.inr hold.2.2.1, .inr hold.2.2.2.1, .inr hold.2.2.2.2.1, .inr hold.2.2.2.2.2⟩⟩
  · refine step_make (mk := Value.int .u16) rfl (.tmp 23) (.tmp 23) 27 rfl 59 iw 0 2 Tryz.underlying27 hiw0 hiw1 hiw2 hiw3 rfl n4 rfl rfl (by omega) (by decide) 24 rfl (fun W1 r16 x1 s1 => ?_)
    refine hK.out _ _ (x1.block hs) (fun hs => ?_)
    clear hK K
    simp only [Act.put, List.setIfInBounds_toArray, List.set_cons_succ, List.set_cons_zero]
    refine wpAnyH_ready (rs := [4, 8, 12]) (by kernel_rfl) (by simp) (AllReadyH.cons rfl (fun K hK => ?_) (AllReadyH.cons rfl (fun K hK => ?_) (AllReadyH.cons rfl (fun K hK => ?_) (AllReadyH.nil))))
    · refine step_make (mk := Value.bool) rfl (.tmp 11) (.tmp 11) 26 rfl 4 ib false 1 Tryz.underlying26 hib0 hib1 hib2 hib3 rfl n1 rfl rfl (by omega) (by decide) 12 rfl (fun W2 r4 x2 s2 => ?_)
      refine hK.out _ _ (x2.block hs) (fun hs => ?_)
      clear hK K
      simp only [Act.put, List.setIfInBounds_toArray, List.set_cons_succ, List.set_cons_zero]
      refine wpAnyH_ready (rs := [8, 12]) (by kernel_rfl) (by simp) (AllReadyH.cons rfl (fun K hK => ?_) (AllReadyH.cons rfl (fun K hK => ?_) (AllReadyH.nil)))
      · refine step_make (mk := Value.bool) rfl (.tmp 15) (.tmp 15) 26 rfl 4 ib false 1 Tryz.underlying26 hib0 hib1 hib2 hib3 rfl n2 rfl rfl (by omega) (by decide) 16 rfl (fun W3 r8 x3 s3 => ?_)
        refine hK.out _ _ (x3.block hs) (fun hs => ?_)
        clear hK K
        simp only [Act.put, List.setIfInBounds_toArray, List.set_cons_succ, List.set_cons_zero]
        refine wpAnyH_ready (rs := [12]) (by kernel_rfl) (by simp) (AllReadyH.cons rfl (fun K hK => ?_) (AllReadyH.nil))
        · refine step_make (mk := Value.int .u16) rfl (.tmp 19) (.tmp 19) 27 rfl 59 iw 0 2 Tryz.underlying27 hiw0 hiw1 hiw2 hiw3 rfl n3 rfl rfl (by omega) (by decide) 20 rfl (fun W4 r12 x4 s4 => ?_)
          refine hK.out _ _ (x4.block hs) (fun hs => ?_)
          clear hK K
          simp only [Act.put, List.setIfInBounds_toArray, List.set_cons_succ, List.set_cons_zero]
          have gR := x4.block (x3.block (x2.block (x1.block hR)))
          refine wpAnyH_takeD (i := 17) (d := 25) (v := .agg #[.int .i64 cf, .int .i64 n1, .int .i64 jf, .int .i64 n2, .int .i64 hf, .int .i64 n3, .int .i64 rf, .int .i64 n4, .int .i64 bf, .int .i64 bc, .slice (some ⟨W1.heap.size, 0, none⟩) n1 n1, .slice (some ⟨W2.heap.size, 0, none⟩) n2 n2, .slice (some ⟨W3.heap.size, 0, none⟩) n3 n3, .slice (some ⟨W0.heap.size, 0, none⟩) n4 n4]) rfl rfl (by kernel_rfl) (by kernel_rfl) (by kernel_rfl) (fun _ _ _ h => h) (Or.inl ⟨by rfl, fun W _ => by go_simp⟩) hs ?_
          simp only [Act.put, List.setIfInBounds_toArray, List.set_cons_succ, List.set_cons_zero]
          refine wpAnyH_ready (rs := [18]) (by kernel_rfl) (by simp) (AllReadyH.cons rfl (fun K hK => ?_) AllReadyH.nil)
          refine step_store_row rfl 29 (.tmp 2) (.tmp 25) rfl (w.heap.size + 1) _ rfl rfl 29 _ gR (by kernel_rfl) rfl (by simp [Value.oneCell']) rfl ?_
          refine hK.out _ _ ((setRow_other _ _ _ _ (by omega)).trans hs) (fun hs => ?_)
          clear hK K
          simp only [Act.put]
          refine wpAnyH_takeD (i := 19) (d := 3) (v := .int .i64 0) rfl rfl (by kernel_rfl) (by kernel_rfl) (by kernel_rfl) (fun _ _ _ h => h) (Or.inl ⟨by rfl, fun W hW => by go_simp⟩) hs ?_
          simp only [Act.put, List.setIfInBounds_toArray, List.set_cons_succ, List.set_cons_zero]
          refine wpAnyH_done (by kernel_rfl) ?_ _
          have hold := HEnd.out W0 W4 W1.heap.size W2.heap.size W3.heap.size W0.heap.size hx0 hs0 (((x1.trans x2).trans x3).trans x4) ⟨(((Row.holds r4).ext x3).ext x4), ((Row.holds r8).ext x4), (Row.holds r12), ((((Row.holds r16).ext x2).ext x3).ext x4)⟩ (by omega) (by omega) (by omega) (by omega)
          clear s1 s2 s3 s4 hs0
          go_wp2_with fail
          refine bodyPost_ret (results_row_tmp rfl _ _ (w.heap.size + 1) 29 _ (0, 0) _ rfl (setRow_heap _ _ _ _ _ _ gR) Tryz.underlying29 rfl (by kernel_rfl)) rfl ⟨⟨some ⟨W1.heap.size, 0, none⟩, n1, some ⟨W2.heap.size, 0, none⟩, n2, some ⟨W3.heap.size, 0, none⟩, n3, some ⟨W0.heap.size, 0, none⟩, n4⟩, by rfl, hold.1 _, hold.2.1 _, ⟨.inr hold.2.2.1, .inr hold.2.2.2.1, .inr hold.2.2.2.2.1, .inr hold.2.2.2.2.2⟩⟩
      · refine step_make (mk := Value.int .u16) rfl (.tmp 19) (.tmp 19) 27 rfl 59 iw 0 2 Tryz.underlying27 hiw0 hiw1 hiw2 hiw3 rfl n3 rfl rfl (by omega) (by decide) 20 rfl (fun W3 r12 x3 s3 => ?_)
        refine hK.out _ _ (x3.block hs) (fun hs => ?_)
        clear hK K
        simp only [Act.put, List.setIfInBounds_toArray, List.set_cons_succ, List.set_cons_zero]
        refine wpAnyH_ready (rs := [8]) (by kernel_rfl) (by simp) (AllReadyH.cons rfl (fun K hK => ?_) (AllReadyH.nil))
        · refine step_make (mk := Value.bool) rfl (.tmp 15) (.tmp 15) 26 rfl 4 ib false 1 Tryz.underlying26 hib0 hib1 hib2 hib3 rfl n2 rfl rfl (by omega) (by decide) 16 rfl (fun W4 r8 x4 s4 => ?_)
          refine hK.out _ _ (x4.block hs) (fun hs => ?_)
          clear hK K
          simp only [Act.put, List.setIfInBounds_toArray, List.set_cons_succ, List.set_cons_zero]
          have gR := x4.block (x3.block (x2.block (x1.block hR)))
          refine wpAnyH_takeD (i := 17) (d := 25) (v := .agg #[.int .i64 cf, .int .i64 n1, .int .i64 jf, .int .i64 n2, .int .i64 hf, .int .i64 n3, .int .i64 rf, .int .i64 n4, .int .i64 bf, .int .i64 bc, .slice (some ⟨W1.heap.size, 0, none⟩) n1 n1, .slice (some ⟨W3.heap.size, 0, none⟩) n2 n2, .slice (some ⟨W2.heap.size, 0, none⟩) n3 n3, .slice (some ⟨W0.heap.size, 0, none⟩) n4 n4]) rfl rfl (by kernel_rfl) (by kernel_rfl) (by kernel_rfl) (fun _ _ _ h => h) (Or.inl ⟨by rfl, fun W _ => by go_simp⟩) hs ?_
          simp only [Act.put, List.setIfInBounds_toArray, List.set_cons_succ, List.set_cons_zero]
          refine wpAnyH_ready (rs := [18]) (by kernel_rfl) (by simp) (AllReadyH.cons rfl (fun K hK => ?_) AllReadyH.nil)
          refine step_store_row rfl 29 (.tmp 2) (.tmp 25) rfl (w.heap.size + 1) _ rfl rfl 29 _ gR (by kernel_rfl) rfl (by simp [Value.oneCell']) rfl ?_
          refine hK.out _ _ ((setRow_other _ _ _ _ (by omega)).trans hs) (fun hs => ?_)
          clear hK K
          simp only [Act.put]
          refine wpAnyH_takeD (i := 19) (d := 3) (v := .int .i64 0) rfl rfl (by kernel_rfl) (by kernel_rfl) (by kernel_rfl) (fun _ _ _ h => h) (Or.inl ⟨by rfl, fun W hW => by go_simp⟩) hs ?_
          simp only [Act.put, List.setIfInBounds_toArray, List.set_cons_succ, List.set_cons_zero]
          refine wpAnyH_done (by kernel_rfl) ?_ _
          have hold := HEnd.out W0 W4 W1.heap.size W3.heap.size W2.heap.size W0.heap.size hx0 hs0 (((x1.trans x2).trans x3).trans x4) ⟨(((Row.holds r4).ext x3).ext x4), (Row.holds r8), ((Row.holds r12).ext x4), ((((Row.holds r16).ext x2).ext x3).ext x4)⟩ (by omega) (by omega) (by omega) (by omega)
          clear s1 s2 s3 s4 hs0
          go_wp2_with fail
          refine bodyPost_ret (results_row_tmp rfl _ _ (w.heap.size + 1) 29 _ (0, 0) _ rfl (setRow_heap _ _ _ _ _ _ gR) Tryz.underlying29 rfl (by kernel_rfl)) rfl ⟨⟨some ⟨W1.heap.size, 0, none⟩, n1, some ⟨W3.heap.size, 0, none⟩, n2, some ⟨W2.heap.size, 0, none⟩, n3, some ⟨W0.heap.size, 0, none⟩, n4⟩, by rfl, hold.1 _, hold.2.1 _, ⟨.inr hold.2.2.1, .inr hold.2.2.2.1, .inr hold.2.2.2.2.1, .inr hold.2.2.2.2.2⟩⟩
    · refine step_make (mk := Value.bool) rfl (.tmp 15) (.tmp 15) 26 rfl 4 ib false 1 Tryz.underlying26 hib0 hib1 hib2 hib3 rfl n2 rfl rfl (by omega) (by decide) 16 rfl (fun W2 r8 x2 s2 => ?_)
      refine hK.out _ _ (x2.block hs) (fun hs => ?_)
      clear hK K
      simp only [Act.put, List.setIfInBounds_toArray, List.set_cons_succ, List.set_cons_zero]
      refine wpAnyH_ready (rs := [4, 12]) (by kernel_rfl) (by simp) (AllReadyH.cons rfl (fun K hK => ?_) (AllReadyH.cons rfl (fun K hK => ?_) (AllReadyH.nil)))
      · refine step_make (mk := Value.bool) rfl (.tmp 11) (.tmp 11) 26 rfl 4 ib false 1 Tryz.underlying26 hib0 hib1 hib2 hib3 rfl n1 rfl rfl (by omega) (by decide) 12 rfl (fun W3 r4 x3 s3 => ?_)
        refine hK.out _ _ (x3.block hs) (fun hs => ?_)
        clear hK K
        simp only [Act.put, List.setIfInBounds_toArray, List.set_cons_succ, List.set_cons_zero]
        refine wpAnyH_ready (rs := [12]) (by kernel_rfl) (by simp) (AllReadyH.cons rfl (fun K hK => ?_) (AllReadyH.nil))
        · refine step_make (mk := Value.int .u16) rfl (.tmp 19) (.tmp 19) 27 rfl 59 iw 0 2 Tryz.underlying27 hiw0 hiw1 hiw2 hiw3 rfl n3 rfl rfl (by omega) (by decide) 20 rfl (fun W4 r12 x4 s4 => ?_)
          refine hK.out _ _ (x4.block hs) (fun hs => ?_)
          clear hK K
          simp only [Act.put, List.setIfInBounds_toArray, List.set_cons_succ, List.set_cons_zero]
          have gR := x4.block (x3.block (x2.block (x1.block hR)))
          refine wpAnyH_takeD (i := 17) (d := 25) (v := .agg #[.int .i64 cf, .int .i64 n1, .int .i64 jf, .int .i64 n2, .int .i64 hf, .int .i64 n3, .int .i64 rf, .int .i64 n4, .int .i64 bf, .int .i64 bc, .slice (some ⟨W2.heap.size, 0, none⟩) n1 n1, .slice (some ⟨W1.heap.size, 0, none⟩) n2 n2, .slice (some ⟨W3.heap.size, 0, none⟩) n3 n3, .slice (some ⟨W0.heap.size, 0, none⟩) n4 n4]) rfl rfl (by kernel_rfl) (by kernel_rfl) (by kernel_rfl) (fun _ _ _ h => h) (Or.inl ⟨by rfl, fun W _ => by go_simp⟩) hs ?_
          simp only [Act.put, List.setIfInBounds_toArray, List.set_cons_succ, List.set_cons_zero]
          refine wpAnyH_ready (rs := [18]) (by kernel_rfl) (by simp) (AllReadyH.cons rfl (fun K hK => ?_) AllReadyH.nil)
          refine step_store_row rfl 29 (.tmp 2) (.tmp 25) rfl (w.heap.size + 1) _ rfl rfl 29 _ gR (by kernel_rfl) rfl (by simp [Value.oneCell']) rfl ?_
          refine hK.out _ _ ((setRow_other _ _ _ _ (by omega)).trans hs) (fun hs => ?_)
          clear hK K
          simp only [Act.put]
          refine wpAnyH_takeD (i := 19) (d := 3) (v := .int .i64 0) rfl rfl (by kernel_rfl) (by kernel_rfl) (by kernel_rfl) (fun _ _ _ h => h) (Or.inl ⟨by rfl, fun W hW => by go_simp⟩) hs ?_
          simp only [Act.put, List.setIfInBounds_toArray, List.set_cons_succ, List.set_cons_zero]
          refine wpAnyH_done (by kernel_rfl) ?_ _
          have hold := HEnd.out W0 W4 W2.heap.size W1.heap.size W3.heap.size W0.heap.size hx0 hs0 (((x1.trans x2).trans x3).trans x4) ⟨((Row.holds r4).ext x4), (((Row.holds r8).ext x3).ext x4), (Row.holds r12), ((((Row.holds r16).ext x2).ext x3).ext x4)⟩ (by omega) (by omega) (by omega) (by omega)
          clear s1 s2 s3 s4 hs0
          go_wp2_with fail
          refine bodyPost_ret (results_row_tmp rfl _ _ (w.heap.size + 1) 29 _ (0, 0) _ rfl (setRow_heap _ _ _ _ _ _ gR) Tryz.underlying29 rfl (by kernel_rfl)) rfl ⟨⟨some ⟨W2.heap.size, 0, none⟩, n1, some ⟨W1.heap.size, 0, none⟩, n2, some ⟨W3.heap.size, 0, none⟩, n3, some ⟨W0.heap.size, 0, none⟩, n4⟩, by rfl, hold.1 _, hold.2.1 _, ⟨.inr hold.2.2.1, .inr hold.2.2.2.1, .inr hold.2.2.2.2.1, .inr hold.2.2.2.2.2⟩⟩
      · refine step_make (mk := Value.int .u16) rfl (.tmp 19) (.tmp 19) 27 rfl 59 iw 0 2 Tryz.underlying27 hiw0 hiw1 hiw2 hiw3 rfl n3 rfl rfl (by omega) (by decide) 20 rfl (fun W3 r12 x3 s3 => ?_)
        refine hK.out _ _ (x3.block hs) (fun hs => ?_)
        clear hK K
        simp only [Act.put, List.setIfInBounds_toArray, List.set_cons_succ, List.set_cons_zero]
        refine wpAnyH_ready (rs := [4]) (by kernel_rfl) (by simp) (AllReadyH.cons rfl (fun K hK => ?_) (AllReadyH.nil))
        · refine step_make (mk := Value.bool) rfl (.tmp 11) (.tmp 11) 26 rfl 4 ib false 1 Tryz.underlying26 hib0 hib1 hib2 hib3 rfl n1 rfl rfl (by omega) (by decide) 12 rfl (fun W4 r4 x4 s4 => ?_)
          refine hK.out _ _ (x4.block hs) (fun hs => ?_)
          clear hK K
          simp only [Act.put, List.setIfInBounds_toArray, List.set_cons_succ, List.set_cons_zero]
          have gR := x4.block (x3.block (x2.block (x1.block hR)))
          refine wpAnyH_takeD (i := 17) (d := 25) (v := .agg #[.int .i64 cf, .int .i64 n1, .int .i64 jf, .int .i64 n2, .int .i64 hf, .int .i64 n3, .int .i64 rf, .int .i64 n4, .int .i64 bf, .int .i64 bc, .slice (some ⟨W3.heap.size, 0, none⟩) n1 n1, .slice (some ⟨W1.heap.size, 0, none⟩) n2 n2, .slice (some ⟨W2.heap.size, 0, none⟩) n3 n3, .slice (some ⟨W0.heap.size, 0, none⟩) n4 n4]) rfl rfl (by kernel_rfl) (by kernel_rfl) (by kernel_rfl) (fun _ _ _ h => h) (Or.inl ⟨by rfl, fun W _ => by go_simp⟩) hs ?_
          simp only [Act.put, List.setIfInBounds_toArray, List.set_cons_succ, List.set_cons_zero]
          refine wpAnyH_ready (rs := [18]) (by kernel_rfl) (by simp) (AllReadyH.cons rfl (fun K hK => ?_) AllReadyH.nil)
          refine step_store_row rfl 29 (.tmp 2) (.tmp 25) rfl (w.heap.size + 1) _ rfl rfl 29 _ gR (by kernel_rfl) rfl (by simp [Value.oneCell']) rfl ?_
          refine hK.out _ _ ((setRow_other _ _ _ _ (by omega)).trans hs) (fun hs => ?_)
          clear hK K
          simp only [Act.put]
          refine wpAnyH_takeD (i := 19) (d := 3) (v := .int .i64 0) rfl rfl (by kernel_rfl) (by kernel_rfl) (by kernel_rfl) (fun _ _ _ h => h) (Or.inl ⟨by rfl, fun W hW => by go_simp⟩) hs ?_
          simp only [Act.put, List.setIfInBounds_toArray, List.set_cons_succ, List.set_cons_zero]
          refine wpAnyH_done (by kernel_rfl) ?_ _
          have hold := HEnd.out W0 W4 W3.heap.size W1.heap.size W2.heap.size W0.heap.size hx0 hs0 (((x1.trans x2).trans x3).trans x4) ⟨(Row.holds r4), (((Row.holds r8).ext x3).ext x4), ((Row.holds r12).ext x4), ((((Row.holds r16).ext x2).ext x3).ext x4)⟩ (by omega) (by omega) (by omega) (by omega)
          clear s1 s2 s3 s4 hs0
          go_wp2_with fail
          refine bodyPost_ret (results_row_tmp rfl _ _ (w.heap.size + 1) 29 _ (0, 0) _ rfl (setRow_heap _ _ _ _ _ _ gR) Tryz.underlying29 rfl (by kernel_rfl)) rfl ⟨⟨some ⟨W3.heap.size, 0, none⟩, n1, some ⟨W1.heap.size, 0, none⟩, n2, some ⟨W2.heap.size, 0, none⟩, n3, some ⟨W0.heap.size, 0, none⟩, n4⟩, by rfl, hold.1 _, hold.2.1 _, ⟨.inr hold.2.2.1, .inr hold.2.2.2.1, .inr hold.2.2.2.2.1, .inr hold.2.2.2.2.2⟩⟩
    · refine step_make (mk := Value.int .u16) rfl (.tmp 19) (.tmp 19) 27 rfl 59 iw 0 2 Tryz.underlying27 hiw0 hiw1 hiw2 hiw3 rfl n3 rfl rfl (by omega) (by decide) 20 rfl (fun W2 r12 x2 s2 => ?_)
      refine hK.out _ _ (x2.block hs) (fun hs => ?_)
      clear hK K
      simp only [Act.put, List.setIfInBounds_toArray, List.set_cons_succ, List.set_cons_zero]
      refine wpAnyH_ready (rs := [4, 8]) (by kernel_rfl) (by simp) (AllReadyH.cons rfl (fun K hK => ?_) (AllReadyH.cons rfl (fun K hK => ?_) (AllReadyH.nil)))
      · refine step_make (mk := Value.bool) rfl (.tmp 11) (.tmp 11) 26 rfl 4 ib false 1 Tryz.underlying26 hib0 hib1 hib2 hib3 rfl n1 rfl rfl (by omega) (by decide) 12 rfl (fun W3 r4 x3 s3 => ?_)
        refine hK.out _ _ (x3.block hs) (fun hs => ?_)
        clear hK K
        simp only [Act.put, List.setIfInBounds_toArray, List.set_cons_succ, List.set_cons_zero]
        refine wpAnyH_ready (rs := [8]) (by kernel_rfl) (by simp) (AllReadyH.cons rfl (fun K hK => ?_) (AllReadyH.nil))
        · refine step_make (mk := Value.bool) rfl (.tmp 15) (.tmp 15) 26 rfl 4 ib false 1 Tryz.underlying26 hib0 hib1 hib2 hib3 rfl n2 rfl rfl (by omega) (by decide) 16 rfl (fun W4 r8 x4 s4 => ?_)
          refine hK.out _ _ (x4.block hs) (fun hs => ?_)
          clear hK K
          simp only [Act.put, List.setIfInBounds_toArray, List.set_cons_succ, List.set_cons_zero]
          have gR := x4.block (x3.block (x2.block (x1.block hR)))
          refine wpAnyH_takeD (i := 17) (d := 25) (v := .agg #[.int .i64 cf, .int .i64 n1, .int .i64 jf, .int .i64 n2, .int .i64 hf, .int .i64 n3, .int .i64 rf, .int .i64 n4, .int .i64 bf, .int .i64 bc, .slice (some ⟨W2.heap.size, 0, none⟩) n1 n1, .slice (some ⟨W3.heap.size, 0, none⟩) n2 n2, .slice (some ⟨W1.heap.size, 0, none⟩) n3 n3, .slice (some ⟨W0.heap.size, 0, none⟩) n4 n4]) rfl rfl (by kernel_rfl) (by kernel_rfl) (by kernel_rfl) (fun _ _ _ h => h) (Or.inl ⟨by rfl, fun W _ => by go_simp⟩) hs ?_
          simp only [Act.put, List.setIfInBounds_toArray, List.set_cons_succ, List.set_cons_zero]
          refine wpAnyH_ready (rs := [18]) (by kernel_rfl) (by simp) (AllReadyH.cons rfl (fun K hK => ?_) AllReadyH.nil)
          refine step_store_row rfl 29 (.tmp 2) (.tmp 25) rfl (w.heap.size + 1) _ rfl rfl 29 _ gR (by kernel_rfl) rfl (by simp [Value.oneCell']) rfl ?_
          refine hK.out _ _ ((setRow_other _ _ _ _ (by omega)).trans hs) (fun hs => ?_)
          clear hK K
          simp only [Act.put]
          refine wpAnyH_takeD (i := 19) (d := 3) (v := .int .i64 0) rfl rfl (by kernel_rfl) (by kernel_rfl) (by kernel_rfl) (fun _ _ _ h => h) (Or.inl ⟨by rfl, fun W hW => by go_simp⟩) hs ?_
          simp only [Act.put, List.setIfInBounds_toArray, List.set_cons_succ, List.set_cons_zero]
          refine wpAnyH_done (by kernel_rfl) ?_ _
          have hold := HEnd.out W0 W4 W2.heap.size W3.heap.size W1.heap.size W0.heap.size hx0 hs0 (((x1.trans x2).trans x3).trans x4) ⟨((Row.holds r4).ext x4), (Row.holds r8), (((Row.holds r12).ext x3).ext x4), ((((Row.holds r16).ext x2).ext x3).ext x4)⟩ (by omega) (by omega) (by omega) (by omega)
          clear s1 s2 s3 s4 hs0
          go_wp2_with fail
          refine bodyPost_ret (results_row_tmp rfl _ _ (w.heap.size + 1) 29 _ (0, 0) _ rfl (setRow_heap _ _ _ _ _ _ gR) Tryz.underlying29 rfl (by kernel_rfl)) rfl ⟨⟨some ⟨W2.heap.size, 0, none⟩, n1, some ⟨W3.heap.size, 0, none⟩, n2, some ⟨W1.heap.size, 0, none⟩, n3, some ⟨W0.heap.size, 0, none⟩, n4⟩, by rfl, hold.1 _, hold.2.1 _, ⟨.inr hold.2.2.1, .inr hold.2.2.2.1, .inr hold.2.2.2.2.1, .inr hold.2.2.2.2.2⟩⟩
      · refine step_make (mk := Value.bool) rfl (.tmp 15) (.tmp 15) 26 rfl 4 ib false 1 Tryz.underlying26 hib0 hib1 hib2 hib3 rfl n2 rfl rfl (by omega) (by decide) 16 rfl (fun W3 r8 x3 s3 => ?_)
        refine hK.out _ _ (x3.block hs) (fun hs => ?_)
        clear hK K
        simp only [Act.put, List.setIfInBounds_toArray, List.set_cons_succ, List.set_cons_zero]
        refine wpAnyH_ready (rs := [4]) (by kernel_rfl) (by simp) (AllReadyH.cons rfl (fun K hK => ?_) (AllReadyH.nil))
        · refine step_make (mk := Value.bool) rfl (.tmp 11) (.tmp 11) 26 rfl 4 ib false 1 Tryz.underlying26 hib0 hib1 hib2 hib3 rfl n1 rfl rfl (by omega) (by decide) 12 rfl (fun W4 r4 x4 s4 => ?_)
          refine hK.out _ _ (x4.block hs) (fun hs => ?_)
          clear hK K
          simp only [Act.put, List.setIfInBounds_toArray, List.set_cons_succ, List.set_cons_zero]
          have gR := x4.block (x3.block (x2.block (x1.block hR)))
          refine wpAnyH_takeD (i := 17) (d := 25) (v := .agg #[.int .i64 cf, .int .i64 n1, .int .i64 jf, .int .i64 n2, .int .i64 hf, .int .i64 n3, .int .i64 rf, .int .i64 n4, .int .i64 bf, .int .i64 bc, .slice (some ⟨W3.heap.size, 0, none⟩) n1 n1, .slice (some ⟨W2.heap.size, 0, none⟩) n2 n2, .slice (some ⟨W1.heap.size, 0, none⟩) n3 n3, .slice (some ⟨W0.heap.size, 0, none⟩) n4 n4]) rfl rfl (by kernel_rfl) (by kernel_rfl) (by kernel_rfl) (fun _ _ _ h => h) (Or.inl ⟨by rfl, fun W _ => by go_simp⟩) hs ?_
          simp only [Act.put, List.setIfInBounds_toArray, List.set_cons_succ, List.set_cons_zero]
          refine wpAnyH_ready (rs := [18]) (by kernel_rfl) (by simp) (AllReadyH.cons rfl (fun K hK => ?_) AllReadyH.nil)
          refine step_store_row rfl 29 (.tmp 2) (.tmp 25) rfl (w.heap.size + 1) _ rfl rfl 29 _ gR (by kernel_rfl) rfl (by simp [Value.oneCell']) rfl ?_
          refine hK.out _ _ ((setRow_other _ _ _ _ (by omega)).trans hs) (fun hs => ?_)
          clear hK K
          simp only [Act.put]
          refine wpAnyH_takeD (i := 19) (d := 3) (v := .int .i64 0) rfl rfl (by kernel_rfl) (by kernel_rfl) (by kernel_rfl) (fun _ _ _ h => h) (Or.inl ⟨by rfl, fun W hW => by go_simp⟩) hs ?_
          simp only [Act.put, List.setIfInBounds_toArray, List.set_cons_succ, List.set_cons_zero]
          refine wpAnyH_done (by kernel_rfl) ?_ _
          have hold := HEnd.out W0 W4 W3.heap.size W2.heap.size W1.heap.size W0.heap.size hx0 hs0 (((x1.trans x2).trans x3).trans x4) ⟨(Row.holds r4), ((Row.holds r8).ext x4), (((Row.holds r12).ext x3).ext x4), ((((Row.holds r16).ext x2).ext x3).ext x4)⟩ (by omega) (by omega) (by omega) (by omega)
          clear s1 s2 s3 s4 hs0
          go_wp2_with fail
          refine bodyPost_ret (results_row_tmp rfl _ _ (w.heap.size + 1) 29 _ (0, 0) _ rfl (setRow_heap _ _ _ _ _ _ gR) Tryz.underlying29 rfl (by kernel_rfl)) rfl ⟨⟨some ⟨W3.heap.size, 0, none⟩, n1, some ⟨W2.heap.size, 0, none⟩, n2, some ⟨W1.heap.size, 0, none⟩, n3, some ⟨W0.heap.size, 0, none⟩, n4⟩, by rfl, hold.1 _, hold.2.1 _, ⟨.inr hold.2.2.1, .inr hold.2.2.2.1, .inr hold.2.2.2.2.1, .inr hold.2.2.2.2.2⟩⟩
set_option maxHeartbeats 2000000 in
theorem fnew_no (F : Fil) (w : World) (hb : bankB F = false) : Calls Tryz.prog 31 #[.agg (bnkC F)] w (FP 11 zeroF zeroV zeroF w) := by
  unfold FP
  have HB := Lib.hid (fun w' => fmaybe_v hb w')
  have e0 := (Ext.alloc w (.cells (bnkC F) 25)).trans (Ext.alloc _ (.cells (filC zeroV zeroF) 29))
  have gR := (two_boxes w (bnkC F) (filC zeroV zeroF) 25 29).2
  clear hb
  unfold bnkC at HB e0 gR ⊢
  unfold filC at e0 gR
  dsimp only [zeroV, zeroF] at e0 gR
  go_enter Tryz.func31, Tryz.ntmps31
  go_wp2_with fail
  refine (HB.out _).mono ?_; rintro e w1 ⟨rfl, x1⟩
  have gR1 := x1.block gR
  have y1 := e0.trans x1
  clear x1 e0 gR
  go_wp2_with (first | (refine wpList_store_row rfl 29 (.tmp 2) (.tmp 7) rfl (w.heap.size + 1) _ rfl rfl 29 _ gR1 (by kernel_rfl) rfl (by simp [Value.oneCell']) ?_))
  refine bodyPost_ret (results_row_tmp rfl _ _ (w.heap.size + 1) 29 _ (0, 0) _ rfl (setRow_heap _ _ _ _ _ _ gR1) Tryz.underlying29 rfl (by kernel_rfl)) rfl ⟨zeroV, by rfl, zero_at _, below_setRow y1 (Nat.le_succ _) _, From.zero _ _ _⟩
theorem fnew_c : FNewC 31 := by
  intro F w
  cases hb : bankB F with
  | true => exact fnew_yes F w hb
  | false => exact fnew_no F w hb
end Go.Proofs.YtlafnobjfajamaaGreat
namespace Go.Proofs.YtlafnobjfajamaaGreat
open Go.RowKit
set_option linter.unusedVariables false

set_option maxHeartbeats 2000000 in
theorem sleqbool_any (a b : Option Addr) (n m c d : Nat) (f g : Nat → Bool) (w : World) (ha : HoldsG Value.bool w a n f) (hb : HoldsG Value.bool w b m g) (hn : n ≤ 1000000) (hm : m ≤ 1000000) :
    Calls Tryz.prog 96 #[.slice a n c, .slice b m d] w fun e w' => e = .returned (.bool (eqG n m f g)) ∧ ∃ q, w' = w.drewN q := by
  by_cases hnm : n = m
  · subst hnm
    go_enter Tryz.func96, Tryz.ntmps96
    go_wp2
    go_loopw [13] (fun i wr => ∃ j : Nat, j ≤ n ∧ i = .int .i64 j ∧ (∀ t, t < j → f t = g t) ∧ ∃ q, wr = w.drewN q) (fun i _ => n - (intOf i).toNat)
    case atStart => exact ⟨0, Nat.zero_le _, rfl, fun t ht => absurd ht (by omega), 0, rfl⟩
    case round =>
      obtain ⟨j, hj, rfl, hall0, q, rfl⟩ := hrel
      have hall := Lib.hid hall0
      clear hall0
      by_cases hlt : j < n
      · obtain ⟨p, o, rfl, hp, hc⟩ := ha.resolve_left (by omega)
        obtain ⟨p', o', rfl, hp', hc'⟩ := hb.resolve_left (by omega)
        have c1 := hc j hlt
        have c2 := hc' j hlt
        clear hc hc' ha hb
        obtain ⟨x, hx⟩ : ∃ x, x = f j := ⟨_, rfl⟩
        obtain ⟨y, hy⟩ : ∃ y, y = g j := ⟨_, rfl⟩
        rw [← hx] at c1
        rw [← hy] at c2
        have HX := Lib.hid hx
        have HY := Lib.hid hy
        clear hx hy
        by_cases hxy : x = y
        · cases x <;> cases y <;> (first | (cases hxy; done) | skip)
          all_goals
            clear hxy
            go_wp2
            go_quiet (fail)
            go_wp2
            go_roundw
            case rel => exact ⟨j + 1, by omega, by go_num, fun t ht => by rcases Nat.lt_or_ge t j with h | h; exact hall.out t h; obtain rfl : t = j := by omega
                                                                          exact HX.out.symm.trans HY.out, q + _, rfl⟩
            case measure => simp [intOf]; omega
        · have he := Lib.hid (eqG_false (n := n) (m := n) (f := f) (g := g) (.inr ⟨j, hlt, by rw [← HX.out, ← HY.out]; exact hxy⟩))
          cases x <;> cases y <;> (first | (exact absurd rfl hxy; done) | skip)
          all_goals
            clear hxy
            go_wp2
            go_quiet (fail)
            go_wp2
            go_ret
            exact ⟨ret_b he.out.symm, dr2 _ _ _⟩
      · have he := Lib.hid (eqG_true (n := n) (m := n) (f := f) (g := g) rfl (fun i hi => hall.out i (by omega)))
        clear ha hb
        go_wp2
        go_ret
        exact ⟨ret_b he.out.symm, _, rfl⟩
  · have he := Lib.hid (eqG_false (n := n) (m := m) (f := f) (g := g) (.inl hnm))
    clear ha hb
    go_enter Tryz.func96, Tryz.ntmps96
    go_wp2
    go_ret
    exact ⟨ret_b he.out.symm, 0, rfl⟩
set_option maxHeartbeats 2000000 in
theorem slequint16_any (a b : Option Addr) (n m c d : Nat) (f g : Nat → Int) (w : World) (ha : HoldsG (Value.int .u16) w a n f) (hb : HoldsG (Value.int .u16) w b m g) (hn : n ≤ 1000000) (hm : m ≤ 1000000) :
    Calls Tryz.prog 98 #[.slice a n c, .slice b m d] w fun e w' => e = .returned (.bool (eqB n m f g)) ∧ ∃ q, w' = w.drewN q := by
  by_cases hnm : n = m
  · subst hnm
    go_enter Tryz.func98, Tryz.ntmps98
    go_wp2
    go_loopw [13] (fun i wr => ∃ j : Nat, j ≤ n ∧ i = .int .i64 j ∧ (∀ t, t < j → f t = g t) ∧ ∃ q, wr = w.drewN q) (fun i _ => n - (intOf i).toNat)
    case atStart => exact ⟨0, Nat.zero_le _, rfl, fun t ht => absurd ht (by omega), 0, rfl⟩
    case round =>
      obtain ⟨j, hj, rfl, hall0, q, rfl⟩ := hrel
      have hall := Lib.hid hall0
      clear hall0
      by_cases hlt : j < n
      · obtain ⟨p, o, rfl, hp, hc⟩ := ha.resolve_left (by omega)
        obtain ⟨p', o', rfl, hp', hc'⟩ := hb.resolve_left (by omega)
        have c1 := hc j hlt
        have c2 := hc' j hlt
        clear hc hc' ha hb
        by_cases hfg : f j = g j
        · have hfe := Lib.hid hfg
          have hff : (f j != g j) = false := by simp [hfg]
          clear hfg
          go_wp2
          go_quiet (fail)
          go_wp2
          go_roundw
          case rel => exact ⟨j + 1, by omega, by go_num, fun t ht => by rcases Nat.lt_or_ge t j with h | h; exact hall.out t h; obtain rfl : t = j := by omega
                                                                        exact hfe.out, q + _, rfl⟩
          case measure => simp [intOf]; omega
        · have he := Lib.hid (eqB_false (n := n) (m := n) (f := f) (g := g) (.inr ⟨j, hlt, hfg⟩))
          have hff : (f j != g j) = true := by simp [hfg]
          clear hfg
          go_wp2
          go_quiet (fail)
          go_wp2
          go_ret
          exact ⟨by rw [he.out]; rfl, drewN_two _ _ _⟩
      · have he := Lib.hid (eqB_true (n := n) (m := n) (f := f) (g := g) rfl (fun i hi => hall.out i (by omega)))
        clear ha hb
        go_wp2
        go_ret
        exact ⟨by rw [he.out]; rfl, _, rfl⟩
  · have he := Lib.hid (eqB_false (n := n) (m := m) (f := f) (g := g) (.inl hnm))
    clear ha hb
    go_enter Tryz.func98, Tryz.ntmps98
    go_wp2
    go_ret
    exact ⟨by rw [he.out]; rfl, 0, rfl⟩
set_option maxRecDepth 100000 in
set_option maxHeartbeats 8000000 in
theorem fagainst_coils (V : FilV) (F : Fil) (U : FilV) (G : Fil) (A D : Nat) (w : World) (hA : w.heap[A]? = some (.cells (filC V F) 139 (0, 0))) (hD : w.heap[D]? = some (.cells (filC U G) 139 (0, 0))) (hf : FilAt w V F) (hg : FilAt w U G) (sF : Small F) (sG : Small G) :
    Calls Tryz.prog 95 #[.func (Fn.func 56) #[] #[], .pointer (some ⟨A, 0, none⟩), .pointer (some ⟨D, 0, none⟩)] w fun e w' => e = .returned (.bool (eqW F.cf F.cc G.cf G.cc && eqG F.nC G.nC F.C G.C)) ∧ Ext w w' := by
  have HT := Lib.hid (fun w' hb => fcoils_v V F A w' hb)
  have HU := Lib.hid (fun w' hb => fcoils_v U G D w' hb)
  have K := Lib.hid (fun w' (hx : Ext w w') => (sleqbool_any V.a1 U.a1 F.nC G.nC V.d1 U.d1 F.C G.C w' (hf.h1.ext hx) (hg.h1.ext hx) sF.s1 sG.s1).mono fun _ _ h => (⟨h.1, Ext.of_drewN h.2⟩ : _ ∧ Ext w' _))
  generalize eqG F.nC G.nC F.C G.C = B at K ⊢
  have hgd := fun x y xs ys w => weqg .eql x y xs ys w
  clear hf hg sF sG
  cases he : eqW F.cf F.cc G.cf G.cc with
  | false =>
    have hq := fun w => weql_v he w
    clear he K
    rw [Bool.false_and]
    go_enter Tryz.func95, Tryz.ntmps95
    go_wp2_with fail
    refine (HT.out _ hA).mono ?_; rintro e w1 ⟨rfl, x1⟩
    have y1 := x1.trans (Ext.alloc w1 (.cells #[.int .i64 F.cf, .int .i64 F.cc] 23))
    have hD1 := y1.block hD
    have a1 : (w1.alloc (.cells #[.int .i64 F.cf, .int .i64 F.cc] 23)).heap[w1.heap.size]? = some (.cells #[.int .i64 F.cf, .int .i64 F.cc] 23 (0, 0)) := heap_alloc_new w1 _
    go_wp2_with fail
    refine (HU.out _ hD1).mono ?_; rintro e w2 ⟨rfl, x2⟩
    obtain ⟨W3, hW3, HY, HE⟩ : ∃ W3, W3 = w2.alloc (.cells #[.int .i64 G.cf, .int .i64 G.cc] 23) ∧ Hid (∀ W, Ext W3 W → W.cell? ⟨w1.heap.size, 0, none⟩ = some (.int .i64 F.cf) ∧ W.cell? ⟨w1.heap.size, 1, none⟩ = some (.int .i64 F.cc) ∧ W.cell? ⟨w2.heap.size, 0, none⟩ = some (.int .i64 G.cf) ∧ W.cell? ⟨w2.heap.size, 1, none⟩ = some (.int .i64 G.cc) ∧ W.cell? ⟨A, 10, none⟩ = some (.slice V.a1 F.nC V.d1) ∧ W.cell? ⟨D, 10, none⟩ = some (.slice U.a1 G.nC U.d1)) ∧ Hid (Ext w W3) :=
      ⟨_, rfl, Lib.hid (fun W hx => have z := (x2.trans (Ext.alloc w2 _)).trans hx; ⟨cell_of_heap (z.block a1) rfl, cell_of_heap (z.block a1) rfl, hx.made 0 _ rfl, hx.made 1 _ rfl, cell_of_heap ((y1.trans z).block hA) rfl, cell_of_heap ((y1.trans z).block hD) rfl⟩), Lib.hid (y1.trans (x2.trans (Ext.alloc _ _)))⟩
    clear x1 y1 hD1 a1 x2 hA hD
    go_wp2_with fail
    rw [← hW3]
    clear hW3
    obtain ⟨q0, q1, q2, q3, q4, q5⟩ := HY.out W3.drew (Ext.drew _)
    have y0 : Ext W3 W3.drew := Ext.drew _
    go_region
    go_wp2
    go_ret
    exact ⟨rfl, HE.out.trans (Ext.drew _)⟩
  | true =>
    have hq := fun w => weql_v he w
    clear he
    rw [Bool.true_and]
    go_enter Tryz.func95, Tryz.ntmps95
    go_wp2_with fail
    refine (HT.out _ hA).mono ?_; rintro e w1 ⟨rfl, x1⟩
    have y1 := x1.trans (Ext.alloc w1 (.cells #[.int .i64 F.cf, .int .i64 F.cc] 23))
    have hD1 := y1.block hD
    have a1 : (w1.alloc (.cells #[.int .i64 F.cf, .int .i64 F.cc] 23)).heap[w1.heap.size]? = some (.cells #[.int .i64 F.cf, .int .i64 F.cc] 23 (0, 0)) := heap_alloc_new w1 _
    go_wp2_with fail
    refine (HU.out _ hD1).mono ?_; rintro e w2 ⟨rfl, x2⟩
    obtain ⟨W3, hW3, HY, HE⟩ : ∃ W3, W3 = w2.alloc (.cells #[.int .i64 G.cf, .int .i64 G.cc] 23) ∧ Hid (∀ W, Ext W3 W → W.cell? ⟨w1.heap.size, 0, none⟩ = some (.int .i64 F.cf) ∧ W.cell? ⟨w1.heap.size, 1, none⟩ = some (.int .i64 F.cc) ∧ W.cell? ⟨w2.heap.size, 0, none⟩ = some (.int .i64 G.cf) ∧ W.cell? ⟨w2.heap.size, 1, none⟩ = some (.int .i64 G.cc) ∧ W.cell? ⟨A, 10, none⟩ = some (.slice V.a1 F.nC V.d1) ∧ W.cell? ⟨D, 10, none⟩ = some (.slice U.a1 G.nC U.d1)) ∧ Hid (Ext w W3) :=
      ⟨_, rfl, Lib.hid (fun W hx => have z := (x2.trans (Ext.alloc w2 _)).trans hx; ⟨cell_of_heap (z.block a1) rfl, cell_of_heap (z.block a1) rfl, hx.made 0 _ rfl, hx.made 1 _ rfl, cell_of_heap ((y1.trans z).block hA) rfl, cell_of_heap ((y1.trans z).block hD) rfl⟩), Lib.hid (y1.trans (x2.trans (Ext.alloc _ _)))⟩
    clear x1 y1 hD1 a1 x2 hA hD
    go_wp2_with fail
    rw [← hW3]
    clear hW3
    obtain ⟨q0, q1, q2, q3, q4, q5⟩ := HY.out W3.drew (Ext.drew _)
    have y0 : Ext W3 W3.drew := Ext.drew _
    go_region_held3 (fun w' => w'.cell? ⟨w1.heap.size, 0, none⟩ = some (.int .i64 F.cf) ∧ w'.cell? ⟨w1.heap.size, 1, none⟩ = some (.int .i64 F.cc) ∧ w'.cell? ⟨w2.heap.size, 0, none⟩ = some (.int .i64 G.cf) ∧ w'.cell? ⟨w2.heap.size, 1, none⟩ = some (.int .i64 G.cc) ∧ w'.cell? ⟨A, 10, none⟩ = some (.slice V.a1 F.nC V.d1) ∧ w'.cell? ⟨D, 10, none⟩ = some (.slice U.a1 G.nC U.d1) ∧ Ext W3 w')
      ((refine ⟨?_, ?_, ?_, ?_, ?_, ?_, ?_⟩ <;> assumption))
      (first
        | (go_at_call 96; refine (K.out _ (HE.out.trans (by assumption))).mono ?_; rintro e w6 ⟨rfl, x6⟩; have y6 : Ext W3 w6 := Ext.trans (by assumption) x6; obtain ⟨a0, a1, a2, a3, a4, a5⟩ := HY.out _ y6))
    clear q0 q1 q2 q3 q4 q5 a0 a1 a2 a3 a4 a5
    go_wp2
    go_ret
    exact ⟨rfl, HE.out.trans y6⟩
set_option maxRecDepth 100000 in
set_option maxHeartbeats 8000000 in
theorem fagainst_inputs (V : FilV) (F : Fil) (U : FilV) (G : Fil) (A D : Nat) (w : World) (hA : w.heap[A]? = some (.cells (filC V F) 139 (0, 0))) (hD : w.heap[D]? = some (.cells (filC U G) 139 (0, 0))) (hf : FilAt w V F) (hg : FilAt w U G) (sF : Small F) (sG : Small G) :
    Calls Tryz.prog 95 #[.func (Fn.func 57) #[] #[], .pointer (some ⟨A, 0, none⟩), .pointer (some ⟨D, 0, none⟩)] w fun e w' => e = .returned (.bool (eqW F.jf F.jc G.jf G.jc && eqG F.nI G.nI F.I G.I)) ∧ Ext w w' := by
  have HT := Lib.hid (fun w' hb => finputs_v V F A w' hb)
  have HU := Lib.hid (fun w' hb => finputs_v U G D w' hb)
  have K := Lib.hid (fun w' (hx : Ext w w') => (sleqbool_any V.a2 U.a2 F.nI G.nI V.d2 U.d2 F.I G.I w' (hf.h2.ext hx) (hg.h2.ext hx) sF.s2 sG.s2).mono fun _ _ h => (⟨h.1, Ext.of_drewN h.2⟩ : _ ∧ Ext w' _))
  generalize eqG F.nI G.nI F.I G.I = B at K ⊢
  have hgd := fun x y xs ys w => weqg .eql x y xs ys w
  clear hf hg sF sG
  cases he : eqW F.jf F.jc G.jf G.jc with
  | false =>
    have hq := fun w => weql_v he w
    clear he K
    rw [Bool.false_and]
    go_enter Tryz.func95, Tryz.ntmps95
    go_wp2_with fail
    refine (HT.out _ hA).mono ?_; rintro e w1 ⟨rfl, x1⟩
    have y1 := x1.trans (Ext.alloc w1 (.cells #[.int .i64 F.jf, .int .i64 F.jc] 23))
    have hD1 := y1.block hD
    have a1 : (w1.alloc (.cells #[.int .i64 F.jf, .int .i64 F.jc] 23)).heap[w1.heap.size]? = some (.cells #[.int .i64 F.jf, .int .i64 F.jc] 23 (0, 0)) := heap_alloc_new w1 _
    go_wp2_with fail
    refine (HU.out _ hD1).mono ?_; rintro e w2 ⟨rfl, x2⟩
    obtain ⟨W3, hW3, HY, HE⟩ : ∃ W3, W3 = w2.alloc (.cells #[.int .i64 G.jf, .int .i64 G.jc] 23) ∧ Hid (∀ W, Ext W3 W → W.cell? ⟨w1.heap.size, 0, none⟩ = some (.int .i64 F.jf) ∧ W.cell? ⟨w1.heap.size, 1, none⟩ = some (.int .i64 F.jc) ∧ W.cell? ⟨w2.heap.size, 0, none⟩ = some (.int .i64 G.jf) ∧ W.cell? ⟨w2.heap.size, 1, none⟩ = some (.int .i64 G.jc) ∧ W.cell? ⟨A, 11, none⟩ = some (.slice V.a2 F.nI V.d2) ∧ W.cell? ⟨D, 11, none⟩ = some (.slice U.a2 G.nI U.d2)) ∧ Hid (Ext w W3) :=
      ⟨_, rfl, Lib.hid (fun W hx => have z := (x2.trans (Ext.alloc w2 _)).trans hx; ⟨cell_of_heap (z.block a1) rfl, cell_of_heap (z.block a1) rfl, hx.made 0 _ rfl, hx.made 1 _ rfl, cell_of_heap ((y1.trans z).block hA) rfl, cell_of_heap ((y1.trans z).block hD) rfl⟩), Lib.hid (y1.trans (x2.trans (Ext.alloc _ _)))⟩
    clear x1 y1 hD1 a1 x2 hA hD
    go_wp2_with fail
    rw [← hW3]
    clear hW3
    obtain ⟨q0, q1, q2, q3, q4, q5⟩ := HY.out W3.drew (Ext.drew _)
    have y0 : Ext W3 W3.drew := Ext.drew _
    go_region
    go_wp2
    go_ret
    exact ⟨rfl, HE.out.trans (Ext.drew _)⟩
  | true =>
    have hq := fun w => weql_v he w
    clear he
    rw [Bool.true_and]
    go_enter Tryz.func95, Tryz.ntmps95
    go_wp2_with fail
    refine (HT.out _ hA).mono ?_; rintro e w1 ⟨rfl, x1⟩
    have y1 := x1.trans (Ext.alloc w1 (.cells #[.int .i64 F.jf, .int .i64 F.jc] 23))
    have hD1 := y1.block hD
    have a1 : (w1.alloc (.cells #[.int .i64 F.jf, .int .i64 F.jc] 23)).heap[w1.heap.size]? = some (.cells #[.int .i64 F.jf, .int .i64 F.jc] 23 (0, 0)) := heap_alloc_new w1 _
    go_wp2_with fail
    refine (HU.out _ hD1).mono ?_; rintro e w2 ⟨rfl, x2⟩
    obtain ⟨W3, hW3, HY, HE⟩ : ∃ W3, W3 = w2.alloc (.cells #[.int .i64 G.jf, .int .i64 G.jc] 23) ∧ Hid (∀ W, Ext W3 W → W.cell? ⟨w1.heap.size, 0, none⟩ = some (.int .i64 F.jf) ∧ W.cell? ⟨w1.heap.size, 1, none⟩ = some (.int .i64 F.jc) ∧ W.cell? ⟨w2.heap.size, 0, none⟩ = some (.int .i64 G.jf) ∧ W.cell? ⟨w2.heap.size, 1, none⟩ = some (.int .i64 G.jc) ∧ W.cell? ⟨A, 11, none⟩ = some (.slice V.a2 F.nI V.d2) ∧ W.cell? ⟨D, 11, none⟩ = some (.slice U.a2 G.nI U.d2)) ∧ Hid (Ext w W3) :=
      ⟨_, rfl, Lib.hid (fun W hx => have z := (x2.trans (Ext.alloc w2 _)).trans hx; ⟨cell_of_heap (z.block a1) rfl, cell_of_heap (z.block a1) rfl, hx.made 0 _ rfl, hx.made 1 _ rfl, cell_of_heap ((y1.trans z).block hA) rfl, cell_of_heap ((y1.trans z).block hD) rfl⟩), Lib.hid (y1.trans (x2.trans (Ext.alloc _ _)))⟩
    clear x1 y1 hD1 a1 x2 hA hD
    go_wp2_with fail
    rw [← hW3]
    clear hW3
    obtain ⟨q0, q1, q2, q3, q4, q5⟩ := HY.out W3.drew (Ext.drew _)
    have y0 : Ext W3 W3.drew := Ext.drew _
    go_region_held3 (fun w' => w'.cell? ⟨w1.heap.size, 0, none⟩ = some (.int .i64 F.jf) ∧ w'.cell? ⟨w1.heap.size, 1, none⟩ = some (.int .i64 F.jc) ∧ w'.cell? ⟨w2.heap.size, 0, none⟩ = some (.int .i64 G.jf) ∧ w'.cell? ⟨w2.heap.size, 1, none⟩ = some (.int .i64 G.jc) ∧ w'.cell? ⟨A, 11, none⟩ = some (.slice V.a2 F.nI V.d2) ∧ w'.cell? ⟨D, 11, none⟩ = some (.slice U.a2 G.nI U.d2) ∧ Ext W3 w')
      ((refine ⟨?_, ?_, ?_, ?_, ?_, ?_, ?_⟩ <;> assumption))
      (first
        | (go_at_call 96; refine (K.out _ (HE.out.trans (by assumption))).mono ?_; rintro e w6 ⟨rfl, x6⟩; have y6 : Ext W3 w6 := Ext.trans (by assumption) x6; obtain ⟨a0, a1, a2, a3, a4, a5⟩ := HY.out _ y6))
    clear q0 q1 q2 q3 q4 q5 a0 a1 a2 a3 a4 a5
    go_wp2
    go_ret
    exact ⟨rfl, HE.out.trans y6⟩
set_option maxRecDepth 100000 in
set_option maxHeartbeats 8000000 in
theorem fagainst_holding (V : FilV) (F : Fil) (U : FilV) (G : Fil) (A D : Nat) (w : World) (hA : w.heap[A]? = some (.cells (filC V F) 139 (0, 0))) (hD : w.heap[D]? = some (.cells (filC U G) 139 (0, 0))) (hf : FilAt w V F) (hg : FilAt w U G) (sF : Small F) (sG : Small G) :
    Calls Tryz.prog 97 #[.func (Fn.func 58) #[] #[], .pointer (some ⟨A, 0, none⟩), .pointer (some ⟨D, 0, none⟩)] w fun e w' => e = .returned (.bool (eqW F.hf F.hc G.hf G.hc && eqB F.nH G.nH F.H G.H)) ∧ Ext w w' := by
  have HT := Lib.hid (fun w' hb => fholding_v V F A w' hb)
  have HU := Lib.hid (fun w' hb => fholding_v U G D w' hb)
  have K := Lib.hid (fun w' (hx : Ext w w') => (slequint16_any V.a3 U.a3 F.nH G.nH V.d3 U.d3 F.H G.H w' (hf.h3.ext hx) (hg.h3.ext hx) sF.s3 sG.s3).mono fun _ _ h => (⟨h.1, Ext.of_drewN h.2⟩ : _ ∧ Ext w' _))
  generalize eqB F.nH G.nH F.H G.H = B at K ⊢
  have hgd := fun x y xs ys w => weqg .eql x y xs ys w
  clear hf hg sF sG
  cases he : eqW F.hf F.hc G.hf G.hc with
  | false =>
    have hq := fun w => weql_v he w
    clear he K
    rw [Bool.false_and]
    go_enter Tryz.func97, Tryz.ntmps97
    go_wp2_with fail
    refine (HT.out _ hA).mono ?_; rintro e w1 ⟨rfl, x1⟩
    have y1 := x1.trans (Ext.alloc w1 (.cells #[.int .i64 F.hf, .int .i64 F.hc] 23))
    have hD1 := y1.block hD
    have a1 : (w1.alloc (.cells #[.int .i64 F.hf, .int .i64 F.hc] 23)).heap[w1.heap.size]? = some (.cells #[.int .i64 F.hf, .int .i64 F.hc] 23 (0, 0)) := heap_alloc_new w1 _
    go_wp2_with fail
    refine (HU.out _ hD1).mono ?_; rintro e w2 ⟨rfl, x2⟩
    obtain ⟨W3, hW3, HY, HE⟩ : ∃ W3, W3 = w2.alloc (.cells #[.int .i64 G.hf, .int .i64 G.hc] 23) ∧ Hid (∀ W, Ext W3 W → W.cell? ⟨w1.heap.size, 0, none⟩ = some (.int .i64 F.hf) ∧ W.cell? ⟨w1.heap.size, 1, none⟩ = some (.int .i64 F.hc) ∧ W.cell? ⟨w2.heap.size, 0, none⟩ = some (.int .i64 G.hf) ∧ W.cell? ⟨w2.heap.size, 1, none⟩ = some (.int .i64 G.hc) ∧ W.cell? ⟨A, 12, none⟩ = some (.slice V.a3 F.nH V.d3) ∧ W.cell? ⟨D, 12, none⟩ = some (.slice U.a3 G.nH U.d3)) ∧ Hid (Ext w W3) :=
      ⟨_, rfl, Lib.hid (fun W hx => have z := (x2.trans (Ext.alloc w2 _)).trans hx; ⟨cell_of_heap (z.block a1) rfl, cell_of_heap (z.block a1) rfl, hx.made 0 _ rfl, hx.made 1 _ rfl, cell_of_heap ((y1.trans z).block hA) rfl, cell_of_heap ((y1.trans z).block hD) rfl⟩), Lib.hid (y1.trans (x2.trans (Ext.alloc _ _)))⟩
    clear x1 y1 hD1 a1 x2 hA hD
    go_wp2_with fail
    rw [← hW3]
    clear hW3
    obtain ⟨q0, q1, q2, q3, q4, q5⟩ := HY.out W3.drew (Ext.drew _)
    have y0 : Ext W3 W3.drew := Ext.drew _
    go_region
    go_wp2
    go_ret
    exact ⟨rfl, HE.out.trans (Ext.drew _)⟩
  | true =>
    have hq := fun w => weql_v he w
    clear he
    rw [Bool.true_and]
    go_enter Tryz.func97, Tryz.ntmps97
    go_wp2_with fail
    refine (HT.out _ hA).mono ?_; rintro e w1 ⟨rfl, x1⟩
    have y1 := x1.trans (Ext.alloc w1 (.cells #[.int .i64 F.hf, .int .i64 F.hc] 23))
    have hD1 := y1.block hD
    have a1 : (w1.alloc (.cells #[.int .i64 F.hf, .int .i64 F.hc] 23)).heap[w1.heap.size]? = some (.cells #[.int .i64 F.hf, .int .i64 F.hc] 23 (0, 0)) := heap_alloc_new w1 _
    go_wp2_with fail
    refine (HU.out _ hD1).mono ?_; rintro e w2 ⟨rfl, x2⟩
    obtain ⟨W3, hW3, HY, HE⟩ : ∃ W3, W3 = w2.alloc (.cells #[.int .i64 G.hf, .int .i64 G.hc] 23) ∧ Hid (∀ W, Ext W3 W → W.cell? ⟨w1.heap.size, 0, none⟩ = some (.int .i64 F.hf) ∧ W.cell? ⟨w1.heap.size, 1, none⟩ = some (.int .i64 F.hc) ∧ W.cell? ⟨w2.heap.size, 0, none⟩ = some (.int .i64 G.hf) ∧ W.cell? ⟨w2.heap.size, 1, none⟩ = some (.int .i64 G.hc) ∧ W.cell? ⟨A, 12, none⟩ = some (.slice V.a3 F.nH V.d3) ∧ W.cell? ⟨D, 12, none⟩ = some (.slice U.a3 G.nH U.d3)) ∧ Hid (Ext w W3) :=
      ⟨_, rfl, Lib.hid (fun W hx => have z := (x2.trans (Ext.alloc w2 _)).trans hx; ⟨cell_of_heap (z.block a1) rfl, cell_of_heap (z.block a1) rfl, hx.made 0 _ rfl, hx.made 1 _ rfl, cell_of_heap ((y1.trans z).block hA) rfl, cell_of_heap ((y1.trans z).block hD) rfl⟩), Lib.hid (y1.trans (x2.trans (Ext.alloc _ _)))⟩
    clear x1 y1 hD1 a1 x2 hA hD
    go_wp2_with fail
    rw [← hW3]
    clear hW3
    obtain ⟨q0, q1, q2, q3, q4, q5⟩ := HY.out W3.drew (Ext.drew _)
    have y0 : Ext W3 W3.drew := Ext.drew _
    go_region_held3 (fun w' => w'.cell? ⟨w1.heap.size, 0, none⟩ = some (.int .i64 F.hf) ∧ w'.cell? ⟨w1.heap.size, 1, none⟩ = some (.int .i64 F.hc) ∧ w'.cell? ⟨w2.heap.size, 0, none⟩ = some (.int .i64 G.hf) ∧ w'.cell? ⟨w2.heap.size, 1, none⟩ = some (.int .i64 G.hc) ∧ w'.cell? ⟨A, 12, none⟩ = some (.slice V.a3 F.nH V.d3) ∧ w'.cell? ⟨D, 12, none⟩ = some (.slice U.a3 G.nH U.d3) ∧ Ext W3 w')
      ((refine ⟨?_, ?_, ?_, ?_, ?_, ?_, ?_⟩ <;> assumption))
      (first
        | (go_at_call 98; refine (K.out _ (HE.out.trans (by assumption))).mono ?_; rintro e w6 ⟨rfl, x6⟩; have y6 : Ext W3 w6 := Ext.trans (by assumption) x6; obtain ⟨a0, a1, a2, a3, a4, a5⟩ := HY.out _ y6))
    clear q0 q1 q2 q3 q4 q5 a0 a1 a2 a3 a4 a5
    go_wp2
    go_ret
    exact ⟨rfl, HE.out.trans y6⟩
set_option maxRecDepth 100000 in
set_option maxHeartbeats 8000000 in
theorem fagainst_regs (V : FilV) (F : Fil) (U : FilV) (G : Fil) (A D : Nat) (w : World) (hA : w.heap[A]? = some (.cells (filC V F) 139 (0, 0))) (hD : w.heap[D]? = some (.cells (filC U G) 139 (0, 0))) (hf : FilAt w V F) (hg : FilAt w U G) (sF : Small F) (sG : Small G) :
    Calls Tryz.prog 97 #[.func (Fn.func 59) #[] #[], .pointer (some ⟨A, 0, none⟩), .pointer (some ⟨D, 0, none⟩)] w fun e w' => e = .returned (.bool (eqW F.rf F.rc G.rf G.rc && eqB F.nR G.nR F.R G.R)) ∧ Ext w w' := by
  have HT := Lib.hid (fun w' hb => fregs_v V F A w' hb)
  have HU := Lib.hid (fun w' hb => fregs_v U G D w' hb)
  have K := Lib.hid (fun w' (hx : Ext w w') => (slequint16_any V.a4 U.a4 F.nR G.nR V.d4 U.d4 F.R G.R w' (hf.h4.ext hx) (hg.h4.ext hx) sF.s4 sG.s4).mono fun _ _ h => (⟨h.1, Ext.of_drewN h.2⟩ : _ ∧ Ext w' _))
  generalize eqB F.nR G.nR F.R G.R = B at K ⊢
  have hgd := fun x y xs ys w => weqg .eql x y xs ys w
  clear hf hg sF sG
  cases he : eqW F.rf F.rc G.rf G.rc with
  | false =>
    have hq := fun w => weql_v he w
    clear he K
    rw [Bool.false_and]
    go_enter Tryz.func97, Tryz.ntmps97
    go_wp2_with fail
    refine (HT.out _ hA).mono ?_; rintro e w1 ⟨rfl, x1⟩
    have y1 := x1.trans (Ext.alloc w1 (.cells #[.int .i64 F.rf, .int .i64 F.rc] 23))
    have hD1 := y1.block hD
    have a1 : (w1.alloc (.cells #[.int .i64 F.rf, .int .i64 F.rc] 23)).heap[w1.heap.size]? = some (.cells #[.int .i64 F.rf, .int .i64 F.rc] 23 (0, 0)) := heap_alloc_new w1 _
    go_wp2_with fail
    refine (HU.out _ hD1).mono ?_; rintro e w2 ⟨rfl, x2⟩
    obtain ⟨W3, hW3, HY, HE⟩ : ∃ W3, W3 = w2.alloc (.cells #[.int .i64 G.rf, .int .i64 G.rc] 23) ∧ Hid (∀ W, Ext W3 W → W.cell? ⟨w1.heap.size, 0, none⟩ = some (.int .i64 F.rf) ∧ W.cell? ⟨w1.heap.size, 1, none⟩ = some (.int .i64 F.rc) ∧ W.cell? ⟨w2.heap.size, 0, none⟩ = some (.int .i64 G.rf) ∧ W.cell? ⟨w2.heap.size, 1, none⟩ = some (.int .i64 G.rc) ∧ W.cell? ⟨A, 13, none⟩ = some (.slice V.a4 F.nR V.d4) ∧ W.cell? ⟨D, 13, none⟩ = some (.slice U.a4 G.nR U.d4)) ∧ Hid (Ext w W3) :=
      ⟨_, rfl, Lib.hid (fun W hx => have z := (x2.trans (Ext.alloc w2 _)).trans hx; ⟨cell_of_heap (z.block a1) rfl, cell_of_heap (z.block a1) rfl, hx.made 0 _ rfl, hx.made 1 _ rfl, cell_of_heap ((y1.trans z).block hA) rfl, cell_of_heap ((y1.trans z).block hD) rfl⟩), Lib.hid (y1.trans (x2.trans (Ext.alloc _ _)))⟩
    clear x1 y1 hD1 a1 x2 hA hD
    go_wp2_with fail
    rw [← hW3]
    clear hW3
    obtain ⟨q0, q1, q2, q3, q4, q5⟩ := HY.out W3.drew (Ext.drew _)
    have y0 : Ext W3 W3.drew := Ext.drew _
    go_region
    go_wp2
    go_ret
    exact ⟨rfl, HE.out.trans (Ext.drew _)⟩
  | true =>
    have hq := fun w => weql_v he w
    clear he
    rw [Bool.true_and]
    go_enter Tryz.func97, Tryz.ntmps97
    go_wp2_with fail
    refine (HT.out _ hA).mono ?_; rintro e w1 ⟨rfl, x1⟩
    have y1 := x1.trans (Ext.alloc w1 (.cells #[.int .i64 F.rf, .int .i64 F.rc] 23))
    have hD1 := y1.block hD
    have a1 : (w1.alloc (.cells #[.int .i64 F.rf, .int .i64 F.rc] 23)).heap[w1.heap.size]? = some (.cells #[.int .i64 F.rf, .int .i64 F.rc] 23 (0, 0)) := heap_alloc_new w1 _
    go_wp2_with fail
    refine (HU.out _ hD1).mono ?_; rintro e w2 ⟨rfl, x2⟩
    obtain ⟨W3, hW3, HY, HE⟩ : ∃ W3, W3 = w2.alloc (.cells #[.int .i64 G.rf, .int .i64 G.rc] 23) ∧ Hid (∀ W, Ext W3 W → W.cell? ⟨w1.heap.size, 0, none⟩ = some (.int .i64 F.rf) ∧ W.cell? ⟨w1.heap.size, 1, none⟩ = some (.int .i64 F.rc) ∧ W.cell? ⟨w2.heap.size, 0, none⟩ = some (.int .i64 G.rf) ∧ W.cell? ⟨w2.heap.size, 1, none⟩ = some (.int .i64 G.rc) ∧ W.cell? ⟨A, 13, none⟩ = some (.slice V.a4 F.nR V.d4) ∧ W.cell? ⟨D, 13, none⟩ = some (.slice U.a4 G.nR U.d4)) ∧ Hid (Ext w W3) :=
      ⟨_, rfl, Lib.hid (fun W hx => have z := (x2.trans (Ext.alloc w2 _)).trans hx; ⟨cell_of_heap (z.block a1) rfl, cell_of_heap (z.block a1) rfl, hx.made 0 _ rfl, hx.made 1 _ rfl, cell_of_heap ((y1.trans z).block hA) rfl, cell_of_heap ((y1.trans z).block hD) rfl⟩), Lib.hid (y1.trans (x2.trans (Ext.alloc _ _)))⟩
    clear x1 y1 hD1 a1 x2 hA hD
    go_wp2_with fail
    rw [← hW3]
    clear hW3
    obtain ⟨q0, q1, q2, q3, q4, q5⟩ := HY.out W3.drew (Ext.drew _)
    have y0 : Ext W3 W3.drew := Ext.drew _
    go_region_held3 (fun w' => w'.cell? ⟨w1.heap.size, 0, none⟩ = some (.int .i64 F.rf) ∧ w'.cell? ⟨w1.heap.size, 1, none⟩ = some (.int .i64 F.rc) ∧ w'.cell? ⟨w2.heap.size, 0, none⟩ = some (.int .i64 G.rf) ∧ w'.cell? ⟨w2.heap.size, 1, none⟩ = some (.int .i64 G.rc) ∧ w'.cell? ⟨A, 13, none⟩ = some (.slice V.a4 F.nR V.d4) ∧ w'.cell? ⟨D, 13, none⟩ = some (.slice U.a4 G.nR U.d4) ∧ Ext W3 w')
      ((refine ⟨?_, ?_, ?_, ?_, ?_, ?_, ?_⟩ <;> assumption))
      (first
        | (go_at_call 98; refine (K.out _ (HE.out.trans (by assumption))).mono ?_; rintro e w6 ⟨rfl, x6⟩; have y6 : Ext W3 w6 := Ext.trans (by assumption) x6; obtain ⟨a0, a1, a2, a3, a4, a5⟩ := HY.out _ y6))
    clear q0 q1 q2 q3 q4 q5 a0 a1 a2 a3 a4 a5
    go_wp2
    go_ret
    exact ⟨rfl, HE.out.trans y6⟩
end Go.Proofs.YtlafnobjfajamaaGreat
namespace Go.Proofs.YtlafnobjfajamaaGreat
open Go.RowKit
set_option linter.unusedVariables false

theorem same_split (F G : Fil) : sameF F G = (((((eqW F.cf F.cc G.cf G.cc && eqG F.nC G.nC F.C G.C) && (eqW F.jf F.jc G.jf G.jc && eqG F.nI G.nI F.I G.I)) && (eqW F.hf F.hc G.hf G.hc && eqB F.nH G.nH F.H G.H)) && (eqW F.rf F.rc G.rf G.rc && eqB F.nR G.nR F.R G.R)) && eqW F.bf F.bc G.bf G.bc) := by
  unfold sameF sbankB
  ac_rfl
/-- Two boxes, laid one behind the other. -/
theorem two_laid (X : World) (z a b : Array Value) (t : TypeId) :
    Ext X ((((X.alloc (.cells z t)).alloc (.cells z t)).setRow X.heap.size a).setRow (X.heap.size + 1) b) ∧
    ((((X.alloc (.cells z t)).alloc (.cells z t)).setRow X.heap.size a).setRow (X.heap.size + 1) b).heap[X.heap.size]? = some (.cells a t (0, 0)) ∧
    ((((X.alloc (.cells z t)).alloc (.cells z t)).setRow X.heap.size a).setRow (X.heap.size + 1) b).heap[X.heap.size + 1]? = some (.cells b t (0, 0)) := by
  refine ⟨below_setRow (below_setRow ((Ext.alloc X _).trans (Ext.alloc _ _)) (Nat.le_refl _) _) (Nat.le_succ _) _, ?_, ?_⟩
  · exact (setRow_other _ _ _ _ (by omega)).trans (setRow_heap _ _ _ _ _ _ (two_boxes X z z t t).1)
  · exact setRow_heap _ _ _ _ _ _ ((setRow_other _ _ _ _ (by omega)).trans (two_boxes X z z t t).2)
theorem two_laid' (X : World) (z a b : Array Value) (t : TypeId) :
    Ext X ((((X.alloc (.cells z t)).alloc (.cells z t)).setRow (X.heap.size + 1) b).setRow X.heap.size a) ∧
    ((((X.alloc (.cells z t)).alloc (.cells z t)).setRow (X.heap.size + 1) b).setRow X.heap.size a).heap[X.heap.size]? = some (.cells a t (0, 0)) ∧
    ((((X.alloc (.cells z t)).alloc (.cells z t)).setRow (X.heap.size + 1) b).setRow X.heap.size a).heap[X.heap.size + 1]? = some (.cells b t (0, 0)) := by
  refine ⟨below_setRow (below_setRow ((Ext.alloc X _).trans (Ext.alloc _ _)) (Nat.le_succ _) _) (Nat.le_refl _) _, ?_, ?_⟩
  · exact setRow_heap _ _ _ _ _ _ ((setRow_other _ _ _ _ (by omega)).trans (two_boxes X z z t t).1)
  · exact (setRow_other _ _ _ _ (by omega)).trans (setRow_heap _ _ _ _ _ _ (two_boxes X z z t t).2)
set_option maxRecDepth 100000 in
set_option maxHeartbeats 4000000 in
theorem fagainstbool_any (V : FilV) (F : Fil) (U : FilV) (G : Fil) (w : World) : Calls Tryz.prog 54 #[.agg (filC V F), .agg (filC U G)] w fun e w' => ∃ A D, e = .returned (.func (Fn.func 95) #[] #[.pointer (some ⟨A, 0, none⟩), .pointer (some ⟨D, 0, none⟩)]) ∧ w'.heap[A]? = some (.cells (filC V F) 139 (0, 0)) ∧ w'.heap[D]? = some (.cells (filC U G) 139 (0, 0)) ∧ Ext w w' := by
  obtain ⟨W0, hW0, HX, HE⟩ : ∃ W0, W0 = ((w.alloc (.cells (filC V F) 29)).alloc (.cells (filC U G) 29)) ∧ Hid (∀ W, Ext W0 W → W.heap[w.heap.size]? = some (.cells (filC V F) 29 (0, 0)) ∧ W.heap[w.heap.size + 1]? = some (.cells (filC U G) 29 (0, 0))) ∧ Hid (Ext w W0) :=
    ⟨_, rfl, Lib.hid fun W hx => ⟨hx.block (two_boxes w _ _ _ _).1, hx.block (two_boxes w _ _ _ _).2⟩, Lib.hid ((Ext.alloc w _).trans (Ext.alloc _ _))⟩
  go_enter Tryz.func54, Tryz.ntmps54
  go_upto_region 1 with fail
  rw [← hW0]
  clear hW0
  have hs : Ext W0 W0.drew := Ext.drew _
  refine wp_region_held_drew (S := fun W => Ext W0 W) (by kernel_rfl) hs (fun _ => ?_)
  obtain ⟨X, hX⟩ : ∃ X, X = W0.drew := ⟨_, rfl⟩
  rw [← hX] at hs ⊢
  clear hX
  have hx := hs
  have hXs := hs.size
  refine wpAnyH_takeD (i := 0) (d := 7) rfl rfl (by kernel_rfl) (by kernel_rfl) (by kernel_rfl) (fun _ _ _ h => h) (yieldsIf_load_row (by rfl) 29 (.tmp 2) rfl (w.heap.size) rfl 29 _ (0, 0) _ (fun w' hw' => (HX.out _ hw').1) Tryz.underlying29 rfl (by kernel_rfl)) hs ?_
  simp only [Act.put, List.setIfInBounds_toArray, List.set_cons_succ, List.set_cons_zero]
  refine wpAnyH_takeD (i := 1) (d := 8) rfl rfl (by kernel_rfl) (by kernel_rfl) (by kernel_rfl) (fun _ _ _ h => h) (yieldsIf_load_row (by rfl) 29 (.tmp 3) rfl (w.heap.size + 1) rfl 29 _ (0, 0) _ (fun w' hw' => (HX.out _ hw').2) Tryz.underlying29 rfl (by kernel_rfl)) hs ?_
  simp only [Act.put, List.setIfInBounds_toArray, List.set_cons_succ, List.set_cons_zero]
  refine wpAnyH_ready (rs := [2, 3]) (by kernel_rfl) (by simp) (AllReadyH.cons rfl (fun K hK => ?_) (AllReadyH.cons rfl (fun K hK => ?_) (AllReadyH.nil)))
  · go_simp
    refine hK.out _ _ (hs.trans (Ext.alloc _ _)) (fun hs => ?_)
    clear hK K
    refine wpAnyH_ready (rs := [3]) (by kernel_rfl) (by simp) (AllReadyH.cons rfl (fun K hK => ?_) (AllReadyH.nil))
    go_simp
    refine hK.out _ _ (hs.trans (Ext.alloc _ _)) (fun hs => ?_)
    clear hK K
    refine wpAnyH_ready (rs := [4]) (by kernel_rfl) (by simp) (AllReadyH.cons rfl (fun K hK => ?_) AllReadyH.nil)
    refine step_store_row rfl 139 (.tmp 5) (.tmp 7) rfl (X.heap.size) _ rfl rfl 139 _ (two_boxes X #[.int .i64 0, .int .i64 0, .int .i64 0, .int .i64 0, .int .i64 0, .int .i64 0, .int .i64 0, .int .i64 0, .int .i64 0, .int .i64 0, .slice none 0 0, .slice none 0 0, .slice none 0 0, .slice none 0 0] #[.int .i64 0, .int .i64 0, .int .i64 0, .int .i64 0, .int .i64 0, .int .i64 0, .int .i64 0, .int .i64 0, .int .i64 0, .int .i64 0, .slice none 0 0, .slice none 0 0, .slice none 0 0, .slice none 0 0] 139 139).1 (by kernel_rfl) rfl (by simp [filC, Value.oneCell']) rfl ?_
    refine hK.out _ _ (below_setRow hs (by have := hXs; omega) _) (fun hs => ?_)
    clear hK K
    simp only [Act.put]
    refine wpAnyH_ready (rs := [5]) (by kernel_rfl) (by simp) (AllReadyH.cons rfl (fun K hK => ?_) AllReadyH.nil)
    refine step_store_row rfl 139 (.tmp 6) (.tmp 8) rfl (X.heap.size + 1) _ rfl rfl 139 _ ((setRow_other _ _ _ _ (by omega)).trans (two_boxes X #[.int .i64 0, .int .i64 0, .int .i64 0, .int .i64 0, .int .i64 0, .int .i64 0, .int .i64 0, .int .i64 0, .int .i64 0, .int .i64 0, .slice none 0 0, .slice none 0 0, .slice none 0 0, .slice none 0 0] #[.int .i64 0, .int .i64 0, .int .i64 0, .int .i64 0, .int .i64 0, .int .i64 0, .int .i64 0, .int .i64 0, .int .i64 0, .int .i64 0, .slice none 0 0, .slice none 0 0, .slice none 0 0, .slice none 0 0] 139 139).2) (by kernel_rfl) rfl (by simp [filC, Value.oneCell']) rfl ?_
    refine hK.out _ _ (below_setRow hs (by have := hXs; omega) _) (fun hs => ?_)
    clear hK K
    simp only [Act.put]
    refine wpAnyH_done (by kernel_rfl) ?_ _
    have hl := two_laid X #[.int .i64 0, .int .i64 0, .int .i64 0, .int .i64 0, .int .i64 0, .int .i64 0, .int .i64 0, .int .i64 0, .int .i64 0, .int .i64 0, .slice none 0 0, .slice none 0 0, .slice none 0 0, .slice none 0 0] (filC V F) (filC U G) 139
    go_wp2
    go_ret
    exact ⟨_, _, rfl, hl.2.1, hl.2.2, HE.out.trans (hx.trans hl.1)⟩
  · go_simp
    refine hK.out _ _ (hs.trans (Ext.alloc _ _)) (fun hs => ?_)
    clear hK K
    refine wpAnyH_ready (rs := [2]) (by kernel_rfl) (by simp) (AllReadyH.cons rfl (fun K hK => ?_) (AllReadyH.nil))
    go_simp
    refine hK.out _ _ (hs.trans (Ext.alloc _ _)) (fun hs => ?_)
    clear hK K
    refine wpAnyH_ready (rs := [4]) (by kernel_rfl) (by simp) (AllReadyH.cons rfl (fun K hK => ?_) AllReadyH.nil)
    refine step_store_row rfl 139 (.tmp 5) (.tmp 7) rfl (X.heap.size + 1) _ rfl rfl 139 _ (two_boxes X #[.int .i64 0, .int .i64 0, .int .i64 0, .int .i64 0, .int .i64 0, .int .i64 0, .int .i64 0, .int .i64 0, .int .i64 0, .int .i64 0, .slice none 0 0, .slice none 0 0, .slice none 0 0, .slice none 0 0] #[.int .i64 0, .int .i64 0, .int .i64 0, .int .i64 0, .int .i64 0, .int .i64 0, .int .i64 0, .int .i64 0, .int .i64 0, .int .i64 0, .slice none 0 0, .slice none 0 0, .slice none 0 0, .slice none 0 0] 139 139).2 (by kernel_rfl) rfl (by simp [filC, Value.oneCell']) rfl ?_
    refine hK.out _ _ (below_setRow hs (by have := hXs; omega) _) (fun hs => ?_)
    clear hK K
    simp only [Act.put]
    refine wpAnyH_ready (rs := [5]) (by kernel_rfl) (by simp) (AllReadyH.cons rfl (fun K hK => ?_) AllReadyH.nil)
    refine step_store_row rfl 139 (.tmp 6) (.tmp 8) rfl (X.heap.size) _ rfl rfl 139 _ ((setRow_other _ _ _ _ (by omega)).trans (two_boxes X #[.int .i64 0, .int .i64 0, .int .i64 0, .int .i64 0, .int .i64 0, .int .i64 0, .int .i64 0, .int .i64 0, .int .i64 0, .int .i64 0, .slice none 0 0, .slice none 0 0, .slice none 0 0, .slice none 0 0] #[.int .i64 0, .int .i64 0, .int .i64 0, .int .i64 0, .int .i64 0, .int .i64 0, .int .i64 0, .int .i64 0, .int .i64 0, .int .i64 0, .slice none 0 0, .slice none 0 0, .slice none 0 0, .slice none 0 0] 139 139).1) (by kernel_rfl) rfl (by simp [filC, Value.oneCell']) rfl ?_
    refine hK.out _ _ (below_setRow hs (by have := hXs; omega) _) (fun hs => ?_)
    clear hK K
    simp only [Act.put]
    refine wpAnyH_done (by kernel_rfl) ?_ _
    have hl := two_laid' X #[.int .i64 0, .int .i64 0, .int .i64 0, .int .i64 0, .int .i64 0, .int .i64 0, .int .i64 0, .int .i64 0, .int .i64 0, .int .i64 0, .slice none 0 0, .slice none 0 0, .slice none 0 0, .slice none 0 0] (filC U G) (filC V F) 139
    go_wp2
    go_ret
    exact ⟨_, _, rfl, hl.2.2, hl.2.1, HE.out.trans (hx.trans hl.1)⟩
set_option maxRecDepth 100000 in
set_option maxHeartbeats 4000000 in
theorem fagainstuint16_any (V : FilV) (F : Fil) (U : FilV) (G : Fil) (w : World) : Calls Tryz.prog 55 #[.agg (filC V F), .agg (filC U G)] w fun e w' => ∃ A D, e = .returned (.func (Fn.func 97) #[] #[.pointer (some ⟨A, 0, none⟩), .pointer (some ⟨D, 0, none⟩)]) ∧ w'.heap[A]? = some (.cells (filC V F) 139 (0, 0)) ∧ w'.heap[D]? = some (.cells (filC U G) 139 (0, 0)) ∧ Ext w w' := by
  obtain ⟨W0, hW0, HX, HE⟩ : ∃ W0, W0 = ((w.alloc (.cells (filC V F) 29)).alloc (.cells (filC U G) 29)) ∧ Hid (∀ W, Ext W0 W → W.heap[w.heap.size]? = some (.cells (filC V F) 29 (0, 0)) ∧ W.heap[w.heap.size + 1]? = some (.cells (filC U G) 29 (0, 0))) ∧ Hid (Ext w W0) :=
    ⟨_, rfl, Lib.hid fun W hx => ⟨hx.block (two_boxes w _ _ _ _).1, hx.block (two_boxes w _ _ _ _).2⟩, Lib.hid ((Ext.alloc w _).trans (Ext.alloc _ _))⟩
  go_enter Tryz.func55, Tryz.ntmps55
  go_upto_region 1 with fail
  rw [← hW0]
  clear hW0
  have hs : Ext W0 W0.drew := Ext.drew _
  refine wp_region_held_drew (S := fun W => Ext W0 W) (by kernel_rfl) hs (fun _ => ?_)
  obtain ⟨X, hX⟩ : ∃ X, X = W0.drew := ⟨_, rfl⟩
  rw [← hX] at hs ⊢
  clear hX
  have hx := hs
  have hXs := hs.size
  refine wpAnyH_takeD (i := 0) (d := 7) rfl rfl (by kernel_rfl) (by kernel_rfl) (by kernel_rfl) (fun _ _ _ h => h) (yieldsIf_load_row (by rfl) 29 (.tmp 2) rfl (w.heap.size) rfl 29 _ (0, 0) _ (fun w' hw' => (HX.out _ hw').1) Tryz.underlying29 rfl (by kernel_rfl)) hs ?_
  simp only [Act.put, List.setIfInBounds_toArray, List.set_cons_succ, List.set_cons_zero]
  refine wpAnyH_takeD (i := 1) (d := 8) rfl rfl (by kernel_rfl) (by kernel_rfl) (by kernel_rfl) (fun _ _ _ h => h) (yieldsIf_load_row (by rfl) 29 (.tmp 3) rfl (w.heap.size + 1) rfl 29 _ (0, 0) _ (fun w' hw' => (HX.out _ hw').2) Tryz.underlying29 rfl (by kernel_rfl)) hs ?_
  simp only [Act.put, List.setIfInBounds_toArray, List.set_cons_succ, List.set_cons_zero]
  refine wpAnyH_ready (rs := [2, 3]) (by kernel_rfl) (by simp) (AllReadyH.cons rfl (fun K hK => ?_) (AllReadyH.cons rfl (fun K hK => ?_) (AllReadyH.nil)))
  · go_simp
    refine hK.out _ _ (hs.trans (Ext.alloc _ _)) (fun hs => ?_)
    clear hK K
    refine wpAnyH_ready (rs := [3]) (by kernel_rfl) (by simp) (AllReadyH.cons rfl (fun K hK => ?_) (AllReadyH.nil))
    go_simp
    refine hK.out _ _ (hs.trans (Ext.alloc _ _)) (fun hs => ?_)
    clear hK K
    refine wpAnyH_ready (rs := [4]) (by kernel_rfl) (by simp) (AllReadyH.cons rfl (fun K hK => ?_) AllReadyH.nil)
    refine step_store_row rfl 139 (.tmp 5) (.tmp 7) rfl (X.heap.size) _ rfl rfl 139 _ (two_boxes X #[.int .i64 0, .int .i64 0, .int .i64 0, .int .i64 0, .int .i64 0, .int .i64 0, .int .i64 0, .int .i64 0, .int .i64 0, .int .i64 0, .slice none 0 0, .slice none 0 0, .slice none 0 0, .slice none 0 0] #[.int .i64 0, .int .i64 0, .int .i64 0, .int .i64 0, .int .i64 0, .int .i64 0, .int .i64 0, .int .i64 0, .int .i64 0, .int .i64 0, .slice none 0 0, .slice none 0 0, .slice none 0 0, .slice none 0 0] 139 139).1 (by kernel_rfl) rfl (by simp [filC, Value.oneCell']) rfl ?_
    refine hK.out _ _ (below_setRow hs (by have := hXs; omega) _) (fun hs => ?_)
    clear hK K
    simp only [Act.put]
    refine wpAnyH_ready (rs := [5]) (by kernel_rfl) (by simp) (AllReadyH.cons rfl (fun K hK => ?_) AllReadyH.nil)
    refine step_store_row rfl 139 (.tmp 6) (.tmp 8) rfl (X.heap.size + 1) _ rfl rfl 139 _ ((setRow_other _ _ _ _ (by omega)).trans (two_boxes X #[.int .i64 0, .int .i64 0, .int .i64 0, .int .i64 0, .int .i64 0, .int .i64 0, .int .i64 0, .int .i64 0, .int .i64 0, .int .i64 0, .slice none 0 0, .slice none 0 0, .slice none 0 0, .slice none 0 0] #[.int .i64 0, .int .i64 0, .int .i64 0, .int .i64 0, .int .i64 0, .int .i64 0, .int .i64 0, .int .i64 0, .int .i64 0, .int .i64 0, .slice none 0 0, .slice none 0 0, .slice none 0 0, .slice none 0 0] 139 139).2) (by kernel_rfl) rfl (by simp [filC, Value.oneCell']) rfl ?_
    refine hK.out _ _ (below_setRow hs (by have := hXs; omega) _) (fun hs => ?_)
    clear hK K
    simp only [Act.put]
    refine wpAnyH_done (by kernel_rfl) ?_ _
    have hl := two_laid X #[.int .i64 0, .int .i64 0, .int .i64 0, .int .i64 0, .int .i64 0, .int .i64 0, .int .i64 0, .int .i64 0, .int .i64 0, .int .i64 0, .slice none 0 0, .slice none 0 0, .slice none 0 0, .slice none 0 0] (filC V F) (filC U G) 139
    go_wp2
    go_ret
    exact ⟨_, _, rfl, hl.2.1, hl.2.2, HE.out.trans (hx.trans hl.1)⟩
  · go_simp
    refine hK.out _ _ (hs.trans (Ext.alloc _ _)) (fun hs => ?_)
    clear hK K
    refine wpAnyH_ready (rs := [2]) (by kernel_rfl) (by simp) (AllReadyH.cons rfl (fun K hK => ?_) (AllReadyH.nil))
    go_simp
    refine hK.out _ _ (hs.trans (Ext.alloc _ _)) (fun hs => ?_)
    clear hK K
    refine wpAnyH_ready (rs := [4]) (by kernel_rfl) (by simp) (AllReadyH.cons rfl (fun K hK => ?_) AllReadyH.nil)
    refine step_store_row rfl 139 (.tmp 5) (.tmp 7) rfl (X.heap.size + 1) _ rfl rfl 139 _ (two_boxes X #[.int .i64 0, .int .i64 0, .int .i64 0, .int .i64 0, .int .i64 0, .int .i64 0, .int .i64 0, .int .i64 0, .int .i64 0, .int .i64 0, .slice none 0 0, .slice none 0 0, .slice none 0 0, .slice none 0 0] #[.int .i64 0, .int .i64 0, .int .i64 0, .int .i64 0, .int .i64 0, .int .i64 0, .int .i64 0, .int .i64 0, .int .i64 0, .int .i64 0, .slice none 0 0, .slice none 0 0, .slice none 0 0, .slice none 0 0] 139 139).2 (by kernel_rfl) rfl (by simp [filC, Value.oneCell']) rfl ?_
    refine hK.out _ _ (below_setRow hs (by have := hXs; omega) _) (fun hs => ?_)
    clear hK K
    simp only [Act.put]
    refine wpAnyH_ready (rs := [5]) (by kernel_rfl) (by simp) (AllReadyH.cons rfl (fun K hK => ?_) AllReadyH.nil)
    refine step_store_row rfl 139 (.tmp 6) (.tmp 8) rfl (X.heap.size) _ rfl rfl 139 _ ((setRow_other _ _ _ _ (by omega)).trans (two_boxes X #[.int .i64 0, .int .i64 0, .int .i64 0, .int .i64 0, .int .i64 0, .int .i64 0, .int .i64 0, .int .i64 0, .int .i64 0, .int .i64 0, .slice none 0 0, .slice none 0 0, .slice none 0 0, .slice none 0 0] #[.int .i64 0, .int .i64 0, .int .i64 0, .int .i64 0, .int .i64 0, .int .i64 0, .int .i64 0, .int .i64 0, .int .i64 0, .int .i64 0, .slice none 0 0, .slice none 0 0, .slice none 0 0, .slice none 0 0] 139 139).1) (by kernel_rfl) rfl (by simp [filC, Value.oneCell']) rfl ?_
    refine hK.out _ _ (below_setRow hs (by have := hXs; omega) _) (fun hs => ?_)
    clear hK K
    simp only [Act.put]
    refine wpAnyH_done (by kernel_rfl) ?_ _
    have hl := two_laid' X #[.int .i64 0, .int .i64 0, .int .i64 0, .int .i64 0, .int .i64 0, .int .i64 0, .int .i64 0, .int .i64 0, .int .i64 0, .int .i64 0, .slice none 0 0, .slice none 0 0, .slice none 0 0, .slice none 0 0] (filC U G) (filC V F) 139
    go_wp2
    go_ret
    exact ⟨_, _, rfl, hl.2.2, hl.2.1, HE.out.trans (hx.trans hl.1)⟩
set_option maxRecDepth 100000 in
set_option maxHeartbeats 8000000 in
theorem fsame_c : FSameC 27 := by
  intro V F U G w hf hg sF sG
  obtain ⟨W0, hW0, HX, HE⟩ : ∃ W0, W0 = ((w.alloc (.cells (filC V F) 29)).alloc (.cells (filC U G) 29)) ∧ Hid (∀ W, Ext W0 W → W.heap[w.heap.size]? = some (.cells (filC V F) 29 (0, 0)) ∧ W.heap[w.heap.size + 1]? = some (.cells (filC U G) 29 (0, 0))) ∧ Hid (Ext w W0) :=
    ⟨_, rfl, Lib.hid fun W hx => ⟨hx.block (two_boxes w _ _ _ _).1, hx.block (two_boxes w _ _ _ _).2⟩, Lib.hid ((Ext.alloc w _).trans (Ext.alloc _ _))⟩
  have HF := Lib.hid hf
  have HG := Lib.hid hg
  have hb := same_split F G
  have HSp := Lib.hid hb
  rw [hb]
  have hgd := fun x y xs ys w => weqg .eql x y xs ys w
  have KK := Lib.hid (fun (Wb : World) A1 D1 A2 D2 (hx : Ext w Wb) (hA1 : Wb.heap[A1]? = some (.cells (filC V F) 139 (0, 0))) (hD1 : Wb.heap[D1]? = some (.cells (filC U G) 139 (0, 0))) (hA2 : Wb.heap[A2]? = some (.cells (filC V F) 139 (0, 0))) (hD2 : Wb.heap[D2]? = some (.cells (filC U G) 139 (0, 0))) =>
    And.intro (fun w' (hy : Ext Wb w') => fagainst_coils V F U G A1 D1 w' (hy.block hA1) (hy.block hD1) (hf.ext (hx.trans hy)) (hg.ext (hx.trans hy)) sF sG)
    (And.intro (fun w' (hy : Ext Wb w') => fagainst_inputs V F U G A1 D1 w' (hy.block hA1) (hy.block hD1) (hf.ext (hx.trans hy)) (hg.ext (hx.trans hy)) sF sG)
    (And.intro (fun w' (hy : Ext Wb w') => fagainst_holding V F U G A2 D2 w' (hy.block hA2) (hy.block hD2) (hf.ext (hx.trans hy)) (hg.ext (hx.trans hy)) sF sG)
      (fun w' (hy : Ext Wb w') => fagainst_regs V F U G A2 D2 w' (hy.block hA2) (hy.block hD2) (hf.ext (hx.trans hy)) (hg.ext (hx.trans hy)) sF sG))))
  obtain ⟨E, hE⟩ : ∃ E, eqW F.bf F.bc G.bf G.bc = E := ⟨_, rfl⟩
  have hq := fun w => weql_v hE w
  rw [hE]
  generalize (eqW F.cf F.cc G.cf G.cc && eqG F.nC G.nC F.C G.C) = B1 at KK ⊢
  generalize (eqW F.jf F.jc G.jf G.jc && eqG F.nI G.nI F.I G.I) = B2 at KK ⊢
  generalize (eqW F.hf F.hc G.hf G.hc && eqB F.nH G.nH F.H G.H) = B3 at KK ⊢
  generalize (eqW F.rf F.rc G.rf G.rc && eqB F.nR G.nR F.R G.R) = B4 at KK ⊢
  clear hb HSp hE hf hg sF sG
  go_enter Tryz.func27, Tryz.ntmps27
  go_upto_region 1 with fail
  rw [← hW0]
  clear hW0
  have hs : Ext W0 W0.drew := Ext.drew _
  refine wp_region_held_drew (S := fun W => Ext W0 W) (by kernel_rfl) hs (fun _ => ?_)
  refine wpAnyH_takeD (i := 0) (d := 7) rfl rfl (by kernel_rfl) (by kernel_rfl) (by kernel_rfl) (fun _ _ _ h => h) (yieldsIf_load_row (by rfl) 29 (.tmp 2) rfl (w.heap.size) rfl 29 _ (0, 0) _ (fun w' hw' => (HX.out _ hw').1) Tryz.underlying29 rfl (by kernel_rfl)) hs ?_
  simp only [Act.put, List.setIfInBounds_toArray, List.set_cons_succ, List.set_cons_zero]
  refine wpAnyH_takeD (i := 1) (d := 8) rfl rfl (by kernel_rfl) (by kernel_rfl) (by kernel_rfl) (fun _ _ _ h => h) (yieldsIf_load_row (by rfl) 29 (.tmp 3) rfl (w.heap.size + 1) rfl 29 _ (0, 0) _ (fun w' hw' => (HX.out _ hw').2) Tryz.underlying29 rfl (by kernel_rfl)) hs ?_
  simp only [Act.put, List.setIfInBounds_toArray, List.set_cons_succ, List.set_cons_zero]
  refine wpAnyH_takeD (i := 3) (d := 10) rfl rfl (by kernel_rfl) (by kernel_rfl) (by kernel_rfl) (fun _ _ _ h => h) (yieldsIf_load_row (by rfl) 29 (.tmp 2) rfl (w.heap.size) rfl 29 _ (0, 0) _ (fun w' hw' => (HX.out _ hw').1) Tryz.underlying29 rfl (by kernel_rfl)) hs ?_
  simp only [Act.put, List.setIfInBounds_toArray, List.set_cons_succ, List.set_cons_zero]
  refine wpAnyH_takeD (i := 4) (d := 11) rfl rfl (by kernel_rfl) (by kernel_rfl) (by kernel_rfl) (fun _ _ _ h => h) (yieldsIf_load_row (by rfl) 29 (.tmp 3) rfl (w.heap.size + 1) rfl 29 _ (0, 0) _ (fun w' hw' => (HX.out _ hw').2) Tryz.underlying29 rfl (by kernel_rfl)) hs ?_
  simp only [Act.put, List.setIfInBounds_toArray, List.set_cons_succ, List.set_cons_zero]
  refine wpAnyH_ready (rs := [2]) (by kernel_rfl) (by simp) (AllReadyH.cons rfl (fun K hK => ?_) (AllReadyH.nil))
  go_simp
  go_at_call 54
  refine (fagainstbool_any V F U G _).mono ?_; rintro e Wa ⟨A1, D1, rfl, hA1, hD1, y⟩
  go_wp2_with fail
  refine hK.out _ _ (hs.trans y) (fun hs => ?_)
  clear hK K
  have ya := y
  clear y
  refine wpAnyH_ready (rs := [5]) (by kernel_rfl) (by simp) (AllReadyH.cons rfl (fun K hK => ?_) (AllReadyH.nil))
  go_simp
  go_at_call 55
  refine (fagainstuint16_any V F U G _).mono ?_; rintro e Wb ⟨A2, D2, rfl, hA2, hD2, y⟩
  go_wp2_with fail
  refine hK.out _ _ (hs.trans y) (fun hWb => ?_)
  have hs := hWb
  obtain ⟨K1, K2, K3, K4⟩ := KK.out Wb A1 D1 A2 D2 (HE.out.trans hWb) (y.block hA1) (y.block hD1) hA2 hD2
  have K1 := Lib.hid K1
  have K2 := Lib.hid K2
  have K3 := Lib.hid K3
  have K4 := Lib.hid K4
  clear hK K y ya hA1 hD1 hA2 hD2 KK
  refine wpAnyH_takeD (i := 6) (d := 5) (v := .func (Fn.func 95) #[] #[.pointer (some ⟨A1, 0, none⟩), .pointer (some ⟨D1, 0, none⟩)]) rfl rfl (by kernel_rfl) (by kernel_rfl) (by kernel_rfl) (fun _ _ _ h => h) (Or.inl ⟨by rfl, fun W hW => by go_simp⟩) hs ?_
  simp only [Act.put, List.setIfInBounds_toArray, List.set_cons_succ, List.set_cons_zero]
  refine wpAnyH_takeD (i := 7) (d := 6) (v := .func (Fn.func 97) #[] #[.pointer (some ⟨A2, 0, none⟩), .pointer (some ⟨D2, 0, none⟩)]) rfl rfl (by kernel_rfl) (by kernel_rfl) (by kernel_rfl) (fun _ _ _ h => h) (Or.inl ⟨by rfl, fun W hW => by go_simp⟩) hs ?_
  simp only [Act.put, List.setIfInBounds_toArray, List.set_cons_succ, List.set_cons_zero]
  refine wpAnyH_done (by kernel_rfl) ?_ _
  clear hs
  have yb : Ext Wb Wb := Ext.refl _
  go_wp2_with fail
  refine (K1.out _ yb).mono ?_; rintro e w11 ⟨rfl, x11⟩
  have y11 : Ext Wb w11 := Ext.trans yb x11
  cases B1 with
  | false =>
    go_wp2
    go_ret
    exact ⟨ret_b (by simp), HE.out.trans (hWb.trans y11)⟩
  | true =>
    go_wp2_with fail
    refine (K2.out _ y11).mono ?_; rintro e w12 ⟨rfl, x12⟩
    have y12 : Ext Wb w12 := Ext.trans y11 x12
    cases B2 with
    | false =>
      go_wp2
      go_ret
      exact ⟨ret_b (by simp), HE.out.trans (hWb.trans y12)⟩
    | true =>
      go_wp2_with fail
      refine (K3.out _ y12).mono ?_; rintro e w13 ⟨rfl, x13⟩
      have y13 : Ext Wb w13 := Ext.trans y12 x13
      cases B3 with
      | false =>
        go_wp2
        go_ret
        exact ⟨ret_b (by simp), HE.out.trans (hWb.trans y13)⟩
      | true =>
        go_wp2_with fail
        refine (K4.out _ y13).mono ?_; rintro e w14 ⟨rfl, x14⟩
        have y14 : Ext Wb w14 := Ext.trans y13 x14
        cases B4 with
        | false =>
          go_wp2
          go_ret
          exact ⟨ret_b (by simp), HE.out.trans (hWb.trans y14)⟩
        | true =>
          obtain ⟨gF, gG⟩ := HX.out _ (hWb.trans y14)
          have c8 : w14.cell? ⟨w.heap.size, 8, none⟩ = some (.int .i64 F.bf) := cell_of_heap (j := 8) gF rfl
          have c9 : w14.cell? ⟨w.heap.size, 9, none⟩ = some (.int .i64 F.bc) := cell_of_heap (j := 9) gF rfl
          have d8 : w14.cell? ⟨w.heap.size + 1, 8, none⟩ = some (.int .i64 G.bf) := cell_of_heap (j := 8) gG rfl
          have d9 : w14.cell? ⟨w.heap.size + 1, 9, none⟩ = some (.int .i64 G.bc) := cell_of_heap (j := 9) gG rfl
          clear gF gG
          go_wp2
          go_ret
          exact ⟨ret_b (by simp), HE.out.trans (hWb.trans y14)⟩
end Go.Proofs.YtlafnobjfajamaaGreat
