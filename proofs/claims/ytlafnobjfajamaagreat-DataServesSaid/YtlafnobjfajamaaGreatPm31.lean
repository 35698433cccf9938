/-
  CONTRACTS: package file (layer 14): a new file.
-/
import Derived.Test.YtlafnobjfajamaaGreatPm29
import Derived.Test.YtlafnobjfajamaaGreatPm17
namespace Go.Proofs.YtlafnobjfajamaaGreat
open Go.RowKit
set_option linter.unusedVariables false

/-- A new file's tables, wherever they have been made. -/
theorem new_told' {w W0 W4 : World} {cf jf hf rf bf bc : Int} {n1 n2 n3 n4 g1 g2 g3 g4 : Nat} (hx0 : Ext w W0) (hs0 : w.heap.size + 2 ≤ W0.heap.size) (hx : Ext W0 W4)
    (h : HoldsG Value.bool W4 (some ⟨g1, 0, none⟩) n1 (fun _ => false) ∧ HoldsG Value.bool W4 (some ⟨g2, 0, none⟩) n2 (fun _ => false) ∧ HoldsG (Value.int .u16) W4 (some ⟨g3, 0, none⟩) n3 (fun _ => 0) ∧ HoldsG (Value.int .u16) W4 (some ⟨g4, 0, none⟩) n4 (fun _ => 0))
    (l1 : n1 ≤ 65536) (l2 : n2 ≤ 65536) (l3 : n3 ≤ 65536) (l4 : n4 ≤ 65536) (b1 : w.heap.size + 2 ≤ g1) (b2 : w.heap.size + 2 ≤ g2) (b3 : w.heap.size + 2 ≤ g3) (b4 : w.heap.size + 2 ≤ g4) (G : Fil) (hG : G = ⟨cf, n1, jf, n2, hf, n3, rf, n4, bf, bc, n1, fun _ => false, n2, fun _ => false, n3, fun _ => 0, n4, fun _ => 0⟩) :
    (∀ cs, FilAt (W4.setRow (w.heap.size + 1) cs) ⟨some ⟨g1, 0, none⟩, n1, some ⟨g2, 0, none⟩, n2, some ⟨g3, 0, none⟩, n3, some ⟨g4, 0, none⟩, n4⟩ G) ∧ (∀ cs, Ext w (W4.setRow (w.heap.size + 1) cs)) ∧ (Fresh w (some ⟨g1, 0, none⟩) ∧ Fresh w (some ⟨g2, 0, none⟩) ∧ Fresh w (some ⟨g3, 0, none⟩) ∧ Fresh w (some ⟨g4, 0, none⟩)) := by
  subst hG
  have hm : ∀ n : Nat, n ≤ 65536 → n ≤ maxLen := fun n h => by unfold maxLen; omega
  refine ⟨fun cs => ?_, fun cs => below_setRow (hx0.trans hx) (Nat.le_succ _) _, ⟨fun p hp => by cases hp; show _ ≤ g1; omega, fun p hp => by cases hp; show _ ≤ g2; omega, fun p hp => by cases hp; show _ ≤ g3; omega, fun p hp => by cases hp; show _ ≤ g4; omega⟩⟩
  have k : FilAt W4 ⟨some ⟨g1, 0, none⟩, n1, some ⟨g2, 0, none⟩, n2, some ⟨g3, 0, none⟩, n3, some ⟨g4, 0, none⟩, n4⟩ ⟨cf, n1, jf, n2, hf, n3, rf, n4, bf, bc, n1, fun _ => false, n2, fun _ => false, n3, fun _ => 0, n4, fun _ => 0⟩ :=
    ⟨h.1, Nat.le_refl _, hm _ l1, h.2.1, Nat.le_refl _, hm _ l2, h.2.2.1, Nat.le_refl _, hm _ l3, h.2.2.2, Nat.le_refl _, hm _ l4⟩
  exact k.keep (keepRow _ _ _) ⟨.inr fun p hp hf => (by cases hp; simp at hf; omega), .inr fun p hp hf => (by cases hp; simp at hf; omega), .inr fun p hp hf => (by cases hp; simp at hf; omega), .inr fun p hp hf => (by cases hp; simp at hf; omega)⟩
set_option maxRecDepth 100000 in
set_option maxHeartbeats 16000000 in
theorem fnew_yes (F : Fil) (w : World) (hb : bankB F = true) : Calls Tryz.prog 31 #[.agg (bnkC F)] w (FP 0 (newF F) zeroV zeroF w) := by
  unfold FP
  have HB := Lib.hid (fun w' => fmaybe_v hb w')
  have hsm := bank_small hb
  clear hb
  obtain ⟨cf, cc, jf, jc, hf, hc, rf, rc, bf, bc, nC, C, nI, I, nH, H, nR, R⟩ := F
  simp only at hsm
  obtain ⟨n1, rfl⟩ : ∃ n : Nat, cc = n := ⟨cc.toNat, by omega⟩
  obtain ⟨n2, rfl⟩ : ∃ n : Nat, jc = n := ⟨jc.toNat, by omega⟩
  obtain ⟨n3, rfl⟩ : ∃ n : Nat, hc = n := ⟨hc.toNat, by omega⟩
  obtain ⟨n4, rfl⟩ : ∃ n : Nat, rc = n := ⟨rc.toNat, by omega⟩
  have l1 : n1 ≤ 65536 := by omega
  have l2 : n2 ≤ 65536 := by omega
  have l3 : n3 ≤ 65536 := by omega
  have l4 : n4 ≤ 65536 := by omega
  rw [show newF ⟨cf, n1, jf, n2, hf, n3, rf, n4, bf, bc, nC, C, nI, I, nH, H, nR, R⟩ = ⟨cf, n1, jf, n2, hf, n3, rf, n4, bf, bc, n1, fun _ => false, n2, fun _ => false, n3, fun _ => 0, n4, fun _ => 0⟩ from by simp [newF]]
  have HEnd := Lib.hid (fun W0 W4 g1 g2 g3 g4 hx0 hs0 hx h b1 b2 b3 b4 => @new_told' w W0 W4 cf jf hf rf bf bc n1 n2 n3 n4 g1 g2 g3 g4 hx0 hs0 hx h l1 l2 l3 l4 b1 b2 b3 b4 _ rfl)
  obtain ⟨ib, hib0, hib1, hib2, hib3⟩ := info_parts Tryz.infoCb
  obtain ⟨iw, hiw0, hiw1, hiw2, hiw3⟩ := info_parts Tryz.infoCw
  clear hsm
  unfold bnkC at HB ⊢
  dsimp only at HB ⊢
  have e0 := (Ext.alloc w (.cells #[.int .i64 cf, .int .i64 n1, .int .i64 jf, .int .i64 n2, .int .i64 hf, .int .i64 n3, .int .i64 rf, .int .i64 n4, .int .i64 bf, .int .i64 bc] 25)).trans (Ext.alloc _ (.cells (filC zeroV zeroF) 29))
  have g0 := two_boxes w #[.int .i64 cf, .int .i64 n1, .int .i64 jf, .int .i64 n2, .int .i64 hf, .int .i64 n3, .int .i64 rf, .int .i64 n4, .int .i64 bf, .int .i64 bc] (filC zeroV zeroF) 25 29
  have z0 : ((w.alloc (.cells #[.int .i64 cf, .int .i64 n1, .int .i64 jf, .int .i64 n2, .int .i64 hf, .int .i64 n3, .int .i64 rf, .int .i64 n4, .int .i64 bf, .int .i64 bc] 25)).alloc (.cells (filC zeroV zeroF) 29)).heap.size = w.heap.size + 2 := by simp
  obtain ⟨gA, gR0⟩ := g0
  unfold filC at e0 gR0 z0
  dsimp only [zeroV, zeroF] at e0 gR0 z0
  have HC := Lib.hid (fun (W : World) (h : W.heap[w.heap.size]? = some (.cells #[.int .i64 cf, .int .i64 n1, .int .i64 jf, .int .i64 n2, .int .i64 hf, .int .i64 n3, .int .i64 rf, .int .i64 n4, .int .i64 bf, .int .i64 bc] 25 (0, 0))) =>
    And.intro (cell_of_heap (j := 1) h rfl) (And.intro (cell_of_heap (j := 3) h rfl) (And.intro (cell_of_heap (j := 5) h rfl) (cell_of_heap (j := 7) h rfl))))
  go_enter Tryz.func31, Tryz.ntmps31
  go_upto_region 1 with fail
  go_wp2_with fail
  refine (HB.out _).mono ?_; rintro e w1 ⟨rfl, x1⟩
  obtain ⟨W0, hW0⟩ : ∃ W0, W0 = w1.drew := ⟨_, rfl⟩
  have hx0 : Ext w W0 := by rw [hW0]; exact ext_drew (e0.trans x1)
  have hs0 : w.heap.size + 2 ≤ W0.heap.size := by rw [hW0]; have := x1.size; simp at this ⊢; try omega
  have hs : W0.heap[w.heap.size]? = some (.cells #[.int .i64 cf, .int .i64 n1, .int .i64 jf, .int .i64 n2, .int .i64 hf, .int .i64 n3, .int .i64 rf, .int .i64 n4, .int .i64 bf, .int .i64 bc] 25 (0, 0)) := by rw [hW0]; exact x1.block gA
  have hR : W0.heap[w.heap.size + 1]? = some (.cells #[.int .i64 0, .int .i64 0, .int .i64 0, .int .i64 0, .int .i64 0, .int .i64 0, .int .i64 0, .int .i64 0, .int .i64 0, .int .i64 0, .slice none 0 0, .slice none 0 0, .slice none 0 0, .slice none 0 0] 29 (0, 0)) := by rw [hW0]; exact x1.block gR0
  have gA1 := x1.block gA
  clear gA gR0 e0 z0 x1
  go_wp2_with fail
  refine wp_region_held_drew (S := fun W => W.heap[w.heap.size]? = some (.cells #[.int .i64 cf, .int .i64 n1, .int .i64 jf, .int .i64 n2, .int .i64 hf, .int .i64 n3, .int .i64 rf, .int .i64 n4, .int .i64 bf, .int .i64 bc] 25 (0, 0))) (by kernel_rfl) gA1 (fun _ => ?_)
  rw [← hW0]
  clear hW0 gA1
  refine wpAnyH_takeD (i := 0) (d := 8) rfl rfl (by kernel_rfl) (by kernel_rfl) (by kernel_rfl) (fun _ _ _ h => h) (yieldsIf_load_row (by rfl) 25 (.tmp 1) rfl w.heap.size rfl 25 _ (0, 0) _ (fun w' hw' => hw') Tryz.underlying25 rfl (by kernel_rfl)) hs ?_
  simp only [Act.put, tkA, tkB, tkC]
  refine tkY 1 9 (.pointer (some ⟨w.heap.size, 0, none⟩)) hs ?_ (y := fun W hW => by obtain ⟨k1, k3, k5, k7⟩ := HC.out W hW; go_simp)
  simp only [Act.put, tkA, tkB, tkC]
  refine tkY 2 10 (.pointer (some ⟨w.heap.size, 1, none⟩)) hs ?_ (y := fun W hW => by obtain ⟨k1, k3, k5, k7⟩ := HC.out W hW; go_simp)
  simp only [Act.put, tkA, tkB, tkC]
  refine tkY 3 11 (.int .i64 n1) hs ?_ (y := fun W hW => by obtain ⟨k1, k3, k5, k7⟩ := HC.out W hW; go_simp)
  simp only [Act.put, tkA, tkB, tkC]
  refine tkY 5 13 (.pointer (some ⟨w.heap.size, 2, none⟩)) hs ?_ (y := fun W hW => by obtain ⟨k1, k3, k5, k7⟩ := HC.out W hW; go_simp)
  simp only [Act.put, tkA, tkB, tkC]
  refine tkY 6 14 (.pointer (some ⟨w.heap.size, 3, none⟩)) hs ?_ (y := fun W hW => by obtain ⟨k1, k3, k5, k7⟩ := HC.out W hW; go_simp)
  simp only [Act.put, tkA, tkB, tkC]
  refine tkY 7 15 (.int .i64 n2) hs ?_ (y := fun W hW => by obtain ⟨k1, k3, k5, k7⟩ := HC.out W hW; go_simp)
  simp only [Act.put, tkA, tkB, tkC]
  refine tkY 9 17 (.pointer (some ⟨w.heap.size, 4, none⟩)) hs ?_ (y := fun W hW => by obtain ⟨k1, k3, k5, k7⟩ := HC.out W hW; go_simp)
  simp only [Act.put, tkA, tkB, tkC]
  refine tkY 10 18 (.pointer (some ⟨w.heap.size, 5, none⟩)) hs ?_ (y := fun W hW => by obtain ⟨k1, k3, k5, k7⟩ := HC.out W hW; go_simp)
  simp only [Act.put, tkA, tkB, tkC]
  refine tkY 11 19 (.int .i64 n3) hs ?_ (y := fun W hW => by obtain ⟨k1, k3, k5, k7⟩ := HC.out W hW; go_simp)
  simp only [Act.put, tkA, tkB, tkC]
  refine tkY 13 21 (.pointer (some ⟨w.heap.size, 6, none⟩)) hs ?_ (y := fun W hW => by obtain ⟨k1, k3, k5, k7⟩ := HC.out W hW; go_simp)
  simp only [Act.put, tkA, tkB, tkC]
  refine tkY 14 22 (.pointer (some ⟨w.heap.size, 7, none⟩)) hs ?_ (y := fun W hW => by obtain ⟨k1, k3, k5, k7⟩ := HC.out W hW; go_simp)
  simp only [Act.put, tkA, tkB, tkC]
  refine tkY 15 23 (.int .i64 n4) hs ?_ (y := fun W hW => by obtain ⟨k1, k3, k5, k7⟩ := HC.out W hW; go_simp)
  simp only [Act.put, tkA, tkB, tkC]
  refine wpAnyH_ready (rs := [4, 8, 12, 16]) (by kernel_rfl) (by simp) (AllReadyH.cons rfl (fun K hK => ?_) (AllReadyH.cons rfl (fun K hK => ?_) (AllReadyH.cons rfl (fun K hK => ?_) (AllReadyH.cons rfl (fun K hK => ?_) (AllReadyH.nil)))))
  · refine step_make (mk := Value.bool) rfl (.tmp 11) (.tmp 11) 26 rfl 4 ib false 1 Tryz.underlying26 hib0 hib1 hib2 hib3 rfl n1 rfl rfl (by omega) (by decide) 12 rfl (fun W1 r4 x1 s1 => ?_)
    refine hK.out _ _ (x1.block hs) (fun hs => ?_)
    clear hK K
    simp only [Act.put, tkA, tkB, tkC]
    refine wpAnyH_ready (rs := [8, 12, 16]) (by kernel_rfl) (by simp) (AllReadyH.cons rfl (fun K hK => ?_) (AllReadyH.cons rfl (fun K hK => ?_) (AllReadyH.cons rfl (fun K hK => ?_) (AllReadyH.nil))))
    · refine step_make (mk := Value.bool) rfl (.tmp 15) (.tmp 15) 26 rfl 4 ib false 1 Tryz.underlying26 hib0 hib1 hib2 hib3 rfl n2 rfl rfl (by omega) (by decide) 16 rfl (fun W2 r8 x2 s2 => ?_)
      refine hK.out _ _ (x2.block hs) (fun hs => ?_)
      clear hK K
      simp only [Act.put, tkA, tkB, tkC]
      refine wpAnyH_ready (rs := [12, 16]) (by kernel_rfl) (by simp) (AllReadyH.cons rfl (fun K hK => ?_) (AllReadyH.cons rfl (fun K hK => ?_) (AllReadyH.nil)))
      · refine step_make (mk := Value.int .u16) rfl (.tmp 19) (.tmp 19) 27 rfl 59 iw 0 2 Tryz.underlying27 hiw0 hiw1 hiw2 hiw3 rfl n3 rfl rfl (by omega) (by decide) 20 rfl (fun W3 r12 x3 s3 => ?_)
        refine hK.out _ _ (x3.block hs) (fun hs => ?_)
        clear hK K
        simp only [Act.put, tkA, tkB, tkC]
        refine wpAnyH_ready (rs := [16]) (by kernel_rfl) (by simp) (AllReadyH.cons rfl (fun K hK => ?_) (AllReadyH.nil))
        · refine step_make (mk := Value.int .u16) rfl (.tmp 23) (.tmp 23) 27 rfl 59 iw 0 2 Tryz.underlying27 hiw0 hiw1 hiw2 hiw3 rfl n4 rfl rfl (by omega) (by decide) 24 rfl (fun W4 r16 x4 s4 => ?_)
          refine hK.out _ _ (x4.block hs) (fun hs => ?_)
          clear hK K
          simp only [Act.put, tkA, tkB, tkC]
          have gR := x4.block (x3.block (x2.block (x1.block hR)))
          refine tkG 17 25 (.agg #[.int .i64 cf, .int .i64 n1, .int .i64 jf, .int .i64 n2, .int .i64 hf, .int .i64 n3, .int .i64 rf, .int .i64 n4, .int .i64 bf, .int .i64 bc, .slice (some ⟨W0.heap.size, 0, none⟩) n1 n1, .slice (some ⟨W1.heap.size, 0, none⟩) n2 n2, .slice (some ⟨W2.heap.size, 0, none⟩) n3 n3, .slice (some ⟨W3.heap.size, 0, none⟩) n4 n4]) hs ?_
          simp only [Act.put, tkA, tkB, tkC]
          refine wpAnyH_ready (rs := [18]) (by kernel_rfl) (by simp) (AllReadyH.cons rfl (fun K hK => ?_) AllReadyH.nil)
          refine step_store_row rfl 29 (.tmp 2) (.tmp 25) rfl (w.heap.size + 1) _ rfl rfl 29 _ gR (by kernel_rfl) rfl (by simp [Value.oneCell']) rfl ?_
          refine hK.out _ _ ((setRow_other _ _ _ _ (by omega)).trans hs) (fun hs => ?_)
          clear hK K
          simp only [Act.put]
          refine tkG 19 3 (.int .i64 0) hs ?_
          simp only [Act.put, tkA, tkB, tkC]
          refine wpAnyH_done (by kernel_rfl) ?_ _
          have hold := HEnd.out W0 W4 W0.heap.size W1.heap.size W2.heap.size W3.heap.size hx0 hs0 (((x1.trans x2).trans x3).trans x4) ⟨((((Row.holds r4).ext x2).ext x3).ext x4), (((Row.holds r8).ext x3).ext x4), ((Row.holds r12).ext x4), (Row.holds r16)⟩ (by omega) (by omega) (by omega) (by omega)
          clear s1 s2 s3 s4 hs0
          go_wp2_with fail
          refine bodyPost_ret (results_row_tmp rfl _ _ (w.heap.size + 1) 29 _ (0, 0) _ rfl (setRow_heap _ _ _ _ _ _ gR) Tryz.underlying29 rfl (by kernel_rfl)) rfl ⟨⟨some ⟨W0.heap.size, 0, none⟩, n1, some ⟨W1.heap.size, 0, none⟩, n2, some ⟨W2.heap.size, 0, none⟩, n3, some ⟨W3.heap.size, 0, none⟩, n4⟩, by rfl, hold.1 _, hold.2.1 _, ⟨.inr hold.2.2.1, .inr hold.2.2.2.1, .inr hold.2.2.2.2.1, .inr hold.2.2.2.2.2⟩⟩
      · refine step_make (mk := Value.int .u16) rfl (.tmp 23) (.tmp 23) 27 rfl 59 iw 0 2 Tryz.underlying27 hiw0 hiw1 hiw2 hiw3 rfl n4 rfl rfl (by omega) (by decide) 24 rfl (fun W3 r16 x3 s3 => ?_)
        refine hK.out _ _ (x3.block hs) (fun hs => ?_)
        clear hK K
        simp only [Act.put, tkA, tkB, tkC]
        refine wpAnyH_ready (rs := [12]) (by kernel_rfl) (by simp) (AllReadyH.cons rfl (fun K hK => ?_) (AllReadyH.nil))
        · refine step_make (mk := Value.int .u16) rfl (.tmp 19) (.tmp 19) 27 rfl 59 iw 0 2 Tryz.underlying27 hiw0 hiw1 hiw2 hiw3 rfl n3 rfl rfl (by omega) (by decide) 20 rfl (fun W4 r12 x4 s4 => ?_)
          refine hK.out _ _ (x4.block hs) (fun hs => ?_)
          clear hK K
          simp only [Act.put, tkA, tkB, tkC]
          have gR := x4.block (x3.block (x2.block (x1.block hR)))
          refine tkG 17 25 (.agg #[.int .i64 cf, .int .i64 n1, .int .i64 jf, .int .i64 n2, .int .i64 hf, .int .i64 n3, .int .i64 rf, .int .i64 n4, .int .i64 bf, .int .i64 bc, .slice (some ⟨W0.heap.size, 0, none⟩) n1 n1, .slice (some ⟨W1.heap.size, 0, none⟩) n2 n2, .slice (some ⟨W3.heap.size, 0, none⟩) n3 n3, .slice (some ⟨W2.heap.size, 0, none⟩) n4 n4]) hs ?_
          simp only [Act.put, tkA, tkB, tkC]
          refine wpAnyH_ready (rs := [18]) (by kernel_rfl) (by simp) (AllReadyH.cons rfl (fun K hK => ?_) AllReadyH.nil)
          refine step_store_row rfl 29 (.tmp 2) (.tmp 25) rfl (w.heap.size + 1) _ rfl rfl 29 _ gR (by kernel_rfl) rfl (by simp [Value.oneCell']) rfl ?_
          refine hK.out _ _ ((setRow_other _ _ _ _ (by omega)).trans hs) (fun hs => ?_)
          clear hK K
          simp only [Act.put]
          refine tkG 19 3 (.int .i64 0) hs ?_
          simp only [Act.put, tkA, tkB, tkC]
          refine wpAnyH_done (by kernel_rfl) ?_ _
          have hold := HEnd.out W0 W4 W0.heap.size W1.heap.size W3.heap.size W2.heap.size hx0 hs0 (((x1.trans x2).trans x3).trans x4) ⟨((((Row.holds r4).ext x2).ext x3).ext x4), (((Row.holds r8).ext x3).ext x4), (Row.holds r12), ((Row.holds r16).ext x4)⟩ (by omega) (by omega) (by omega) (by omega)
          clear s1 s2 s3 s4 hs0
          go_wp2_with fail
          refine bodyPost_ret (results_row_tmp rfl _ _ (w.heap.size + 1) 29 _ (0, 0) _ rfl (setRow_heap _ _ _ _ _ _ gR) Tryz.underlying29 rfl (by kernel_rfl)) rfl ⟨⟨some ⟨W0.heap.size, 0, none⟩, n1, some ⟨W1.heap.size, 0, none⟩, n2, some ⟨W3.heap.size, 0, none⟩, n3, some ⟨W2.heap.size, 0, none⟩, n4⟩, by rfl, hold.1 _, hold.2.1 _, ⟨.inr hold.2.2.1, .inr hold.2.2.2.1, .inr hold.2.2.2.2.1, .inr hold.2.2.2.2.2⟩⟩
    · refine step_make (mk := Value.int .u16) rfl (.tmp 19) (.tmp 19) 27 rfl 59 iw 0 2 Tryz.underlying27 hiw0 hiw1 hiw2 hiw3 rfl n3 rfl rfl (by omega) (by decide) 20 rfl (fun W2 r12 x2 s2 => ?_)
      refine hK.out _ _ (x2.block hs) (fun hs => ?_)
      clear hK K
      simp only [Act.put, tkA, tkB, tkC]
      refine wpAnyH_ready (rs := [8, 16]) (by kernel_rfl) (by simp) (AllReadyH.cons rfl (fun K hK => ?_) (AllReadyH.cons rfl (fun K hK => ?_) (AllReadyH.nil)))
      · refine step_make (mk := Value.bool) rfl (.tmp 15) (.tmp 15) 26 rfl 4 ib false 1 Tryz.underlying26 hib0 hib1 hib2 hib3 rfl n2 rfl rfl (by omega) (by decide) 16 rfl (fun W3 r8 x3 s3 => ?_)
        refine hK.out _ _ (x3.block hs) (fun hs => ?_)
        clear hK K
        simp only [Act.put, tkA, tkB, tkC]
        refine wpAnyH_ready (rs := [16]) (by kernel_rfl) (by simp) (AllReadyH.cons rfl (fun K hK => ?_) (AllReadyH.nil))
        · refine step_make (mk := Value.int .u16) rfl (.tmp 23) (.tmp 23) 27 rfl 59 iw 0 2 Tryz.underlying27 hiw0 hiw1 hiw2 hiw3 rfl n4 rfl rfl (by omega) (by decide) 24 rfl (fun W4 r16 x4 s4 => ?_)
          refine hK.out _ _ (x4.block hs) (fun hs => ?_)
          clear hK K
          simp only [Act.put, tkA, tkB, tkC]
          have gR := x4.block (x3.block (x2.block (x1.block hR)))
          refine tkG 17 25 (.agg #[.int .i64 cf, .int .i64 n1, .int .i64 jf, .int .i64 n2, .int .i64 hf, .int .i64 n3, .int .i64 rf, .int .i64 n4, .int .i64 bf, .int .i64 bc, .slice (some ⟨W0.heap.size, 0, none⟩) n1 n1, .slice (some ⟨W2.heap.size, 0, none⟩) n2 n2, .slice (some ⟨W1.heap.size, 0, none⟩) n3 n3, .slice (some ⟨W3.heap.size, 0, none⟩) n4 n4]) hs ?_
          simp only [Act.put, tkA, tkB, tkC]
          refine wpAnyH_ready (rs := [18]) (by kernel_rfl) (by simp) (AllReadyH.cons rfl (fun K hK => ?_) AllReadyH.nil)
          refine step_store_row rfl 29 (.tmp 2) (.tmp 25) rfl (w.heap.size + 1) _ rfl rfl 29 _ gR (by kernel_rfl) rfl (by simp [Value.oneCell']) rfl ?_
          refine hK.out _ _ ((setRow_other _ _ _ _ (by omega)).trans hs) (fun hs => ?_)
          clear hK K
          simp only [Act.put]
          refine tkG 19 3 (.int .i64 0) hs ?_
          simp only [Act.put, tkA, tkB, tkC]
          refine wpAnyH_done (by kernel_rfl) ?_ _
          have hold := HEnd.out W0 W4 W0.heap.size W2.heap.size W1.heap.size W3.heap.size hx0 hs0 (((x1.trans x2).trans x3).trans x4) ⟨((((Row.holds r4).ext x2).ext x3).ext x4), ((Row.holds r8).ext x4), (((Row.holds r12).ext x3).ext x4), (Row.holds r16)⟩ (by omega) (by omega) (by omega) (by omega)
          clear s1 s2 s3 s4 hs0
          go_wp2_with fail
          refine bodyPost_ret (results_row_tmp rfl _ _ (w.heap.size + 1) 29 _ (0, 0) _ rfl (setRow_heap _ _ _ _ _ _ gR) Tryz.underlying29 rfl (by kernel_rfl)) rfl ⟨⟨some ⟨W0.heap.size, 0, none⟩, n1, some ⟨W2.heap.size, 0, none⟩, n2, some ⟨W1.heap.size, 0, none⟩, n3, some ⟨W3.heap.size, 0, none⟩, n4⟩, by rfl, hold.1 _, hold.2.1 _, ⟨.inr hold.2.2.1, .inr hold.2.2.2.1, .inr hold.2.2.2.2.1, .inr hold.2.2.2.2.2⟩⟩
      · refine step_make (mk := Value.int .u16) rfl (.tmp 23) (.tmp 23) 27 rfl 59 iw 0 2 Tryz.underlying27 hiw0 hiw1 hiw2 hiw3 rfl n4 rfl rfl (by omega) (by decide) 24 rfl (fun W3 r16 x3 s3 => ?_)
        refine hK.out _ _ (x3.block hs) (fun hs => ?_)
        clear hK K
        simp only [Act.put, tkA, tkB, tkC]
        refine wpAnyH_ready (rs := [8]) (by kernel_rfl) (by simp) (AllReadyH.cons rfl (fun K hK => ?_) (AllReadyH.nil))
        · refine step_make (mk := Value.bool) rfl (.tmp 15) (.tmp 15) 26 rfl 4 ib false 1 Tryz.underlying26 hib0 hib1 hib2 hib3 rfl n2 rfl rfl (by omega) (by decide) 16 rfl (fun W4 r8 x4 s4 => ?_)
          refine hK.out _ _ (x4.block hs) (fun hs => ?_)
          clear hK K
          simp only [Act.put, tkA, tkB, tkC]
          have gR := x4.block (x3.block (x2.block (x1.block hR)))
          refine tkG 17 25 (.agg #[.int .i64 cf, .int .i64 n1, .int .i64 jf, .int .i64 n2, .int .i64 hf, .int .i64 n3, .int .i64 rf, .int .i64 n4, .int .i64 bf, .int .i64 bc, .slice (some ⟨W0.heap.size, 0, none⟩) n1 n1, .slice (some ⟨W3.heap.size, 0, none⟩) n2 n2, .slice (some ⟨W1.heap.size, 0, none⟩) n3 n3, .slice (some ⟨W2.heap.size, 0, none⟩) n4 n4]) hs ?_
          simp only [Act.put, tkA, tkB, tkC]
          refine wpAnyH_ready (rs := [18]) (by kernel_rfl) (by simp) (AllReadyH.cons rfl (fun K hK => ?_) AllReadyH.nil)
          refine step_store_row rfl 29 (.tmp 2) (.tmp 25) rfl (w.heap.size + 1) _ rfl rfl 29 _ gR (by kernel_rfl) rfl (by simp [Value.oneCell']) rfl ?_
          refine hK.out _ _ ((setRow_other _ _ _ _ (by omega)).trans hs) (fun hs => ?_)
          clear hK K
          simp only [Act.put]
          refine tkG 19 3 (.int .i64 0) hs ?_
          simp only [Act.put, tkA, tkB, tkC]
          refine wpAnyH_done (by kernel_rfl) ?_ _
          have hold := HEnd.out W0 W4 W0.heap.size W3.heap.size W1.heap.size W2.heap.size hx0 hs0 (((x1.trans x2).trans x3).trans x4) ⟨((((Row.holds r4).ext x2).ext x3).ext x4), (Row.holds r8), (((Row.holds r12).ext x3).ext x4), ((Row.holds r16).ext x4)⟩ (by omega) (by omega) (by omega) (by omega)
          clear s1 s2 s3 s4 hs0
          go_wp2_with fail
          refine bodyPost_ret (results_row_tmp rfl _ _ (w.heap.size + 1) 29 _ (0, 0) _ rfl (setRow_heap _ _ _ _ _ _ gR) Tryz.underlying29 rfl (by kernel_rfl)) rfl ⟨⟨some ⟨W0.heap.size, 0, none⟩, n1, some ⟨W3.heap.size, 0, none⟩, n2, some ⟨W1.heap.size, 0, none⟩, n3, some ⟨W2.heap.size, 0, none⟩, n4⟩, by rfl, hold.1 _, hold.2.1 _, ⟨.inr hold.2.2.1, .inr hold.2.2.2.1, .inr hold.2.2.2.2.1, .inr hold.2.2.2.2.2⟩⟩
    · refine step_make (mk := Value.int .u16) rfl (.tmp 23) (.tmp 23) 27 rfl 59 iw 0 2 Tryz.underlying27 hiw0 hiw1 hiw2 hiw3 rfl n4 rfl rfl (by omega) (by decide) 24 rfl (fun W2 r16 x2 s2 => ?_)
      refine hK.out _ _ (x2.block hs) (fun hs => ?_)
      clear hK K
      simp only [Act.put, tkA, tkB, tkC]
      refine wpAnyH_ready (rs := [8, 12]) (by kernel_rfl) (by simp) (AllReadyH.cons rfl (fun K hK => ?_) (AllReadyH.cons rfl (fun K hK => ?_) (AllReadyH.nil)))
      · refine step_make (mk := Value.bool) rfl (.tmp 15) (.tmp 15) 26 rfl 4 ib false 1 Tryz.underlying26 hib0 hib1 hib2 hib3 rfl n2 rfl rfl (by omega) (by decide) 16 rfl (fun W3 r8 x3 s3 => ?_)
        refine hK.out _ _ (x3.block hs) (fun hs => ?_)
        clear hK K
        simp only [Act.put, tkA, tkB, tkC]
        refine wpAnyH_ready (rs := [12]) (by kernel_rfl) (by simp) (AllReadyH.cons rfl (fun K hK => ?_) (AllReadyH.nil))
        · refine step_make (mk := Value.int .u16) rfl (.tmp 19) (.tmp 19) 27 rfl 59 iw 0 2 Tryz.underlying27 hiw0 hiw1 hiw2 hiw3 rfl n3 rfl rfl (by omega) (by decide) 20 rfl (fun W4 r12 x4 s4 => ?_)
          refine hK.out _ _ (x4.block hs) (fun hs => ?_)
          clear hK K
          simp only [Act.put, tkA, tkB, tkC]
          have gR := x4.block (x3.block (x2.block (x1.block hR)))
          refine tkG 17 25 (.agg #[.int .i64 cf, .int .i64 n1, .int .i64 jf, .int .i64 n2, .int .i64 hf, .int .i64 n3, .int .i64 rf, .int .i64 n4, .int .i64 bf, .int .i64 bc, .slice (some ⟨W0.heap.size, 0, none⟩) n1 n1, .slice (some ⟨W2.heap.size, 0, none⟩) n2 n2, .slice (some ⟨W3.heap.size, 0, none⟩) n3 n3, .slice (some ⟨W1.heap.size, 0, none⟩) n4 n4]) hs ?_
          simp only [Act.put, tkA, tkB, tkC]
          refine wpAnyH_ready (rs := [18]) (by kernel_rfl) (by simp) (AllReadyH.cons rfl (fun K hK => ?_) AllReadyH.nil)
          refine step_store_row rfl 29 (.tmp 2) (.tmp 25) rfl (w.heap.size + 1) _ rfl rfl 29 _ gR (by kernel_rfl) rfl (by simp [Value.oneCell']) rfl ?_
          refine hK.out _ _ ((setRow_other _ _ _ _ (by omega)).trans hs) (fun hs => ?_)
          clear hK K
          simp only [Act.put]
          refine tkG 19 3 (.int .i64 0) hs ?_
          simp only [Act.put, tkA, tkB, tkC]
          refine wpAnyH_done (by kernel_rfl) ?_ _
          have hold := HEnd.out W0 W4 W0.heap.size W2.heap.size W3.heap.size W1.heap.size hx0 hs0 (((x1.trans x2).trans x3).trans x4) ⟨((((Row.holds r4).ext x2).ext x3).ext x4), ((Row.holds r8).ext x4), (Row.holds r12), (((Row.holds r16).ext x3).ext x4)⟩ (by omega) (by omega) (by omega) (by omega)
          clear s1 s2 s3 s4 hs0
          go_wp2_with fail
          refine bodyPost_ret (results_row_tmp rfl _ _ (w.heap.size + 1) 29 _ (0, 0) _ rfl (setRow_heap _ _ _ _ _ _ gR) Tryz.underlying29 rfl (by kernel_rfl)) rfl ⟨⟨some ⟨W0.heap.size, 0, none⟩, n1, some ⟨W2.heap.size, 0, none⟩, n2, some ⟨W3.heap.size, 0, none⟩, n3, some ⟨W1.heap.size, 0, none⟩, n4⟩, by rfl, hold.1 _, hold.2.1 _, ⟨.inr hold.2.2.1, .inr hold.2.2.2.1, .inr hold.2.2.2.2.1, .inr hold.2.2.2.2.2⟩⟩
      · refine step_make (mk := Value.int .u16) rfl (.tmp 19) (.tmp 19) 27 rfl 59 iw 0 2 Tryz.underlying27 hiw0 hiw1 hiw2 hiw3 rfl n3 rfl rfl (by omega) (by decide) 20 rfl (fun W3 r12 x3 s3 => ?_)
        refine hK.out _ _ (x3.block hs) (fun hs => ?_)
        clear hK K
        simp only [Act.put, tkA, tkB, tkC]
        refine wpAnyH_ready (rs := [8]) (by kernel_rfl) (by simp) (AllReadyH.cons rfl (fun K hK => ?_) (AllReadyH.nil))
        · refine step_make (mk := Value.bool) rfl (.tmp 15) (.tmp 15) 26 rfl 4 ib false 1 Tryz.underlying26 hib0 hib1 hib2 hib3 rfl n2 rfl rfl (by omega) (by decide) 16 rfl (fun W4 r8 x4 s4 => ?_)
          refine hK.out _ _ (x4.block hs) (fun hs => ?_)
          clear hK K
          simp only [Act.put, tkA, tkB, tkC]
          have gR := x4.block (x3.block (x2.block (x1.block hR)))
          refine tkG 17 25 (.agg #[.int .i64 cf, .int .i64 n1, .int .i64 jf, .int .i64 n2, .int .i64 hf, .int .i64 n3, .int .i64 rf, .int .i64 n4, .int .i64 bf, .int .i64 bc, .slice (some ⟨W0.heap.size, 0, none⟩) n1 n1, .slice (some ⟨W3.heap.size, 0, none⟩) n2 n2, .slice (some ⟨W2.heap.size, 0, none⟩) n3 n3, .slice (some ⟨W1.heap.size, 0, none⟩) n4 n4]) hs ?_
          simp only [Act.put, tkA, tkB, tkC]
          refine wpAnyH_ready (rs := [18]) (by kernel_rfl) (by simp) (AllReadyH.cons rfl (fun K hK => ?_) AllReadyH.nil)
          refine step_store_row rfl 29 (.tmp 2) (.tmp 25) rfl (w.heap.size + 1) _ rfl rfl 29 _ gR (by kernel_rfl) rfl (by simp [Value.oneCell']) rfl ?_
          refine hK.out _ _ ((setRow_other _ _ _ _ (by omega)).trans hs) (fun hs => ?_)
          clear hK K
          simp only [Act.put]
          refine tkG 19 3 (.int .i64 0) hs ?_
          simp only [Act.put, tkA, tkB, tkC]
          refine wpAnyH_done (by kernel_rfl) ?_ _
          have hold := HEnd.out W0 W4 W0.heap.size W3.heap.size W2.heap.size W1.heap.size hx0 hs0 (((x1.trans x2).trans x3).trans x4) ⟨((((Row.holds r4).ext x2).ext x3).ext x4), (Row.holds r8), ((Row.holds r12).ext x4), (((Row.holds r16).ext x3).ext x4)⟩ (by omega) (by omega) (by omega) (by omega)
          clear s1 s2 s3 s4 hs0
          go_wp2_with fail
          refine bodyPost_ret (results_row_tmp rfl _ _ (w.heap.size + 1) 29 _ (0, 0) _ rfl (setRow_heap _ _ _ _ _ _ gR) Tryz.underlying29 rfl (by kernel_rfl)) rfl ⟨⟨some ⟨W0.heap.size, 0, none⟩, n1, some ⟨W3.heap.size, 0, none⟩, n2, some ⟨W2.heap.size, 0, none⟩, n3, some ⟨W1.heap.size, 0, none⟩, n4⟩, by rfl, hold.1 _, hold.2.1 _, ⟨.inr hold.2.2.1, .inr hold.2.2.2.1, .inr hold.2.2.2.2.1, .inr hold.2.2.2.2.2⟩⟩
  · refine step_make (mk := Value.bool) rfl (.tmp 15) (.tmp 15) 26 rfl 4 ib false 1 Tryz.underlying26 hib0 hib1 hib2 hib3 rfl n2 rfl rfl (by omega) (by decide) 16 rfl (fun W1 r8 x1 s1 => ?_)
    refine hK.out _ _ (x1.block hs) (fun hs => ?_)
    clear hK K
    simp only [Act.put, tkA, tkB, tkC]
    refine wpAnyH_ready (rs := [4, 12, 16]) (by kernel_rfl) (by simp) (AllReadyH.cons rfl (fun K hK => ?_) (AllReadyH.cons rfl (fun K hK => ?_) (AllReadyH.cons rfl (fun K hK => ?_) (AllReadyH.nil))))
    · refine step_make (mk := Value.bool) rfl (.tmp 11) (.tmp 11) 26 rfl 4 ib false 1 Tryz.underlying26 hib0 hib1 hib2 hib3 rfl n1 rfl rfl (by omega) (by decide) 12 rfl (fun W2 r4 x2 s2 => ?_)
      refine hK.out _ _ (x2.block hs) (fun hs => ?_)
      clear hK K
      simp only [Act.put, tkA, tkB, tkC]
      refine wpAnyH_ready (rs := [12, 16]) (by kernel_rfl) (by simp) (AllReadyH.cons rfl (fun K hK => ?_) (AllReadyH.cons rfl (fun K hK => ?_) (AllReadyH.nil)))
      · refine step_make (mk := Value.int .u16) rfl (.tmp 19) (.tmp 19) 27 rfl 59 iw 0 2 Tryz.underlying27 hiw0 hiw1 hiw2 hiw3 rfl n3 rfl rfl (by omega) (by decide) 20 rfl (fun W3 r12 x3 s3 => ?_)
        refine hK.out _ _ (x3.block hs) (fun hs => ?_)
        clear hK K
        simp only [Act.put, tkA, tkB, tkC]
        refine wpAnyH_ready (rs := [16]) (by kernel_rfl) (by simp) (AllReadyH.cons rfl (fun K hK => ?_) (AllReadyH.nil))
        · refine step_make (mk := Value.int .u16) rfl (.tmp 23) (.tmp 23) 27 rfl 59 iw 0 2 Tryz.underlying27 hiw0 hiw1 hiw2 hiw3 rfl n4 rfl rfl (by omega) (by decide) 24 rfl (fun W4 r16 x4 s4 => ?_)
          refine hK.out _ _ (x4.block hs) (fun hs => ?_)
          clear hK K
          simp only [Act.put, tkA, tkB, tkC]
          have gR := x4.block (x3.block (x2.block (x1.block hR)))
          refine tkG 17 25 (.agg #[.int .i64 cf, .int .i64 n1, .int .i64 jf, .int .i64 n2, .int .i64 hf, .int .i64 n3, .int .i64 rf, .int .i64 n4, .int .i64 bf, .int .i64 bc, .slice (some ⟨W1.heap.size, 0, none⟩) n1 n1, .slice (some ⟨W0.heap.size, 0, none⟩) n2 n2, .slice (some ⟨W2.heap.size, 0, none⟩) n3 n3, .slice (some ⟨W3.heap.size, 0, none⟩) n4 n4]) hs ?_
          simp only [Act.put, tkA, tkB, tkC]
          refine wpAnyH_ready (rs := [18]) (by kernel_rfl) (by simp) (AllReadyH.cons rfl (fun K hK => ?_) AllReadyH.nil)
          refine step_store_row rfl 29 (.tmp 2) (.tmp 25) rfl (w.heap.size + 1) _ rfl rfl 29 _ gR (by kernel_rfl) rfl (by simp [Value.oneCell']) rfl ?_
          refine hK.out _ _ ((setRow_other _ _ _ _ (by omega)).trans hs) (fun hs => ?_)
          clear hK K
          simp only [Act.put]
          refine tkG 19 3 (.int .i64 0) hs ?_
          simp only [Act.put, tkA, tkB, tkC]
          refine wpAnyH_done (by kernel_rfl) ?_ _
          have hold := HEnd.out W0 W4 W1.heap.size W0.heap.size W2.heap.size W3.heap.size hx0 hs0 (((x1.trans x2).trans x3).trans x4) ⟨(((Row.holds r4).ext x3).ext x4), ((((Row.holds r8).ext x2).ext x3).ext x4), ((Row.holds r12).ext x4), (Row.holds r16)⟩ (by omega) (by omega) (by omega) (by omega)
          clear s1 s2 s3 s4 hs0
          go_wp2_with fail
          refine bodyPost_ret (results_row_tmp rfl _ _ (w.heap.size + 1) 29 _ (0, 0) _ rfl (setRow_heap _ _ _ _ _ _ gR) Tryz.underlying29 rfl (by kernel_rfl)) rfl ⟨⟨some ⟨W1.heap.size, 0, none⟩, n1, some ⟨W0.heap.size, 0, none⟩, n2, some ⟨W2.heap.size, 0, none⟩, n3, some ⟨W3.heap.size, 0, none⟩, n4⟩, by rfl, hold.1 _, hold.2.1 _, ⟨.inr hold.2.2.1, .inr hold.2.2.2.1, .inr hold.2.2.2.2.1, .inr hold.2.2.2.2.2⟩⟩
      · refine step_make (mk := Value.int .u16) rfl (.tmp 23) (.tmp 23) 27 rfl 59 iw 0 2 Tryz.underlying27 hiw0 hiw1 hiw2 hiw3 rfl n4 rfl rfl (by omega) (by decide) 24 rfl (fun W3 r16 x3 s3 => ?_)
        refine hK.out _ _ (x3.block hs) (fun hs => ?_)
        clear hK K
        simp only [Act.put, tkA, tkB, tkC]
        refine wpAnyH_ready (rs := [12]) (by kernel_rfl) (by simp) (AllReadyH.cons rfl (fun K hK => ?_) (AllReadyH.nil))
        · refine step_make (mk := Value.int .u16) rfl (.tmp 19) (.tmp 19) 27 rfl 59 iw 0 2 Tryz.underlying27 hiw0 hiw1 hiw2 hiw3 rfl n3 rfl rfl (by omega) (by decide) 20 rfl (fun W4 r12 x4 s4 => ?_)
          refine hK.out _ _ (x4.block hs) (fun hs => ?_)
          clear hK K
          simp only [Act.put, tkA, tkB, tkC]
          have gR := x4.block (x3.block (x2.block (x1.block hR)))
          refine tkG 17 25 (.agg #[.int .i64 cf, .int .i64 n1, .int .i64 jf, .int .i64 n2, .int .i64 hf, .int .i64 n3, .int .i64 rf, .int .i64 n4, .int .i64 bf, .int .i64 bc, .slice (some ⟨W1.heap.size, 0, none⟩) n1 n1, .slice (some ⟨W0.heap.size, 0, none⟩) n2 n2, .slice (some ⟨W3.heap.size, 0, none⟩) n3 n3, .slice (some ⟨W2.heap.size, 0, none⟩) n4 n4]) hs ?_
          simp only [Act.put, tkA, tkB, tkC]
          refine wpAnyH_ready (rs := [18]) (by kernel_rfl) (by simp) (AllReadyH.cons rfl (fun K hK => ?_) AllReadyH.nil)
          refine step_store_row rfl 29 (.tmp 2) (.tmp 25) rfl (w.heap.size + 1) _ rfl rfl 29 _ gR (by kernel_rfl) rfl (by simp [Value.oneCell']) rfl ?_
          refine hK.out _ _ ((setRow_other _ _ _ _ (by omega)).trans hs) (fun hs => ?_)
          clear hK K
          simp only [Act.put]
          refine tkG 19 3 (.int .i64 0) hs ?_
          simp only [Act.put, tkA, tkB, tkC]
          refine wpAnyH_done (by kernel_rfl) ?_ _
          have hold := HEnd.out W0 W4 W1.heap.size W0.heap.size W3.heap.size W2.heap.size hx0 hs0 (((x1.trans x2).trans x3).trans x4) ⟨(((Row.holds r4).ext x3).ext x4), ((((Row.holds r8).ext x2).ext x3).ext x4), (Row.holds r12), ((Row.holds r16).ext x4)⟩ (by omega) (by omega) (by omega) (by omega)
          clear s1 s2 s3 s4 hs0
          go_wp2_with fail
          refine bodyPost_ret (results_row_tmp rfl _ _ (w.heap.size + 1) 29 _ (0, 0) _ rfl (setRow_heap _ _ _ _ _ _ gR) Tryz.underlying29 rfl (by kernel_rfl)) rfl ⟨⟨some ⟨W1.heap.size, 0, none⟩, n1, some ⟨W0.heap.size, 0, none⟩, n2, some ⟨W3.heap.size, 0, none⟩, n3, some ⟨W2.heap.size, 0, none⟩, n4⟩, by rfl, hold.1 _, hold.2.1 _, ⟨.inr hold.2.2.1, .inr hold.2.2.2.1, .inr hold.2.2.2.2.1, .inr hold.2.2.2.2.2⟩⟩
    · refine step_make (mk := Value.int .u16) rfl (.tmp 19) (.tmp 19) 27 rfl 59 iw 0 2 Tryz.underlying27 hiw0 hiw1 hiw2 hiw3 rfl n3 rfl rfl (by omega) (by decide) 20 rfl (fun W2 r12 x2 s2 => ?_)
      refine hK.out _ _ (x2.block hs) (fun hs => ?_)
      clear hK K
      simp only [Act.put, tkA, tkB, tkC]
      refine wpAnyH_ready (rs := [4, 16]) (by kernel_rfl) (by simp) (AllReadyH.cons rfl (fun K hK => ?_) (AllReadyH.cons rfl (fun K hK => ?_) (AllReadyH.nil)))
      · refine step_make (mk := Value.bool) rfl (.tmp 11) (.tmp 11) 26 rfl 4 ib false 1 Tryz.underlying26 hib0 hib1 hib2 hib3 rfl n1 rfl rfl (by omega) (by decide) 12 rfl (fun W3 r4 x3 s3 => ?_)
        refine hK.out _ _ (x3.block hs) (fun hs => ?_)
        clear hK K
        simp only [Act.put, tkA, tkB, tkC]
        refine wpAnyH_ready (rs := [16]) (by kernel_rfl) (by simp) (AllReadyH.cons rfl (fun K hK => ?_) (AllReadyH.nil))
        · refine step_make (mk := Value.int .u16) rfl (.tmp 23) (.tmp 23) 27 rfl 59 iw 0 2 Tryz.underlying27 hiw0 hiw1 hiw2 hiw3 rfl n4 rfl rfl (by omega) (by decide) 24 rfl (fun W4 r16 x4 s4 => ?_)
          refine hK.out _ _ (x4.block hs) (fun hs => ?_)
          clear hK K
          simp only [Act.put, tkA, tkB, tkC]
          have gR := x4.block (x3.block (x2.block (x1.block hR)))
          refine tkG 17 25 (.agg #[.int .i64 cf, .int .i64 n1, .int .i64 jf, .int .i64 n2, .int .i64 hf, .int .i64 n3, .int .i64 rf, .int .i64 n4, .int .i64 bf, .int .i64 bc, .slice (some ⟨W2.heap.size, 0, none⟩) n1 n1, .slice (some ⟨W0.heap.size, 0, none⟩) n2 n2, .slice (some ⟨W1.heap.size, 0, none⟩) n3 n3, .slice (some ⟨W3.heap.size, 0, none⟩) n4 n4]) hs ?_
          simp only [Act.put, tkA, tkB, tkC]
          refine wpAnyH_ready (rs := [18]) (by kernel_rfl) (by simp) (AllReadyH.cons rfl (fun K hK => ?_) AllReadyH.nil)
          refine step_store_row rfl 29 (.tmp 2) (.tmp 25) rfl (w.heap.size + 1) _ rfl rfl 29 _ gR (by kernel_rfl) rfl (by simp [Value.oneCell']) rfl ?_
          refine hK.out _ _ ((setRow_other _ _ _ _ (by omega)).trans hs) (fun hs => ?_)
          clear hK K
          simp only [Act.put]
          refine tkG 19 3 (.int .i64 0) hs ?_
          simp only [Act.put, tkA, tkB, tkC]
          refine wpAnyH_done (by kernel_rfl) ?_ _
          have hold := HEnd.out W0 W4 W2.heap.size W0.heap.size W1.heap.size W3.heap.size hx0 hs0 (((x1.trans x2).trans x3).trans x4) ⟨((Row.holds r4).ext x4), ((((Row.holds r8).ext x2).ext x3).ext x4), (((Row.holds r12).ext x3).ext x4), (Row.holds r16)⟩ (by omega) (by omega) (by omega) (by omega)
          clear s1 s2 s3 s4 hs0
          go_wp2_with fail
          refine bodyPost_ret (results_row_tmp rfl _ _ (w.heap.size + 1) 29 _ (0, 0) _ rfl (setRow_heap _ _ _ _ _ _ gR) Tryz.underlying29 rfl (by kernel_rfl)) rfl ⟨⟨some ⟨W2.heap.size, 0, none⟩, n1, some ⟨W0.heap.size, 0, none⟩, n2, some ⟨W1.heap.size, 0, none⟩, n3, some ⟨W3.heap.size, 0, none⟩, n4⟩, by rfl, hold.1 _, hold.2.1 _, ⟨.inr hold.2.2.1, .inr hold.2.2.2.1, .inr hold.2.2.2.2.1, .inr hold.2.2.2.2.2⟩⟩
      · refine step_make (mk := Value.int .u16) rfl (.tmp 23) (.tmp 23) 27 rfl 59 iw 0 2 Tryz.underlying27 hiw0 hiw1 hiw2 hiw3 rfl n4 rfl rfl (by omega) (by decide) 24 rfl (fun W3 r16 x3 s3 => ?_)
        refine hK.out _ _ (x3.block hs) (fun hs => ?_)
        clear hK K
        simp only [Act.put, tkA, tkB, tkC]
        refine wpAnyH_ready (rs := [4]) (by kernel_rfl) (by simp) (AllReadyH.cons rfl (fun K hK => ?_) (AllReadyH.nil))
        · refine step_make (mk := Value.bool) rfl (.tmp 11) (.tmp 11) 26 rfl 4 ib false 1 Tryz.underlying26 hib0 hib1 hib2 hib3 rfl n1 rfl rfl (by omega) (by decide) 12 rfl (fun W4 r4 x4 s4 => ?_)
          refine hK.out _ _ (x4.block hs) (fun hs => ?_)
          clear hK K
          simp only [Act.put, tkA, tkB, tkC]
          have gR := x4.block (x3.block (x2.block (x1.block hR)))
          refine tkG 17 25 (.agg #[.int .i64 cf, .int .i64 n1, .int .i64 jf, .int .i64 n2, .int .i64 hf, .int .i64 n3, .int .i64 rf, .int .i64 n4, .int .i64 bf, .int .i64 bc, .slice (some ⟨W3.heap.size, 0, none⟩) n1 n1, .slice (some ⟨W0.heap.size, 0, none⟩) n2 n2, .slice (some ⟨W1.heap.size, 0, none⟩) n3 n3, .slice (some ⟨W2.heap.size, 0, none⟩) n4 n4]) hs ?_
          simp only [Act.put, tkA, tkB, tkC]
          refine wpAnyH_ready (rs := [18]) (by kernel_rfl) (by simp) (AllReadyH.cons rfl (fun K hK => ?_) AllReadyH.nil)
          refine step_store_row rfl 29 (.tmp 2) (.tmp 25) rfl (w.heap.size + 1) _ rfl rfl 29 _ gR (by kernel_rfl) rfl (by simp [Value.oneCell']) rfl ?_
          refine hK.out _ _ ((setRow_other _ _ _ _ (by omega)).trans hs) (fun hs => ?_)
          clear hK K
          simp only [Act.put]
          refine tkG 19 3 (.int .i64 0) hs ?_
          simp only [Act.put, tkA, tkB, tkC]
          refine wpAnyH_done (by kernel_rfl) ?_ _
          have hold := HEnd.out W0 W4 W3.heap.size W0.heap.size W1.heap.size W2.heap.size hx0 hs0 (((x1.trans x2).trans x3).trans x4) ⟨(Row.holds r4), ((((Row.holds r8).ext x2).ext x3).ext x4), (((Row.holds r12).ext x3).ext x4), ((Row.holds r16).ext x4)⟩ (by omega) (by omega) (by omega) (by omega)
          clear s1 s2 s3 s4 hs0
          go_wp2_with fail
          refine bodyPost_ret (results_row_tmp rfl _ _ (w.heap.size + 1) 29 _ (0, 0) _ rfl (setRow_heap _ _ _ _ _ _ gR) Tryz.underlying29 rfl (by kernel_rfl)) rfl ⟨⟨some ⟨W3.heap.size, 0, none⟩, n1, some ⟨W0.heap.size, 0, none⟩, n2, some ⟨W1.heap.size, 0, none⟩, n3, some ⟨W2.heap.size, 0, none⟩, n4⟩, by rfl, hold.1 _, hold.2.1 _, ⟨.inr hold.2.2.1, .inr hold.2.2.2.1, .inr hold.2.2.2.2.1, .inr hold.2.2.2.2.2⟩⟩
    · refine step_make (mk := Value.int .u16) rfl (.tmp 23) (.tmp 23) 27 rfl 59 iw 0 2 Tryz.underlying27 hiw0 hiw1 hiw2 hiw3 rfl n4 rfl rfl (by omega) (by decide) 24 rfl (fun W2 r16 x2 s2 => ?_)
      refine hK.out _ _ (x2.block hs) (fun hs => ?_)
      clear hK K
      simp only [Act.put, tkA, tkB, tkC]
      refine wpAnyH_ready (rs := [4, 12]) (by kernel_rfl) (by simp) (AllReadyH.cons rfl (fun K hK => ?_) (AllReadyH.cons rfl (fun K hK => ?_) (AllReadyH.nil)))
      · refine step_make (mk := Value.bool) rfl (.tmp 11) (.tmp 11) 26 rfl 4 ib false 1 Tryz.underlying26 hib0 hib1 hib2 hib3 rfl n1 rfl rfl (by omega) (by decide) 12 rfl (fun W3 r4 x3 s3 => ?_)
        refine hK.out _ _ (x3.block hs) (fun hs => ?_)
        clear hK K
        simp only [Act.put, tkA, tkB, tkC]
        refine wpAnyH_ready (rs := [12]) (by kernel_rfl) (by simp) (AllReadyH.cons rfl (fun K hK => ?_) (AllReadyH.nil))
        · refine step_make (mk := Value.int .u16) rfl (.tmp 19) (.tmp 19) 27 rfl 59 iw 0 2 Tryz.underlying27 hiw0 hiw1 hiw2 hiw3 rfl n3 rfl rfl (by omega) (by decide) 20 rfl (fun W4 r12 x4 s4 => ?_)
          refine hK.out _ _ (x4.block hs) (fun hs => ?_)
          clear hK K
          simp only [Act.put, tkA, tkB, tkC]
          have gR := x4.block (x3.block (x2.block (x1.block hR)))
          refine tkG 17 25 (.agg #[.int .i64 cf, .int .i64 n1, .int .i64 jf, .int .i64 n2, .int .i64 hf, .int .i64 n3, .int .i64 rf, .int .i64 n4, .int .i64 bf, .int .i64 bc, .slice (some ⟨W2.heap.size, 0, none⟩) n1 n1, .slice (some ⟨W0.heap.size, 0, none⟩) n2 n2, .slice (some ⟨W3.heap.size, 0, none⟩) n3 n3, .slice (some ⟨W1.heap.size, 0, none⟩) n4 n4]) hs ?_
          simp only [Act.put, tkA, tkB, tkC]
          refine wpAnyH_ready (rs := [18]) (by kernel_rfl) (by simp) (AllReadyH.cons rfl (fun K hK => ?_) AllReadyH.nil)
          refine step_store_row rfl 29 (.tmp 2) (.tmp 25) rfl (w.heap.size + 1) _ rfl rfl 29 _ gR (by kernel_rfl) rfl (by simp [Value.oneCell']) rfl ?_
          refine hK.out _ _ ((setRow_other _ _ _ _ (by omega)).trans hs) (fun hs => ?_)
          clear hK K
          simp only [Act.put]
          refine tkG 19 3 (.int .i64 0) hs ?_
          simp only [Act.put, tkA, tkB, tkC]
          refine wpAnyH_done (by kernel_rfl) ?_ _
          have hold := HEnd.out W0 W4 W2.heap.size W0.heap.size W3.heap.size W1.heap.size hx0 hs0 (((x1.trans x2).trans x3).trans x4) ⟨((Row.holds r4).ext x4), ((((Row.holds r8).ext x2).ext x3).ext x4), (Row.holds r12), (((Row.holds r16).ext x3).ext x4)⟩ (by omega) (by omega) (by omega) (by omega)
          clear s1 s2 s3 s4 hs0
          go_wp2_with fail
          refine bodyPost_ret (results_row_tmp rfl _ _ (w.heap.size + 1) 29 _ (0, 0) _ rfl (setRow_heap _ _ _ _ _ _ gR) Tryz.underlying29 rfl (by kernel_rfl)) rfl ⟨⟨some ⟨W2.heap.size, 0, none⟩, n1, some ⟨W0.heap.size, 0, none⟩, n2, some ⟨W3.heap.size, 0, none⟩, n3, some ⟨W1.heap.size, 0, none⟩, n4⟩, by rfl, hold.1 _, hold.2.1 _, ⟨.inr hold.2.2.1, .inr hold.2.2.2.1, .inr hold.2.2.2.2.1, .inr hold.2.2.2.2.2⟩⟩
      · refine step_make (mk := Value.int .u16) rfl (.tmp 19) (.tmp 19) 27 rfl 59 iw 0 2 Tryz.underlying27 hiw0 hiw1 hiw2 hiw3 rfl n3 rfl rfl (by omega) (by decide) 20 rfl (fun W3 r12 x3 s3 => ?_)
        refine hK.out _ _ (x3.block hs) (fun hs => ?_)
        clear hK K
        simp only [Act.put, tkA, tkB, tkC]
        refine wpAnyH_ready (rs := [4]) (by kernel_rfl) (by simp) (AllReadyH.cons rfl (fun K hK => ?_) (AllReadyH.nil))
        · refine step_make (mk := Value.bool) rfl (.tmp 11) (.tmp 11) 26 rfl 4 ib false 1 Tryz.underlying26 hib0 hib1 hib2 hib3 rfl n1 rfl rfl (by omega) (by decide) 12 rfl (fun W4 r4 x4 s4 => ?_)
          refine hK.out _ _ (x4.block hs) (fun hs => ?_)
          clear hK K
          simp only [Act.put, tkA, tkB, tkC]
          have gR := x4.block (x3.block (x2.block (x1.block hR)))
          refine tkG 17 25 (.agg #[.int .i64 cf, .int .i64 n1, .int .i64 jf, .int .i64 n2, .int .i64 hf, .int .i64 n3, .int .i64 rf, .int .i64 n4, .int .i64 bf, .int .i64 bc, .slice (some ⟨W3.heap.size, 0, none⟩) n1 n1, .slice (some ⟨W0.heap.size, 0, none⟩) n2 n2, .slice (some ⟨W2.heap.size, 0, none⟩) n3 n3, .slice (some ⟨W1.heap.size, 0, none⟩) n4 n4]) hs ?_
          simp only [Act.put, tkA, tkB, tkC]
          refine wpAnyH_ready (rs := [18]) (by kernel_rfl) (by simp) (AllReadyH.cons rfl (fun K hK => ?_) AllReadyH.nil)
          refine step_store_row rfl 29 (.tmp 2) (.tmp 25) rfl (w.heap.size + 1) _ rfl rfl 29 _ gR (by kernel_rfl) rfl (by simp [Value.oneCell']) rfl ?_
          refine hK.out _ _ ((setRow_other _ _ _ _ (by omega)).trans hs) (fun hs => ?_)
          clear hK K
          simp only [Act.put]
          refine tkG 19 3 (.int .i64 0) hs ?_
          simp only [Act.put, tkA, tkB, tkC]
          refine wpAnyH_done (by kernel_rfl) ?_ _
          have hold := HEnd.out W0 W4 W3.heap.size W0.heap.size W2.heap.size W1.heap.size hx0 hs0 (((x1.trans x2).trans x3).trans x4) ⟨(Row.holds r4), ((((Row.holds r8).ext x2).ext x3).ext x4), ((Row.holds r12).ext x4), (((Row.holds r16).ext x3).ext x4)⟩ (by omega) (by omega) (by omega) (by omega)
          clear s1 s2 s3 s4 hs0
          go_wp2_with fail
          refine bodyPost_ret (results_row_tmp rfl _ _ (w.heap.size + 1) 29 _ (0, 0) _ rfl (setRow_heap _ _ _ _ _ _ gR) Tryz.underlying29 rfl (by kernel_rfl)) rfl ⟨⟨some ⟨W3.heap.size, 0, none⟩, n1, some ⟨W0.heap.size, 0, none⟩, n2, some ⟨W2.heap.size, 0, none⟩, n3, some ⟨W1.heap.size, 0, none⟩, n4⟩, by rfl, hold.1 _, hold.2.1 _, ⟨.inr hold.2.2.1, .inr hold.2.2.2.1, .inr hold.2.2.2.2.1, .inr hold.2.2.2.2.2⟩⟩
  · refine step_make (mk := Value.int .u16) rfl (.tmp 19) (.tmp 19) 27 rfl 59 iw 0 2 Tryz.underlying27 hiw0 hiw1 hiw2 hiw3 rfl n3 rfl rfl (by omega) (by decide) 20 rfl (fun W1 r12 x1 s1 => ?_)
    refine hK.out _ _ (x1.block hs) (fun hs => ?_)
    clear hK K
    simp only [Act.put, tkA, tkB, tkC]
    refine wpAnyH_ready (rs := [4, 8, 16]) (by kernel_rfl) (by simp) (AllReadyH.cons rfl (fun K hK => ?_) (AllReadyH.cons rfl (fun K hK => ?_) (AllReadyH.cons rfl (fun K hK => ?_) (AllReadyH.nil))))
    · refine step_make (mk := Value.bool) rfl (.tmp 11) (.tmp 11) 26 rfl 4 ib false 1 Tryz.underlying26 hib0 hib1 hib2 hib3 rfl n1 rfl rfl (by omega) (by decide) 12 rfl (fun W2 r4 x2 s2 => ?_)
      refine hK.out _ _ (x2.block hs) (fun hs => ?_)
      clear hK K
      simp only [Act.put, tkA, tkB, tkC]
      refine wpAnyH_ready (rs := [8, 16]) (by kernel_rfl) (by simp) (AllReadyH.cons rfl (fun K hK => ?_) (AllReadyH.cons rfl (fun K hK => ?_) (AllReadyH.nil)))
      · refine step_make (mk := Value.bool) rfl (.tmp 15) (.tmp 15) 26 rfl 4 ib false 1 Tryz.underlying26 hib0 hib1 hib2 hib3 rfl n2 rfl rfl (by omega) (by decide) 16 rfl (fun W3 r8 x3 s3 => ?_)
        refine hK.out _ _ (x3.block hs) (fun hs => ?_)
        clear hK K
        simp only [Act.put, tkA, tkB, tkC]
        refine wpAnyH_ready (rs := [16]) (by kernel_rfl) (by simp) (AllReadyH.cons rfl (fun K hK => ?_) (AllReadyH.nil))
        · refine step_make (mk := Value.int .u16) rfl (.tmp 23) (.tmp 23) 27 rfl 59 iw 0 2 Tryz.underlying27 hiw0 hiw1 hiw2 hiw3 rfl n4 rfl rfl (by omega) (by decide) 24 rfl (fun W4 r16 x4 s4 => ?_)
          refine hK.out _ _ (x4.block hs) (fun hs => ?_)
          clear hK K
          simp only [Act.put, tkA, tkB, tkC]
          have gR := x4.block (x3.block (x2.block (x1.block hR)))
          refine tkG 17 25 (.agg #[.int .i64 cf, .int .i64 n1, .int .i64 jf, .int .i64 n2, .int .i64 hf, .int .i64 n3, .int .i64 rf, .int .i64 n4, .int .i64 bf, .int .i64 bc, .slice (some ⟨W1.heap.size, 0, none⟩) n1 n1, .slice (some ⟨W2.heap.size, 0, none⟩) n2 n2, .slice (some ⟨W0.heap.size, 0, none⟩) n3 n3, .slice (some ⟨W3.heap.size, 0, none⟩) n4 n4]) hs ?_
          simp only [Act.put, tkA, tkB, tkC]
          refine wpAnyH_ready (rs := [18]) (by kernel_rfl) (by simp) (AllReadyH.cons rfl (fun K hK => ?_) AllReadyH.nil)
          refine step_store_row rfl 29 (.tmp 2) (.tmp 25) rfl (w.heap.size + 1) _ rfl rfl 29 _ gR (by kernel_rfl) rfl (by simp [Value.oneCell']) rfl ?_
          refine hK.out _ _ ((setRow_other _ _ _ _ (by omega)).trans hs) (fun hs => ?_)
          clear hK K
          simp only [Act.put]
          refine tkG 19 3 (.int .i64 0) hs ?_
          simp only [Act.put, tkA, tkB, tkC]
          refine wpAnyH_done (by kernel_rfl) ?_ _
          have hold := HEnd.out W0 W4 W1.heap.size W2.heap.size W0.heap.size W3.heap.size hx0 hs0 (((x1.trans x2).trans x3).trans x4) ⟨(((Row.holds r4).ext x3).ext x4), ((Row.holds r8).ext x4), ((((Row.holds r12).ext x2).ext x3).ext x4), (Row.holds r16)⟩ (by omega) (by omega) (by omega) (by omega)
          clear s1 s2 s3 s4 hs0
          go_wp2_with fail
          refine bodyPost_ret (results_row_tmp rfl _ _ (w.heap.size + 1) 29 _ (0, 0) _ rfl (setRow_heap _ _ _ _ _ _ gR) Tryz.underlying29 rfl (by kernel_rfl)) rfl ⟨⟨some ⟨W1.heap.size, 0, none⟩, n1, some ⟨W2.heap.size, 0, none⟩, n2, some ⟨W0.heap.size, 0, none⟩, n3, some ⟨W3.heap.size, 0, none⟩, n4⟩, by rfl, hold.1 _, hold.2.1 _, ⟨.inr hold.2.2.1, .inr hold.2.2.2.1, .inr hold.2.2.2.2.1, .inr hold.2.2.2.2.2⟩⟩
      · refine step_make (mk := Value.int .u16) rfl (.tmp 23) (.tmp 23) 27 rfl 59 iw 0 2 Tryz.underlying27 hiw0 hiw1 hiw2 hiw3 rfl n4 rfl rfl (by omega) (by decide) 24 rfl (fun W3 r16 x3 s3 => ?_)
        refine hK.out _ _ (x3.block hs) (fun hs => ?_)
        clear hK K
        simp only [Act.put, tkA, tkB, tkC]
        refine wpAnyH_ready (rs := [8]) (by kernel_rfl) (by simp) (AllReadyH.cons rfl (fun K hK => ?_) (AllReadyH.nil))
        · refine step_make (mk := Value.bool) rfl (.tmp 15) (.tmp 15) 26 rfl 4 ib false 1 Tryz.underlying26 hib0 hib1 hib2 hib3 rfl n2 rfl rfl (by omega) (by decide) 16 rfl (fun W4 r8 x4 s4 => ?_)
          refine hK.out _ _ (x4.block hs) (fun hs => ?_)
          clear hK K
          simp only [Act.put, tkA, tkB, tkC]
          have gR := x4.block (x3.block (x2.block (x1.block hR)))
          refine tkG 17 25 (.agg #[.int .i64 cf, .int .i64 n1, .int .i64 jf, .int .i64 n2, .int .i64 hf, .int .i64 n3, .int .i64 rf, .int .i64 n4, .int .i64 bf, .int .i64 bc, .slice (some ⟨W1.heap.size, 0, none⟩) n1 n1, .slice (some ⟨W3.heap.size, 0, none⟩) n2 n2, .slice (some ⟨W0.heap.size, 0, none⟩) n3 n3, .slice (some ⟨W2.heap.size, 0, none⟩) n4 n4]) hs ?_
          simp only [Act.put, tkA, tkB, tkC]
          refine wpAnyH_ready (rs := [18]) (by kernel_rfl) (by simp) (AllReadyH.cons rfl (fun K hK => ?_) AllReadyH.nil)
          refine step_store_row rfl 29 (.tmp 2) (.tmp 25) rfl (w.heap.size + 1) _ rfl rfl 29 _ gR (by kernel_rfl) rfl (by simp [Value.oneCell']) rfl ?_
          refine hK.out _ _ ((setRow_other _ _ _ _ (by omega)).trans hs) (fun hs => ?_)
          clear hK K
          simp only [Act.put]
          refine tkG 19 3 (.int .i64 0) hs ?_
          simp only [Act.put, tkA, tkB, tkC]
          refine wpAnyH_done (by kernel_rfl) ?_ _
          have hold := HEnd.out W0 W4 W1.heap.size W3.heap.size W0.heap.size W2.heap.size hx0 hs0 (((x1.trans x2).trans x3).trans x4) ⟨(((Row.holds r4).ext x3).ext x4), (Row.holds r8), ((((Row.holds r12).ext x2).ext x3).ext x4), ((Row.holds r16).ext x4)⟩ (by omega) (by omega) (by omega) (by omega)
          clear s1 s2 s3 s4 hs0
          go_wp2_with fail
          refine bodyPost_ret (results_row_tmp rfl _ _ (w.heap.size + 1) 29 _ (0, 0) _ rfl (setRow_heap _ _ _ _ _ _ gR) Tryz.underlying29 rfl (by kernel_rfl)) rfl ⟨⟨some ⟨W1.heap.size, 0, none⟩, n1, some ⟨W3.heap.size, 0, none⟩, n2, some ⟨W0.heap.size, 0, none⟩, n3, some ⟨W2.heap.size, 0, none⟩, n4⟩, by rfl, hold.1 _, hold.2.1 _, ⟨.inr hold.2.2.1, .inr hold.2.2.2.1, .inr hold.2.2.2.2.1, .inr hold.2.2.2.2.2⟩⟩
    · refine step_make (mk := Value.bool) rfl (.tmp 15) (.tmp 15) 26 rfl 4 ib false 1 Tryz.underlying26 hib0 hib1 hib2 hib3 rfl n2 rfl rfl (by omega) (by decide) 16 rfl (fun W2 r8 x2 s2 => ?_)
      refine hK.out _ _ (x2.block hs) (fun hs => ?_)
      clear hK K
      simp only [Act.put, tkA, tkB, tkC]
      refine wpAnyH_ready (rs := [4, 16]) (by kernel_rfl) (by simp) (AllReadyH.cons rfl (fun K hK => ?_) (AllReadyH.cons rfl (fun K hK => ?_) (AllReadyH.nil)))
      · refine step_make (mk := Value.bool) rfl (.tmp 11) (.tmp 11) 26 rfl 4 ib false 1 Tryz.underlying26 hib0 hib1 hib2 hib3 rfl n1 rfl rfl (by omega) (by decide) 12 rfl (fun W3 r4 x3 s3 => ?_)
        refine hK.out _ _ (x3.block hs) (fun hs => ?_)
        clear hK K
        simp only [Act.put, tkA, tkB, tkC]
        refine wpAnyH_ready (rs := [16]) (by kernel_rfl) (by simp) (AllReadyH.cons rfl (fun K hK => ?_) (AllReadyH.nil))
        · refine step_make (mk := Value.int .u16) rfl (.tmp 23) (.tmp 23) 27 rfl 59 iw 0 2 Tryz.underlying27 hiw0 hiw1 hiw2 hiw3 rfl n4 rfl rfl (by omega) (by decide) 24 rfl (fun W4 r16 x4 s4 => ?_)
          refine hK.out _ _ (x4.block hs) (fun hs => ?_)
          clear hK K
          simp only [Act.put, tkA, tkB, tkC]
          have gR := x4.block (x3.block (x2.block (x1.block hR)))
          refine tkG 17 25 (.agg #[.int .i64 cf, .int .i64 n1, .int .i64 jf, .int .i64 n2, .int .i64 hf, .int .i64 n3, .int .i64 rf, .int .i64 n4, .int .i64 bf, .int .i64 bc, .slice (some ⟨W2.heap.size, 0, none⟩) n1 n1, .slice (some ⟨W1.heap.size, 0, none⟩) n2 n2, .slice (some ⟨W0.heap.size, 0, none⟩) n3 n3, .slice (some ⟨W3.heap.size, 0, none⟩) n4 n4]) hs ?_
          simp only [Act.put, tkA, tkB, tkC]
          refine wpAnyH_ready (rs := [18]) (by kernel_rfl) (by simp) (AllReadyH.cons rfl (fun K hK => ?_) AllReadyH.nil)
          refine step_store_row rfl 29 (.tmp 2) (.tmp 25) rfl (w.heap.size + 1) _ rfl rfl 29 _ gR (by kernel_rfl) rfl (by simp [Value.oneCell']) rfl ?_
          refine hK.out _ _ ((setRow_other _ _ _ _ (by omega)).trans hs) (fun hs => ?_)
          clear hK K
          simp only [Act.put]
          refine tkG 19 3 (.int .i64 0) hs ?_
          simp only [Act.put, tkA, tkB, tkC]
          refine wpAnyH_done (by kernel_rfl) ?_ _
          have hold := HEnd.out W0 W4 W2.heap.size W1.heap.size W0.heap.size W3.heap.size hx0 hs0 (((x1.trans x2).trans x3).trans x4) ⟨((Row.holds r4).ext x4), (((Row.holds r8).ext x3).ext x4), ((((Row.holds r12).ext x2).ext x3).ext x4), (Row.holds r16)⟩ (by omega) (by omega) (by omega) (by omega)
          clear s1 s2 s3 s4 hs0
          go_wp2_with fail
          refine bodyPost_ret (results_row_tmp rfl _ _ (w.heap.size + 1) 29 _ (0, 0) _ rfl (setRow_heap _ _ _ _ _ _ gR) Tryz.underlying29 rfl (by kernel_rfl)) rfl ⟨⟨some ⟨W2.heap.size, 0, none⟩, n1, some ⟨W1.heap.size, 0, none⟩, n2, some ⟨W0.heap.size, 0, none⟩, n3, some ⟨W3.heap.size, 0, none⟩, n4⟩, by rfl, hold.1 _, hold.2.1 _, ⟨.inr hold.2.2.1, .inr hold.2.2.2.1, .inr hold.2.2.2.2.1, .inr hold.2.2.2.2.2⟩⟩
      · refine step_make (mk := Value.int .u16) rfl (.tmp 23) (.tmp 23) 27 rfl 59 iw 0 2 Tryz.underlying27 hiw0 hiw1 hiw2 hiw3 rfl n4 rfl rfl (by omega) (by decide) 24 rfl (fun W3 r16 x3 s3 => ?_)
        refine hK.out _ _ (x3.block hs) (fun hs => ?_)
        clear hK K
        simp only [Act.put, tkA, tkB, tkC]
        refine wpAnyH_ready (rs := [4]) (by kernel_rfl) (by simp) (AllReadyH.cons rfl (fun K hK => ?_) (AllReadyH.nil))
        · refine step_make (mk := Value.bool) rfl (.tmp 11) (.tmp 11) 26 rfl 4 ib false 1 Tryz.underlying26 hib0 hib1 hib2 hib3 rfl n1 rfl rfl (by omega) (by decide) 12 rfl (fun W4 r4 x4 s4 => ?_)
          refine hK.out _ _ (x4.block hs) (fun hs => ?_)
          clear hK K
          simp only [Act.put, tkA, tkB, tkC]
          have gR := x4.block (x3.block (x2.block (x1.block hR)))
          refine tkG 17 25 (.agg #[.int .i64 cf, .int .i64 n1, .int .i64 jf, .int .i64 n2, .int .i64 hf, .int .i64 n3, .int .i64 rf, .int .i64 n4, .int .i64 bf, .int .i64 bc, .slice (some ⟨W3.heap.size, 0, none⟩) n1 n1, .slice (some ⟨W1.heap.size, 0, none⟩) n2 n2, .slice (some ⟨W0.heap.size, 0, none⟩) n3 n3, .slice (some ⟨W2.heap.size, 0, none⟩) n4 n4]) hs ?_
          simp only [Act.put, tkA, tkB, tkC]
          refine wpAnyH_ready (rs := [18]) (by kernel_rfl) (by simp) (AllReadyH.cons rfl (fun K hK => ?_) AllReadyH.nil)
          refine step_store_row rfl 29 (.tmp 2) (.tmp 25) rfl (w.heap.size + 1) _ rfl rfl 29 _ gR (by kernel_rfl) rfl (by simp [Value.oneCell']) rfl ?_
          refine hK.out _ _ ((setRow_other _ _ _ _ (by omega)).trans hs) (fun hs => ?_)
          clear hK K
          simp only [Act.put]
          refine tkG 19 3 (.int .i64 0) hs ?_
          simp only [Act.put, tkA, tkB, tkC]
          refine wpAnyH_done (by kernel_rfl) ?_ _
          have hold := HEnd.out W0 W4 W3.heap.size W1.heap.size W0.heap.size W2.heap.size hx0 hs0 (((x1.trans x2).trans x3).trans x4) ⟨(Row.holds r4), (((Row.holds r8).ext x3).ext x4), ((((Row.holds r12).ext x2).ext x3).ext x4), ((Row.holds r16).ext x4)⟩ (by omega) (by omega) (by omega) (by omega)
          clear s1 s2 s3 s4 hs0
          go_wp2_with fail
          refine bodyPost_ret (results_row_tmp rfl _ _ (w.heap.size + 1) 29 _ (0, 0) _ rfl (setRow_heap _ _ _ _ _ _ gR) Tryz.underlying29 rfl (by kernel_rfl)) rfl ⟨⟨some ⟨W3.heap.size, 0, none⟩, n1, some ⟨W1.heap.size, 0, none⟩, n2, some ⟨W0.heap.size, 0, none⟩, n3, some ⟨W2.heap.size, 0, none⟩, n4⟩, by rfl, hold.1 _, hold.2.1 _, ⟨.inr hold.2.2.1, .inr hold.2.2.2.1, .inr hold.2.2.2.2.1, .inr hold.2.2.2.2.2⟩⟩
    · refine step_make (mk := Value.int .u16) rfl (.tmp 23) (.tmp 23) 27 rfl 59 iw 0 2 Tryz.underlying27 hiw0 hiw1 hiw2 hiw3 rfl n4 rfl rfl (by omega) (by decide) 24 rfl (fun W2 r16 x2 s2 => ?_)
      refine hK.out _ _ (x2.block hs) (fun hs => ?_)
      clear hK K
      simp only [Act.put, tkA, tkB, tkC]
      refine wpAnyH_ready (rs := [4, 8]) (by kernel_rfl) (by simp) (AllReadyH.cons rfl (fun K hK => ?_) (AllReadyH.cons rfl (fun K hK => ?_) (AllReadyH.nil)))
      · refine step_make (mk := Value.bool) rfl (.tmp 11) (.tmp 11) 26 rfl 4 ib false 1 Tryz.underlying26 hib0 hib1 hib2 hib3 rfl n1 rfl rfl (by omega) (by decide) 12 rfl (fun W3 r4 x3 s3 => ?_)
        refine hK.out _ _ (x3.block hs) (fun hs => ?_)
        clear hK K
        simp only [Act.put, tkA, tkB, tkC]
        refine wpAnyH_ready (rs := [8]) (by kernel_rfl) (by simp) (AllReadyH.cons rfl (fun K hK => ?_) (AllReadyH.nil))
        · refine step_make (mk := Value.bool) rfl (.tmp 15) (.tmp 15) 26 rfl 4 ib false 1 Tryz.underlying26 hib0 hib1 hib2 hib3 rfl n2 rfl rfl (by omega) (by decide) 16 rfl (fun W4 r8 x4 s4 => ?_)
          refine hK.out _ _ (x4.block hs) (fun hs => ?_)
          clear hK K
          simp only [Act.put, tkA, tkB, tkC]
          have gR := x4.block (x3.block (x2.block (x1.block hR)))
          refine tkG 17 25 (.agg #[.int .i64 cf, .int .i64 n1, .int .i64 jf, .int .i64 n2, .int .i64 hf, .int .i64 n3, .int .i64 rf, .int .i64 n4, .int .i64 bf, .int .i64 bc, .slice (some ⟨W2.heap.size, 0, none⟩) n1 n1, .slice (some ⟨W3.heap.size, 0, none⟩) n2 n2, .slice (some ⟨W0.heap.size, 0, none⟩) n3 n3, .slice (some ⟨W1.heap.size, 0, none⟩) n4 n4]) hs ?_
          simp only [Act.put, tkA, tkB, tkC]
          refine wpAnyH_ready (rs := [18]) (by kernel_rfl) (by simp) (AllReadyH.cons rfl (fun K hK => ?_) AllReadyH.nil)
          refine step_store_row rfl 29 (.tmp 2) (.tmp 25) rfl (w.heap.size + 1) _ rfl rfl 29 _ gR (by kernel_rfl) rfl (by simp [Value.oneCell']) rfl ?_
          refine hK.out _ _ ((setRow_other _ _ _ _ (by omega)).trans hs) (fun hs => ?_)
          clear hK K
          simp only [Act.put]
          refine tkG 19 3 (.int .i64 0) hs ?_
          simp only [Act.put, tkA, tkB, tkC]
          refine wpAnyH_done (by kernel_rfl) ?_ _
          have hold := HEnd.out W0 W4 W2.heap.size W3.heap.size W0.heap.size W1.heap.size hx0 hs0 (((x1.trans x2).trans x3).trans x4) ⟨((Row.holds r4).ext x4), (Row.holds r8), ((((Row.holds r12).ext x2).ext x3).ext x4), (((Row.holds r16).ext x3).ext x4)⟩ (by omega) (by omega) (by omega) (by omega)
          clear s1 s2 s3 s4 hs0
          go_wp2_with fail
          refine bodyPost_ret (results_row_tmp rfl _ _ (w.heap.size + 1) 29 _ (0, 0) _ rfl (setRow_heap _ _ _ _ _ _ gR) Tryz.underlying29 rfl (by kernel_rfl)) rfl ⟨⟨some ⟨W2.heap.size, 0, none⟩, n1, some ⟨W3.heap.size, 0, none⟩, n2, some ⟨W0.heap.size, 0, none⟩, n3, some ⟨W1.heap.size, 0, none⟩, n4⟩, by rfl, hold.1 _, hold.2.1 _, ⟨.inr hold.2.2.1, .inr hold.2.2.2.1, .inr hold.2.2.2.2.1, .inr hold.2.2.2.2.2⟩⟩
      · refine step_make (mk := Value.bool) rfl (.tmp 15) (.tmp 15) 26 rfl 4 ib false 1 Tryz.underlying26 hib0 hib1 hib2 hib3 rfl n2 rfl rfl (by omega) (by decide) 16 rfl (fun W3 r8 x3 s3 => ?_)
        refine hK.out _ _ (x3.block hs) (fun hs => ?_)
        clear hK K
        simp only [Act.put, tkA, tkB, tkC]
        refine wpAnyH_ready (rs := [4]) (by kernel_rfl) (by simp) (AllReadyH.cons rfl (fun K hK => ?_) (AllReadyH.nil))
        · refine step_make (mk := Value.bool) rfl (.tmp 11) (.tmp 11) 26 rfl 4 ib false 1 Tryz.underlying26 hib0 hib1 hib2 hib3 rfl n1 rfl rfl (by omega) (by decide) 12 rfl (fun W4 r4 x4 s4 => ?_)
          refine hK.out _ _ (x4.block hs) (fun hs => ?_)
          clear hK K
          simp only [Act.put, tkA, tkB, tkC]
          have gR := x4.block (x3.block (x2.block (x1.block hR)))
          refine tkG 17 25 (.agg #[.int .i64 cf, .int .i64 n1, .int .i64 jf, .int .i64 n2, .int .i64 hf, .int .i64 n3, .int .i64 rf, .int .i64 n4, .int .i64 bf, .int .i64 bc, .slice (some ⟨W3.heap.size, 0, none⟩) n1 n1, .slice (some ⟨W2.heap.size, 0, none⟩) n2 n2, .slice (some ⟨W0.heap.size, 0, none⟩) n3 n3, .slice (some ⟨W1.heap.size, 0, none⟩) n4 n4]) hs ?_
          simp only [Act.put, tkA, tkB, tkC]
          refine wpAnyH_ready (rs := [18]) (by kernel_rfl) (by simp) (AllReadyH.cons rfl (fun K hK => ?_) AllReadyH.nil)
          refine step_store_row rfl 29 (.tmp 2) (.tmp 25) rfl (w.heap.size + 1) _ rfl rfl 29 _ gR (by kernel_rfl) rfl (by simp [Value.oneCell']) rfl ?_
          refine hK.out _ _ ((setRow_other _ _ _ _ (by omega)).trans hs) (fun hs => ?_)
          clear hK K
          simp only [Act.put]
          refine tkG 19 3 (.int .i64 0) hs ?_
          simp only [Act.put, tkA, tkB, tkC]
          refine wpAnyH_done (by kernel_rfl) ?_ _
          have hold := HEnd.out W0 W4 W3.heap.size W2.heap.size W0.heap.size W1.heap.size hx0 hs0 (((x1.trans x2).trans x3).trans x4) ⟨(Row.holds r4), ((Row.holds r8).ext x4), ((((Row.holds r12).ext x2).ext x3).ext x4), (((Row.holds r16).ext x3).ext x4)⟩ (by omega) (by omega) (by omega) (by omega)
          clear s1 s2 s3 s4 hs0
          go_wp2_with fail
          refine bodyPost_ret (results_row_tmp rfl _ _ (w.heap.size + 1) 29 _ (0, 0) _ rfl (setRow_heap _ _ _ _ _ _ gR) Tryz.underlying29 rfl (by kernel_rfl)) rfl ⟨⟨some ⟨W3.heap.size, 0, none⟩, n1, some ⟨W2.heap.size, 0, none⟩, n2, some ⟨W0.heap.size, 0, none⟩, n3, some ⟨W1.heap.size, 0, none⟩, n4⟩, by rfl, hold.1 _, hold.2.1 _, ⟨.inr hold.2.2.1, .inr hold.2.2.2.1, .inr hold.2.2.2.2.1, .inr hold.2.2.2.2.2⟩⟩
  · refine step_make (mk := Value.int .u16) rfl (.tmp 23) (.tmp 23) 27 rfl 59 iw 0 2 Tryz.underlying27 hiw0 hiw1 hiw2 hiw3 rfl n4 rfl rfl (by omega) (by decide) 24 rfl (fun W1 r16 x1 s1 => ?_)
    refine hK.out _ _ (x1.block hs) (fun hs => ?_)
    clear hK K
    simp only [Act.put, tkA, tkB, tkC]
    refine wpAnyH_ready (rs := [4, 8, 12]) (by kernel_rfl) (by simp) (AllReadyH.cons rfl (fun K hK => ?_) (AllReadyH.cons rfl (fun K hK => ?_) (AllReadyH.cons rfl (fun K hK => ?_) (AllReadyH.nil))))
    · refine step_make (mk := Value.bool) rfl (.tmp 11) (.tmp 11) 26 rfl 4 ib false 1 Tryz.underlying26 hib0 hib1 hib2 hib3 rfl n1 rfl rfl (by omega) (by decide) 12 rfl (fun W2 r4 x2 s2 => ?_)
      refine hK.out _ _ (x2.block hs) (fun hs => ?_)
      clear hK K
      simp only [Act.put, tkA, tkB, tkC]
      refine wpAnyH_ready (rs := [8, 12]) (by kernel_rfl) (by simp) (AllReadyH.cons rfl (fun K hK => ?_) (AllReadyH.cons rfl (fun K hK => ?_) (AllReadyH.nil)))
      · refine step_make (mk := Value.bool) rfl (.tmp 15) (.tmp 15) 26 rfl 4 ib false 1 Tryz.underlying26 hib0 hib1 hib2 hib3 rfl n2 rfl rfl (by omega) (by decide) 16 rfl (fun W3 r8 x3 s3 => ?_)
        refine hK.out _ _ (x3.block hs) (fun hs => ?_)
        clear hK K
        simp only [Act.put, tkA, tkB, tkC]
        refine wpAnyH_ready (rs := [12]) (by kernel_rfl) (by simp) (AllReadyH.cons rfl (fun K hK => ?_) (AllReadyH.nil))
        · refine step_make (mk := Value.int .u16) rfl (.tmp 19) (.tmp 19) 27 rfl 59 iw 0 2 Tryz.underlying27 hiw0 hiw1 hiw2 hiw3 rfl n3 rfl rfl (by omega) (by decide) 20 rfl (fun W4 r12 x4 s4 => ?_)
          refine hK.out _ _ (x4.block hs) (fun hs => ?_)
          clear hK K
          simp only [Act.put, tkA, tkB, tkC]
          have gR := x4.block (x3.block (x2.block (x1.block hR)))
          refine tkG 17 25 (.agg #[.int .i64 cf, .int .i64 n1, .int .i64 jf, .int .i64 n2, .int .i64 hf, .int .i64 n3, .int .i64 rf, .int .i64 n4, .int .i64 bf, .int .i64 bc, .slice (some ⟨W1.heap.size, 0, none⟩) n1 n1, .slice (some ⟨W2.heap.size, 0, none⟩) n2 n2, .slice (some ⟨W3.heap.size, 0, none⟩) n3 n3, .slice (some ⟨W0.heap.size, 0, none⟩) n4 n4]) hs ?_
          simp only [Act.put, tkA, tkB, tkC]
          refine wpAnyH_ready (rs := [18]) (by kernel_rfl) (by simp) (AllReadyH.cons rfl (fun K hK => ?_) AllReadyH.nil)
          refine step_store_row rfl 29 (.tmp 2) (.tmp 25) rfl (w.heap.size + 1) _ rfl rfl 29 _ gR (by kernel_rfl) rfl (by simp [Value.oneCell']) rfl ?_
          refine hK.out _ _ ((setRow_other _ _ _ _ (by omega)).trans hs) (fun hs => ?_)
          clear hK K
          simp only [Act.put]
          refine tkG 19 3 (.int .i64 0) hs ?_
          simp only [Act.put, tkA, tkB, tkC]
          refine wpAnyH_done (by kernel_rfl) ?_ _
          have hold := HEnd.out W0 W4 W1.heap.size W2.heap.size W3.heap.size W0.heap.size hx0 hs0 (((x1.trans x2).trans x3).trans x4) ⟨(((Row.holds r4).ext x3).ext x4), ((Row.holds r8).ext x4), (Row.holds r12), ((((Row.holds r16).ext x2).ext x3).ext x4)⟩ (by omega) (by omega) (by omega) (by omega)
          clear s1 s2 s3 s4 hs0
          go_wp2_with fail
          refine bodyPost_ret (results_row_tmp rfl _ _ (w.heap.size + 1) 29 _ (0, 0) _ rfl (setRow_heap _ _ _ _ _ _ gR) Tryz.underlying29 rfl (by kernel_rfl)) rfl ⟨⟨some ⟨W1.heap.size, 0, none⟩, n1, some ⟨W2.heap.size, 0, none⟩, n2, some ⟨W3.heap.size, 0, none⟩, n3, some ⟨W0.heap.size, 0, none⟩, n4⟩, by rfl, hold.1 _, hold.2.1 _, ⟨.inr hold.2.2.1, .inr hold.2.2.2.1, .inr hold.2.2.2.2.1, .inr hold.2.2.2.2.2⟩⟩
      · refine step_make (mk := Value.int .u16) rfl (.tmp 19) (.tmp 19) 27 rfl 59 iw 0 2 Tryz.underlying27 hiw0 hiw1 hiw2 hiw3 rfl n3 rfl rfl (by omega) (by decide) 20 rfl (fun W3 r12 x3 s3 => ?_)
        refine hK.out _ _ (x3.block hs) (fun hs => ?_)
        clear hK K
        simp only [Act.put, tkA, tkB, tkC]
        refine wpAnyH_ready (rs := [8]) (by kernel_rfl) (by simp) (AllReadyH.cons rfl (fun K hK => ?_) (AllReadyH.nil))
        · refine step_make (mk := Value.bool) rfl (.tmp 15) (.tmp 15) 26 rfl 4 ib false 1 Tryz.underlying26 hib0 hib1 hib2 hib3 rfl n2 rfl rfl (by omega) (by decide) 16 rfl (fun W4 r8 x4 s4 => ?_)
          refine hK.out _ _ (x4.block hs) (fun hs => ?_)
          clear hK K
          simp only [Act.put, tkA, tkB, tkC]
          have gR := x4.block (x3.block (x2.block (x1.block hR)))
          refine tkG 17 25 (.agg #[.int .i64 cf, .int .i64 n1, .int .i64 jf, .int .i64 n2, .int .i64 hf, .int .i64 n3, .int .i64 rf, .int .i64 n4, .int .i64 bf, .int .i64 bc, .slice (some ⟨W1.heap.size, 0, none⟩) n1 n1, .slice (some ⟨W3.heap.size, 0, none⟩) n2 n2, .slice (some ⟨W2.heap.size, 0, none⟩) n3 n3, .slice (some ⟨W0.heap.size, 0, none⟩) n4 n4]) hs ?_
          simp only [Act.put, tkA, tkB, tkC]
          refine wpAnyH_ready (rs := [18]) (by kernel_rfl) (by simp) (AllReadyH.cons rfl (fun K hK => ?_) AllReadyH.nil)
          refine step_store_row rfl 29 (.tmp 2) (.tmp 25) rfl (w.heap.size + 1) _ rfl rfl 29 _ gR (by kernel_rfl) rfl (by simp [Value.oneCell']) rfl ?_
          refine hK.out _ _ ((setRow_other _ _ _ _ (by omega)).trans hs) (fun hs => ?_)
          clear hK K
          simp only [Act.put]
          refine tkG 19 3 (.int .i64 0) hs ?_
          simp only [Act.put, tkA, tkB, tkC]
          refine wpAnyH_done (by kernel_rfl) ?_ _
          have hold := HEnd.out W0 W4 W1.heap.size W3.heap.size W2.heap.size W0.heap.size hx0 hs0 (((x1.trans x2).trans x3).trans x4) ⟨(((Row.holds r4).ext x3).ext x4), (Row.holds r8), ((Row.holds r12).ext x4), ((((Row.holds r16).ext x2).ext x3).ext x4)⟩ (by omega) (by omega) (by omega) (by omega)
          clear s1 s2 s3 s4 hs0
          go_wp2_with fail
          refine bodyPost_ret (results_row_tmp rfl _ _ (w.heap.size + 1) 29 _ (0, 0) _ rfl (setRow_heap _ _ _ _ _ _ gR) Tryz.underlying29 rfl (by kernel_rfl)) rfl ⟨⟨some ⟨W1.heap.size, 0, none⟩, n1, some ⟨W3.heap.size, 0, none⟩, n2, some ⟨W2.heap.size, 0, none⟩, n3, some ⟨W0.heap.size, 0, none⟩, n4⟩, by rfl, hold.1 _, hold.2.1 _, ⟨.inr hold.2.2.1, .inr hold.2.2.2.1, .inr hold.2.2.2.2.1, .inr hold.2.2.2.2.2⟩⟩
    · refine step_make (mk := Value.bool) rfl (.tmp 15) (.tmp 15) 26 rfl 4 ib false 1 Tryz.underlying26 hib0 hib1 hib2 hib3 rfl n2 rfl rfl (by omega) (by decide) 16 rfl (fun W2 r8 x2 s2 => ?_)
      refine hK.out _ _ (x2.block hs) (fun hs => ?_)
      clear hK K
      simp only [Act.put, tkA, tkB, tkC]
      refine wpAnyH_ready (rs := [4, 12]) (by kernel_rfl) (by simp) (AllReadyH.cons rfl (fun K hK => ?_) (AllReadyH.cons rfl (fun K hK => ?_) (AllReadyH.nil)))
      · refine step_make (mk := Value.bool) rfl (.tmp 11) (.tmp 11) 26 rfl 4 ib false 1 Tryz.underlying26 hib0 hib1 hib2 hib3 rfl n1 rfl rfl (by omega) (by decide) 12 rfl (fun W3 r4 x3 s3 => ?_)
        refine hK.out _ _ (x3.block hs) (fun hs => ?_)
        clear hK K
        simp only [Act.put, tkA, tkB, tkC]
        refine wpAnyH_ready (rs := [12]) (by kernel_rfl) (by simp) (AllReadyH.cons rfl (fun K hK => ?_) (AllReadyH.nil))
        · refine step_make (mk := Value.int .u16) rfl (.tmp 19) (.tmp 19) 27 rfl 59 iw 0 2 Tryz.underlying27 hiw0 hiw1 hiw2 hiw3 rfl n3 rfl rfl (by omega) (by decide) 20 rfl (fun W4 r12 x4 s4 => ?_)
          refine hK.out _ _ (x4.block hs) (fun hs => ?_)
          clear hK K
          simp only [Act.put, tkA, tkB, tkC]
          have gR := x4.block (x3.block (x2.block (x1.block hR)))
          refine tkG 17 25 (.agg #[.int .i64 cf, .int .i64 n1, .int .i64 jf, .int .i64 n2, .int .i64 hf, .int .i64 n3, .int .i64 rf, .int .i64 n4, .int .i64 bf, .int .i64 bc, .slice (some ⟨W2.heap.size, 0, none⟩) n1 n1, .slice (some ⟨W1.heap.size, 0, none⟩) n2 n2, .slice (some ⟨W3.heap.size, 0, none⟩) n3 n3, .slice (some ⟨W0.heap.size, 0, none⟩) n4 n4]) hs ?_
          simp only [Act.put, tkA, tkB, tkC]
          refine wpAnyH_ready (rs := [18]) (by kernel_rfl) (by simp) (AllReadyH.cons rfl (fun K hK => ?_) AllReadyH.nil)
          refine step_store_row rfl 29 (.tmp 2) (.tmp 25) rfl (w.heap.size + 1) _ rfl rfl 29 _ gR (by kernel_rfl) rfl (by simp [Value.oneCell']) rfl ?_
          refine hK.out _ _ ((setRow_other _ _ _ _ (by omega)).trans hs) (fun hs => ?_)
          clear hK K
          simp only [Act.put]
          refine tkG 19 3 (.int .i64 0) hs ?_
          simp only [Act.put, tkA, tkB, tkC]
          refine wpAnyH_done (by kernel_rfl) ?_ _
          have hold := HEnd.out W0 W4 W2.heap.size W1.heap.size W3.heap.size W0.heap.size hx0 hs0 (((x1.trans x2).trans x3).trans x4) ⟨((Row.holds r4).ext x4), (((Row.holds r8).ext x3).ext x4), (Row.holds r12), ((((Row.holds r16).ext x2).ext x3).ext x4)⟩ (by omega) (by omega) (by omega) (by omega)
          clear s1 s2 s3 s4 hs0
          go_wp2_with fail
          refine bodyPost_ret (results_row_tmp rfl _ _ (w.heap.size + 1) 29 _ (0, 0) _ rfl (setRow_heap _ _ _ _ _ _ gR) Tryz.underlying29 rfl (by kernel_rfl)) rfl ⟨⟨some ⟨W2.heap.size, 0, none⟩, n1, some ⟨W1.heap.size, 0, none⟩, n2, some ⟨W3.heap.size, 0, none⟩, n3, some ⟨W0.heap.size, 0, none⟩, n4⟩, by rfl, hold.1 _, hold.2.1 _, ⟨.inr hold.2.2.1, .inr hold.2.2.2.1, .inr hold.2.2.2.2.1, .inr hold.2.2.2.2.2⟩⟩
      · refine step_make (mk := Value.int .u16) rfl (.tmp 19) (.tmp 19) 27 rfl 59 iw 0 2 Tryz.underlying27 hiw0 hiw1 hiw2 hiw3 rfl n3 rfl rfl (by omega) (by decide) 20 rfl (fun W3 r12 x3 s3 => ?_)
        refine hK.out _ _ (x3.block hs) (fun hs => ?_)
        clear hK K
        simp only [Act.put, tkA, tkB, tkC]
        refine wpAnyH_ready (rs := [4]) (by kernel_rfl) (by simp) (AllReadyH.cons rfl (fun K hK => ?_) (AllReadyH.nil))
        · refine step_make (mk := Value.bool) rfl (.tmp 11) (.tmp 11) 26 rfl 4 ib false 1 Tryz.underlying26 hib0 hib1 hib2 hib3 rfl n1 rfl rfl (by omega) (by decide) 12 rfl (fun W4 r4 x4 s4 => ?_)
          refine hK.out _ _ (x4.block hs) (fun hs => ?_)
          clear hK K
          simp only [Act.put, tkA, tkB, tkC]
          have gR := x4.block (x3.block (x2.block (x1.block hR)))
          refine tkG 17 25 (.agg #[.int .i64 cf, .int .i64 n1, .int .i64 jf, .int .i64 n2, .int .i64 hf, .int .i64 n3, .int .i64 rf, .int .i64 n4, .int .i64 bf, .int .i64 bc, .slice (some ⟨W3.heap.size, 0, none⟩) n1 n1, .slice (some ⟨W1.heap.size, 0, none⟩) n2 n2, .slice (some ⟨W2.heap.size, 0, none⟩) n3 n3, .slice (some ⟨W0.heap.size, 0, none⟩) n4 n4]) hs ?_
          simp only [Act.put, tkA, tkB, tkC]
          refine wpAnyH_ready (rs := [18]) (by kernel_rfl) (by simp) (AllReadyH.cons rfl (fun K hK => ?_) AllReadyH.nil)
          refine step_store_row rfl 29 (.tmp 2) (.tmp 25) rfl (w.heap.size + 1) _ rfl rfl 29 _ gR (by kernel_rfl) rfl (by simp [Value.oneCell']) rfl ?_
          refine hK.out _ _ ((setRow_other _ _ _ _ (by omega)).trans hs) (fun hs => ?_)
          clear hK K
          simp only [Act.put]
          refine tkG 19 3 (.int .i64 0) hs ?_
          simp only [Act.put, tkA, tkB, tkC]
          refine wpAnyH_done (by kernel_rfl) ?_ _
          have hold := HEnd.out W0 W4 W3.heap.size W1.heap.size W2.heap.size W0.heap.size hx0 hs0 (((x1.trans x2).trans x3).trans x4) ⟨(Row.holds r4), (((Row.holds r8).ext x3).ext x4), ((Row.holds r12).ext x4), ((((Row.holds r16).ext x2).ext x3).ext x4)⟩ (by omega) (by omega) (by omega) (by omega)
          clear s1 s2 s3 s4 hs0
          go_wp2_with fail
          refine bodyPost_ret (results_row_tmp rfl _ _ (w.heap.size + 1) 29 _ (0, 0) _ rfl (setRow_heap _ _ _ _ _ _ gR) Tryz.underlying29 rfl (by kernel_rfl)) rfl ⟨⟨some ⟨W3.heap.size, 0, none⟩, n1, some ⟨W1.heap.size, 0, none⟩, n2, some ⟨W2.heap.size, 0, none⟩, n3, some ⟨W0.heap.size, 0, none⟩, n4⟩, by rfl, hold.1 _, hold.2.1 _, ⟨.inr hold.2.2.1, .inr hold.2.2.2.1, .inr hold.2.2.2.2.1, .inr hold.2.2.2.2.2⟩⟩
    · refine step_make (mk := Value.int .u16) rfl (.tmp 19) (.tmp 19) 27 rfl 59 iw 0 2 Tryz.underlying27 hiw0 hiw1 hiw2 hiw3 rfl n3 rfl rfl (by omega) (by decide) 20 rfl (fun W2 r12 x2 s2 => ?_)
      refine hK.out _ _ (x2.block hs) (fun hs => ?_)
      clear hK K
      simp only [Act.put, tkA, tkB, tkC]
      refine wpAnyH_ready (rs := [4, 8]) (by kernel_rfl) (by simp) (AllReadyH.cons rfl (fun K hK => ?_) (AllReadyH.cons rfl (fun K hK => ?_) (AllReadyH.nil)))
      · refine step_make (mk := Value.bool) rfl (.tmp 11) (.tmp 11) 26 rfl 4 ib false 1 Tryz.underlying26 hib0 hib1 hib2 hib3 rfl n1 rfl rfl (by omega) (by decide) 12 rfl (fun W3 r4 x3 s3 => ?_)
        refine hK.out _ _ (x3.block hs) (fun hs => ?_)
        clear hK K
        simp only [Act.put, tkA, tkB, tkC]
        refine wpAnyH_ready (rs := [8]) (by kernel_rfl) (by simp) (AllReadyH.cons rfl (fun K hK => ?_) (AllReadyH.nil))
        · refine step_make (mk := Value.bool) rfl (.tmp 15) (.tmp 15) 26 rfl 4 ib false 1 Tryz.underlying26 hib0 hib1 hib2 hib3 rfl n2 rfl rfl (by omega) (by decide) 16 rfl (fun W4 r8 x4 s4 => ?_)
          refine hK.out _ _ (x4.block hs) (fun hs => ?_)
          clear hK K
          simp only [Act.put, tkA, tkB, tkC]
          have gR := x4.block (x3.block (x2.block (x1.block hR)))
          refine tkG 17 25 (.agg #[.int .i64 cf, .int .i64 n1, .int .i64 jf, .int .i64 n2, .int .i64 hf, .int .i64 n3, .int .i64 rf, .int .i64 n4, .int .i64 bf, .int .i64 bc, .slice (some ⟨W2.heap.size, 0, none⟩) n1 n1, .slice (some ⟨W3.heap.size, 0, none⟩) n2 n2, .slice (some ⟨W1.heap.size, 0, none⟩) n3 n3, .slice (some ⟨W0.heap.size, 0, none⟩) n4 n4]) hs ?_
          simp only [Act.put, tkA, tkB, tkC]
          refine wpAnyH_ready (rs := [18]) (by kernel_rfl) (by simp) (AllReadyH.cons rfl (fun K hK => ?_) AllReadyH.nil)
          refine step_store_row rfl 29 (.tmp 2) (.tmp 25) rfl (w.heap.size + 1) _ rfl rfl 29 _ gR (by kernel_rfl) rfl (by simp [Value.oneCell']) rfl ?_
          refine hK.out _ _ ((setRow_other _ _ _ _ (by omega)).trans hs) (fun hs => ?_)
          clear hK K
          simp only [Act.put]
          refine tkG 19 3 (.int .i64 0) hs ?_
          simp only [Act.put, tkA, tkB, tkC]
          refine wpAnyH_done (by kernel_rfl) ?_ _
          have hold := HEnd.out W0 W4 W2.heap.size W3.heap.size W1.heap.size W0.heap.size hx0 hs0 (((x1.trans x2).trans x3).trans x4) ⟨((Row.holds r4).ext x4), (Row.holds r8), (((Row.holds r12).ext x3).ext x4), ((((Row.holds r16).ext x2).ext x3).ext x4)⟩ (by omega) (by omega) (by omega) (by omega)
          clear s1 s2 s3 s4 hs0
          go_wp2_with fail
          refine bodyPost_ret (results_row_tmp rfl _ _ (w.heap.size + 1) 29 _ (0, 0) _ rfl (setRow_heap _ _ _ _ _ _ gR) Tryz.underlying29 rfl (by kernel_rfl)) rfl ⟨⟨some ⟨W2.heap.size, 0, none⟩, n1, some ⟨W3.heap.size, 0, none⟩, n2, some ⟨W1.heap.size, 0, none⟩, n3, some ⟨W0.heap.size, 0, none⟩, n4⟩, by rfl, hold.1 _, hold.2.1 _, ⟨.inr hold.2.2.1, .inr hold.2.2.2.1, .inr hold.2.2.2.2.1, .inr hold.2.2.2.2.2⟩⟩
      · refine step_make (mk := Value.bool) rfl (.tmp 15) (.tmp 15) 26 rfl 4 ib false 1 Tryz.underlying26 hib0 hib1 hib2 hib3 rfl n2 rfl rfl (by omega) (by decide) 16 rfl (fun W3 r8 x3 s3 => ?_)
        refine hK.out _ _ (x3.block hs) (fun hs => ?_)
        clear hK K
        simp only [Act.put, tkA, tkB, tkC]
        refine wpAnyH_ready (rs := [4]) (by kernel_rfl) (by simp) (AllReadyH.cons rfl (fun K hK => ?_) (AllReadyH.nil))
        · refine step_make (mk := Value.bool) rfl (.tmp 11) (.tmp 11) 26 rfl 4 ib false 1 Tryz.underlying26 hib0 hib1 hib2 hib3 rfl n1 rfl rfl (by omega) (by decide) 12 rfl (fun W4 r4 x4 s4 => ?_)
          refine hK.out _ _ (x4.block hs) (fun hs => ?_)
          clear hK K
          simp only [Act.put, tkA, tkB, tkC]
          have gR := x4.block (x3.block (x2.block (x1.block hR)))
          refine tkG 17 25 (.agg #[.int .i64 cf, .int .i64 n1, .int .i64 jf, .int .i64 n2, .int .i64 hf, .int .i64 n3, .int .i64 rf, .int .i64 n4, .int .i64 bf, .int .i64 bc, .slice (some ⟨W3.heap.size, 0, none⟩) n1 n1, .slice (some ⟨W2.heap.size, 0, none⟩) n2 n2, .slice (some ⟨W1.heap.size, 0, none⟩) n3 n3, .slice (some ⟨W0.heap.size, 0, none⟩) n4 n4]) hs ?_
          simp only [Act.put, tkA, tkB, tkC]
          refine wpAnyH_ready (rs := [18]) (by kernel_rfl) (by simp) (AllReadyH.cons rfl (fun K hK => ?_) AllReadyH.nil)
          refine step_store_row rfl 29 (.tmp 2) (.tmp 25) rfl (w.heap.size + 1) _ rfl rfl 29 _ gR (by kernel_rfl) rfl (by simp [Value.oneCell']) rfl ?_
          refine hK.out _ _ ((setRow_other _ _ _ _ (by omega)).trans hs) (fun hs => ?_)
          clear hK K
          simp only [Act.put]
          refine tkG 19 3 (.int .i64 0) hs ?_
          simp only [Act.put, tkA, tkB, tkC]
          refine wpAnyH_done (by kernel_rfl) ?_ _
          have hold := HEnd.out W0 W4 W3.heap.size W2.heap.size W1.heap.size W0.heap.size hx0 hs0 (((x1.trans x2).trans x3).trans x4) ⟨(Row.holds r4), ((Row.holds r8).ext x4), (((Row.holds r12).ext x3).ext x4), ((((Row.holds r16).ext x2).ext x3).ext x4)⟩ (by omega) (by omega) (by omega) (by omega)
          clear s1 s2 s3 s4 hs0
          go_wp2_with fail
          refine bodyPost_ret (results_row_tmp rfl _ _ (w.heap.size + 1) 29 _ (0, 0) _ rfl (setRow_heap _ _ _ _ _ _ gR) Tryz.underlying29 rfl (by kernel_rfl)) rfl ⟨⟨some ⟨W3.heap.size, 0, none⟩, n1, some ⟨W2.heap.size, 0, none⟩, n2, some ⟨W1.heap.size, 0, none⟩, n3, some ⟨W0.heap.size, 0, none⟩, n4⟩, by rfl, hold.1 _, hold.2.1 _, ⟨.inr hold.2.2.1, .inr hold.2.2.2.1, .inr hold.2.2.2.2.1, .inr hold.2.2.2.2.2⟩⟩
set_option maxHeartbeats 2000000 in
theorem fnew_no (F : Fil) (w : World) (hb : bankB F = false) : Calls Tryz.prog 31 #[.agg (bnkC F)] w (FP 11 zeroF zeroV zeroF w) := by
  unfold FP
  have HB := Lib.hid (fun w' => fmaybe_v hb w')
  have e0 := (Ext.alloc w (.cells (bnkC F) 25)).trans (Ext.alloc _ (.cells (filC zeroV zeroF) 29))
  have gR := (two_boxes w (bnkC F) (filC zeroV zeroF) 25 29).2
  clear hb
  unfold bnkC at HB e0 gR ⊢
  unfold filC at e0 gR
  dsimp only [zeroV, zeroF] at e0 gR
  go_enter Tryz.func31, Tryz.ntmps31
  go_wp2_with fail
  refine (HB.out _).mono ?_; rintro e w1 ⟨rfl, x1⟩
  have gR1 := x1.block gR
  have y1 := e0.trans x1
  clear x1 e0 gR
  go_wp2_with (first | (refine wpList_store_row rfl 29 (.tmp 2) (.tmp 7) rfl (w.heap.size + 1) _ rfl rfl 29 _ gR1 (by kernel_rfl) rfl (by simp [Value.oneCell']) ?_))
  refine bodyPost_ret (results_row_tmp rfl _ _ (w.heap.size + 1) 29 _ (0, 0) _ rfl (setRow_heap _ _ _ _ _ _ gR1) Tryz.underlying29 rfl (by kernel_rfl)) rfl ⟨zeroV, by rfl, zero_at _, below_setRow y1 (Nat.le_succ _) _, From.zero _ _ _⟩
theorem fnew_c : FNewC 31 := by
  intro F w
  cases hb : bankB F with
  | true => exact fnew_yes F w hb
  | false => exact fnew_no F w hb
end Go.Proofs.YtlafnobjfajamaaGreat
