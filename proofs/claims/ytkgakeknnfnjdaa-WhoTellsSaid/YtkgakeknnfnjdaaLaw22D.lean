/-
  THE LAWS OF LAYER 22: WhoTells (package who's contracts as premises).
-/
import Derived.Test.YtkgakeknnfnjdaaLaw22B
namespace Go.Proofs.Ytkgakeknnfnjdaa
open Go.RowKit
set_option linter.unusedVariables false
set_option maxRecDepth 100000

set_option maxHeartbeats 16000000 in
theorem whoTells.walk0 (K : WhoC) (V : FilV) (F : Fil) (x : Int) (a : Option Addr) (n c : Nat) (f : Nat → Int) (w : World) (hf : FilAt w V F) (h1 : F.nC ≤ 1000000000000000) (h2 : F.nI ≤ 1000000000000000) (h3 : F.nH ≤ 1000000000000000) (h4 : F.nR ≤ 1000000000000000) (wx : (Lit.int .i64 x).wf = true) (ha : Holds .u8 w a n f) (hnc : n ≤ c) (hcr : c * 1 ≤ 140737488351232) :
    Calls Try.prog 3 #[.agg (filC V F), .int .i64 x, .slice a n c] w fun e w' => e = .returned (.bool true) ∧ Ext w w' := by
  obtain ⟨G, hG⟩ : ∃ G, G = w.heap.size := ⟨_, rfl⟩
  obtain ⟨W0, hW0, x0, HG0⟩ : ∃ W0, W0 = w.alloc (.cells (filC V F) 29) ∧ Ext w W0 ∧ Hid (∀ W, Ext W0 W → W.heap[G]? = some (.cells (filC V F) 29 (0, 0))) := ⟨_, rfl, Ext.alloc _ _, Lib.hid (fun W y => y.block (by rw [hG]; exact heap_alloc_new _ _))⟩
  have KFl := Lib.hid (rfew14_any V F W0 h1 h2 h3 h4)
  have HK := Lib.hid K
  have HX := Lib.hid x0
  have gA := HG0.out W0 (Ext.refl _)
  by_cases hbig : decide (F.nC + F.nI + F.nH + F.nR ≤ 4000) = true ∧ n ≤ 600
  · obtain ⟨hfew, hn6⟩ := hbig
    rw [hfew] at KFl
    have hn6' : ¬ (600 : Int) < n := by omega
    have HA := Lib.hid (And.intro (hf.ext x0) (And.intro wx (And.intro (ha.ext x0) (And.intro hn6 (And.intro hnc (show c ≤ maxLen by unfold maxLen; omega))))))
    clear K hf h1 h2 h3 h4 wx x0 hfew ha hnc hcr hn6
    go_enter Try.func3, Try.ntmps3
    go_upto_region 1 with fail
    rw [← hW0, ← hG]
    clear hW0 hG
    go_wp2_with (refine wpList_load_row rfl 29 (.tmp 3) rfl G rfl 29 (filC V F) (0, 0) _ gA Try.underlying29 rfl (by kernel_rfl) ?_)
    refine KFl.out.mono ?_; rintro e w1 ⟨rfl, x1⟩
    clear gA KFl
    go_upto_region 4 with fail
    obtain ⟨r, hr⟩ : ∃ r, (x.tmod 2 == 0) = r := ⟨_, rfl⟩
    rw [hr]
    clear hr
    have KA := Lib.hid (fun W (y : Ext W0 W) => HK.out.report a n c f r W (HA.out.2.2.1.ext y) (by have := HA.out.2.2.2.1; omega) HA.out.2.2.2.2.1 HA.out.2.2.2.2.2)
    have KB := Lib.hid (fun W (y : Ext W0 W) => rreport22_any a n c f r W (HA.out.2.2.1.ext y) (by have := HA.out.2.2.2.1; omega))
    obtain ⟨k, hk⟩ : ∃ k, repK n = k := ⟨_, rfl⟩
    obtain ⟨E, hE⟩ : ∃ E, repE n = E := ⟨_, rfl⟩
    obtain ⟨ok, hok⟩ : ∃ ok, decide (n ≤ 240) = ok := ⟨_, rfl⟩
    have HKk : Hid (k ≤ 242) := Lib.hid (by rw [← hk]; exact repK_le n)
    have HE : Hid (E = if ok = true then 0 else 13) := Lib.hid (by
      rw [← hE, ← hok]
      unfold repE
      by_cases h : n ≤ 240
      · rw [if_pos h, decide_eq_true h]; rfl
      · rw [if_neg h, decide_eq_false h]; rfl)
    obtain ⟨s, hs0⟩ : ∃ s, stF F x = s := ⟨_, rfl⟩
    have KS0 := Lib.hid (fun W (y : Ext W0 W) => HK.out.status V F x W (HA.out.1.ext y) HA.out.2.1)
    have KT0 := Lib.hid (fun W (y : Ext W0 W) => rstatus22_any V F x W (HA.out.1.ext y))
    rw [hk, hE] at KA
    rw [hk, hok] at KB
    rw [hs0] at KS0 KT0
    clear hk hE hok hs0
    go_wp2_with fail
    refine (KA.out _ x1).mono ?_; rintro e w2 ⟨p, q, rfl, h2, l2, m2, x2⟩
    have z2 := x1.trans x2
    go_wp2_with fail
    refine (KB.out _ z2).mono ?_; rintro e w3 ⟨t, u, rfl, h3, l3, m3, x3⟩
    have z3 := z2.trans x3
    have KY := Lib.hid (fun W (y : Ext w3 W) => bytes_is p t k q u _ _ W (h2.ext (x3.trans y)) (h3.ext y) (by have := HKk.out; omega) (fun _ _ => rfl))
    have KS := Lib.hid (fun W (y : Ext w3 W) => KS0.out W (z3.trans y))
    have KT := Lib.hid (fun W (y : Ext w3 W) => KT0.out W (z3.trans y))
    have HG := Lib.hid (fun W (y : Ext w3 W) => HG0.out W (z3.trans y))
    have HXX := Lib.hid (HX.out.trans z3)
    clear x1 x2 z2 x3 z3 h2 l2 m2 h3 l3 m3 KA KB KS0 KT0 HG0
    go_upto_region 6 with fail
    have hs : Ext w3 w3.drew := Ext.drew w3
    cases ok
    · have hE : E = 13 := HE.out
      subst hE
      refine wp_region_held_drew (S := fun W => Ext w3 W) (by kernel_rfl) hs (fun _ => ?_)
      refine wpAnyH_takeD (i := 0) (d := 36) rfl rfl (by kernel_rfl) (by kernel_rfl) (by kernel_rfl) (fun _ _ _ h => h) (yieldsIf_load_row (by rfl) 29 (.tmp 3) rfl (G) rfl 29 _ (0, 0) _ (fun w' hw' => HG.out _ hw') Try.underlying29 rfl (by kernel_rfl)) hs ?_
      simp only [Act.put, List.setIfInBounds_toArray, List.set_cons_succ, List.set_cons_zero]
      refine wpAnyH_takeD (i := 1) (d := 37) (v := .int .i64 x) rfl rfl (by kernel_rfl) (by kernel_rfl) (by kernel_rfl) (fun _ _ _ h => h) (Or.inl ⟨by rfl, fun W hW => by go_simp⟩) hs ?_
      simp only [Act.put, List.setIfInBounds_toArray, List.set_cons_succ, List.set_cons_zero]
      refine wpAnyH_takeD (i := 3) (d := 39) rfl rfl (by kernel_rfl) (by kernel_rfl) (by kernel_rfl) (fun _ _ _ h => h) (yieldsIf_load_row (by rfl) 29 (.tmp 3) rfl (G) rfl 29 _ (0, 0) _ (fun w' hw' => HG.out _ hw') Try.underlying29 rfl (by kernel_rfl)) hs ?_
      simp only [Act.put, List.setIfInBounds_toArray, List.set_cons_succ, List.set_cons_zero]
      refine wpAnyH_takeD (i := 4) (d := 40) (v := .int .i64 x) rfl rfl (by kernel_rfl) (by kernel_rfl) (by kernel_rfl) (fun _ _ _ h => h) (Or.inl ⟨by rfl, fun W hW => by go_simp⟩) hs ?_
      simp only [Act.put, List.setIfInBounds_toArray, List.set_cons_succ, List.set_cons_zero]
      refine wpAnyH_ready (rs := [2]) (by kernel_rfl) (by simp) (AllReadyH.cons rfl (fun K hK => ?_) AllReadyH.nil)
      go_simp
      refine (KS.out _ hs).mono ?_; rintro e w7 ⟨rfl, x7⟩
      go_wp2_with fail
      refine hK.out _ _ (hs.trans x7) (fun hs => ?_)
      clear hK K
      refine wpAnyH_ready (rs := [5]) (by kernel_rfl) (by simp) (AllReadyH.cons rfl (fun K hK => ?_) AllReadyH.nil)
      go_simp
      refine (KT.out _ hs).mono ?_; rintro e w8 ⟨rfl, x8⟩
      go_wp2_with fail
      refine hK.out _ _ (hs.trans x8) (fun hs => ?_)
      clear hK K
      refine wpAnyH_takeD (i := 6) (d := 42) (v := .bool true) rfl rfl (by kernel_rfl) (by kernel_rfl) (by kernel_rfl) (fun _ _ _ h => h) (Or.inl ⟨by rfl, fun W hW => by go_simp⟩) hs ?_
      simp only [Act.put, List.setIfInBounds_toArray, List.set_cons_succ, List.set_cons_zero]
      refine wpAnyH_takeD (i := 7) (d := 43) (v := .bool true) rfl rfl (by kernel_rfl) (by kernel_rfl) (by kernel_rfl) (fun _ _ _ h => h) (Or.inl ⟨by rfl, fun W hW => by go_simp⟩) hs ?_
      simp only [Act.put, List.setIfInBounds_toArray, List.set_cons_succ, List.set_cons_zero]
      refine wpAnyH_takeD (i := 8) (d := 44) (v := .slice p k q) rfl rfl (by kernel_rfl) (by kernel_rfl) (by kernel_rfl) (fun _ _ _ h => h) (Or.inl ⟨by rfl, fun W hW => by go_simp⟩) hs ?_
      simp only [Act.put, List.setIfInBounds_toArray, List.set_cons_succ, List.set_cons_zero]
      refine wpAnyH_takeD (i := 9) (d := 45) (v := .slice t k u) rfl rfl (by kernel_rfl) (by kernel_rfl) (by kernel_rfl) (fun _ _ _ h => h) (Or.inl ⟨by rfl, fun W hW => by go_simp⟩) hs ?_
      simp only [Act.put, List.setIfInBounds_toArray, List.set_cons_succ, List.set_cons_zero]
      refine wpAnyH_ready (rs := [10]) (by kernel_rfl) (by simp) (AllReadyH.cons rfl (fun K hK => ?_) AllReadyH.nil)
      go_simp
      refine (KY.out _ hs).mono ?_; rintro e w9 ⟨rfl, x9⟩
      go_wp2_with fail
      refine hK.out _ _ (hs.trans x9) (fun hs => ?_)
      clear hK K
      refine wpAnyH_takeD (i := 11) (d := 47) (v := .bool true) rfl rfl (by kernel_rfl) (by kernel_rfl) (by kernel_rfl) (fun _ _ _ h => h) (Or.inl ⟨by rfl, fun W hW => by go_simp⟩) hs ?_
      simp only [Act.put, List.setIfInBounds_toArray, List.set_cons_succ, List.set_cons_zero]
      refine wpAnyH_takeD (i := 12) (d := 48) (v := .bool true) rfl rfl (by kernel_rfl) (by kernel_rfl) (by kernel_rfl) (fun _ _ _ h => h) (Or.inl ⟨by rfl, fun W hW => by go_simp⟩) hs ?_
      simp only [Act.put, List.setIfInBounds_toArray, List.set_cons_succ, List.set_cons_zero]
      refine wpAnyH_takeD (i := 13) (d := 49) (v := .int .i64 13) rfl rfl (by kernel_rfl) (by kernel_rfl) (by kernel_rfl) (fun _ _ _ h => h) (Or.inl ⟨by rfl, fun W hW => by go_simp⟩) hs ?_
      simp only [Act.put, List.setIfInBounds_toArray, List.set_cons_succ, List.set_cons_zero]
      refine wpAnyH_takeD (i := 14) (d := 50) (v := .bool false) rfl rfl (by kernel_rfl) (by kernel_rfl) (by kernel_rfl) (fun _ _ _ h => h) (Or.inl ⟨by rfl, fun W hW => by go_simp⟩) hs ?_
      simp only [Act.put, List.setIfInBounds_toArray, List.set_cons_succ, List.set_cons_zero]
      refine wpAnyH_takeD (i := 15) (d := 51) (v := .bool false) rfl rfl (by kernel_rfl) (by kernel_rfl) (by kernel_rfl) (fun _ _ _ h => h) (Or.inl ⟨by rfl, fun W hW => by go_simp⟩) hs ?_
      simp only [Act.put, List.setIfInBounds_toArray, List.set_cons_succ, List.set_cons_zero]
      refine wpAnyH_takeD (i := 16) (d := 52) (v := .bool true) rfl rfl (by kernel_rfl) (by kernel_rfl) (by kernel_rfl) (fun _ _ _ h => h) (Or.inl ⟨by rfl, fun W hW => by go_simp⟩) hs ?_
      simp only [Act.put, List.setIfInBounds_toArray, List.set_cons_succ, List.set_cons_zero]
      refine wpAnyH_takeD (i := 17) (d := 53) (v := .bool true) rfl rfl (by kernel_rfl) (by kernel_rfl) (by kernel_rfl) (fun _ _ _ h => h) (Or.inl ⟨by rfl, fun W hW => by go_simp⟩) hs ?_
      simp only [Act.put, List.setIfInBounds_toArray, List.set_cons_succ, List.set_cons_zero]
      refine wpAnyH_takeD (i := 18) (d := 54) (v := .bool true) rfl rfl (by kernel_rfl) (by kernel_rfl) (by kernel_rfl) (fun _ _ _ h => h) (Or.inl ⟨by rfl, fun W hW => by go_simp⟩) hs ?_
      simp only [Act.put, List.setIfInBounds_toArray, List.set_cons_succ, List.set_cons_zero]
      refine wpAnyH_takeD (i := 19) (d := 55) (v := .bool false) rfl rfl (by kernel_rfl) (by kernel_rfl) (by kernel_rfl) (fun _ _ _ h => h) (Or.inl ⟨by rfl, fun W hW => by go_simp⟩) hs ?_
      simp only [Act.put, List.setIfInBounds_toArray, List.set_cons_succ, List.set_cons_zero]
      refine wpAnyH_takeD (i := 20) (d := 56) (v := .bool false) rfl rfl (by kernel_rfl) (by kernel_rfl) (by kernel_rfl) (fun _ _ _ h => h) (Or.inl ⟨by rfl, fun W hW => by go_simp⟩) hs ?_
      simp only [Act.put, List.setIfInBounds_toArray, List.set_cons_succ, List.set_cons_zero]
      refine wpAnyH_takeD (i := 21) (d := 57) (v := .int .i64 13) rfl rfl (by kernel_rfl) (by kernel_rfl) (by kernel_rfl) (fun _ _ _ h => h) (Or.inl ⟨by rfl, fun W hW => by go_simp⟩) hs ?_
      simp only [Act.put, List.setIfInBounds_toArray, List.set_cons_succ, List.set_cons_zero]
      refine wpAnyH_takeD (i := 22) (d := 58) (v := .bool true) rfl rfl (by kernel_rfl) (by kernel_rfl) (by kernel_rfl) (fun _ _ _ h => h) (Or.inl ⟨by rfl, fun W hW => by go_simp⟩) hs ?_
      simp only [Act.put, List.setIfInBounds_toArray, List.set_cons_succ, List.set_cons_zero]
      refine wpAnyH_takeD (i := 23) (d := 59) (v := .bool true) rfl rfl (by kernel_rfl) (by kernel_rfl) (by kernel_rfl) (fun _ _ _ h => h) (Or.inl ⟨by rfl, fun W hW => by go_simp⟩) hs ?_
      simp only [Act.put, List.setIfInBounds_toArray, List.set_cons_succ, List.set_cons_zero]
      refine wpAnyH_takeD (i := 24) (d := 60) (v := .bool true) rfl rfl (by kernel_rfl) (by kernel_rfl) (by kernel_rfl) (fun _ _ _ h => h) (Or.inl ⟨by rfl, fun W hW => by go_simp⟩) hs ?_
      simp only [Act.put, List.setIfInBounds_toArray, List.set_cons_succ, List.set_cons_zero]
      refine wpAnyH_takeD (i := 25) (d := 61) (v := .bool true) rfl rfl (by kernel_rfl) (by kernel_rfl) (by kernel_rfl) (fun _ _ _ h => h) (Or.inl ⟨by rfl, fun W hW => by go_simp⟩) hs ?_
      simp only [Act.put, List.setIfInBounds_toArray, List.set_cons_succ, List.set_cons_zero]
      refine wpAnyH_ready (rs := [26]) (by kernel_rfl) (by simp) (AllReadyH.cons rfl (fun K hK => ?_) AllReadyH.nil)
      go_simp
      refine (sure22 HK.out _).mono ?_; rintro e w10 ⟨rfl, x10⟩
      go_wp2_with fail
      refine hK.out _ _ (hs.trans x10) (fun hs => ?_)
      clear hK K
      refine wpAnyH_takeD (i := 27) (d := 63) (v := .bool true) rfl rfl (by kernel_rfl) (by kernel_rfl) (by kernel_rfl) (fun _ _ _ h => h) (Or.inl ⟨by rfl, fun W hW => by go_simp⟩) hs ?_
      simp only [Act.put, List.setIfInBounds_toArray, List.set_cons_succ, List.set_cons_zero]
      refine wpAnyH_takeD (i := 28) (d := 6) (v := .bool true) rfl rfl (by kernel_rfl) (by kernel_rfl) (by kernel_rfl) (fun _ _ _ h => h) (Or.inl ⟨by rfl, fun W hW => by go_simp⟩) hs ?_
      simp only [Act.put, List.setIfInBounds_toArray, List.set_cons_succ, List.set_cons_zero]
      refine wpAnyH_done (by kernel_rfl) ?_ _
      go_wp2_with fail
      go_ret
      exact ⟨rfl, HXX.out.trans hs⟩
    · have hE : E = 0 := HE.out
      subst hE
      refine wp_region_held_drew (S := fun W => Ext w3 W) (by kernel_rfl) hs (fun _ => ?_)
      refine wpAnyH_takeD (i := 0) (d := 36) rfl rfl (by kernel_rfl) (by kernel_rfl) (by kernel_rfl) (fun _ _ _ h => h) (yieldsIf_load_row (by rfl) 29 (.tmp 3) rfl (G) rfl 29 _ (0, 0) _ (fun w' hw' => HG.out _ hw') Try.underlying29 rfl (by kernel_rfl)) hs ?_
      simp only [Act.put, List.setIfInBounds_toArray, List.set_cons_succ, List.set_cons_zero]
      refine wpAnyH_takeD (i := 1) (d := 37) (v := .int .i64 x) rfl rfl (by kernel_rfl) (by kernel_rfl) (by kernel_rfl) (fun _ _ _ h => h) (Or.inl ⟨by rfl, fun W hW => by go_simp⟩) hs ?_
      simp only [Act.put, List.setIfInBounds_toArray, List.set_cons_succ, List.set_cons_zero]
      refine wpAnyH_takeD (i := 3) (d := 39) rfl rfl (by kernel_rfl) (by kernel_rfl) (by kernel_rfl) (fun _ _ _ h => h) (yieldsIf_load_row (by rfl) 29 (.tmp 3) rfl (G) rfl 29 _ (0, 0) _ (fun w' hw' => HG.out _ hw') Try.underlying29 rfl (by kernel_rfl)) hs ?_
      simp only [Act.put, List.setIfInBounds_toArray, List.set_cons_succ, List.set_cons_zero]
      refine wpAnyH_takeD (i := 4) (d := 40) (v := .int .i64 x) rfl rfl (by kernel_rfl) (by kernel_rfl) (by kernel_rfl) (fun _ _ _ h => h) (Or.inl ⟨by rfl, fun W hW => by go_simp⟩) hs ?_
      simp only [Act.put, List.setIfInBounds_toArray, List.set_cons_succ, List.set_cons_zero]
      refine wpAnyH_ready (rs := [2]) (by kernel_rfl) (by simp) (AllReadyH.cons rfl (fun K hK => ?_) AllReadyH.nil)
      go_simp
      refine (KS.out _ hs).mono ?_; rintro e w7 ⟨rfl, x7⟩
      go_wp2_with fail
      refine hK.out _ _ (hs.trans x7) (fun hs => ?_)
      clear hK K
      refine wpAnyH_ready (rs := [5]) (by kernel_rfl) (by simp) (AllReadyH.cons rfl (fun K hK => ?_) AllReadyH.nil)
      go_simp
      refine (KT.out _ hs).mono ?_; rintro e w8 ⟨rfl, x8⟩
      go_wp2_with fail
      refine hK.out _ _ (hs.trans x8) (fun hs => ?_)
      clear hK K
      refine wpAnyH_takeD (i := 6) (d := 42) (v := .bool true) rfl rfl (by kernel_rfl) (by kernel_rfl) (by kernel_rfl) (fun _ _ _ h => h) (Or.inl ⟨by rfl, fun W hW => by go_simp⟩) hs ?_
      simp only [Act.put, List.setIfInBounds_toArray, List.set_cons_succ, List.set_cons_zero]
      refine wpAnyH_takeD (i := 7) (d := 43) (v := .bool true) rfl rfl (by kernel_rfl) (by kernel_rfl) (by kernel_rfl) (fun _ _ _ h => h) (Or.inl ⟨by rfl, fun W hW => by go_simp⟩) hs ?_
      simp only [Act.put, List.setIfInBounds_toArray, List.set_cons_succ, List.set_cons_zero]
      refine wpAnyH_takeD (i := 8) (d := 44) (v := .slice p k q) rfl rfl (by kernel_rfl) (by kernel_rfl) (by kernel_rfl) (fun _ _ _ h => h) (Or.inl ⟨by rfl, fun W hW => by go_simp⟩) hs ?_
      simp only [Act.put, List.setIfInBounds_toArray, List.set_cons_succ, List.set_cons_zero]
      refine wpAnyH_takeD (i := 9) (d := 45) (v := .slice t k u) rfl rfl (by kernel_rfl) (by kernel_rfl) (by kernel_rfl) (fun _ _ _ h => h) (Or.inl ⟨by rfl, fun W hW => by go_simp⟩) hs ?_
      simp only [Act.put, List.setIfInBounds_toArray, List.set_cons_succ, List.set_cons_zero]
      refine wpAnyH_ready (rs := [10]) (by kernel_rfl) (by simp) (AllReadyH.cons rfl (fun K hK => ?_) AllReadyH.nil)
      go_simp
      refine (KY.out _ hs).mono ?_; rintro e w9 ⟨rfl, x9⟩
      go_wp2_with fail
      refine hK.out _ _ (hs.trans x9) (fun hs => ?_)
      clear hK K
      refine wpAnyH_takeD (i := 11) (d := 47) (v := .bool true) rfl rfl (by kernel_rfl) (by kernel_rfl) (by kernel_rfl) (fun _ _ _ h => h) (Or.inl ⟨by rfl, fun W hW => by go_simp⟩) hs ?_
      simp only [Act.put, List.setIfInBounds_toArray, List.set_cons_succ, List.set_cons_zero]
      refine wpAnyH_takeD (i := 12) (d := 48) (v := .bool true) rfl rfl (by kernel_rfl) (by kernel_rfl) (by kernel_rfl) (fun _ _ _ h => h) (Or.inl ⟨by rfl, fun W hW => by go_simp⟩) hs ?_
      simp only [Act.put, List.setIfInBounds_toArray, List.set_cons_succ, List.set_cons_zero]
      refine wpAnyH_takeD (i := 13) (d := 49) (v := .int .i64 0) rfl rfl (by kernel_rfl) (by kernel_rfl) (by kernel_rfl) (fun _ _ _ h => h) (Or.inl ⟨by rfl, fun W hW => by go_simp⟩) hs ?_
      simp only [Act.put, List.setIfInBounds_toArray, List.set_cons_succ, List.set_cons_zero]
      refine wpAnyH_takeD (i := 14) (d := 50) (v := .bool true) rfl rfl (by kernel_rfl) (by kernel_rfl) (by kernel_rfl) (fun _ _ _ h => h) (Or.inl ⟨by rfl, fun W hW => by go_simp⟩) hs ?_
      simp only [Act.put, List.setIfInBounds_toArray, List.set_cons_succ, List.set_cons_zero]
      refine wpAnyH_takeD (i := 15) (d := 51) (v := .bool true) rfl rfl (by kernel_rfl) (by kernel_rfl) (by kernel_rfl) (fun _ _ _ h => h) (Or.inl ⟨by rfl, fun W hW => by go_simp⟩) hs ?_
      simp only [Act.put, List.setIfInBounds_toArray, List.set_cons_succ, List.set_cons_zero]
      refine wpAnyH_takeD (i := 16) (d := 52) (v := .bool true) rfl rfl (by kernel_rfl) (by kernel_rfl) (by kernel_rfl) (fun _ _ _ h => h) (Or.inl ⟨by rfl, fun W hW => by go_simp⟩) hs ?_
      simp only [Act.put, List.setIfInBounds_toArray, List.set_cons_succ, List.set_cons_zero]
      refine wpAnyH_takeD (i := 17) (d := 53) (v := .bool true) rfl rfl (by kernel_rfl) (by kernel_rfl) (by kernel_rfl) (fun _ _ _ h => h) (Or.inl ⟨by rfl, fun W hW => by go_simp⟩) hs ?_
      simp only [Act.put, List.setIfInBounds_toArray, List.set_cons_succ, List.set_cons_zero]
      refine wpAnyH_takeD (i := 18) (d := 54) (v := .bool true) rfl rfl (by kernel_rfl) (by kernel_rfl) (by kernel_rfl) (fun _ _ _ h => h) (Or.inl ⟨by rfl, fun W hW => by go_simp⟩) hs ?_
      simp only [Act.put, List.setIfInBounds_toArray, List.set_cons_succ, List.set_cons_zero]
      refine wpAnyH_takeD (i := 19) (d := 55) (v := .bool true) rfl rfl (by kernel_rfl) (by kernel_rfl) (by kernel_rfl) (fun _ _ _ h => h) (Or.inl ⟨by rfl, fun W hW => by go_simp⟩) hs ?_
      simp only [Act.put, List.setIfInBounds_toArray, List.set_cons_succ, List.set_cons_zero]
      refine wpAnyH_takeD (i := 20) (d := 56) (v := .bool true) rfl rfl (by kernel_rfl) (by kernel_rfl) (by kernel_rfl) (fun _ _ _ h => h) (Or.inl ⟨by rfl, fun W hW => by go_simp⟩) hs ?_
      simp only [Act.put, List.setIfInBounds_toArray, List.set_cons_succ, List.set_cons_zero]
      refine wpAnyH_takeD (i := 21) (d := 57) (v := undef) rfl rfl (by kernel_rfl) (by kernel_rfl) (by kernel_rfl) (fun _ _ _ h => h) (Or.inr ⟨by rfl, rfl⟩) hs ?_
      simp only [Act.put, List.setIfInBounds_toArray, List.set_cons_succ, List.set_cons_zero]
      refine wpAnyH_takeD (i := 22) (d := 58) (v := undef) rfl rfl (by kernel_rfl) (by kernel_rfl) (by kernel_rfl) (fun _ _ _ h => h) (Or.inr ⟨by rfl, rfl⟩) hs ?_
      simp only [Act.put, List.setIfInBounds_toArray, List.set_cons_succ, List.set_cons_zero]
      refine wpAnyH_takeD (i := 23) (d := 59) (v := .bool true) rfl rfl (by kernel_rfl) (by kernel_rfl) (by kernel_rfl) (fun _ _ _ h => h) (Or.inl ⟨by rfl, fun W hW => by go_simp⟩) hs ?_
      simp only [Act.put, List.setIfInBounds_toArray, List.set_cons_succ, List.set_cons_zero]
      refine wpAnyH_takeD (i := 24) (d := 60) (v := .bool true) rfl rfl (by kernel_rfl) (by kernel_rfl) (by kernel_rfl) (fun _ _ _ h => h) (Or.inl ⟨by rfl, fun W hW => by go_simp⟩) hs ?_
      simp only [Act.put, List.setIfInBounds_toArray, List.set_cons_succ, List.set_cons_zero]
      refine wpAnyH_takeD (i := 25) (d := 61) (v := .bool true) rfl rfl (by kernel_rfl) (by kernel_rfl) (by kernel_rfl) (fun _ _ _ h => h) (Or.inl ⟨by rfl, fun W hW => by go_simp⟩) hs ?_
      simp only [Act.put, List.setIfInBounds_toArray, List.set_cons_succ, List.set_cons_zero]
      refine wpAnyH_ready (rs := [26]) (by kernel_rfl) (by simp) (AllReadyH.cons rfl (fun K hK => ?_) AllReadyH.nil)
      go_simp
      refine (sure22 HK.out _).mono ?_; rintro e w10 ⟨rfl, x10⟩
      go_wp2_with fail
      refine hK.out _ _ (hs.trans x10) (fun hs => ?_)
      clear hK K
      refine wpAnyH_takeD (i := 27) (d := 63) (v := .bool true) rfl rfl (by kernel_rfl) (by kernel_rfl) (by kernel_rfl) (fun _ _ _ h => h) (Or.inl ⟨by rfl, fun W hW => by go_simp⟩) hs ?_
      simp only [Act.put, List.setIfInBounds_toArray, List.set_cons_succ, List.set_cons_zero]
      refine wpAnyH_takeD (i := 28) (d := 6) (v := .bool true) rfl rfl (by kernel_rfl) (by kernel_rfl) (by kernel_rfl) (fun _ _ _ h => h) (Or.inl ⟨by rfl, fun W hW => by go_simp⟩) hs ?_
      simp only [Act.put, List.setIfInBounds_toArray, List.set_cons_succ, List.set_cons_zero]
      refine wpAnyH_done (by kernel_rfl) ?_ _
      go_wp2_with fail
      go_ret
      exact ⟨rfl, HXX.out.trans hs⟩
  · have HN : Hid ((decide (F.nC + F.nI + F.nH + F.nR ≤ 4000) = false) ∨ (decide (F.nC + F.nI + F.nH + F.nR ≤ 4000) = true ∧ (600 : Int) < n)) := Lib.hid (by
      cases e : decide (F.nC + F.nI + F.nH + F.nR ≤ 4000) with
      | false => exact .inl rfl
      | true => exact .inr ⟨rfl, by have : ¬ n ≤ 600 := fun h => hbig ⟨e, h⟩; omega⟩)
    clear K hf h1 h2 h3 h4 wx x0 ha hnc hcr hbig
    go_enter Try.func3, Try.ntmps3
    go_upto_region 1 with fail
    rw [← hW0, ← hG]
    clear hW0 hG
    go_wp2_with (refine wpList_load_row rfl 29 (.tmp 3) rfl G rfl 29 (filC V F) (0, 0) _ gA Try.underlying29 rfl (by kernel_rfl) ?_)
    refine KFl.out.mono ?_; rintro e w1 ⟨rfl, x1⟩
    clear gA KFl
    rcases HN.out with hb | ⟨hb, hn⟩
    all_goals
      rw [hb]
      clear hb HN
      go_wp2_with fail
      refine (sure22 HK.out w1).mono ?_; rintro e w2 ⟨rfl, x2⟩
      go_wp2
      go_ret
      exact ⟨rfl, HX.out.trans (x1.trans x2)⟩
end Go.Proofs.Ytkgakeknnfnjdaa
