/-
  CONTRACTS: bilgeref16 (layer 16): Parse.
-/
import Derived.Test.YtejiafihiielgaaTelP
import Derived.Test.YtejiafihiielgaaAskF
import Derived.Test.YtejiafihiielgaaTelM
namespace Go.Proofs.Ytejiafihiielgaa
open Go.RowKit
set_option linter.unusedVariables false
set_option maxRecDepth 100000

theorem rget_x (a : Option Addr) (m c : Nat) (f : Nat → Int) (w : World) (ha : Holds .u8 w a m f) (hm : m ≤ 100000) (hf : ∀ i, i < m → 0 ≤ f i ∧ f i < 256) :
    Calls Try.prog 38 #[.slice a m c] w fun e w' => ∃ b d E, e = .returned (.tuple #[.slice b (getN m) d, .bool E]) ∧ getN m ≤ d ∧ d ≤ maxLen ∧ Holds .u16 w' b (getN m) (getF f) ∧ Ext w w' := by
  by_cases h : m % 2 = 0
  · have e : getN m = m / 2 := by unfold getN; rw [if_pos h]
    rw [e]
    have em : m = 2 * (m / 2) := by omega
    rw [em] at ha hf
    have K := rget_f a (m / 2) c f w ha (by omega) hf
    rw [← em] at K
    exact K.mono fun e w' ⟨b, d, h1, h2, h3, h4, h5, _⟩ => ⟨b, d, true, h1, h2, h3, h4, h5⟩
  · have e : getN m = 0 := by unfold getN; rw [if_neg h]
    rw [e]
    exact (rget_odd a m c w (by omega) (by omega)).mono fun e w' hh => ⟨none, 0, false, hh.1, Nat.le_refl _, Nat.zero_le _, .inl rfl, Ext.of_eq hh.2⟩
/-- A row of zeros written over holds nobody's bits or words. -/
theorem holds_zeroRow {α : Type} {mk : α → Value} (hmk : ∀ u, mk u ≠ .int .i64 0 ∧ mk u ≠ .slice none 0 0) {w : World} {x : Option Addr} {m : Nat} {B : Nat → α} {g : Nat} {t : TypeId} {fr : Nat × Nat} (cs : Array Value) (h : HoldsG mk w x m B) (hg : w.heap[g]? = some (.cells #[.int .i64 0, .int .i64 0, .int .i64 0, .int .i64 0, .int .i64 0, .int .i64 0, .int .i64 0, .slice none 0 0, .slice none 0 0] t fr)) : HoldsG mk (w.setRow g cs) x m B := by
  by_cases hm : m = 0
  · exact .inl hm
  · obtain ⟨b, off, ha, hlt, hc⟩ := h.resolve_left hm
    have hbg : b ≠ g := by
      rintro rfl
      have h0 := hc 0 (by omega)
      have hc2 := cell_setRow_same w b (off + 0) _ #[.int .i64 0, .int .i64 0, .int .i64 0, .int .i64 0, .int .i64 0, .int .i64 0, .int .i64 0, .slice none 0 0, .slice none 0 0] t fr hg
      rw [setRow_self _ _ _ _ _ hg, h0] at hc2
      have := Array.mem_of_getElem? hc2.symm
      have hh := hmk (B 0)
      simp [hh] at this
    exact .inr ⟨b, off, ha, by rw [setRow_size]; exact hlt, fun i hi => (cell_setRow_other _ _ _ _ hbg).trans (hc i hi)⟩
theorem setRow_tel {w : World} {V : QstV} {T : Tel} {g : Nat} {t : TypeId} {fr : Nat × Nat} (cs : Array Value) (h : TelAt w V T) (hg : w.heap[g]? = some (.cells #[.int .i64 0, .int .i64 0, .int .i64 0, .int .i64 0, .int .i64 0, .int .i64 0, .int .i64 0, .slice none 0 0, .slice none 0 0] t fr)) : TelAt (w.setRow g cs) V T :=
  ⟨holds_zeroRow (fun u => ⟨fun h => (by cases h), fun h => (by cases h)⟩) cs h.h1 hg, h.l1, h.m1, holds_zeroRow (fun u => ⟨fun h => (by cases h), fun h => (by cases h)⟩) cs h.h2 hg, h.l2, h.m2⟩
theorem told_row (w : World) (z cs : Array Value) (t : TypeId) : Ext w ((w.alloc (.cells z t)).setRow w.heap.size cs) ∧ ((w.alloc (.cells z t)).setRow w.heap.size cs).heap[w.heap.size]? = some (.cells cs t (0, 0)) :=
  ⟨below_setRow (Ext.alloc w _) (Nat.le_refl _) _, setRow_heap _ _ _ _ _ _ (heap_alloc_new w _)⟩
theorem tgue_small {Q : Qst} {n : Nat} {f : Nat → Int} (hn : n ≤ 100000) (hf : ∀ i, i < n → 0 ≤ f i ∧ f i < 256) : (tgue Q n f).nb ≤ 1000000 ∧ (tgue Q n f).nr ≤ 1000000 ∧ ∀ i, i < (tgue Q n f).nr → 0 ≤ (tgue Q n f).R i ∧ (tgue Q n f).R i < 65536 := by
  have hu := unN_le (m := n - 2) (n := Q.ct)
  have hg : getN (n - 2) ≤ (n - 2) / 2 := by unfold getN; split <;> omega
  have hR : ∀ i, i < getN (n - 2) → 0 ≤ getF (fun j => f (2 + j)) i ∧ getF (fun j => f (2 + j)) i < 65536 := fun i hi => by
    have b1 := hf (2 + 2 * i) (by omega)
    have b2 := hf (2 + (2 * i + 1)) (by omega)
    unfold getF
    dsimp only
    omega
  unfold tgue wholeT
  repeat' split
  all_goals first
    | exact ⟨Nat.zero_le _, Nat.zero_le _, fun i hi => absurd hi (Nat.not_lt_zero i)⟩
    | exact ⟨by show unN (n - 2) Q.ct ≤ 1000000; omega, Nat.zero_le _, fun i hi => absurd hi (Nat.not_lt_zero i)⟩
    | exact ⟨Nat.zero_le _, by show getN (n - 2) ≤ 1000000; omega, hR⟩
theorem tpa_no {Q : Qst} {n : Nat} {f : Nat → Int} {E : Int} (h : tpaE Q n f = E) (h0 : E ≠ 0) : tpaE Q n f = E ∧ tpaT Q n f = zeroT := ⟨h, by unfold tpaT; rw [h, if_neg h0]⟩
set_option maxHeartbeats 8000000 in
theorem rparse16_any (V : QstV) (Q : Qst) (a : Option Addr) (n c : Nat) (f : Nat → Int) (w : World) (h : QstAt w V Q) (n1 : Q.nb ≤ 1000000) (n2 : Q.nr ≤ 1000000) (ha : Holds .u8 w a n f) (hn : n ≤ 100000) (hnc : n ≤ c) (hcm : c ≤ maxLen) (hf : ∀ i, i < n → 0 ≤ f i ∧ f i < 256) :
    Calls Try.prog 19 #[.agg (qstC V Q), .slice a n c] w fun e w' => ∃ X, e = .returned (.tuple #[.agg (telC X (tpaT Q n f)), .int .i64 (tpaE Q n f)]) ∧ TelAt w' X (tpaT Q n f) ∧ Ext w w' := by
  have hways := tpaE_ways Q n f
  obtain ⟨W2, hW2, e0, HX⟩ : ∃ W2, W2 = (w.alloc (.cells (qstC V Q) 25)).alloc (.cells #[.int .i64 0, .int .i64 0, .int .i64 0, .int .i64 0, .int .i64 0, .int .i64 0, .int .i64 0, .slice none 0 0, .slice none 0 0] 28) ∧ Ext w W2 ∧ Hid (∀ W, Ext W2 W → W.heap[w.heap.size]? = some (.cells (qstC V Q) 25 (0, 0)) ∧ W.heap[w.heap.size + 1]? = some (.cells #[.int .i64 0, .int .i64 0, .int .i64 0, .int .i64 0, .int .i64 0, .int .i64 0, .int .i64 0, .slice none 0 0, .slice none 0 0] 28 (0, 0))) :=
    ⟨_, rfl, (Ext.alloc w _).trans (Ext.alloc _ _), Lib.hid fun W x => ⟨x.block ((heap_alloc_old _ _ (by simp)).trans (heap_alloc_new w _)), x.block (heap_new_at _ _ (by simp))⟩⟩
  have hz2 : W2.heap.size = w.heap.size + 2 := by rw [hW2]; simp
  have b1 := (HX.out _ (Ext.refl W2)).1
  cases hr : rightQ Q with
  | false =>
    have hE : tpaE Q n f = 11 := by
      rcases hways with h | h | h
      · exact h.1
      · rw [h.2.1] at hr; cases hr
      · rw [h.2.1] at hr; cases hr
    have HE := Lib.hid (tpa_no hE (by decide))
    have KR := Lib.hid (fun W (x : Ext w W) => rright15_v hr W (h.ext x) n1 n2)
    clear h ha hf hr hE hways
    go_enter Try.func19, Try.ntmps19
    go_upto_region 1 with fail
    rw [← hW2]
    clear hW2
    go_wp2_with (first
      | (refine wpList_load_row rfl 25 (.tmp 2) rfl w.heap.size rfl 25 _ (0, 0) _ b1 Try.underlying25 rfl (by kernel_rfl) ?_))
    refine (KR.out _ e0).mono ?_; rintro e w3 ⟨rfl, x3⟩
    have gR := (HX.out _ x3).2
    have xe := e0.trans x3
    go_wp2_with (first
      | (refine wpList_store_row rfl 28 (.tmp 4) (.tmp 16) rfl (w.heap.size + 1) _ rfl rfl 28 _ gR (by kernel_rfl) rfl (by simp [Value.oneCell']) ?_))
    refine bodyPost_ret (results_row_tmp rfl _ _ (w.heap.size + 1) 28 _ (0, 0) _ rfl (setRow_heap _ _ _ _ _ _ gR) Try.underlying28 rfl (by kernel_rfl)) rfl ?_
    rw [HE.out.1, HE.out.2]
    exact ⟨zeroQV, by rfl, telnone_at _ rfl rfl, below_setRow xe (by omega) _⟩
  | true =>
    have KR := Lib.hid (fun W (x : Ext w W) => rright15_v hr W (h.ext x) n1 n2)
    have hkk := (known_iff Q.k).1 ((rightQ_iff Q).1 hr).1
    have hctb : Q.ct ≤ 65535 := by
      obtain ⟨-, ho, -, hfi⟩ := (rightQ_iff Q).1 hr
      unfold onlyP at ho
      unfold fitsB at hfi
      rcases hkk with hk | hk | hk | hk | hk | hk | hk | hk | hk | hk <;>
      · simp (config := { decide := true }) only [hk, if_true, if_false, Bool.and_eq_true, inB_iff, decide_eq_true_iff, true_implies, false_implies, true_and, and_true, or_true, or_false] at ho hfi
        omega
    have hwk : IntKind.i64.wrap (Q.k + 128) = Q.k + 128 := IntWalk.i64_in _ (by omega)
    have HA := Lib.hid (fun W (x : Ext w W) => ha.ext x)
    have HQ := Lib.hid (fun W (x : Ext w W) => h.ext x)
    have HF := Lib.hid hf
    have HW := Lib.hid hways
    have HSy := Lib.hid (tsays_iff Q n f)
    have HN := Lib.hid (And.intro n1 n2)
    have HRQ := Lib.hid hr
    clear h ha hf hr hways n1 n2 hkk
    go_enter Try.func19, Try.ntmps19
    go_upto_region 1 with fail
    rw [← hW2]
    clear hW2
    go_wp2_with (first
      | (refine wpList_load_row rfl 25 (.tmp 2) rfl w.heap.size rfl 25 _ (0, 0) _ b1 Try.underlying25 rfl (by kernel_rfl) ?_))
    refine (KR.out _ e0).mono ?_; rintro e w3 ⟨rfl, x3⟩
    clear b1 KR
    go_upto_region 4 with fail
    obtain ⟨W3, hW3, y3, g3⟩ : ∃ W, W = w3.alloc (.cells #[.int .i64 0, .int .i64 0, .int .i64 0, .int .i64 0, .int .i64 0, .int .i64 0, .int .i64 0, .slice none 0 0, .slice none 0 0] 28) ∧ Ext W2 W ∧ W.heap[w3.heap.size]? = some (.cells #[.int .i64 0, .int .i64 0, .int .i64 0, .int .i64 0, .int .i64 0, .int .i64 0, .int .i64 0, .slice none 0 0, .slice none 0 0] 28 (0, 0)) := ⟨_, rfl, x3.trans (Ext.alloc _ _), heap_alloc_new w3 _⟩
    have hG : w.heap.size + 2 ≤ w3.heap.size := by have := x3.size; omega
    rw [← hW3]
    clear hW3 x3
    generalize w3.heap.size = G at g3 hG ⊢
    have ck : W3.cell? ⟨w.heap.size, 0, none⟩ = some (.int .i64 Q.k) := cell_of_heap (HX.out _ y3).1 rfl
    obtain ⟨C, hC⟩ : ∃ C, decide (n = 2 ∧ f 0 = Q.k + 128) = C := ⟨_, rfl⟩
    have HC := Lib.hid hC
    clear hC
    go_cut [29] from 17 to 29 (fun v wx => v = .bool C ∧ Ext W3 wx)
    case first => as_aux_lemma =>
      by_cases h2 : n = 2
      · have hb2 : ((n : Int) == 2) = true := by simp [h2]
        obtain ⟨b, off, rfl, hlt, hc⟩ := (HA.out _ (e0.trans y3)).resolve_left (by omega)
        have cp : W3.cell? ⟨b, off, none⟩ = some (.int .u8 (f 0)) := hc 0 (by omega)
        have hbd := HF.out 0 (by omega)
        have hw0 : IntKind.i64.wrap (f 0) = f 0 := IntWalk.i64_in _ (by omega)
        have h0I : (0 : Int) < n := by omega
        by_cases he : f 0 = Q.k + 128
        · have hbe : (f 0 == Q.k + 128) = true := by simp [he]
          have HCt : Hid (C = true) := Lib.hid (by rw [← HC.out]; exact decide_eq_true ⟨h2, he⟩)
          clear he hc hbd
          go_quiet (fail)
          go_wp2_with fail
          go_meet
          exact ⟨by rw [HCt.out], Ext.drewN _ _⟩
        · have hbe : (f 0 == Q.k + 128) = false := by simp [he]
          have HCt : Hid (C = false) := Lib.hid (by rw [← HC.out]; exact decide_eq_false fun h => he h.2)
          clear he hc hbd
          go_quiet (fail)
          go_wp2_with fail
          go_meet
          exact ⟨by rw [HCt.out], Ext.drewN _ _⟩
      · have hb2 : ((n : Int) == 2) = false := by simp; omega
        have HCt : Hid (C = false) := Lib.hid (by rw [← HC.out]; exact decide_eq_false fun h => h2 h.1)
        clear h2
        go_quiet (fail)
        go_wp2_with fail
        go_meet
        exact ⟨by rw [HCt.out], Ext.drewN _ _⟩
    case rest =>
      obtain ⟨rfl, x4⟩ := hcut
      have x4 := y3.trans x4
      have g4 : wc.heap[G]? = some (.cells #[.int .i64 0, .int .i64 0, .int .i64 0, .int .i64 0, .int .i64 0, .int .i64 0, .int .i64 0, .slice none 0 0, .slice none 0 0] 28 (0, 0)) := by
        have : Ext W3 wc := by assumption
        exact this.block g3
      clear ck g3 y3
      go_upto_if 29 with fail
      go_cut [6] from 29 to 57 (fun v wx => v = .pointer (some ⟨G, 0, none⟩) ∧ ∃ X, wx.heap[G]? = some (.cells (telC X (tgue Q n f)) 28 (0, 0)) ∧ TelAt wx X (tgue Q n f) ∧ Ext W2 wx)
      case first => as_aux_lemma =>
        cases C with
        | true =>
          obtain ⟨h2, he⟩ := of_decide_eq_true HC.out
          obtain ⟨b, off, rfl, hlt, hc⟩ := (HA.out _ (e0.trans x4)).resolve_left (by omega)
          have HT : Hid (tgue Q n f = { zeroT with k := Q.k, cd := f 1 }) := Lib.hid (by unfold tgue; rw [if_pos ⟨h2, he⟩])
          have cp : wc.cell? ⟨b, off + 1, none⟩ = some (.int .u8 (f 1)) := hc 1 (by omega)
          have hbd := HF.out 1 (by omega)
          have hw1 : IntKind.i64.wrap (f 1) = f 1 := IntWalk.i64_in _ (by omega)
          have ck : wc.cell? ⟨w.heap.size, 0, none⟩ = some (.int .i64 Q.k) := cell_of_heap (HX.out _ x4).1 rfl
          have hbG : b ≠ G := by
            rintro rfl
            have h0 := cp
            rw [cell_of_row _ _ _ _ _ _ g4] at h0
            have := Array.mem_of_getElem? h0
            simp at this
          subst h2
          clear hc hbd he HA hnc hcm
          go_wp2_with fail
          obtain ⟨X, hX⟩ : ∃ X, X = wc.drew := ⟨_, rfl⟩
          have x5 : Ext wc X := by rw [hX]; exact Ext.drew _
          have gX := x5.block g4
          have HC5 := Lib.hid (fun W (x : Keep (fun i => i = G) X W) => And.intro (x.cell (show ¬ w.heap.size = G by omega) (Ext.cell x5 (World.block_lt_of_cell? _ _ ck) ck)) (x.cell hbG (Ext.cell x5 (World.block_lt_of_cell? _ _ cp) cp)))
          have hs : Keep (fun i => i = G) X X := Keep.refl _ _
          refine wp_region_held_drew (S := fun W => Keep (fun i => i = G) X W) (by kernel_rfl) (by rw [← hX]; exact hs) (fun _ => ?_)
          rw [← hX]
          clear hX cp ck
          refine wpAnyH_takeD (i := 0) (d := 30) (v := .pointer (some ⟨w.heap.size, 0, none⟩)) rfl rfl (by kernel_rfl) (by kernel_rfl) (by kernel_rfl) (fun _ _ _ h => h) (Or.inl ⟨by rfl, fun W hW => by go_simp⟩) hs ?_
          simp only [Act.put, List.setIfInBounds_toArray, List.set_cons_succ, List.set_cons_zero]
          refine wpAnyH_takeD (i := 1) (d := 31) (v := .int .i64 Q.k) rfl rfl (by kernel_rfl) (by kernel_rfl) (by kernel_rfl) (fun _ _ _ h => h) (Or.inl ⟨by rfl, fun W hW => by obtain ⟨c0, c1⟩ := HC5.out W hW; go_simp⟩) hs ?_
          simp only [Act.put, List.setIfInBounds_toArray, List.set_cons_succ, List.set_cons_zero]
          refine wpAnyH_takeD (i := 2) (d := 32) (v := .slice (some ⟨b, off, none⟩) 2 c) rfl rfl (by kernel_rfl) (by kernel_rfl) (by kernel_rfl) (fun _ _ _ h => h) (Or.inl ⟨by rfl, fun W hW => by go_simp⟩) hs ?_
          simp only [Act.put, List.setIfInBounds_toArray, List.set_cons_succ, List.set_cons_zero]
          refine wpAnyH_takeD (i := 3) (d := 33) (v := .pointer (some ⟨b, off + 1, none⟩)) rfl rfl (by kernel_rfl) (by kernel_rfl) (by kernel_rfl) (fun _ _ _ h => h) (Or.inl ⟨by rfl, fun W hW => by obtain ⟨c0, c1⟩ := HC5.out W hW; go_simp⟩) hs ?_
          simp only [Act.put, List.setIfInBounds_toArray, List.set_cons_succ, List.set_cons_zero]
          refine wpAnyH_takeD (i := 4) (d := 34) (v := .int .u8 (f 1)) rfl rfl (by kernel_rfl) (by kernel_rfl) (by kernel_rfl) (fun _ _ _ h => h) (Or.inl ⟨by rfl, fun W hW => by obtain ⟨c0, c1⟩ := HC5.out W hW; go_simp⟩) hs ?_
          simp only [Act.put, List.setIfInBounds_toArray, List.set_cons_succ, List.set_cons_zero]
          refine wpAnyH_takeD (i := 5) (d := 35) (v := .int .i64 (f 1)) rfl rfl (by kernel_rfl) (by kernel_rfl) (by kernel_rfl) (fun _ _ _ h => h) (Or.inl ⟨by rfl, fun W hW => by go_simp⟩) hs ?_
          simp only [Act.put, List.setIfInBounds_toArray, List.set_cons_succ, List.set_cons_zero]
          refine wpAnyH_takeD (i := 6) (d := 36) (v := .agg #[.int .i64 Q.k, .int .i64 (f 1), .int .i64 0, .int .i64 0, .int .i64 0, .int .i64 0, .int .i64 0, .slice none 0 0, .slice none 0 0]) rfl rfl (by kernel_rfl) (by kernel_rfl) (by kernel_rfl) (fun _ _ _ h => h) (Or.inl ⟨by rfl, fun W hW => by go_simp⟩) hs ?_
          simp only [Act.put, List.setIfInBounds_toArray, List.set_cons_succ, List.set_cons_zero]
          refine wpAnyH_ready (rs := [7]) (by kernel_rfl) (by simp) (AllReadyH.cons rfl (fun K hK => ?_) AllReadyH.nil)
          refine step_store_row rfl 28 (.tmp 6) (.tmp 36) rfl G _ rfl rfl 28 _ gX (by kernel_rfl) rfl (by simp [Value.oneCell']) rfl ?_
          refine hK.out _ _ ⟨rfl, rfl, rfl, by simp, fun k _ hn => setRow_other X _ k _ hn⟩ (fun hs => ?_)
          clear hK K
          simp only [Act.put]
          refine wpAnyH_done (by kernel_rfl) ?_ _
          go_wp2_with fail
          go_meet
          refine ⟨rfl, zeroQV, ?_, ?_, below_setRow (x4.trans x5) (by omega) _⟩
          · rw [HT.out]; exact setRow_heap _ _ _ _ _ _ gX
          · rw [HT.out]; exact telnone_at _ rfl rfl
        | false =>
          have hno := of_decide_eq_false HC.out
          by_cases h2 : 2 < n
          · have h2I : (2 : Int) < n := by omega
            have h2c : ¬ c = 2 := by omega
            have h2n : (2 : Int) ≤ n := by omega
            obtain ⟨b, off, rfl, hlt, hc⟩ := (HA.out _ (e0.trans x4)).resolve_left (by omega)
            have HT : Hid (tgue Q n f = wholeT Q (unN (n - 2) Q.ct) (unF (fun i => f (2 + i))) (getN (n - 2)) (getF (fun i => f (2 + i)))) := Lib.hid (by unfold tgue; rw [if_neg hno, if_pos h2])
            have HDr := Lib.hid (fun W (x : Ext w W) => HoldsG.drop (mk := Value.int .u8) (HA.out W x) (k := 2))
            have hfd : ∀ i, i < n - 2 → 0 ≤ f (2 + i) ∧ f (2 + i) < 256 := fun i hi => HF.out _ (by omega)
            clear hc hno hlt HA
            go_wp2_with fail
            obtain ⟨X, hX⟩ : ∃ X, X = wc.drew := ⟨_, rfl⟩
            have x5 : Ext wc X := by rw [hX]; exact Ext.drew _
            have gX := x5.block g4
            have x5 := x4.trans x5
            have HC7 := Lib.hid (fun W (x : Ext X W) => (show W.cell? ⟨w.heap.size, 2, none⟩ = some (.int .i64 Q.ct) from cell_of_heap (HX.out W (x5.trans x)).1 rfl))
            have KU := Lib.hid (fun W (x : Ext X W) => runpack_x (some ⟨b, off + 2, none⟩) (n - 2) (c - 2) (fun i => f (2 + i)) Q.ct W (HDr.out W (e0.trans (x5.trans x))) (by omega) hfd (by omega))
            have hs : Ext X X := Ext.refl _
            refine wp_region_held_drew (S := fun W => Ext X W) (by kernel_rfl) (by rw [← hX]; exact hs) (fun _ => ?_)
            rw [← hX]
            clear hX g4
            refine wpAnyH_takeD (i := 0) (d := 41) (v := .slice (some ⟨b, off, none⟩) n c) rfl rfl (by kernel_rfl) (by kernel_rfl) (by kernel_rfl) (fun _ _ _ h => h) (Or.inl ⟨by rfl, fun W hW => by go_simp⟩) hs ?_
            simp only [Act.put, List.setIfInBounds_toArray, List.set_cons_succ, List.set_cons_zero]
            refine wpAnyH_takeD (i := 1) (d := 42) (v := .slice (some ⟨b, off + 2, none⟩) (n - 2) (c - 2)) rfl rfl (by kernel_rfl) (by kernel_rfl) (by kernel_rfl) (fun _ _ _ h => h) (Or.inl ⟨by rfl, fun W hW => by go_simp⟩) hs ?_
            simp only [Act.put, List.setIfInBounds_toArray, List.set_cons_succ, List.set_cons_zero]
            refine wpAnyH_takeD (i := 2) (d := 43) (v := .pointer (some ⟨w.heap.size, 2, none⟩)) rfl rfl (by kernel_rfl) (by kernel_rfl) (by kernel_rfl) (fun _ _ _ h => h) (Or.inl ⟨by rfl, fun W hW => by go_simp⟩) hs ?_
            simp only [Act.put, List.setIfInBounds_toArray, List.set_cons_succ, List.set_cons_zero]
            refine wpAnyH_takeD (i := 3) (d := 44) (v := .int .i64 Q.ct) rfl rfl (by kernel_rfl) (by kernel_rfl) (by kernel_rfl) (fun _ _ _ h => h) (Or.inl ⟨by rfl, fun W hW => by have c2 := HC7.out W hW; go_simp⟩) hs ?_
            simp only [Act.put, List.setIfInBounds_toArray, List.set_cons_succ, List.set_cons_zero]
            refine wpAnyH_ready (rs := [4]) (by kernel_rfl) (by simp) (AllReadyH.cons rfl (fun K hK => ?_) AllReadyH.nil)
            go_simp
            go_at_call 37
            refine (KU.out _ hs).mono ?_; rintro e Wc ⟨x1, d1, rfl, l1, m1, hu, y⟩
            go_wp2_with fail
            refine hK.out _ _ (hs.trans y) (fun hs => ?_)
            clear hK K y
            refine wpAnyH_takeD (i := 5) (d := 40) (v := .tuple #[.slice x1 (unN (n - 2) Q.ct) d1, .int .i64 (unE (n - 2) Q.ct)]) rfl rfl (by kernel_rfl) (by kernel_rfl) (by kernel_rfl) (fun _ _ _ h => h) (Or.inl ⟨by rfl, fun W hW => by go_simp⟩) hs ?_
            simp only [Act.put, List.setIfInBounds_toArray, List.set_cons_succ, List.set_cons_zero]
            refine wpAnyH_takeD (i := 6) (d := 46) (v := .slice x1 (unN (n - 2) Q.ct) d1) rfl rfl (by kernel_rfl) (by kernel_rfl) (by kernel_rfl) (fun _ _ _ h => h) (Or.inl ⟨by rfl, fun W hW => by go_simp⟩) hs ?_
            simp only [Act.put, List.setIfInBounds_toArray, List.set_cons_succ, List.set_cons_zero]
            refine wpAnyH_takeD (i := 7) (d := 47) (v := .int .i64 (unE (n - 2) Q.ct)) rfl rfl (by kernel_rfl) (by kernel_rfl) (by kernel_rfl) (fun _ _ _ h => h) (Or.inl ⟨by rfl, fun W hW => by go_simp⟩) hs ?_
            simp only [Act.put, List.setIfInBounds_toArray, List.set_cons_succ, List.set_cons_zero]
            refine wpAnyH_takeD (i := 8) (d := 7) (v := .slice x1 (unN (n - 2) Q.ct) d1) rfl rfl (by kernel_rfl) (by kernel_rfl) (by kernel_rfl) (fun _ _ _ h => h) (Or.inl ⟨by rfl, fun W hW => by go_simp⟩) hs ?_
            simp only [Act.put, List.setIfInBounds_toArray, List.set_cons_succ, List.set_cons_zero]
            refine wpAnyH_takeD (i := 9) (d := 8) (v := .int .i64 (unE (n - 2) Q.ct)) rfl rfl (by kernel_rfl) (by kernel_rfl) (by kernel_rfl) (fun _ _ _ h => h) (Or.inl ⟨by rfl, fun W hW => by go_simp⟩) hs ?_
            simp only [Act.put, List.setIfInBounds_toArray, List.set_cons_succ, List.set_cons_zero]
            refine wpAnyH_done (by kernel_rfl) ?_ _
            have x6 := x5.trans hs
            have g6 := hs.block gX
            clear HC7 KU gX
            go_wp2_with fail
            refine (rget_x (some ⟨b, off + 2, none⟩) (n - 2) (c - 2) (fun i => f (2 + i)) _ (HDr.out _ (e0.trans x6)) (by omega) hfd).mono ?_; rintro e w7 ⟨x2, d2, E, rfl, l2, m2, hg2, y7⟩
            have hu := hu.ext y7
            have g7 := y7.block g6
            have x7 := x6.trans y7
            have b7 := (HX.out _ x7).1
            clear g6
            go_wp2_with (first
              | (refine wpList_load_row rfl 25 (.tmp 2) rfl w.heap.size rfl 25 _ (0, 0) _ b7 Try.underlying25 rfl (by kernel_rfl) ?_))
            refine (rwhole16_any V Q ⟨x1, d1, x2, d2⟩ (unN (n - 2) Q.ct) (unF (fun i => f (2 + i))) (getN (n - 2)) (getF (fun i => f (2 + i))) w7).mono ?_; rintro e w8 ⟨rfl, y8⟩
            have g8 := y8.block g7
            have hat := whole_at (V := ⟨x1, d1, x2, d2⟩) Q (hu.ext y8) l1 m1 (hg2.ext y8) l2 m2
            have HAt := Lib.hid (setRow_tel (telC (wholeV Q ⟨x1, d1, x2, d2⟩) (wholeT Q (unN (n - 2) Q.ct) (unF (fun i => f (2 + i))) (getN (n - 2)) (getF (fun i => f (2 + i))))) hat g8)
            have HGr := Lib.hid (setRow_heap _ _ _ (telC (wholeV Q ⟨x1, d1, x2, d2⟩) (wholeT Q (unN (n - 2) Q.ct) (unF (fun i => f (2 + i))) (getN (n - 2)) (getF (fun i => f (2 + i))))) _ _ g8)
            have x8 := x7.trans y8
            clear hat hu hg2 g7 b7
            go_wp2_with (first
              | (refine wpList_store_row rfl 28 (.tmp 6) (.tmp 57) rfl G _ rfl rfl 28 _ g8 (by kernel_rfl) rfl (by simp [telC, Value.oneCell']) ?_))
            go_meet
            refine ⟨rfl, wholeV Q ⟨x1, d1, x2, d2⟩, ?_, ?_, below_setRow x8 (by omega) _⟩
            · rw [HT.out]; exact HGr.out
            · rw [HT.out]; exact HAt.out
          · have h2I : ¬ (2 : Int) < n := by omega
            have hd2 : decide ((2 : Int) < n) = false := decide_eq_false h2I
            have HT : Hid (tgue Q n f = zeroT) := Lib.hid (by unfold tgue; rw [if_neg hno, if_neg h2])
            clear hno h2
            go_wp2_with fail
            go_meet
            refine ⟨rfl, zeroQV, ?_, ?_, x4⟩
            · rw [HT.out]; exact g4
            · rw [HT.out]; exact telnone_at _ rfl rfl
      case rest =>
        obtain ⟨rfl, X, gX, hX, x6⟩ := hcut
        have hsm : (tgue Q n f).nb ≤ 1000000 ∧ (tgue Q n f).nr ≤ 1000000 ∧ ∀ i, i < (tgue Q n f).nr → 0 ≤ (tgue Q n f).R i ∧ (tgue Q n f).R i < 65536 := tgue_small hn HF.out
        have hpn : tprN Q (tgue Q n f) = (if rightT Q (tgue Q n f) = true then tsayN (tgue Q n f) else 0) := rfl
        have HTP := Lib.hid (show tpaE Q n f = 0 → tpaT Q n f = tgue Q n f from fun h => by unfold tpaT; rw [if_pos h])
        have KP := Lib.hid (fun W (x : Ext w W) (k : TelAt W X (tgue Q n f)) => rprint16_any V Q X (tgue Q n f) W (HQ.out W x) HN.out.1 HN.out.2 k hsm.1 hsm.2.1 hsm.2.2)
        have hpb : tprN Q (tgue Q n f) ≤ 1000000 := by
          have := hsm
          rw [hpn]
          split
          · rename_i hh
            have := (tsay_size hh).2
            omega
          · omega
        unfold PrT at KP
        generalize tgue Q n f = T at *
        have HPN := Lib.hid hpn
        obtain ⟨B, hB⟩ : ∃ B, rightT Q T = B := ⟨_, rfl⟩
        obtain ⟨N, hNn⟩ : ∃ N, tprN Q T = N := ⟨_, rfl⟩
        rw [hB, hNn] at KP
        rw [hNn] at hpb
        have HB := Lib.hid hB
        have HNn := Lib.hid hNn
        obtain ⟨b8, b9⟩ := HX.out _ x6
        clear hpn hB hNn g4 x4 hsm
        go_wp2_with (first
          | (refine wpList_load_row rfl 25 (.tmp 2) rfl w.heap.size rfl 25 _ (0, 0) _ b8 Try.underlying25 rfl (by kernel_rfl) ?_)
          | (refine wpList_load_row rfl 28 (.tmp 6) rfl G rfl 28 _ (0, 0) _ gX Try.underlying28 rfl (by kernel_rfl) ?_))
        refine (KP.out _ (e0.trans x6) hX).mono ?_; rintro e w7 ⟨pb, pq, rfl, -, -, hp, y7⟩
        have x7 := x6.trans y7
        have g7 := y7.block gX
        have hX := hX.ext y7
        clear KP b8 b9 gX y7
        cases B with
        | false =>
          have hE : tpaE Q n f = 14 := by
            rcases HW.out with h | h | h
            · have := HRQ.out; rw [h.2] at this; cases this
            · exact h.1
            · have := (HSy.out.1 h.2.2).1; rw [HB.out] at this; cases this
          have HE := Lib.hid (tpa_no hE (by decide))
          have gR := (HX.out _ x7).2
          have xe := e0.trans x7
          clear hE
          go_wp2_with (first
            | (refine wpList_store_row rfl 28 (.tmp 4) (.tmp 72) rfl (w.heap.size + 1) _ rfl rfl 28 _ gR (by kernel_rfl) rfl (by simp [Value.oneCell']) ?_))
          refine bodyPost_ret (results_row_tmp rfl _ _ (w.heap.size + 1) 28 _ (0, 0) _ rfl (setRow_heap _ _ _ _ _ _ gR) Try.underlying28 rfl (by kernel_rfl)) rfl ?_
          rw [HE.out.1, HE.out.2]
          exact ⟨zeroQV, by rfl, telnone_at _ rfl rfl, below_setRow xe (by omega) _⟩
        | true =>
          have hNs : N = tsayN T := by rw [← HNn.out, HPN.out, if_pos HB.out]
          have KB := Lib.hid ((bytes_any pb a N n pq c (tsayF T) f w7 hp (HA.out _ (e0.trans x7)) hpb (by omega)).mono fun e w' hh => (⟨hh.1, Ext.of_drewN hh.2⟩ : e = .returned (.bool (eqB N n (tsayF T) f)) ∧ Ext w7 w'))
          obtain ⟨Z, hZ⟩ : ∃ Z, eqB N n (tsayF T) f = Z := ⟨_, rfl⟩
          rw [hZ] at KB
          have HZ := Lib.hid hZ
          have HNs := Lib.hid hNs
          clear hZ hNs hp
          cases Z with
          | false =>
            have hE : tpaE Q n f = 14 := by
              rcases HW.out with h | h | h
              · have := HRQ.out; rw [h.2] at this; cases this
              · exact h.1
              · obtain ⟨p1, p2, p3⟩ := HSy.out.1 h.2.2
                have := eqB_true (f := tsayF T) (g := f) (HNs.out.trans p2) (fun i hi => p3 i (by rw [← p2, ← HNs.out]; exact hi))
                rw [HZ.out] at this; cases this
            have HE := Lib.hid (tpa_no hE (by decide))
            clear hE
            go_wp2_with fail
            refine KB.out.mono ?_; rintro e w8 ⟨rfl, y8⟩
            have x8 := x7.trans y8
            have gR := (HX.out _ x8).2
            have xe := e0.trans x8
            go_wp2_with (first
              | (refine wpList_store_row rfl 28 (.tmp 4) (.tmp 72) rfl (w.heap.size + 1) _ rfl rfl 28 _ gR (by kernel_rfl) rfl (by simp [Value.oneCell']) ?_))
            refine bodyPost_ret (results_row_tmp rfl _ _ (w.heap.size + 1) 28 _ (0, 0) _ rfl (setRow_heap _ _ _ _ _ _ gR) Try.underlying28 rfl (by kernel_rfl)) rfl ?_
            rw [HE.out.1, HE.out.2]
            exact ⟨zeroQV, by rfl, telnone_at _ rfl rfl, below_setRow xe (by omega) _⟩
          | true =>
            obtain ⟨z1, z2⟩ := eqB_iff.1 HZ.out
            have hE : tpaE Q n f = 0 := by
              rcases HW.out with h | h | h
              · have := HRQ.out; rw [h.2] at this; cases this
              · have := HSy.out.2 ⟨HB.out, by rw [← HNs.out]; exact z1, fun i hi => z2 i (by rw [z1]; exact hi)⟩
                rw [h.2.2] at this; cases this
              · exact h.1
            have HE := Lib.hid (And.intro hE (HTP.out hE))
            clear hE z1 z2
            go_wp2_with fail
            refine KB.out.mono ?_; rintro e w8 ⟨rfl, y8⟩
            have x8 := x7.trans y8
            have gR := (HX.out _ x8).2
            have g8 := y8.block g7
            have xe := e0.trans x8
            have hq := Lib.hid (setRow_tel (telC X T) (hX.ext y8) gR)
            clear g7
            go_wp2_with (first
              | (refine wpList_load_row rfl 28 (.tmp 6) rfl G rfl 28 _ (0, 0) _ g8 Try.underlying28 rfl (by kernel_rfl) ?_)
              | (refine wpList_store_row rfl 28 (.tmp 4) (.tmp 73) rfl (w.heap.size + 1) _ rfl rfl 28 _ gR (by kernel_rfl) rfl (by simp [telC, Value.oneCell']) ?_))
            refine bodyPost_ret (results_row_tmp rfl _ _ (w.heap.size + 1) 28 _ (0, 0) _ rfl (setRow_heap _ _ _ _ _ _ gR) Try.underlying28 rfl (by kernel_rfl)) rfl ?_
            rw [HE.out.1, HE.out.2]
            exact ⟨X, by rfl, hq.out, below_setRow xe (by omega) _⟩
end Go.Proofs.Ytejiafihiielgaa
