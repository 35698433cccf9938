/-
  CONTRACTS: bilgeref15 (layer 15): Parse.
-/
import Derived.Test.YtokfgdjkafiicaaAskG
import Derived.Test.YtokfgdjkafiicaaAskP
import Derived.BigQuiet
import Derived.Laws.CopyRow
namespace Go.Proofs.Ytokfgdjkafiicaa
open Go.RowKit
set_option linter.unusedVariables false

theorem paQ_no {n : Nat} {f : Nat → Int} {E : Int} (h : paE n f = E) (h0 : E ≠ 0) : paE n f = E ∧ paQ n f = zeroQ := ⟨h, by unfold paQ; rw [h, if_neg h0]⟩
theorem gue_small {n : Nat} {f : Nat → Int} (hn : n ≤ 100000) (hf : ∀ i, i < n → 0 ≤ f i ∧ f i < 256) : (gueQ n f).nb ≤ 1000000 ∧ (gueQ n f).nr ≤ 1000000 ∧ ∀ i, i < (gueQ n f).nr → 0 ≤ (gueQ n f).R i ∧ (gueQ n f).R i < 65536 := by
  have hb := num_bd n f 3 hf
  have hbe : ∀ d, behN n d ≤ 1000000 ∧ ∀ i, i < behN n d → 0 ≤ getF (fun j => f (d + j)) i ∧ getF (fun j => f (d + j)) i < 65536 := by
    intro d
    unfold behN getF
    split
    · refine ⟨by omega, fun i hi => ?_⟩
      have := hf (d + 2 * i) (by omega)
      have := hf (d + (2 * i + 1)) (by omega)
      dsimp only
      omega
    · exact ⟨by omega, fun i hi => absurd hi (by omega)⟩
  unfold gueQ
  repeat' split
  all_goals first
    | exact ⟨Nat.zero_le _, Nat.zero_le _, fun i hi => absurd hi (Nat.not_lt_zero i)⟩
    | exact ⟨Nat.zero_le _, (hbe _).1, (hbe _).2⟩
    | exact ⟨by dsimp only; omega, Nat.zero_le _, fun i hi => absurd hi (Nat.not_lt_zero i)⟩
theorem rprint15_any (V : QstV) (Q : Qst) (w : World) (h : QstAt w V Q) (n1 : Q.nb ≤ 1000000) (n2 : Q.nr ≤ 1000000) (hR : ∀ i, i < Q.nr → 0 ≤ Q.R i ∧ Q.R i < 65536) : Calls Try.prog 9 #[.agg (qstC V Q)] w (PrP Q w) := by
  cases hr : rightQ Q with
  | true => exact rprint15_yes V Q w h n1 n2 hR hr
  | false => exact rprint15_no V Q w h n1 n2 hr
theorem setRow_qst {w : World} {V : QstV} {Q : Qst} {g : Nat} {t : TypeId} {fr : Nat × Nat} (cs : Array Value) (h : QstAt w V Q) (hg : w.heap[g]? = some (.cells #[.int .i64 0, .int .i64 0, .int .i64 0, .int .i64 0, .int .i64 0, .int .i64 0, .int .i64 0, .int .i64 0, .slice none 0 0, .slice none 0 0] t fr)) : QstAt (w.setRow g cs) V Q := by
  have hb : ∀ o v, w.cell? ⟨g, o, none⟩ = some v → v = .int .i64 0 ∨ v = .slice none 0 0 := by
    intro o v hv
    have hc := cell_setRow_same w g o _ #[.int .i64 0, .int .i64 0, .int .i64 0, .int .i64 0, .int .i64 0, .int .i64 0, .int .i64 0, .int .i64 0, .slice none 0 0, .slice none 0 0] t fr hg
    rw [setRow_self _ _ _ _ _ hg, hv] at hc
    have := Array.mem_of_getElem? hc.symm
    simpa using this
  refine ⟨?_, h.l1, h.m1, ?_, h.l2, h.m2⟩
  · rcases h.h1 with h' | ⟨b, off, ha, hlt, hc⟩
    · exact .inl h'
    · by_cases hn : Q.nb = 0
      · exact .inl hn
      · have hbg : b ≠ g := by
          rintro rfl
          rcases hb (off + 0) _ (hc 0 (by omega)) with h | h <;> cases h
        exact .inr ⟨b, off, ha, by rw [setRow_size]; exact hlt, fun i hi => (cell_setRow_other _ _ _ _ hbg).trans (hc i hi)⟩
  · rcases h.h2 with h' | ⟨b, off, ha, hlt, hc⟩
    · exact .inl h'
    · by_cases hn : Q.nr = 0
      · exact .inl hn
      · have hbg : b ≠ g := by
          rintro rfl
          rcases hb (off + 0) _ (hc 0 (by omega)) with h | h <;> cases h
        exact .inr ⟨b, off, ha, by rw [setRow_size]; exact hlt, fun i hi => (cell_setRow_other _ _ _ _ hbg).trans (hc i hi)⟩
set_option maxRecDepth 100000 in
set_option maxHeartbeats 8000000 in
theorem rparse15_any (a : Option Addr) (n c : Nat) (f : Nat → Int) (w : World) (ha : Holds .u8 w a n f) (hn : n ≤ 100000) (hnc : n ≤ c) (hcm : c ≤ maxLen) (hf : ∀ i, i < n → 0 ≤ f i ∧ f i < 256) :
    Calls Try.prog 18 #[.slice a n c] w fun e w' => ∃ V, e = .returned (.tuple #[.agg (qstC V (paQ n f)), .int .i64 (paE n f)]) ∧ QstAt w' V (paQ n f) ∧ Ext w w' := by
  have hways := paE_ways n f
  obtain ⟨W0, hW0, HX, He⟩ : ∃ W0, W0 = w.alloc (.cells #[.int .i64 0, .int .i64 0, .int .i64 0, .int .i64 0, .int .i64 0, .int .i64 0, .int .i64 0, .int .i64 0, .slice none 0 0, .slice none 0 0] 25) ∧ Hid (∀ W, Ext W0 W → W.heap[w.heap.size]? = some (.cells #[.int .i64 0, .int .i64 0, .int .i64 0, .int .i64 0, .int .i64 0, .int .i64 0, .int .i64 0, .int .i64 0, .slice none 0 0, .slice none 0 0] 25 (0, 0))) ∧ Hid (Ext w W0) := ⟨_, rfl, Lib.hid fun W hx => hx.block (heap_alloc_new w _), Lib.hid (Ext.alloc w _)⟩
  have hz0 : w.heap.size + 1 ≤ W0.heap.size := by rw [hW0]; simp
  have hnI : (n : Int) ≤ 100000 := by omega
  have HZ := Lib.hid hz0
  by_cases h0 : n = 0
  · have hE : paE n f = 12 := by rcases hways with h | h | h | h; exact h.1; exact absurd h0 h.2.1; exact absurd h0 h.2.1; exact absurd h0 h.2.1
    have HE := Lib.hid (paQ_no hE (by decide))
    subst h0
    clear hways ha hf hE hz0
    go_enter Try.func18, Try.ntmps18
    go_upto_region 1 with fail
    rw [← hW0]
    clear hW0
    have gR := HX.out _ (Ext.refl W0)
    have xe := He.out.trans (Ext.refl W0)
    go_wp2_with (first
      | (refine wpList_store_row rfl 25 (.tmp 2) (.tmp 11) rfl (w.heap.size) _ rfl rfl 25 _ gR (by kernel_rfl) rfl (by simp [Value.oneCell']) ?_))
    refine bodyPost_ret (results_row_tmp rfl _ _ w.heap.size 25 _ (0, 0) _ rfl (setRow_heap _ _ _ _ _ _ gR) Try.underlying25 rfl (by kernel_rfl)) rfl ?_
    rw [HE.out.1, HE.out.2]
    exact ⟨zeroQV, by rfl, zeroQ_at _, below_setRow xe (Nat.le_refl _) _⟩
  · obtain ⟨b, off, rfl, hb, hc⟩ := id (ha.resolve_left h0)
    have HA := Lib.hid (fun W (x : Ext W0 W) => ha.ext (He.out.trans x))
    have HC := Lib.hid (fun W (x : Ext W0 W) i (hi : i < n) => (show W.cell? ⟨b, off + i, none⟩ = some (.int .u8 (f i)) from (He.out.trans x).cell hb (hc i hi)))
    have hbd := hf 0 (by omega)
    have hw0 : IntKind.i64.wrap (f 0) = f 0 := IntWalk.i64_in _ (by omega)
    have h0I : (0 : Int) < n := by omega
    have h0b : ((n : Int) == 0) = false := by simp; omega
    have HN0 := Lib.hid h0
    cases hk : knownB (f 0) with
    | false =>
      have hE : paE n f = 1 := by
        rcases hways with h | h | h | h
        · exact absurd h.2 h0
        · exact h.1
        · rw [h.2.2.1] at hk; cases hk
        · rw [h.2.2.1] at hk; cases hk
      have HE := Lib.hid (paQ_no hE (by decide))
      have HK := Lib.hid hk
      have c0 := HC.out W0 (Ext.refl _) 0 (by omega)
      rw [Nat.add_zero] at c0
      clear hways ha hf hE hz0 hk hc hb hbd h0
      go_enter Try.func18, Try.ntmps18
      go_upto_region 1 with fail
      rw [← hW0]
      clear hW0
      go_wp2_with fail
      refine (rknown15_v HK.out _).mono ?_; rintro e w1 ⟨rfl, rfl⟩
      clear c0
      have gR := HX.out _ (Ext.refl _)
      have xe := He.out.trans (Ext.refl _)
      go_wp2_with (first
        | (refine wpList_store_row rfl 25 (.tmp 2) (.tmp 18) rfl (w.heap.size) _ rfl rfl 25 _ gR (by kernel_rfl) rfl (by simp [Value.oneCell']) ?_))
      refine bodyPost_ret (results_row_tmp rfl _ _ w.heap.size 25 _ (0, 0) _ rfl (setRow_heap _ _ _ _ _ _ gR) Try.underlying25 rfl (by kernel_rfl)) rfl ?_
      rw [HE.out.1, HE.out.2]
      exact ⟨zeroQV, by rfl, zeroQ_at _, below_setRow xe (Nat.le_refl _) _⟩
    | true =>
      have HK := Lib.hid hk
      obtain ⟨n1, n2, hR⟩ := gue_small hn hf
      have KG := Lib.hid (fun W (x : Ext W0 W) => rguess15_any (some ⟨b, off, none⟩) n c f W (HA.out W x) (by omega) hnc hcm (by omega) hf hk)
      have hQk := gue_k n f
      have hsb := saysB_iff n f
      have hprN : prN (gueQ n f) = if rightQ (gueQ n f) = true then sayN (gueQ n f) else 0 := rfl
      have hpq : paE n f = 0 → paQ n f = gueQ n f := fun h => by unfold paQ; rw [if_pos h]
      have hpn : prN (gueQ n f) ≤ 300 := by
        unfold prN
        split
        · rename_i hr
          have := (say_size hr).2
          omega
        · omega
      have c0 := HC.out W0 (Ext.refl _) 0 (by omega)
      rw [Nat.add_zero] at c0
      generalize gueQ n f = Q at *
      have HW := Lib.hid hways
      have HSB := Lib.hid hsb
      have HPQ := Lib.hid hpq
      clear hways hsb hpq ha hz0 hk hc hb hbd h0
      cases hr : rightQ Q with
      | false =>
        have HE : Hid (paE n f = 3 ∧ paQ n f = zeroQ) := Lib.hid (by
          rcases HW.out with h | h | h | h
          · exact absurd h.2 HN0.out
          · have := HK.out; rw [h.2.2] at this; cases this
          · exact paQ_no h.1 (by decide)
          · have := (HSB.out.1 h.2.2.2).1; rw [hr] at this; cases this)
        have HR := Lib.hid hr
        go_enter Try.func18, Try.ntmps18
        go_upto_region 1 with fail
        rw [← hW0]
        clear hW0
        go_wp2_with fail
        refine (rknown15_v HK.out _).mono ?_; rintro e w1 ⟨rfl, rfl⟩
        clear c0
        go_wp2_with fail
        refine (KG.out _ (Ext.refl _)).mono ?_; rintro e w2 ⟨V, rfl, h2, x2⟩
        obtain ⟨W3, hW3, y3, b3⟩ : ∃ W, W = ((w2.alloc (.cells #[.int .i64 0, .int .i64 0, .int .i64 0, .int .i64 0, .int .i64 0, .int .i64 0, .int .i64 0, .int .i64 0, .slice none 0 0, .slice none 0 0] 25)).setRow w2.heap.size (qstC V Q)) ∧ Ext w2 W ∧ W.heap[w2.heap.size]? = some (.cells (qstC V Q) 25 (0, 0)) := ⟨_, rfl, asked_row _ _ _ _⟩
        have h3 := h2.ext y3
        have x3 := x2.trans y3
        have hlo : w1.heap.size ≤ w2.heap.size := x2.size
        clear h2 x2 y3
        have b3' := b3
        rw [hW3] at b3'
        go_wp2_with (first
          | (refine wpList_store_row rfl 25 (.tmp 4) (.tmp 20) rfl _ _ rfl rfl 25 _ (heap_new_at _ _ (by first | rfl | simp)) (by kernel_rfl) rfl (by simp [qstC, Value.oneCell']) ?_)
          | (refine wpList_load_row rfl 25 (.tmp 4) rfl (w2.heap.size) rfl 25 _ (0, 0) _ b3' Try.underlying25 rfl (by kernel_rfl) ?_))
        rw [← hW3]
        clear hW3 b3'
        generalize w2.heap.size = G at b3 hlo ⊢
        refine (rprint15_any V Q _ h3 n1 n2 hR).mono ?_; rintro e w4 ⟨pb, pq, rfl, pl, pm, hp, y4⟩
        have x4 := x3.trans y4
        have b4 := y4.block b3
        have h4 := h3.ext y4
        clear b3 h3 y4 x3
        rw [HR.out]
        have gR := HX.out _ (x4)
        have xe := He.out.trans (x4)
        go_wp2_with (first
          | (refine wpList_store_row rfl 25 (.tmp 2) (.tmp 35) rfl (w.heap.size) _ rfl rfl 25 _ gR (by kernel_rfl) rfl (by simp [Value.oneCell']) ?_))
        refine bodyPost_ret (results_row_tmp rfl _ _ w.heap.size 25 _ (0, 0) _ rfl (setRow_heap _ _ _ _ _ _ gR) Try.underlying25 rfl (by kernel_rfl)) rfl ?_
        rw [HE.out.1, HE.out.2]
        exact ⟨zeroQV, by rfl, zeroQ_at _, below_setRow xe (Nat.le_refl _) _⟩
      | true =>
        rw [hr, if_pos rfl] at hprN
        by_cases hsn : sayN Q = n
        · have hpn' : prN Q = n := by rw [hprN]; exact hsn
          have HR := Lib.hid hr
          have HQK := Lib.hid hQk
          have hnn : ((n : Int) != (n : Int)) = false := by simp
          have HSN := Lib.hid hsn
          clear hsn hprN hpn hQk hr
          go_enter Try.func18, Try.ntmps18
          go_upto_region 1 with fail
          rw [← hW0]
          clear hW0
          go_wp2_with fail
          refine (rknown15_v HK.out _).mono ?_; rintro e w1 ⟨rfl, rfl⟩
          clear c0
          go_wp2_with fail
          refine (KG.out _ (Ext.refl _)).mono ?_; rintro e w2 ⟨V, rfl, h2, x2⟩
          obtain ⟨W3, hW3, y3, b3⟩ : ∃ W, W = ((w2.alloc (.cells #[.int .i64 0, .int .i64 0, .int .i64 0, .int .i64 0, .int .i64 0, .int .i64 0, .int .i64 0, .int .i64 0, .slice none 0 0, .slice none 0 0] 25)).setRow w2.heap.size (qstC V Q)) ∧ Ext w2 W ∧ W.heap[w2.heap.size]? = some (.cells (qstC V Q) 25 (0, 0)) := ⟨_, rfl, asked_row _ _ _ _⟩
          have h3 := h2.ext y3
          have x3 := x2.trans y3
          have hlo : w1.heap.size ≤ w2.heap.size := x2.size
          clear h2 x2 y3
          have b3' := b3
          rw [hW3] at b3'
          go_wp2_with (first
            | (refine wpList_store_row rfl 25 (.tmp 4) (.tmp 20) rfl _ _ rfl rfl 25 _ (heap_new_at _ _ (by first | rfl | simp)) (by kernel_rfl) rfl (by simp [qstC, Value.oneCell']) ?_)
            | (refine wpList_load_row rfl 25 (.tmp 4) rfl (w2.heap.size) rfl 25 _ (0, 0) _ b3' Try.underlying25 rfl (by kernel_rfl) ?_))
          rw [← hW3]
          clear hW3 b3'
          generalize w2.heap.size = G at b3 hlo ⊢
          refine (rprint15_any V Q _ h3 n1 n2 hR).mono ?_; rintro e w4 ⟨pb, pq, rfl, pl, pm, hp, y4⟩
          rw [hpn'] at pl hp
          rw [hpn', HR.out]
          clear hpn'
          have x4 := x3.trans y4
          have b4 := y4.block b3
          have h4 := h3.ext y4
          clear b3 h3 y4 x3
          obtain ⟨p', o', rfl, hp', hc'⟩ := hp.resolve_left HN0.out
          have HP := Lib.hid hc'
          have HF := Lib.hid (HC.out w4 x4)
          have gR := HX.out _ x4
          have cK : w4.cell? ⟨G, 0, none⟩ = some (.int .i64 Q.k) := cell_of_heap b4 rfl
          have xe := He.out.trans x4
          have H4 := Lib.hid h4
          have HB4 := Lib.hid b4
          have HGR := Lib.hid gR
          have HXE := Lib.hid xe
          clear hp hc' b4 h4 gR xe
          go_wp2_with fail
          go_loopw [7] (fun i wr => ∃ j : Nat, j ≤ n ∧ i = .int .i64 j ∧ (∀ t, t < j → sayF Q t = f t ∨ (f 0 = 15 ∧ t + 1 = n)) ∧ ∃ q, wr = w4.drewN q) (fun i _ => n - (intOf i).toNat)
          case atStart => exact ⟨0, Nat.zero_le _, rfl, fun t ht => absurd ht (by omega), 0, rfl⟩
          case round =>
            obtain ⟨j, hj, rfl, hall0, q, rfl⟩ := hrel
            have hall := Lib.hid hall0
            clear hall0
            by_cases hlt : j < n
            · have c1 := HP.out j hlt
              have c2 := HF.out j hlt
              by_cases hfg : sayF Q j = f j
              · have hfe := Lib.hid hfg
                have hff : (sayF Q j != f j) = false := by simp [hfg]
                clear hfg
                go_wp2
                go_quiet (fail)
                go_wp2
                go_roundw
                case rel => exact ⟨j + 1, by omega, by go_num, fun t ht => by rcases Nat.lt_or_ge t j with h | h; exact hall.out t h; obtain rfl : t = j := by omega
                                                                              exact .inl hfe.out, q + _, rfl⟩
                case measure => simp [intOf]; omega
              · have hff : (sayF Q j != f j) = true := by simp [hfg]
                have HFG := Lib.hid hfg
                clear hfg
                by_cases h15 : Q.k = 15
                · have hkk : (Q.k != 15) = false := by simp [h15]
                  have H15 := Lib.hid (HQK.out.symm.trans h15)
                  clear h15
                  by_cases hl : j + 1 = n
                  · have hld : decide ((j : Int) < (n : Int) - 1) = false := by simp; omega
                    have HL := Lib.hid hl
                    go_wp2
                    go_quiet (fail)
                    go_wp2
                    go_roundw
                    case rel => exact ⟨j + 1, by omega, by go_num, fun t ht => by rcases Nat.lt_or_ge t j with h | h; exact hall.out t h; obtain rfl : t = j := by omega
                                                                                  exact .inr ⟨H15.out, HL.out⟩, q + _, rfl⟩
                    case measure => simp [intOf]; omega
                  · have hld : decide ((j : Int) < (n : Int) - 1) = true := by simp; omega
                    have HE : Hid (paE n f = 3 ∧ paQ n f = zeroQ) := Lib.hid (by
                      rcases HW.out with h | h | h | h
                      · exact absurd h.2 HN0.out
                      · have := HK.out; rw [h.2.2] at this; cases this
                      · exact paQ_no h.1 (by decide)
                      · rcases (HSB.out.1 h.2.2.2).2.2 j hlt with h | h
                        · exact absurd h HFG.out
                        · exact absurd h.2 hl)
                    have HL := Lib.hid hl
                    clear hl
                    go_wp2
                    go_quiet (fail)
                    go_wp2_with (first
                      | (refine wpList_store_row rfl 25 (.tmp 2) (.tmp 63) rfl (w.heap.size) _ rfl rfl 25 _ HGR.out (by kernel_rfl) rfl (by simp [Value.oneCell']) ?_))
                    refine bodyPost_ret (results_row_tmp rfl _ _ w.heap.size 25 _ (0, 0) _ rfl (setRow_heap _ _ _ _ _ _ HGR.out) Try.underlying25 rfl (by kernel_rfl)) rfl ?_
                    rw [HE.out.1, HE.out.2]
                    exact ⟨zeroQV, by rfl, zeroQ_at _, below_setRow (HXE.out.trans (Ext.of_drewN ⟨_, rfl⟩)) (Nat.le_refl _) _⟩
                · have hkk : (Q.k != 15) = true := by simp [h15]
                  have HE : Hid (paE n f = 3 ∧ paQ n f = zeroQ) := Lib.hid (by
                    rcases HW.out with h | h | h | h
                    · exact absurd h.2 HN0.out
                    · have := HK.out; rw [h.2.2] at this; cases this
                    · exact paQ_no h.1 (by decide)
                    · rcases (HSB.out.1 h.2.2.2).2.2 j hlt with h | h
                      · exact absurd h HFG.out
                      · exact absurd (HQK.out.trans h.1) h15)
                  have H15 := Lib.hid h15
                  clear h15
                  go_wp2
                  go_quiet (fail)
                  go_wp2_with (first
                    | (refine wpList_store_row rfl 25 (.tmp 2) (.tmp 63) rfl (w.heap.size) _ rfl rfl 25 _ HGR.out (by kernel_rfl) rfl (by simp [Value.oneCell']) ?_))
                  refine bodyPost_ret (results_row_tmp rfl _ _ w.heap.size 25 _ (0, 0) _ rfl (setRow_heap _ _ _ _ _ _ HGR.out) Try.underlying25 rfl (by kernel_rfl)) rfl ?_
                  rw [HE.out.1, HE.out.2]
                  exact ⟨zeroQV, by rfl, zeroQ_at _, below_setRow (HXE.out.trans (Ext.of_drewN ⟨_, rfl⟩)) (Nat.le_refl _) _⟩
            · have HE : Hid (paE n f = 0 ∧ paQ n f = Q) := Lib.hid (by
                have hs := HSB.out.2 ⟨HR.out, HSN.out, fun i hi => hall.out i (by omega)⟩
                rcases HW.out with h | h | h | h
                · exact absurd h.2 HN0.out
                · have := HK.out; rw [h.2.2] at this; cases this
                · have := h.2.2.2; rw [hs] at this; cases this
                · exact ⟨h.1, HPQ.out h.1⟩)
              go_wp2_with (first
                | (refine wpList_load_row rfl 25 (.tmp 4) rfl G rfl 25 _ (0, 0) _ HB4.out Try.underlying25 rfl (by kernel_rfl) ?_)
                | (refine wpList_store_row rfl 25 (.tmp 2) (.tmp 64) rfl (w.heap.size) _ rfl rfl 25 _ HGR.out (by kernel_rfl) rfl (by simp [qstC, Value.oneCell']) ?_))
              refine bodyPost_ret (results_row_tmp rfl _ _ w.heap.size 25 _ (0, 0) _ rfl (setRow_heap _ _ _ _ _ _ HGR.out) Try.underlying25 rfl (by kernel_rfl)) rfl ?_
              rw [HE.out.1, HE.out.2]
              exact ⟨V, by rfl, setRow_qst _ (H4.out.ext (Ext.of_drewN ⟨_, rfl⟩)) HGR.out, below_setRow (HXE.out.trans (Ext.of_drewN ⟨_, rfl⟩)) (Nat.le_refl _) _⟩
        · have HE : Hid (paE n f = 3 ∧ paQ n f = zeroQ) := Lib.hid (by
            rcases HW.out with h | h | h | h
            · exact absurd h.2 HN0.out
            · have := HK.out; rw [h.2.2] at this; cases this
            · exact paQ_no h.1 (by decide)
            · exact absurd (HSB.out.1 h.2.2.2).2.1 hsn)
          have HR := Lib.hid hr
          have hne : ((prN Q : Int) != (n : Int)) = true := by rw [hprN]; simp; omega
          have hpnI : (prN Q : Int) ≤ 300 := by omega
          clear hsn hprN
          go_enter Try.func18, Try.ntmps18
          go_upto_region 1 with fail
          rw [← hW0]
          clear hW0
          go_wp2_with fail
          refine (rknown15_v HK.out _).mono ?_; rintro e w1 ⟨rfl, rfl⟩
          clear c0
          go_wp2_with fail
          refine (KG.out _ (Ext.refl _)).mono ?_; rintro e w2 ⟨V, rfl, h2, x2⟩
          obtain ⟨W3, hW3, y3, b3⟩ : ∃ W, W = ((w2.alloc (.cells #[.int .i64 0, .int .i64 0, .int .i64 0, .int .i64 0, .int .i64 0, .int .i64 0, .int .i64 0, .int .i64 0, .slice none 0 0, .slice none 0 0] 25)).setRow w2.heap.size (qstC V Q)) ∧ Ext w2 W ∧ W.heap[w2.heap.size]? = some (.cells (qstC V Q) 25 (0, 0)) := ⟨_, rfl, asked_row _ _ _ _⟩
          have h3 := h2.ext y3
          have x3 := x2.trans y3
          have hlo : w1.heap.size ≤ w2.heap.size := x2.size
          clear h2 x2 y3
          have b3' := b3
          rw [hW3] at b3'
          go_wp2_with (first
            | (refine wpList_store_row rfl 25 (.tmp 4) (.tmp 20) rfl _ _ rfl rfl 25 _ (heap_new_at _ _ (by first | rfl | simp)) (by kernel_rfl) rfl (by simp [qstC, Value.oneCell']) ?_)
            | (refine wpList_load_row rfl 25 (.tmp 4) rfl (w2.heap.size) rfl 25 _ (0, 0) _ b3' Try.underlying25 rfl (by kernel_rfl) ?_))
          rw [← hW3]
          clear hW3 b3'
          generalize w2.heap.size = G at b3 hlo ⊢
          refine (rprint15_any V Q _ h3 n1 n2 hR).mono ?_; rintro e w4 ⟨pb, pq, rfl, pl, pm, hp, y4⟩
          have x4 := x3.trans y4
          have b4 := y4.block b3
          have h4 := h3.ext y4
          clear b3 h3 y4 x3
          rw [HR.out]
          have gR := HX.out _ (x4)
          have xe := He.out.trans (x4)
          go_wp2_with (first
            | (refine wpList_store_row rfl 25 (.tmp 2) (.tmp 35) rfl (w.heap.size) _ rfl rfl 25 _ gR (by kernel_rfl) rfl (by simp [Value.oneCell']) ?_))
          refine bodyPost_ret (results_row_tmp rfl _ _ w.heap.size 25 _ (0, 0) _ rfl (setRow_heap _ _ _ _ _ _ gR) Try.underlying25 rfl (by kernel_rfl)) rfl ?_
          rw [HE.out.1, HE.out.2]
          exact ⟨zeroQV, by rfl, zeroQ_at _, below_setRow xe (Nat.le_refl _) _⟩
end Go.Proofs.Ytokfgdjkafiicaa
