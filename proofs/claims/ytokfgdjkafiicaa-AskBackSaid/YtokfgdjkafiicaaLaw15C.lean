/-
  THE LAWS OF LAYER 15: AskBack.
-/
import Derived.Test.YtokfgdjkafiicaaLaw15A
namespace Go.Proofs.Ytokfgdjkafiicaa
open Go.RowKit
set_option linter.unusedVariables false
set_option maxRecDepth 100000

theorem sayF_bd {Q : Qst} (h : rightQ Q = true) (hR : ∀ i, i < Q.nr → 0 ≤ Q.R i ∧ Q.R i < 65536) : ∀ i, i < sayN Q → 0 ≤ sayF Q i ∧ sayF Q i < 256 := by
  intro i hi
  have hk := (known_iff _).1 ((rightQ_iff Q).1 h).1
  have hn := numF_bd h
  obtain ⟨t1, t2, t3⟩ := tail_cat h
  unfold sayF
  by_cases h0 : i = 0
  · rw [if_pos h0]; omega
  · rw [if_neg h0]
    by_cases h1 : i < 1 + 2 * numN Q
    · rw [if_pos h1]
      exact putF_bd (numF Q) (numN Q) hn _ (by omega)
    · rw [if_neg h1]
      have hj : i - (1 + 2 * numN Q) < tailN Q := by unfold sayN at hi; omega
      rw [t3 _ hj]
      split
      · omega
      · unfold catF
        split
        · exact pkF_bd _ _ _
        · refine putF_bd Q.R Q.nr hR _ ?_
          rw [t1] at hj
          split at hj <;> omega
/-- What is understood is told in numbers of its kind. -/
theorem par_R {n : Nat} {f : Nat → Int} (hn : n ≤ 100000) (hf : ∀ i, i < n → 0 ≤ f i ∧ f i < 256) : (paQ n f).nb ≤ 1000000 ∧ (paQ n f).nr ≤ 1000000 ∧ ∀ i, i < (paQ n f).nr → 0 ≤ (paQ n f).R i ∧ (paQ n f).R i < 65536 := by
  unfold paQ
  split
  · exact gue_small hn hf
  · exact ⟨Nat.zero_le _, Nat.zero_le _, fun i hi => absurd hi (Nat.not_lt_zero i)⟩
theorem zero_same : sameQ zeroQ zeroQ = true := by decide
set_option maxHeartbeats 16000000 in
theorem askBack.walk (V : QstV) (Q : Qst) (a : Option Addr) (n c : Nat) (f : Nat → Int) (w : World) (h : QstAt w V Q) (hq : QstW Q) (nb1 : Q.nb ≤ 1000000000000000) (nr1 : Q.nr ≤ 1000000000000000) (ha : Holds .u8 w a n f) (hnc : n ≤ c) (hcr : c * 1 ≤ 140737488351232) (hwf : ∀ i, i < n → (Lit.int .u8 (f i)).wf = true) :
    Calls Try.prog 5 #[.agg (qstC V Q), .slice a n c] w fun e w' => e = .returned (.bool true) ∧ Ext w w' := by
  have HSU := Lib.hid sure15
  have hf : ∀ i, i < n → 0 ≤ f i ∧ f i < 256 := fun i hi => by have := hwf i hi; simp [Lit.wf, IntKind.min, IntKind.max, IntKind.signed, IntKind.bits] at this; omega
  have hcm : c ≤ maxLen := by unfold maxLen; omega
  clear hwf
  obtain ⟨W0, hW0, e0, HX⟩ : ∃ W0, W0 = w.alloc (.cells (qstC V Q) 25) ∧ Ext w W0 ∧ Hid (∀ W, Ext W0 W → W.heap[w.heap.size]? = some (.cells (qstC V Q) 25 (0, 0))) := ⟨_, rfl, Ext.alloc w _, Lib.hid fun W hx => hx.block (heap_alloc_new w _)⟩
  have b1 := HX.out _ (Ext.refl W0)
  cases hfw : fewQ Q with
  | false =>
    have KF := Lib.hid (fun W => rfew15_v (V := V) hfw nb1 nr1 W)
    clear h hq ha hf hfw
    go_enter Try.func5, Try.ntmps5
    go_upto_region 1 with fail
    rw [← hW0]
    clear hW0
    go_wp2_with (first
      | (refine wpList_load_row rfl 25 (.tmp 2) rfl w.heap.size rfl 25 _ (0, 0) _ b1 Try.underlying25 rfl (by kernel_rfl) ?_))
    refine (KF.out _).mono ?_; rintro e w3 ⟨rfl, x3⟩
    go_wp2_with fail
    refine (HSU.out _).mono ?_; rintro e w4 ⟨rfl, x4⟩
    go_wp2
    go_ret
    exact ⟨rfl, (e0.trans x3).trans x4⟩
  | true =>
   have KF := Lib.hid (fun W => rfew15_v (V := V) hfw nb1 nr1 W)
   obtain ⟨m1, m2⟩ := (fewQ_iff Q).1 hfw
   by_cases h6 : 600 < n
   · have h6I : (600 : Int) < n := by omega
     clear h hq ha hf hfw m1 m2 h6
     go_enter Try.func5, Try.ntmps5
     go_upto_region 1 with fail
     rw [← hW0]
     clear hW0
     go_wp2_with (first
       | (refine wpList_load_row rfl 25 (.tmp 2) rfl w.heap.size rfl 25 _ (0, 0) _ b1 Try.underlying25 rfl (by kernel_rfl) ?_))
     refine (KF.out _).mono ?_; rintro e w3 ⟨rfl, x3⟩
     go_wp2_with fail
     refine (HSU.out _).mono ?_; rintro e w4 ⟨rfl, x4⟩
     go_wp2
     go_ret
     exact ⟨rfl, (e0.trans x3).trans x4⟩
   · have h6I : ¬ (600 : Int) < n := by omega
     have hn6 : n ≤ 600 := by omega
     have KP := Lib.hid (fun W (x : Ext w W) => aprint_any V Q W (h.ext x) (by omega) (by omega) hq.wR)
     have HQA := Lib.hid (fun W (x : Ext w W) => h.ext x)
     have HN12 : Hid (Q.nb ≤ 1000000 ∧ Q.nr ≤ 1000000) := Lib.hid ⟨by omega, by omega⟩
     have HQR := Lib.hid hq.wR
     have KPa := Lib.hid (fun W (x : Ext w W) => aparse_any a n c f W (ha.ext x) (by omega) hnc hcm hf)
     have HA := Lib.hid (fun W (x : Ext w W) => ha.ext x)
     have HFB := Lib.hid hf
     have HPR := Lib.hid (par_R (n := n) (f := f) (by omega) hf)
     have HPt := Lib.hid (fun h15 => parse_tidy (n := n) (f := f) hf · h15)
     clear h hq hfw m1 m2 h6 hf nb1 nr1 ha
     unfold PrA at KP
     have HNE : Hid ((rightQ Q = false → prE Q = 11) ∧ (rightQ Q = true → prE Q = 0 ∧ prN Q = sayN Q)) := Lib.hid ⟨fun h => (prE_no h).1, fun h => prE_yes h⟩
     generalize prN Q = N at KP HNE
     generalize prE Q = E at KP HNE
     go_enter Try.func5, Try.ntmps5
     go_upto_region 1 with fail
     rw [← hW0]
     clear hW0
     go_wp2_with (first
       | (refine wpList_load_row rfl 25 (.tmp 2) rfl w.heap.size rfl 25 _ (0, 0) _ b1 Try.underlying25 rfl (by kernel_rfl) ?_))
     refine (KF.out _).mono ?_; rintro e w3 ⟨rfl, x3⟩
     have b3 := HX.out _ x3
     clear b1 KF
     go_wp2_with (first
       | (refine wpList_load_row rfl 25 (.tmp 2) rfl w.heap.size rfl 25 _ (0, 0) _ b3 Try.underlying25 rfl (by kernel_rfl) ?_))
     refine (KP.out _ (e0.trans x3)).mono ?_; rintro e w4 ⟨pb, pq, rfl, hpq, hpm, hp, x4⟩
     have x4 := x3.trans x4
     clear b3 x3 KP
     go_upto_if 28 with fail
     go_cut [6] from 28 to 51 (fun v wx => Ext W0 wx)
     case first => as_aux_lemma =>
       cases hr : rightQ Q with
       | false =>
         have hEb : (E == 0) = false := by rw [HNE.out.1 hr]; rfl
         clear hp hpq
         go_wp2_with fail
         go_meet
         exact x4
       | true =>
         obtain ⟨e1, e2⟩ := HNE.out.2 hr
         have hEb : (E == 0) = true := by rw [e1]; rfl
         obtain ⟨p1, p2⟩ := say_parse hr HQR.out
         obtain ⟨z1, z2⟩ := say_size hr
         have hsb := sayF_bd hr HQR.out
         rw [← e2] at p1 p2 z1 z2 hsb
         have KB := Lib.hid (aparse_v p1 rfl w4 hp (by omega) hpq hpm hsb)
         have HS := Lib.hid ((sameQ_iff _ _).2 p2)
         have HPP := Lib.hid (par_R (n := N) (f := sayF Q) (by omega) hsb)
         generalize paQ N (sayF Q) = P at KB HS HPP
         have hz1 : ¬ (253 : Int) < N := by omega
         have hz2 : ¬ (N : Int) < 5 := by omega
         have hd1 : decide ((253 : Int) < N) = false := decide_eq_false hz1
         have hd2 : decide ((N : Int) < 5) = false := decide_eq_false hz2
         clear e1 e2 p1 p2 hsb hp hr
         go_wp2_with fail
         refine KB.out.mono ?_; rintro e w5 ⟨U, rfl, hu, x5⟩
         obtain ⟨W6, hWW6, yW6, rW6⟩ : ∃ W, W = ((w5.alloc (.cells #[.int .i64 0, .int .i64 0, .int .i64 0, .int .i64 0, .int .i64 0, .int .i64 0, .int .i64 0, .int .i64 0, .slice none 0 0, .slice none 0 0] 25)).setRow w5.heap.size (qstC U P)) ∧ Ext w5 W ∧ W.heap[w5.heap.size]? = some (.cells (qstC U P) 25 (0, 0)) := ⟨_, rfl, asked_row _ _ _ _⟩
         have x6 := (x4.trans x5).trans yW6
         have hu := hu.ext yW6
         have b6 := HX.out _ x6
         have hv := HQA.out _ (e0.trans x6)
         have g6 := rW6
         have b6' := b6
         rw [hWW6] at b6' g6
         clear yW6 rW6 x5 KB
         go_wp2_with (first
           | (refine wpList_store_row rfl 25 (.tmp 7) (.tmp 32) rfl _ _ rfl rfl 25 _ (heap_new_at _ _ (by first | rfl | simp)) (by kernel_rfl) rfl (by simp [qstC, Value.oneCell']) ?_)
           | (refine wpList_load_row_g (by rfl) 25 (.tmp 2) rfl w.heap.size rfl 25 _ (0, 0) _ b6' Try.underlying25 rfl (by kernel_rfl) ?_)
           | (refine wpList_load_row_g (by rfl) 25 (.tmp 7) rfl w5.heap.size rfl 25 _ (0, 0) _ g6 Try.underlying25 rfl (by kernel_rfl) ?_))
         rw [← hWW6]
         clear hWW6 b6' g6 b6
         refine (rsame15_any V Q U P _ hv hu HN12.out.1 HN12.out.2 HPP.out.1 HPP.out.2.1).mono ?_; rintro e w7 ⟨rfl, x7⟩
         rw [HS.out]
         have x7 := x6.trans x7
         clear hu hv HPP HS
         go_wp2_with fail
         go_meet
         exact x7
     case rest =>
       have xc := hcut
       clear hcut hp hpq hpm x4 HQA HQR HN12 HX
       go_wp2_with fail
       refine (KPa.out _ (e0.trans xc)).mono ?_; rintro e w5 ⟨U, rfl, hu, x5⟩
       have x5 := xc.trans x5
       clear xc KPa
       by_cases hE : paE n f = 0
       · obtain ⟨hPg, hPr, hPn, hPs, hPk⟩ := parse_parts hE
         have KW := HPR.out.2.2
         have KR0 := HPR.out
         have hpe := prE_yes hPr
         have HTy := Lib.hid (fun h15 => HPt.out hE h15)
         have HCt : Hid (f 0 = 15 → 0 ≤ (paQ n f).ct ∧ (paQ n f).ct ≤ 65535) := Lib.hid (fun h15 => by
           have := (fits_bits (hPk.trans h15) ((rightQ_iff _).1 hPr).2.2.2).1
           omega)
         have h5 : 5 ≤ n := by have := (say_size hPr).1; omega
         rw [hE]
         clear hPg HPt HPR
         generalize paQ n f = P at *
         have hpe1 := hpe.1
         have hpe2 : prN P = n := hpe.2.trans hPn
         have HS := Lib.hid hPs
         have hPk2 : P.k = f 0 := hPk
         clear hpe hPn hPs hE hPk
         obtain ⟨W6, hWW6, yW6, rW6⟩ : ∃ W, W = ((w5.alloc (.cells #[.int .i64 0, .int .i64 0, .int .i64 0, .int .i64 0, .int .i64 0, .int .i64 0, .int .i64 0, .int .i64 0, .slice none 0 0, .slice none 0 0] 25)).setRow w5.heap.size (qstC U P)) ∧ Ext w5 W ∧ W.heap[w5.heap.size]? = some (.cells (qstC U P) 25 (0, 0)) := ⟨_, rfl, asked_row _ _ _ _⟩
         have x6 := x5.trans yW6
         have hu := hu.ext yW6
         have g6 := rW6
         rw [hWW6] at g6
         clear yW6 x5
         go_wp2_with (first
           | (refine wpList_store_row rfl 25 (.tmp 9) (.tmp 55) rfl _ _ rfl rfl 25 _ (heap_new_at _ _ (by first | rfl | simp)) (by kernel_rfl) rfl (by simp [qstC, Value.oneCell']) ?_)
           | (refine wpList_load_row rfl 25 (.tmp 9) rfl w5.heap.size rfl 25 _ (0, 0) _ g6 Try.underlying25 rfl (by kernel_rfl) ?_))
         rw [← hWW6]
         clear hWW6 g6
         generalize w5.heap.size = G at rW6 ⊢
         refine (aprint_v (V := U) hpe2 hpe1 W6 hu KR0.1 KR0.2.1 KR0.2.2).mono ?_; rintro e w7 ⟨xb, xq, rfl, hxq, hxm, hx, x7⟩
         have g7 := x7.block rW6
         have hu := hu.ext x7
         have x7 := x6.trans x7
         clear rW6 x6 hpe1 hpe2
         have hne : ((n : Int) != (n : Int)) = false := by simp
         go_wp2_with (first
           | (refine wpList_load_row_g (by rfl) 25 (.tmp 9) rfl G rfl 25 _ (0, 0) _ g7 Try.underlying25 rfl (by kernel_rfl) ?_))
         refine (aright_v hPr _ hu KR0.1 KR0.2.1).mono ?_; rintro e w8 ⟨rfl, x8⟩
         have g8 := x8.block g7
         have hx := hx.ext x8
         have x8 := x7.trans x8
         clear g7 x7 hu KR0 KW hPr
         go_wp2_with fail
         obtain ⟨k, hk⟩ : ∃ k, P.k = k := ⟨_, rfl⟩
         obtain ⟨ct, hct⟩ : ∃ ct, P.ct = ct := ⟨_, rfl⟩
         have hkf : k = f 0 := hk.symm.trans hPk2
         have HKf := Lib.hid hkf
         clear hkf hPk2
         rw [hct] at HTy HCt
         have hnz : n ≠ 0 := by omega
         obtain ⟨b, off, rfl, hb, hc⟩ := (HA.out w (Ext.refl w)).resolve_left hnz
         clear hb hc
         obtain ⟨X, hX⟩ : ∃ X, X = w8.drew := ⟨_, rfl⟩
         have xX : Ext w8 X := by rw [hX]; exact Ext.drew _
         have hs : Ext X X := Ext.refl _
         refine wp_region_held_drew (S := fun W => Ext X W) (by kernel_rfl) (by rw [← hX]; exact hs) (fun _ => ?_)
         rw [← hX]
         have x8 := x8.trans xX
         have g8 := xX.block g8
         have hx := hx.ext xX
         clear hX xX
         have HC := Lib.hid (fun W (x : Ext X W) => (⟨by rw [← hk]; exact cell_of_heap (x.block g8) rfl, by rw [← hct]; exact cell_of_heap (x.block g8) rfl⟩ : W.cell? ⟨G, 0, none⟩ = some (.int .i64 k) ∧ W.cell? ⟨G, 2, none⟩ = some (.int .i64 ct)))
         have HXx := Lib.hid (fun W (x : Ext X W) => hx.ext x)
         have HXe := Lib.hid (fun W (x : Ext X W) => e0.trans (x8.trans x))
         clear hx g8 x8 hk hct
         by_cases h15 : k = 15
         · have h15' : f 0 = 15 := HKf.out.symm.trans h15
           obtain ⟨hn6', htd⟩ := HTy.out h15'
           have hctb := HCt.out h15'
           subst h15
           obtain ⟨TD, hTD⟩ : ∃ TD, tdB (fun i => f (6 + i)) (n - 6) ct = TD := ⟨_, rfl⟩
           rw [hTD] at htd
           have KT := Lib.hid (fun W (x : Ext X W) => (tidy_v (some ⟨b, off + 6, none⟩) (n - 6) (c - 6) (fun i => f (6 + i)) ct TD W (HoldsG.drop (mk := Value.int .u8) (HA.out W (HXe.out W x)) (k := 6)) (by omega) (fun i hi => HFB.out _ (by omega)) (by omega) (by omega) hTD).mono fun e w' hh => (⟨hh.1, Ext.of_eq hh.2⟩ : e = .returned (.bool TD) ∧ Ext W w'))
           have HTD := Lib.hid htd
           have hc6 : ¬ c = 6 := by omega
           have hn6I : (6 : Int) ≤ n := by omega
           have hc6I : (6 : Int) ≤ c := by omega
           clear hTD htd hctb h15' HTy HCt
           cases TD with
           | true =>
             have HEq := Lib.hid (HTD.out.1 rfl)
             refine wpAnyH_takeD (i := 0) (d := 84) (v := .pointer (some ⟨G, 0, none⟩)) rfl rfl (by kernel_rfl) (by kernel_rfl) (by kernel_rfl) (fun _ _ _ h => h) (Or.inl ⟨by rfl, fun W hW => by go_simp⟩) hs ?_
             simp only [Act.put, List.setIfInBounds_toArray, List.set_cons_succ, List.set_cons_zero]
             refine wpAnyH_takeD (i := 1) (d := 85) (v := .int .i64 15) rfl rfl (by kernel_rfl) (by kernel_rfl) (by kernel_rfl) (fun _ _ _ h => h) (Or.inl ⟨by rfl, fun W hW => by obtain ⟨c0, c2⟩ := HC.out W hW; go_simp⟩) hs ?_
             simp only [Act.put, List.setIfInBounds_toArray, List.set_cons_succ, List.set_cons_zero]
             refine wpAnyH_takeD (i := 2) (d := 86) (v := .bool true) rfl rfl (by kernel_rfl) (by kernel_rfl) (by kernel_rfl) (fun _ _ _ h => h) (Or.inl ⟨by rfl, fun W hW => by go_simp⟩) hs ?_
             simp only [Act.put, List.setIfInBounds_toArray, List.set_cons_succ, List.set_cons_zero]
             refine wpAnyH_takeD (i := 3) (d := 87) (v := .bool true) rfl rfl (by kernel_rfl) (by kernel_rfl) (by kernel_rfl) (fun _ _ _ h => h) (Or.inl ⟨by rfl, fun W hW => by go_simp⟩) hs ?_
             simp only [Act.put, List.setIfInBounds_toArray, List.set_cons_succ, List.set_cons_zero]
             refine wpAnyH_takeD (i := 4) (d := 88) (v := .slice (some ⟨b, off, none⟩) n c) rfl rfl (by kernel_rfl) (by kernel_rfl) (by kernel_rfl) (fun _ _ _ h => h) (Or.inl ⟨by rfl, fun W hW => by go_simp⟩) hs ?_
             simp only [Act.put, List.setIfInBounds_toArray, List.set_cons_succ, List.set_cons_zero]
             refine wpAnyH_takeD (i := 5) (d := 89) (v := .slice (some ⟨b, off + 6, none⟩) (n - 6) (c - 6)) rfl rfl (by kernel_rfl) (by kernel_rfl) (by kernel_rfl) (fun _ _ _ h => h) (Or.inl ⟨by rfl, fun W hW => by go_simp⟩) hs ?_
             simp only [Act.put, List.setIfInBounds_toArray, List.set_cons_succ, List.set_cons_zero]
             refine wpAnyH_takeD (i := 6) (d := 90) (v := .pointer (some ⟨G, 2, none⟩)) rfl rfl (by kernel_rfl) (by kernel_rfl) (by kernel_rfl) (fun _ _ _ h => h) (Or.inl ⟨by rfl, fun W hW => by go_simp⟩) hs ?_
             simp only [Act.put, List.setIfInBounds_toArray, List.set_cons_succ, List.set_cons_zero]
             refine wpAnyH_takeD (i := 7) (d := 91) (v := .int .i64 ct) rfl rfl (by kernel_rfl) (by kernel_rfl) (by kernel_rfl) (fun _ _ _ h => h) (Or.inl ⟨by rfl, fun W hW => by obtain ⟨c0, c2⟩ := HC.out W hW; go_simp⟩) hs ?_
             simp only [Act.put, List.setIfInBounds_toArray, List.set_cons_succ, List.set_cons_zero]
             refine wpAnyH_ready (rs := [8]) (by kernel_rfl) (by simp) (AllReadyH.cons rfl (fun K hK => ?_) AllReadyH.nil)
             go_simp
             go_at_call 19
             refine (KT.out _ hs).mono ?_; rintro e Wc ⟨rfl, y⟩
             go_wp2_with fail
             refine hK.out _ _ (hs.trans y) (fun hs => ?_)
             clear hK K y
             refine wpAnyH_takeD (i := 9) (d := 93) (v := .bool false) rfl rfl (by kernel_rfl) (by kernel_rfl) (by kernel_rfl) (fun _ _ _ h => h) (Or.inl ⟨by rfl, fun W hW => by go_simp⟩) hs ?_
             simp only [Act.put, List.setIfInBounds_toArray, List.set_cons_succ, List.set_cons_zero]
             refine wpAnyH_takeD (i := 10) (d := 94) (v := .bool false) rfl rfl (by kernel_rfl) (by kernel_rfl) (by kernel_rfl) (fun _ _ _ h => h) (Or.inl ⟨by rfl, fun W hW => by go_simp⟩) hs ?_
             simp only [Act.put, List.setIfInBounds_toArray, List.set_cons_succ, List.set_cons_zero]
             refine wpAnyH_done (by kernel_rfl) ?_ _
             go_wp2_with fail
             refine (bytes_eq xb (some ⟨b, off, none⟩) n n xq c (sayF P) f _ (HXx.out _ hs) (HA.out _ (HXe.out _ hs)) (by omega) ⟨rfl, HEq.out⟩).mono ?_; rintro e w9 ⟨rfl, x9⟩
             go_wp2_with fail
             refine (HSU.out _).mono ?_; rintro e wA ⟨rfl, xA⟩
             go_wp2
             go_ret
             exact ⟨rfl, ((HXe.out _ hs).trans x9).trans xA⟩
           | false =>
             have HNe : Hid (∃ i, i < n ∧ sayF P i ≠ f i) := Lib.hid (by
               rcases Decidable.em (∃ i, i < n ∧ sayF P i ≠ f i) with h | h
               · exact h
               · have : false = true := HTD.out.2 (fun i hi => by
                   rcases Decidable.em (sayF P i = f i) with e | e
                   · exact e
                   · exact absurd ⟨i, hi, e⟩ h)
                 cases this)
             have HL : Hid (∀ i, i < n - 1 → sayF P i = f i) := Lib.hid (fun i hi => by
               rcases HS.out i (by omega) with h | h
               · exact h
               · omega)
             refine wpAnyH_takeD (i := 0) (d := 84) (v := .pointer (some ⟨G, 0, none⟩)) rfl rfl (by kernel_rfl) (by kernel_rfl) (by kernel_rfl) (fun _ _ _ h => h) (Or.inl ⟨by rfl, fun W hW => by go_simp⟩) hs ?_
             simp only [Act.put, List.setIfInBounds_toArray, List.set_cons_succ, List.set_cons_zero]
             refine wpAnyH_takeD (i := 1) (d := 85) (v := .int .i64 15) rfl rfl (by kernel_rfl) (by kernel_rfl) (by kernel_rfl) (fun _ _ _ h => h) (Or.inl ⟨by rfl, fun W hW => by obtain ⟨c0, c2⟩ := HC.out W hW; go_simp⟩) hs ?_
             simp only [Act.put, List.setIfInBounds_toArray, List.set_cons_succ, List.set_cons_zero]
             refine wpAnyH_takeD (i := 2) (d := 86) (v := .bool true) rfl rfl (by kernel_rfl) (by kernel_rfl) (by kernel_rfl) (fun _ _ _ h => h) (Or.inl ⟨by rfl, fun W hW => by go_simp⟩) hs ?_
             simp only [Act.put, List.setIfInBounds_toArray, List.set_cons_succ, List.set_cons_zero]
             refine wpAnyH_takeD (i := 3) (d := 87) (v := .bool true) rfl rfl (by kernel_rfl) (by kernel_rfl) (by kernel_rfl) (fun _ _ _ h => h) (Or.inl ⟨by rfl, fun W hW => by go_simp⟩) hs ?_
             simp only [Act.put, List.setIfInBounds_toArray, List.set_cons_succ, List.set_cons_zero]
             refine wpAnyH_takeD (i := 4) (d := 88) (v := .slice (some ⟨b, off, none⟩) n c) rfl rfl (by kernel_rfl) (by kernel_rfl) (by kernel_rfl) (fun _ _ _ h => h) (Or.inl ⟨by rfl, fun W hW => by go_simp⟩) hs ?_
             simp only [Act.put, List.setIfInBounds_toArray, List.set_cons_succ, List.set_cons_zero]
             refine wpAnyH_takeD (i := 5) (d := 89) (v := .slice (some ⟨b, off + 6, none⟩) (n - 6) (c - 6)) rfl rfl (by kernel_rfl) (by kernel_rfl) (by kernel_rfl) (fun _ _ _ h => h) (Or.inl ⟨by rfl, fun W hW => by go_simp⟩) hs ?_
             simp only [Act.put, List.setIfInBounds_toArray, List.set_cons_succ, List.set_cons_zero]
             refine wpAnyH_takeD (i := 6) (d := 90) (v := .pointer (some ⟨G, 2, none⟩)) rfl rfl (by kernel_rfl) (by kernel_rfl) (by kernel_rfl) (fun _ _ _ h => h) (Or.inl ⟨by rfl, fun W hW => by go_simp⟩) hs ?_
             simp only [Act.put, List.setIfInBounds_toArray, List.set_cons_succ, List.set_cons_zero]
             refine wpAnyH_takeD (i := 7) (d := 91) (v := .int .i64 ct) rfl rfl (by kernel_rfl) (by kernel_rfl) (by kernel_rfl) (fun _ _ _ h => h) (Or.inl ⟨by rfl, fun W hW => by obtain ⟨c0, c2⟩ := HC.out W hW; go_simp⟩) hs ?_
             simp only [Act.put, List.setIfInBounds_toArray, List.set_cons_succ, List.set_cons_zero]
             refine wpAnyH_ready (rs := [8]) (by kernel_rfl) (by simp) (AllReadyH.cons rfl (fun K hK => ?_) AllReadyH.nil)
             go_simp
             go_at_call 19
             refine (KT.out _ hs).mono ?_; rintro e Wc ⟨rfl, y⟩
             go_wp2_with fail
             refine hK.out _ _ (hs.trans y) (fun hs => ?_)
             clear hK K y
             refine wpAnyH_takeD (i := 9) (d := 93) (v := .bool true) rfl rfl (by kernel_rfl) (by kernel_rfl) (by kernel_rfl) (fun _ _ _ h => h) (Or.inl ⟨by rfl, fun W hW => by go_simp⟩) hs ?_
             simp only [Act.put, List.setIfInBounds_toArray, List.set_cons_succ, List.set_cons_zero]
             refine wpAnyH_takeD (i := 10) (d := 94) (v := .bool true) rfl rfl (by kernel_rfl) (by kernel_rfl) (by kernel_rfl) (fun _ _ _ h => h) (Or.inl ⟨by rfl, fun W hW => by go_simp⟩) hs ?_
             simp only [Act.put, List.setIfInBounds_toArray, List.set_cons_succ, List.set_cons_zero]
             refine wpAnyH_done (by kernel_rfl) ?_ _
             go_wp2_with fail
             obtain ⟨Y, hY⟩ : ∃ Y, Y = Wc.drew := ⟨_, rfl⟩
             have xY : Ext X Y := by rw [hY]; exact hs.trans (Ext.drew _)
             have hs : Ext Y Y := Ext.refl _
             refine wp_region_held_drew (S := fun W => Ext Y W) (by kernel_rfl) (by rw [← hY]; exact hs) (fun _ => ?_)
             rw [← hY]
             clear hY
             have hXY := Lib.hid xY
             have KB1 := Lib.hid (fun W (x : Ext Y W) => (bytes_any xb (some ⟨b, off, none⟩) n n xq c (sayF P) f W (HXx.out _ (hXY.out.trans x)) (HA.out _ (HXe.out _ (hXY.out.trans x))) (by omega) (by omega)).mono fun e w' hh => (⟨by rw [hh.1, eqB_false (.inr HNe.out)], Ext.of_drewN hh.2⟩ : e = .returned (.bool false) ∧ Ext W w'))
             have KB2 := Lib.hid (fun W (x : Ext Y W) => bytes_eq xb (some ⟨b, off, none⟩) (n - 1) (n - 1) xq c (sayF P) f W (HoldsG.take (mk := Value.int .u8) (HXx.out _ (hXY.out.trans x)) (by omega)) (HoldsG.take (mk := Value.int .u8) (HA.out _ (HXe.out _ (hXY.out.trans x))) (by omega)) (by omega) ⟨rfl, HL.out⟩)
             have hw1 : IntKind.i64.wrap ((n : Int) - 1) = (n : Int) - 1 := IntWalk.i64_in _ (by omega)
             have htn : ((n : Int) - 1).toNat = n - 1 := by omega
             have hl0 : 0 ≤ (n : Int) - 1 := by omega
             have hl3 : ¬ (n : Int) < 1 := by omega
             have hl1 : (n : Int) - 1 ≤ xq := by omega
             have hl2 : (n : Int) - 1 ≤ c := by omega
             refine wpAnyH_takeD (i := 0) (d := 95) (v := .slice xb n xq) rfl rfl (by kernel_rfl) (by kernel_rfl) (by kernel_rfl) (fun _ _ _ h => h) (Or.inl ⟨by rfl, fun W hW => by go_simp⟩) hs ?_
             simp only [Act.put, List.setIfInBounds_toArray, List.set_cons_succ, List.set_cons_zero]
             refine wpAnyH_takeD (i := 1) (d := 96) (v := .slice (some ⟨b, off, none⟩) n c) rfl rfl (by kernel_rfl) (by kernel_rfl) (by kernel_rfl) (fun _ _ _ h => h) (Or.inl ⟨by rfl, fun W hW => by go_simp⟩) hs ?_
             simp only [Act.put, List.setIfInBounds_toArray, List.set_cons_succ, List.set_cons_zero]
             refine wpAnyH_ready (rs := [2]) (by kernel_rfl) (by simp) (AllReadyH.cons rfl (fun K hK => ?_) AllReadyH.nil)
             go_simp
             go_at_call 14
             refine (KB1.out _ hs).mono ?_; rintro e Wc ⟨rfl, y⟩
             go_wp2_with fail
             refine hK.out _ _ (hs.trans y) (fun hs => ?_)
             clear hK K y
             refine wpAnyH_takeD (i := 3) (d := 98) (v := .bool true) rfl rfl (by kernel_rfl) (by kernel_rfl) (by kernel_rfl) (fun _ _ _ h => h) (Or.inl ⟨by rfl, fun W hW => by go_simp⟩) hs ?_
             simp only [Act.put, List.setIfInBounds_toArray, List.set_cons_succ, List.set_cons_zero]
             refine wpAnyH_takeD (i := 4) (d := 99) (v := .bool true) rfl rfl (by kernel_rfl) (by kernel_rfl) (by kernel_rfl) (fun _ _ _ h => h) (Or.inl ⟨by rfl, fun W hW => by go_simp⟩) hs ?_
             simp only [Act.put, List.setIfInBounds_toArray, List.set_cons_succ, List.set_cons_zero]
             refine wpAnyH_takeD (i := 5) (d := 100) (v := .slice xb n xq) rfl rfl (by kernel_rfl) (by kernel_rfl) (by kernel_rfl) (fun _ _ _ h => h) (Or.inl ⟨by rfl, fun W hW => by go_simp⟩) hs ?_
             simp only [Act.put, List.setIfInBounds_toArray, List.set_cons_succ, List.set_cons_zero]
             refine wpAnyH_takeD (i := 6) (d := 101) (v := .slice xb n xq) rfl rfl (by kernel_rfl) (by kernel_rfl) (by kernel_rfl) (fun _ _ _ h => h) (Or.inl ⟨by rfl, fun W hW => by go_simp⟩) hs ?_
             simp only [Act.put, List.setIfInBounds_toArray, List.set_cons_succ, List.set_cons_zero]
             refine wpAnyH_takeD (i := 7) (d := 102) (v := .int .i64 n) rfl rfl (by kernel_rfl) (by kernel_rfl) (by kernel_rfl) (fun _ _ _ h => h) (Or.inl ⟨by rfl, fun W hW => by go_simp⟩) hs ?_
             simp only [Act.put, List.setIfInBounds_toArray, List.set_cons_succ, List.set_cons_zero]
             refine wpAnyH_takeD (i := 8) (d := 103) (v := .int .i64 ((n : Int) - 1)) rfl rfl (by kernel_rfl) (by kernel_rfl) (by kernel_rfl) (fun _ _ _ h => h) (Or.inl ⟨by rfl, fun W hW => by go_simp⟩) hs ?_
             simp only [Act.put, List.setIfInBounds_toArray, List.set_cons_succ, List.set_cons_zero]
             refine wpAnyH_takeD (i := 9) (d := 104) (v := .slice xb (n - 1) xq) rfl rfl (by kernel_rfl) (by kernel_rfl) (by kernel_rfl) (fun _ _ _ h => h) (Or.inl ⟨by rfl, fun W hW => by go_simp⟩) hs ?_
             simp only [Act.put, List.setIfInBounds_toArray, List.set_cons_succ, List.set_cons_zero]
             refine wpAnyH_takeD (i := 10) (d := 105) (v := .slice (some ⟨b, off, none⟩) n c) rfl rfl (by kernel_rfl) (by kernel_rfl) (by kernel_rfl) (fun _ _ _ h => h) (Or.inl ⟨by rfl, fun W hW => by go_simp⟩) hs ?_
             simp only [Act.put, List.setIfInBounds_toArray, List.set_cons_succ, List.set_cons_zero]
             refine wpAnyH_takeD (i := 11) (d := 106) (v := .slice xb n xq) rfl rfl (by kernel_rfl) (by kernel_rfl) (by kernel_rfl) (fun _ _ _ h => h) (Or.inl ⟨by rfl, fun W hW => by go_simp⟩) hs ?_
             simp only [Act.put, List.setIfInBounds_toArray, List.set_cons_succ, List.set_cons_zero]
             refine wpAnyH_takeD (i := 12) (d := 107) (v := .int .i64 n) rfl rfl (by kernel_rfl) (by kernel_rfl) (by kernel_rfl) (fun _ _ _ h => h) (Or.inl ⟨by rfl, fun W hW => by go_simp⟩) hs ?_
             simp only [Act.put, List.setIfInBounds_toArray, List.set_cons_succ, List.set_cons_zero]
             refine wpAnyH_takeD (i := 13) (d := 108) (v := .int .i64 ((n : Int) - 1)) rfl rfl (by kernel_rfl) (by kernel_rfl) (by kernel_rfl) (fun _ _ _ h => h) (Or.inl ⟨by rfl, fun W hW => by go_simp⟩) hs ?_
             simp only [Act.put, List.setIfInBounds_toArray, List.set_cons_succ, List.set_cons_zero]
             refine wpAnyH_takeD (i := 14) (d := 109) (v := .slice (some ⟨b, off, none⟩) (n - 1) c) rfl rfl (by kernel_rfl) (by kernel_rfl) (by kernel_rfl) (fun _ _ _ h => h) (Or.inl ⟨by rfl, fun W hW => by go_simp⟩) hs ?_
             simp only [Act.put, List.setIfInBounds_toArray, List.set_cons_succ, List.set_cons_zero]
             refine wpAnyH_ready (rs := [15]) (by kernel_rfl) (by simp) (AllReadyH.cons rfl (fun K hK => ?_) AllReadyH.nil)
             go_simp
             go_at_call 14
             refine (KB2.out _ hs).mono ?_; rintro e Wc ⟨rfl, y⟩
             go_wp2_with fail
             refine hK.out _ _ (hs.trans y) (fun hs => ?_)
             clear hK K y
             refine wpAnyH_takeD (i := 16) (d := 111) (v := .bool true) rfl rfl (by kernel_rfl) (by kernel_rfl) (by kernel_rfl) (fun _ _ _ h => h) (Or.inl ⟨by rfl, fun W hW => by go_simp⟩) hs ?_
             simp only [Act.put, List.setIfInBounds_toArray, List.set_cons_succ, List.set_cons_zero]
             refine wpAnyH_takeD (i := 17) (d := 112) (v := .bool true) rfl rfl (by kernel_rfl) (by kernel_rfl) (by kernel_rfl) (fun _ _ _ h => h) (Or.inl ⟨by rfl, fun W hW => by go_simp⟩) hs ?_
             simp only [Act.put, List.setIfInBounds_toArray, List.set_cons_succ, List.set_cons_zero]
             refine wpAnyH_ready (rs := [18]) (by kernel_rfl) (by simp) (AllReadyH.cons rfl (fun K hK => ?_) AllReadyH.nil)
             go_simp
             go_at_call 7
             refine (HSU.out _).mono ?_; rintro e Wc ⟨rfl, y⟩
             go_wp2_with fail
             refine hK.out _ _ (hs.trans y) (fun hs => ?_)
             clear hK K y
             refine wpAnyH_takeD (i := 19) (d := 114) (v := .bool true) rfl rfl (by kernel_rfl) (by kernel_rfl) (by kernel_rfl) (fun _ _ _ h => h) (Or.inl ⟨by rfl, fun W hW => by go_simp⟩) hs ?_
             simp only [Act.put, List.setIfInBounds_toArray, List.set_cons_succ, List.set_cons_zero]
             refine wpAnyH_takeD (i := 20) (d := 4) (v := .bool true) rfl rfl (by kernel_rfl) (by kernel_rfl) (by kernel_rfl) (fun _ _ _ h => h) (Or.inl ⟨by rfl, fun W hW => by go_simp⟩) hs ?_
             simp only [Act.put, List.setIfInBounds_toArray, List.set_cons_succ, List.set_cons_zero]
             refine wpAnyH_done (by kernel_rfl) ?_ _
             go_wp2
             go_ret
             exact ⟨rfl, HXe.out _ (hXY.out.trans hs)⟩
         · have hb15 : (k == 15) = false := by simp [h15]
           have h150 : f 0 ≠ 15 := fun h => h15 (HKf.out.trans h)
           have HEq : Hid (∀ i, i < n → sayF P i = f i) := Lib.hid (fun i hi => by
             rcases HS.out i hi with h | h
             · exact h
             · exact absurd h.1 h150)
           clear h150 HTy HCt
           refine wpAnyH_takeD (i := 0) (d := 84) (v := .pointer (some ⟨G, 0, none⟩)) rfl rfl (by kernel_rfl) (by kernel_rfl) (by kernel_rfl) (fun _ _ _ h => h) (Or.inl ⟨by rfl, fun W hW => by go_simp⟩) hs ?_
           simp only [Act.put, List.setIfInBounds_toArray, List.set_cons_succ, List.set_cons_zero]
           refine wpAnyH_takeD (i := 1) (d := 85) (v := .int .i64 k) rfl rfl (by kernel_rfl) (by kernel_rfl) (by kernel_rfl) (fun _ _ _ h => h) (Or.inl ⟨by rfl, fun W hW => by obtain ⟨c0, c2⟩ := HC.out W hW; go_simp⟩) hs ?_
           simp only [Act.put, List.setIfInBounds_toArray, List.set_cons_succ, List.set_cons_zero]
           refine wpAnyH_takeD (i := 2) (d := 86) (v := .bool false) rfl rfl (by kernel_rfl) (by kernel_rfl) (by kernel_rfl) (fun _ _ _ h => h) (Or.inl ⟨by rfl, fun W hW => by go_simp⟩) hs ?_
           simp only [Act.put, List.setIfInBounds_toArray, List.set_cons_succ, List.set_cons_zero]
           refine wpAnyH_takeD (i := 3) (d := 87) (v := .bool false) rfl rfl (by kernel_rfl) (by kernel_rfl) (by kernel_rfl) (fun _ _ _ h => h) (Or.inl ⟨by rfl, fun W hW => by go_simp⟩) hs ?_
           simp only [Act.put, List.setIfInBounds_toArray, List.set_cons_succ, List.set_cons_zero]
           refine wpAnyH_takeD (i := 4) (d := 88) (v := undef) rfl rfl (by kernel_rfl) (by kernel_rfl) (by kernel_rfl) (fun _ _ _ h => h) (Or.inr ⟨by rfl, rfl⟩) hs ?_
           simp only [Act.put, List.setIfInBounds_toArray, List.set_cons_succ, List.set_cons_zero]
           refine wpAnyH_takeD (i := 5) (d := 89) (v := undef) rfl rfl (by kernel_rfl) (by kernel_rfl) (by kernel_rfl) (fun _ _ _ h => h) (Or.inr ⟨by rfl, rfl⟩) hs ?_
           simp only [Act.put, List.setIfInBounds_toArray, List.set_cons_succ, List.set_cons_zero]
           refine wpAnyH_takeD (i := 6) (d := 90) (v := undef) rfl rfl (by kernel_rfl) (by kernel_rfl) (by kernel_rfl) (fun _ _ _ h => h) (Or.inr ⟨by rfl, rfl⟩) hs ?_
           simp only [Act.put, List.setIfInBounds_toArray, List.set_cons_succ, List.set_cons_zero]
           refine wpAnyH_takeD (i := 7) (d := 91) (v := undef) rfl rfl (by kernel_rfl) (by kernel_rfl) (by kernel_rfl) (fun _ _ _ h => h) (Or.inr ⟨by rfl, rfl⟩) hs ?_
           simp only [Act.put, List.setIfInBounds_toArray, List.set_cons_succ, List.set_cons_zero]
           refine wpAnyH_takeD (i := 8) (d := 92) (v := undef) rfl rfl (by kernel_rfl) (by kernel_rfl) (by kernel_rfl) (fun _ _ _ h => h) (Or.inr ⟨by rfl, rfl⟩) hs ?_
           simp only [Act.put, List.setIfInBounds_toArray, List.set_cons_succ, List.set_cons_zero]
           refine wpAnyH_takeD (i := 9) (d := 93) (v := undef) rfl rfl (by kernel_rfl) (by kernel_rfl) (by kernel_rfl) (fun _ _ _ h => h) (Or.inr ⟨by rfl, rfl⟩) hs ?_
           simp only [Act.put, List.setIfInBounds_toArray, List.set_cons_succ, List.set_cons_zero]
           refine wpAnyH_takeD (i := 10) (d := 94) (v := .bool false) rfl rfl (by kernel_rfl) (by kernel_rfl) (by kernel_rfl) (fun _ _ _ h => h) (Or.inl ⟨by rfl, fun W hW => by go_simp⟩) hs ?_
           simp only [Act.put, List.setIfInBounds_toArray, List.set_cons_succ, List.set_cons_zero]
           refine wpAnyH_done (by kernel_rfl) ?_ _
           go_wp2_with fail
           refine (bytes_eq xb (some ⟨b, off, none⟩) n n xq c (sayF P) f _ (HXx.out _ hs) (HA.out _ (HXe.out _ hs)) (by omega) ⟨rfl, HEq.out⟩).mono ?_; rintro e w9 ⟨rfl, x9⟩
           go_wp2_with fail
           refine (HSU.out _).mono ?_; rintro e wA ⟨rfl, xA⟩
           go_wp2
           go_ret
           exact ⟨rfl, ((HXe.out _ hs).trans x9).trans xA⟩
       · have hPz : paQ n f = zeroQ := by unfold paQ; rw [if_neg hE]
         have hEb : (paE n f != 0) = true := by simp [hE]
         rw [hPz] at hu ⊢
         generalize paE n f = E at hEb ⊢
         clear hPz hE
         obtain ⟨W6, hWW6, yW6, rW6⟩ : ∃ W, W = ((w5.alloc (.cells #[.int .i64 0, .int .i64 0, .int .i64 0, .int .i64 0, .int .i64 0, .int .i64 0, .int .i64 0, .int .i64 0, .slice none 0 0, .slice none 0 0] 25)).setRow w5.heap.size (qstC U zeroQ)) ∧ Ext w5 W ∧ W.heap[w5.heap.size]? = some (.cells (qstC U zeroQ) 25 (0, 0)) := ⟨_, rfl, asked_row _ _ _ _⟩
         have x6 := x5.trans yW6
         have hu := hu.ext yW6
         have g6 := rW6
         rw [hWW6] at g6
         clear yW6 x5
         go_wp2_with (first
           | (refine wpList_store_row rfl 25 (.tmp 9) (.tmp 55) rfl _ _ rfl rfl 25 _ (heap_new_at _ _ (by first | rfl | simp)) (by kernel_rfl) rfl (by simp [qstC, Value.oneCell']) ?_)
           | (refine wpList_load_row rfl 25 (.tmp 9) rfl w5.heap.size rfl 25 _ (0, 0) _ g6 Try.underlying25 rfl (by kernel_rfl) ?_))
         rw [← hWW6]
         clear hWW6 g6
         refine (rsame15_any U zeroQ zeroQV zeroQ _ hu (zeroQ_at _) (Nat.zero_le _) (Nat.zero_le _) (Nat.zero_le _) (Nat.zero_le _)).mono ?_; rintro e w7 ⟨rfl, x7⟩
         rw [zero_same]
         go_wp2_with fail
         refine (HSU.out _).mono ?_; rintro e w8 ⟨rfl, x8⟩
         go_wp2
         go_ret
         exact ⟨rfl, e0.trans ((x6.trans x7).trans x8)⟩
end Go.Proofs.Ytokfgdjkafiicaa
