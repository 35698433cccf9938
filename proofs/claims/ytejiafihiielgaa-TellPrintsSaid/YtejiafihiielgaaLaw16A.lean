/-
  THE LAWS OF LAYER 16: TellPrints, with package tell's Print, Right, Same, Refusal and 'sure' as premises.
-/
import Derived.Test.YtejiafihiielgaaTelC
import Derived.Test.YtejiafihiielgaaLaw16D
namespace Go.Proofs.Ytejiafihiielgaa
open Go.RowKit
set_option linter.unusedVariables false
set_option maxRecDepth 100000

theorem refB_iff (k c : Int) : refB k c = true ↔ 1 ≤ k ∧ k ≤ 127 ∧ 1 ≤ c ∧ c ≤ 4 := by unfold refB; rw [decide_eq_true_iff]
set_option maxHeartbeats 16000000 in
theorem tellPrints.walk0 (V : QstV) (Q : Qst) (U : QstV) (T : Tel) (U' : QstV) (R : Tel) (w : World) (h : QstAt w V Q) (hq : QstW Q) (nb1 : Q.nb ≤ 1000000000000000) (nr1 : Q.nr ≤ 1000000000000000) (k : TelAt w U T) (kq : TelW T) (nb2 : T.nb ≤ 1000000000000000) (nr2 : T.nr ≤ 1000000000000000)
    (k' : TelAt w U' R) (kq' : TelW R) (nb3 : R.nb ≤ 1000000000000000) (nr3 : R.nr ≤ 1000000000000000)
    (hPr : TPrintC 9) (hRi : TRightC 13) (hSa : TSameC 15) (hRe : TRefC 11) (sure : ∀ w, Calls Try.prog 8 #[] w fun e w' => e = .returned (.bool true) ∧ Ext w w') :
    Calls Try.prog 3 #[.agg (qstC V Q), .agg (telC U T), .agg (telC U' R)] w fun e w' => e = .returned (.bool true) ∧ Ext w w' := by
  have HSU := Lib.hid sure
  obtain ⟨W3, hW3, e0, HX⟩ : ∃ W3, W3 = ((w.alloc (.cells (qstC V Q) 25)).alloc (.cells (telC U T) 28)).alloc (.cells (telC U' R) 28) ∧ Ext w W3 ∧ Hid (∀ W, Ext W3 W → W.heap[w.heap.size]? = some (.cells (qstC V Q) 25 (0, 0)) ∧ W.heap[w.heap.size + 1]? = some (.cells (telC U T) 28 (0, 0)) ∧ W.heap[w.heap.size + 2]? = some (.cells (telC U' R) 28 (0, 0))) :=
    ⟨_, rfl, ((Ext.alloc w _).trans (Ext.alloc _ _)).trans (Ext.alloc _ _), Lib.hid fun W x => three_rows w _ _ _ W x⟩
  obtain ⟨b1, b2, -⟩ := HX.out _ (Ext.refl W3)
  cases hf : (fewQA Q && fewQT T) with
  | false =>
    have KF := Lib.hid (fun W => few16_v (V := V) (U := U) hf nb1 nr1 nb2 nr2 W)
    clear h k k' hq kq kq' hf hPr hRi hSa hRe sure
    go_enter Try.func3, Try.ntmps3
    go_upto_region 1 with fail
    rw [← hW3]
    clear hW3
    go_wp2_with (first
      | (refine wpList_load_row rfl 25 (.tmp 3) rfl (w.heap.size) rfl 25 _ (0, 0) _ b1 Try.underlying25 rfl (by kernel_rfl) ?_)
      | (refine wpList_load_row rfl 28 (.tmp 4) rfl (w.heap.size + 1) rfl 28 _ (0, 0) _ b2 Try.underlying28 rfl (by kernel_rfl) ?_))
    refine (KF.out _).mono ?_; rintro e w4 ⟨rfl, x4⟩
    go_wp2_with fail
    refine (HSU.out _).mono ?_; rintro e wz ⟨rfl, xz⟩
    go_wp2
    go_ret
    exact ⟨rfl, e0.trans (x4.trans xz)⟩
  | true =>
   have KF := Lib.hid (fun W => few16_v (V := V) (U := U) hf nb1 nr1 nb2 nr2 W)
   obtain ⟨⟨m1, m2⟩, m3, m4⟩ := (fewQA_iff' Q T).1 hf
   cases hg : (fewQA Q && fewQT R) with
   | false =>
    have KG := Lib.hid (fun W => few16_v (V := V) (U := U') hg nb1 nr1 nb3 nr3 W)
    clear h k k' hq kq kq' hf hg hPr hRi hSa hRe sure
    go_enter Try.func3, Try.ntmps3
    go_upto_region 1 with fail
    rw [← hW3]
    clear hW3
    go_wp2_with (first
      | (refine wpList_load_row rfl 25 (.tmp 3) rfl (w.heap.size) rfl 25 _ (0, 0) _ b1 Try.underlying25 rfl (by kernel_rfl) ?_)
      | (refine wpList_load_row rfl 28 (.tmp 4) rfl (w.heap.size + 1) rfl 28 _ (0, 0) _ b2 Try.underlying28 rfl (by kernel_rfl) ?_))
    refine (KF.out _).mono ?_; rintro e w4 ⟨rfl, x4⟩
    obtain ⟨d1, -, d3⟩ := HX.out _ x4
    go_wp2_with (first
      | (refine wpList_load_row_g (by rfl) 25 (.tmp 3) rfl (w.heap.size) rfl 25 _ (0, 0) _ d1 Try.underlying25 rfl (by kernel_rfl) ?_)
      | (refine wpList_load_row_g (by rfl) 28 (.tmp 5) rfl (w.heap.size + 2) rfl 28 _ (0, 0) _ d3 Try.underlying28 rfl (by kernel_rfl) ?_))
    refine (KG.out _).mono ?_; rintro e w5 ⟨rfl, x5⟩
    go_wp2_with fail
    refine (HSU.out _).mono ?_; rintro e wz ⟨rfl, xz⟩
    go_wp2
    go_ret
    exact ⟨rfl, e0.trans ((x4.trans x5).trans xz)⟩
   | true =>
    have KG := Lib.hid (fun W => few16_v (V := V) (U := U') hg nb1 nr1 nb3 nr3 W)
    obtain ⟨-, m5, m6⟩ := (fewQA_iff' Q R).1 hg
    have KP := Lib.hid (fun W (x : Ext w W) => hPr V Q U T W (h.ext x) hq (by omega) (by omega) (k.ext x) (by omega) (by omega) kq.wR)
    have KR := Lib.hid (fun W (x : Ext w W) => rprint16_any V Q U T W (h.ext x) (by omega) (by omega) (k.ext x) (by omega) (by omega) kq.wR)
    have KA0 := Lib.hid (fun W (x : Ext w W) => hRi V Q U T W (h.ext x) hq (by omega) (by omega) (k.ext x) (by omega) (by omega))
    have KB0 := Lib.hid (fun W (x : Ext w W) => rright16_any V Q U T W (h.ext x) (by omega) (by omega) (k.ext x) (by omega) (by omega))
    have KS10 := Lib.hid (fun W (x : Ext w W) => hSa U T U' R W (k.ext x) (k'.ext x) (by omega) (by omega) (by omega) (by omega))
    have KS20 := Lib.hid (fun W (x : Ext w W) => rsame16_any U T U' R W (k.ext x) (k'.ext x) (by omega) (by omega) (by omega) (by omega))
    have KRf := Lib.hid (fun W => hRe T.k T.cd W)
    have HRB := Lib.hid (refB_iff T.k T.cd)
    have hnl : tprN Q T ≤ 253 := by
      cases hr : rightT Q T
      · rw [(tprE_no hr).2]; omega
      · rw [(tprE_yes hr).2]; exact (tsay_size hr).2
    have HEB : Hid ((rightT Q T = true → tprE Q T = 0) ∧ (rightT Q T = false → tprE Q T = 11)) := Lib.hid ⟨fun h => (tprE_yes h).1, fun h => (tprE_no h).1⟩
    unfold PrT at KR
    generalize tprN Q T = N at KP KR hnl
    generalize tprE Q T = E at KP HEB
    generalize rightT Q T = B at KR KA0 KB0 HEB
    generalize sameT T R = S at KS10 KS20
    generalize refB T.k T.cd = RB at KRf HRB
    have hSS : (S == S) = true := by simp
    have hBB : (B == B) = true := by simp
    clear h k k' hq kq kq' hf hg hPr hRi hSa hRe sure m1 m2 m3 m4 m5 m6 nb1 nb2 nb3 nr1 nr2 nr3
    go_enter Try.func3, Try.ntmps3
    go_upto_region 1 with fail
    rw [← hW3]
    clear hW3
    go_wp2_with (first
      | (refine wpList_load_row rfl 25 (.tmp 3) rfl (w.heap.size) rfl 25 _ (0, 0) _ b1 Try.underlying25 rfl (by kernel_rfl) ?_)
      | (refine wpList_load_row rfl 28 (.tmp 4) rfl (w.heap.size + 1) rfl 28 _ (0, 0) _ b2 Try.underlying28 rfl (by kernel_rfl) ?_))
    refine (KF.out _).mono ?_; rintro e w4 ⟨rfl, x4⟩
    obtain ⟨d1, -, d3⟩ := HX.out _ x4
    go_wp2_with (first
      | (refine wpList_load_row_g (by rfl) 25 (.tmp 3) rfl (w.heap.size) rfl 25 _ (0, 0) _ d1 Try.underlying25 rfl (by kernel_rfl) ?_)
      | (refine wpList_load_row_g (by rfl) 28 (.tmp 5) rfl (w.heap.size + 2) rfl 28 _ (0, 0) _ d3 Try.underlying28 rfl (by kernel_rfl) ?_))
    refine (KG.out _).mono ?_; rintro e w5 ⟨rfl, x5⟩
    have x5 := x4.trans x5
    clear b1 b2 d1 d3 x4 KF KG
    obtain ⟨d1, d2, -⟩ := HX.out _ x5
    go_wp2_with (first
      | (refine wpList_load_row rfl 25 (.tmp 3) rfl (w.heap.size) rfl 25 _ (0, 0) _ d1 Try.underlying25 rfl (by kernel_rfl) ?_)
      | (refine wpList_load_row rfl 28 (.tmp 4) rfl (w.heap.size + 1) rfl 28 _ (0, 0) _ d2 Try.underlying28 rfl (by kernel_rfl) ?_))
    refine (KP.out _ (e0.trans x5)).mono ?_; rintro e w6 ⟨pb, q1, rfl, -, -, hp, x6⟩
    have x6 := x5.trans x6
    clear d1 d2 x5 KP
    obtain ⟨d1, d2, -⟩ := HX.out _ x6
    go_wp2_with (first
      | (refine wpList_load_row rfl 25 (.tmp 3) rfl (w.heap.size) rfl 25 _ (0, 0) _ d1 Try.underlying25 rfl (by kernel_rfl) ?_)
      | (refine wpList_load_row rfl 28 (.tmp 4) rfl (w.heap.size + 1) rfl 28 _ (0, 0) _ d2 Try.underlying28 rfl (by kernel_rfl) ?_))
    refine (KR.out _ (e0.trans x6)).mono ?_; rintro e w7 ⟨rb, q2, rfl, -, -, hr, x7⟩
    have hp := hp.ext x7
    have x7 := x6.trans x7
    clear d1 d2 x6 KR
    have ck : w7.cell? ⟨w.heap.size + 1, 0, none⟩ = some (.int .i64 T.k) := cell_of_heap (HX.out _ x7).2.1 rfl
    have cd : w7.cell? ⟨w.heap.size + 1, 1, none⟩ = some (.int .i64 T.cd) := cell_of_heap (HX.out _ x7).2.1 rfl
    go_wp2_with fail
    refine (KRf.out _).mono ?_; rintro e w8 ⟨fb, q3, rfl, hfb, x8⟩
    have hp := hp.ext x8
    have hr := hr.ext x8
    have x8 := x7.trans x8
    clear ck cd x7 KRf
    have ck : w8.cell? ⟨w.heap.size + 1, 0, none⟩ = some (.int .i64 T.k) := cell_of_heap (HX.out _ x8).2.1 rfl
    have cd : w8.cell? ⟨w.heap.size + 1, 1, none⟩ = some (.int .i64 T.cd) := cell_of_heap (HX.out _ x8).2.1 rfl
    obtain ⟨M, hM⟩ : ∃ M, (if RB = true then 2 else 0) = M := ⟨_, rfl⟩
    obtain ⟨E9, hE9⟩ : ∃ E9 : Int, (if RB = true then 0 else 11) = E9 := ⟨_, rfl⟩
    rw [hM] at hfb ⊢
    rw [hE9]
    have HMM := Lib.hid hM
    have HEE := Lib.hid hE9
    clear hM hE9
    go_upto_region 6 with fail
    go_cut [13] from 45 to 62 (fun v wx => v = .bool RB ∧ wx = w8)
    case first => as_aux_lemma =>
      by_cases h1 : 1 ≤ T.k
      · have f1 : decide (1 ≤ T.k) = true := decide_eq_true h1
        by_cases h2 : T.k ≤ 127
        · have f2 : decide (T.k ≤ 127) = true := decide_eq_true h2
          by_cases h3 : 1 ≤ T.cd
          · have f3 : decide (1 ≤ T.cd) = true := decide_eq_true h3
            by_cases h4 : T.cd ≤ 4
            · have f4 : decide (T.cd ≤ 4) = true := decide_eq_true h4
              have HR := Lib.hid (HRB.out.2 ⟨h1, h2, h3, h4⟩)
              clear h1 h2 h3 h4
              go_wp2_with fail
              go_meet
              exact ⟨by rw [HR.out], rfl⟩
            · have f4 : decide (T.cd ≤ 4) = false := decide_eq_false h4
              have HR : Hid (RB = false) := Lib.hid (by cases RB; rfl; exact absurd (HRB.out.1 rfl).2.2.2 h4)
              clear h1 h2 h3 h4
              go_wp2_with fail
              go_meet
              exact ⟨by rw [HR.out], rfl⟩
          · have f3 : decide (1 ≤ T.cd) = false := decide_eq_false h3
            have HR : Hid (RB = false) := Lib.hid (by cases RB; rfl; exact absurd (HRB.out.1 rfl).2.2.1 h3)
            clear h1 h2 h3
            go_wp2_with fail
            go_meet
            exact ⟨by rw [HR.out], rfl⟩
        · have f2 : decide (T.k ≤ 127) = false := decide_eq_false h2
          have HR : Hid (RB = false) := Lib.hid (by cases RB; rfl; exact absurd (HRB.out.1 rfl).2.1 h2)
          clear h1 h2
          go_wp2_with fail
          go_meet
          exact ⟨by rw [HR.out], rfl⟩
      · have f1 : decide (1 ≤ T.k) = false := decide_eq_false h1
        have HR : Hid (RB = false) := Lib.hid (by cases RB; rfl; exact absurd (HRB.out.1 rfl).1 h1)
        clear h1
        go_wp2_with fail
        go_meet
        exact ⟨by rw [HR.out], rfl⟩
    case rest =>
      obtain ⟨rfl, hwc⟩ := hcut
      rw [hwc]
      clear hwc
      go_upto_region 7 with fail
      go_cut [95] from 63 to 95 (fun v wx => v = .bool false ∧ Ext w8 wx)
      case first => as_aux_lemma =>
        cases RB with
        | true =>
          obtain ⟨z1, z2, z3, z4⟩ := HRB.out.1 rfl
          have hE : (E9 == 0) = true := by rw [← HEE.out]; rfl
          have hMM : 2 = M := HMM.out
          have w1 : IntKind.i64.wrap (T.k + 128) = T.k + 128 := IntWalk.i64_in _ (by omega)
          have w2 : IntKind.u8.wrap (T.k + 128) = T.k + 128 := Go.Proofs.Ytejiafihiielgaa.w8 (by omega)
          have w3 : IntKind.u8.wrap T.cd = T.cd := Go.Proofs.Ytejiafihiielgaa.w8 (by omega)
          have y5 := Ext.alloc w8 (.cells #[.int .u8 (T.k + 128), .int .u8 T.cd] 5)
          have hl : Holds .u8 (w8.alloc (.cells #[.int .u8 (T.k + 128), .int .u8 T.cd] 5)) (some ⟨w8.heap.size, 0, none⟩) 2 (refF T.k T.cd) := HoldsG.new _ _ _ 2 _ (fun i hi => by
            have h : i = 0 ∨ i = 1 := by omega
            rcases h with rfl | rfl <;> rfl)
          have KE := Lib.hid (bytes_eq fb (some ⟨w8.heap.size, 0, none⟩) M 2 q3 2 (refF T.k T.cd) (refF T.k T.cd) _ (hfb.ext y5) hl (by omega) ⟨hMM.symm, fun _ _ => rfl⟩)
          have HY5 := Lib.hid y5
          clear z1 z2 z3 z4 hMM hl y5
          go_wp2_with fail
          refine KE.out.mono ?_; rintro e w9 ⟨rfl, x9⟩
          go_wp2_with fail
          go_meet
          exact ⟨rfl, HY5.out.trans x9⟩
        | false =>
          have hE0 : (E9 == 0) = false := by rw [← HEE.out]; rfl
          have hE1 : (E9 != 11) = false := by rw [← HEE.out]; rfl
          have hMM : ¬ (0 : Int) < M := by have : 0 = M := HMM.out; omega
          have hMd : decide ((0 : Int) < M) = false := decide_eq_false hMM
          go_wp2_with fail
          go_meet
          exact ⟨congrArg Value.bool (decide_eq_false (by have : 0 = M := HMM.out; omega)), Ext.refl _⟩
      case rest =>
        obtain ⟨rfl, y9⟩ := hcut
        have hp := hp.ext y9
        have hr := hr.ext y9
        have x9 := x8.trans y9
        clear ck cd y9 hfb
        go_upto_region 9 with fail
        obtain ⟨X, hX⟩ : ∃ X, X = wc.drew := ⟨_, rfl⟩
        have xX : Ext wc X := by rw [hX]; exact Ext.drew _
        have hs : Ext X X := Ext.refl _
        go_wp2_with fail
        refine wp_region_held_drew (S := fun W => Ext X W) (by kernel_rfl) (by rw [← hX]; exact hs) (fun _ => ?_)
        rw [← hX]
        have hp := hp.ext xX
        have hr := hr.ext xX
        have x9 := x9.trans xX
        have HX9 := Lib.hid (fun W (x : Ext X W) => HX.out W (x9.trans x))
        have KA := Lib.hid (fun W (x : Ext X W) => KA0.out W (e0.trans (x9.trans x)))
        have KB := Lib.hid (fun W (x : Ext X W) => KB0.out W (e0.trans (x9.trans x)))
        have KE := Lib.hid (fun W (x : Ext X W) => bytes_eq pb rb N N q1 q2 (tsayF T) (tsayF T) W (hp.ext x) (hr.ext x) (by omega) ⟨rfl, fun _ _ => rfl⟩)
        have KS1 := Lib.hid (fun W (x : Ext X W) => KS10.out W (e0.trans (x9.trans x)))
        have KS2 := Lib.hid (fun W (x : Ext X W) => KS20.out W (e0.trans (x9.trans x)))
        have HX8 := Lib.hid x9
        clear hX xX hp hr x8 KA0 KB0 KS10 KS20 x9
        cases B with
        | true =>
          obtain rfl := HEB.out.1 rfl
          refine wpAnyH_takeD (i := 0) (d := 96) rfl rfl (by kernel_rfl) (by kernel_rfl) (by kernel_rfl) (fun _ _ _ h => h) (yieldsIf_load_row (by rfl) 25 (.tmp 3) rfl (w.heap.size) rfl 25 _ (0, 0) _ (fun w' hw' => (HX9.out _ hw').1) Try.underlying25 rfl (by kernel_rfl)) hs ?_
          simp only [Act.put, List.setIfInBounds_toArray, List.set_cons_succ, List.set_cons_zero]
          refine wpAnyH_takeD (i := 1) (d := 97) rfl rfl (by kernel_rfl) (by kernel_rfl) (by kernel_rfl) (fun _ _ _ h => h) (yieldsIf_load_row (by rfl) 28 (.tmp 4) rfl (w.heap.size + 1) rfl 28 _ (0, 0) _ (fun w' hw' => (HX9.out _ hw').2.1) Try.underlying28 rfl (by kernel_rfl)) hs ?_
          simp only [Act.put, List.setIfInBounds_toArray, List.set_cons_succ, List.set_cons_zero]
          refine wpAnyH_takeD (i := 3) (d := 99) rfl rfl (by kernel_rfl) (by kernel_rfl) (by kernel_rfl) (fun _ _ _ h => h) (yieldsIf_load_row (by rfl) 25 (.tmp 3) rfl (w.heap.size) rfl 25 _ (0, 0) _ (fun w' hw' => (HX9.out _ hw').1) Try.underlying25 rfl (by kernel_rfl)) hs ?_
          simp only [Act.put, List.setIfInBounds_toArray, List.set_cons_succ, List.set_cons_zero]
          refine wpAnyH_takeD (i := 4) (d := 100) rfl rfl (by kernel_rfl) (by kernel_rfl) (by kernel_rfl) (fun _ _ _ h => h) (yieldsIf_load_row (by rfl) 28 (.tmp 4) rfl (w.heap.size + 1) rfl 28 _ (0, 0) _ (fun w' hw' => (HX9.out _ hw').2.1) Try.underlying28 rfl (by kernel_rfl)) hs ?_
          simp only [Act.put, List.setIfInBounds_toArray, List.set_cons_succ, List.set_cons_zero]
          refine wpAnyH_ready (rs := [2]) (by kernel_rfl) (by simp) (AllReadyH.cons rfl (fun K hK => ?_) AllReadyH.nil)
          go_simp
          go_at_call 13
          refine (KA.out _ hs).mono ?_; rintro e Wc ⟨rfl, y⟩
          go_wp2_with fail
          refine hK.out _ _ (hs.trans y) (fun hs => ?_)
          clear hK K y
          refine wpAnyH_ready (rs := [5]) (by kernel_rfl) (by simp) (AllReadyH.cons rfl (fun K hK => ?_) AllReadyH.nil)
          go_simp
          go_at_call 14
          refine (KB.out _ hs).mono ?_; rintro e Wc ⟨rfl, y⟩
          go_wp2_with fail
          refine hK.out _ _ (hs.trans y) (fun hs => ?_)
          clear hK K y
          refine wpAnyH_takeD (i := 6) (d := 102) (v := .bool true) rfl rfl (by kernel_rfl) (by kernel_rfl) (by kernel_rfl) (fun _ _ _ h => h) (Or.inl ⟨by rfl, fun W hW => by go_simp⟩) hs ?_
          simp only [Act.put, List.setIfInBounds_toArray, List.set_cons_succ, List.set_cons_zero]
          refine wpAnyH_takeD (i := 7) (d := 103) (v := .bool true) rfl rfl (by kernel_rfl) (by kernel_rfl) (by kernel_rfl) (fun _ _ _ h => h) (Or.inl ⟨by rfl, fun W hW => by go_simp⟩) hs ?_
          simp only [Act.put, List.setIfInBounds_toArray, List.set_cons_succ, List.set_cons_zero]
          refine wpAnyH_takeD (i := 8) (d := 104) (v := .slice pb N q1) rfl rfl (by kernel_rfl) (by kernel_rfl) (by kernel_rfl) (fun _ _ _ h => h) (Or.inl ⟨by rfl, fun W hW => by go_simp⟩) hs ?_
          simp only [Act.put, List.setIfInBounds_toArray, List.set_cons_succ, List.set_cons_zero]
          refine wpAnyH_takeD (i := 9) (d := 105) (v := .slice rb N q2) rfl rfl (by kernel_rfl) (by kernel_rfl) (by kernel_rfl) (fun _ _ _ h => h) (Or.inl ⟨by rfl, fun W hW => by go_simp⟩) hs ?_
          simp only [Act.put, List.setIfInBounds_toArray, List.set_cons_succ, List.set_cons_zero]
          refine wpAnyH_ready (rs := [10]) (by kernel_rfl) (by simp) (AllReadyH.cons rfl (fun K hK => ?_) AllReadyH.nil)
          go_simp
          go_at_call 12
          refine (KE.out _ hs).mono ?_; rintro e Wc ⟨rfl, y⟩
          go_wp2_with fail
          refine hK.out _ _ (hs.trans y) (fun hs => ?_)
          clear hK K y
          refine wpAnyH_takeD (i := 11) (d := 107) (v := .bool true) rfl rfl (by kernel_rfl) (by kernel_rfl) (by kernel_rfl) (fun _ _ _ h => h) (Or.inl ⟨by rfl, fun W hW => by go_simp⟩) hs ?_
          simp only [Act.put, List.setIfInBounds_toArray, List.set_cons_succ, List.set_cons_zero]
          refine wpAnyH_takeD (i := 12) (d := 108) (v := .bool true) rfl rfl (by kernel_rfl) (by kernel_rfl) (by kernel_rfl) (fun _ _ _ h => h) (Or.inl ⟨by rfl, fun W hW => by go_simp⟩) hs ?_
          simp only [Act.put, List.setIfInBounds_toArray, List.set_cons_succ, List.set_cons_zero]
          refine wpAnyH_takeD (i := 13) (d := 109) (v := .int .i64 0) rfl rfl (by kernel_rfl) (by kernel_rfl) (by kernel_rfl) (fun _ _ _ h => h) (Or.inl ⟨by rfl, fun W hW => by go_simp⟩) hs ?_
          simp only [Act.put, List.setIfInBounds_toArray, List.set_cons_succ, List.set_cons_zero]
          refine wpAnyH_takeD (i := 14) (d := 110) (v := .bool true) rfl rfl (by kernel_rfl) (by kernel_rfl) (by kernel_rfl) (fun _ _ _ h => h) (Or.inl ⟨by rfl, fun W hW => by go_simp⟩) hs ?_
          simp only [Act.put, List.setIfInBounds_toArray, List.set_cons_succ, List.set_cons_zero]
          refine wpAnyH_takeD (i := 15) (d := 111) (v := .bool true) rfl rfl (by kernel_rfl) (by kernel_rfl) (by kernel_rfl) (fun _ _ _ h => h) (Or.inl ⟨by rfl, fun W hW => by go_simp⟩) hs ?_
          simp only [Act.put, List.setIfInBounds_toArray, List.set_cons_succ, List.set_cons_zero]
          refine wpAnyH_takeD (i := 16) (d := 112) (v := .bool true) rfl rfl (by kernel_rfl) (by kernel_rfl) (by kernel_rfl) (fun _ _ _ h => h) (Or.inl ⟨by rfl, fun W hW => by go_simp⟩) hs ?_
          simp only [Act.put, List.setIfInBounds_toArray, List.set_cons_succ, List.set_cons_zero]
          refine wpAnyH_takeD (i := 17) (d := 113) (v := .bool true) rfl rfl (by kernel_rfl) (by kernel_rfl) (by kernel_rfl) (fun _ _ _ h => h) (Or.inl ⟨by rfl, fun W hW => by go_simp⟩) hs ?_
          simp only [Act.put, List.setIfInBounds_toArray, List.set_cons_succ, List.set_cons_zero]
          refine wpAnyH_takeD (i := 18) (d := 114) (v := .bool true) rfl rfl (by kernel_rfl) (by kernel_rfl) (by kernel_rfl) (fun _ _ _ h => h) (Or.inl ⟨by rfl, fun W hW => by go_simp⟩) hs ?_
          simp only [Act.put, List.setIfInBounds_toArray, List.set_cons_succ, List.set_cons_zero]
          refine wpAnyH_takeD (i := 19) (d := 115) (v := .bool true) rfl rfl (by kernel_rfl) (by kernel_rfl) (by kernel_rfl) (fun _ _ _ h => h) (Or.inl ⟨by rfl, fun W hW => by go_simp⟩) hs ?_
          simp only [Act.put, List.setIfInBounds_toArray, List.set_cons_succ, List.set_cons_zero]
          refine wpAnyH_takeD (i := 20) (d := 116) (v := .bool true) rfl rfl (by kernel_rfl) (by kernel_rfl) (by kernel_rfl) (fun _ _ _ h => h) (Or.inl ⟨by rfl, fun W hW => by go_simp⟩) hs ?_
          simp only [Act.put, List.setIfInBounds_toArray, List.set_cons_succ, List.set_cons_zero]
          refine wpAnyH_takeD (i := 21) (d := 117) (v := undef) rfl rfl (by kernel_rfl) (by kernel_rfl) (by kernel_rfl) (fun _ _ _ h => h) (Or.inr ⟨by rfl, rfl⟩) hs ?_
          simp only [Act.put, List.setIfInBounds_toArray, List.set_cons_succ, List.set_cons_zero]
          refine wpAnyH_takeD (i := 22) (d := 118) (v := undef) rfl rfl (by kernel_rfl) (by kernel_rfl) (by kernel_rfl) (fun _ _ _ h => h) (Or.inr ⟨by rfl, rfl⟩) hs ?_
          simp only [Act.put, List.setIfInBounds_toArray, List.set_cons_succ, List.set_cons_zero]
          refine wpAnyH_takeD (i := 23) (d := 119) (v := .bool true) rfl rfl (by kernel_rfl) (by kernel_rfl) (by kernel_rfl) (fun _ _ _ h => h) (Or.inl ⟨by rfl, fun W hW => by go_simp⟩) hs ?_
          simp only [Act.put, List.setIfInBounds_toArray, List.set_cons_succ, List.set_cons_zero]
          refine wpAnyH_takeD (i := 24) (d := 120) (v := .bool true) rfl rfl (by kernel_rfl) (by kernel_rfl) (by kernel_rfl) (fun _ _ _ h => h) (Or.inl ⟨by rfl, fun W hW => by go_simp⟩) hs ?_
          simp only [Act.put, List.setIfInBounds_toArray, List.set_cons_succ, List.set_cons_zero]
          refine wpAnyH_takeD (i := 25) (d := 121) (v := .bool true) rfl rfl (by kernel_rfl) (by kernel_rfl) (by kernel_rfl) (fun _ _ _ h => h) (Or.inl ⟨by rfl, fun W hW => by go_simp⟩) hs ?_
          simp only [Act.put, List.setIfInBounds_toArray, List.set_cons_succ, List.set_cons_zero]
          refine wpAnyH_takeD (i := 26) (d := 122) rfl rfl (by kernel_rfl) (by kernel_rfl) (by kernel_rfl) (fun _ _ _ h => h) (yieldsIf_load_row (by rfl) 28 (.tmp 4) rfl (w.heap.size + 1) rfl 28 _ (0, 0) _ (fun w' hw' => (HX9.out _ hw').2.1) Try.underlying28 rfl (by kernel_rfl)) hs ?_
          simp only [Act.put, List.setIfInBounds_toArray, List.set_cons_succ, List.set_cons_zero]
          refine wpAnyH_takeD (i := 27) (d := 123) rfl rfl (by kernel_rfl) (by kernel_rfl) (by kernel_rfl) (fun _ _ _ h => h) (yieldsIf_load_row (by rfl) 28 (.tmp 5) rfl (w.heap.size + 2) rfl 28 _ (0, 0) _ (fun w' hw' => (HX9.out _ hw').2.2) Try.underlying28 rfl (by kernel_rfl)) hs ?_
          simp only [Act.put, List.setIfInBounds_toArray, List.set_cons_succ, List.set_cons_zero]
          refine wpAnyH_takeD (i := 29) (d := 125) rfl rfl (by kernel_rfl) (by kernel_rfl) (by kernel_rfl) (fun _ _ _ h => h) (yieldsIf_load_row (by rfl) 28 (.tmp 4) rfl (w.heap.size + 1) rfl 28 _ (0, 0) _ (fun w' hw' => (HX9.out _ hw').2.1) Try.underlying28 rfl (by kernel_rfl)) hs ?_
          simp only [Act.put, List.setIfInBounds_toArray, List.set_cons_succ, List.set_cons_zero]
          refine wpAnyH_takeD (i := 30) (d := 126) rfl rfl (by kernel_rfl) (by kernel_rfl) (by kernel_rfl) (fun _ _ _ h => h) (yieldsIf_load_row (by rfl) 28 (.tmp 5) rfl (w.heap.size + 2) rfl 28 _ (0, 0) _ (fun w' hw' => (HX9.out _ hw').2.2) Try.underlying28 rfl (by kernel_rfl)) hs ?_
          simp only [Act.put, List.setIfInBounds_toArray, List.set_cons_succ, List.set_cons_zero]
          refine wpAnyH_ready (rs := [28]) (by kernel_rfl) (by simp) (AllReadyH.cons rfl (fun K hK => ?_) AllReadyH.nil)
          go_simp
          go_at_call 15
          refine (KS1.out _ hs).mono ?_; rintro e Wc ⟨rfl, y⟩
          go_wp2_with fail
          refine hK.out _ _ (hs.trans y) (fun hs => ?_)
          clear hK K y
          refine wpAnyH_ready (rs := [31]) (by kernel_rfl) (by simp) (AllReadyH.cons rfl (fun K hK => ?_) AllReadyH.nil)
          go_simp
          go_at_call 16
          refine (KS2.out _ hs).mono ?_; rintro e Wc ⟨rfl, y⟩
          go_wp2_with fail
          refine hK.out _ _ (hs.trans y) (fun hs => ?_)
          clear hK K y
          refine wpAnyH_takeD (i := 32) (d := 128) (v := .bool true) rfl rfl (by kernel_rfl) (by kernel_rfl) (by kernel_rfl) (fun _ _ _ h => h) (Or.inl ⟨by rfl, fun W hW => by go_simp⟩) hs ?_
          simp only [Act.put, List.setIfInBounds_toArray, List.set_cons_succ, List.set_cons_zero]
          refine wpAnyH_takeD (i := 33) (d := 129) (v := .bool true) rfl rfl (by kernel_rfl) (by kernel_rfl) (by kernel_rfl) (fun _ _ _ h => h) (Or.inl ⟨by rfl, fun W hW => by go_simp⟩) hs ?_
          simp only [Act.put, List.setIfInBounds_toArray, List.set_cons_succ, List.set_cons_zero]
          refine wpAnyH_takeD (i := 34) (d := 130) (v := .bool true) rfl rfl (by kernel_rfl) (by kernel_rfl) (by kernel_rfl) (fun _ _ _ h => h) (Or.inl ⟨by rfl, fun W hW => by go_simp⟩) hs ?_
          simp only [Act.put, List.setIfInBounds_toArray, List.set_cons_succ, List.set_cons_zero]
          refine wpAnyH_ready (rs := [35]) (by kernel_rfl) (by simp) (AllReadyH.cons rfl (fun K hK => ?_) AllReadyH.nil)
          go_simp
          go_at_call 8
          refine (HSU.out _).mono ?_; rintro e Wc ⟨rfl, y⟩
          go_wp2_with fail
          refine hK.out _ _ (hs.trans y) (fun hs => ?_)
          clear hK K y
          refine wpAnyH_takeD (i := 36) (d := 132) (v := .bool true) rfl rfl (by kernel_rfl) (by kernel_rfl) (by kernel_rfl) (fun _ _ _ h => h) (Or.inl ⟨by rfl, fun W hW => by go_simp⟩) hs ?_
          simp only [Act.put, List.setIfInBounds_toArray, List.set_cons_succ, List.set_cons_zero]
          refine wpAnyH_takeD (i := 37) (d := 6) (v := .bool true) rfl rfl (by kernel_rfl) (by kernel_rfl) (by kernel_rfl) (fun _ _ _ h => h) (Or.inl ⟨by rfl, fun W hW => by go_simp⟩) hs ?_
          simp only [Act.put, List.setIfInBounds_toArray, List.set_cons_succ, List.set_cons_zero]
          refine wpAnyH_done (by kernel_rfl) ?_ _
          go_wp2
          go_ret
          exact ⟨rfl, e0.trans (HX8.out.trans hs)⟩
        | false =>
          obtain rfl := HEB.out.2 rfl
          refine wpAnyH_takeD (i := 0) (d := 96) rfl rfl (by kernel_rfl) (by kernel_rfl) (by kernel_rfl) (fun _ _ _ h => h) (yieldsIf_load_row (by rfl) 25 (.tmp 3) rfl (w.heap.size) rfl 25 _ (0, 0) _ (fun w' hw' => (HX9.out _ hw').1) Try.underlying25 rfl (by kernel_rfl)) hs ?_
          simp only [Act.put, List.setIfInBounds_toArray, List.set_cons_succ, List.set_cons_zero]
          refine wpAnyH_takeD (i := 1) (d := 97) rfl rfl (by kernel_rfl) (by kernel_rfl) (by kernel_rfl) (fun _ _ _ h => h) (yieldsIf_load_row (by rfl) 28 (.tmp 4) rfl (w.heap.size + 1) rfl 28 _ (0, 0) _ (fun w' hw' => (HX9.out _ hw').2.1) Try.underlying28 rfl (by kernel_rfl)) hs ?_
          simp only [Act.put, List.setIfInBounds_toArray, List.set_cons_succ, List.set_cons_zero]
          refine wpAnyH_takeD (i := 3) (d := 99) rfl rfl (by kernel_rfl) (by kernel_rfl) (by kernel_rfl) (fun _ _ _ h => h) (yieldsIf_load_row (by rfl) 25 (.tmp 3) rfl (w.heap.size) rfl 25 _ (0, 0) _ (fun w' hw' => (HX9.out _ hw').1) Try.underlying25 rfl (by kernel_rfl)) hs ?_
          simp only [Act.put, List.setIfInBounds_toArray, List.set_cons_succ, List.set_cons_zero]
          refine wpAnyH_takeD (i := 4) (d := 100) rfl rfl (by kernel_rfl) (by kernel_rfl) (by kernel_rfl) (fun _ _ _ h => h) (yieldsIf_load_row (by rfl) 28 (.tmp 4) rfl (w.heap.size + 1) rfl 28 _ (0, 0) _ (fun w' hw' => (HX9.out _ hw').2.1) Try.underlying28 rfl (by kernel_rfl)) hs ?_
          simp only [Act.put, List.setIfInBounds_toArray, List.set_cons_succ, List.set_cons_zero]
          refine wpAnyH_ready (rs := [2]) (by kernel_rfl) (by simp) (AllReadyH.cons rfl (fun K hK => ?_) AllReadyH.nil)
          go_simp
          go_at_call 13
          refine (KA.out _ hs).mono ?_; rintro e Wc ⟨rfl, y⟩
          go_wp2_with fail
          refine hK.out _ _ (hs.trans y) (fun hs => ?_)
          clear hK K y
          refine wpAnyH_ready (rs := [5]) (by kernel_rfl) (by simp) (AllReadyH.cons rfl (fun K hK => ?_) AllReadyH.nil)
          go_simp
          go_at_call 14
          refine (KB.out _ hs).mono ?_; rintro e Wc ⟨rfl, y⟩
          go_wp2_with fail
          refine hK.out _ _ (hs.trans y) (fun hs => ?_)
          clear hK K y
          refine wpAnyH_takeD (i := 6) (d := 102) (v := .bool true) rfl rfl (by kernel_rfl) (by kernel_rfl) (by kernel_rfl) (fun _ _ _ h => h) (Or.inl ⟨by rfl, fun W hW => by go_simp⟩) hs ?_
          simp only [Act.put, List.setIfInBounds_toArray, List.set_cons_succ, List.set_cons_zero]
          refine wpAnyH_takeD (i := 7) (d := 103) (v := .bool true) rfl rfl (by kernel_rfl) (by kernel_rfl) (by kernel_rfl) (fun _ _ _ h => h) (Or.inl ⟨by rfl, fun W hW => by go_simp⟩) hs ?_
          simp only [Act.put, List.setIfInBounds_toArray, List.set_cons_succ, List.set_cons_zero]
          refine wpAnyH_takeD (i := 8) (d := 104) (v := .slice pb N q1) rfl rfl (by kernel_rfl) (by kernel_rfl) (by kernel_rfl) (fun _ _ _ h => h) (Or.inl ⟨by rfl, fun W hW => by go_simp⟩) hs ?_
          simp only [Act.put, List.setIfInBounds_toArray, List.set_cons_succ, List.set_cons_zero]
          refine wpAnyH_takeD (i := 9) (d := 105) (v := .slice rb N q2) rfl rfl (by kernel_rfl) (by kernel_rfl) (by kernel_rfl) (fun _ _ _ h => h) (Or.inl ⟨by rfl, fun W hW => by go_simp⟩) hs ?_
          simp only [Act.put, List.setIfInBounds_toArray, List.set_cons_succ, List.set_cons_zero]
          refine wpAnyH_ready (rs := [10]) (by kernel_rfl) (by simp) (AllReadyH.cons rfl (fun K hK => ?_) AllReadyH.nil)
          go_simp
          go_at_call 12
          refine (KE.out _ hs).mono ?_; rintro e Wc ⟨rfl, y⟩
          go_wp2_with fail
          refine hK.out _ _ (hs.trans y) (fun hs => ?_)
          clear hK K y
          refine wpAnyH_takeD (i := 11) (d := 107) (v := .bool true) rfl rfl (by kernel_rfl) (by kernel_rfl) (by kernel_rfl) (fun _ _ _ h => h) (Or.inl ⟨by rfl, fun W hW => by go_simp⟩) hs ?_
          simp only [Act.put, List.setIfInBounds_toArray, List.set_cons_succ, List.set_cons_zero]
          refine wpAnyH_takeD (i := 12) (d := 108) (v := .bool true) rfl rfl (by kernel_rfl) (by kernel_rfl) (by kernel_rfl) (fun _ _ _ h => h) (Or.inl ⟨by rfl, fun W hW => by go_simp⟩) hs ?_
          simp only [Act.put, List.setIfInBounds_toArray, List.set_cons_succ, List.set_cons_zero]
          refine wpAnyH_takeD (i := 13) (d := 109) (v := .int .i64 11) rfl rfl (by kernel_rfl) (by kernel_rfl) (by kernel_rfl) (fun _ _ _ h => h) (Or.inl ⟨by rfl, fun W hW => by go_simp⟩) hs ?_
          simp only [Act.put, List.setIfInBounds_toArray, List.set_cons_succ, List.set_cons_zero]
          refine wpAnyH_takeD (i := 14) (d := 110) (v := .bool false) rfl rfl (by kernel_rfl) (by kernel_rfl) (by kernel_rfl) (fun _ _ _ h => h) (Or.inl ⟨by rfl, fun W hW => by go_simp⟩) hs ?_
          simp only [Act.put, List.setIfInBounds_toArray, List.set_cons_succ, List.set_cons_zero]
          refine wpAnyH_takeD (i := 15) (d := 111) (v := .bool false) rfl rfl (by kernel_rfl) (by kernel_rfl) (by kernel_rfl) (fun _ _ _ h => h) (Or.inl ⟨by rfl, fun W hW => by go_simp⟩) hs ?_
          simp only [Act.put, List.setIfInBounds_toArray, List.set_cons_succ, List.set_cons_zero]
          refine wpAnyH_takeD (i := 16) (d := 112) (v := .bool true) rfl rfl (by kernel_rfl) (by kernel_rfl) (by kernel_rfl) (fun _ _ _ h => h) (Or.inl ⟨by rfl, fun W hW => by go_simp⟩) hs ?_
          simp only [Act.put, List.setIfInBounds_toArray, List.set_cons_succ, List.set_cons_zero]
          refine wpAnyH_takeD (i := 17) (d := 113) (v := .bool true) rfl rfl (by kernel_rfl) (by kernel_rfl) (by kernel_rfl) (fun _ _ _ h => h) (Or.inl ⟨by rfl, fun W hW => by go_simp⟩) hs ?_
          simp only [Act.put, List.setIfInBounds_toArray, List.set_cons_succ, List.set_cons_zero]
          refine wpAnyH_takeD (i := 18) (d := 114) (v := .bool true) rfl rfl (by kernel_rfl) (by kernel_rfl) (by kernel_rfl) (fun _ _ _ h => h) (Or.inl ⟨by rfl, fun W hW => by go_simp⟩) hs ?_
          simp only [Act.put, List.setIfInBounds_toArray, List.set_cons_succ, List.set_cons_zero]
          refine wpAnyH_takeD (i := 19) (d := 115) (v := .bool false) rfl rfl (by kernel_rfl) (by kernel_rfl) (by kernel_rfl) (fun _ _ _ h => h) (Or.inl ⟨by rfl, fun W hW => by go_simp⟩) hs ?_
          simp only [Act.put, List.setIfInBounds_toArray, List.set_cons_succ, List.set_cons_zero]
          refine wpAnyH_takeD (i := 20) (d := 116) (v := .bool false) rfl rfl (by kernel_rfl) (by kernel_rfl) (by kernel_rfl) (fun _ _ _ h => h) (Or.inl ⟨by rfl, fun W hW => by go_simp⟩) hs ?_
          simp only [Act.put, List.setIfInBounds_toArray, List.set_cons_succ, List.set_cons_zero]
          refine wpAnyH_takeD (i := 21) (d := 117) (v := .int .i64 11) rfl rfl (by kernel_rfl) (by kernel_rfl) (by kernel_rfl) (fun _ _ _ h => h) (Or.inl ⟨by rfl, fun W hW => by go_simp⟩) hs ?_
          simp only [Act.put, List.setIfInBounds_toArray, List.set_cons_succ, List.set_cons_zero]
          refine wpAnyH_takeD (i := 22) (d := 118) (v := .bool true) rfl rfl (by kernel_rfl) (by kernel_rfl) (by kernel_rfl) (fun _ _ _ h => h) (Or.inl ⟨by rfl, fun W hW => by go_simp⟩) hs ?_
          simp only [Act.put, List.setIfInBounds_toArray, List.set_cons_succ, List.set_cons_zero]
          refine wpAnyH_takeD (i := 23) (d := 119) (v := .bool true) rfl rfl (by kernel_rfl) (by kernel_rfl) (by kernel_rfl) (fun _ _ _ h => h) (Or.inl ⟨by rfl, fun W hW => by go_simp⟩) hs ?_
          simp only [Act.put, List.setIfInBounds_toArray, List.set_cons_succ, List.set_cons_zero]
          refine wpAnyH_takeD (i := 24) (d := 120) (v := .bool true) rfl rfl (by kernel_rfl) (by kernel_rfl) (by kernel_rfl) (fun _ _ _ h => h) (Or.inl ⟨by rfl, fun W hW => by go_simp⟩) hs ?_
          simp only [Act.put, List.setIfInBounds_toArray, List.set_cons_succ, List.set_cons_zero]
          refine wpAnyH_takeD (i := 25) (d := 121) (v := .bool true) rfl rfl (by kernel_rfl) (by kernel_rfl) (by kernel_rfl) (fun _ _ _ h => h) (Or.inl ⟨by rfl, fun W hW => by go_simp⟩) hs ?_
          simp only [Act.put, List.setIfInBounds_toArray, List.set_cons_succ, List.set_cons_zero]
          refine wpAnyH_takeD (i := 26) (d := 122) rfl rfl (by kernel_rfl) (by kernel_rfl) (by kernel_rfl) (fun _ _ _ h => h) (yieldsIf_load_row (by rfl) 28 (.tmp 4) rfl (w.heap.size + 1) rfl 28 _ (0, 0) _ (fun w' hw' => (HX9.out _ hw').2.1) Try.underlying28 rfl (by kernel_rfl)) hs ?_
          simp only [Act.put, List.setIfInBounds_toArray, List.set_cons_succ, List.set_cons_zero]
          refine wpAnyH_takeD (i := 27) (d := 123) rfl rfl (by kernel_rfl) (by kernel_rfl) (by kernel_rfl) (fun _ _ _ h => h) (yieldsIf_load_row (by rfl) 28 (.tmp 5) rfl (w.heap.size + 2) rfl 28 _ (0, 0) _ (fun w' hw' => (HX9.out _ hw').2.2) Try.underlying28 rfl (by kernel_rfl)) hs ?_
          simp only [Act.put, List.setIfInBounds_toArray, List.set_cons_succ, List.set_cons_zero]
          refine wpAnyH_takeD (i := 29) (d := 125) rfl rfl (by kernel_rfl) (by kernel_rfl) (by kernel_rfl) (fun _ _ _ h => h) (yieldsIf_load_row (by rfl) 28 (.tmp 4) rfl (w.heap.size + 1) rfl 28 _ (0, 0) _ (fun w' hw' => (HX9.out _ hw').2.1) Try.underlying28 rfl (by kernel_rfl)) hs ?_
          simp only [Act.put, List.setIfInBounds_toArray, List.set_cons_succ, List.set_cons_zero]
          refine wpAnyH_takeD (i := 30) (d := 126) rfl rfl (by kernel_rfl) (by kernel_rfl) (by kernel_rfl) (fun _ _ _ h => h) (yieldsIf_load_row (by rfl) 28 (.tmp 5) rfl (w.heap.size + 2) rfl 28 _ (0, 0) _ (fun w' hw' => (HX9.out _ hw').2.2) Try.underlying28 rfl (by kernel_rfl)) hs ?_
          simp only [Act.put, List.setIfInBounds_toArray, List.set_cons_succ, List.set_cons_zero]
          refine wpAnyH_ready (rs := [28]) (by kernel_rfl) (by simp) (AllReadyH.cons rfl (fun K hK => ?_) AllReadyH.nil)
          go_simp
          go_at_call 15
          refine (KS1.out _ hs).mono ?_; rintro e Wc ⟨rfl, y⟩
          go_wp2_with fail
          refine hK.out _ _ (hs.trans y) (fun hs => ?_)
          clear hK K y
          refine wpAnyH_ready (rs := [31]) (by kernel_rfl) (by simp) (AllReadyH.cons rfl (fun K hK => ?_) AllReadyH.nil)
          go_simp
          go_at_call 16
          refine (KS2.out _ hs).mono ?_; rintro e Wc ⟨rfl, y⟩
          go_wp2_with fail
          refine hK.out _ _ (hs.trans y) (fun hs => ?_)
          clear hK K y
          refine wpAnyH_takeD (i := 32) (d := 128) (v := .bool true) rfl rfl (by kernel_rfl) (by kernel_rfl) (by kernel_rfl) (fun _ _ _ h => h) (Or.inl ⟨by rfl, fun W hW => by go_simp⟩) hs ?_
          simp only [Act.put, List.setIfInBounds_toArray, List.set_cons_succ, List.set_cons_zero]
          refine wpAnyH_takeD (i := 33) (d := 129) (v := .bool true) rfl rfl (by kernel_rfl) (by kernel_rfl) (by kernel_rfl) (fun _ _ _ h => h) (Or.inl ⟨by rfl, fun W hW => by go_simp⟩) hs ?_
          simp only [Act.put, List.setIfInBounds_toArray, List.set_cons_succ, List.set_cons_zero]
          refine wpAnyH_takeD (i := 34) (d := 130) (v := .bool true) rfl rfl (by kernel_rfl) (by kernel_rfl) (by kernel_rfl) (fun _ _ _ h => h) (Or.inl ⟨by rfl, fun W hW => by go_simp⟩) hs ?_
          simp only [Act.put, List.setIfInBounds_toArray, List.set_cons_succ, List.set_cons_zero]
          refine wpAnyH_ready (rs := [35]) (by kernel_rfl) (by simp) (AllReadyH.cons rfl (fun K hK => ?_) AllReadyH.nil)
          go_simp
          go_at_call 8
          refine (HSU.out _).mono ?_; rintro e Wc ⟨rfl, y⟩
          go_wp2_with fail
          refine hK.out _ _ (hs.trans y) (fun hs => ?_)
          clear hK K y
          refine wpAnyH_takeD (i := 36) (d := 132) (v := .bool true) rfl rfl (by kernel_rfl) (by kernel_rfl) (by kernel_rfl) (fun _ _ _ h => h) (Or.inl ⟨by rfl, fun W hW => by go_simp⟩) hs ?_
          simp only [Act.put, List.setIfInBounds_toArray, List.set_cons_succ, List.set_cons_zero]
          refine wpAnyH_takeD (i := 37) (d := 6) (v := .bool true) rfl rfl (by kernel_rfl) (by kernel_rfl) (by kernel_rfl) (fun _ _ _ h => h) (Or.inl ⟨by rfl, fun W hW => by go_simp⟩) hs ?_
          simp only [Act.put, List.setIfInBounds_toArray, List.set_cons_succ, List.set_cons_zero]
          refine wpAnyH_done (by kernel_rfl) ?_ _
          go_wp2
          go_ret
          exact ⟨rfl, e0.trans (HX8.out.trans hs)⟩
end Go.Proofs.Ytejiafihiielgaa
