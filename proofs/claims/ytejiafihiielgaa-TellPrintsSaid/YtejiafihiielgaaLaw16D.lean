/-
  THE LAWS OF LAYER 16: TellOther, with package tell's Print, Parse, Right, Same and 'sure' as premises.
-/
import Derived.Test.YtejiafihiielgaaTelC
namespace Go.Proofs.Ytejiafihiielgaa
open Go.RowKit
set_option linter.unusedVariables false
set_option maxRecDepth 100000

theorem three_rows (w : World) (a b c : Obj) (W : World) (x : Ext (((w.alloc a).alloc b).alloc c) W) : W.heap[w.heap.size]? = some a ∧ W.heap[w.heap.size + 1]? = some b ∧ W.heap[w.heap.size + 2]? = some c :=
  ⟨x.block ((heap_alloc_old _ _ (by simp; omega)).trans ((heap_alloc_old _ _ (by simp)).trans (heap_alloc_new w _))), x.block ((heap_alloc_old _ _ (by simp)).trans (heap_new_at _ _ (by simp))), x.block (heap_new_at _ _ (by simp))⟩
set_option maxHeartbeats 8000000 in
theorem tellOther.walk0 (V : QstV) (Q : Qst) (V' : QstV) (R : Qst) (U : QstV) (T : Tel) (w : World) (h : QstAt w V Q) (hq : QstW Q) (nb1 : Q.nb ≤ 1000000000000000) (nr1 : Q.nr ≤ 1000000000000000) (h' : QstAt w V' R) (hq' : QstW R) (nb2 : R.nb ≤ 1000000000000000) (nr2 : R.nr ≤ 1000000000000000)
    (k : TelAt w U T) (kq : TelW T) (nb3 : T.nb ≤ 1000000000000000) (nr3 : T.nr ≤ 1000000000000000)
    (hPr : TPrintC 9) (hPa : TParseC 18) (hRi : TRightC 13) (hSa : TSameC 15) (sure : ∀ w, Calls Try.prog 8 #[] w fun e w' => e = .returned (.bool true) ∧ Ext w w') :
    Calls Try.prog 6 #[.agg (qstC V Q), .agg (qstC V' R), .agg (telC U T)] w fun e w' => e = .returned (.bool true) ∧ Ext w w' := by
  have HSU := Lib.hid sure
  obtain ⟨W3, hW3, e0, HX⟩ : ∃ W3, W3 = ((w.alloc (.cells (qstC V Q) 25)).alloc (.cells (qstC V' R) 25)).alloc (.cells (telC U T) 28) ∧ Ext w W3 ∧ Hid (∀ W, Ext W3 W → W.heap[w.heap.size]? = some (.cells (qstC V Q) 25 (0, 0)) ∧ W.heap[w.heap.size + 1]? = some (.cells (qstC V' R) 25 (0, 0)) ∧ W.heap[w.heap.size + 2]? = some (.cells (telC U T) 28 (0, 0))) :=
    ⟨_, rfl, ((Ext.alloc w _).trans (Ext.alloc _ _)).trans (Ext.alloc _ _), Lib.hid fun W x => three_rows w _ _ _ W x⟩
  obtain ⟨b1, -, b3⟩ := HX.out _ (Ext.refl W3)
  cases hf : (fewQA Q && fewQT T) with
  | false =>
    have KF := Lib.hid (fun W => few16_v (V := V) (U := U) hf nb1 nr1 nb3 nr3 W)
    clear h h' k hq hq' kq hf hPr hPa hRi hSa sure
    go_enter Try.func6, Try.ntmps6
    go_upto_region 1 with fail
    rw [← hW3]
    clear hW3
    go_wp2_with (first
      | (refine wpList_load_row rfl 25 (.tmp 3) rfl (w.heap.size) rfl 25 _ (0, 0) _ b1 Try.underlying25 rfl (by kernel_rfl) ?_)
      | (refine wpList_load_row rfl 28 (.tmp 5) rfl (w.heap.size + 2) rfl 28 _ (0, 0) _ b3 Try.underlying28 rfl (by kernel_rfl) ?_))
    refine (KF.out _).mono ?_; rintro e w4 ⟨rfl, x4⟩
    go_wp2_with fail
    refine (HSU.out _).mono ?_; rintro e wz ⟨rfl, xz⟩
    go_wp2
    go_ret
    exact ⟨rfl, e0.trans (x4.trans xz)⟩
  | true =>
   have KF := Lib.hid (fun W => few16_v (V := V) (U := U) hf nb1 nr1 nb3 nr3 W)
   obtain ⟨⟨m1, m2⟩, m3, m4⟩ := (fewQA_iff' Q T).1 hf
   cases hg : fewQA R with
   | false =>
    have KG := Lib.hid (fun W => rfew16A_v (V := V') hg nb2 nr2 W)
    clear h h' k hq hq' kq hf hg hPr hPa hRi hSa sure
    go_enter Try.func6, Try.ntmps6
    go_upto_region 1 with fail
    rw [← hW3]
    clear hW3
    go_wp2_with (first
      | (refine wpList_load_row rfl 25 (.tmp 3) rfl (w.heap.size) rfl 25 _ (0, 0) _ b1 Try.underlying25 rfl (by kernel_rfl) ?_)
      | (refine wpList_load_row rfl 28 (.tmp 5) rfl (w.heap.size + 2) rfl 28 _ (0, 0) _ b3 Try.underlying28 rfl (by kernel_rfl) ?_))
    refine (KF.out _).mono ?_; rintro e w4 ⟨rfl, x4⟩
    have b4 := (HX.out _ x4).2.1
    go_wp2_with (first
      | (refine wpList_load_row_g (by rfl) 25 (.tmp 4) rfl (w.heap.size + 1) rfl 25 _ (0, 0) _ b4 Try.underlying25 rfl (by kernel_rfl) ?_))
    refine (KG.out _).mono ?_; rintro e w5 ⟨rfl, x5⟩
    go_wp2_with fail
    refine (HSU.out _).mono ?_; rintro e wz ⟨rfl, xz⟩
    go_wp2
    go_ret
    exact ⟨rfl, e0.trans ((x4.trans x5).trans xz)⟩
   | true =>
    have KG := Lib.hid (fun W => rfew16A_v (V := V') hg nb2 nr2 W)
    obtain ⟨m5, m6⟩ := (fewQA_iff R).1 hg
    have KP := Lib.hid (fun W (x : Ext w W) => hPr V Q U T W (h.ext x) hq (by omega) (by omega) (k.ext x) (by omega) (by omega) kq.wR)
    have KR := Lib.hid (fun W (x : Ext w W) => rright15_any V' R W (h'.ext x) (by omega) (by omega))
    have KT := Lib.hid (fun W (x : Ext w W) => k.ext x)
    have KH := Lib.hid (fun W (x : Ext w W) => h'.ext x)
    have HM : Hid (R.nb ≤ 1000000 ∧ R.nr ≤ 1000000 ∧ T.nb ≤ 1000000 ∧ T.nr ≤ 1000000) := Lib.hid ⟨by omega, by omega, by omega, by omega⟩
    have HRb := Lib.hid kq.wR
    have HQ' := Lib.hid hq'
    have HPa := Lib.hid hPa
    have HRi := Lib.hid hRi
    have HSa := Lib.hid hSa
    clear h h' k hq hq' kq hf hg hPr hPa hRi hSa sure m1 m2 m3 m4 m5 m6 nb1 nb2 nb3 nr1 nr2 nr3
    go_enter Try.func6, Try.ntmps6
    go_upto_region 1 with fail
    rw [← hW3]
    clear hW3
    go_wp2_with (first
      | (refine wpList_load_row rfl 25 (.tmp 3) rfl (w.heap.size) rfl 25 _ (0, 0) _ b1 Try.underlying25 rfl (by kernel_rfl) ?_)
      | (refine wpList_load_row rfl 28 (.tmp 5) rfl (w.heap.size + 2) rfl 28 _ (0, 0) _ b3 Try.underlying28 rfl (by kernel_rfl) ?_))
    refine (KF.out _).mono ?_; rintro e w4 ⟨rfl, x4⟩
    have b4 := (HX.out _ x4).2.1
    go_wp2_with (first
      | (refine wpList_load_row_g (by rfl) 25 (.tmp 4) rfl (w.heap.size + 1) rfl 25 _ (0, 0) _ b4 Try.underlying25 rfl (by kernel_rfl) ?_))
    refine (KG.out _).mono ?_; rintro e w5 ⟨rfl, x5⟩
    have x5 := x4.trans x5
    obtain ⟨c1, c2, c3⟩ := HX.out _ x5
    clear b1 b3 b4 x4 KF KG
    go_wp2_with (first
      | (refine wpList_load_row rfl 25 (.tmp 3) rfl (w.heap.size) rfl 25 _ (0, 0) _ c1 Try.underlying25 rfl (by kernel_rfl) ?_)
      | (refine wpList_load_row rfl 28 (.tmp 5) rfl (w.heap.size + 2) rfl 28 _ (0, 0) _ c3 Try.underlying28 rfl (by kernel_rfl) ?_))
    refine (KP.out _ (e0.trans x5)).mono ?_; rintro e w6 ⟨xb, xq, rfl, hxq, hxm, hx, x6⟩
    have x6 := x5.trans x6
    clear c1 c2 c3 x5 KP
    cases hr : rightT Q T with
    | false =>
      obtain ⟨e1, e2⟩ := tprE_no hr
      rw [e1]
      clear e1 e2 hr hx hxq
      go_wp2_with fail
      refine (HSU.out _).mono ?_; rintro e wz ⟨rfl, xz⟩
      go_wp2
      go_ret
      exact ⟨rfl, e0.trans (x6.trans xz)⟩
    | true =>
     obtain ⟨e1, e2⟩ := tprE_yes hr
     rw [e2] at hx hxq
     rw [e1, e2]
     clear e1 e2
     have d2 := (HX.out _ x6).2.1
     go_wp2_with (first
       | (refine wpList_load_row_g (by rfl) 25 (.tmp 4) rfl (w.heap.size + 1) rfl 25 _ (0, 0) _ d2 Try.underlying25 rfl (by kernel_rfl) ?_))
     refine (KR.out _ (e0.trans x6)).mono ?_; rintro e w7 ⟨rfl, x7⟩
     have hx := hx.ext x7
     have x7 := x6.trans x7
     clear d2 x6 KR
     cases hrr : rightQ R with
     | false =>
      clear hrr hr hx hxq
      go_wp2_with fail
      refine (HSU.out _).mono ?_; rintro e wz ⟨rfl, xz⟩
      go_wp2
      go_ret
      exact ⟨rfl, e0.trans (x7.trans xz)⟩
     | true =>
      have hsz := tsay_size hr
      have hbd := tsayF_bd hr HRb.out
      have KPa := Lib.hid (fun W (x : Ext w7 W) => HPa.out V' R xb (tsayN T) xq (tsayF T) W (KH.out W (e0.trans (x7.trans x))) HQ'.out HM.out.1 HM.out.2.1 (hx.ext x) (by omega) hxq hxm hbd)
      have HTR := Lib.hid (tpa_R (Q := R) (n := tsayN T) (f := tsayF T) (by omega) hbd)
      have HOt := Lib.hid (fun hk => tother (R := R) hr hrr hk)
      have HEx := Lib.hid (fun hk hc => texcept (R := R) hr hrr hk hc HRb.out)
      have HPP := Lib.hid (fun hE => tparse_parts (Q := R) (n := tsayN T) (f := tsayF T) hE)
      generalize tpaT R (tsayN T) (tsayF T) = T2 at *
      generalize tpaE R (tsayN T) (tsayF T) = E2 at *
      generalize tsayN T = N at *
      have d2 := (HX.out _ x7).2.1
      clear hr hrr hx hbd
      go_wp2_with (first
        | (refine wpList_load_row rfl 25 (.tmp 4) rfl (w.heap.size + 1) rfl 25 _ (0, 0) _ d2 Try.underlying25 rfl (by kernel_rfl) ?_))
      refine (KPa.out _ (Ext.refl w7)).mono ?_; rintro e w8 ⟨Y, rfl, hY, x8⟩
      obtain ⟨W9, hWW9, yW9, rW9⟩ : ∃ W, W = ((w8.alloc (.cells #[.int .i64 0, .int .i64 0, .int .i64 0, .int .i64 0, .int .i64 0, .int .i64 0, .int .i64 0, .slice none 0 0, .slice none 0 0] 28)).setRow w8.heap.size (telC Y T2)) ∧ Ext w8 W ∧ W.heap[w8.heap.size]? = some (.cells (telC Y T2) 28 (0, 0)) := ⟨_, rfl, told_row _ _ _ _⟩
      have x9 := (x7.trans x8).trans yW9
      have hY := hY.ext yW9
      have g9 := rW9
      go_upto_region 7 with (first
        | (refine wpList_store_row rfl 28 (.tmp 9) (.tmp 39) rfl _ _ rfl rfl 28 _ (heap_new_at _ _ (by first | rfl | simp)) (by kernel_rfl) rfl (by simp [telC, Value.oneCell']) ?_))
      rw [← hWW9]
      clear hWW9 yW9 rW9 d2 x8 KPa
      obtain ⟨r1, r2, r3⟩ := HX.out _ x9
      have k1 : W9.cell? ⟨w.heap.size, 0, none⟩ = some (.int .i64 Q.k) := cell_of_heap r1 rfl
      have k2 : W9.cell? ⟨w.heap.size + 1, 0, none⟩ = some (.int .i64 R.k) := cell_of_heap r2 rfl
      by_cases hk : Q.k = R.k
      · have hkb : (Q.k != R.k) = false := by simp [hk]
        have k3 : W9.cell? ⟨w.heap.size + 2, 1, none⟩ = some (.int .i64 T.cd) := cell_of_heap r3 rfl
        by_cases hc : T.cd = 0
        · have hcb : (T.cd != 0) = false := by simp [hc]
          by_cases hE : E2 = 0
          · have hright := (HPP.out hE).2.1
            have KRi := Lib.hid (HRi.out V' R Y T2 W9 (KH.out _ (e0.trans x9)) HQ'.out HM.out.1 HM.out.2.1 hY HTR.out.1 HTR.out.2.1)
            rw [hright] at KRi
            subst hE
            clear hright hk hc
            go_wp2_with (first
              | (refine wpList_load_row_g (by rfl) 25 (.tmp 4) rfl (w.heap.size + 1) rfl 25 _ (0, 0) _ r2 Try.underlying25 rfl (by kernel_rfl) ?_)
              | (refine wpList_load_row_g (by rfl) 28 (.tmp 9) rfl (w8.heap.size) rfl 28 _ (0, 0) _ g9 Try.underlying28 rfl (by kernel_rfl) ?_))
            refine KRi.out.mono ?_; rintro e wA ⟨rfl, xA⟩
            go_wp2_with fail
            refine (HSU.out _).mono ?_; rintro e wz ⟨rfl, xz⟩
            go_wp2
            go_ret
            exact ⟨rfl, e0.trans ((x9.trans xA).trans xz)⟩
          · have hEb : (E2 != 0) = true := by simp [hE]
            clear hE hk hc
            go_wp2_with fail
            refine (HSU.out _).mono ?_; rintro e wz ⟨rfl, xz⟩
            go_wp2
            go_ret
            exact ⟨rfl, e0.trans (x9.trans xz)⟩
        · have hcb : (T.cd != 0) = true := by simp [hc]
          obtain ⟨hE, hal⟩ := HEx.out hk hc
          subst hE
          have KSa := Lib.hid (HSa.out U T Y T2 W9 (KT.out _ (e0.trans x9)) hY HM.out.2.2.1 HM.out.2.2.2 HTR.out.1 HTR.out.2.1)
          rw [(sameT_iff T T2).2 hal] at KSa
          clear hal hk hc
          go_wp2_with (first
            | (refine wpList_load_row_g (by rfl) 28 (.tmp 5) rfl (w.heap.size + 2) rfl 28 _ (0, 0) _ r3 Try.underlying28 rfl (by kernel_rfl) ?_)
            | (refine wpList_load_row_g (by rfl) 28 (.tmp 9) rfl (w8.heap.size) rfl 28 _ (0, 0) _ g9 Try.underlying28 rfl (by kernel_rfl) ?_))
          refine KSa.out.mono ?_; rintro e wA ⟨rfl, xA⟩
          go_wp2_with fail
          refine (HSU.out _).mono ?_; rintro e wz ⟨rfl, xz⟩
          go_wp2
          go_ret
          exact ⟨rfl, e0.trans ((x9.trans xA).trans xz)⟩
      · have hkb : (Q.k != R.k) = true := by simp [hk]
        have hE : E2 = 14 := HOt.out hk
        subst hE
        clear hk
        go_wp2_with fail
        refine (HSU.out _).mono ?_; rintro e wz ⟨rfl, xz⟩
        go_wp2
        go_ret
        exact ⟨rfl, e0.trans (x9.trans xz)⟩
end Go.Proofs.Ytejiafihiielgaa
