/-
  THE LAWS OF LAYER 17: the walk of DataBack (package data's contracts and 'sure' as premises).
-/
import Derived.Test.YtlafnobjfajamaaGreatPk15
import Derived.Test.YtlafnobjfajamaaGreatPk25
import Derived.Test.YtlafnobjfajamaaGreatPk16
import Derived.Test.YtlafnobjfajamaaGreatPk19
import Derived.Test.YtlafnobjfajamaaGreatPk2
import Derived.Deep.DeepCutAuto
namespace Go.Proofs.YtlafnobjfajamaaGreat
open Go.RowKit
set_option linter.unusedVariables false
set_option maxRecDepth 100000

theorem datT_cd17 (F : Fil) (Q : Qst) : (datT F Q).cd = datE F Q := by
  by_cases h : datE F Q = 0
  · rw [h]
    unfold datT
    rw [if_neg (fun hh => hh h)]
    repeat' split
    all_goals rfl
  · rw [(datF_no h).2]
set_option maxHeartbeats 16000000 in
theorem dataBack.walk0 (V : FilV) (F : Fil) (w : World) (h : FilAt w V F) (hw : FilW F) (f1 : F.nC ≤ 1000000000000000) (f2 : F.nI ≤ 1000000000000000) (f3 : F.nH ≤ 1000000000000000) (f4 : F.nR ≤ 1000000000000000) (U : QstV) (Q : Qst) (k : QstAt w U Q) (kq : QstW Q) (nb1 : Q.nb ≤ 1000000000000000) (nr1 : Q.nr ≤ 1000000000000000)
    (hDo : DDoC 12) (hWr : DWritesC 14) (hSa : FSameC 27) (sure : ∀ w, Calls Tryz.prog 11 #[] w fun e w' => e = .returned (.bool true) ∧ Ext w w') :
    Calls Tryz.prog 6 #[.agg (filC V F), .agg (qstC U Q)] w fun e w' => e = .returned (.bool true) ∧ Ext w w' := by
  have HSU := Lib.hid sure
  clear sure
  obtain ⟨W0, hW0, e0, HX⟩ : ∃ W0, W0 = (w.alloc (.cells (filC V F) 29)).alloc (.cells (qstC U Q) 31) ∧ Ext w W0 ∧ Hid (∀ W, Ext W0 W → W.heap[w.heap.size]? = some (.cells (filC V F) 29 (0, 0)) ∧ W.heap[w.heap.size + 1]? = some (.cells (qstC U Q) 31 (0, 0))) := ⟨_, rfl, (Ext.alloc w _).trans (Ext.alloc _ _), Lib.hid fun W x => ⟨x.block ((heap_alloc_old _ _ (by simp)).trans (heap_alloc_new w _)), x.block (heap_new_at _ _ (by simp))⟩⟩
  obtain ⟨b1, -⟩ := HX.out _ (Ext.refl W0)
  cases hfw : decide (F.nC + F.nI + F.nH + F.nR ≤ 4000) with
  | false =>
    have KF := Lib.hid (fun W => rfew14_v (V := V) hfw f1 f2 f3 f4 W)
    clear h hw k kq hfw hDo hWr hSa
    go_enter Tryz.func6, Tryz.ntmps6
    go_upto_region 1 with fail
    rw [← hW0]
    clear hW0
    go_wp2_with (first
      | (refine wpList_load_row rfl 29 (.tmp 2) rfl (w.heap.size) rfl 29 _ (0, 0) _ b1 Tryz.underlying29 rfl (by kernel_rfl) ?_)
      | (go_at_call 9; refine (KF.out _).mono ?_; rintro e w3 ⟨rfl, x3⟩)
      | (go_at_call 11; refine (HSU.out _).mono ?_; rintro e w4 ⟨rfl, x4⟩))
    go_ret
    exact ⟨rfl, (e0.trans x3).trans x4⟩
  | true =>
   have KF := Lib.hid (fun W => rfew14_v (V := V) hfw f1 f2 f3 f4 W)
   have hsm := few_small hfw
   cases hfq : fewQA Q with
   | false =>
     have KG := Lib.hid (fun W => rfew16A_v (V := U) hfq nb1 nr1 W)
     clear h hw k kq hfw hfq hDo hWr hSa
     go_enter Tryz.func6, Tryz.ntmps6
     go_upto_region 1 with fail
     rw [← hW0]
     clear hW0
     go_wp2_with (first
       | (refine wpList_load_row rfl 29 (.tmp 2) rfl (w.heap.size) rfl 29 _ (0, 0) _ b1 Tryz.underlying29 rfl (by kernel_rfl) ?_)
       | (go_at_call 9; refine (KF.out _).mono ?_; rintro e w3 ⟨rfl, x3⟩; have c3 := (HX.out _ x3).2)
       | (refine wpList_load_row_g (by rfl) 31 (.tmp 3) rfl (w.heap.size + 1) rfl 31 _ (0, 0) _ c3 Tryz.underlying31 rfl (by kernel_rfl) ?_)
       | (go_at_call 10; refine (KG.out _).mono ?_; rintro e w4 ⟨rfl, x4⟩)
       | (go_at_call 11; refine (HSU.out _).mono ?_; rintro e w5 ⟨rfl, x5⟩))
     go_ret
     exact ⟨rfl, ((e0.trans x3).trans x4).trans x5⟩
   | true =>
     have KG := Lib.hid (fun W => rfew16A_v (V := U) hfq nb1 nr1 W)
     obtain ⟨n1, n2⟩ := (fewQA_iff Q).1 hfq
     have n1 : Q.nb ≤ 1000000 := by omega
     have n2 : Q.nr ≤ 1000000 := by omega
     clear hfw hfq f1 f2 f3 f4 nb1 nr1
     have KD := Lib.hid (fun W (x : Ext w W) => hDo V F U Q W (h.ext x) hw hsm (k.ext x) kq n1 n2)
     have KW := Lib.hid (fun W => hWr Q.k W)
     have HDo := Lib.hid hDo
     have HSa := Lib.hid hSa
     have HQ := Lib.hid k
     have HKQ := Lib.hid kq
     have HFW := Lib.hid hw
     clear h hw k kq hDo hSa hWr
     go_enter Tryz.func6, Tryz.ntmps6
     go_upto_region 1 with fail
     rw [← hW0]
     clear hW0
     go_upto_region 3 with (first
       | (refine wpList_load_row rfl 29 (.tmp 2) rfl (w.heap.size) rfl 29 _ (0, 0) _ b1 Tryz.underlying29 rfl (by kernel_rfl) ?_)
       | (go_at_call 9; refine (KF.out _).mono ?_; rintro e w2 ⟨rfl, x2⟩; have c1 := (HX.out _ x2).2)
       | (refine wpList_load_row_g (by rfl) 31 (.tmp 3) rfl (w.heap.size + 1) rfl 31 _ (0, 0) _ c1 Tryz.underlying31 rfl (by kernel_rfl) ?_)
       | (go_at_call 10; refine (KG.out _).mono ?_; rintro e w3 ⟨rfl, x3⟩))
     have y3 := x2.trans x3
     obtain ⟨b3, c3⟩ := HX.out _ y3
     clear b1 c1 KF KG x2 x3
     have e3 := e0.trans y3
     go_upto_region 4 with (first
       | (refine wpList_load_row rfl 29 (.tmp 2) rfl (w.heap.size) rfl 29 _ (0, 0) _ b3 Tryz.underlying29 rfl (by kernel_rfl) ?_)
       | (refine wpList_load_row rfl 31 (.tmp 3) rfl (w.heap.size + 1) rfl 31 _ (0, 0) _ c3 Tryz.underlying31 rfl (by kernel_rfl) ?_)
       | (go_at_call 12; refine (KD.out _ e3).mono ?_; rintro e w4 ⟨V4, X4, rfl, hF4, hT4, x4⟩; have r4 := toldFT w4 #[.int .i64 0, .int .i64 0, .int .i64 0, .int .i64 0, .int .i64 0, .int .i64 0, .int .i64 0, .int .i64 0, .int .i64 0, .int .i64 0, .slice none 0 0, .slice none 0 0, .slice none 0 0, .slice none 0 0] (filC V4 (dooF F Q)) #[.int .i64 0, .int .i64 0, .int .i64 0, .int .i64 0, .int .i64 0, .int .i64 0, .int .i64 0, .slice none 0 0, .slice none 0 0] (telC X4 (dooT F Q)) 29 37)
       | (refine wpList_store_row rfl 29 (.tmp 5) (.tmp 28) rfl w4.heap.size _ rfl rfl 29 _ r4.2.2.2.1 (by kernel_rfl) rfl (by simp [filC, Value.oneCell']) ?_)
       | (refine wpList_store_row rfl 37 (.tmp 6) (.tmp 29) rfl (w4.heap.size + 1) _ rfl rfl 37 _ r4.2.2.2.2 (by kernel_rfl) rfl (by simp [telC, Value.oneCell']) ?_))
     obtain ⟨W4, hW4, z4, g5, g6⟩ : ∃ W, W = ((((w4.alloc (.cells #[.int .i64 0, .int .i64 0, .int .i64 0, .int .i64 0, .int .i64 0, .int .i64 0, .int .i64 0, .int .i64 0, .int .i64 0, .int .i64 0, .slice none 0 0, .slice none 0 0, .slice none 0 0, .slice none 0 0] 29)).alloc (.cells #[.int .i64 0, .int .i64 0, .int .i64 0, .int .i64 0, .int .i64 0, .int .i64 0, .int .i64 0, .slice none 0 0, .slice none 0 0] 37)).setRow w4.heap.size (filC V4 (dooF F Q))).setRow (w4.heap.size + 1) (telC X4 (dooT F Q))) ∧ Ext w4 W ∧ W.heap[w4.heap.size]? = some (.cells (filC V4 (dooF F Q)) 29 (0, 0)) ∧ W.heap[w4.heap.size + 1]? = some (.cells (telC X4 (dooT F Q)) 37 (0, 0)) := ⟨_, rfl, r4.1, r4.2.1, r4.2.2.1⟩
     rw [← hW4]
     clear hW4 r4
     generalize w4.heap.size = G5 at g5 g6 ⊢
     have hF4 := hF4.ext z4
     have y4 := y3.trans (x4.trans z4)
     have e4 := e0.trans y4
     clear b3 c3 e3 y3 x4 z4 KD hT4
     cases hok : okB F Q with
     | false =>
       obtain ⟨-, o2, -, -⟩ := okB_no hok
       rw [o2]
       clear hok o2
       go_wp2_with (first
         | (go_at_call 11; refine (HSU.out _).mono ?_; rintro e wz ⟨rfl, xz⟩))
       go_ret
       exact ⟨rfl, e4.trans xz⟩
     | true =>
       obtain ⟨hr, hq, -, o2, o3, o4⟩ := okB_yes hok
       rw [o3] at g5 hF4
       rw [o4] at g6
       rw [o2]
       have hcd := datT_cd17 F Q
       by_cases hz : datE F Q = 0
       · have c0 : W4.cell? ⟨G5 + 1, 1, none⟩ = some (.int .i64 0) := num_cell (hcd.trans hz) (cell_of_heap g6 rfl)
         have ck : W4.cell? ⟨w.heap.size + 1, 0, none⟩ = some (.int .i64 Q.k) := cell_of_heap (HX.out _ y4).2 rfl
         cases hwb : writesB Q.k with
         | false =>
           rw [hwb] at KW
           clear hok o2 o3 o4 hcd hz hwb hr hq
           go_wp2_with (first
             | (go_at_call 14; refine (KW.out _).mono ?_; rintro e w5 ⟨rfl, x5⟩)
             | (go_at_call 11; refine (HSU.out _).mono ?_; rintro e wz ⟨rfl, xz⟩))
           go_ret
           exact ⟨rfl, (e4.trans x5).trans xz⟩
         | true =>
           rw [hwb] at KW
           have af := ask_facts hq
           have hR := HKQ.out.wR
           obtain ⟨p1, -, p3⟩ := dat_right hq hr
           have hGW := dat_w hq hr HFW.out hR
           have hGS := dat_small (F := F) hq hr
           have hbr := back_right hq hwb
           have h2E : datE (datF F Q) Q = 0 := (p3 Q).trans hz
           have htw := dat_twice hq hr hz hwb
           have ok2 : okB (datF F Q) Q = true := by unfold okB; rw [p1, hq]; rfl
           have ok3 : okB (datF F Q) (backQ Q) = true := by unfold okB; rw [p1, hbr]; rfl
           obtain ⟨-, -, -, t2, t3, t4⟩ := okB_yes ok2
           obtain ⟨-, -, -, s2, s3, s4⟩ := okB_yes ok3
           have hbn := back_num af hwb
           have hbk := (writes_iff _).1 hwb
           have KD2 : Hid (∀ W V', FilAt W V' (datF F Q) → QstAt W U Q → Calls Tryz.prog 12 #[.agg (filC V' (datF F Q)), .agg (qstC U Q)] W fun e w' => ∃ V'' X, e = .returned (.tuple #[.agg (filC V'' (datF F Q)), .agg (telC X (datT (datF F Q) Q)), .int .i64 0]) ∧ FilAt w' V'' (datF F Q) ∧ Ext W w') := Lib.hid (fun W V' hf hqq => (HDo.out V' (datF F Q) U Q W hf hGW hGS hqq HKQ.out n1 n2).mono fun e w' hh => by rw [t2, t3, t4, htw] at hh; obtain ⟨V'', X, a1, a2, -, a4⟩ := hh; exact ⟨V'', X, a1, a2, a4⟩)
           have KD3 : Hid (∀ W V', FilAt W V' (datF F Q) → Calls Tryz.prog 12 #[.agg (filC V' (datF F Q)), .agg (qstC zeroQV (backQ Q))] W fun e w' => ∃ V'' F'' X, e = .returned (.tuple #[.agg (filC V'' F''), .agg (telC X (datT (datF F Q) (backQ Q))), .int .i64 0]) ∧ TelAt w' X (datT (datF F Q) (backQ Q)) ∧ Ext W w') := Lib.hid (fun W V' hf => (HDo.out V' (datF F Q) zeroQV (backQ Q) W hf hGW hGS (none_at _ rfl rfl) (qst_w hbr (fun i hi => absurd hi (Nat.not_lt_zero i))) (Nat.zero_le _) (Nat.zero_le _)).mono fun e w' hh => by rw [s2, s4] at hh; obtain ⟨V'', X, a1, -, a3, a4⟩ := hh; exact ⟨V'', _, X, a1, a3, a4⟩)
           have hc2 := datT_cd17 (datF F Q) Q
           have HB5 := Lib.hid (fun (h5 : Q.k = 5 ∨ Q.k = 15) => back_bits hq hr hz h5)
           have HB6 := Lib.hid (fun (h6 : Q.k = 6 ∨ Q.k = 16 ∨ Q.k = 22 ∨ Q.k = 23) => back_words hq hr hz h6)
           have HAF := Lib.hid af
           have HBK := Lib.hid hbk
           clear hok o2 o3 o4 hcd hz hwb p1 p3 hGW hbr htw ok2 ok3 t2 t3 t4 s2 s3 s4 hr hq af hbk hR
           go_upto_region 6 with (first
             | (go_at_call 14; refine (KW.out _).mono ?_; rintro e w5 ⟨rfl, x5⟩))
           have y5 := y4.trans x5
           have e5 := e0.trans y5
           have g5 := x5.block g5
           have hF4 := hF4.ext x5
           have c5 := (HX.out _ y5).2
           clear c0 ck g6 y4 e4 x5 KW
           go_upto_region 7 with (first
             | (refine wpList_load_row rfl 29 (.tmp 5) rfl (G5) rfl 29 _ (0, 0) _ g5 Tryz.underlying29 rfl (by kernel_rfl) ?_)
             | (refine wpList_load_row rfl 31 (.tmp 3) rfl (w.heap.size + 1) rfl 31 _ (0, 0) _ c5 Tryz.underlying31 rfl (by kernel_rfl) ?_)
             | (go_at_call 12; refine (KD2.out _ V4 hF4 (HQ.out.ext e5)).mono ?_; rintro e w6 ⟨V6, X6, rfl, hF6, x6⟩; have r6 := toldFT w6 #[.int .i64 0, .int .i64 0, .int .i64 0, .int .i64 0, .int .i64 0, .int .i64 0, .int .i64 0, .int .i64 0, .int .i64 0, .int .i64 0, .slice none 0 0, .slice none 0 0, .slice none 0 0, .slice none 0 0] (filC V6 (datF F Q)) #[.int .i64 0, .int .i64 0, .int .i64 0, .int .i64 0, .int .i64 0, .int .i64 0, .int .i64 0, .slice none 0 0, .slice none 0 0] (telC X6 (datT (datF F Q) Q)) 29 37)
             | (refine wpList_store_row rfl 29 (.tmp 8) (.tmp 49) rfl w6.heap.size _ rfl rfl 29 _ r6.2.2.2.1 (by kernel_rfl) rfl (by simp [filC, Value.oneCell']) ?_)
             | (refine wpList_store_row rfl 37 (.tmp 9) (.tmp 50) rfl (w6.heap.size + 1) _ rfl rfl 37 _ r6.2.2.2.2 (by kernel_rfl) rfl (by simp [telC, Value.oneCell']) ?_))
           obtain ⟨W6, hW6, z6, g8, g9⟩ : ∃ W, W = ((((w6.alloc (.cells #[.int .i64 0, .int .i64 0, .int .i64 0, .int .i64 0, .int .i64 0, .int .i64 0, .int .i64 0, .int .i64 0, .int .i64 0, .int .i64 0, .slice none 0 0, .slice none 0 0, .slice none 0 0, .slice none 0 0] 29)).alloc (.cells #[.int .i64 0, .int .i64 0, .int .i64 0, .int .i64 0, .int .i64 0, .int .i64 0, .int .i64 0, .slice none 0 0, .slice none 0 0] 37)).setRow w6.heap.size (filC V6 (datF F Q))).setRow (w6.heap.size + 1) (telC X6 (datT (datF F Q) Q))) ∧ Ext w6 W ∧ W.heap[w6.heap.size]? = some (.cells (filC V6 (datF F Q)) 29 (0, 0)) ∧ W.heap[w6.heap.size + 1]? = some (.cells (telC X6 (datT (datF F Q) Q)) 37 (0, 0)) := ⟨_, rfl, r6.1, r6.2.1, r6.2.2.1⟩
           rw [← hW6]
           clear hW6 r6
           generalize w6.heap.size = G8 at g8 g9 ⊢
           have hF6 := hF6.ext z6
           have x6 := x6.trans z6
           have g5 := x6.block g5
           have hF4 := hF4.ext x6
           have y6 := y5.trans x6
           have e6 := e0.trans y6
           have c9 : W6.cell? ⟨G8 + 1, 1, none⟩ = some (.int .i64 0) := num_cell (hc2.trans h2E) (cell_of_heap g9 rfl)
           clear c5 y5 e5 x6 z6 hc2 h2E g9 KD2
           go_upto_region 9 with (first
             | (refine wpList_load_row_g (by rfl) 29 (.tmp 5) rfl (G5) rfl 29 _ (0, 0) _ g5 Tryz.underlying29 rfl (by kernel_rfl) ?_)
             | (refine wpList_load_row_g (by rfl) 29 (.tmp 8) rfl (G8) rfl 29 _ (0, 0) _ g8 Tryz.underlying29 rfl (by kernel_rfl) ?_)
             | (go_at_call 27; refine (HSa.out V4 _ V6 _ _ hF4 hF6 hGS hGS).mono ?_; rintro e w7 ⟨rfl, x7⟩; rw [sameF_self]))
           have y7 := y6.trans x7
           have e7 := e0.trans y7
           have g5 := x7.block g5
           have hF4 := hF4.ext x7
           have cr := (HX.out _ y7).2
           clear g8 c9 hF6 y6 e6 x7 HSa
           obtain ⟨M, hM⟩ : ∃ M, max Q.ct 1 = M := ⟨_, rfl⟩
           have HM := Lib.hid hM
           have p1 : w7.cell? ⟨w.heap.size + 1, 1, none⟩ = some (.int .i64 Q.ad) := cell_of_heap cr rfl
           have p2 : w7.cell? ⟨w.heap.size + 1, 2, none⟩ = some (.int .i64 Q.ct) := cell_of_heap cr rfl
           go_cut [11] from 65 to 71 (fun v wx => v = .pointer (some ⟨w7.heap.size, 0, none⟩) ∧ wx = w7.alloc (.cells #[.int .i64 3, .int .i64 Q.ad, .int .i64 M, .int .i64 0, .int .i64 0, .int .i64 0, .int .i64 0, .int .i64 0, .slice none 0 0, .slice none 0 0] 31))
           case first => as_aux_lemma =>
             by_cases hc : 1 ≤ Q.ct
             · have hMe : Hid (M = Q.ct) := Lib.hid (by rw [← HM.out]; omega)
               clear hM
               go_wp2_with fail
               go_meet
               exact ⟨rfl, by rw [hMe.out]⟩
             · have hMe : Hid (M = 1) := Lib.hid (by rw [← HM.out]; omega)
               have hc' : Q.ct < 1 := by omega
               clear hM hc
               go_wp2_with fail
               go_meet
               exact ⟨rfl, by rw [hMe.out]⟩
           case rest =>
             obtain ⟨rfl, rfl⟩ := hcut
             have pk : ∀ o, (w7.alloc o).cell? ⟨w.heap.size + 1, 0, none⟩ = some (.int .i64 Q.k) := fun o => (Ext.alloc w7 o).cell (heap_lt cr) (cell_of_heap cr rfl)
             clear hM p1 p2 cr
             by_cases h5 : Q.k = 5 ∨ Q.k = 15
             · have HBQ : Hid (qstC zeroQV (backQ Q) = #[.int .i64 1, .int .i64 Q.ad, .int .i64 M, .int .i64 0, .int .i64 0, .int .i64 0, .int .i64 0, .int .i64 0, .slice none 0 0, .slice none 0 0]) := Lib.hid (by unfold qstC backQ; rw [if_pos h5, HM.out]; rfl)
               have HB := Lib.hid (HB5.out h5)
               by_cases hk5 : Q.k = 5
               · have q1 : (Q.k == 5) = true := by simp [hk5]
                 have hN : wrN Q = 1 := by unfold wrN; rw [if_neg (by omega), if_neg (by omega)]
                 obtain ⟨BV, hBV⟩ : ∃ BV, (Q.va == 65280) = BV := ⟨_, rfl⟩
                 have hB0 : wrB Q 0 = BV := by unfold wrB; rw [if_pos hk5]; exact hBV
                 have HN := Lib.hid (And.intro hN hB0)
                 clear hN hB0 hk5 h5 hbn
                 go_upto_region 12 with fail
                 obtain ⟨W8, hW8, z8, gb⟩ : ∃ W, W = w7.alloc (.cells #[.int .i64 1, .int .i64 Q.ad, .int .i64 M, .int .i64 0, .int .i64 0, .int .i64 0, .int .i64 0, .int .i64 0, .slice none 0 0, .slice none 0 0] 31) ∧ Ext w7 W ∧ W.heap[w7.heap.size]? = some (.cells (qstC zeroQV (backQ Q)) 31 (0, 0)) := ⟨_, rfl, Ext.alloc _ _, by rw [HBQ.out]; exact heap_alloc_new _ _⟩
                 rw [← hW8]
                 clear hW8 pk
                 generalize w7.heap.size = GB at gb ⊢
                 have y8 := y7.trans z8
                 have e8 := e0.trans y8
                 have g5 := z8.block g5
                 have hF4 := hF4.ext z8
                 clear y7 e7 z8
                 go_upto_region 13 with (first
                   | (refine wpList_load_row rfl 29 (.tmp 5) rfl (G5) rfl 29 _ (0, 0) _ g5 Tryz.underlying29 rfl (by kernel_rfl) ?_)
                   | (refine wpList_load_row rfl 31 (.tmp 11) rfl (GB) rfl 31 _ (0, 0) _ gb Tryz.underlying31 rfl (by kernel_rfl) ?_)
                   | (go_at_call 12; refine (KD3.out _ V4 hF4).mono ?_; rintro e w9 ⟨V9, F9, X9, rfl, hT9, x9⟩; have r9 := toldFT w9 #[.int .i64 0, .int .i64 0, .int .i64 0, .int .i64 0, .int .i64 0, .int .i64 0, .int .i64 0, .int .i64 0, .int .i64 0, .int .i64 0, .slice none 0 0, .slice none 0 0, .slice none 0 0, .slice none 0 0] (filC V9 F9) #[.int .i64 0, .int .i64 0, .int .i64 0, .int .i64 0, .int .i64 0, .int .i64 0, .int .i64 0, .slice none 0 0, .slice none 0 0] (telC X9 (datT (datF F Q) (backQ Q))) 29 37)
                   | (refine wpList_store_row rfl 29 (.tmp 12) (.tmp 84) rfl w9.heap.size _ rfl rfl 29 _ r9.2.2.2.1 (by kernel_rfl) rfl (by simp [filC, Value.oneCell']) ?_)
                   | (refine wpList_store_row rfl 37 (.tmp 13) (.tmp 85) rfl (w9.heap.size + 1) _ rfl rfl 37 _ r9.2.2.2.2 (by kernel_rfl) rfl (by simp [telC, Value.oneCell']) ?_))
                 obtain ⟨W9, hW9, z9, g12, g13⟩ : ∃ W, W = ((((w9.alloc (.cells #[.int .i64 0, .int .i64 0, .int .i64 0, .int .i64 0, .int .i64 0, .int .i64 0, .int .i64 0, .int .i64 0, .int .i64 0, .int .i64 0, .slice none 0 0, .slice none 0 0, .slice none 0 0, .slice none 0 0] 29)).alloc (.cells #[.int .i64 0, .int .i64 0, .int .i64 0, .int .i64 0, .int .i64 0, .int .i64 0, .int .i64 0, .slice none 0 0, .slice none 0 0] 37)).setRow w9.heap.size (filC V9 F9)).setRow (w9.heap.size + 1) (telC X9 (datT (datF F Q) (backQ Q)))) ∧ Ext w9 W ∧ W.heap[w9.heap.size]? = some (.cells (filC V9 F9) 29 (0, 0)) ∧ W.heap[w9.heap.size + 1]? = some (.cells (telC X9 (datT (datF F Q) (backQ Q))) 37 (0, 0)) := ⟨_, rfl, r9.1, r9.2.1, r9.2.2.1⟩
                 rw [← hW9]
                 clear hW9 r9
                 generalize w9.heap.size = G12 at g12 g13 ⊢
                 have hT9 := hT9.ext z9
                 have y9 := y8.trans (x9.trans z9)
                 have e9 := e0.trans y9
                 obtain ⟨o1, o2, o3, o4⟩ := HB.out
                 have c13 : W9.cell? ⟨G12 + 1, 1, none⟩ = some (.int .i64 0) := num_cell o3 (cell_of_heap g13 rfl)
                 have ck := (cell_of_heap (j := 0) (HX.out _ y9).2 rfl : W9.cell? ⟨w.heap.size + 1, 0, none⟩ = some (.int .i64 Q.k))
                 clear y8 e8 x9 z9 g5 gb hF4 KD3 o1 o3 g12
                 go_upto_region 17 with fail
                 obtain ⟨hN, hB0⟩ := HN.out
                 have o0 := o4 0 (by omega)
                 rw [hN] at o2
                 obtain ⟨bb, ob, ea, hbl, hbc⟩ := hT9.h1.resolve_left (by omega)
                 have d7 : W9.cell? ⟨G12 + 1, 7, none⟩ = some (.slice (some ⟨bb, ob, none⟩) 1 X9.d1) := by
                   have hc : W9.cell? ⟨G12 + 1, 7, none⟩ = some (.slice X9.a1 (datT (datF F Q) (backQ Q)).nb X9.d1) := cell_of_heap g13 rfl
                   rw [ea, o2] at hc; exact hc
                 have d8 : W9.cell? ⟨bb, ob, none⟩ = some (.bool BV) := by
                   have hc := hbc 0 (by omega)
                   rw [o0, hB0] at hc; exact hc
                 have dv : W9.cell? ⟨w.heap.size + 1, 3, none⟩ = some (.int .i64 Q.va) := cell_of_heap (HX.out _ y9).2 rfl
                 have d7 := Later.cell d7
                 have d8 := Later.cell d8
                 have dv := Later.cell dv
                 clear o0 o2 o4 hbc ea hT9 g13 hB0 hN HN
                 cases BV with
                 | false =>
                   refine wp_region_later (by kernel_rfl) (by kernel_rfl) ?_
                   repeat (go_big_quiet_step (first
                     | (go_at_call 11; exact later_of (HSU.out _))))
                   refine wpQuiet_nil ?_
                   intro _ hw'
                   obtain ⟨x, rfl⟩ := hw'
                   have xx := x.ext
                   go_wp2
                   go_ret
                   exact ⟨rfl, e9.trans xx⟩
                 | true =>
                   refine wp_region_later (by kernel_rfl) (by kernel_rfl) ?_
                   repeat (go_big_quiet_step (first
                     | (go_at_call 11; exact later_of (HSU.out _))))
                   refine wpQuiet_nil ?_
                   intro _ hw'
                   obtain ⟨x, rfl⟩ := hw'
                   have xx := x.ext
                   go_wp2
                   go_ret
                   exact ⟨rfl, e9.trans xx⟩
               · have h15 : Q.k = 15 := by omega
                 have q1 : (Q.k == 5) = false := by simp [hk5]
                 have q2 : (Q.k == 15) = true := by simp [h15]
                 have q3 : (Q.k == 6) = false := by simp [h15]
                 have hN : wrN Q = Q.nb := by unfold wrN; rw [if_pos h15]
                 have hB0 : wrB Q = Q.B := by unfold wrB; rw [if_neg hk5]
                 have HN := Lib.hid (And.intro hN hB0)
                 clear hN hB0 hk5 h5 h15 hbn
                 go_upto_region 12 with fail
                 obtain ⟨W8, hW8, z8, gb⟩ : ∃ W, W = w7.alloc (.cells #[.int .i64 1, .int .i64 Q.ad, .int .i64 M, .int .i64 0, .int .i64 0, .int .i64 0, .int .i64 0, .int .i64 0, .slice none 0 0, .slice none 0 0] 31) ∧ Ext w7 W ∧ W.heap[w7.heap.size]? = some (.cells (qstC zeroQV (backQ Q)) 31 (0, 0)) := ⟨_, rfl, Ext.alloc _ _, by rw [HBQ.out]; exact heap_alloc_new _ _⟩
                 rw [← hW8]
                 clear hW8 pk
                 generalize w7.heap.size = GB at gb ⊢
                 have y8 := y7.trans z8
                 have e8 := e0.trans y8
                 have g5 := z8.block g5
                 have hF4 := hF4.ext z8
                 clear y7 e7 z8
                 go_upto_region 13 with (first
                   | (refine wpList_load_row rfl 29 (.tmp 5) rfl (G5) rfl 29 _ (0, 0) _ g5 Tryz.underlying29 rfl (by kernel_rfl) ?_)
                   | (refine wpList_load_row rfl 31 (.tmp 11) rfl (GB) rfl 31 _ (0, 0) _ gb Tryz.underlying31 rfl (by kernel_rfl) ?_)
                   | (go_at_call 12; refine (KD3.out _ V4 hF4).mono ?_; rintro e w9 ⟨V9, F9, X9, rfl, hT9, x9⟩; have r9 := toldFT w9 #[.int .i64 0, .int .i64 0, .int .i64 0, .int .i64 0, .int .i64 0, .int .i64 0, .int .i64 0, .int .i64 0, .int .i64 0, .int .i64 0, .slice none 0 0, .slice none 0 0, .slice none 0 0, .slice none 0 0] (filC V9 F9) #[.int .i64 0, .int .i64 0, .int .i64 0, .int .i64 0, .int .i64 0, .int .i64 0, .int .i64 0, .slice none 0 0, .slice none 0 0] (telC X9 (datT (datF F Q) (backQ Q))) 29 37)
                   | (refine wpList_store_row rfl 29 (.tmp 12) (.tmp 84) rfl w9.heap.size _ rfl rfl 29 _ r9.2.2.2.1 (by kernel_rfl) rfl (by simp [filC, Value.oneCell']) ?_)
                   | (refine wpList_store_row rfl 37 (.tmp 13) (.tmp 85) rfl (w9.heap.size + 1) _ rfl rfl 37 _ r9.2.2.2.2 (by kernel_rfl) rfl (by simp [telC, Value.oneCell']) ?_))
                 obtain ⟨W9, hW9, z9, g12, g13⟩ : ∃ W, W = ((((w9.alloc (.cells #[.int .i64 0, .int .i64 0, .int .i64 0, .int .i64 0, .int .i64 0, .int .i64 0, .int .i64 0, .int .i64 0, .int .i64 0, .int .i64 0, .slice none 0 0, .slice none 0 0, .slice none 0 0, .slice none 0 0] 29)).alloc (.cells #[.int .i64 0, .int .i64 0, .int .i64 0, .int .i64 0, .int .i64 0, .int .i64 0, .int .i64 0, .slice none 0 0, .slice none 0 0] 37)).setRow w9.heap.size (filC V9 F9)).setRow (w9.heap.size + 1) (telC X9 (datT (datF F Q) (backQ Q)))) ∧ Ext w9 W ∧ W.heap[w9.heap.size]? = some (.cells (filC V9 F9) 29 (0, 0)) ∧ W.heap[w9.heap.size + 1]? = some (.cells (telC X9 (datT (datF F Q) (backQ Q))) 37 (0, 0)) := ⟨_, rfl, r9.1, r9.2.1, r9.2.2.1⟩
                 rw [← hW9]
                 clear hW9 r9
                 generalize w9.heap.size = G12 at g12 g13 ⊢
                 have hT9 := hT9.ext z9
                 have y9 := y8.trans (x9.trans z9)
                 have e9 := e0.trans y9
                 obtain ⟨o1, o2, o3, o4⟩ := HB.out
                 have c13 : W9.cell? ⟨G12 + 1, 1, none⟩ = some (.int .i64 0) := num_cell o3 (cell_of_heap g13 rfl)
                 have ck := (cell_of_heap (j := 0) (HX.out _ y9).2 rfl : W9.cell? ⟨w.heap.size + 1, 0, none⟩ = some (.int .i64 Q.k))
                 clear y8 e8 x9 z9 g5 gb hF4 KD3 o1 o3 g12
                 obtain ⟨hN, hB0⟩ := HN.out
                 rw [hN] at o2 o4
                 rw [hB0] at o4
                 have hh1 := hT9.h1
                 rw [o2] at hh1
                 have d7 : W9.cell? ⟨G12 + 1, 7, none⟩ = some (.slice X9.a1 Q.nb X9.d1) := by
                   have hc := cell_of_heap (j := 7) g13 rfl
                   rw [← o2]; exact hc
                 have d8 : W9.cell? ⟨w.heap.size + 1, 8, none⟩ = some (.slice U.a1 Q.nb U.d1) := cell_of_heap (HX.out _ y9).2 rfl
                 have hq1 := (HQ.out.ext e9).h1
                 clear o2 hT9 g13 hB0 hN HN
                 go_wp2_with (first
                   | (go_at_call 28; refine (same_eq X9.a1 U.a1 Q.nb Q.nb X9.d1 U.d1 _ Q.B _ hh1 hq1 n1 ⟨rfl, o4⟩).mono ?_; rintro e wa ⟨rfl, xa⟩)
                   | (go_at_call 11; refine (HSU.out _).mono ?_; rintro e wz ⟨rfl, xz⟩))
                 go_ret
                 exact ⟨rfl, (e9.trans xa).trans xz⟩
             · have h6 : Q.k = 6 ∨ Q.k = 16 ∨ Q.k = 22 ∨ Q.k = 23 := by have := HBK.out; omega
               have HBQ : Hid (qstC zeroQV (backQ Q) = #[.int .i64 3, .int .i64 Q.ad, .int .i64 M, .int .i64 0, .int .i64 0, .int .i64 0, .int .i64 0, .int .i64 0, .slice none 0 0, .slice none 0 0]) := Lib.hid (by unfold qstC backQ; rw [if_neg h5, HM.out]; rfl)
               have HB := Lib.hid (HB6.out h6)
               have q1 : (Q.k == 5) = false := by simp; omega
               have q2 : (Q.k == 15) = false := by simp; omega
               have HK6 := Lib.hid h6
               clear h5 h6
               go_upto_region 12 with fail
               obtain ⟨W8, hW8, z8, gb⟩ : ∃ W, W = w7.alloc (.cells #[.int .i64 3, .int .i64 Q.ad, .int .i64 M, .int .i64 0, .int .i64 0, .int .i64 0, .int .i64 0, .int .i64 0, .slice none 0 0, .slice none 0 0] 31) ∧ Ext w7 W ∧ W.heap[w7.heap.size]? = some (.cells (qstC zeroQV (backQ Q)) 31 (0, 0)) := ⟨_, rfl, Ext.alloc _ _, by rw [HBQ.out]; exact heap_alloc_new _ _⟩
               rw [← hW8]
               clear hW8 pk
               generalize w7.heap.size = GB at gb ⊢
               have y8 := y7.trans z8
               have e8 := e0.trans y8
               have g5 := z8.block g5
               have hF4 := hF4.ext z8
               clear y7 e7 z8
               go_upto_region 13 with (first
                 | (refine wpList_load_row rfl 29 (.tmp 5) rfl (G5) rfl 29 _ (0, 0) _ g5 Tryz.underlying29 rfl (by kernel_rfl) ?_)
                 | (refine wpList_load_row rfl 31 (.tmp 11) rfl (GB) rfl 31 _ (0, 0) _ gb Tryz.underlying31 rfl (by kernel_rfl) ?_)
                 | (go_at_call 12; refine (KD3.out _ V4 hF4).mono ?_; rintro e w9 ⟨V9, F9, X9, rfl, hT9, x9⟩; have r9 := toldFT w9 #[.int .i64 0, .int .i64 0, .int .i64 0, .int .i64 0, .int .i64 0, .int .i64 0, .int .i64 0, .int .i64 0, .int .i64 0, .int .i64 0, .slice none 0 0, .slice none 0 0, .slice none 0 0, .slice none 0 0] (filC V9 F9) #[.int .i64 0, .int .i64 0, .int .i64 0, .int .i64 0, .int .i64 0, .int .i64 0, .int .i64 0, .slice none 0 0, .slice none 0 0] (telC X9 (datT (datF F Q) (backQ Q))) 29 37)
                 | (refine wpList_store_row rfl 29 (.tmp 12) (.tmp 84) rfl w9.heap.size _ rfl rfl 29 _ r9.2.2.2.1 (by kernel_rfl) rfl (by simp [filC, Value.oneCell']) ?_)
                 | (refine wpList_store_row rfl 37 (.tmp 13) (.tmp 85) rfl (w9.heap.size + 1) _ rfl rfl 37 _ r9.2.2.2.2 (by kernel_rfl) rfl (by simp [telC, Value.oneCell']) ?_))
               obtain ⟨W9, hW9, z9, g12, g13⟩ : ∃ W, W = ((((w9.alloc (.cells #[.int .i64 0, .int .i64 0, .int .i64 0, .int .i64 0, .int .i64 0, .int .i64 0, .int .i64 0, .int .i64 0, .int .i64 0, .int .i64 0, .slice none 0 0, .slice none 0 0, .slice none 0 0, .slice none 0 0] 29)).alloc (.cells #[.int .i64 0, .int .i64 0, .int .i64 0, .int .i64 0, .int .i64 0, .int .i64 0, .int .i64 0, .slice none 0 0, .slice none 0 0] 37)).setRow w9.heap.size (filC V9 F9)).setRow (w9.heap.size + 1) (telC X9 (datT (datF F Q) (backQ Q)))) ∧ Ext w9 W ∧ W.heap[w9.heap.size]? = some (.cells (filC V9 F9) 29 (0, 0)) ∧ W.heap[w9.heap.size + 1]? = some (.cells (telC X9 (datT (datF F Q) (backQ Q))) 37 (0, 0)) := ⟨_, rfl, r9.1, r9.2.1, r9.2.2.1⟩
               rw [← hW9]
               clear hW9 r9
               generalize w9.heap.size = G12 at g12 g13 ⊢
               have hT9 := hT9.ext z9
               have y9 := y8.trans (x9.trans z9)
               have e9 := e0.trans y9
               obtain ⟨o1, o2, o3, o4⟩ := HB.out
               have c13 : W9.cell? ⟨G12 + 1, 1, none⟩ = some (.int .i64 0) := num_cell o3 (cell_of_heap g13 rfl)
               have ck := (cell_of_heap (j := 0) (HX.out _ y9).2 rfl : W9.cell? ⟨w.heap.size + 1, 0, none⟩ = some (.int .i64 Q.k))
               clear y8 e8 x9 z9 g5 gb hF4 KD3 o1 o3 g12
               by_cases hk6 : Q.k = 6
               · have q3 : (Q.k == 6) = true := by simp [hk6]
                 have hN : wrN Q = 1 := by unfold wrN; rw [if_neg (by omega), if_neg (by omega)]
                 have hR0 : wrW F Q 0 = Q.va := by unfold wrW; rw [if_pos hk6]
                 have hv := HAF.out.v6 hk6
                 have hvw : IntKind.i64.wrap Q.va = Q.va := IntWalk.i64_in _ (by omega)
                 have o0 := o4 0 (by omega)
                 rw [hN] at o2
                 obtain ⟨bb, ob, ea, hbl, hbc⟩ := hT9.h2.resolve_left (by omega)
                 have d7 : W9.cell? ⟨G12 + 1, 8, none⟩ = some (.slice (some ⟨bb, ob, none⟩) 1 X9.d2) := by
                   have hc : W9.cell? ⟨G12 + 1, 8, none⟩ = some (.slice X9.a2 (datT (datF F Q) (backQ Q)).nr X9.d2) := cell_of_heap g13 rfl
                   rw [ea, o2] at hc; exact hc
                 have d8 : W9.cell? ⟨bb, ob, none⟩ = some (.int .u16 Q.va) := by
                   have hc := hbc 0 (by omega)
                   rw [o0, hR0] at hc; exact hc
                 have dv : W9.cell? ⟨w.heap.size + 1, 3, none⟩ = some (.int .i64 Q.va) := cell_of_heap (HX.out _ y9).2 rfl
                 have d7 := Later.cell d7
                 have d8 := Later.cell d8
                 have dv := Later.cell dv
                 clear o0 o2 o4 hbc ea hT9 g13 hR0 hN hk6 hv hbn
                 go_upto_region 19 with fail
                 refine wp_region_later (by kernel_rfl) (by kernel_rfl) ?_
                 repeat (go_big_quiet_step (first
                   | (go_at_call 11; exact later_of (HSU.out _))))
                 refine wpQuiet_nil ?_
                 intro _ hw'
                 obtain ⟨x, rfl⟩ := hw'
                 have xx := x.ext
                 go_wp2
                 go_ret
                 exact ⟨rfl, e9.trans xx⟩
               · have q3 : (Q.k == 6) = false := by simp [hk6]
                 by_cases h22 : Q.k = 22
                 · have q4 : (Q.k == 16) = false := by simp [h22]
                   have q5 : (Q.k == 23) = false := by simp [h22]
                   clear h22 hk6 hbn
                   go_wp2_with (first
                     | (go_at_call 11; refine (HSU.out _).mono ?_; rintro e wz ⟨rfl, xz⟩))
                   go_ret
                   exact ⟨rfl, e9.trans xz⟩
                 · have hw2 : Q.k = 16 ∨ Q.k = 23 := by have := HK6.out; omega
                   have hN : wrN Q = Q.nr := by unfold wrN; rw [if_neg (by omega), if_pos hw2]
                   have hR0 : wrW F Q = Q.R := by unfold wrW; rw [if_neg hk6, if_neg h22]
                   rw [hN] at o2 o4
                   rw [hR0] at o4
                   have hh1 := hT9.h2
                   rw [o2] at hh1
                   have d7 : W9.cell? ⟨G12 + 1, 8, none⟩ = some (.slice X9.a2 Q.nr X9.d2) := by
                     have hc := cell_of_heap (j := 8) g13 rfl
                     rw [← o2]; exact hc
                   have d8 : W9.cell? ⟨w.heap.size + 1, 9, none⟩ = some (.slice U.a2 Q.nr U.d2) := cell_of_heap (HX.out _ y9).2 rfl
                   have hq1 := (HQ.out.ext e9).h2
                   clear o2 hT9 g13 hR0 hN hbn
                   by_cases k16 : Q.k = 16
                   · have q4 : (Q.k == 16) = true := by simp [k16]
                     clear k16 hw2 h22 hk6
                     go_wp2_with (first
                       | (go_at_call 29; refine (words_eq X9.a2 U.a2 Q.nr Q.nr X9.d2 U.d2 _ Q.R _ hh1 hq1 n2 ⟨rfl, o4⟩).mono ?_; rintro e wa ⟨rfl, xa⟩)
                       | (go_at_call 11; refine (HSU.out _).mono ?_; rintro e wz ⟨rfl, xz⟩))
                     go_ret
                     exact ⟨rfl, (e9.trans xa).trans xz⟩
                   · have q4 : (Q.k == 16) = false := by simp [k16]
                     have q5 : (Q.k == 23) = true := by simp; omega
                     clear k16 hw2 h22 hk6
                     go_wp2_with (first
                       | (go_at_call 29; refine (words_eq X9.a2 U.a2 Q.nr Q.nr X9.d2 U.d2 _ Q.R _ hh1 hq1 n2 ⟨rfl, o4⟩).mono ?_; rintro e wa ⟨rfl, xa⟩)
                       | (go_at_call 11; refine (HSU.out _).mono ?_; rintro e wz ⟨rfl, xz⟩))
                     go_ret
                     exact ⟨rfl, (e9.trans xa).trans xz⟩

       · have c0 : W4.cell? ⟨G5 + 1, 1, none⟩ = some (.int .i64 (datE F Q)) := num_cell hcd (cell_of_heap g6 rfl)
         have q0 : (datE F Q == 0) = false := by simp [hz]
         have q1 : (datE F Q != 0) = true := by simp [hz]
         clear hok o2 o3 o4 hcd hz hr hq g5 g6 hF4 KW
         generalize datE F Q = E at c0 q0 q1
         go_wp2_with (first
           | (go_at_call 11; refine (HSU.out _).mono ?_; rintro e wz ⟨rfl, xz⟩))
         go_ret
         exact ⟨rfl, e4.trans xz⟩
end Go.Proofs.YtlafnobjfajamaaGreat
