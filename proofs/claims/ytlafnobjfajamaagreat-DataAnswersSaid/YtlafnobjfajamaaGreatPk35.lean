/-
  THE LAWS OF LAYER 17: the walk of DataAnswers (package data's contracts and 'sure' as premises).
-/
import Derived.Test.YtlafnobjfajamaaGreatPk19
import Derived.Test.YtlafnobjfajamaaGreatPk16
import Derived.Deep.MidRow
import Derived.Test.YtlafnobjfajamaaGreatPk2
import Derived.Deep.DeepCutAuto
namespace Go.Proofs.YtlafnobjfajamaaGreat
open Go.RowKit
set_option linter.unusedVariables false
set_option maxRecDepth 100000

theorem datT_cd (F : Fil) (Q : Qst) : (datT F Q).cd = datE F Q := by
  by_cases h : datE F Q = 0
  · rw [h]
    unfold datT
    rw [if_neg (fun hh => hh h)]
    repeat' split
    all_goals rfl
  · rw [(datF_no h).2]
theorem dat_rest {F : Fil} {Q : Qst} (hq : rightQ Q = true) (hr : rightB F = true) : (datF F Q).nI = F.nI ∧ (datF F Q).I = F.I ∧ (datF F Q).nR = F.nR ∧ (datF F Q).R = F.R := by
  rcases dat_ways hq hr with h | ⟨C, h⟩ | ⟨H, h⟩
  · rw [h]; exact ⟨rfl, rfl, rfl, rfl⟩
  · rw [h]; exact ⟨rfl, rfl, rfl, rfl⟩
  · rw [h]; exact ⟨rfl, rfl, rfl, rfl⟩
theorem bank_range {w : World} {g : Nat} {V : FilV} {F : Fil} {t : TypeId} (h : w.heap[g]? = some (.cells (filC V F) t (0, 0))) : w.rangeAt g 0 (bnkC F).toList := fun j v hv => by
  rw [Nat.zero_add]
  refine cell_of_heap h ?_
  have hj : j < 10 := by
    rcases Nat.lt_or_ge j 10 with hh | hh
    · exact hh
    · rw [List.getElem?_eq_none (by simp [bnkC]; omega)] at hv; cases hv
  rw [← hv]
  have h10 : j = 0 ∨ j = 1 ∨ j = 2 ∨ j = 3 ∨ j = 4 ∨ j = 5 ∨ j = 6 ∨ j = 7 ∨ j = 8 ∨ j = 9 := by omega
  rcases h10 with rfl | rfl | rfl | rfl | rfl | rfl | rfl | rfl | rfl | rfl <;> rfl
set_option maxHeartbeats 8000000 in
theorem dataAnswers.walk0 (V : FilV) (F : Fil) (w : World) (h : FilAt w V F) (hw : FilW F) (f1 : F.nC ≤ 1000000000000000) (f2 : F.nI ≤ 1000000000000000) (f3 : F.nH ≤ 1000000000000000) (f4 : F.nR ≤ 1000000000000000) (U : QstV) (Q : Qst) (k : QstAt w U Q) (kq : QstW Q) (nb1 : Q.nb ≤ 1000000000000000) (nr1 : Q.nr ≤ 1000000000000000)
    (hDo : DDoC 12) (hCo : DCodeC 13) (hRi : FRightC 26) (hSa : FSameC 27) (hCy : FCopyC 24) (hWr : DWritesC 14) (sure : ∀ w, Calls Tryz.prog 11 #[] w fun e w' => e = .returned (.bool true) ∧ Ext w w') :
    Calls Tryz.prog 5 #[.agg (filC V F), .agg (qstC U Q)] w fun e w' => e = .returned (.bool true) ∧ Ext w w' := by
  have HSU := Lib.hid sure
  clear sure
  obtain ⟨W0, hW0, e0, HX⟩ : ∃ W0, W0 = (w.alloc (.cells (filC V F) 29)).alloc (.cells (qstC U Q) 31) ∧ Ext w W0 ∧ Hid (∀ W, Ext W0 W → W.heap[w.heap.size]? = some (.cells (filC V F) 29 (0, 0)) ∧ W.heap[w.heap.size + 1]? = some (.cells (qstC U Q) 31 (0, 0))) := ⟨_, rfl, (Ext.alloc w _).trans (Ext.alloc _ _), Lib.hid fun W x => ⟨x.block ((heap_alloc_old _ _ (by simp)).trans (heap_alloc_new w _)), x.block (heap_new_at _ _ (by simp))⟩⟩
  obtain ⟨b1, -⟩ := HX.out _ (Ext.refl W0)
  cases hfw : decide (F.nC + F.nI + F.nH + F.nR ≤ 4000) with
  | false =>
    have KF := Lib.hid (fun W => rfew14_v (V := V) hfw f1 f2 f3 f4 W)
    clear h hw k kq hfw hDo hCo hWr hRi hSa hCy
    go_enter Tryz.func5, Tryz.ntmps5
    go_upto_region 1 with fail
    rw [← hW0]
    clear hW0
    go_wp2_with (first
      | (refine wpList_load_row rfl 29 (.tmp 2) rfl (w.heap.size) rfl 29 _ (0, 0) _ b1 Tryz.underlying29 rfl (by kernel_rfl) ?_)
      | fail)
    refine (KF.out _).mono ?_; rintro e w3 ⟨rfl, x3⟩
    go_wp2_with fail
    refine (HSU.out _).mono ?_; rintro e w4 ⟨rfl, x4⟩
    go_wp2
    go_ret
    exact ⟨rfl, (e0.trans x3).trans x4⟩
  | true =>
   have KF := Lib.hid (fun W => rfew14_v (V := V) hfw f1 f2 f3 f4 W)
   have hsm := few_small hfw
   cases hfq : fewQA Q with
   | false =>
     have KG := Lib.hid (fun W => rfew16A_v (V := U) hfq nb1 nr1 W)
     clear h hw k kq hfw hfq hDo hCo hWr hRi hSa hCy
     go_enter Tryz.func5, Tryz.ntmps5
     go_upto_region 1 with fail
     rw [← hW0]
     clear hW0
     go_wp2_with (first
       | (refine wpList_load_row rfl 29 (.tmp 2) rfl (w.heap.size) rfl 29 _ (0, 0) _ b1 Tryz.underlying29 rfl (by kernel_rfl) ?_)
       | (go_at_call 9; refine (KF.out _).mono ?_; rintro e w3 ⟨rfl, x3⟩; have c3 := (HX.out _ x3).2)
       | (refine wpList_load_row_g (by rfl) 31 (.tmp 3) rfl (w.heap.size + 1) rfl 31 _ (0, 0) _ c3 Tryz.underlying31 rfl (by kernel_rfl) ?_)
       | (go_at_call 10; refine (KG.out _).mono ?_; rintro e w4 ⟨rfl, x4⟩))
     refine (HSU.out _).mono ?_; rintro e w5 ⟨rfl, x5⟩
     go_wp2
     go_ret
     exact ⟨rfl, ((e0.trans x3).trans x4).trans x5⟩
   | true =>
     have KG := Lib.hid (fun W => rfew16A_v (V := U) hfq nb1 nr1 W)
     obtain ⟨n1, n2⟩ := (fewQA_iff Q).1 hfq
     have n1 : Q.nb ≤ 1000000 := by omega
     have n2 : Q.nr ≤ 1000000 := by omega
     clear hfw hfq
     have KU := Lib.hid (fun W (x : Ext w W) => hCy V F W (h.ext x) hsm)
     have KD := Lib.hid (fun W (x : Ext w W) => hDo V F U Q W (h.ext x) hw hsm (k.ext x) kq n1 n2)
     have KC := Lib.hid (fun W (x : Ext w W) => hCo V F U Q W (h.ext x) hw hsm (k.ext x) kq n1 n2)
     have KW := Lib.hid (fun W => hWr Q.k W)
     have KS := Lib.hid (fun W UU (x : Ext w W) (hu : FilAt W UU F) => rsame14_v (sameF_self F) W (h.ext x) hu hsm.all hsm.all)
     have HF := Lib.hid h
     go_enter Tryz.func5, Tryz.ntmps5
     go_upto_region 1 with fail
     rw [← hW0]
     clear hW0
     go_upto_region 3 with (first
       | (refine wpList_load_row rfl 29 (.tmp 2) rfl (w.heap.size) rfl 29 _ (0, 0) _ b1 Tryz.underlying29 rfl (by kernel_rfl) ?_)
       | (go_at_call 9; refine (KF.out _).mono ?_; rintro e w2 ⟨rfl, x2⟩; have c1 := (HX.out _ x2).2)
       | (refine wpList_load_row_g (by rfl) 31 (.tmp 3) rfl (w.heap.size + 1) rfl 31 _ (0, 0) _ c1 Tryz.underlying31 rfl (by kernel_rfl) ?_)
       | (go_at_call 10; refine (KG.out _).mono ?_; rintro e w3 ⟨rfl, x3⟩))
     have y3 := x2.trans x3
     obtain ⟨b3, c3⟩ := HX.out _ y3
     clear b1 c1 KF KG x2 x3
     have e3 := e0.trans y3
     go_upto_region 4 with (first
       | (refine wpList_load_row rfl 29 (.tmp 2) rfl (w.heap.size) rfl 29 _ (0, 0) _ b3 Tryz.underlying29 rfl (by kernel_rfl) ?_)
       | (go_at_call 24; refine (KU.out _ e3).mono ?_; rintro e w4 ⟨UU, rfl, hU4, x4, -⟩)
       | (refine wpList_store_row rfl 29 (.tmp 5) (.tmp 19) rfl w4.heap.size _ rfl rfl 29 _ (heap_alloc_new w4 _) (by kernel_rfl) rfl (by simp [filC, Value.oneCell']) ?_))
     obtain ⟨W4, hW4, z4, g5⟩ : ∃ W, W = ((w4.alloc (.cells #[.int .i64 0, .int .i64 0, .int .i64 0, .int .i64 0, .int .i64 0, .int .i64 0, .int .i64 0, .int .i64 0, .int .i64 0, .int .i64 0, .slice none 0 0, .slice none 0 0, .slice none 0 0, .slice none 0 0] 29)).setRow w4.heap.size (filC UU F)) ∧ Ext w4 W ∧ W.heap[w4.heap.size]? = some (.cells (filC UU F) 29 (0, 0)) := ⟨_, rfl, toldF _ _ _ _⟩
     rw [← hW4]
     clear hW4
     generalize w4.heap.size = G5 at g5 ⊢
     have hU4 := hU4.ext z4
     have y4 := y3.trans (x4.trans z4)
     have e4 := e0.trans y4
     obtain ⟨b4, c4⟩ := HX.out _ y4
     clear b3 c3 e3 y3 x4 z4 KU
     go_upto_region 5 with (first
       | (refine wpList_load_row rfl 29 (.tmp 2) rfl (w.heap.size) rfl 29 _ (0, 0) _ b4 Tryz.underlying29 rfl (by kernel_rfl) ?_)
       | (refine wpList_load_row rfl 31 (.tmp 3) rfl (w.heap.size + 1) rfl 31 _ (0, 0) _ c4 Tryz.underlying31 rfl (by kernel_rfl) ?_)
       | (go_at_call 12; refine (KD.out _ e4).mono ?_; rintro e w5 ⟨V4, X4, rfl, hF4, hT4, x5⟩; have r5 := toldFT w5 #[.int .i64 0, .int .i64 0, .int .i64 0, .int .i64 0, .int .i64 0, .int .i64 0, .int .i64 0, .int .i64 0, .int .i64 0, .int .i64 0, .slice none 0 0, .slice none 0 0, .slice none 0 0, .slice none 0 0] (filC V4 (dooF F Q)) #[.int .i64 0, .int .i64 0, .int .i64 0, .int .i64 0, .int .i64 0, .int .i64 0, .int .i64 0, .slice none 0 0, .slice none 0 0] (telC X4 (dooT F Q)) 29 37)
       | (refine wpList_store_row rfl 29 (.tmp 6) (.tmp 24) rfl w5.heap.size _ rfl rfl 29 _ r5.2.2.2.1 (by kernel_rfl) rfl (by simp [filC, Value.oneCell']) ?_)
       | (refine wpList_store_row rfl 37 (.tmp 7) (.tmp 25) rfl (w5.heap.size + 1) _ rfl rfl 37 _ r5.2.2.2.2 (by kernel_rfl) rfl (by simp [telC, Value.oneCell']) ?_))
     obtain ⟨W5, hW5, z5, g6, g7⟩ : ∃ W, W = ((((w5.alloc (.cells #[.int .i64 0, .int .i64 0, .int .i64 0, .int .i64 0, .int .i64 0, .int .i64 0, .int .i64 0, .int .i64 0, .int .i64 0, .int .i64 0, .slice none 0 0, .slice none 0 0, .slice none 0 0, .slice none 0 0] 29)).alloc (.cells #[.int .i64 0, .int .i64 0, .int .i64 0, .int .i64 0, .int .i64 0, .int .i64 0, .int .i64 0, .slice none 0 0, .slice none 0 0] 37)).setRow w5.heap.size (filC V4 (dooF F Q))).setRow (w5.heap.size + 1) (telC X4 (dooT F Q))) ∧ Ext w5 W ∧ W.heap[w5.heap.size]? = some (.cells (filC V4 (dooF F Q)) 29 (0, 0)) ∧ W.heap[w5.heap.size + 1]? = some (.cells (telC X4 (dooT F Q)) 37 (0, 0)) := ⟨_, rfl, r5.1, r5.2.1, r5.2.2.1⟩
     rw [← hW5]
     clear hW5 r5
     generalize w5.heap.size = G6 at g6 g7 ⊢
     have hF4 := hF4.ext z5
     have hT4 := hT4.ext z5
     have x5 := x5.trans z5
     have g5 := x5.block g5
     have hU4 := hU4.ext x5
     have y5 := y4.trans x5
     have e5 := e0.trans y5
     obtain ⟨b5, c5⟩ := HX.out _ y5
     clear b4 c4 e4 y4 x5 z5 KD
     go_upto_region 7 with (first
       | (refine wpList_load_row rfl 29 (.tmp 2) rfl (w.heap.size) rfl 29 _ (0, 0) _ b5 Tryz.underlying29 rfl (by kernel_rfl) ?_)
       | (refine wpList_load_row rfl 29 (.tmp 5) rfl (G5) rfl 29 _ (0, 0) _ g5 Tryz.underlying29 rfl (by kernel_rfl) ?_)
       | (go_at_call 17; refine (KS.out _ UU e5 hU4).mono ?_; rintro e w6 ⟨rfl, x6⟩))
     have y9 := y5.trans x6
     have e9 := e0.trans y9
     have g6 := x6.block g6
     have g7 := x6.block g7
     have hF4 := hF4.ext x6
     have hT4 := hT4.ext x6
     clear b5 c5 y5 e5 x6 KS g5 hU4
     cases hok : okB F Q with
     | false =>
       obtain ⟨o1, o2, o3, o4⟩ := okB_no hok
       rw [o2]
       clear hok o1 o2 o3 o4
       go_wp2_with fail
       refine (HSU.out _).mono ?_; rintro e w7 ⟨rfl, x7⟩
       go_wp2
       go_ret
       exact ⟨rfl, e9.trans x7⟩
     | true =>
       obtain ⟨hr, hq, o1, o2, o3, o4⟩ := okB_yes hok
       rw [o3] at g6 hF4
       rw [o4] at g7 hT4
       rw [o2]
       rw [o1] at KC
       have hsm2 := dat_small (F := F) hq hr
       have htl := told_small (dat_told (F := F) hq hr)
       have KT := Lib.hid (fun W (x : Ext w W) (ht : TelAt W X4 (datT F Q)) => rright16_v (dat_told (F := F) hq hr) W (k.ext x) n1 n2 ht (by omega) (by omega))
       have KF2 : Hid (∀ W, FilAt W V4 (datF F Q) → Calls Tryz.prog 26 #[.agg (filC V4 (datF F Q))] W fun e w' => e = .returned (.bool true) ∧ Ext W w') := Lib.hid (fun W hf => (hRi V4 (datF F Q) W hf).mono fun e w' hh => ⟨hh.1.trans (by rw [(dat_right hq hr).1]), hh.2⟩)
       have hbn := fun w => bneq_v (F := datF F Q) (G := F) (B := false) (by rw [(dat_right hq hr).2.1]; rfl) w
       have hbg := fun op x y xs ys w => beqg op x y xs ys w
       have HDN := Lib.hid (fun (hh : datE F Q ≠ 0 ∨ writesB Q.k = false) => (by
         rcases hh with hh | hh
         · exact (datF_no hh).1
         · exact dat_reads hh : datF F Q = F))
       have HDR := Lib.hid (dat_rest (F := F) hq hr)
       have hcd := datT_cd F Q
       clear hok o1 o2 o3 o4 hr hq
       obtain ⟨E, hE⟩ : ∃ E, datE F Q = E := ⟨_, rfl⟩
       rw [hE] at KC hcd HDN
       have HCD := Lib.hid hcd
       clear hE hcd
       generalize datF F Q = G at *
       generalize datT F Q = T at *
       go_upto_region 9 with fail
       have HH := Lib.hid (fun W (hx : Ext w6 W) => (⟨(HX.out _ (y9.trans hx)).1, (HX.out _ (y9.trans hx)).2, hx.block g6, hx.block g7⟩ : W.heap[w.heap.size]? = some (.cells (filC V F) 29 (0, 0)) ∧ W.heap[w.heap.size + 1]? = some (.cells (qstC U Q) 31 (0, 0)) ∧ W.heap[G6]? = some (.cells (filC V4 G) 29 (0, 0)) ∧ W.heap[G6 + 1]? = some (.cells (telC X4 T) 37 (0, 0))))
       have HC := Lib.hid (fun W (hx : Ext w6 W) => (num_cell HCD.out (cell_of_heap (HH.out W hx).2.2.2 rfl) : W.cell? ⟨G6 + 1, 1, none⟩ = some (.int .i64 E)))
       have he : Ext w6 w6.drew := Ext.drew _
       have hs := he
       refine wp_region_held_drew (S := fun W => Ext w6 W) (by kernel_rfl) hs (fun _ => ?_)
       refine wpAnyH_takeD (i := 0) (d := 34) rfl rfl (by kernel_rfl) (by kernel_rfl) (by kernel_rfl) (fun _ _ _ h => h) (yieldsIf_load_row (by rfl) 31 (.tmp 3) rfl (w.heap.size + 1) rfl 31 _ (0, 0) _ (fun w' hw' => (HH.out _ hw').2.1) Tryz.underlying31 rfl (by kernel_rfl)) hs ?_
       simp only [Act.put, List.setIfInBounds_toArray, List.set_cons_succ, List.set_cons_zero]
       refine wpAnyH_takeD (i := 1) (d := 35) rfl rfl (by kernel_rfl) (by kernel_rfl) (by kernel_rfl) (fun _ _ _ h => h) (yieldsIf_load_row (by rfl) 37 (.tmp 7) rfl (G6 + 1) rfl 37 _ (0, 0) _ (fun w' hw' => (HH.out _ hw').2.2.2) Tryz.underlying37 rfl (by kernel_rfl)) hs ?_
       simp only [Act.put, List.setIfInBounds_toArray, List.set_cons_succ, List.set_cons_zero]
       refine wpAnyH_ready (rs := [2]) (by kernel_rfl) (by simp) (AllReadyH.cons rfl (fun K hK => ?_) AllReadyH.nil)
       go_simp
       go_at_call 25
       refine (KT.out _ (e9.trans he) (hT4.ext he)).mono ?_; rintro e Wc ⟨rfl, y⟩
       go_wp2_with fail
       have he := he.trans y
       refine hK.out _ _ he (fun hs => ?_)
       clear hK K y
       refine wpAnyH_takeD (i := 3) (d := 37) (v := .bool false) rfl rfl (by kernel_rfl) (by kernel_rfl) (by kernel_rfl) (fun _ _ _ h => h) (Or.inl ⟨by rfl, fun W hW => by go_simp⟩) hs ?_
       simp only [Act.put, List.setIfInBounds_toArray, List.set_cons_succ, List.set_cons_zero]
       refine wpAnyH_takeD (i := 4) (d := 38) (v := .bool false) rfl rfl (by kernel_rfl) (by kernel_rfl) (by kernel_rfl) (fun _ _ _ h => h) (Or.inl ⟨by rfl, fun W hW => by go_simp⟩) hs ?_
       simp only [Act.put, List.setIfInBounds_toArray, List.set_cons_succ, List.set_cons_zero]
       refine wpAnyH_takeD (i := 5) (d := 39) rfl rfl (by kernel_rfl) (by kernel_rfl) (by kernel_rfl) (fun _ _ _ h => h) (yieldsIf_load_row (by rfl) 29 (.tmp 6) rfl (G6) rfl 29 _ (0, 0) _ (fun w' hw' => (HH.out _ hw').2.2.1) Tryz.underlying29 rfl (by kernel_rfl)) hs ?_
       simp only [Act.put, List.setIfInBounds_toArray, List.set_cons_succ, List.set_cons_zero]
       refine wpAnyH_ready (rs := [6]) (by kernel_rfl) (by simp) (AllReadyH.cons rfl (fun K hK => ?_) AllReadyH.nil)
       go_simp
       go_at_call 26
       refine (KF2.out _ (hF4.ext he)).mono ?_; rintro e Wc ⟨rfl, y⟩
       go_wp2_with fail
       have he := he.trans y
       refine hK.out _ _ he (fun hs => ?_)
       clear hK K y
       refine wpAnyH_takeD (i := 7) (d := 41) (v := .bool false) rfl rfl (by kernel_rfl) (by kernel_rfl) (by kernel_rfl) (fun _ _ _ h => h) (Or.inl ⟨by rfl, fun W hW => by go_simp⟩) hs ?_
       simp only [Act.put, List.setIfInBounds_toArray, List.set_cons_succ, List.set_cons_zero]
       refine wpAnyH_takeD (i := 8) (d := 42) (v := .bool false) rfl rfl (by kernel_rfl) (by kernel_rfl) (by kernel_rfl) (fun _ _ _ h => h) (Or.inl ⟨by rfl, fun W hW => by go_simp⟩) hs ?_
       simp only [Act.put, List.setIfInBounds_toArray, List.set_cons_succ, List.set_cons_zero]
       refine wpAnyH_takeD (i := 9) (d := 43) (v := .bool false) rfl rfl (by kernel_rfl) (by kernel_rfl) (by kernel_rfl) (fun _ _ _ h => h) (Or.inl ⟨by rfl, fun W hW => by go_simp⟩) hs ?_
       simp only [Act.put, List.setIfInBounds_toArray, List.set_cons_succ, List.set_cons_zero]
       refine wpAnyH_takeD (i := 10) (d := 44) (v := .pointer (some ⟨G6, 0, none⟩)) rfl rfl (by kernel_rfl) (by kernel_rfl) (by kernel_rfl) (fun _ _ _ h => h) (Or.inl ⟨by rfl, fun W hW => by go_simp⟩) hs ?_
       simp only [Act.put, List.setIfInBounds_toArray, List.set_cons_succ, List.set_cons_zero]
       refine wpAnyH_takeD (i := 11) (d := 45) (v := .agg (bnkC G)) rfl rfl (by kernel_rfl) (by kernel_rfl) (by kernel_rfl) (fun _ _ _ h => h) (yieldsIf_load_mid (by rfl) 25 (.tmp 44) rfl (G6) 0 rfl ((bnkC G).toList) _ (fun w' hw' => bank_range (HH.out _ hw').2.2.1) Tryz.underlying25 rfl (by kernel_rfl)) hs ?_
       simp only [Act.put, List.setIfInBounds_toArray, List.set_cons_succ, List.set_cons_zero]
       refine wpAnyH_takeD (i := 12) (d := 46) (v := .pointer (some ⟨w.heap.size, 0, none⟩)) rfl rfl (by kernel_rfl) (by kernel_rfl) (by kernel_rfl) (fun _ _ _ h => h) (Or.inl ⟨by rfl, fun W hW => by go_simp⟩) hs ?_
       simp only [Act.put, List.setIfInBounds_toArray, List.set_cons_succ, List.set_cons_zero]
       refine wpAnyH_takeD (i := 13) (d := 47) (v := .agg (bnkC F)) rfl rfl (by kernel_rfl) (by kernel_rfl) (by kernel_rfl) (fun _ _ _ h => h) (yieldsIf_load_mid (by rfl) 25 (.tmp 46) rfl (w.heap.size) 0 rfl ((bnkC F).toList) _ (fun w' hw' => bank_range (HH.out _ hw').1) Tryz.underlying25 rfl (by kernel_rfl)) hs ?_
       simp only [Act.put, List.setIfInBounds_toArray, List.set_cons_succ, List.set_cons_zero]
       refine wpAnyH_takeD (i := 14) (d := 48) (v := .bool false) rfl rfl (by kernel_rfl) (by kernel_rfl) (by kernel_rfl) (fun _ _ _ h => h) (Or.inl ⟨by rfl, fun W hW => by go_simp⟩) hs ?_
       simp only [Act.put, List.setIfInBounds_toArray, List.set_cons_succ, List.set_cons_zero]
       refine wpAnyH_takeD (i := 15) (d := 49) (v := .bool false) rfl rfl (by kernel_rfl) (by kernel_rfl) (by kernel_rfl) (fun _ _ _ h => h) (Or.inl ⟨by rfl, fun W hW => by go_simp⟩) hs ?_
       simp only [Act.put, List.setIfInBounds_toArray, List.set_cons_succ, List.set_cons_zero]
       refine wpAnyH_takeD (i := 16) (d := 50) (v := .bool false) rfl rfl (by kernel_rfl) (by kernel_rfl) (by kernel_rfl) (fun _ _ _ h => h) (Or.inl ⟨by rfl, fun W hW => by go_simp⟩) hs ?_
       simp only [Act.put, List.setIfInBounds_toArray, List.set_cons_succ, List.set_cons_zero]
       refine wpAnyH_takeD (i := 17) (d := 51) (v := .pointer (some ⟨G6 + 1, 1, none⟩)) rfl rfl (by kernel_rfl) (by kernel_rfl) (by kernel_rfl) (fun _ _ _ h => h) (Or.inl ⟨by rfl, fun W hW => by go_simp⟩) hs ?_
       simp only [Act.put, List.setIfInBounds_toArray, List.set_cons_succ, List.set_cons_zero]
       refine wpAnyH_takeD (i := 18) (d := 52) (v := .int .i64 E) rfl rfl (by kernel_rfl) (by kernel_rfl) (by kernel_rfl) (fun _ _ _ h => h) (Or.inl ⟨by rfl, fun W hW => by have c1 := HC.out W hW; go_simp⟩) hs ?_
       simp only [Act.put, List.setIfInBounds_toArray, List.set_cons_succ, List.set_cons_zero]
       refine wpAnyH_takeD (i := 19) (d := 53) rfl rfl (by kernel_rfl) (by kernel_rfl) (by kernel_rfl) (fun _ _ _ h => h) (yieldsIf_load_row (by rfl) 29 (.tmp 2) rfl (w.heap.size) rfl 29 _ (0, 0) _ (fun w' hw' => (HH.out _ hw').1) Tryz.underlying29 rfl (by kernel_rfl)) hs ?_
       simp only [Act.put, List.setIfInBounds_toArray, List.set_cons_succ, List.set_cons_zero]
       refine wpAnyH_takeD (i := 20) (d := 54) rfl rfl (by kernel_rfl) (by kernel_rfl) (by kernel_rfl) (fun _ _ _ h => h) (yieldsIf_load_row (by rfl) 31 (.tmp 3) rfl (w.heap.size + 1) rfl 31 _ (0, 0) _ (fun w' hw' => (HH.out _ hw').2.1) Tryz.underlying31 rfl (by kernel_rfl)) hs ?_
       simp only [Act.put, List.setIfInBounds_toArray, List.set_cons_succ, List.set_cons_zero]
       refine wpAnyH_ready (rs := [21]) (by kernel_rfl) (by simp) (AllReadyH.cons rfl (fun K hK => ?_) AllReadyH.nil)
       go_simp
       go_at_call 13
       refine (KC.out _ (e9.trans he)).mono ?_; rintro e Wc ⟨rfl, y⟩
       go_wp2_with fail
       have he := he.trans y
       refine hK.out _ _ he (fun hs => ?_)
       clear hK K y
       refine wpAnyH_takeD (i := 22) (d := 56) (v := .bool false) rfl rfl (by kernel_rfl) (by kernel_rfl) (by kernel_rfl) (fun _ _ _ h => h) (Or.inl ⟨by rfl, fun W hW => by go_simp⟩) hs ?_
       simp only [Act.put, List.setIfInBounds_toArray, List.set_cons_succ, List.set_cons_zero]
       refine wpAnyH_takeD (i := 23) (d := 57) (v := .bool false) rfl rfl (by kernel_rfl) (by kernel_rfl) (by kernel_rfl) (fun _ _ _ h => h) (Or.inl ⟨by rfl, fun W hW => by go_simp⟩) hs ?_
       simp only [Act.put, List.setIfInBounds_toArray, List.set_cons_succ, List.set_cons_zero]
       refine wpAnyH_done (by kernel_rfl) ?_ _
       have yA := y9.trans he
       have eA := e0.trans yA
       have gA := (HH.out _ he).2.2.1
       have hFA := hF4.ext he
       have c1 := HC.out _ he
       have ck : Wc.cell? ⟨w.heap.size + 1, 0, none⟩ = some (.int .i64 Q.k) := cell_of_heap (HH.out _ he).2.1 rfl
       clear KT KF2 KC hbn hbg HC g6 g7 hF4 hT4 hs
       obtain ⟨B, hB⟩ : ∃ B, writesB Q.k = B := ⟨_, rfl⟩
       rw [hB] at KW HDN
       clear hB
       by_cases hE0 : E = 0
       · have hb0 : (E != 0) = false := by simp [hE0]
         cases B with
         | false =>
           have hG := HDN.out (.inr rfl)
           subst hG
           clear hE0
           go_upto_region 12 with (first
             | (go_at_call 14; refine (KW.out _).mono ?_; rintro e wd ⟨rfl, xd⟩))
           have hh := he.trans xd
           have gd := (HH.out _ hh).2.2.1
           have bd := (HH.out _ hh).1
           go_wp2_with (first
             | (refine wpList_load_row rfl 29 (.tmp 6) rfl (G6) rfl 29 _ (0, 0) _ gd Tryz.underlying29 rfl (by kernel_rfl) ?_)
             | (refine wpList_load_row rfl 29 (.tmp 2) rfl (w.heap.size) rfl 29 _ (0, 0) _ bd Tryz.underlying29 rfl (by kernel_rfl) ?_)
             | (go_at_call 27; refine (hSa V4 _ V _ _ (hFA.ext xd) (HF.out.ext (eA.trans xd)) hsm hsm).mono ?_; rintro e we ⟨rfl, xe⟩; rw [sameF_self])
             | (go_at_call 11; refine (HSU.out _).mono ?_; rintro e wf ⟨rfl, xf⟩))
           go_ret
           exact ⟨rfl, ((eA.trans xd).trans xe).trans xf⟩
         | true =>
           clear hE0 HDN
           go_upto_region 13 with (first
             | (go_at_call 14; refine (KW.out _).mono ?_; rintro e wd ⟨rfl, xd⟩))
           obtain ⟨i1, i2, i3, i4⟩ := HDR.out
           have hh := he.trans xd
           have p1 : wd.cell? ⟨G6, 11, none⟩ = some (.slice V4.a2 G.nI V4.d2) := cell_of_heap (HH.out _ hh).2.2.1 rfl
           have p2 : wd.cell? ⟨w.heap.size, 11, none⟩ = some (.slice V.a2 F.nI V.d2) := cell_of_heap (HH.out _ hh).1 rfl
           have hI : HoldsG Value.bool wd V4.a2 F.nI F.I := by have := (hFA.ext xd).h2; rw [i1, i2] at this; exact this
           have hRr : HoldsG (Value.int .u16) wd V4.a4 F.nR F.R := by have := (hFA.ext xd).h4; rw [i3, i4] at this; exact this
           have hI2 := (HF.out.ext (eA.trans xd)).h2
           have hR2 := (HF.out.ext (eA.trans xd)).h4
           have s1 := hsm.s2
           have s2 := hsm.s4
           rw [i1] at p1
           have HI3 := Lib.hid i3
           clear i1 i2 i3 i4 HDR
           go_wp2_with (first
             | (go_at_call 28; refine (same_eq V4.a2 V.a2 F.nI F.nI V4.d2 V.d2 F.I F.I _ hI hI2 s1 ⟨rfl, fun _ _ => rfl⟩).mono ?_; rintro e we ⟨rfl, xe⟩; have p3 : we.cell? ⟨G6, 13, none⟩ = some (.slice V4.a4 F.nR V4.d4) := (by rw [← HI3.out]; exact cell_of_heap (j := 13) (HH.out _ (hh.trans xe)).2.2.1 rfl); have p4 : we.cell? ⟨w.heap.size, 13, none⟩ = some (.slice V.a4 F.nR V.d4) := cell_of_heap (HH.out _ (hh.trans xe)).1 rfl)
             | (go_at_call 29; refine (words_eq V4.a4 V.a4 F.nR F.nR V4.d4 V.d4 F.R F.R _ (hRr.ext xe) (hR2.ext xe) s2 ⟨rfl, fun _ _ => rfl⟩).mono ?_; rintro e wf ⟨rfl, xf⟩)
             | (go_at_call 11; refine (HSU.out _).mono ?_; rintro e wg ⟨rfl, xg⟩))
           go_ret
           exact ⟨rfl, (((eA.trans xd).trans xe).trans xf).trans xg⟩
       · have hb0 : (E != 0) = true := by simp [hE0]
         have hG := HDN.out (.inl hE0)
         subst hG
         clear hE0
         have xd := Ext.refl Wc
         go_upto_region 12 with fail
         have hh := he.trans xd
         have gd := (HH.out _ hh).2.2.1
         have bd := (HH.out _ hh).1
         go_wp2_with (first
           | (refine wpList_load_row rfl 29 (.tmp 6) rfl (G6) rfl 29 _ (0, 0) _ gd Tryz.underlying29 rfl (by kernel_rfl) ?_)
           | (refine wpList_load_row rfl 29 (.tmp 2) rfl (w.heap.size) rfl 29 _ (0, 0) _ bd Tryz.underlying29 rfl (by kernel_rfl) ?_)
           | (go_at_call 27; refine (hSa V4 _ V _ _ (hFA.ext xd) (HF.out.ext (eA.trans xd)) hsm hsm).mono ?_; rintro e we ⟨rfl, xe⟩; rw [sameF_self])
           | (go_at_call 11; refine (HSU.out _).mono ?_; rintro e wf ⟨rfl, xf⟩))
         go_ret
         exact ⟨rfl, ((eA.trans xd).trans xe).trans xf⟩
end Go.Proofs.YtlafnobjfajamaaGreat
