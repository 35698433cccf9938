/-
  CONTRACTS: bilgeref16 (layer 16): Right.
-/
import Derived.Test.YtejiafihiielgaaTelR
import Derived.Test.YtejiafihiielgaaAskQ
namespace Go.Proofs.Ytejiafihiielgaa
open Go.RowKit
set_option linter.unusedVariables false
set_option maxRecDepth 100000

theorem right16_yes {Q : Qst} {T : Tel} (hr : rightQ Q = true) : rightT Q T = (if T.cd = 0 then sameT T (wholeT Q T.nb T.B T.nr T.R) && cntB Q T else inB T.cd 1 4 && sameT T { zeroT with k := Q.k, cd := T.cd }) := by unfold rightT; rw [hr, Bool.true_and]
theorem right16_no {Q : Qst} {T : Tel} (hr : rightQ Q = false) : rightT Q T = false := by unfold rightT; rw [hr, Bool.false_and]
set_option maxHeartbeats 8000000 in
theorem rright16_any (V : QstV) (Q : Qst) (U : QstV) (T : Tel) (w : World) (h : QstAt w V Q) (n1 : Q.nb ≤ 1000000) (n2 : Q.nr ≤ 1000000) (k : TelAt w U T) (m1 : T.nb ≤ 1000000) (m2 : T.nr ≤ 1000000) :
    Calls Try.prog 14 #[.agg (qstC V Q), .agg (telC U T)] w fun e w' => e = .returned (.bool (rightT Q T)) ∧ Ext w w' := by
  obtain ⟨W2, hW2, e0, HX⟩ : ∃ W2, W2 = (w.alloc (.cells (qstC V Q) 25)).alloc (.cells (telC U T) 28) ∧ Ext w W2 ∧ Hid (∀ W, Ext W2 W → W.heap[w.heap.size]? = some (.cells (qstC V Q) 25 (0, 0)) ∧ W.heap[w.heap.size + 1]? = some (.cells (telC U T) 28 (0, 0))) :=
    ⟨_, rfl, (Ext.alloc w _).trans (Ext.alloc _ _), Lib.hid fun W x => ⟨x.block ((heap_alloc_old _ _ (by simp)).trans (heap_alloc_new w _)), x.block (heap_new_at _ _ (by simp))⟩⟩
  have b1 := (HX.out _ (Ext.refl W2)).1
  cases hr : rightQ Q with
  | false =>
    have HR := Lib.hid (right16_no (T := T) hr)
    have KR := Lib.hid (fun W (x : Ext w W) => rright15_v hr W (h.ext x) n1 n2)
    clear h k hr n1 n2 m1 m2
    go_enter Try.func14, Try.ntmps14
    go_upto_region 1 with fail
    rw [← hW2]
    clear hW2
    go_wp2_with (first
      | (refine wpList_load_row rfl 25 (.tmp 2) rfl w.heap.size rfl 25 _ (0, 0) _ b1 Try.underlying25 rfl (by kernel_rfl) ?_))
    refine (KR.out _ e0).mono ?_; rintro e w3 ⟨rfl, x3⟩
    go_wp2
    go_ret
    exact ⟨by rw [HR.out]; rfl, e0.trans x3⟩
  | true =>
    have KR := Lib.hid (fun W (x : Ext w W) => rright15_v hr W (h.ext x) n1 n2)
    have HRT := Lib.hid (right16_yes (T := T) hr)
    have HK := Lib.hid ((known_iff Q.k).1 ((rightQ_iff Q).1 hr).1)
    have KT := Lib.hid (fun W (x : Ext w W) => k.ext x)
    by_cases hcd : T.cd = 0
    · have hb0 : (T.cd != 0) = false := by simp [hcd]
      have HRR : Hid (rightT Q T = (sameT T (wholeT Q T.nb T.B T.nr T.R) && cntB Q T)) := Lib.hid (by rw [HRT.out, if_pos hcd])
      have hwk := whole_k Q T.nb T.B T.nr T.R
      have KS0 := Lib.hid (fun W (x : Ext w W) => rsame16_any U T (wholeV Q U) (wholeT Q T.nb T.B T.nr T.R) W (KT.out W x) (whole_at Q (KT.out W x).h1 k.l1 k.m1 (KT.out W x).h2 k.l2 k.m2) m1 m2 (Nat.le_trans hwk.2.2.1 m1) (Nat.le_trans hwk.2.2.2 m2))
      generalize sameT T (wholeT Q T.nb T.B T.nr T.R) = B at HRR KS0
      clear h k hr hcd hwk HRT KT n1 n2
      go_enter Try.func14, Try.ntmps14
      go_upto_region 1 with fail
      rw [← hW2]
      clear hW2
      go_wp2_with (first
        | (refine wpList_load_row rfl 25 (.tmp 2) rfl w.heap.size rfl 25 _ (0, 0) _ b1 Try.underlying25 rfl (by kernel_rfl) ?_))
      refine (KR.out _ e0).mono ?_; rintro e w3 ⟨rfl, x3⟩
      have x4 := x3
      clear b1 KR
      have c1 : w3.cell? ⟨w.heap.size + 1, 1, none⟩ = some (.int .i64 T.cd) := cell_of_heap (HX.out _ x4).2 rfl
      go_wp2_with fail
      obtain ⟨X, hX⟩ : ∃ X, X = w3.drew := ⟨_, rfl⟩
      have x5 : Ext W2 X := by rw [hX]; exact x4.trans (Ext.drew _)
      have hs : Ext X X := Ext.refl _
      refine wp_region_held_drew (S := fun W => Ext X W) (by kernel_rfl) (by rw [← hX]; exact hs) (fun _ => ?_)
      rw [← hX]
      clear hX c1 x3 x4 hb0
      have HX := Lib.hid (fun W (x : Ext X W) => HX.out W (x5.trans x))
      have HC := Lib.hid (fun W (x : Ext X W) => (⟨cell_of_heap (HX.out W x).2 rfl, cell_of_heap (HX.out W x).2 rfl⟩ : W.cell? ⟨w.heap.size + 1, 7, none⟩ = some (.slice U.a1 T.nb U.d1) ∧ W.cell? ⟨w.heap.size + 1, 8, none⟩ = some (.slice U.a2 T.nr U.d2)))
      have KS := Lib.hid (fun W (x : Ext X W) => KS0.out W (e0.trans (x5.trans x)))
      clear KS0
      cases B with
      | false =>
        have HR := Lib.hid (HRR.out.trans (Bool.false_and _))
        clear HRR
        refine wpAnyH_takeD (i := 0) (d := 28) rfl rfl (by kernel_rfl) (by kernel_rfl) (by kernel_rfl) (fun _ _ _ h => h) (yieldsIf_load_row (by rfl) 28 (.tmp 3) rfl (w.heap.size + 1) rfl 28 _ (0, 0) _ (fun w' hw' => (HX.out _ hw').2) Try.underlying28 rfl (by kernel_rfl)) hs ?_
        simp only [Act.put, List.setIfInBounds_toArray, List.set_cons_succ, List.set_cons_zero]
        refine wpAnyH_takeD (i := 1) (d := 29) rfl rfl (by kernel_rfl) (by kernel_rfl) (by kernel_rfl) (fun _ _ _ h => h) (yieldsIf_load_row (by rfl) 25 (.tmp 2) rfl (w.heap.size) rfl 25 _ (0, 0) _ (fun w' hw' => (HX.out _ hw').1) Try.underlying25 rfl (by kernel_rfl)) hs ?_
        simp only [Act.put, List.setIfInBounds_toArray, List.set_cons_succ, List.set_cons_zero]
        refine wpAnyH_takeD (i := 2) (d := 30) (v := .pointer (some ⟨w.heap.size + 1, 7, none⟩)) rfl rfl (by kernel_rfl) (by kernel_rfl) (by kernel_rfl) (fun _ _ _ h => h) (Or.inl ⟨by rfl, fun W hW => by go_simp⟩) hs ?_
        simp only [Act.put, List.setIfInBounds_toArray, List.set_cons_succ, List.set_cons_zero]
        refine wpAnyH_takeD (i := 3) (d := 31) (v := .slice U.a1 T.nb U.d1) rfl rfl (by kernel_rfl) (by kernel_rfl) (by kernel_rfl) (fun _ _ _ h => h) (Or.inl ⟨by rfl, fun W hW => by obtain ⟨c7, c8⟩ := HC.out W hW; go_simp⟩) hs ?_
        simp only [Act.put, List.setIfInBounds_toArray, List.set_cons_succ, List.set_cons_zero]
        refine wpAnyH_takeD (i := 4) (d := 32) (v := .pointer (some ⟨w.heap.size + 1, 8, none⟩)) rfl rfl (by kernel_rfl) (by kernel_rfl) (by kernel_rfl) (fun _ _ _ h => h) (Or.inl ⟨by rfl, fun W hW => by go_simp⟩) hs ?_
        simp only [Act.put, List.setIfInBounds_toArray, List.set_cons_succ, List.set_cons_zero]
        refine wpAnyH_takeD (i := 5) (d := 33) (v := .slice U.a2 T.nr U.d2) rfl rfl (by kernel_rfl) (by kernel_rfl) (by kernel_rfl) (fun _ _ _ h => h) (Or.inl ⟨by rfl, fun W hW => by obtain ⟨c7, c8⟩ := HC.out W hW; go_simp⟩) hs ?_
        simp only [Act.put, List.setIfInBounds_toArray, List.set_cons_succ, List.set_cons_zero]
        refine wpAnyH_ready (rs := [6]) (by kernel_rfl) (by simp) (AllReadyH.cons rfl (fun K hK => ?_) AllReadyH.nil)
        go_simp
        go_at_call 31
        refine (rwhole16_any V Q U T.nb T.B T.nr T.R _).mono ?_; rintro e Wc ⟨rfl, y⟩
        go_wp2_with fail
        refine hK.out _ _ (hs.trans y) (fun hs => ?_)
        clear hK K y
        refine wpAnyH_ready (rs := [7]) (by kernel_rfl) (by simp) (AllReadyH.cons rfl (fun K hK => ?_) AllReadyH.nil)
        go_simp
        go_at_call 16
        refine (KS.out _ hs).mono ?_; rintro e Wc ⟨rfl, y⟩
        go_wp2_with fail
        refine hK.out _ _ (hs.trans y) (fun hs => ?_)
        clear hK K y
        refine wpAnyH_takeD (i := 8) (d := 36) (v := .bool true) rfl rfl (by kernel_rfl) (by kernel_rfl) (by kernel_rfl) (fun _ _ _ h => h) (Or.inl ⟨by rfl, fun W hW => by go_simp⟩) hs ?_
        simp only [Act.put, List.setIfInBounds_toArray, List.set_cons_succ, List.set_cons_zero]
        refine wpAnyH_done (by kernel_rfl) ?_ _
        go_wp2
        go_ret
        exact ⟨by rw [HR.out]; rfl, e0.trans (x5.trans hs)⟩
      | true =>
        have HR := Lib.hid (HRR.out.trans (Bool.true_and _))
        clear HRR
        refine wpAnyH_takeD (i := 0) (d := 28) rfl rfl (by kernel_rfl) (by kernel_rfl) (by kernel_rfl) (fun _ _ _ h => h) (yieldsIf_load_row (by rfl) 28 (.tmp 3) rfl (w.heap.size + 1) rfl 28 _ (0, 0) _ (fun w' hw' => (HX.out _ hw').2) Try.underlying28 rfl (by kernel_rfl)) hs ?_
        simp only [Act.put, List.setIfInBounds_toArray, List.set_cons_succ, List.set_cons_zero]
        refine wpAnyH_takeD (i := 1) (d := 29) rfl rfl (by kernel_rfl) (by kernel_rfl) (by kernel_rfl) (fun _ _ _ h => h) (yieldsIf_load_row (by rfl) 25 (.tmp 2) rfl (w.heap.size) rfl 25 _ (0, 0) _ (fun w' hw' => (HX.out _ hw').1) Try.underlying25 rfl (by kernel_rfl)) hs ?_
        simp only [Act.put, List.setIfInBounds_toArray, List.set_cons_succ, List.set_cons_zero]
        refine wpAnyH_takeD (i := 2) (d := 30) (v := .pointer (some ⟨w.heap.size + 1, 7, none⟩)) rfl rfl (by kernel_rfl) (by kernel_rfl) (by kernel_rfl) (fun _ _ _ h => h) (Or.inl ⟨by rfl, fun W hW => by go_simp⟩) hs ?_
        simp only [Act.put, List.setIfInBounds_toArray, List.set_cons_succ, List.set_cons_zero]
        refine wpAnyH_takeD (i := 3) (d := 31) (v := .slice U.a1 T.nb U.d1) rfl rfl (by kernel_rfl) (by kernel_rfl) (by kernel_rfl) (fun _ _ _ h => h) (Or.inl ⟨by rfl, fun W hW => by obtain ⟨c7, c8⟩ := HC.out W hW; go_simp⟩) hs ?_
        simp only [Act.put, List.setIfInBounds_toArray, List.set_cons_succ, List.set_cons_zero]
        refine wpAnyH_takeD (i := 4) (d := 32) (v := .pointer (some ⟨w.heap.size + 1, 8, none⟩)) rfl rfl (by kernel_rfl) (by kernel_rfl) (by kernel_rfl) (fun _ _ _ h => h) (Or.inl ⟨by rfl, fun W hW => by go_simp⟩) hs ?_
        simp only [Act.put, List.setIfInBounds_toArray, List.set_cons_succ, List.set_cons_zero]
        refine wpAnyH_takeD (i := 5) (d := 33) (v := .slice U.a2 T.nr U.d2) rfl rfl (by kernel_rfl) (by kernel_rfl) (by kernel_rfl) (fun _ _ _ h => h) (Or.inl ⟨by rfl, fun W hW => by obtain ⟨c7, c8⟩ := HC.out W hW; go_simp⟩) hs ?_
        simp only [Act.put, List.setIfInBounds_toArray, List.set_cons_succ, List.set_cons_zero]
        refine wpAnyH_ready (rs := [6]) (by kernel_rfl) (by simp) (AllReadyH.cons rfl (fun K hK => ?_) AllReadyH.nil)
        go_simp
        go_at_call 31
        refine (rwhole16_any V Q U T.nb T.B T.nr T.R _).mono ?_; rintro e Wc ⟨rfl, y⟩
        go_wp2_with fail
        refine hK.out _ _ (hs.trans y) (fun hs => ?_)
        clear hK K y
        refine wpAnyH_ready (rs := [7]) (by kernel_rfl) (by simp) (AllReadyH.cons rfl (fun K hK => ?_) AllReadyH.nil)
        go_simp
        go_at_call 16
        refine (KS.out _ hs).mono ?_; rintro e Wc ⟨rfl, y⟩
        go_wp2_with fail
        refine hK.out _ _ (hs.trans y) (fun hs => ?_)
        clear hK K y
        refine wpAnyH_takeD (i := 8) (d := 36) (v := .bool false) rfl rfl (by kernel_rfl) (by kernel_rfl) (by kernel_rfl) (fun _ _ _ h => h) (Or.inl ⟨by rfl, fun W hW => by go_simp⟩) hs ?_
        simp only [Act.put, List.setIfInBounds_toArray, List.set_cons_succ, List.set_cons_zero]
        refine wpAnyH_done (by kernel_rfl) ?_ _
        obtain ⟨g1, g2⟩ := HX.out _ hs
        have d7 : Wc.cell? ⟨w.heap.size + 1, 7, none⟩ = some (.slice U.a1 T.nb U.d1) := cell_of_heap g2 rfl
        have d8 : Wc.cell? ⟨w.heap.size + 1, 8, none⟩ = some (.slice U.a2 T.nr U.d2) := cell_of_heap g2 rfl
        have dk : Wc.cell? ⟨w.heap.size, 0, none⟩ = some (.int .i64 Q.k) := cell_of_heap g1 rfl
        have dc : Wc.cell? ⟨w.heap.size, 2, none⟩ = some (.int .i64 Q.ct) := cell_of_heap g1 rfl
        have dm : Wc.cell? ⟨w.heap.size, 7, none⟩ = some (.int .i64 Q.mn) := cell_of_heap g1 rfl
        clear g1 g2 HC KS
        rcases HK.out with hk | hk | hk | hk | hk | hk | hk | hk | hk | hk
        all_goals
          rw [hk] at dk
          have HCn : Hid (cntB Q T = cntB Q T) := Lib.hid rfl
          go_wp2
        all_goals
          go_ret
          refine ⟨?_, e0.trans (x5.trans hs)⟩
          rw [HR.out]
          unfold cntB
          simp (config := { decide := true }) only [hk, if_true, if_false]
          first
            | rfl
            | (refine congrArg (fun b => Ending.returned (.bool b)) ?_; first | rfl | exact Bool.eq_iff_iff.2 (by simp))
    · have hb0 : (T.cd != 0) = true := by simp [hcd]
      have HRR : Hid (rightT Q T = (inB T.cd 1 4 && sameT T { zeroT with k := Q.k, cd := T.cd })) := Lib.hid (by rw [HRT.out, if_neg hcd])
      have KS := Lib.hid (fun W (x : Ext w W) => rsame16_any U T zeroQV { zeroT with k := Q.k, cd := T.cd } W (KT.out W x) (telnone_at W rfl rfl) m1 m2 (Nat.zero_le _) (Nat.zero_le _))
      generalize sameT T { zeroT with k := Q.k, cd := T.cd } = B at HRR KS
      have HIn := Lib.hid (inB_iff T.cd 1 4)
      clear h k hr hcd HRT KT n1 n2 m1 m2
      go_enter Try.func14, Try.ntmps14
      go_upto_region 1 with fail
      rw [← hW2]
      clear hW2
      go_wp2_with (first
        | (refine wpList_load_row rfl 25 (.tmp 2) rfl w.heap.size rfl 25 _ (0, 0) _ b1 Try.underlying25 rfl (by kernel_rfl) ?_))
      refine (KR.out _ e0).mono ?_; rintro e w3 ⟨rfl, x3⟩
      clear b1 KR
      have g3 := (HX.out _ x3).2
      have c1 : w3.cell? ⟨w.heap.size + 1, 1, none⟩ = some (.int .i64 T.cd) := cell_of_heap g3 rfl
      have c0 : w3.cell? ⟨w.heap.size, 0, none⟩ = some (.int .i64 Q.k) := cell_of_heap (HX.out _ x3).1 rfl
      by_cases h1 : 1 ≤ T.cd
      · by_cases h4 : T.cd ≤ 4
        · have hd1 : decide (1 ≤ T.cd) = true := decide_eq_true h1
          have hd4 : decide (T.cd ≤ 4) = true := decide_eq_true h4
          have HR : Hid (rightT Q T = B) := Lib.hid (by rw [HRR.out, HIn.out.2 ⟨h1, h4⟩, Bool.true_and])
          clear HRR HIn
          go_wp2_with (first
            | (refine wpList_load_row_g (by rfl) 28 (.tmp 3) rfl (w.heap.size + 1) rfl 28 _ (0, 0) _ g3 Try.underlying28 rfl (by kernel_rfl) ?_))
          refine (KS.out _ (e0.trans x3)).mono ?_; rintro e w4 ⟨rfl, x4⟩
          go_wp2
          go_ret
          exact ⟨by rw [HR.out]; rfl, (e0.trans x3).trans x4⟩
        · have hd1 : decide (1 ≤ T.cd) = true := decide_eq_true h1
          have hd4 : decide (T.cd ≤ 4) = false := decide_eq_false h4
          have HR : Hid (rightT Q T = false) := Lib.hid (by
            rw [HRR.out]
            cases hi : inB T.cd 1 4
            · rfl
            · exact absurd (HIn.out.1 hi).2 h4)
          clear HRR HIn KS
          go_wp2
          go_ret
          exact ⟨by rw [HR.out]; rfl, e0.trans x3⟩
      · have hd1 : decide (1 ≤ T.cd) = false := decide_eq_false h1
        have HR : Hid (rightT Q T = false) := Lib.hid (by
          rw [HRR.out]
          cases hi : inB T.cd 1 4
          · rfl
          · exact absurd (HIn.out.1 hi).1 h1)
        clear HRR HIn KS
        go_wp2
        go_ret
        exact ⟨by rw [HR.out]; rfl, e0.trans x3⟩
theorem rright16_v {V : QstV} {Q : Qst} {U : QstV} {T : Tel} {B : Bool} (hB : rightT Q T = B) (w : World) (h : QstAt w V Q) (n1 : Q.nb ≤ 1000000) (n2 : Q.nr ≤ 1000000) (k : TelAt w U T) (m1 : T.nb ≤ 1000000) (m2 : T.nr ≤ 1000000) :
    Calls Try.prog 14 #[.agg (qstC V Q), .agg (telC U T)] w fun e w' => e = .returned (.bool B) ∧ Ext w w' := hB ▸ rright16_any V Q U T w h n1 n2 k m1 m2
end Go.Proofs.Ytejiafihiielgaa
