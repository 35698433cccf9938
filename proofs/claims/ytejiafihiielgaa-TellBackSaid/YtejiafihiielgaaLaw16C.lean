/-
  THE LAWS OF LAYER 16: TellBack, with package tell's Print, Parse, Right and 'sure' as premises.
-/
import Derived.Test.YtejiafihiielgaaTelC
namespace Go.Proofs.Ytejiafihiielgaa
open Go.RowKit
set_option linter.unusedVariables false
set_option maxRecDepth 100000

set_option maxHeartbeats 16000000 in
theorem tellBack.walk0 (V : QstV) (Q : Qst) (U : QstV) (T : Tel) (a : Option Addr) (n c : Nat) (f : Nat → Int) (w : World) (h : QstAt w V Q) (hq : QstW Q) (nb1 : Q.nb ≤ 1000000000000000) (nr1 : Q.nr ≤ 1000000000000000) (k : TelAt w U T) (kq : TelW T) (nb2 : T.nb ≤ 1000000000000000) (nr2 : T.nr ≤ 1000000000000000)
    (ha : Holds .u8 w a n f) (hnc : n ≤ c) (hcr : c * 1 ≤ 140737488351232) (hwf : ∀ i, i < n → (Lit.int .u8 (f i)).wf = true)
    (hPr : TPrintC 9) (hPa : TParseC 18) (hRi : TRightC 13) (sure : ∀ w, Calls Try.prog 8 #[] w fun e w' => e = .returned (.bool true) ∧ Ext w w') :
    Calls Try.prog 5 #[.agg (qstC V Q), .agg (telC U T), .slice a n c] w fun e w' => e = .returned (.bool true) ∧ Ext w w' := by
  have HSU := Lib.hid sure
  have hf : ∀ i, i < n → 0 ≤ f i ∧ f i < 256 := fun i hi => by have := hwf i hi; simp [Lit.wf, IntKind.min, IntKind.max, IntKind.signed, IntKind.bits] at this; omega
  have hcm : c ≤ maxLen := by unfold maxLen; omega
  clear hwf sure
  obtain ⟨W2, hW2, e0, HX⟩ : ∃ W2, W2 = (w.alloc (.cells (qstC V Q) 25)).alloc (.cells (telC U T) 28) ∧ Ext w W2 ∧ Hid (∀ W, Ext W2 W → W.heap[w.heap.size]? = some (.cells (qstC V Q) 25 (0, 0)) ∧ W.heap[w.heap.size + 1]? = some (.cells (telC U T) 28 (0, 0))) :=
    ⟨_, rfl, (Ext.alloc w _).trans (Ext.alloc _ _), Lib.hid fun W x => ⟨x.block ((heap_alloc_old _ _ (by simp)).trans (heap_alloc_new w _)), x.block (heap_new_at _ _ (by simp))⟩⟩
  obtain ⟨b1, b2⟩ := HX.out _ (Ext.refl W2)
  cases hfw : (fewQA Q && fewQT T) with
  | false =>
    have KF := Lib.hid (fun W => few16_v (V := V) (U := U) hfw nb1 nr1 nb2 nr2 W)
    clear h hq k kq ha hf hfw hPr hPa hRi
    go_enter Try.func5, Try.ntmps5
    go_upto_region 1 with fail
    rw [← hW2]
    clear hW2
    go_wp2_with (first
      | (refine wpList_load_row rfl 25 (.tmp 3) rfl (w.heap.size) rfl 25 _ (0, 0) _ b1 Try.underlying25 rfl (by kernel_rfl) ?_)
      | (refine wpList_load_row rfl 28 (.tmp 4) rfl (w.heap.size + 1) rfl 28 _ (0, 0) _ b2 Try.underlying28 rfl (by kernel_rfl) ?_))
    refine (KF.out _).mono ?_; rintro e w3 ⟨rfl, x3⟩
    go_wp2_with fail
    refine (HSU.out _).mono ?_; rintro e wz ⟨rfl, xz⟩
    go_wp2
    go_ret
    exact ⟨rfl, e0.trans (x3.trans xz)⟩
  | true =>
   have KF := Lib.hid (fun W => few16_v (V := V) (U := U) hfw nb1 nr1 nb2 nr2 W)
   obtain ⟨⟨m1, m2⟩, m3, m4⟩ := (fewQA_iff' Q T).1 hfw
   by_cases h6 : 600 < n
   · have h6I : (600 : Int) < n := by omega
     clear h hq k kq ha hf hfw hPr hPa hRi m1 m2 m3 m4 h6
     go_enter Try.func5, Try.ntmps5
     go_upto_region 1 with fail
     rw [← hW2]
     clear hW2
     go_wp2_with (first
       | (refine wpList_load_row rfl 25 (.tmp 3) rfl (w.heap.size) rfl 25 _ (0, 0) _ b1 Try.underlying25 rfl (by kernel_rfl) ?_)
       | (refine wpList_load_row rfl 28 (.tmp 4) rfl (w.heap.size + 1) rfl 28 _ (0, 0) _ b2 Try.underlying28 rfl (by kernel_rfl) ?_))
     refine (KF.out _).mono ?_; rintro e w3 ⟨rfl, x3⟩
     go_wp2_with fail
     refine (HSU.out _).mono ?_; rintro e wz ⟨rfl, xz⟩
     go_wp2
     go_ret
     exact ⟨rfl, e0.trans (x3.trans xz)⟩
   · have h6I : ¬ (600 : Int) < n := by omega
     have hn6 : n ≤ 600 := by omega
     have KP := Lib.hid (fun W (x : Ext w W) => hPr V Q U T W (h.ext x) hq (by omega) (by omega) (k.ext x) (by omega) (by omega) kq.wR)
     have KPa0 := Lib.hid (fun (xb : Option Addr) (N xq : Nat) (g : Nat → Int) W (x : Ext w W) (hx : Holds .u8 W xb N g) (hN : N ≤ 100000) (l : N ≤ xq) (m : xq ≤ maxLen) (b : ∀ i, i < N → 0 ≤ g i ∧ g i < 256) => hPa V Q xb N xq g W (h.ext x) hq (by omega) (by omega) hx hN l m b)
     have KPb := Lib.hid (fun W (x : Ext w W) => hPa V Q a n c f W (h.ext x) hq (by omega) (by omega) (ha.ext x) (by omega) hnc hcm hf)
     have KPr := Lib.hid (fun (X : QstV) (S : Tel) W (x : Ext w W) (hs : TelAt W X S) (s1 : S.nb ≤ 1000000) (s2 : S.nr ≤ 1000000) (s3 : ∀ i, i < S.nr → 0 ≤ S.R i ∧ S.R i < 65536) => hPr V Q X S W (h.ext x) hq (by omega) (by omega) hs s1 s2 s3)
     have KRi := Lib.hid (fun (X : QstV) (S : Tel) W (x : Ext w W) (hs : TelAt W X S) (s1 : S.nb ≤ 1000000) (s2 : S.nr ≤ 1000000) => hRi V Q X S W (h.ext x) hq (by omega) (by omega) hs s1 s2)
     have HKT := Lib.hid (fun W (x : Ext w W) => k.ext x)
     have HA := Lib.hid (fun W (x : Ext w W) => ha.ext x)
     have HTM : Hid (T.nb ≤ 1000000 ∧ T.nr ≤ 1000000) := Lib.hid ⟨by omega, by omega⟩
     have HTR := Lib.hid kq.wR
     have HSm := Lib.hid (tpa_R (Q := Q) (n := n) (f := f) (by omega) hf)
     have HNE : Hid ((rightT Q T = false → tprE Q T = 11) ∧ (rightT Q T = true → tprE Q T = 0 ∧ tprN Q T = tsayN T)) := Lib.hid ⟨fun h => (tprE_no h).1, fun h => tprE_yes h⟩
     generalize tprN Q T = N at KP HNE
     generalize tprE Q T = E at KP HNE
     clear h hq k kq ha hf hfw hPr hPa hRi m1 m2 m3 m4 h6 nb1 nb2 nr1 nr2
     go_enter Try.func5, Try.ntmps5
     go_upto_region 1 with fail
     rw [← hW2]
     clear hW2
     go_wp2_with (first
       | (refine wpList_load_row rfl 25 (.tmp 3) rfl (w.heap.size) rfl 25 _ (0, 0) _ b1 Try.underlying25 rfl (by kernel_rfl) ?_)
       | (refine wpList_load_row rfl 28 (.tmp 4) rfl (w.heap.size + 1) rfl 28 _ (0, 0) _ b2 Try.underlying28 rfl (by kernel_rfl) ?_))
     refine (KF.out _).mono ?_; rintro e w3 ⟨rfl, x3⟩
     have x3' := x3
     obtain ⟨c1, c2⟩ := HX.out _ x3
     clear b1 b2 KF
     go_wp2_with (first
       | (refine wpList_load_row rfl 25 (.tmp 3) rfl (w.heap.size) rfl 25 _ (0, 0) _ c1 Try.underlying25 rfl (by kernel_rfl) ?_)
       | (refine wpList_load_row rfl 28 (.tmp 4) rfl (w.heap.size + 1) rfl 28 _ (0, 0) _ c2 Try.underlying28 rfl (by kernel_rfl) ?_))
     refine (KP.out _ (e0.trans x3)).mono ?_; rintro e w4 ⟨xb, xq, rfl, hxq, hxm, hx, x4⟩
     have x4 := x3.trans x4
     clear c1 c2 x3 x3' KP
     go_upto_if 32 with fail
     go_cut [8] from 32 to 66 (fun v wx => Ext W2 wx)
     case first => as_aux_lemma =>
       cases hr : rightT Q T with
       | false =>
         have hEb : (E == 0) = false := by rw [HNE.out.1 hr]; rfl
         clear hx hxq
         go_wp2_with fail
         go_meet
         exact x4
       | true =>
         obtain ⟨q1, q2⟩ := HNE.out.2 hr
         have hEb : (E == 0) = true := by rw [q1]; rfl
         obtain ⟨p1, p2⟩ := tsay_parse hr HTR.out
         obtain ⟨z1, z2⟩ := tsay_size hr
         have hsb := tsayF_bd hr HTR.out
         have hz0 := tsay_zero hr
         have hkk := (known_iff Q.k).1 ((rightQ_iff Q).1 (rightT_k hr).2).1
         rw [← q2] at p1 p2 z1 z2 hsb
         have KB := Lib.hid (KPa0.out xb N xq (tsayF T) w4 (e0.trans x4) hx (by omega) hxq hxm hsb)
         rw [p1] at KB
         have HSS := Lib.hid ((sameT_iff T _).2 p2)
         have HPP := Lib.hid (tpa_R (Q := Q) (n := N) (f := tsayF T) (by omega) hsb)
         generalize tpaT Q N (tsayF T) = P at KB HSS HPP
         obtain ⟨YB, hcb⟩ : ∃ YB, (T.cd != 0) = YB := ⟨_, rfl⟩
         obtain ⟨x0, hx0⟩ : ∃ x0, tsayF T 0 = x0 := ⟨_, rfl⟩
         have hd0 : decide (128 ≤ x0) = YB := by
           rw [← hx0, hz0, ← hcb]
           by_cases hc : T.cd = 0
           · rw [if_pos hc, decide_eq_false (by omega)]; simp [hc]
           · rw [if_neg hc, decide_eq_true (by omega)]; simp [hc]
         have hYY : (YB != YB) = false := by simp
         have hz1 : ¬ (253 : Int) < N := by omega
         have hz2 : ¬ (N : Int) < 2 := by omega
         have hd1 : decide ((253 : Int) < N) = false := decide_eq_false hz1
         have hd2 : decide ((N : Int) < 2) = false := decide_eq_false hz2
         have h0N : (0 : Int) < N := by omega
         have hN0 : ¬ N = 0 := by omega
         obtain ⟨b, off, rfl, hlt, hcx⟩ := hx.resolve_left (by omega)
         have cx : w4.cell? ⟨b, off, none⟩ = some (.int .u8 x0) := by rw [← hx0]; exact hcx 0 (by omega)
         clear q1 q2 p1 p2 hsb hx hr hz0 hkk hcx hlt KPa0
         have d1 := (HX.out _ x4).1
         go_wp2_with (first
           | (refine wpList_load_row rfl 25 (.tmp 3) rfl (w.heap.size) rfl 25 _ (0, 0) _ d1 Try.underlying25 rfl (by kernel_rfl) ?_))
         refine KB.out.mono ?_; rintro e w5 ⟨Y, rfl, hY, x5⟩
         obtain ⟨W9, hWW9, yW9, rW9⟩ : ∃ W, W = ((w5.alloc (.cells #[.int .i64 0, .int .i64 0, .int .i64 0, .int .i64 0, .int .i64 0, .int .i64 0, .int .i64 0, .slice none 0 0, .slice none 0 0] 28)).setRow w5.heap.size (telC Y P)) ∧ Ext w5 W ∧ W.heap[w5.heap.size]? = some (.cells (telC Y P) 28 (0, 0)) := ⟨_, rfl, told_row _ _ _ _⟩
         have x6 := (x4.trans x5).trans yW9
         have hY := hY.ext yW9
         have cx := Ext.cell (x5.trans yW9) (World.block_lt_of_cell? _ _ cx) cx
         have g9 := rW9
         go_upto_region 6 with (first
           | (refine wpList_store_row rfl 28 (.tmp 9) (.tmp 37) rfl _ _ rfl rfl 28 _ (heap_new_at _ _ (by first | rfl | simp)) (by kernel_rfl) rfl (by simp [telC, Value.oneCell']) ?_))
         rw [← hWW9]
         clear hWW9 yW9 rW9 d1 x5 KB
         obtain ⟨X, hX⟩ : ∃ X, X = W9.drew := ⟨_, rfl⟩
         have xX : Ext W9 X := by rw [hX]; exact Ext.drew _
         have hs : Ext X X := Ext.refl _
         refine wp_region_held_drew (S := fun W => Ext X W) (by kernel_rfl) (by rw [← hX]; exact hs) (fun _ => ?_)
         rw [← hX]
         have x7 := x6.trans xX
         have HX9 := Lib.hid (fun W (x : Ext X W) => And.intro (HX.out W (x7.trans x)).2 ((xX.trans x).block g9))
         have HC := Lib.hid (fun W (x : Ext X W) => (⟨Ext.cell (xX.trans x) (World.block_lt_of_cell? _ _ cx) cx, cell_of_heap (HX.out W (x7.trans x)).2 rfl⟩ : W.cell? ⟨b, off, none⟩ = some (.int .u8 x0) ∧ W.cell? ⟨w.heap.size + 1, 1, none⟩ = some (.int .i64 T.cd)))
         have KS := Lib.hid (fun W (x : Ext X W) => (rsame16_any U T Y P W (HKT.out W (e0.trans (x7.trans x))) (hY.ext (xX.trans x)) HTM.out.1 HTM.out.2 HPP.out.1 HPP.out.2.1).mono fun e w' hh => (⟨hh.1.trans (by rw [HSS.out]), hh.2⟩ : e = .returned (.bool true) ∧ Ext W w'))
         have HX7 := Lib.hid x7
         clear hX xX x6 x7 cx g9 hY
         refine wpAnyH_takeD (i := 0) (d := 39) (v := .int .i64 0) rfl rfl (by kernel_rfl) (by kernel_rfl) (by kernel_rfl) (fun _ _ _ h => h) (Or.inl ⟨by rfl, fun W hW => by go_simp⟩) hs ?_
         simp only [Act.put, List.setIfInBounds_toArray, List.set_cons_succ, List.set_cons_zero]
         refine wpAnyH_takeD (i := 1) (d := 40) (v := .bool false) rfl rfl (by kernel_rfl) (by kernel_rfl) (by kernel_rfl) (fun _ _ _ h => h) (Or.inl ⟨by rfl, fun W hW => by go_simp⟩) hs ?_
         simp only [Act.put, List.setIfInBounds_toArray, List.set_cons_succ, List.set_cons_zero]
         refine wpAnyH_takeD (i := 2) (d := 41) (v := .bool false) rfl rfl (by kernel_rfl) (by kernel_rfl) (by kernel_rfl) (fun _ _ _ h => h) (Or.inl ⟨by rfl, fun W hW => by go_simp⟩) hs ?_
         simp only [Act.put, List.setIfInBounds_toArray, List.set_cons_succ, List.set_cons_zero]
         refine wpAnyH_takeD (i := 3) (d := 42) rfl rfl (by kernel_rfl) (by kernel_rfl) (by kernel_rfl) (fun _ _ _ h => h) (yieldsIf_load_row (by rfl) 28 (.tmp 4) rfl (w.heap.size + 1) rfl 28 _ (0, 0) _ (fun w' hw' => (HX9.out _ hw').1) Try.underlying28 rfl (by kernel_rfl)) hs ?_
         simp only [Act.put, List.setIfInBounds_toArray, List.set_cons_succ, List.set_cons_zero]
         refine wpAnyH_takeD (i := 4) (d := 43) rfl rfl (by kernel_rfl) (by kernel_rfl) (by kernel_rfl) (fun _ _ _ h => h) (yieldsIf_load_row (by rfl) 28 (.tmp 9) rfl (w5.heap.size) rfl 28 _ (0, 0) _ (fun w' hw' => (HX9.out _ hw').2) Try.underlying28 rfl (by kernel_rfl)) hs ?_
         simp only [Act.put, List.setIfInBounds_toArray, List.set_cons_succ, List.set_cons_zero]
         refine wpAnyH_ready (rs := [5]) (by kernel_rfl) (by simp) (AllReadyH.cons rfl (fun K hK => ?_) AllReadyH.nil)
         go_simp
         go_at_call 16
         refine (KS.out _ hs).mono ?_; rintro e Wc ⟨rfl, y⟩
         go_wp2_with fail
         refine hK.out _ _ (hs.trans y) (fun hs => ?_)
         clear hK K y
         refine wpAnyH_takeD (i := 6) (d := 45) (v := .bool false) rfl rfl (by kernel_rfl) (by kernel_rfl) (by kernel_rfl) (fun _ _ _ h => h) (Or.inl ⟨by rfl, fun W hW => by go_simp⟩) hs ?_
         simp only [Act.put, List.setIfInBounds_toArray, List.set_cons_succ, List.set_cons_zero]
         refine wpAnyH_takeD (i := 7) (d := 46) (v := .bool false) rfl rfl (by kernel_rfl) (by kernel_rfl) (by kernel_rfl) (fun _ _ _ h => h) (Or.inl ⟨by rfl, fun W hW => by go_simp⟩) hs ?_
         simp only [Act.put, List.setIfInBounds_toArray, List.set_cons_succ, List.set_cons_zero]
         refine wpAnyH_takeD (i := 8) (d := 47) (v := .bool false) rfl rfl (by kernel_rfl) (by kernel_rfl) (by kernel_rfl) (fun _ _ _ h => h) (Or.inl ⟨by rfl, fun W hW => by go_simp⟩) hs ?_
         simp only [Act.put, List.setIfInBounds_toArray, List.set_cons_succ, List.set_cons_zero]
         refine wpAnyH_takeD (i := 9) (d := 48) (v := .slice (some ⟨b, off, none⟩) N xq) rfl rfl (by kernel_rfl) (by kernel_rfl) (by kernel_rfl) (fun _ _ _ h => h) (Or.inl ⟨by rfl, fun W hW => by go_simp⟩) hs ?_
         simp only [Act.put, List.setIfInBounds_toArray, List.set_cons_succ, List.set_cons_zero]
         refine wpAnyH_takeD (i := 10) (d := 49) (v := .int .i64 N) rfl rfl (by kernel_rfl) (by kernel_rfl) (by kernel_rfl) (fun _ _ _ h => h) (Or.inl ⟨by rfl, fun W hW => by go_simp⟩) hs ?_
         simp only [Act.put, List.setIfInBounds_toArray, List.set_cons_succ, List.set_cons_zero]
         refine wpAnyH_takeD (i := 11) (d := 50) (v := .bool false) rfl rfl (by kernel_rfl) (by kernel_rfl) (by kernel_rfl) (fun _ _ _ h => h) (Or.inl ⟨by rfl, fun W hW => by go_simp⟩) hs ?_
         simp only [Act.put, List.setIfInBounds_toArray, List.set_cons_succ, List.set_cons_zero]
         refine wpAnyH_takeD (i := 12) (d := 51) (v := .bool false) rfl rfl (by kernel_rfl) (by kernel_rfl) (by kernel_rfl) (fun _ _ _ h => h) (Or.inl ⟨by rfl, fun W hW => by go_simp⟩) hs ?_
         simp only [Act.put, List.setIfInBounds_toArray, List.set_cons_succ, List.set_cons_zero]
         refine wpAnyH_takeD (i := 13) (d := 52) (v := .bool false) rfl rfl (by kernel_rfl) (by kernel_rfl) (by kernel_rfl) (fun _ _ _ h => h) (Or.inl ⟨by rfl, fun W hW => by go_simp⟩) hs ?_
         simp only [Act.put, List.setIfInBounds_toArray, List.set_cons_succ, List.set_cons_zero]
         refine wpAnyH_takeD (i := 14) (d := 53) (v := .slice (some ⟨b, off, none⟩) N xq) rfl rfl (by kernel_rfl) (by kernel_rfl) (by kernel_rfl) (fun _ _ _ h => h) (Or.inl ⟨by rfl, fun W hW => by go_simp⟩) hs ?_
         simp only [Act.put, List.setIfInBounds_toArray, List.set_cons_succ, List.set_cons_zero]
         refine wpAnyH_takeD (i := 15) (d := 54) (v := .int .i64 N) rfl rfl (by kernel_rfl) (by kernel_rfl) (by kernel_rfl) (fun _ _ _ h => h) (Or.inl ⟨by rfl, fun W hW => by go_simp⟩) hs ?_
         simp only [Act.put, List.setIfInBounds_toArray, List.set_cons_succ, List.set_cons_zero]
         refine wpAnyH_takeD (i := 16) (d := 55) (v := .bool false) rfl rfl (by kernel_rfl) (by kernel_rfl) (by kernel_rfl) (fun _ _ _ h => h) (Or.inl ⟨by rfl, fun W hW => by go_simp⟩) hs ?_
         simp only [Act.put, List.setIfInBounds_toArray, List.set_cons_succ, List.set_cons_zero]
         refine wpAnyH_takeD (i := 17) (d := 56) (v := .bool false) rfl rfl (by kernel_rfl) (by kernel_rfl) (by kernel_rfl) (fun _ _ _ h => h) (Or.inl ⟨by rfl, fun W hW => by go_simp⟩) hs ?_
         simp only [Act.put, List.setIfInBounds_toArray, List.set_cons_succ, List.set_cons_zero]
         refine wpAnyH_takeD (i := 18) (d := 57) (v := .bool false) rfl rfl (by kernel_rfl) (by kernel_rfl) (by kernel_rfl) (fun _ _ _ h => h) (Or.inl ⟨by rfl, fun W hW => by go_simp⟩) hs ?_
         simp only [Act.put, List.setIfInBounds_toArray, List.set_cons_succ, List.set_cons_zero]
         refine wpAnyH_takeD (i := 19) (d := 58) (v := .slice (some ⟨b, off, none⟩) N xq) rfl rfl (by kernel_rfl) (by kernel_rfl) (by kernel_rfl) (fun _ _ _ h => h) (Or.inl ⟨by rfl, fun W hW => by go_simp⟩) hs ?_
         simp only [Act.put, List.setIfInBounds_toArray, List.set_cons_succ, List.set_cons_zero]
         refine wpAnyH_takeD (i := 20) (d := 59) (v := .pointer (some ⟨b, off, none⟩)) rfl rfl (by kernel_rfl) (by kernel_rfl) (by kernel_rfl) (fun _ _ _ h => h) (Or.inl ⟨by rfl, fun W hW => by obtain ⟨c0, c1⟩ := HC.out W hW; go_simp⟩) hs ?_
         simp only [Act.put, List.setIfInBounds_toArray, List.set_cons_succ, List.set_cons_zero]
         refine wpAnyH_takeD (i := 21) (d := 60) (v := .int .u8 x0) rfl rfl (by kernel_rfl) (by kernel_rfl) (by kernel_rfl) (fun _ _ _ h => h) (Or.inl ⟨by rfl, fun W hW => by obtain ⟨c0, c1⟩ := HC.out W hW; go_simp⟩) hs ?_
         simp only [Act.put, List.setIfInBounds_toArray, List.set_cons_succ, List.set_cons_zero]
         refine wpAnyH_takeD (i := 22) (d := 61) (v := .bool YB) rfl rfl (by kernel_rfl) (by kernel_rfl) (by kernel_rfl) (fun _ _ _ h => h) (Or.inl ⟨by rfl, fun W hW => by go_simp⟩) hs ?_
         simp only [Act.put, List.setIfInBounds_toArray, List.set_cons_succ, List.set_cons_zero]
         refine wpAnyH_takeD (i := 23) (d := 62) (v := .pointer (some ⟨w.heap.size + 1, 1, none⟩)) rfl rfl (by kernel_rfl) (by kernel_rfl) (by kernel_rfl) (fun _ _ _ h => h) (Or.inl ⟨by rfl, fun W hW => by go_simp⟩) hs ?_
         simp only [Act.put, List.setIfInBounds_toArray, List.set_cons_succ, List.set_cons_zero]
         refine wpAnyH_takeD (i := 24) (d := 63) (v := .int .i64 T.cd) rfl rfl (by kernel_rfl) (by kernel_rfl) (by kernel_rfl) (fun _ _ _ h => h) (Or.inl ⟨by rfl, fun W hW => by obtain ⟨c0, c1⟩ := HC.out W hW; go_simp⟩) hs ?_
         simp only [Act.put, List.setIfInBounds_toArray, List.set_cons_succ, List.set_cons_zero]
         refine wpAnyH_takeD (i := 25) (d := 64) (v := .bool YB) rfl rfl (by kernel_rfl) (by kernel_rfl) (by kernel_rfl) (fun _ _ _ h => h) (Or.inl ⟨by rfl, fun W hW => by go_simp⟩) hs ?_
         simp only [Act.put, List.setIfInBounds_toArray, List.set_cons_succ, List.set_cons_zero]
         refine wpAnyH_takeD (i := 26) (d := 65) (v := .bool false) rfl rfl (by kernel_rfl) (by kernel_rfl) (by kernel_rfl) (fun _ _ _ h => h) (Or.inl ⟨by rfl, fun W hW => by go_simp⟩) hs ?_
         simp only [Act.put, List.setIfInBounds_toArray, List.set_cons_succ, List.set_cons_zero]
         refine wpAnyH_takeD (i := 27) (d := 66) (v := .bool false) rfl rfl (by kernel_rfl) (by kernel_rfl) (by kernel_rfl) (fun _ _ _ h => h) (Or.inl ⟨by rfl, fun W hW => by go_simp⟩) hs ?_
         simp only [Act.put, List.setIfInBounds_toArray, List.set_cons_succ, List.set_cons_zero]
         refine wpAnyH_done (by kernel_rfl) ?_ _
         go_wp2_with fail
         go_meet
         exact HX7.out.trans hs
     case rest =>
       have xc := hcut
       clear hcut hx hxq hxm x4 KPa0 HKT
       have d1 := (HX.out _ xc).1
       go_wp2_with (first
         | (refine wpList_load_row rfl 25 (.tmp 3) rfl (w.heap.size) rfl 25 _ (0, 0) _ d1 Try.underlying25 rfl (by kernel_rfl) ?_))
       refine (KPb.out _ (e0.trans xc)).mono ?_; rintro e w5 ⟨Y, rfl, hY, x5⟩
       have x5 := xc.trans x5
       clear d1 xc KPb
       by_cases hE : tpaE Q n f = 0
       · obtain ⟨-, hPr, hPn, hPs⟩ := tparse_parts hE
         have hpe := tprE_yes hPr
         rw [hE]
         have HPs := Lib.hid hPs
         have KPP := Lib.hid (fun W (x : Ext w W) (hs : TelAt W Y (tpaT Q n f)) => KPr.out Y (tpaT Q n f) W x hs HSm.out.1 HSm.out.2.1 HSm.out.2.2)
         have KRR := Lib.hid (fun W (x : Ext w W) (hs : TelAt W Y (tpaT Q n f)) => KRi.out Y (tpaT Q n f) W x hs HSm.out.1 HSm.out.2.1)
         rw [hpe.1, hpe.2, hPn] at KPP
         rw [hPr] at KRR
         clear hpe hPn hPs hE hPr KPr KRi HSm
         generalize tpaT Q n f = P at *
         obtain ⟨W6, hWW6, yW6, rW6⟩ : ∃ W, W = ((w5.alloc (.cells #[.int .i64 0, .int .i64 0, .int .i64 0, .int .i64 0, .int .i64 0, .int .i64 0, .int .i64 0, .slice none 0 0, .slice none 0 0] 28)).setRow w5.heap.size (telC Y P)) ∧ Ext w5 W ∧ W.heap[w5.heap.size]? = some (.cells (telC Y P) 28 (0, 0)) := ⟨_, rfl, told_row _ _ _ _⟩
         have x6 := x5.trans yW6
         have hY := hY.ext yW6
         have g6 := rW6
         go_upto_region 9 with (first
           | (refine wpList_store_row rfl 28 (.tmp 11) (.tmp 71) rfl _ _ rfl rfl 28 _ (heap_new_at _ _ (by first | rfl | simp)) (by kernel_rfl) rfl (by simp [telC, Value.oneCell']) ?_))
         rw [← hWW6]
         clear hWW6 yW6 rW6 x5
         have d1 := (HX.out _ x6).1
         go_wp2_with (first
           | (refine wpList_load_row rfl 25 (.tmp 3) rfl (w.heap.size) rfl 25 _ (0, 0) _ d1 Try.underlying25 rfl (by kernel_rfl) ?_)
           | (refine wpList_load_row rfl 28 (.tmp 11) rfl (w5.heap.size) rfl 28 _ (0, 0) _ g6 Try.underlying28 rfl (by kernel_rfl) ?_))
         refine (KPP.out _ (e0.trans x6) hY).mono ?_; rintro e w7 ⟨zb, zq, rfl, -, -, hz, x7⟩
         have hY := hY.ext x7
         have g7 := x7.block g6
         have x7 := x6.trans x7
         have d2 := (HX.out _ x7).1
         clear d1 g6 x6 KPP
         go_wp2_with (first
           | (refine wpList_load_row_g (by rfl) 25 (.tmp 3) rfl (w.heap.size) rfl 25 _ (0, 0) _ d2 Try.underlying25 rfl (by kernel_rfl) ?_)
           | (refine wpList_load_row_g (by rfl) 28 (.tmp 11) rfl (w5.heap.size) rfl 28 _ (0, 0) _ g7 Try.underlying28 rfl (by kernel_rfl) ?_))
         refine (KRR.out _ (e0.trans x7) hY).mono ?_; rintro e w8 ⟨rfl, x8⟩
         have hz := hz.ext x8
         have x8 := x7.trans x8
         clear d2 g7 x7 KRR hY
         go_wp2_with fail
         refine (bytes_eq zb a n n zq c (tsayF P) f _ hz (HA.out _ (e0.trans x8)) (by omega) ⟨rfl, HPs.out⟩).mono ?_; rintro e w9 ⟨rfl, x9⟩
         go_wp2_with fail
         refine (HSU.out _).mono ?_; rintro e wz ⟨rfl, xz⟩
         go_wp2
         go_ret
         exact ⟨rfl, e0.trans ((x8.trans x9).trans xz)⟩
       · have hPz : tpaT Q n f = zeroT := by unfold tpaT; rw [if_neg hE]
         have hEb : (tpaE Q n f != 0) = true := by simp [hE]
         rw [hPz] at hY ⊢
         generalize tpaE Q n f = E3 at hEb ⊢
         clear hPz hE KPr KRi HSm
         obtain ⟨W6, hWW6, yW6, rW6⟩ : ∃ W, W = ((w5.alloc (.cells #[.int .i64 0, .int .i64 0, .int .i64 0, .int .i64 0, .int .i64 0, .int .i64 0, .int .i64 0, .slice none 0 0, .slice none 0 0] 28)).setRow w5.heap.size (telC Y zeroT)) ∧ Ext w5 W ∧ W.heap[w5.heap.size]? = some (.cells (telC Y zeroT) 28 (0, 0)) := ⟨_, rfl, told_row _ _ _ _⟩
         have x6 := x5.trans yW6
         have hY := hY.ext yW6
         have g6 := rW6
         go_upto_region 9 with (first
           | (refine wpList_store_row rfl 28 (.tmp 11) (.tmp 71) rfl _ _ rfl rfl 28 _ (heap_new_at _ _ (by first | rfl | simp)) (by kernel_rfl) rfl (by simp [telC, Value.oneCell']) ?_))
         rw [← hWW6]
         clear hWW6 yW6 rW6 x5
         go_wp2_with (first
           | (refine wpList_load_row rfl 28 (.tmp 11) rfl (w5.heap.size) rfl 28 _ (0, 0) _ g6 Try.underlying28 rfl (by kernel_rfl) ?_))
         refine (rsame16_any Y zeroT zeroQV zeroT _ hY (telnone_at _ rfl rfl) (Nat.zero_le _) (Nat.zero_le _) (Nat.zero_le _) (Nat.zero_le _)).mono ?_; rintro e w7 ⟨rfl, x7⟩
         rw [sameT_self]
         go_wp2_with fail
         refine (HSU.out _).mono ?_; rintro e wz ⟨rfl, xz⟩
         go_wp2
         go_ret
         exact ⟨rfl, e0.trans ((x6.trans x7).trans xz)⟩
end Go.Proofs.Ytejiafihiielgaa
