/-
  THE LAWS OF LAYER 15: AskPrints.
-/
import Derived.Test.YtokfgdjkafiicaaSure15
namespace Go.Proofs.Ytokfgdjkafiicaa
open Go.RowKit
set_option linter.unusedVariables false
set_option maxRecDepth 100000

def fewQ (Q : Qst) : Bool := decide (Q.nb ≤ 2100 ∧ Q.nr ≤ 300)
theorem fewQ_iff (Q : Qst) : fewQ Q = true ↔ Q.nb ≤ 2100 ∧ Q.nr ≤ 300 := by unfold fewQ; rw [decide_eq_true_iff]
theorem rfew15_v {V : QstV} {Q : Qst} {B : Bool} (h : fewQ Q = B) (n1 : Q.nb ≤ 1000000000000000) (n2 : Q.nr ≤ 1000000000000000) (w : World) : Calls Try.prog 6 #[.agg (qstC V Q)] w fun e w' => e = .returned (.bool B) ∧ Ext w w' := by
  have H := Lib.hid (fewQ_iff Q)
  rw [h] at H
  have e0 := Ext.alloc w (.cells (qstC V Q) 25)
  have c8 : (w.alloc (.cells (qstC V Q) 25)).cell? ⟨w.heap.size, 8, none⟩ = some (.slice V.a1 Q.nb V.d1) := cell_of_heap (heap_alloc_new w _) rfl
  have c9 : (w.alloc (.cells (qstC V Q) 25)).cell? ⟨w.heap.size, 9, none⟩ = some (.slice V.a2 Q.nr V.d2) := cell_of_heap (heap_alloc_new w _) rfl
  clear h
  by_cases h1 : Q.nb ≤ 2100
  · have hd1 : decide ((Q.nb : Int) ≤ 2100) = true := decide_eq_true (by omega)
    by_cases h2 : Q.nr ≤ 300
    · have hd2 : decide ((Q.nr : Int) ≤ 300) = true := decide_eq_true (by omega)
      obtain rfl : B = true := H.out.2 ⟨h1, h2⟩
      clear H h1 h2
      go_enter Try.func6, Try.ntmps6
      go_wp2
      go_ret
      exact ⟨rfl, e0⟩
    · have hd2 : decide ((Q.nr : Int) ≤ 300) = false := decide_eq_false (by omega)
      have hB : B = false := by
        cases B
        · rfl
        · exact absurd (H.out.1 rfl).2 h2
      subst hB
      clear H h1 h2
      go_enter Try.func6, Try.ntmps6
      go_wp2
      go_ret
      exact ⟨rfl, e0⟩
  · have hd1 : decide ((Q.nb : Int) ≤ 2100) = false := decide_eq_false (by omega)
    have hB : B = false := by
      cases B
      · rfl
      · exact absurd (H.out.1 rfl).1 h1
    subst hB
    clear H h1
    go_enter Try.func6, Try.ntmps6
    go_wp2
    go_ret
    exact ⟨rfl, e0⟩
theorem prE_no {Q : Qst} (h : rightQ Q = false) : prE Q = 11 ∧ prN Q = 0 := by unfold prE prN; rw [h]; exact ⟨rfl, rfl⟩
theorem prE_yes {Q : Qst} (h : rightQ Q = true) : prE Q = 0 ∧ prN Q = sayN Q := by unfold prE prN; rw [h]; exact ⟨rfl, rfl⟩
theorem prN_le (Q : Qst) : prN Q ≤ 253 := by
  cases h : rightQ Q
  · rw [(prE_no h).2]; omega
  · rw [(prE_yes h).2]; exact (say_size h).2
set_option maxHeartbeats 8000000 in
theorem askPrints.walk (V : QstV) (Q : Qst) (U : QstV) (R : Qst) (w : World) (h : QstAt w V Q) (hq : QstW Q) (nb1 : Q.nb ≤ 1000000000000000) (nr1 : Q.nr ≤ 1000000000000000) (k : QstAt w U R) (kq : QstW R) (nb2 : R.nb ≤ 1000000000000000) (nr2 : R.nr ≤ 1000000000000000) :
    Calls Try.prog 3 #[.agg (qstC V Q), .agg (qstC U R)] w fun e w' => e = .returned (.bool true) ∧ Ext w w' := by
  have HSU := Lib.hid sure15
  obtain ⟨W2, hW2, e0, HX⟩ : ∃ W2, W2 = (w.alloc (.cells (qstC V Q) 25)).alloc (.cells (qstC U R) 25) ∧ Ext w W2 ∧ Hid (∀ W, Ext W2 W → W.heap[w.heap.size]? = some (.cells (qstC V Q) 25 (0, 0)) ∧ W.heap[w.heap.size + 1]? = some (.cells (qstC U R) 25 (0, 0))) :=
    ⟨_, rfl, (Ext.alloc w _).trans (Ext.alloc _ _), Lib.hid fun W x => ⟨x.block ((heap_alloc_old _ _ (by simp)).trans (heap_alloc_new w _)), x.block (heap_new_at _ _ (by simp))⟩⟩
  obtain ⟨b1, b2⟩ := HX.out _ (Ext.refl W2)
  cases hf : fewQ Q with
  | false =>
    have KF := Lib.hid (fun W => rfew15_v (V := V) hf nb1 nr1 W)
    clear h k hq kq hf
    go_enter Try.func3, Try.ntmps3
    go_upto_region 1 with fail
    rw [← hW2]
    clear hW2
    go_wp2_with (first
      | (refine wpList_load_row rfl 25 (.tmp 2) rfl w.heap.size rfl 25 _ (0, 0) _ b1 Try.underlying25 rfl (by kernel_rfl) ?_))
    refine (KF.out _).mono ?_; rintro e w3 ⟨rfl, x3⟩
    go_wp2_with fail
    refine (HSU.out _).mono ?_; rintro e w4 ⟨rfl, x4⟩
    go_wp2
    go_ret
    exact ⟨rfl, (e0.trans x3).trans x4⟩
  | true =>
   have KF := Lib.hid (fun W => rfew15_v (V := V) hf nb1 nr1 W)
   cases hg : fewQ R with
   | false =>
    have KG := Lib.hid (fun W => rfew15_v (V := U) hg nb2 nr2 W)
    clear h k hq kq hf hg
    go_enter Try.func3, Try.ntmps3
    go_upto_region 1 with fail
    rw [← hW2]
    clear hW2
    go_wp2_with (first
      | (refine wpList_load_row rfl 25 (.tmp 2) rfl w.heap.size rfl 25 _ (0, 0) _ b1 Try.underlying25 rfl (by kernel_rfl) ?_))
    refine (KF.out _).mono ?_; rintro e w3 ⟨rfl, x3⟩
    have b2' := (HX.out _ x3).2
    go_wp2_with (first
      | (refine wpList_load_row_g (by rfl) 25 (.tmp 3) rfl (w.heap.size + 1) rfl 25 _ (0, 0) _ b2' Try.underlying25 rfl (by kernel_rfl) ?_))
    refine (KG.out _).mono ?_; rintro e w5 ⟨rfl, x5⟩
    go_wp2_with fail
    refine (HSU.out _).mono ?_; rintro e w4 ⟨rfl, x4⟩
    go_wp2
    go_ret
    exact ⟨rfl, ((e0.trans x3).trans x5).trans x4⟩
   | true =>
    have KG := Lib.hid (fun W => rfew15_v (V := U) hg nb2 nr2 W)
    obtain ⟨m1, m2⟩ := (fewQ_iff Q).1 hf
    obtain ⟨m3, m4⟩ := (fewQ_iff R).1 hg
    have KP := Lib.hid (fun W (x : Ext w W) => aprint_any V Q W (h.ext x) (by omega) (by omega) hq.wR)
    have KR := Lib.hid (fun W (x : Ext w W) => rprint15_any V Q W (h.ext x) (by omega) (by omega) hq.wR)
    have KA0 := Lib.hid (fun W (x : Ext w W) => aright_any V Q W (h.ext x) (by omega) (by omega))
    have KB0 := Lib.hid (fun W (x : Ext w W) => rright15_any V Q W (h.ext x) (by omega) (by omega))
    have KC0 := Lib.hid (fun W => (aknown_v (k := Q.k) rfl W).mono fun e w' hh => (⟨hh.1, Ext.of_eq hh.2.symm⟩ : e = .returned (.bool (knownB Q.k)) ∧ Ext W w'))
    have KD0 := Lib.hid (fun W => (rknown15_v (k := Q.k) rfl W).mono fun e w' hh => (⟨hh.1, Ext.of_eq hh.2.symm⟩ : e = .returned (.bool (knownB Q.k)) ∧ Ext W w'))
    have KF0 := Lib.hid (fun W (x : Ext w W) => asame_any V Q U R W (h.ext x) (k.ext x) (by omega) (by omega) (by omega) (by omega))
    have KG0 := Lib.hid (fun W (x : Ext w W) => rsame15_any V Q U R W (h.ext x) (k.ext x) (by omega) (by omega) (by omega) (by omega))
    have hnl := prN_le Q
    have HEB : Hid ((rightQ Q = true → prE Q = 0) ∧ (rightQ Q = false → prE Q = 11)) := Lib.hid ⟨fun h => (prE_yes h).1, fun h => (prE_no h).1⟩
    unfold PrA at KP
    unfold PrP at KR
    generalize prN Q = N at KP KR hnl
    generalize prE Q = E at KP HEB
    generalize rightQ Q = B at KR KA0 KB0 HEB
    generalize knownB Q.k = K at KC0 KD0
    generalize sameQ Q R = S at KF0 KG0
    have hKK : (K == K) = true := by simp
    have hSS : (S == S) = true := by simp
    clear h k hq kq hf hg m1 m2 m3 m4 nb1 nr1 nb2 nr2
    go_enter Try.func3, Try.ntmps3
    go_upto_region 1 with fail
    rw [← hW2]
    clear hW2
    go_wp2_with (first
      | (refine wpList_load_row rfl 25 (.tmp 2) rfl w.heap.size rfl 25 _ (0, 0) _ b1 Try.underlying25 rfl (by kernel_rfl) ?_))
    refine (KF.out _).mono ?_; rintro e w3 ⟨rfl, x3⟩
    have b2' := (HX.out _ x3).2
    go_wp2_with (first
      | (refine wpList_load_row_g (by rfl) 25 (.tmp 3) rfl (w.heap.size + 1) rfl 25 _ (0, 0) _ b2' Try.underlying25 rfl (by kernel_rfl) ?_))
    refine (KG.out _).mono ?_; rintro e w4 ⟨rfl, x4⟩
    have x4 := x3.trans x4
    clear b1 b2 b2' x3 KF KG
    have b1 := (HX.out _ x4).1
    go_wp2_with (first
      | (refine wpList_load_row rfl 25 (.tmp 2) rfl w.heap.size rfl 25 _ (0, 0) _ b1 Try.underlying25 rfl (by kernel_rfl) ?_))
    refine (KP.out _ (e0.trans x4)).mono ?_; rintro e w5 ⟨pb, q1, rfl, -, -, hp, x5⟩
    have x5 := x4.trans x5
    clear b1 x4 KP
    have b1 := (HX.out _ x5).1
    go_wp2_with (first
      | (refine wpList_load_row rfl 25 (.tmp 2) rfl w.heap.size rfl 25 _ (0, 0) _ b1 Try.underlying25 rfl (by kernel_rfl) ?_))
    refine (KR.out _ (e0.trans x5)).mono ?_; rintro e w6 ⟨rb, q2, rfl, -, -, hr, x6⟩
    have hp := hp.ext x6
    have x6 := x5.trans x6
    clear b1 x5 KR
    go_wp2_with fail
    obtain ⟨X, hX⟩ : ∃ X, X = w6.drew := ⟨_, rfl⟩
    have xX : Ext w6 X := by rw [hX]; exact Ext.drew _
    have hs : Ext X X := Ext.refl _
    refine wp_region_held_drew (S := fun W => Ext X W) (by kernel_rfl) (by rw [← hX]; exact hs) (fun _ => ?_)
    rw [← hX]
    have hp := hp.ext xX
    have hr := hr.ext xX
    have x6 := x6.trans xX
    clear hX xX
    have HX := Lib.hid (fun W (x : Ext X W) => HX.out W (x6.trans x))
    have HC := Lib.hid (fun W (x : Ext X W) => (show W.cell? ⟨w.heap.size, 0, none⟩ = some (.int .i64 Q.k) from cell_of_heap (HX.out W x).1 rfl))
    have KA := Lib.hid (fun W (x : Ext X W) => KA0.out W (e0.trans (x6.trans x)))
    have KB := Lib.hid (fun W (x : Ext X W) => KB0.out W (e0.trans (x6.trans x)))
    have KE := Lib.hid (fun W (x : Ext X W) => bytes_eq pb rb N N q1 q2 (sayF Q) (sayF Q) W (hp.ext x) (hr.ext x) (by omega) ⟨rfl, fun _ _ => rfl⟩)
    have KF := Lib.hid (fun W (x : Ext X W) => KF0.out W (e0.trans (x6.trans x)))
    have KG := Lib.hid (fun W (x : Ext X W) => KG0.out W (e0.trans (x6.trans x)))
    have KC := KC0
    have KD := KD0
    clear KA0 KB0 KC0 KD0 KF0 KG0 hp hr
    cases B with
    | true =>
     obtain rfl := HEB.out.1 rfl
     clear HEB
     refine wpAnyH_takeD (i := 0) (d := 28) rfl rfl (by kernel_rfl) (by kernel_rfl) (by kernel_rfl) (fun _ _ _ h => h) (yieldsIf_load_row (by rfl) 25 (.tmp 2) rfl (w.heap.size) rfl 25 _ (0, 0) _ (fun w' hw' => (HX.out _ hw').1) Try.underlying25 rfl (by kernel_rfl)) hs ?_
     simp only [Act.put, List.setIfInBounds_toArray, List.set_cons_succ, List.set_cons_zero]
     refine wpAnyH_takeD (i := 2) (d := 30) rfl rfl (by kernel_rfl) (by kernel_rfl) (by kernel_rfl) (fun _ _ _ h => h) (yieldsIf_load_row (by rfl) 25 (.tmp 2) rfl (w.heap.size) rfl 25 _ (0, 0) _ (fun w' hw' => (HX.out _ hw').1) Try.underlying25 rfl (by kernel_rfl)) hs ?_
     simp only [Act.put, List.setIfInBounds_toArray, List.set_cons_succ, List.set_cons_zero]
     refine wpAnyH_ready (rs := [1]) (by kernel_rfl) (by simp) (AllReadyH.cons rfl (fun K hK => ?_) AllReadyH.nil)
     go_simp
     go_at_call 10
     refine (KA.out _ hs).mono ?_; rintro e Wc ⟨rfl, y⟩
     go_wp2_with fail
     refine hK.out _ _ (hs.trans y) (fun hs => ?_)
     clear hK K y
     refine wpAnyH_ready (rs := [3]) (by kernel_rfl) (by simp) (AllReadyH.cons rfl (fun K hK => ?_) AllReadyH.nil)
     go_simp
     go_at_call 11
     refine (KB.out _ hs).mono ?_; rintro e Wc ⟨rfl, y⟩
     go_wp2_with fail
     refine hK.out _ _ (hs.trans y) (fun hs => ?_)
     clear hK K y
     refine wpAnyH_takeD (i := 4) (d := 32) (v := .bool true) rfl rfl (by kernel_rfl) (by kernel_rfl) (by kernel_rfl) (fun _ _ _ h => h) (Or.inl ⟨by rfl, fun W hW => by go_simp⟩) hs ?_
     simp only [Act.put, List.setIfInBounds_toArray, List.set_cons_succ, List.set_cons_zero]
     refine wpAnyH_takeD (i := 5) (d := 33) (v := .bool true) rfl rfl (by kernel_rfl) (by kernel_rfl) (by kernel_rfl) (fun _ _ _ h => h) (Or.inl ⟨by rfl, fun W hW => by go_simp⟩) hs ?_
     simp only [Act.put, List.setIfInBounds_toArray, List.set_cons_succ, List.set_cons_zero]
     refine wpAnyH_takeD (i := 6) (d := 34) (v := .pointer (some ⟨w.heap.size, 0, none⟩)) rfl rfl (by kernel_rfl) (by kernel_rfl) (by kernel_rfl) (fun _ _ _ h => h) (Or.inl ⟨by rfl, fun W hW => by go_simp⟩) hs ?_
     simp only [Act.put, List.setIfInBounds_toArray, List.set_cons_succ, List.set_cons_zero]
     refine wpAnyH_takeD (i := 7) (d := 35) (v := .int .i64 Q.k) rfl rfl (by kernel_rfl) (by kernel_rfl) (by kernel_rfl) (fun _ _ _ h => h) (Or.inl ⟨by rfl, fun W hW => by have c0 := HC.out W hW; go_simp⟩) hs ?_
     simp only [Act.put, List.setIfInBounds_toArray, List.set_cons_succ, List.set_cons_zero]
     refine wpAnyH_takeD (i := 9) (d := 37) (v := .pointer (some ⟨w.heap.size, 0, none⟩)) rfl rfl (by kernel_rfl) (by kernel_rfl) (by kernel_rfl) (fun _ _ _ h => h) (Or.inl ⟨by rfl, fun W hW => by go_simp⟩) hs ?_
     simp only [Act.put, List.setIfInBounds_toArray, List.set_cons_succ, List.set_cons_zero]
     refine wpAnyH_takeD (i := 10) (d := 38) (v := .int .i64 Q.k) rfl rfl (by kernel_rfl) (by kernel_rfl) (by kernel_rfl) (fun _ _ _ h => h) (Or.inl ⟨by rfl, fun W hW => by have c0 := HC.out W hW; go_simp⟩) hs ?_
     simp only [Act.put, List.setIfInBounds_toArray, List.set_cons_succ, List.set_cons_zero]
     refine wpAnyH_ready (rs := [8]) (by kernel_rfl) (by simp) (AllReadyH.cons rfl (fun K hK => ?_) AllReadyH.nil)
     go_simp
     go_at_call 12
     refine (KC.out _).mono ?_; rintro e Wc ⟨rfl, y⟩
     go_wp2_with fail
     refine hK.out _ _ (hs.trans y) (fun hs => ?_)
     clear hK K y
     refine wpAnyH_ready (rs := [11]) (by kernel_rfl) (by simp) (AllReadyH.cons rfl (fun K hK => ?_) AllReadyH.nil)
     go_simp
     go_at_call 13
     refine (KD.out _).mono ?_; rintro e Wc ⟨rfl, y⟩
     go_wp2_with fail
     refine hK.out _ _ (hs.trans y) (fun hs => ?_)
     clear hK K y
     refine wpAnyH_takeD (i := 12) (d := 40) (v := .bool true) rfl rfl (by kernel_rfl) (by kernel_rfl) (by kernel_rfl) (fun _ _ _ h => h) (Or.inl ⟨by rfl, fun W hW => by go_simp⟩) hs ?_
     simp only [Act.put, List.setIfInBounds_toArray, List.set_cons_succ, List.set_cons_zero]
     refine wpAnyH_takeD (i := 13) (d := 41) (v := .bool true) rfl rfl (by kernel_rfl) (by kernel_rfl) (by kernel_rfl) (fun _ _ _ h => h) (Or.inl ⟨by rfl, fun W hW => by go_simp⟩) hs ?_
     simp only [Act.put, List.setIfInBounds_toArray, List.set_cons_succ, List.set_cons_zero]
     refine wpAnyH_takeD (i := 14) (d := 42) (v := .bool true) rfl rfl (by kernel_rfl) (by kernel_rfl) (by kernel_rfl) (fun _ _ _ h => h) (Or.inl ⟨by rfl, fun W hW => by go_simp⟩) hs ?_
     simp only [Act.put, List.setIfInBounds_toArray, List.set_cons_succ, List.set_cons_zero]
     refine wpAnyH_takeD (i := 15) (d := 43) (v := .slice pb N q1) rfl rfl (by kernel_rfl) (by kernel_rfl) (by kernel_rfl) (fun _ _ _ h => h) (Or.inl ⟨by rfl, fun W hW => by go_simp⟩) hs ?_
     simp only [Act.put, List.setIfInBounds_toArray, List.set_cons_succ, List.set_cons_zero]
     refine wpAnyH_takeD (i := 16) (d := 44) (v := .slice rb N q2) rfl rfl (by kernel_rfl) (by kernel_rfl) (by kernel_rfl) (fun _ _ _ h => h) (Or.inl ⟨by rfl, fun W hW => by go_simp⟩) hs ?_
     simp only [Act.put, List.setIfInBounds_toArray, List.set_cons_succ, List.set_cons_zero]
     refine wpAnyH_ready (rs := [17]) (by kernel_rfl) (by simp) (AllReadyH.cons rfl (fun K hK => ?_) AllReadyH.nil)
     go_simp
     go_at_call 14
     refine (KE.out _ hs).mono ?_; rintro e Wc ⟨rfl, y⟩
     go_wp2_with fail
     refine hK.out _ _ (hs.trans y) (fun hs => ?_)
     clear hK K y
     refine wpAnyH_takeD (i := 18) (d := 46) (v := .bool true) rfl rfl (by kernel_rfl) (by kernel_rfl) (by kernel_rfl) (fun _ _ _ h => h) (Or.inl ⟨by rfl, fun W hW => by go_simp⟩) hs ?_
     simp only [Act.put, List.setIfInBounds_toArray, List.set_cons_succ, List.set_cons_zero]
     refine wpAnyH_takeD (i := 19) (d := 47) (v := .bool true) rfl rfl (by kernel_rfl) (by kernel_rfl) (by kernel_rfl) (fun _ _ _ h => h) (Or.inl ⟨by rfl, fun W hW => by go_simp⟩) hs ?_
     simp only [Act.put, List.setIfInBounds_toArray, List.set_cons_succ, List.set_cons_zero]
     refine wpAnyH_takeD (i := 20) (d := 48) (v := .int .i64 0) rfl rfl (by kernel_rfl) (by kernel_rfl) (by kernel_rfl) (fun _ _ _ h => h) (Or.inl ⟨by rfl, fun W hW => by go_simp⟩) hs ?_
     simp only [Act.put, List.setIfInBounds_toArray, List.set_cons_succ, List.set_cons_zero]
     refine wpAnyH_takeD (i := 21) (d := 49) (v := .bool true) rfl rfl (by kernel_rfl) (by kernel_rfl) (by kernel_rfl) (fun _ _ _ h => h) (Or.inl ⟨by rfl, fun W hW => by go_simp⟩) hs ?_
     simp only [Act.put, List.setIfInBounds_toArray, List.set_cons_succ, List.set_cons_zero]
     refine wpAnyH_takeD (i := 22) (d := 50) (v := .bool true) rfl rfl (by kernel_rfl) (by kernel_rfl) (by kernel_rfl) (fun _ _ _ h => h) (Or.inl ⟨by rfl, fun W hW => by go_simp⟩) hs ?_
     simp only [Act.put, List.setIfInBounds_toArray, List.set_cons_succ, List.set_cons_zero]
     refine wpAnyH_takeD (i := 23) (d := 51) (v := .bool true) rfl rfl (by kernel_rfl) (by kernel_rfl) (by kernel_rfl) (fun _ _ _ h => h) (Or.inl ⟨by rfl, fun W hW => by go_simp⟩) hs ?_
     simp only [Act.put, List.setIfInBounds_toArray, List.set_cons_succ, List.set_cons_zero]
     refine wpAnyH_takeD (i := 24) (d := 52) (v := .bool true) rfl rfl (by kernel_rfl) (by kernel_rfl) (by kernel_rfl) (fun _ _ _ h => h) (Or.inl ⟨by rfl, fun W hW => by go_simp⟩) hs ?_
     simp only [Act.put, List.setIfInBounds_toArray, List.set_cons_succ, List.set_cons_zero]
     refine wpAnyH_takeD (i := 25) (d := 53) (v := .bool true) rfl rfl (by kernel_rfl) (by kernel_rfl) (by kernel_rfl) (fun _ _ _ h => h) (Or.inl ⟨by rfl, fun W hW => by go_simp⟩) hs ?_
     simp only [Act.put, List.setIfInBounds_toArray, List.set_cons_succ, List.set_cons_zero]
     refine wpAnyH_takeD (i := 26) (d := 54) (v := .bool true) rfl rfl (by kernel_rfl) (by kernel_rfl) (by kernel_rfl) (fun _ _ _ h => h) (Or.inl ⟨by rfl, fun W hW => by go_simp⟩) hs ?_
     simp only [Act.put, List.setIfInBounds_toArray, List.set_cons_succ, List.set_cons_zero]
     refine wpAnyH_takeD (i := 27) (d := 55) (v := .bool true) rfl rfl (by kernel_rfl) (by kernel_rfl) (by kernel_rfl) (fun _ _ _ h => h) (Or.inl ⟨by rfl, fun W hW => by go_simp⟩) hs ?_
     simp only [Act.put, List.setIfInBounds_toArray, List.set_cons_succ, List.set_cons_zero]
     refine wpAnyH_takeD (i := 28) (d := 56) (v := undef) rfl rfl (by kernel_rfl) (by kernel_rfl) (by kernel_rfl) (fun _ _ _ h => h) (Or.inr ⟨by rfl, rfl⟩) hs ?_
     simp only [Act.put, List.setIfInBounds_toArray, List.set_cons_succ, List.set_cons_zero]
     refine wpAnyH_takeD (i := 29) (d := 57) (v := undef) rfl rfl (by kernel_rfl) (by kernel_rfl) (by kernel_rfl) (fun _ _ _ h => h) (Or.inr ⟨by rfl, rfl⟩) hs ?_
     simp only [Act.put, List.setIfInBounds_toArray, List.set_cons_succ, List.set_cons_zero]
     refine wpAnyH_takeD (i := 30) (d := 58) (v := .bool true) rfl rfl (by kernel_rfl) (by kernel_rfl) (by kernel_rfl) (fun _ _ _ h => h) (Or.inl ⟨by rfl, fun W hW => by go_simp⟩) hs ?_
     simp only [Act.put, List.setIfInBounds_toArray, List.set_cons_succ, List.set_cons_zero]
     refine wpAnyH_takeD (i := 31) (d := 59) (v := .bool true) rfl rfl (by kernel_rfl) (by kernel_rfl) (by kernel_rfl) (fun _ _ _ h => h) (Or.inl ⟨by rfl, fun W hW => by go_simp⟩) hs ?_
     simp only [Act.put, List.setIfInBounds_toArray, List.set_cons_succ, List.set_cons_zero]
     refine wpAnyH_takeD (i := 32) (d := 60) (v := .bool true) rfl rfl (by kernel_rfl) (by kernel_rfl) (by kernel_rfl) (fun _ _ _ h => h) (Or.inl ⟨by rfl, fun W hW => by go_simp⟩) hs ?_
     simp only [Act.put, List.setIfInBounds_toArray, List.set_cons_succ, List.set_cons_zero]
     refine wpAnyH_takeD (i := 33) (d := 61) rfl rfl (by kernel_rfl) (by kernel_rfl) (by kernel_rfl) (fun _ _ _ h => h) (yieldsIf_load_row (by rfl) 25 (.tmp 2) rfl (w.heap.size) rfl 25 _ (0, 0) _ (fun w' hw' => (HX.out _ hw').1) Try.underlying25 rfl (by kernel_rfl)) hs ?_
     simp only [Act.put, List.setIfInBounds_toArray, List.set_cons_succ, List.set_cons_zero]
     refine wpAnyH_takeD (i := 34) (d := 62) rfl rfl (by kernel_rfl) (by kernel_rfl) (by kernel_rfl) (fun _ _ _ h => h) (yieldsIf_load_row (by rfl) 25 (.tmp 3) rfl (w.heap.size + 1) rfl 25 _ (0, 0) _ (fun w' hw' => (HX.out _ hw').2) Try.underlying25 rfl (by kernel_rfl)) hs ?_
     simp only [Act.put, List.setIfInBounds_toArray, List.set_cons_succ, List.set_cons_zero]
     refine wpAnyH_takeD (i := 36) (d := 64) rfl rfl (by kernel_rfl) (by kernel_rfl) (by kernel_rfl) (fun _ _ _ h => h) (yieldsIf_load_row (by rfl) 25 (.tmp 2) rfl (w.heap.size) rfl 25 _ (0, 0) _ (fun w' hw' => (HX.out _ hw').1) Try.underlying25 rfl (by kernel_rfl)) hs ?_
     simp only [Act.put, List.setIfInBounds_toArray, List.set_cons_succ, List.set_cons_zero]
     refine wpAnyH_takeD (i := 37) (d := 65) rfl rfl (by kernel_rfl) (by kernel_rfl) (by kernel_rfl) (fun _ _ _ h => h) (yieldsIf_load_row (by rfl) 25 (.tmp 3) rfl (w.heap.size + 1) rfl 25 _ (0, 0) _ (fun w' hw' => (HX.out _ hw').2) Try.underlying25 rfl (by kernel_rfl)) hs ?_
     simp only [Act.put, List.setIfInBounds_toArray, List.set_cons_succ, List.set_cons_zero]
     refine wpAnyH_ready (rs := [35]) (by kernel_rfl) (by simp) (AllReadyH.cons rfl (fun K hK => ?_) AllReadyH.nil)
     go_simp
     go_at_call 15
     refine (KF.out _ hs).mono ?_; rintro e Wc ⟨rfl, y⟩
     go_wp2_with fail
     refine hK.out _ _ (hs.trans y) (fun hs => ?_)
     clear hK K y
     refine wpAnyH_ready (rs := [38]) (by kernel_rfl) (by simp) (AllReadyH.cons rfl (fun K hK => ?_) AllReadyH.nil)
     go_simp
     go_at_call 16
     refine (KG.out _ hs).mono ?_; rintro e Wc ⟨rfl, y⟩
     go_wp2_with fail
     refine hK.out _ _ (hs.trans y) (fun hs => ?_)
     clear hK K y
     refine wpAnyH_takeD (i := 39) (d := 67) (v := .bool true) rfl rfl (by kernel_rfl) (by kernel_rfl) (by kernel_rfl) (fun _ _ _ h => h) (Or.inl ⟨by rfl, fun W hW => by go_simp⟩) hs ?_
     simp only [Act.put, List.setIfInBounds_toArray, List.set_cons_succ, List.set_cons_zero]
     refine wpAnyH_takeD (i := 40) (d := 68) (v := .bool true) rfl rfl (by kernel_rfl) (by kernel_rfl) (by kernel_rfl) (fun _ _ _ h => h) (Or.inl ⟨by rfl, fun W hW => by go_simp⟩) hs ?_
     simp only [Act.put, List.setIfInBounds_toArray, List.set_cons_succ, List.set_cons_zero]
     refine wpAnyH_takeD (i := 41) (d := 69) (v := .bool true) rfl rfl (by kernel_rfl) (by kernel_rfl) (by kernel_rfl) (fun _ _ _ h => h) (Or.inl ⟨by rfl, fun W hW => by go_simp⟩) hs ?_
     simp only [Act.put, List.setIfInBounds_toArray, List.set_cons_succ, List.set_cons_zero]
     refine wpAnyH_ready (rs := [42]) (by kernel_rfl) (by simp) (AllReadyH.cons rfl (fun K hK => ?_) AllReadyH.nil)
     go_simp
     go_at_call 7
     refine (HSU.out _).mono ?_; rintro e Wc ⟨rfl, y⟩
     go_wp2_with fail
     refine hK.out _ _ (hs.trans y) (fun hs => ?_)
     clear hK K y
     refine wpAnyH_takeD (i := 43) (d := 71) (v := .bool true) rfl rfl (by kernel_rfl) (by kernel_rfl) (by kernel_rfl) (fun _ _ _ h => h) (Or.inl ⟨by rfl, fun W hW => by go_simp⟩) hs ?_
     simp only [Act.put, List.setIfInBounds_toArray, List.set_cons_succ, List.set_cons_zero]
     refine wpAnyH_takeD (i := 44) (d := 4) (v := .bool true) rfl rfl (by kernel_rfl) (by kernel_rfl) (by kernel_rfl) (fun _ _ _ h => h) (Or.inl ⟨by rfl, fun W hW => by go_simp⟩) hs ?_
     simp only [Act.put, List.setIfInBounds_toArray, List.set_cons_succ, List.set_cons_zero]
     refine wpAnyH_done (by kernel_rfl) ?_ _
     go_wp2
     go_ret
     exact ⟨rfl, (e0.trans x6).trans hs⟩
    | false =>
     obtain rfl := HEB.out.2 rfl
     clear HEB
     refine wpAnyH_takeD (i := 0) (d := 28) rfl rfl (by kernel_rfl) (by kernel_rfl) (by kernel_rfl) (fun _ _ _ h => h) (yieldsIf_load_row (by rfl) 25 (.tmp 2) rfl (w.heap.size) rfl 25 _ (0, 0) _ (fun w' hw' => (HX.out _ hw').1) Try.underlying25 rfl (by kernel_rfl)) hs ?_
     simp only [Act.put, List.setIfInBounds_toArray, List.set_cons_succ, List.set_cons_zero]
     refine wpAnyH_takeD (i := 2) (d := 30) rfl rfl (by kernel_rfl) (by kernel_rfl) (by kernel_rfl) (fun _ _ _ h => h) (yieldsIf_load_row (by rfl) 25 (.tmp 2) rfl (w.heap.size) rfl 25 _ (0, 0) _ (fun w' hw' => (HX.out _ hw').1) Try.underlying25 rfl (by kernel_rfl)) hs ?_
     simp only [Act.put, List.setIfInBounds_toArray, List.set_cons_succ, List.set_cons_zero]
     refine wpAnyH_ready (rs := [1]) (by kernel_rfl) (by simp) (AllReadyH.cons rfl (fun K hK => ?_) AllReadyH.nil)
     go_simp
     go_at_call 10
     refine (KA.out _ hs).mono ?_; rintro e Wc ⟨rfl, y⟩
     go_wp2_with fail
     refine hK.out _ _ (hs.trans y) (fun hs => ?_)
     clear hK K y
     refine wpAnyH_ready (rs := [3]) (by kernel_rfl) (by simp) (AllReadyH.cons rfl (fun K hK => ?_) AllReadyH.nil)
     go_simp
     go_at_call 11
     refine (KB.out _ hs).mono ?_; rintro e Wc ⟨rfl, y⟩
     go_wp2_with fail
     refine hK.out _ _ (hs.trans y) (fun hs => ?_)
     clear hK K y
     refine wpAnyH_takeD (i := 4) (d := 32) (v := .bool true) rfl rfl (by kernel_rfl) (by kernel_rfl) (by kernel_rfl) (fun _ _ _ h => h) (Or.inl ⟨by rfl, fun W hW => by go_simp⟩) hs ?_
     simp only [Act.put, List.setIfInBounds_toArray, List.set_cons_succ, List.set_cons_zero]
     refine wpAnyH_takeD (i := 5) (d := 33) (v := .bool true) rfl rfl (by kernel_rfl) (by kernel_rfl) (by kernel_rfl) (fun _ _ _ h => h) (Or.inl ⟨by rfl, fun W hW => by go_simp⟩) hs ?_
     simp only [Act.put, List.setIfInBounds_toArray, List.set_cons_succ, List.set_cons_zero]
     refine wpAnyH_takeD (i := 6) (d := 34) (v := .pointer (some ⟨w.heap.size, 0, none⟩)) rfl rfl (by kernel_rfl) (by kernel_rfl) (by kernel_rfl) (fun _ _ _ h => h) (Or.inl ⟨by rfl, fun W hW => by go_simp⟩) hs ?_
     simp only [Act.put, List.setIfInBounds_toArray, List.set_cons_succ, List.set_cons_zero]
     refine wpAnyH_takeD (i := 7) (d := 35) (v := .int .i64 Q.k) rfl rfl (by kernel_rfl) (by kernel_rfl) (by kernel_rfl) (fun _ _ _ h => h) (Or.inl ⟨by rfl, fun W hW => by have c0 := HC.out W hW; go_simp⟩) hs ?_
     simp only [Act.put, List.setIfInBounds_toArray, List.set_cons_succ, List.set_cons_zero]
     refine wpAnyH_takeD (i := 9) (d := 37) (v := .pointer (some ⟨w.heap.size, 0, none⟩)) rfl rfl (by kernel_rfl) (by kernel_rfl) (by kernel_rfl) (fun _ _ _ h => h) (Or.inl ⟨by rfl, fun W hW => by go_simp⟩) hs ?_
     simp only [Act.put, List.setIfInBounds_toArray, List.set_cons_succ, List.set_cons_zero]
     refine wpAnyH_takeD (i := 10) (d := 38) (v := .int .i64 Q.k) rfl rfl (by kernel_rfl) (by kernel_rfl) (by kernel_rfl) (fun _ _ _ h => h) (Or.inl ⟨by rfl, fun W hW => by have c0 := HC.out W hW; go_simp⟩) hs ?_
     simp only [Act.put, List.setIfInBounds_toArray, List.set_cons_succ, List.set_cons_zero]
     refine wpAnyH_ready (rs := [8]) (by kernel_rfl) (by simp) (AllReadyH.cons rfl (fun K hK => ?_) AllReadyH.nil)
     go_simp
     go_at_call 12
     refine (KC.out _).mono ?_; rintro e Wc ⟨rfl, y⟩
     go_wp2_with fail
     refine hK.out _ _ (hs.trans y) (fun hs => ?_)
     clear hK K y
     refine wpAnyH_ready (rs := [11]) (by kernel_rfl) (by simp) (AllReadyH.cons rfl (fun K hK => ?_) AllReadyH.nil)
     go_simp
     go_at_call 13
     refine (KD.out _).mono ?_; rintro e Wc ⟨rfl, y⟩
     go_wp2_with fail
     refine hK.out _ _ (hs.trans y) (fun hs => ?_)
     clear hK K y
     refine wpAnyH_takeD (i := 12) (d := 40) (v := .bool true) rfl rfl (by kernel_rfl) (by kernel_rfl) (by kernel_rfl) (fun _ _ _ h => h) (Or.inl ⟨by rfl, fun W hW => by go_simp⟩) hs ?_
     simp only [Act.put, List.setIfInBounds_toArray, List.set_cons_succ, List.set_cons_zero]
     refine wpAnyH_takeD (i := 13) (d := 41) (v := .bool true) rfl rfl (by kernel_rfl) (by kernel_rfl) (by kernel_rfl) (fun _ _ _ h => h) (Or.inl ⟨by rfl, fun W hW => by go_simp⟩) hs ?_
     simp only [Act.put, List.setIfInBounds_toArray, List.set_cons_succ, List.set_cons_zero]
     refine wpAnyH_takeD (i := 14) (d := 42) (v := .bool true) rfl rfl (by kernel_rfl) (by kernel_rfl) (by kernel_rfl) (fun _ _ _ h => h) (Or.inl ⟨by rfl, fun W hW => by go_simp⟩) hs ?_
     simp only [Act.put, List.setIfInBounds_toArray, List.set_cons_succ, List.set_cons_zero]
     refine wpAnyH_takeD (i := 15) (d := 43) (v := .slice pb N q1) rfl rfl (by kernel_rfl) (by kernel_rfl) (by kernel_rfl) (fun _ _ _ h => h) (Or.inl ⟨by rfl, fun W hW => by go_simp⟩) hs ?_
     simp only [Act.put, List.setIfInBounds_toArray, List.set_cons_succ, List.set_cons_zero]
     refine wpAnyH_takeD (i := 16) (d := 44) (v := .slice rb N q2) rfl rfl (by kernel_rfl) (by kernel_rfl) (by kernel_rfl) (fun _ _ _ h => h) (Or.inl ⟨by rfl, fun W hW => by go_simp⟩) hs ?_
     simp only [Act.put, List.setIfInBounds_toArray, List.set_cons_succ, List.set_cons_zero]
     refine wpAnyH_ready (rs := [17]) (by kernel_rfl) (by simp) (AllReadyH.cons rfl (fun K hK => ?_) AllReadyH.nil)
     go_simp
     go_at_call 14
     refine (KE.out _ hs).mono ?_; rintro e Wc ⟨rfl, y⟩
     go_wp2_with fail
     refine hK.out _ _ (hs.trans y) (fun hs => ?_)
     clear hK K y
     refine wpAnyH_takeD (i := 18) (d := 46) (v := .bool true) rfl rfl (by kernel_rfl) (by kernel_rfl) (by kernel_rfl) (fun _ _ _ h => h) (Or.inl ⟨by rfl, fun W hW => by go_simp⟩) hs ?_
     simp only [Act.put, List.setIfInBounds_toArray, List.set_cons_succ, List.set_cons_zero]
     refine wpAnyH_takeD (i := 19) (d := 47) (v := .bool true) rfl rfl (by kernel_rfl) (by kernel_rfl) (by kernel_rfl) (fun _ _ _ h => h) (Or.inl ⟨by rfl, fun W hW => by go_simp⟩) hs ?_
     simp only [Act.put, List.setIfInBounds_toArray, List.set_cons_succ, List.set_cons_zero]
     refine wpAnyH_takeD (i := 20) (d := 48) (v := .int .i64 11) rfl rfl (by kernel_rfl) (by kernel_rfl) (by kernel_rfl) (fun _ _ _ h => h) (Or.inl ⟨by rfl, fun W hW => by go_simp⟩) hs ?_
     simp only [Act.put, List.setIfInBounds_toArray, List.set_cons_succ, List.set_cons_zero]
     refine wpAnyH_takeD (i := 21) (d := 49) (v := .bool false) rfl rfl (by kernel_rfl) (by kernel_rfl) (by kernel_rfl) (fun _ _ _ h => h) (Or.inl ⟨by rfl, fun W hW => by go_simp⟩) hs ?_
     simp only [Act.put, List.setIfInBounds_toArray, List.set_cons_succ, List.set_cons_zero]
     refine wpAnyH_takeD (i := 22) (d := 50) (v := .bool false) rfl rfl (by kernel_rfl) (by kernel_rfl) (by kernel_rfl) (fun _ _ _ h => h) (Or.inl ⟨by rfl, fun W hW => by go_simp⟩) hs ?_
     simp only [Act.put, List.setIfInBounds_toArray, List.set_cons_succ, List.set_cons_zero]
     refine wpAnyH_takeD (i := 23) (d := 51) (v := .bool true) rfl rfl (by kernel_rfl) (by kernel_rfl) (by kernel_rfl) (fun _ _ _ h => h) (Or.inl ⟨by rfl, fun W hW => by go_simp⟩) hs ?_
     simp only [Act.put, List.setIfInBounds_toArray, List.set_cons_succ, List.set_cons_zero]
     refine wpAnyH_takeD (i := 24) (d := 52) (v := .bool true) rfl rfl (by kernel_rfl) (by kernel_rfl) (by kernel_rfl) (fun _ _ _ h => h) (Or.inl ⟨by rfl, fun W hW => by go_simp⟩) hs ?_
     simp only [Act.put, List.setIfInBounds_toArray, List.set_cons_succ, List.set_cons_zero]
     refine wpAnyH_takeD (i := 25) (d := 53) (v := .bool true) rfl rfl (by kernel_rfl) (by kernel_rfl) (by kernel_rfl) (fun _ _ _ h => h) (Or.inl ⟨by rfl, fun W hW => by go_simp⟩) hs ?_
     simp only [Act.put, List.setIfInBounds_toArray, List.set_cons_succ, List.set_cons_zero]
     refine wpAnyH_takeD (i := 26) (d := 54) (v := .bool false) rfl rfl (by kernel_rfl) (by kernel_rfl) (by kernel_rfl) (fun _ _ _ h => h) (Or.inl ⟨by rfl, fun W hW => by go_simp⟩) hs ?_
     simp only [Act.put, List.setIfInBounds_toArray, List.set_cons_succ, List.set_cons_zero]
     refine wpAnyH_takeD (i := 27) (d := 55) (v := .bool false) rfl rfl (by kernel_rfl) (by kernel_rfl) (by kernel_rfl) (fun _ _ _ h => h) (Or.inl ⟨by rfl, fun W hW => by go_simp⟩) hs ?_
     simp only [Act.put, List.setIfInBounds_toArray, List.set_cons_succ, List.set_cons_zero]
     refine wpAnyH_takeD (i := 28) (d := 56) (v := .int .i64 11) rfl rfl (by kernel_rfl) (by kernel_rfl) (by kernel_rfl) (fun _ _ _ h => h) (Or.inl ⟨by rfl, fun W hW => by go_simp⟩) hs ?_
     simp only [Act.put, List.setIfInBounds_toArray, List.set_cons_succ, List.set_cons_zero]
     refine wpAnyH_takeD (i := 29) (d := 57) (v := .bool true) rfl rfl (by kernel_rfl) (by kernel_rfl) (by kernel_rfl) (fun _ _ _ h => h) (Or.inl ⟨by rfl, fun W hW => by go_simp⟩) hs ?_
     simp only [Act.put, List.setIfInBounds_toArray, List.set_cons_succ, List.set_cons_zero]
     refine wpAnyH_takeD (i := 30) (d := 58) (v := .bool true) rfl rfl (by kernel_rfl) (by kernel_rfl) (by kernel_rfl) (fun _ _ _ h => h) (Or.inl ⟨by rfl, fun W hW => by go_simp⟩) hs ?_
     simp only [Act.put, List.setIfInBounds_toArray, List.set_cons_succ, List.set_cons_zero]
     refine wpAnyH_takeD (i := 31) (d := 59) (v := .bool true) rfl rfl (by kernel_rfl) (by kernel_rfl) (by kernel_rfl) (fun _ _ _ h => h) (Or.inl ⟨by rfl, fun W hW => by go_simp⟩) hs ?_
     simp only [Act.put, List.setIfInBounds_toArray, List.set_cons_succ, List.set_cons_zero]
     refine wpAnyH_takeD (i := 32) (d := 60) (v := .bool true) rfl rfl (by kernel_rfl) (by kernel_rfl) (by kernel_rfl) (fun _ _ _ h => h) (Or.inl ⟨by rfl, fun W hW => by go_simp⟩) hs ?_
     simp only [Act.put, List.setIfInBounds_toArray, List.set_cons_succ, List.set_cons_zero]
     refine wpAnyH_takeD (i := 33) (d := 61) rfl rfl (by kernel_rfl) (by kernel_rfl) (by kernel_rfl) (fun _ _ _ h => h) (yieldsIf_load_row (by rfl) 25 (.tmp 2) rfl (w.heap.size) rfl 25 _ (0, 0) _ (fun w' hw' => (HX.out _ hw').1) Try.underlying25 rfl (by kernel_rfl)) hs ?_
     simp only [Act.put, List.setIfInBounds_toArray, List.set_cons_succ, List.set_cons_zero]
     refine wpAnyH_takeD (i := 34) (d := 62) rfl rfl (by kernel_rfl) (by kernel_rfl) (by kernel_rfl) (fun _ _ _ h => h) (yieldsIf_load_row (by rfl) 25 (.tmp 3) rfl (w.heap.size + 1) rfl 25 _ (0, 0) _ (fun w' hw' => (HX.out _ hw').2) Try.underlying25 rfl (by kernel_rfl)) hs ?_
     simp only [Act.put, List.setIfInBounds_toArray, List.set_cons_succ, List.set_cons_zero]
     refine wpAnyH_takeD (i := 36) (d := 64) rfl rfl (by kernel_rfl) (by kernel_rfl) (by kernel_rfl) (fun _ _ _ h => h) (yieldsIf_load_row (by rfl) 25 (.tmp 2) rfl (w.heap.size) rfl 25 _ (0, 0) _ (fun w' hw' => (HX.out _ hw').1) Try.underlying25 rfl (by kernel_rfl)) hs ?_
     simp only [Act.put, List.setIfInBounds_toArray, List.set_cons_succ, List.set_cons_zero]
     refine wpAnyH_takeD (i := 37) (d := 65) rfl rfl (by kernel_rfl) (by kernel_rfl) (by kernel_rfl) (fun _ _ _ h => h) (yieldsIf_load_row (by rfl) 25 (.tmp 3) rfl (w.heap.size + 1) rfl 25 _ (0, 0) _ (fun w' hw' => (HX.out _ hw').2) Try.underlying25 rfl (by kernel_rfl)) hs ?_
     simp only [Act.put, List.setIfInBounds_toArray, List.set_cons_succ, List.set_cons_zero]
     refine wpAnyH_ready (rs := [35]) (by kernel_rfl) (by simp) (AllReadyH.cons rfl (fun K hK => ?_) AllReadyH.nil)
     go_simp
     go_at_call 15
     refine (KF.out _ hs).mono ?_; rintro e Wc ⟨rfl, y⟩
     go_wp2_with fail
     refine hK.out _ _ (hs.trans y) (fun hs => ?_)
     clear hK K y
     refine wpAnyH_ready (rs := [38]) (by kernel_rfl) (by simp) (AllReadyH.cons rfl (fun K hK => ?_) AllReadyH.nil)
     go_simp
     go_at_call 16
     refine (KG.out _ hs).mono ?_; rintro e Wc ⟨rfl, y⟩
     go_wp2_with fail
     refine hK.out _ _ (hs.trans y) (fun hs => ?_)
     clear hK K y
     refine wpAnyH_takeD (i := 39) (d := 67) (v := .bool true) rfl rfl (by kernel_rfl) (by kernel_rfl) (by kernel_rfl) (fun _ _ _ h => h) (Or.inl ⟨by rfl, fun W hW => by go_simp⟩) hs ?_
     simp only [Act.put, List.setIfInBounds_toArray, List.set_cons_succ, List.set_cons_zero]
     refine wpAnyH_takeD (i := 40) (d := 68) (v := .bool true) rfl rfl (by kernel_rfl) (by kernel_rfl) (by kernel_rfl) (fun _ _ _ h => h) (Or.inl ⟨by rfl, fun W hW => by go_simp⟩) hs ?_
     simp only [Act.put, List.setIfInBounds_toArray, List.set_cons_succ, List.set_cons_zero]
     refine wpAnyH_takeD (i := 41) (d := 69) (v := .bool true) rfl rfl (by kernel_rfl) (by kernel_rfl) (by kernel_rfl) (fun _ _ _ h => h) (Or.inl ⟨by rfl, fun W hW => by go_simp⟩) hs ?_
     simp only [Act.put, List.setIfInBounds_toArray, List.set_cons_succ, List.set_cons_zero]
     refine wpAnyH_ready (rs := [42]) (by kernel_rfl) (by simp) (AllReadyH.cons rfl (fun K hK => ?_) AllReadyH.nil)
     go_simp
     go_at_call 7
     refine (HSU.out _).mono ?_; rintro e Wc ⟨rfl, y⟩
     go_wp2_with fail
     refine hK.out _ _ (hs.trans y) (fun hs => ?_)
     clear hK K y
     refine wpAnyH_takeD (i := 43) (d := 71) (v := .bool true) rfl rfl (by kernel_rfl) (by kernel_rfl) (by kernel_rfl) (fun _ _ _ h => h) (Or.inl ⟨by rfl, fun W hW => by go_simp⟩) hs ?_
     simp only [Act.put, List.setIfInBounds_toArray, List.set_cons_succ, List.set_cons_zero]
     refine wpAnyH_takeD (i := 44) (d := 4) (v := .bool true) rfl rfl (by kernel_rfl) (by kernel_rfl) (by kernel_rfl) (fun _ _ _ h => h) (Or.inl ⟨by rfl, fun W hW => by go_simp⟩) hs ?_
     simp only [Act.put, List.setIfInBounds_toArray, List.set_cons_succ, List.set_cons_zero]
     refine wpAnyH_done (by kernel_rfl) ?_ _
     go_wp2
     go_ret
     exact ⟨rfl, (e0.trans x6).trans hs⟩
end Go.Proofs.Ytokfgdjkafiicaa
