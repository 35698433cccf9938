/-
  CONTRACTS: bilgeref16 (layer 16): Same, whole, Few.
-/
import Derived.Test.YtejiafihiielgaaTel
import Derived.Test.YtejiafihiielgaaAskR
import Derived.Test.YtejiafihiielgaaStepStore
import Derived.Deep.DeepCutAuto
import Derived.Test.YtejiafihiielgaaAsk
import Derived.Test.YtejiafihiielgaaStructs
import Derived.Test.YtejiafihiielgaaRef01
import Derived.Laws.CopyOwn
import Derived.Laws.Rows
import Derived.Test.YtejiafihiielgaaStepStore
namespace Go.Proofs.Ytejiafihiielgaa
open Go.RowKit
set_option linter.unusedVariables false
set_option maxRecDepth 100000

set_option maxHeartbeats 4000000 in
theorem rsame16_any (V : QstV) (F : Tel) (U : QstV) (G : Tel) (w : World) (h : TelAt w V F) (k : TelAt w U G) (f1 : F.nb ≤ 1000000) (f2 : F.nr ≤ 1000000) (g1 : G.nb ≤ 1000000) (g2 : G.nr ≤ 1000000) :
    Calls Try.prog 16 #[.agg (telC V F), .agg (telC U G)] w fun e w' => e = .returned (.bool (sameT F G)) ∧ Ext w w' := by
  have e0 := (Ext.alloc w (.cells (telC V F) 28)).trans (Ext.alloc _ (.cells (telC U G) 28))
  have K1 := Lib.hid (fun w' (hx : Ext w w') => (same_any V.a1 U.a1 F.nb G.nb V.d1 U.d1 F.B G.B w' (h.h1.ext hx) (k.h1.ext hx) f1 g1).mono fun _ _ h => (⟨h.1, Ext.of_drewN h.2⟩ : _ ∧ Ext w' _))
  have K2 := Lib.hid (fun w' (hx : Ext w w') => (words_any V.a2 U.a2 F.nr G.nr V.d2 U.d2 F.R G.R w' (h.h2.ext hx) (k.h2.ext hx) f2 g2).mono fun _ _ h => (⟨h.1, Ext.of_drewN h.2⟩ : _ ∧ Ext w' _))
  have HX := Lib.hid (fun w1 (x1 : Ext ((w.alloc (.cells (telC V F) 28)).alloc (.cells (telC U G) 28)) w1) => (⟨x1.block ((heap_alloc_old _ _ (by simp)).trans (heap_alloc_new w _)), x1.block (heap_new_at _ _ (by simp))⟩ : w1.heap[w.heap.size]? = some (.cells (telC V F) 28 (0, 0)) ∧ w1.heap[w.heap.size + 1]? = some (.cells (telC U G) 28 (0, 0))))
  have HN := Lib.hid (numsT_iff F G)
  unfold sameT
  generalize eqG F.nb G.nb F.B G.B = B1 at K1 ⊢
  generalize eqB F.nr G.nr F.R G.R = B2 at K2 ⊢
  generalize numsT F G = D at HN ⊢
  clear h k f1 f2 g1 g2
  obtain ⟨fk, fcd, fad, fct, fva, fan, foo, fnb, fB, fnr, fR⟩ := F
  obtain ⟨gk, gcd, gad, gct, gva, gan, goo, gnb, gB, gnr, gR⟩ := G
  obtain ⟨a1, d1, a2, d2⟩ := V
  obtain ⟨b1, c1, b2, c2⟩ := U
  unfold telC at e0 HX ⊢
  simp only at e0 HX HN K1 K2 ⊢
  cases hD : D with
  | false =>
    rw [hD] at HN
    clear K1 K2 HX
    have hno : ¬ (fk = gk ∧ fcd = gcd ∧ fad = gad ∧ fct = gct ∧ fva = gva ∧ fan = gan ∧ foo = goo) := fun h => by have := HN.out.2 h; cases this
    have HNo := Lib.hid hno
    clear hno HN hD
    rw [Bool.false_and, Bool.false_and]
    go_enter Try.func16, Try.ntmps16
    by_cases h0 : fk = gk
    · subst h0
      by_cases h1 : fcd = gcd
      · subst h1
        by_cases h2 : fad = gad
        · subst h2
          by_cases h3 : fct = gct
          · subst h3
            by_cases h4 : fva = gva
            · subst h4
              by_cases h5 : fan = gan
              · subst h5
                by_cases h6 : foo = goo
                · subst h6
                  exact absurd ⟨rfl, rfl, rfl, rfl, rfl, rfl, rfl⟩ HNo.out
                · have hb6 : (foo == goo) = false := by simp [h6]
                  clear HNo
                  go_wp2
                  go_ret
                  exact ⟨rfl, e0⟩
              · have hb5 : (fan == gan) = false := by simp [h5]
                clear HNo
                go_wp2
                go_ret
                exact ⟨rfl, e0⟩
            · have hb4 : (fva == gva) = false := by simp [h4]
              clear HNo
              go_wp2
              go_ret
              exact ⟨rfl, e0⟩
          · have hb3 : (fct == gct) = false := by simp [h3]
            clear HNo
            go_wp2
            go_ret
            exact ⟨rfl, e0⟩
        · have hb2 : (fad == gad) = false := by simp [h2]
          clear HNo
          go_wp2
          go_ret
          exact ⟨rfl, e0⟩
      · have hb1 : (fcd == gcd) = false := by simp [h1]
        clear HNo
        go_wp2
        go_ret
        exact ⟨rfl, e0⟩
    · have hb0 : (fk == gk) = false := by simp [h0]
      clear HNo
      go_wp2
      go_ret
      exact ⟨rfl, e0⟩
  | true =>
    rw [hD] at HN
    obtain ⟨rfl, rfl, rfl, rfl, rfl, rfl, rfl⟩ := HN.out.1 rfl
    clear HN hD
    rw [Bool.true_and]
    cases B1 with
    | false =>
      rw [Bool.false_and]
      go_enter Try.func16, Try.ntmps16
      go_wp2_with fail
      refine (K1.out _ e0).mono ?_; rintro e w1 ⟨rfl, x1⟩
      have e1 := e0.trans x1
      clear e0 x1
      go_wp2
      go_ret
      exact ⟨rfl, e1⟩
    | true =>
      rw [Bool.true_and]
      go_enter Try.func16, Try.ntmps16
      go_wp2_with fail
      refine (K1.out _ e0).mono ?_; rintro e w1 ⟨rfl, x1⟩
      have e1 := e0.trans x1
      obtain ⟨gF, gG⟩ := HX.out _ x1
      have p1 := cell_of_heap (j := 8) gF rfl; have q1 := cell_of_heap (j := 8) gG rfl
      clear e0 x1 gF gG
      go_wp2_with fail
      refine (K2.out _ e1).mono ?_; rintro e w2 ⟨rfl, x2⟩
      have e2 := e1.trans x2
      clear e1 x2 p1 q1
      go_wp2
      go_ret
      exact ⟨rfl, e2⟩

set_option maxHeartbeats 8000000 in
theorem rwhole16_any (V : QstV) (Q : Qst) (X : QstV) (nb : Nat) (B : Nat → Bool) (nr : Nat) (R : Nat → Int) (w : World) : Calls Try.prog 31 #[.agg (qstC V Q), .slice X.a1 nb X.d1, .slice X.a2 nr X.d2] w fun e w' => e = .returned (.agg (telC (wholeV Q X) (wholeT Q nb B nr R))) ∧ Ext w w' := by
  unfold wholeV wholeT
  obtain ⟨k, ad, ct, va, an, oo, fr, mn, qb, qB, qr, qR⟩ := Q
  obtain ⟨a1, d1, a2, d2⟩ := V
  obtain ⟨x1, e1, x2, e2⟩ := X
  simp only
  by_cases h1 : k = 1
  · subst h1
    simp (config := { decide := true }) only [if_true, if_false]
    unfold qstC telC
    dsimp only [zeroT, zeroQV]
    go_enter Try.func31, Try.ntmps31
    go_wp2
    refine bodyPost_ret (results_cell_row rfl _ _ (w.heap.size + 1) 28 _ (0, 0) _ rfl ((heap_alloc_old _ _ (by simp)).trans (heap_new_at _ _ (by simp))) Try.underlying28 rfl (by kernel_rfl)) rfl ⟨by rfl, ((Ext.alloc w _).trans (Ext.alloc _ _)).trans (Ext.alloc _ _)⟩
  by_cases h2 : k = 2
  · subst h2
    simp (config := { decide := true }) only [if_true, if_false]
    unfold qstC telC
    dsimp only [zeroT, zeroQV]
    go_enter Try.func31, Try.ntmps31
    go_wp2
    refine bodyPost_ret (results_cell_row rfl _ _ (w.heap.size + 1) 28 _ (0, 0) _ rfl ((heap_alloc_old _ _ (by simp)).trans (heap_new_at _ _ (by simp))) Try.underlying28 rfl (by kernel_rfl)) rfl ⟨by rfl, ((Ext.alloc w _).trans (Ext.alloc _ _)).trans (Ext.alloc _ _)⟩
  by_cases h3 : k = 3
  · subst h3
    simp (config := { decide := true }) only [if_true, if_false]
    unfold qstC telC
    dsimp only [zeroT, zeroQV]
    go_enter Try.func31, Try.ntmps31
    go_wp2
    refine bodyPost_ret (results_cell_row rfl _ _ (w.heap.size + 1) 28 _ (0, 0) _ rfl ((heap_alloc_old _ _ (by simp)).trans (heap_new_at _ _ (by simp))) Try.underlying28 rfl (by kernel_rfl)) rfl ⟨by rfl, ((Ext.alloc w _).trans (Ext.alloc _ _)).trans (Ext.alloc _ _)⟩
  by_cases h4 : k = 4
  · subst h4
    simp (config := { decide := true }) only [if_true, if_false]
    unfold qstC telC
    dsimp only [zeroT, zeroQV]
    go_enter Try.func31, Try.ntmps31
    go_wp2
    refine bodyPost_ret (results_cell_row rfl _ _ (w.heap.size + 1) 28 _ (0, 0) _ rfl ((heap_alloc_old _ _ (by simp)).trans (heap_new_at _ _ (by simp))) Try.underlying28 rfl (by kernel_rfl)) rfl ⟨by rfl, ((Ext.alloc w _).trans (Ext.alloc _ _)).trans (Ext.alloc _ _)⟩
  by_cases h5 : k = 5
  · subst h5
    simp (config := { decide := true }) only [if_true, if_false]
    unfold qstC telC
    dsimp only [zeroT, zeroQV]
    go_enter Try.func31, Try.ntmps31
    go_wp2
    refine bodyPost_ret (results_cell_row rfl _ _ (w.heap.size + 1) 28 _ (0, 0) _ rfl ((heap_alloc_old _ _ (by simp)).trans (heap_new_at _ _ (by simp))) Try.underlying28 rfl (by kernel_rfl)) rfl ⟨by rfl, ((Ext.alloc w _).trans (Ext.alloc _ _)).trans (Ext.alloc _ _)⟩
  by_cases h6 : k = 6
  · subst h6
    simp (config := { decide := true }) only [if_true, if_false]
    unfold qstC telC
    dsimp only [zeroT, zeroQV]
    go_enter Try.func31, Try.ntmps31
    go_wp2
    refine bodyPost_ret (results_cell_row rfl _ _ (w.heap.size + 1) 28 _ (0, 0) _ rfl ((heap_alloc_old _ _ (by simp)).trans (heap_new_at _ _ (by simp))) Try.underlying28 rfl (by kernel_rfl)) rfl ⟨by rfl, ((Ext.alloc w _).trans (Ext.alloc _ _)).trans (Ext.alloc _ _)⟩
  by_cases h15 : k = 15
  · subst h15
    simp (config := { decide := true }) only [if_true, if_false]
    unfold qstC telC
    dsimp only [zeroT, zeroQV]
    go_enter Try.func31, Try.ntmps31
    go_wp2
    refine bodyPost_ret (results_cell_row rfl _ _ (w.heap.size + 1) 28 _ (0, 0) _ rfl ((heap_alloc_old _ _ (by simp)).trans (heap_new_at _ _ (by simp))) Try.underlying28 rfl (by kernel_rfl)) rfl ⟨by rfl, ((Ext.alloc w _).trans (Ext.alloc _ _)).trans (Ext.alloc _ _)⟩
  by_cases h16 : k = 16
  · subst h16
    simp (config := { decide := true }) only [if_true, if_false]
    unfold qstC telC
    dsimp only [zeroT, zeroQV]
    go_enter Try.func31, Try.ntmps31
    go_wp2
    refine bodyPost_ret (results_cell_row rfl _ _ (w.heap.size + 1) 28 _ (0, 0) _ rfl ((heap_alloc_old _ _ (by simp)).trans (heap_new_at _ _ (by simp))) Try.underlying28 rfl (by kernel_rfl)) rfl ⟨by rfl, ((Ext.alloc w _).trans (Ext.alloc _ _)).trans (Ext.alloc _ _)⟩
  by_cases h22 : k = 22
  · subst h22
    simp (config := { decide := true }) only [if_true, if_false]
    unfold qstC telC
    dsimp only [zeroT, zeroQV]
    go_enter Try.func31, Try.ntmps31
    go_wp2
    refine bodyPost_ret (results_cell_row rfl _ _ (w.heap.size + 1) 28 _ (0, 0) _ rfl ((heap_alloc_old _ _ (by simp)).trans (heap_new_at _ _ (by simp))) Try.underlying28 rfl (by kernel_rfl)) rfl ⟨by rfl, ((Ext.alloc w _).trans (Ext.alloc _ _)).trans (Ext.alloc _ _)⟩
  by_cases h23 : k = 23
  · subst h23
    simp (config := { decide := true }) only [if_true, if_false]
    unfold qstC telC
    dsimp only [zeroT, zeroQV]
    go_enter Try.func31, Try.ntmps31
    go_wp2
    refine bodyPost_ret (results_cell_row rfl _ _ (w.heap.size + 1) 28 _ (0, 0) _ rfl ((heap_alloc_old _ _ (by simp)).trans (heap_new_at _ _ (by simp))) Try.underlying28 rfl (by kernel_rfl)) rfl ⟨by rfl, ((Ext.alloc w _).trans (Ext.alloc _ _)).trans (Ext.alloc _ _)⟩
  rw [if_neg (by omega), if_neg (by omega), if_neg (by omega), if_neg (by omega), if_neg (by omega), if_neg (by omega), if_neg (by omega)]
  unfold qstC telC
  dsimp only [zeroT, zeroQV]
  go_enter Try.func31, Try.ntmps31
  go_wp2
  refine bodyPost_ret (results_cell_row rfl _ _ (w.heap.size + 1) 28 _ (0, 0) _ rfl ((heap_alloc_old _ _ (by simp)).trans (heap_new_at _ _ (by simp))) Try.underlying28 rfl (by kernel_rfl)) rfl ⟨by rfl, ((Ext.alloc w _).trans (Ext.alloc _ _)).trans (Ext.alloc _ _)⟩

def fewQA (T : Qst) : Bool := decide (T.nb ≤ 2100 ∧ T.nr ≤ 300)
theorem fewQA_iff (T : Qst) : fewQA T = true ↔ T.nb ≤ 2100 ∧ T.nr ≤ 300 := by unfold fewQA; rw [decide_eq_true_iff]
set_option maxHeartbeats 2000000 in
theorem rfew16A_v {V : QstV} {T : Qst} {B : Bool} (h : fewQA T = B) (n1 : T.nb ≤ 1000000000000000) (n2 : T.nr ≤ 1000000000000000) (w : World) : Calls Try.prog 17 #[.agg (qstC V T)] w fun e w' => e = .returned (.bool B) ∧ Ext w w' := by
  have H := Lib.hid (fewQA_iff T)
  rw [h] at H
  have e0 := Ext.alloc w (.cells (qstC V T) 25)
  have c8 : (w.alloc (.cells (qstC V T) 25)).cell? ⟨w.heap.size, 8, none⟩ = some (.slice V.a1 T.nb V.d1) := cell_of_heap (heap_alloc_new w _) rfl
  have c9 : (w.alloc (.cells (qstC V T) 25)).cell? ⟨w.heap.size, 9, none⟩ = some (.slice V.a2 T.nr V.d2) := cell_of_heap (heap_alloc_new w _) rfl
  clear h
  by_cases h1 : T.nb ≤ 2100
  · have hd1 : decide ((T.nb : Int) ≤ 2100) = true := decide_eq_true (by omega)
    by_cases h2 : T.nr ≤ 300
    · have hd2 : decide ((T.nr : Int) ≤ 300) = true := decide_eq_true (by omega)
      obtain rfl : B = true := H.out.2 ⟨h1, h2⟩
      clear H h1 h2
      go_enter Try.func17, Try.ntmps17
      go_wp2
      go_ret
      exact ⟨rfl, e0⟩
    · have hd2 : decide ((T.nr : Int) ≤ 300) = false := decide_eq_false (by omega)
      have hB : B = false := by
        cases B
        · rfl
        · exact absurd (H.out.1 rfl).2 h2
      subst hB
      clear H h1 h2
      go_enter Try.func17, Try.ntmps17
      go_wp2
      go_ret
      exact ⟨rfl, e0⟩
  · have hd1 : decide ((T.nb : Int) ≤ 2100) = false := decide_eq_false (by omega)
    have hB : B = false := by
      cases B
      · rfl
      · exact absurd (H.out.1 rfl).1 h1
    subst hB
    clear H h1
    go_enter Try.func17, Try.ntmps17
    go_wp2
    go_ret
    exact ⟨rfl, e0⟩
def fewQT (T : Tel) : Bool := decide (T.nb ≤ 2100 ∧ T.nr ≤ 300)
theorem fewQT_iff (T : Tel) : fewQT T = true ↔ T.nb ≤ 2100 ∧ T.nr ≤ 300 := by unfold fewQT; rw [decide_eq_true_iff]
set_option maxHeartbeats 2000000 in
theorem rfew16T_v {V : QstV} {T : Tel} {B : Bool} (h : fewQT T = B) (n1 : T.nb ≤ 1000000000000000) (n2 : T.nr ≤ 1000000000000000) (w : World) : Calls Try.prog 21 #[.agg (telC V T)] w fun e w' => e = .returned (.bool B) ∧ Ext w w' := by
  have H := Lib.hid (fewQT_iff T)
  rw [h] at H
  have e0 := Ext.alloc w (.cells (telC V T) 28)
  have c8 : (w.alloc (.cells (telC V T) 28)).cell? ⟨w.heap.size, 7, none⟩ = some (.slice V.a1 T.nb V.d1) := cell_of_heap (heap_alloc_new w _) rfl
  have c9 : (w.alloc (.cells (telC V T) 28)).cell? ⟨w.heap.size, 8, none⟩ = some (.slice V.a2 T.nr V.d2) := cell_of_heap (heap_alloc_new w _) rfl
  clear h
  by_cases h1 : T.nb ≤ 2100
  · have hd1 : decide ((T.nb : Int) ≤ 2100) = true := decide_eq_true (by omega)
    by_cases h2 : T.nr ≤ 300
    · have hd2 : decide ((T.nr : Int) ≤ 300) = true := decide_eq_true (by omega)
      obtain rfl : B = true := H.out.2 ⟨h1, h2⟩
      clear H h1 h2
      go_enter Try.func21, Try.ntmps21
      go_wp2
      go_ret
      exact ⟨rfl, e0⟩
    · have hd2 : decide ((T.nr : Int) ≤ 300) = false := decide_eq_false (by omega)
      have hB : B = false := by
        cases B
        · rfl
        · exact absurd (H.out.1 rfl).2 h2
      subst hB
      clear H h1 h2
      go_enter Try.func21, Try.ntmps21
      go_wp2
      go_ret
      exact ⟨rfl, e0⟩
  · have hd1 : decide ((T.nb : Int) ≤ 2100) = false := decide_eq_false (by omega)
    have hB : B = false := by
      cases B
      · rfl
      · exact absurd (H.out.1 rfl).1 h1
    subst hB
    clear H h1
    go_enter Try.func21, Try.ntmps21
    go_wp2
    go_ret
    exact ⟨rfl, e0⟩

set_option maxHeartbeats 2000000 in
theorem few16_v {V : QstV} {Q : Qst} {U : QstV} {T : Tel} {B : Bool} (h : (fewQA Q && fewQT T) = B) (n1 : Q.nb ≤ 1000000000000000) (n2 : Q.nr ≤ 1000000000000000) (n3 : T.nb ≤ 1000000000000000) (n4 : T.nr ≤ 1000000000000000) (w : World) : Calls Try.prog 7 #[.agg (qstC V Q), .agg (telC U T)] w fun e w' => e = .returned (.bool B) ∧ Ext w w' := by
  obtain ⟨W2, hW2, e0, HX⟩ : ∃ W2, W2 = (w.alloc (.cells (qstC V Q) 25)).alloc (.cells (telC U T) 28) ∧ Ext w W2 ∧ Hid (∀ W, Ext W2 W → W.heap[w.heap.size]? = some (.cells (qstC V Q) 25 (0, 0)) ∧ W.heap[w.heap.size + 1]? = some (.cells (telC U T) 28 (0, 0))) :=
    ⟨_, rfl, (Ext.alloc w _).trans (Ext.alloc _ _), Lib.hid fun W x => ⟨x.block ((heap_alloc_old _ _ (by simp)).trans (heap_alloc_new w _)), x.block (heap_new_at _ _ (by simp))⟩⟩
  have b1 := (HX.out _ (Ext.refl W2)).1
  have KT := Lib.hid (fun W => rfew16T_v (V := U) (T := T) rfl n3 n4 W)
  cases ha : fewQA Q with
  | false =>
    rw [ha, Bool.false_and] at h
    subst h
    have KA := Lib.hid (fun W => rfew16A_v (V := V) ha n1 n2 W)
    clear ha
    go_enter Try.func7, Try.ntmps7
    go_upto_region 1 with fail
    rw [← hW2]
    clear hW2
    go_wp2_with (first
      | (refine wpList_load_row rfl 25 (.tmp 2) rfl w.heap.size rfl 25 _ (0, 0) _ b1 Try.underlying25 rfl (by kernel_rfl) ?_))
    refine (KA.out _).mono ?_; rintro e w3 ⟨rfl, x3⟩
    go_wp2
    go_ret
    exact ⟨rfl, e0.trans x3⟩
  | true =>
    rw [ha, Bool.true_and] at h
    rw [h] at KT
    have KA := Lib.hid (fun W => rfew16A_v (V := V) ha n1 n2 W)
    clear ha h
    go_enter Try.func7, Try.ntmps7
    go_upto_region 1 with fail
    rw [← hW2]
    clear hW2
    go_wp2_with (first
      | (refine wpList_load_row rfl 25 (.tmp 2) rfl w.heap.size rfl 25 _ (0, 0) _ b1 Try.underlying25 rfl (by kernel_rfl) ?_))
    refine (KA.out _).mono ?_; rintro e w3 ⟨rfl, x3⟩
    have b2 := (HX.out _ x3).2
    go_wp2_with (first
      | (refine wpList_load_row_g (by rfl) 28 (.tmp 3) rfl (w.heap.size + 1) rfl 28 _ (0, 0) _ b2 Try.underlying28 rfl (by kernel_rfl) ?_))
    refine (KT.out _).mono ?_; rintro e w4 ⟨rfl, x4⟩
    go_wp2
    go_ret
    exact ⟨rfl, (e0.trans x3).trans x4⟩
end Go.Proofs.Ytejiafihiielgaa
