/-
  CONTRACTS: bilgeref15 (layer 15): what may be asked.
-/
import Derived.Test.YtejiafihiielgaaAsk
import Derived.Test.YtejiafihiielgaaStructs
import Derived.Test.YtejiafihiielgaaRef01
import Derived.Laws.CopyOwn
import Derived.Laws.Rows
import Derived.Test.YtejiafihiielgaaStepStore
namespace Go.Proofs.Ytejiafihiielgaa
open Go.RowKit
set_option linter.unusedVariables false

set_option maxHeartbeats 1000000 in
theorem rin15_v {n a b : Int} {B : Bool} (h : inB n a b = B) (w : World) : Calls Try.prog 41 #[.int .i64 n, .int .i64 a, .int .i64 b] w fun e w' => e = .returned (.bool B) ∧ w' = w := by
  have H := Lib.hid (inB_iff n a b)
  rw [h] at H
  clear h
  by_cases h1 : a ≤ n
  · by_cases h2 : n ≤ b
    · have hB : B = true := H.out.2 ⟨h1, h2⟩
      subst hB
      clear H
      go_enter Try.func41, Try.ntmps41
      go_wp2
      go_ret
      exact ⟨ret_b (by first | (simp; done) | (simp; omega)), rfl⟩
    · have hB : B = false := by
        cases B
        · rfl
        · exact absurd (H.out.1 rfl).2 h2
      subst hB
      clear H
      go_enter Try.func41, Try.ntmps41
      go_wp2
      go_ret
      exact ⟨ret_b (by first | (simp; done) | (simp; omega)), rfl⟩
  · have hB : B = false := by
      cases B
      · rfl
      · exact absurd (H.out.1 rfl).1 h1
    subst hB
    clear H
    go_enter Try.func41, Try.ntmps41
    go_wp2
    go_ret
    exact ⟨ret_b (by first | (simp; done) | (simp; omega)), rfl⟩
theorem nums_iff (A B : Qst) : numsB A B = true ↔ A.k = B.k ∧ A.ad = B.ad ∧ A.ct = B.ct ∧ A.va = B.va ∧ A.an = B.an ∧ A.oo = B.oo ∧ A.fr = B.fr ∧ A.mn = B.mn := by unfold numsB; rw [decide_eq_true_iff]
set_option maxRecDepth 100000 in
set_option maxHeartbeats 4000000 in
theorem rsame15_any (V : QstV) (F : Qst) (U : QstV) (G : Qst) (w : World) (h : QstAt w V F) (k : QstAt w U G) (f1 : F.nb ≤ 1000000) (f2 : F.nr ≤ 1000000) (g1 : G.nb ≤ 1000000) (g2 : G.nr ≤ 1000000) :
    Calls Try.prog 40 #[.agg (qstC V F), .agg (qstC U G)] w fun e w' => e = .returned (.bool (sameQ F G)) ∧ Ext w w' := by
  have e0 := (Ext.alloc w (.cells (qstC V F) 25)).trans (Ext.alloc _ (.cells (qstC U G) 25))
  have K1 := Lib.hid (fun w' (hx : Ext w w') => (same_any V.a1 U.a1 F.nb G.nb V.d1 U.d1 F.B G.B w' (h.h1.ext hx) (k.h1.ext hx) f1 g1).mono fun _ _ h => (⟨h.1, Ext.of_drewN h.2⟩ : _ ∧ Ext w' _))
  have K2 := Lib.hid (fun w' (hx : Ext w w') => (words_any V.a2 U.a2 F.nr G.nr V.d2 U.d2 F.R G.R w' (h.h2.ext hx) (k.h2.ext hx) f2 g2).mono fun _ _ h => (⟨h.1, Ext.of_drewN h.2⟩ : _ ∧ Ext w' _))
  have HX := Lib.hid (fun w1 (x1 : Ext ((w.alloc (.cells (qstC V F) 25)).alloc (.cells (qstC U G) 25)) w1) => (⟨x1.block ((heap_alloc_old _ _ (by simp)).trans (heap_alloc_new w _)), x1.block (heap_new_at _ _ (by simp))⟩ : w1.heap[w.heap.size]? = some (.cells (qstC V F) 25 (0, 0)) ∧ w1.heap[w.heap.size + 1]? = some (.cells (qstC U G) 25 (0, 0))))
  have HN := Lib.hid (nums_iff F G)
  unfold sameQ
  generalize eqG F.nb G.nb F.B G.B = B1 at K1 ⊢
  generalize eqB F.nr G.nr F.R G.R = B2 at K2 ⊢
  generalize numsB F G = D at HN ⊢
  clear h k f1 f2 g1 g2
  obtain ⟨fk, fad, fct, fva, fan, foo, ffr, fmn, fnb, fB, fnr, fR⟩ := F
  obtain ⟨gk, gad, gct, gva, gan, goo, gfr, gmn, gnb, gB, gnr, gR⟩ := G
  obtain ⟨a1, d1, a2, d2⟩ := V
  obtain ⟨b1, c1, b2, c2⟩ := U
  unfold qstC at e0 HX ⊢
  simp only at e0 HX HN K1 K2 ⊢
  cases hD : D with
  | false =>
    rw [hD] at HN
    clear K1 K2 HX
    have hno : ¬ (fk = gk ∧ fad = gad ∧ fct = gct ∧ fva = gva ∧ fan = gan ∧ foo = goo ∧ ffr = gfr ∧ fmn = gmn) := fun h => by have := HN.out.2 h; cases this
    have HNo := Lib.hid hno
    clear hno HN hD
    rw [Bool.false_and, Bool.false_and]
    go_enter Try.func40, Try.ntmps40
    by_cases h0 : fk = gk
    · subst h0
      by_cases h1 : fad = gad
      · subst h1
        by_cases h2 : fct = gct
        · subst h2
          by_cases h3 : fva = gva
          · subst h3
            by_cases h4 : fan = gan
            · subst h4
              by_cases h5 : foo = goo
              · subst h5
                by_cases h6 : ffr = gfr
                · subst h6
                  by_cases h7 : fmn = gmn
                  · subst h7
                    exact absurd ⟨rfl, rfl, rfl, rfl, rfl, rfl, rfl, rfl⟩ HNo.out
                  · have hb7 : (fmn == gmn) = false := by simp [h7]
                    clear HNo
                    go_wp2
                    go_ret
                    exact ⟨rfl, e0⟩
                · have hb6 : (ffr == gfr) = false := by simp [h6]
                  clear HNo
                  go_wp2
                  go_ret
                  exact ⟨rfl, e0⟩
              · have hb5 : (foo == goo) = false := by simp [h5]
                clear HNo
                go_wp2
                go_ret
                exact ⟨rfl, e0⟩
            · have hb4 : (fan == gan) = false := by simp [h4]
              clear HNo
              go_wp2
              go_ret
              exact ⟨rfl, e0⟩
          · have hb3 : (fva == gva) = false := by simp [h3]
            clear HNo
            go_wp2
            go_ret
            exact ⟨rfl, e0⟩
        · have hb2 : (fct == gct) = false := by simp [h2]
          clear HNo
          go_wp2
          go_ret
          exact ⟨rfl, e0⟩
      · have hb1 : (fad == gad) = false := by simp [h1]
        clear HNo
        go_wp2
        go_ret
        exact ⟨rfl, e0⟩
    · have hb0 : (fk == gk) = false := by simp [h0]
      clear HNo
      go_wp2
      go_ret
      exact ⟨rfl, e0⟩
  | true =>
    rw [hD] at HN
    obtain ⟨rfl, rfl, rfl, rfl, rfl, rfl, rfl, rfl⟩ := HN.out.1 rfl
    clear HN hD
    rw [Bool.true_and]
    cases B1 with
    | false =>
      rw [Bool.false_and]
      go_enter Try.func40, Try.ntmps40
      go_wp2_with fail
      refine (K1.out _ e0).mono ?_; rintro e w1 ⟨rfl, x1⟩
      have e1 := e0.trans x1
      clear e0 x1
      go_wp2
      go_ret
      exact ⟨rfl, e1⟩
    | true =>
      rw [Bool.true_and]
      go_enter Try.func40, Try.ntmps40
      go_wp2_with fail
      refine (K1.out _ e0).mono ?_; rintro e w1 ⟨rfl, x1⟩
      have e1 := e0.trans x1
      obtain ⟨gF, gG⟩ := HX.out _ x1
      have p1 := cell_of_heap (j := 9) gF rfl; have q1 := cell_of_heap (j := 9) gG rfl
      clear e0 x1 gF gG
      go_wp2_with fail
      refine (K2.out _ e1).mono ?_; rintro e w2 ⟨rfl, x2⟩
      have e2 := e1.trans x2
      clear e1 x2 p1 q1
      go_wp2
      go_ret
      exact ⟨rfl, e2⟩
set_option maxRecDepth 100000 in
set_option maxHeartbeats 8000000 in
theorem ronly15_any (V : QstV) (Q : Qst) (w : World) : Calls Try.prog 39 #[.agg (qstC V Q)] w fun e w' => e = .returned (.tuple #[.agg (qstC (ownV V Q) (ownQ Q)), .bool (knownB Q.k)]) ∧ Ext w w' := by
  have HK := Lib.hid (known_iff Q.k)
  unfold ownV ownQ
  obtain ⟨k, ad, ct, va, an, oo, fr, mn, nb, B, nr, R⟩ := Q
  obtain ⟨a1, d1, a2, d2⟩ := V
  simp only at HK ⊢
  by_cases h1 : k = 1
  · subst h1
    have hK : knownB 1 = true := by decide
    simp (config := { decide := true }) only [hK, if_true, if_false]
    clear HK hK
    unfold qstC
    dsimp only [zeroQ, zeroQV]
    go_enter Try.func39, Try.ntmps39
    go_wp2
    refine bodyPost_ret (results_row_tmp rfl _ _ (w.heap.size + 1) 25 _ (0, 0) _ rfl ((heap_alloc_old _ _ (by simp)).trans (heap_new_at _ _ (by simp))) Try.underlying25 rfl (by kernel_rfl)) rfl ⟨by rfl, ((Ext.alloc w _).trans (Ext.alloc _ _)).trans (Ext.alloc _ _)⟩
  by_cases h2 : k = 2
  · subst h2
    have hK : knownB 2 = true := by decide
    simp (config := { decide := true }) only [hK, if_true, if_false]
    clear HK hK
    unfold qstC
    dsimp only [zeroQ, zeroQV]
    go_enter Try.func39, Try.ntmps39
    go_wp2
    refine bodyPost_ret (results_row_tmp rfl _ _ (w.heap.size + 1) 25 _ (0, 0) _ rfl ((heap_alloc_old _ _ (by simp)).trans (heap_new_at _ _ (by simp))) Try.underlying25 rfl (by kernel_rfl)) rfl ⟨by rfl, ((Ext.alloc w _).trans (Ext.alloc _ _)).trans (Ext.alloc _ _)⟩
  by_cases h3 : k = 3
  · subst h3
    have hK : knownB 3 = true := by decide
    simp (config := { decide := true }) only [hK, if_true, if_false]
    clear HK hK
    unfold qstC
    dsimp only [zeroQ, zeroQV]
    go_enter Try.func39, Try.ntmps39
    go_wp2
    refine bodyPost_ret (results_row_tmp rfl _ _ (w.heap.size + 1) 25 _ (0, 0) _ rfl ((heap_alloc_old _ _ (by simp)).trans (heap_new_at _ _ (by simp))) Try.underlying25 rfl (by kernel_rfl)) rfl ⟨by rfl, ((Ext.alloc w _).trans (Ext.alloc _ _)).trans (Ext.alloc _ _)⟩
  by_cases h4 : k = 4
  · subst h4
    have hK : knownB 4 = true := by decide
    simp (config := { decide := true }) only [hK, if_true, if_false]
    clear HK hK
    unfold qstC
    dsimp only [zeroQ, zeroQV]
    go_enter Try.func39, Try.ntmps39
    go_wp2
    refine bodyPost_ret (results_row_tmp rfl _ _ (w.heap.size + 1) 25 _ (0, 0) _ rfl ((heap_alloc_old _ _ (by simp)).trans (heap_new_at _ _ (by simp))) Try.underlying25 rfl (by kernel_rfl)) rfl ⟨by rfl, ((Ext.alloc w _).trans (Ext.alloc _ _)).trans (Ext.alloc _ _)⟩
  by_cases h5 : k = 5
  · subst h5
    have hK : knownB 5 = true := by decide
    simp (config := { decide := true }) only [hK, if_true, if_false]
    clear HK hK
    unfold qstC
    dsimp only [zeroQ, zeroQV]
    go_enter Try.func39, Try.ntmps39
    go_wp2
    refine bodyPost_ret (results_row_tmp rfl _ _ (w.heap.size + 1) 25 _ (0, 0) _ rfl ((heap_alloc_old _ _ (by simp)).trans (heap_new_at _ _ (by simp))) Try.underlying25 rfl (by kernel_rfl)) rfl ⟨by rfl, ((Ext.alloc w _).trans (Ext.alloc _ _)).trans (Ext.alloc _ _)⟩
  by_cases h6 : k = 6
  · subst h6
    have hK : knownB 6 = true := by decide
    simp (config := { decide := true }) only [hK, if_true, if_false]
    clear HK hK
    unfold qstC
    dsimp only [zeroQ, zeroQV]
    go_enter Try.func39, Try.ntmps39
    go_wp2
    refine bodyPost_ret (results_row_tmp rfl _ _ (w.heap.size + 1) 25 _ (0, 0) _ rfl ((heap_alloc_old _ _ (by simp)).trans (heap_new_at _ _ (by simp))) Try.underlying25 rfl (by kernel_rfl)) rfl ⟨by rfl, ((Ext.alloc w _).trans (Ext.alloc _ _)).trans (Ext.alloc _ _)⟩
  by_cases h15 : k = 15
  · subst h15
    have hK : knownB 15 = true := by decide
    simp (config := { decide := true }) only [hK, if_true, if_false]
    clear HK hK
    unfold qstC
    dsimp only [zeroQ, zeroQV]
    go_enter Try.func39, Try.ntmps39
    go_wp2
    refine bodyPost_ret (results_row_tmp rfl _ _ (w.heap.size + 1) 25 _ (0, 0) _ rfl ((heap_alloc_old _ _ (by simp)).trans (heap_new_at _ _ (by simp))) Try.underlying25 rfl (by kernel_rfl)) rfl ⟨by rfl, ((Ext.alloc w _).trans (Ext.alloc _ _)).trans (Ext.alloc _ _)⟩
  by_cases h16 : k = 16
  · subst h16
    have hK : knownB 16 = true := by decide
    simp (config := { decide := true }) only [hK, if_true, if_false]
    clear HK hK
    unfold qstC
    dsimp only [zeroQ, zeroQV]
    go_enter Try.func39, Try.ntmps39
    go_wp2
    refine bodyPost_ret (results_row_tmp rfl _ _ (w.heap.size + 1) 25 _ (0, 0) _ rfl ((heap_alloc_old _ _ (by simp)).trans (heap_new_at _ _ (by simp))) Try.underlying25 rfl (by kernel_rfl)) rfl ⟨by rfl, ((Ext.alloc w _).trans (Ext.alloc _ _)).trans (Ext.alloc _ _)⟩
  by_cases h22 : k = 22
  · subst h22
    have hK : knownB 22 = true := by decide
    simp (config := { decide := true }) only [hK, if_true, if_false]
    clear HK hK
    unfold qstC
    dsimp only [zeroQ, zeroQV]
    go_enter Try.func39, Try.ntmps39
    go_wp2
    refine bodyPost_ret (results_row_tmp rfl _ _ (w.heap.size + 1) 25 _ (0, 0) _ rfl ((heap_alloc_old _ _ (by simp)).trans (heap_new_at _ _ (by simp))) Try.underlying25 rfl (by kernel_rfl)) rfl ⟨by rfl, ((Ext.alloc w _).trans (Ext.alloc _ _)).trans (Ext.alloc _ _)⟩
  by_cases h23 : k = 23
  · subst h23
    have hK : knownB 23 = true := by decide
    simp (config := { decide := true }) only [hK, if_true, if_false]
    clear HK hK
    unfold qstC
    dsimp only [zeroQ, zeroQV]
    go_enter Try.func39, Try.ntmps39
    go_wp2
    refine bodyPost_ret (results_row_tmp rfl _ _ (w.heap.size + 1) 25 _ (0, 0) _ rfl ((heap_alloc_old _ _ (by simp)).trans (heap_new_at _ _ (by simp))) Try.underlying25 rfl (by kernel_rfl)) rfl ⟨by rfl, ((Ext.alloc w _).trans (Ext.alloc _ _)).trans (Ext.alloc _ _)⟩
  have hK : knownB k = false := by
    cases h : knownB k
    · rfl
    · have := HK.out.1 h; omega
  rw [if_neg (by omega), if_neg (by omega), if_neg (by omega), if_neg (by omega), if_neg (by omega), if_neg (by omega), if_neg (by omega), if_neg (by omega), hK]
  clear HK hK
  unfold qstC
  dsimp only [zeroQ, zeroQV]
  go_enter Try.func39, Try.ntmps39
  go_wp2
  refine bodyPost_ret (results_row_tmp rfl _ _ (w.heap.size + 1) 25 _ (0, 0) _ rfl ((heap_alloc_old _ _ (by simp)).trans (heap_new_at _ _ (by simp))) Try.underlying25 rfl (by kernel_rfl)) rfl ⟨by rfl, ((Ext.alloc w _).trans (Ext.alloc _ _)).trans (Ext.alloc _ _)⟩
end Go.Proofs.Ytejiafihiielgaa
