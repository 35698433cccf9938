/-
  CONTRACTS: bilgeref15 (layer 15): what may be asked.
  CONTRACTS: package ask (layer 15): the fields of each function.
  CONTRACTS: package ask (layer 15): numbers, Same; slices.Equal.
  CONTRACTS: package ask (layer 15): fieldsOf, Known, fits, lists.
-/
import Derived.Test.YtlafnobjfajamaaGreatPk13
import Derived.Test.YtlafnobjfajamaaGreatPk1
import Derived.Test.YtlafnobjfajamaaGreatPk16
import Derived.Laws.CopyOwn
import Derived.Laws.Rows
import Derived.Test.YtlafnobjfajamaaGreatPk6
import Derived.Test.YtlafnobjfajamaaGreatPk8
import Derived.ChangeKeysEq
import Derived.Laws.StructEq
namespace Go.Proofs.YtlafnobjfajamaaGreat
open Go.RowKit
set_option linter.unusedVariables false

set_option maxHeartbeats 2000000 in
theorem rknown15_v {k : Int} {B : Bool} (h : knownB k = B) (w : World) : Calls Tryz.prog 89 #[.int .i64 k] w fun e w' => e = .returned (.bool B) ∧ w' = w := by
  have H := Lib.hid (known_iff k)
  rw [h] at H
  clear h
  by_cases h1 : k = 1
  · have hB : B = true := H.out.2 (by omega)
    subst hB
    subst h1
    clear H
    go_enter Tryz.func89, Tryz.ntmps89
    go_wp2
    go_ret
    exact ⟨rfl, rfl⟩
  by_cases h2 : k = 2
  · have hB : B = true := H.out.2 (by omega)
    subst hB
    subst h2
    clear H
    go_enter Tryz.func89, Tryz.ntmps89
    go_wp2
    go_ret
    exact ⟨rfl, rfl⟩
  by_cases h3 : k = 3
  · have hB : B = true := H.out.2 (by omega)
    subst hB
    subst h3
    clear H
    go_enter Tryz.func89, Tryz.ntmps89
    go_wp2
    go_ret
    exact ⟨rfl, rfl⟩
  by_cases h4 : k = 4
  · have hB : B = true := H.out.2 (by omega)
    subst hB
    subst h4
    clear H
    go_enter Tryz.func89, Tryz.ntmps89
    go_wp2
    go_ret
    exact ⟨rfl, rfl⟩
  by_cases h5 : k = 5
  · have hB : B = true := H.out.2 (by omega)
    subst hB
    subst h5
    clear H
    go_enter Tryz.func89, Tryz.ntmps89
    go_wp2
    go_ret
    exact ⟨rfl, rfl⟩
  by_cases h6 : k = 6
  · have hB : B = true := H.out.2 (by omega)
    subst hB
    subst h6
    clear H
    go_enter Tryz.func89, Tryz.ntmps89
    go_wp2
    go_ret
    exact ⟨rfl, rfl⟩
  by_cases h15 : k = 15
  · have hB : B = true := H.out.2 (by omega)
    subst hB
    subst h15
    clear H
    go_enter Tryz.func89, Tryz.ntmps89
    go_wp2
    go_ret
    exact ⟨rfl, rfl⟩
  by_cases h16 : k = 16
  · have hB : B = true := H.out.2 (by omega)
    subst hB
    subst h16
    clear H
    go_enter Tryz.func89, Tryz.ntmps89
    go_wp2
    go_ret
    exact ⟨rfl, rfl⟩
  by_cases h22 : k = 22
  · have hB : B = true := H.out.2 (by omega)
    subst hB
    subst h22
    clear H
    go_enter Tryz.func89, Tryz.ntmps89
    go_wp2
    go_ret
    exact ⟨rfl, rfl⟩
  by_cases h23 : k = 23
  · have hB : B = true := H.out.2 (by omega)
    subst hB
    subst h23
    clear H
    go_enter Tryz.func89, Tryz.ntmps89
    go_wp2
    go_ret
    exact ⟨rfl, rfl⟩
  have hB : B = false := by
    cases B
    · rfl
    · have := H.out.1 rfl; omega
  subst hB
  clear H
  go_enter Tryz.func89, Tryz.ntmps89
  go_wp2
  go_ret
  exact ⟨rfl, rfl⟩
set_option maxHeartbeats 1000000 in
theorem rin15_v {n a b : Int} {B : Bool} (h : inB n a b = B) (w : World) : Calls Tryz.prog 38 #[.int .i64 n, .int .i64 a, .int .i64 b] w fun e w' => e = .returned (.bool B) ∧ w' = w := by
  have H := Lib.hid (inB_iff n a b)
  rw [h] at H
  clear h
  by_cases h1 : a ≤ n
  · by_cases h2 : n ≤ b
    · have hB : B = true := H.out.2 ⟨h1, h2⟩
      subst hB
      clear H
      go_enter Tryz.func38, Tryz.ntmps38
      go_wp2
      go_ret
      exact ⟨ret_b (by first | (simp; done) | (simp; omega)), rfl⟩
    · have hB : B = false := by
        cases B
        · rfl
        · exact absurd (H.out.1 rfl).2 h2
      subst hB
      clear H
      go_enter Tryz.func38, Tryz.ntmps38
      go_wp2
      go_ret
      exact ⟨ret_b (by first | (simp; done) | (simp; omega)), rfl⟩
  · have hB : B = false := by
      cases B
      · rfl
      · exact absurd (H.out.1 rfl).1 h1
    subst hB
    clear H
    go_enter Tryz.func38, Tryz.ntmps38
    go_wp2
    go_ret
    exact ⟨ret_b (by first | (simp; done) | (simp; omega)), rfl⟩
theorem nums_iff (A B : Qst) : numsB A B = true ↔ A.k = B.k ∧ A.ad = B.ad ∧ A.ct = B.ct ∧ A.va = B.va ∧ A.an = B.an ∧ A.oo = B.oo ∧ A.fr = B.fr ∧ A.mn = B.mn := by unfold numsB; rw [decide_eq_true_iff]
set_option maxRecDepth 100000 in
set_option maxHeartbeats 4000000 in
theorem rsame15_any (V : QstV) (F : Qst) (U : QstV) (G : Qst) (w : World) (h : QstAt w V F) (k : QstAt w U G) (f1 : F.nb ≤ 1000000) (f2 : F.nr ≤ 1000000) (g1 : G.nb ≤ 1000000) (g2 : G.nr ≤ 1000000) :
    Calls Tryz.prog 37 #[.agg (qstC V F), .agg (qstC U G)] w fun e w' => e = .returned (.bool (sameQ F G)) ∧ Ext w w' := by
  have e0 := (Ext.alloc w (.cells (qstC V F) 31)).trans (Ext.alloc _ (.cells (qstC U G) 31))
  have K1 := Lib.hid (fun w' (hx : Ext w w') => (same_any V.a1 U.a1 F.nb G.nb V.d1 U.d1 F.B G.B w' (h.h1.ext hx) (k.h1.ext hx) f1 g1).mono fun _ _ h => (⟨h.1, Ext.of_drewN h.2⟩ : _ ∧ Ext w' _))
  have K2 := Lib.hid (fun w' (hx : Ext w w') => (words_any V.a2 U.a2 F.nr G.nr V.d2 U.d2 F.R G.R w' (h.h2.ext hx) (k.h2.ext hx) f2 g2).mono fun _ _ h => (⟨h.1, Ext.of_drewN h.2⟩ : _ ∧ Ext w' _))
  have HX := Lib.hid (fun w1 (x1 : Ext ((w.alloc (.cells (qstC V F) 31)).alloc (.cells (qstC U G) 31)) w1) => (⟨x1.block ((heap_alloc_old _ _ (by simp)).trans (heap_alloc_new w _)), x1.block (heap_new_at _ _ (by simp))⟩ : w1.heap[w.heap.size]? = some (.cells (qstC V F) 31 (0, 0)) ∧ w1.heap[w.heap.size + 1]? = some (.cells (qstC U G) 31 (0, 0))))
  have HN := Lib.hid (nums_iff F G)
  unfold sameQ
  generalize eqG F.nb G.nb F.B G.B = B1 at K1 ⊢
  generalize eqB F.nr G.nr F.R G.R = B2 at K2 ⊢
  generalize numsB F G = D at HN ⊢
  clear h k f1 f2 g1 g2
  obtain ⟨fk, fad, fct, fva, fan, foo, ffr, fmn, fnb, fB, fnr, fR⟩ := F
  obtain ⟨gk, gad, gct, gva, gan, goo, gfr, gmn, gnb, gB, gnr, gR⟩ := G
  obtain ⟨a1, d1, a2, d2⟩ := V
  obtain ⟨b1, c1, b2, c2⟩ := U
  unfold qstC at e0 HX ⊢
  simp only at e0 HX HN K1 K2 ⊢
  cases hD : D with
  | false =>
    rw [hD] at HN
    clear K1 K2 HX
    have hno : ¬ (fk = gk ∧ fad = gad ∧ fct = gct ∧ fva = gva ∧ fan = gan ∧ foo = goo ∧ ffr = gfr ∧ fmn = gmn) := fun h => by have := HN.out.2 h; cases this
    have HNo := Lib.hid hno
    clear hno HN hD
    rw [Bool.false_and, Bool.false_and]
    go_enter Tryz.func37, Tryz.ntmps37
    by_cases h0 : fk = gk
    · subst h0
      by_cases h1 : fad = gad
      · subst h1
        by_cases h2 : fct = gct
        · subst h2
          by_cases h3 : fva = gva
          · subst h3
            by_cases h4 : fan = gan
            · subst h4
              by_cases h5 : foo = goo
              · subst h5
                by_cases h6 : ffr = gfr
                · subst h6
                  by_cases h7 : fmn = gmn
                  · subst h7
                    exact absurd ⟨rfl, rfl, rfl, rfl, rfl, rfl, rfl, rfl⟩ HNo.out
                  · have hb7 : (fmn == gmn) = false := by simp [h7]
                    clear HNo
                    go_wp2
                    go_ret
                    exact ⟨rfl, e0⟩
                · have hb6 : (ffr == gfr) = false := by simp [h6]
                  clear HNo
                  go_wp2
                  go_ret
                  exact ⟨rfl, e0⟩
              · have hb5 : (foo == goo) = false := by simp [h5]
                clear HNo
                go_wp2
                go_ret
                exact ⟨rfl, e0⟩
            · have hb4 : (fan == gan) = false := by simp [h4]
              clear HNo
              go_wp2
              go_ret
              exact ⟨rfl, e0⟩
          · have hb3 : (fva == gva) = false := by simp [h3]
            clear HNo
            go_wp2
            go_ret
            exact ⟨rfl, e0⟩
        · have hb2 : (fct == gct) = false := by simp [h2]
          clear HNo
          go_wp2
          go_ret
          exact ⟨rfl, e0⟩
      · have hb1 : (fad == gad) = false := by simp [h1]
        clear HNo
        go_wp2
        go_ret
        exact ⟨rfl, e0⟩
    · have hb0 : (fk == gk) = false := by simp [h0]
      clear HNo
      go_wp2
      go_ret
      exact ⟨rfl, e0⟩
  | true =>
    rw [hD] at HN
    obtain ⟨rfl, rfl, rfl, rfl, rfl, rfl, rfl, rfl⟩ := HN.out.1 rfl
    clear HN hD
    rw [Bool.true_and]
    cases B1 with
    | false =>
      rw [Bool.false_and]
      go_enter Tryz.func37, Tryz.ntmps37
      go_wp2_with fail
      refine (K1.out _ e0).mono ?_; rintro e w1 ⟨rfl, x1⟩
      have e1 := e0.trans x1
      clear e0 x1
      go_wp2
      go_ret
      exact ⟨rfl, e1⟩
    | true =>
      rw [Bool.true_and]
      go_enter Tryz.func37, Tryz.ntmps37
      go_wp2_with fail
      refine (K1.out _ e0).mono ?_; rintro e w1 ⟨rfl, x1⟩
      have e1 := e0.trans x1
      obtain ⟨gF, gG⟩ := HX.out _ x1
      have p1 := cell_of_heap (j := 9) gF rfl; have q1 := cell_of_heap (j := 9) gG rfl
      clear e0 x1 gF gG
      go_wp2_with fail
      refine (K2.out _ e1).mono ?_; rintro e w2 ⟨rfl, x2⟩
      have e2 := e1.trans x2
      clear e1 x2 p1 q1
      go_wp2
      go_ret
      exact ⟨rfl, e2⟩
set_option maxRecDepth 100000 in
set_option maxHeartbeats 8000000 in
theorem ronly15_any (V : QstV) (Q : Qst) (w : World) : Calls Tryz.prog 36 #[.agg (qstC V Q)] w fun e w' => e = .returned (.tuple #[.agg (qstC (ownV V Q) (ownQ Q)), .bool (knownB Q.k)]) ∧ Ext w w' := by
  have HK := Lib.hid (known_iff Q.k)
  unfold ownV ownQ
  obtain ⟨k, ad, ct, va, an, oo, fr, mn, nb, B, nr, R⟩ := Q
  obtain ⟨a1, d1, a2, d2⟩ := V
  simp only at HK ⊢
  by_cases h1 : k = 1
  · subst h1
    have hK : knownB 1 = true := by decide
    simp (config := { decide := true }) only [hK, if_true, if_false]
    clear HK hK
    unfold qstC
    dsimp only [zeroQ, zeroQV]
    go_enter Tryz.func36, Tryz.ntmps36
    go_wp2
    refine bodyPost_ret (results_row_tmp rfl _ _ (w.heap.size + 1) 31 _ (0, 0) _ rfl ((heap_alloc_old _ _ (by simp)).trans (heap_new_at _ _ (by simp))) Tryz.underlying31 rfl (by kernel_rfl)) rfl ⟨by rfl, ((Ext.alloc w _).trans (Ext.alloc _ _)).trans (Ext.alloc _ _)⟩
  by_cases h2 : k = 2
  · subst h2
    have hK : knownB 2 = true := by decide
    simp (config := { decide := true }) only [hK, if_true, if_false]
    clear HK hK
    unfold qstC
    dsimp only [zeroQ, zeroQV]
    go_enter Tryz.func36, Tryz.ntmps36
    go_wp2
    refine bodyPost_ret (results_row_tmp rfl _ _ (w.heap.size + 1) 31 _ (0, 0) _ rfl ((heap_alloc_old _ _ (by simp)).trans (heap_new_at _ _ (by simp))) Tryz.underlying31 rfl (by kernel_rfl)) rfl ⟨by rfl, ((Ext.alloc w _).trans (Ext.alloc _ _)).trans (Ext.alloc _ _)⟩
  by_cases h3 : k = 3
  · subst h3
    have hK : knownB 3 = true := by decide
    simp (config := { decide := true }) only [hK, if_true, if_false]
    clear HK hK
    unfold qstC
    dsimp only [zeroQ, zeroQV]
    go_enter Tryz.func36, Tryz.ntmps36
    go_wp2
    refine bodyPost_ret (results_row_tmp rfl _ _ (w.heap.size + 1) 31 _ (0, 0) _ rfl ((heap_alloc_old _ _ (by simp)).trans (heap_new_at _ _ (by simp))) Tryz.underlying31 rfl (by kernel_rfl)) rfl ⟨by rfl, ((Ext.alloc w _).trans (Ext.alloc _ _)).trans (Ext.alloc _ _)⟩
  by_cases h4 : k = 4
  · subst h4
    have hK : knownB 4 = true := by decide
    simp (config := { decide := true }) only [hK, if_true, if_false]
    clear HK hK
    unfold qstC
    dsimp only [zeroQ, zeroQV]
    go_enter Tryz.func36, Tryz.ntmps36
    go_wp2
    refine bodyPost_ret (results_row_tmp rfl _ _ (w.heap.size + 1) 31 _ (0, 0) _ rfl ((heap_alloc_old _ _ (by simp)).trans (heap_new_at _ _ (by simp))) Tryz.underlying31 rfl (by kernel_rfl)) rfl ⟨by rfl, ((Ext.alloc w _).trans (Ext.alloc _ _)).trans (Ext.alloc _ _)⟩
  by_cases h5 : k = 5
  · subst h5
    have hK : knownB 5 = true := by decide
    simp (config := { decide := true }) only [hK, if_true, if_false]
    clear HK hK
    unfold qstC
    dsimp only [zeroQ, zeroQV]
    go_enter Tryz.func36, Tryz.ntmps36
    go_wp2
    refine bodyPost_ret (results_row_tmp rfl _ _ (w.heap.size + 1) 31 _ (0, 0) _ rfl ((heap_alloc_old _ _ (by simp)).trans (heap_new_at _ _ (by simp))) Tryz.underlying31 rfl (by kernel_rfl)) rfl ⟨by rfl, ((Ext.alloc w _).trans (Ext.alloc _ _)).trans (Ext.alloc _ _)⟩
  by_cases h6 : k = 6
  · subst h6
    have hK : knownB 6 = true := by decide
    simp (config := { decide := true }) only [hK, if_true, if_false]
    clear HK hK
    unfold qstC
    dsimp only [zeroQ, zeroQV]
    go_enter Tryz.func36, Tryz.ntmps36
    go_wp2
    refine bodyPost_ret (results_row_tmp rfl _ _ (w.heap.size + 1) 31 _ (0, 0) _ rfl ((heap_alloc_old _ _ (by simp)).trans (heap_new_at _ _ (by simp))) Tryz.underlying31 rfl (by kernel_rfl)) rfl ⟨by rfl, ((Ext.alloc w _).trans (Ext.alloc _ _)).trans (Ext.alloc _ _)⟩
  by_cases h15 : k = 15
  · subst h15
    have hK : knownB 15 = true := by decide
    simp (config := { decide := true }) only [hK, if_true, if_false]
    clear HK hK
    unfold qstC
    dsimp only [zeroQ, zeroQV]
    go_enter Tryz.func36, Tryz.ntmps36
    go_wp2
    refine bodyPost_ret (results_row_tmp rfl _ _ (w.heap.size + 1) 31 _ (0, 0) _ rfl ((heap_alloc_old _ _ (by simp)).trans (heap_new_at _ _ (by simp))) Tryz.underlying31 rfl (by kernel_rfl)) rfl ⟨by rfl, ((Ext.alloc w _).trans (Ext.alloc _ _)).trans (Ext.alloc _ _)⟩
  by_cases h16 : k = 16
  · subst h16
    have hK : knownB 16 = true := by decide
    simp (config := { decide := true }) only [hK, if_true, if_false]
    clear HK hK
    unfold qstC
    dsimp only [zeroQ, zeroQV]
    go_enter Tryz.func36, Tryz.ntmps36
    go_wp2
    refine bodyPost_ret (results_row_tmp rfl _ _ (w.heap.size + 1) 31 _ (0, 0) _ rfl ((heap_alloc_old _ _ (by simp)).trans (heap_new_at _ _ (by simp))) Tryz.underlying31 rfl (by kernel_rfl)) rfl ⟨by rfl, ((Ext.alloc w _).trans (Ext.alloc _ _)).trans (Ext.alloc _ _)⟩
  by_cases h22 : k = 22
  · subst h22
    have hK : knownB 22 = true := by decide
    simp (config := { decide := true }) only [hK, if_true, if_false]
    clear HK hK
    unfold qstC
    dsimp only [zeroQ, zeroQV]
    go_enter Tryz.func36, Tryz.ntmps36
    go_wp2
    refine bodyPost_ret (results_row_tmp rfl _ _ (w.heap.size + 1) 31 _ (0, 0) _ rfl ((heap_alloc_old _ _ (by simp)).trans (heap_new_at _ _ (by simp))) Tryz.underlying31 rfl (by kernel_rfl)) rfl ⟨by rfl, ((Ext.alloc w _).trans (Ext.alloc _ _)).trans (Ext.alloc _ _)⟩
  by_cases h23 : k = 23
  · subst h23
    have hK : knownB 23 = true := by decide
    simp (config := { decide := true }) only [hK, if_true, if_false]
    clear HK hK
    unfold qstC
    dsimp only [zeroQ, zeroQV]
    go_enter Tryz.func36, Tryz.ntmps36
    go_wp2
    refine bodyPost_ret (results_row_tmp rfl _ _ (w.heap.size + 1) 31 _ (0, 0) _ rfl ((heap_alloc_old _ _ (by simp)).trans (heap_new_at _ _ (by simp))) Tryz.underlying31 rfl (by kernel_rfl)) rfl ⟨by rfl, ((Ext.alloc w _).trans (Ext.alloc _ _)).trans (Ext.alloc _ _)⟩
  have hK : knownB k = false := by
    cases h : knownB k
    · rfl
    · have := HK.out.1 h; omega
  rw [if_neg (by omega), if_neg (by omega), if_neg (by omega), if_neg (by omega), if_neg (by omega), if_neg (by omega), if_neg (by omega), if_neg (by omega), hK]
  clear HK hK
  unfold qstC
  dsimp only [zeroQ, zeroQV]
  go_enter Tryz.func36, Tryz.ntmps36
  go_wp2
  refine bodyPost_ret (results_row_tmp rfl _ _ (w.heap.size + 1) 31 _ (0, 0) _ rfl ((heap_alloc_old _ _ (by simp)).trans (heap_new_at _ _ (by simp))) Tryz.underlying31 rfl (by kernel_rfl)) rfl ⟨by rfl, ((Ext.alloc w _).trans (Ext.alloc _ _)).trans (Ext.alloc _ _)⟩
end Go.Proofs.YtlafnobjfajamaaGreat
namespace Go.Proofs.YtlafnobjfajamaaGreat
open Go.RowKit
set_option linter.unusedVariables false
set_option maxRecDepth 100000

/-- The fields of a function, as a list of structs in memory: of the ask in block p. -/
structure FldS (w : World) (b off p : Nat) (k : Int) : Prop where
  lt : b < w.heap.size
  at0 : ∀ i, i < fldN k → w.cell? ⟨b, off + i * 4, none⟩ = some (.pointer (some ⟨p, fldO k i, none⟩))
  at1 : ∀ i, i < fldN k → w.cell? ⟨b, off + i * 4 + 1, none⟩ = some (.int .i64 (fldL k i))
  at2 : ∀ i, i < fldN k → w.cell? ⟨b, off + i * 4 + 2, none⟩ = some (.int .i64 (fldH k i))
  at3 : ∀ i, i < fldN k → w.cell? ⟨b, off + i * 4 + 3, none⟩ = some (.int .i64 (fldT k i))
theorem FldS.ext {w w' : World} {b off p : Nat} {k : Int} (h : FldS w b off p k) (x : Ext w w') : FldS w' b off p k :=
  ⟨Nat.lt_of_lt_of_le h.lt x.size, fun i hi => x.cell h.lt (h.at0 i hi), fun i hi => x.cell h.lt (h.at1 i hi), fun i hi => x.cell h.lt (h.at2 i hi), fun i hi => x.cell h.lt (h.at3 i hi)⟩
theorem FldS.keep {F : Nat → Prop} {w w' : World} {b off p : Nat} {k : Int} (h : FldS w b off p k) (x : Keep F w w') (hF : ¬ F b) : FldS w' b off p k :=
  ⟨Nat.lt_of_lt_of_le h.lt x.size, fun i hi => x.cell hF (h.at0 i hi), fun i hi => x.cell hF (h.at1 i hi), fun i hi => x.cell hF (h.at2 i hi), fun i hi => x.cell hF (h.at3 i hi)⟩
/-- What a reader tells. -/
def FldP (p : Nat) (k : Int) (w : World) (e : Ending) (w' : World) : Prop :=
  ∃ b off, e = .returned (.slice (some ⟨b, off, none⟩) (fldN k) (fldN k)) ∧ FldS w' b off p k ∧ w.heap.size ≤ b ∧ Ext w w'
theorem free_v (a : Option Addr) (w : World) : Calls Tryz.prog 133 #[.pointer a] w fun e w' => e = .returned (.agg #[.pointer a, .int .i64 0, .int .i64 65535, .int .i64 1]) ∧ Ext w w' := by
  go_enter Tryz.func133, Tryz.ntmps133
  go_wp2_with (first
    | (refine wpList_store_row rfl 111 (.tmp 2) (.tmp 4) rfl _ _ rfl rfl 111 _ (heap_new_at _ _ (by first | rfl | simp)) (by kernel_rfl) rfl (by simp [Value.oneCell']) ?_))
  refine bodyPost_ret (results_cell_row rfl _ _ w.heap.size 111 _ (0, 0) _ rfl (setRow_heap _ _ _ _ _ _ (heap_alloc_new w _)) Tryz.underlying111 rfl (by kernel_rfl)) rfl ?_
  exact ⟨by rfl, below_setRow (Ext.alloc w _) (Nat.le_refl _) _⟩
theorem amount_v (a : Option Addr) (m : Int) (w : World) : Calls Tryz.prog 134 #[.pointer a, .int .i64 m] w fun e w' => e = .returned (.agg #[.pointer a, .int .i64 1, .int .i64 m, .int .i64 1]) ∧ Ext w w' := by
  go_enter Tryz.func134, Tryz.ntmps134
  go_wp2_with (first
    | (refine wpList_store_row rfl 111 (.tmp 4) (.tmp 7) rfl _ _ rfl rfl 111 _ (heap_new_at _ _ (by first | rfl | simp)) (by kernel_rfl) rfl (by simp [Value.oneCell']) ?_))
  refine bodyPost_ret (results_cell_row rfl _ _ w.heap.size 111 _ (0, 0) _ rfl (setRow_heap _ _ _ _ _ _ (heap_alloc_new w _)) Tryz.underlying111 rfl (by kernel_rfl)) rfl ?_
  exact ⟨by rfl, below_setRow (Ext.alloc w _) (Nat.le_refl _) _⟩
/-- Fields that were laid as a new list. -/
theorem fld_new (W : World) (cs : Array Value) (p : Nat) (k : Int) (h : ∀ i, i < fldN k → cs[i * 4]? = some (.pointer (some ⟨p, fldO k i, none⟩)) ∧ cs[i * 4 + 1]? = some (.int .i64 (fldL k i)) ∧ cs[i * 4 + 2]? = some (.int .i64 (fldH k i)) ∧ cs[i * 4 + 3]? = some (.int .i64 (fldT k i))) :
    FldS (W.alloc (.cells cs 111)) W.heap.size 0 p k := by
  have e : ∀ j v, cs[j]? = some v → (W.alloc (.cells cs 111)).cell? ⟨W.heap.size, j, none⟩ = some v := fun j v hv => cell_of_heap (heap_alloc_new W _) hv
  refine ⟨by simp, fun i hi => ?_, fun i hi => ?_, fun i hi => ?_, fun i hi => ?_⟩
  · rw [Nat.zero_add]; exact e _ _ (h i hi).1
  · rw [Nat.zero_add]; exact e _ _ (h i hi).2.1
  · rw [Nat.zero_add]; exact e _ _ (h i hi).2.2.1
  · rw [Nat.zero_add]; exact e _ _ (h i hi).2.2.2
set_option maxHeartbeats 2000000 in
theorem fld_readBits (p : Nat) (k : Int) (hk : k = 1 ∨ k = 2) (w : World) : Calls Tryz.prog 99 #[.pointer (some ⟨p, 0, none⟩)] w (FldP p k w) := by
  have HF : Hid (∀ W, Ext w W → FldP p k w (.returned (.slice (some ⟨W.heap.size, 0, none⟩) 2 2)) (W.alloc (.cells #[.pointer (some ⟨p, 1, none⟩), .int .i64 0, .int .i64 65535, .int .i64 1, .pointer (some ⟨p, 2, none⟩), .int .i64 1, .int .i64 2000, .int .i64 1] 111))) := Lib.hid (by
    intro W x
    have hn : fldN k = 2 := by rcases hk with rfl | rfl <;> rfl
    refine ⟨W.heap.size, 0, by rw [hn], fld_new W _ p k ?_, x.size, x.trans (Ext.alloc _ _)⟩
    rw [hn]
    refine all_2.2 ?_
    rcases hk with rfl | rfl <;> (repeat' constructor))
  clear hk
  go_enter Tryz.func99, Tryz.ntmps99
  go_wp2_with fail
  have hs : Ext w w.drew := Ext.drew _
  refine wp_region_held_drew (S := fun W => Ext w W) (by kernel_rfl) hs (fun _ => ?_)
  refine wpAnyH_takeD (i := 0) (d := 3) (v := .pointer (some ⟨p, 0, none⟩)) rfl rfl (by kernel_rfl) (by kernel_rfl) (by kernel_rfl) (fun _ _ _ h => h) (Or.inl ⟨by rfl, fun W hW => by go_simp⟩) hs ?_
  simp only [Act.put, List.setIfInBounds_toArray, List.set_cons_succ, List.set_cons_zero]
  refine wpAnyH_takeD (i := 1) (d := 4) (v := .pointer (some ⟨p, 0, none⟩)) rfl rfl (by kernel_rfl) (by kernel_rfl) (by kernel_rfl) (fun _ _ _ h => h) (Or.inl ⟨by rfl, fun W hW => by go_simp⟩) hs ?_
  simp only [Act.put, List.setIfInBounds_toArray, List.set_cons_succ, List.set_cons_zero]
  refine wpAnyH_takeD (i := 2) (d := 5) (v := .pointer (some ⟨p, 1, none⟩)) rfl rfl (by kernel_rfl) (by kernel_rfl) (by kernel_rfl) (fun _ _ _ h => h) (Or.inl ⟨by rfl, fun W hW => by go_simp⟩) hs ?_
  simp only [Act.put, List.setIfInBounds_toArray, List.set_cons_succ, List.set_cons_zero]
  refine wpAnyH_takeD (i := 4) (d := 7) (v := .pointer (some ⟨p, 0, none⟩)) rfl rfl (by kernel_rfl) (by kernel_rfl) (by kernel_rfl) (fun _ _ _ h => h) (Or.inl ⟨by rfl, fun W hW => by go_simp⟩) hs ?_
  simp only [Act.put, List.setIfInBounds_toArray, List.set_cons_succ, List.set_cons_zero]
  refine wpAnyH_takeD (i := 5) (d := 8) (v := .pointer (some ⟨p, 0, none⟩)) rfl rfl (by kernel_rfl) (by kernel_rfl) (by kernel_rfl) (fun _ _ _ h => h) (Or.inl ⟨by rfl, fun W hW => by go_simp⟩) hs ?_
  simp only [Act.put, List.setIfInBounds_toArray, List.set_cons_succ, List.set_cons_zero]
  refine wpAnyH_takeD (i := 6) (d := 9) (v := .pointer (some ⟨p, 2, none⟩)) rfl rfl (by kernel_rfl) (by kernel_rfl) (by kernel_rfl) (fun _ _ _ h => h) (Or.inl ⟨by rfl, fun W hW => by go_simp⟩) hs ?_
  simp only [Act.put, List.setIfInBounds_toArray, List.set_cons_succ, List.set_cons_zero]
  refine wpAnyH_ready (rs := [3]) (by kernel_rfl) (by simp) (AllReadyH.cons rfl (fun K hK => ?_) AllReadyH.nil)
  go_simp
  go_at_call 133
  refine (free_v _ _).mono ?_; rintro e Wc ⟨rfl, y⟩
  go_wp2_with fail
  refine hK.out _ _ (hs.trans y) (fun hs => ?_)
  clear hK K y
  refine wpAnyH_ready (rs := [7]) (by kernel_rfl) (by simp) (AllReadyH.cons rfl (fun K hK => ?_) AllReadyH.nil)
  go_simp
  go_at_call 134
  refine (amount_v _ _ _).mono ?_; rintro e Wc ⟨rfl, y⟩
  go_wp2_with fail
  refine hK.out _ _ (hs.trans y) (fun hs => ?_)
  clear hK K y
  refine wpAnyH_ready (rs := [8]) (by kernel_rfl) (by simp) (AllReadyH.cons rfl (fun K hK => ?_) AllReadyH.nil)
  go_simp
  have hq := hs
  refine hK.out _ _ (hs.trans (Ext.alloc _ _)) (fun hs => ?_)
  clear hK K
  refine wpAnyH_takeD (i := 9) (d := 2) (v := .slice (some ⟨Wc.heap.size, 0, none⟩) 2 2) rfl rfl (by kernel_rfl) (by kernel_rfl) (by kernel_rfl) (fun _ _ _ h => h) (Or.inl ⟨by rfl, fun W hW => by go_simp⟩) hs ?_
  simp only [Act.put, List.setIfInBounds_toArray, List.set_cons_succ, List.set_cons_zero]
  refine wpAnyH_done (by kernel_rfl) ?_ _
  go_wp2
  go_ret
  exact HF.out _ hq
set_option maxHeartbeats 2000000 in
theorem fld_readRegs (p : Nat) (k : Int) (hk : k = 3 ∨ k = 4) (w : World) : Calls Tryz.prog 100 #[.pointer (some ⟨p, 0, none⟩)] w (FldP p k w) := by
  have HF : Hid (∀ W, Ext w W → FldP p k w (.returned (.slice (some ⟨W.heap.size, 0, none⟩) 2 2)) (W.alloc (.cells #[.pointer (some ⟨p, 1, none⟩), .int .i64 0, .int .i64 65535, .int .i64 1, .pointer (some ⟨p, 2, none⟩), .int .i64 1, .int .i64 125, .int .i64 1] 111))) := Lib.hid (by
    intro W x
    have hn : fldN k = 2 := by rcases hk with rfl | rfl <;> rfl
    refine ⟨W.heap.size, 0, by rw [hn], fld_new W _ p k ?_, x.size, x.trans (Ext.alloc _ _)⟩
    rw [hn]
    refine all_2.2 ?_
    rcases hk with rfl | rfl <;> (repeat' constructor))
  clear hk
  go_enter Tryz.func100, Tryz.ntmps100
  go_wp2_with fail
  have hs : Ext w w.drew := Ext.drew _
  refine wp_region_held_drew (S := fun W => Ext w W) (by kernel_rfl) hs (fun _ => ?_)
  refine wpAnyH_takeD (i := 0) (d := 3) (v := .pointer (some ⟨p, 0, none⟩)) rfl rfl (by kernel_rfl) (by kernel_rfl) (by kernel_rfl) (fun _ _ _ h => h) (Or.inl ⟨by rfl, fun W hW => by go_simp⟩) hs ?_
  simp only [Act.put, List.setIfInBounds_toArray, List.set_cons_succ, List.set_cons_zero]
  refine wpAnyH_takeD (i := 1) (d := 4) (v := .pointer (some ⟨p, 0, none⟩)) rfl rfl (by kernel_rfl) (by kernel_rfl) (by kernel_rfl) (fun _ _ _ h => h) (Or.inl ⟨by rfl, fun W hW => by go_simp⟩) hs ?_
  simp only [Act.put, List.setIfInBounds_toArray, List.set_cons_succ, List.set_cons_zero]
  refine wpAnyH_takeD (i := 2) (d := 5) (v := .pointer (some ⟨p, 1, none⟩)) rfl rfl (by kernel_rfl) (by kernel_rfl) (by kernel_rfl) (fun _ _ _ h => h) (Or.inl ⟨by rfl, fun W hW => by go_simp⟩) hs ?_
  simp only [Act.put, List.setIfInBounds_toArray, List.set_cons_succ, List.set_cons_zero]
  refine wpAnyH_takeD (i := 4) (d := 7) (v := .pointer (some ⟨p, 0, none⟩)) rfl rfl (by kernel_rfl) (by kernel_rfl) (by kernel_rfl) (fun _ _ _ h => h) (Or.inl ⟨by rfl, fun W hW => by go_simp⟩) hs ?_
  simp only [Act.put, List.setIfInBounds_toArray, List.set_cons_succ, List.set_cons_zero]
  refine wpAnyH_takeD (i := 5) (d := 8) (v := .pointer (some ⟨p, 0, none⟩)) rfl rfl (by kernel_rfl) (by kernel_rfl) (by kernel_rfl) (fun _ _ _ h => h) (Or.inl ⟨by rfl, fun W hW => by go_simp⟩) hs ?_
  simp only [Act.put, List.setIfInBounds_toArray, List.set_cons_succ, List.set_cons_zero]
  refine wpAnyH_takeD (i := 6) (d := 9) (v := .pointer (some ⟨p, 2, none⟩)) rfl rfl (by kernel_rfl) (by kernel_rfl) (by kernel_rfl) (fun _ _ _ h => h) (Or.inl ⟨by rfl, fun W hW => by go_simp⟩) hs ?_
  simp only [Act.put, List.setIfInBounds_toArray, List.set_cons_succ, List.set_cons_zero]
  refine wpAnyH_ready (rs := [3]) (by kernel_rfl) (by simp) (AllReadyH.cons rfl (fun K hK => ?_) AllReadyH.nil)
  go_simp
  go_at_call 133
  refine (free_v _ _).mono ?_; rintro e Wc ⟨rfl, y⟩
  go_wp2_with fail
  refine hK.out _ _ (hs.trans y) (fun hs => ?_)
  clear hK K y
  refine wpAnyH_ready (rs := [7]) (by kernel_rfl) (by simp) (AllReadyH.cons rfl (fun K hK => ?_) AllReadyH.nil)
  go_simp
  go_at_call 134
  refine (amount_v _ _ _).mono ?_; rintro e Wc ⟨rfl, y⟩
  go_wp2_with fail
  refine hK.out _ _ (hs.trans y) (fun hs => ?_)
  clear hK K y
  refine wpAnyH_ready (rs := [8]) (by kernel_rfl) (by simp) (AllReadyH.cons rfl (fun K hK => ?_) AllReadyH.nil)
  go_simp
  have hq := hs
  refine hK.out _ _ (hs.trans (Ext.alloc _ _)) (fun hs => ?_)
  clear hK K
  refine wpAnyH_takeD (i := 9) (d := 2) (v := .slice (some ⟨Wc.heap.size, 0, none⟩) 2 2) rfl rfl (by kernel_rfl) (by kernel_rfl) (by kernel_rfl) (fun _ _ _ h => h) (Or.inl ⟨by rfl, fun W hW => by go_simp⟩) hs ?_
  simp only [Act.put, List.setIfInBounds_toArray, List.set_cons_succ, List.set_cons_zero]
  refine wpAnyH_done (by kernel_rfl) ?_ _
  go_wp2
  go_ret
  exact HF.out _ hq
set_option maxHeartbeats 2000000 in
theorem fld_setBit (p : Nat) (k : Int) (hk : k = 5) (w : World) : Calls Tryz.prog 101 #[.pointer (some ⟨p, 0, none⟩)] w (FldP p k w) := by
  have HF : Hid (∀ W, Ext w W → FldP p k w (.returned (.slice (some ⟨W.heap.size, 0, none⟩) 2 2)) (W.alloc (.cells #[.pointer (some ⟨p, 1, none⟩), .int .i64 0, .int .i64 65535, .int .i64 1, .pointer (some ⟨p, 3, none⟩), .int .i64 0, .int .i64 65280, .int .i64 65280] 111))) := Lib.hid (by
    intro W x
    have hn : fldN k = 2 := by subst hk <;> rfl
    refine ⟨W.heap.size, 0, by rw [hn], fld_new W _ p k ?_, x.size, x.trans (Ext.alloc _ _)⟩
    rw [hn]
    refine all_2.2 ?_
    subst hk <;> (repeat' constructor))
  clear hk
  go_enter Tryz.func101, Tryz.ntmps101
  go_wp2_with fail
  have hs : Ext w w.drew := Ext.drew _
  refine wp_region_held_drew (S := fun W => Ext w W) (by kernel_rfl) hs (fun _ => ?_)
  refine wpAnyH_takeD (i := 0) (d := 3) (v := .pointer (some ⟨p, 0, none⟩)) rfl rfl (by kernel_rfl) (by kernel_rfl) (by kernel_rfl) (fun _ _ _ h => h) (Or.inl ⟨by rfl, fun W hW => by go_simp⟩) hs ?_
  simp only [Act.put, List.setIfInBounds_toArray, List.set_cons_succ, List.set_cons_zero]
  refine wpAnyH_takeD (i := 1) (d := 4) (v := .pointer (some ⟨p, 0, none⟩)) rfl rfl (by kernel_rfl) (by kernel_rfl) (by kernel_rfl) (fun _ _ _ h => h) (Or.inl ⟨by rfl, fun W hW => by go_simp⟩) hs ?_
  simp only [Act.put, List.setIfInBounds_toArray, List.set_cons_succ, List.set_cons_zero]
  refine wpAnyH_takeD (i := 2) (d := 5) (v := .pointer (some ⟨p, 1, none⟩)) rfl rfl (by kernel_rfl) (by kernel_rfl) (by kernel_rfl) (fun _ _ _ h => h) (Or.inl ⟨by rfl, fun W hW => by go_simp⟩) hs ?_
  simp only [Act.put, List.setIfInBounds_toArray, List.set_cons_succ, List.set_cons_zero]
  refine wpAnyH_takeD (i := 4) (d := 7) (v := .pointer (some ⟨p, 0, none⟩)) rfl rfl (by kernel_rfl) (by kernel_rfl) (by kernel_rfl) (fun _ _ _ h => h) (Or.inl ⟨by rfl, fun W hW => by go_simp⟩) hs ?_
  simp only [Act.put, List.setIfInBounds_toArray, List.set_cons_succ, List.set_cons_zero]
  refine wpAnyH_takeD (i := 5) (d := 8) (v := .pointer (some ⟨p, 0, none⟩)) rfl rfl (by kernel_rfl) (by kernel_rfl) (by kernel_rfl) (fun _ _ _ h => h) (Or.inl ⟨by rfl, fun W hW => by go_simp⟩) hs ?_
  simp only [Act.put, List.setIfInBounds_toArray, List.set_cons_succ, List.set_cons_zero]
  refine wpAnyH_takeD (i := 6) (d := 9) (v := .pointer (some ⟨p, 3, none⟩)) rfl rfl (by kernel_rfl) (by kernel_rfl) (by kernel_rfl) (fun _ _ _ h => h) (Or.inl ⟨by rfl, fun W hW => by go_simp⟩) hs ?_
  simp only [Act.put, List.setIfInBounds_toArray, List.set_cons_succ, List.set_cons_zero]
  refine wpAnyH_takeD (i := 7) (d := 10) (v := .agg #[.pointer (some ⟨p, 3, none⟩), .int .i64 0, .int .i64 65280, .int .i64 65280]) rfl rfl (by kernel_rfl) (by kernel_rfl) (by kernel_rfl) (fun _ _ _ h => h) (Or.inl ⟨by rfl, fun W hW => by go_simp⟩) hs ?_
  simp only [Act.put, List.setIfInBounds_toArray, List.set_cons_succ, List.set_cons_zero]
  refine wpAnyH_ready (rs := [3]) (by kernel_rfl) (by simp) (AllReadyH.cons rfl (fun K hK => ?_) AllReadyH.nil)
  go_simp
  go_at_call 133
  refine (free_v _ _).mono ?_; rintro e Wc ⟨rfl, y⟩
  go_wp2_with fail
  refine hK.out _ _ (hs.trans y) (fun hs => ?_)
  clear hK K y
  refine wpAnyH_ready (rs := [8]) (by kernel_rfl) (by simp) (AllReadyH.cons rfl (fun K hK => ?_) AllReadyH.nil)
  go_simp
  have hq := hs
  refine hK.out _ _ (hs.trans (Ext.alloc _ _)) (fun hs => ?_)
  clear hK K
  refine wpAnyH_takeD (i := 9) (d := 2) (v := .slice (some ⟨Wc.heap.size, 0, none⟩) 2 2) rfl rfl (by kernel_rfl) (by kernel_rfl) (by kernel_rfl) (fun _ _ _ h => h) (Or.inl ⟨by rfl, fun W hW => by go_simp⟩) hs ?_
  simp only [Act.put, List.setIfInBounds_toArray, List.set_cons_succ, List.set_cons_zero]
  refine wpAnyH_done (by kernel_rfl) ?_ _
  go_wp2
  go_ret
  exact HF.out _ hq
set_option maxHeartbeats 2000000 in
theorem fld_setReg (p : Nat) (k : Int) (hk : k = 6) (w : World) : Calls Tryz.prog 102 #[.pointer (some ⟨p, 0, none⟩)] w (FldP p k w) := by
  have HF : Hid (∀ W, Ext w W → FldP p k w (.returned (.slice (some ⟨W.heap.size, 0, none⟩) 2 2)) (W.alloc (.cells #[.pointer (some ⟨p, 1, none⟩), .int .i64 0, .int .i64 65535, .int .i64 1, .pointer (some ⟨p, 3, none⟩), .int .i64 0, .int .i64 65535, .int .i64 1] 111))) := Lib.hid (by
    intro W x
    have hn : fldN k = 2 := by subst hk <;> rfl
    refine ⟨W.heap.size, 0, by rw [hn], fld_new W _ p k ?_, x.size, x.trans (Ext.alloc _ _)⟩
    rw [hn]
    refine all_2.2 ?_
    subst hk <;> (repeat' constructor))
  clear hk
  go_enter Tryz.func102, Tryz.ntmps102
  go_wp2_with fail
  have hs : Ext w w.drew := Ext.drew _
  refine wp_region_held_drew (S := fun W => Ext w W) (by kernel_rfl) hs (fun _ => ?_)
  refine wpAnyH_takeD (i := 0) (d := 3) (v := .pointer (some ⟨p, 0, none⟩)) rfl rfl (by kernel_rfl) (by kernel_rfl) (by kernel_rfl) (fun _ _ _ h => h) (Or.inl ⟨by rfl, fun W hW => by go_simp⟩) hs ?_
  simp only [Act.put, List.setIfInBounds_toArray, List.set_cons_succ, List.set_cons_zero]
  refine wpAnyH_takeD (i := 1) (d := 4) (v := .pointer (some ⟨p, 0, none⟩)) rfl rfl (by kernel_rfl) (by kernel_rfl) (by kernel_rfl) (fun _ _ _ h => h) (Or.inl ⟨by rfl, fun W hW => by go_simp⟩) hs ?_
  simp only [Act.put, List.setIfInBounds_toArray, List.set_cons_succ, List.set_cons_zero]
  refine wpAnyH_takeD (i := 2) (d := 5) (v := .pointer (some ⟨p, 1, none⟩)) rfl rfl (by kernel_rfl) (by kernel_rfl) (by kernel_rfl) (fun _ _ _ h => h) (Or.inl ⟨by rfl, fun W hW => by go_simp⟩) hs ?_
  simp only [Act.put, List.setIfInBounds_toArray, List.set_cons_succ, List.set_cons_zero]
  refine wpAnyH_takeD (i := 4) (d := 7) (v := .pointer (some ⟨p, 0, none⟩)) rfl rfl (by kernel_rfl) (by kernel_rfl) (by kernel_rfl) (fun _ _ _ h => h) (Or.inl ⟨by rfl, fun W hW => by go_simp⟩) hs ?_
  simp only [Act.put, List.setIfInBounds_toArray, List.set_cons_succ, List.set_cons_zero]
  refine wpAnyH_takeD (i := 5) (d := 8) (v := .pointer (some ⟨p, 0, none⟩)) rfl rfl (by kernel_rfl) (by kernel_rfl) (by kernel_rfl) (fun _ _ _ h => h) (Or.inl ⟨by rfl, fun W hW => by go_simp⟩) hs ?_
  simp only [Act.put, List.setIfInBounds_toArray, List.set_cons_succ, List.set_cons_zero]
  refine wpAnyH_takeD (i := 6) (d := 9) (v := .pointer (some ⟨p, 3, none⟩)) rfl rfl (by kernel_rfl) (by kernel_rfl) (by kernel_rfl) (fun _ _ _ h => h) (Or.inl ⟨by rfl, fun W hW => by go_simp⟩) hs ?_
  simp only [Act.put, List.setIfInBounds_toArray, List.set_cons_succ, List.set_cons_zero]
  refine wpAnyH_ready (rs := [3]) (by kernel_rfl) (by simp) (AllReadyH.cons rfl (fun K hK => ?_) AllReadyH.nil)
  go_simp
  go_at_call 133
  refine (free_v _ _).mono ?_; rintro e Wc ⟨rfl, y⟩
  go_wp2_with fail
  refine hK.out _ _ (hs.trans y) (fun hs => ?_)
  clear hK K y
  refine wpAnyH_ready (rs := [7]) (by kernel_rfl) (by simp) (AllReadyH.cons rfl (fun K hK => ?_) AllReadyH.nil)
  go_simp
  go_at_call 133
  refine (free_v _ _).mono ?_; rintro e Wc ⟨rfl, y⟩
  go_wp2_with fail
  refine hK.out _ _ (hs.trans y) (fun hs => ?_)
  clear hK K y
  refine wpAnyH_ready (rs := [8]) (by kernel_rfl) (by simp) (AllReadyH.cons rfl (fun K hK => ?_) AllReadyH.nil)
  go_simp
  have hq := hs
  refine hK.out _ _ (hs.trans (Ext.alloc _ _)) (fun hs => ?_)
  clear hK K
  refine wpAnyH_takeD (i := 9) (d := 2) (v := .slice (some ⟨Wc.heap.size, 0, none⟩) 2 2) rfl rfl (by kernel_rfl) (by kernel_rfl) (by kernel_rfl) (fun _ _ _ h => h) (Or.inl ⟨by rfl, fun W hW => by go_simp⟩) hs ?_
  simp only [Act.put, List.setIfInBounds_toArray, List.set_cons_succ, List.set_cons_zero]
  refine wpAnyH_done (by kernel_rfl) ?_ _
  go_wp2
  go_ret
  exact HF.out _ hq
set_option maxHeartbeats 2000000 in
theorem fld_setBits (p : Nat) (k : Int) (hk : k = 15) (w : World) : Calls Tryz.prog 103 #[.pointer (some ⟨p, 0, none⟩)] w (FldP p k w) := by
  have HF : Hid (∀ W, Ext w W → FldP p k w (.returned (.slice (some ⟨W.heap.size, 0, none⟩) 2 2)) (W.alloc (.cells #[.pointer (some ⟨p, 1, none⟩), .int .i64 0, .int .i64 65535, .int .i64 1, .pointer (some ⟨p, 2, none⟩), .int .i64 1, .int .i64 1968, .int .i64 1] 111))) := Lib.hid (by
    intro W x
    have hn : fldN k = 2 := by subst hk <;> rfl
    refine ⟨W.heap.size, 0, by rw [hn], fld_new W _ p k ?_, x.size, x.trans (Ext.alloc _ _)⟩
    rw [hn]
    refine all_2.2 ?_
    subst hk <;> (repeat' constructor))
  clear hk
  go_enter Tryz.func103, Tryz.ntmps103
  go_wp2_with fail
  have hs : Ext w w.drew := Ext.drew _
  refine wp_region_held_drew (S := fun W => Ext w W) (by kernel_rfl) hs (fun _ => ?_)
  refine wpAnyH_takeD (i := 0) (d := 3) (v := .pointer (some ⟨p, 0, none⟩)) rfl rfl (by kernel_rfl) (by kernel_rfl) (by kernel_rfl) (fun _ _ _ h => h) (Or.inl ⟨by rfl, fun W hW => by go_simp⟩) hs ?_
  simp only [Act.put, List.setIfInBounds_toArray, List.set_cons_succ, List.set_cons_zero]
  refine wpAnyH_takeD (i := 1) (d := 4) (v := .pointer (some ⟨p, 0, none⟩)) rfl rfl (by kernel_rfl) (by kernel_rfl) (by kernel_rfl) (fun _ _ _ h => h) (Or.inl ⟨by rfl, fun W hW => by go_simp⟩) hs ?_
  simp only [Act.put, List.setIfInBounds_toArray, List.set_cons_succ, List.set_cons_zero]
  refine wpAnyH_takeD (i := 2) (d := 5) (v := .pointer (some ⟨p, 1, none⟩)) rfl rfl (by kernel_rfl) (by kernel_rfl) (by kernel_rfl) (fun _ _ _ h => h) (Or.inl ⟨by rfl, fun W hW => by go_simp⟩) hs ?_
  simp only [Act.put, List.setIfInBounds_toArray, List.set_cons_succ, List.set_cons_zero]
  refine wpAnyH_takeD (i := 4) (d := 7) (v := .pointer (some ⟨p, 0, none⟩)) rfl rfl (by kernel_rfl) (by kernel_rfl) (by kernel_rfl) (fun _ _ _ h => h) (Or.inl ⟨by rfl, fun W hW => by go_simp⟩) hs ?_
  simp only [Act.put, List.setIfInBounds_toArray, List.set_cons_succ, List.set_cons_zero]
  refine wpAnyH_takeD (i := 5) (d := 8) (v := .pointer (some ⟨p, 0, none⟩)) rfl rfl (by kernel_rfl) (by kernel_rfl) (by kernel_rfl) (fun _ _ _ h => h) (Or.inl ⟨by rfl, fun W hW => by go_simp⟩) hs ?_
  simp only [Act.put, List.setIfInBounds_toArray, List.set_cons_succ, List.set_cons_zero]
  refine wpAnyH_takeD (i := 6) (d := 9) (v := .pointer (some ⟨p, 2, none⟩)) rfl rfl (by kernel_rfl) (by kernel_rfl) (by kernel_rfl) (fun _ _ _ h => h) (Or.inl ⟨by rfl, fun W hW => by go_simp⟩) hs ?_
  simp only [Act.put, List.setIfInBounds_toArray, List.set_cons_succ, List.set_cons_zero]
  refine wpAnyH_ready (rs := [3]) (by kernel_rfl) (by simp) (AllReadyH.cons rfl (fun K hK => ?_) AllReadyH.nil)
  go_simp
  go_at_call 133
  refine (free_v _ _).mono ?_; rintro e Wc ⟨rfl, y⟩
  go_wp2_with fail
  refine hK.out _ _ (hs.trans y) (fun hs => ?_)
  clear hK K y
  refine wpAnyH_ready (rs := [7]) (by kernel_rfl) (by simp) (AllReadyH.cons rfl (fun K hK => ?_) AllReadyH.nil)
  go_simp
  go_at_call 134
  refine (amount_v _ _ _).mono ?_; rintro e Wc ⟨rfl, y⟩
  go_wp2_with fail
  refine hK.out _ _ (hs.trans y) (fun hs => ?_)
  clear hK K y
  refine wpAnyH_ready (rs := [8]) (by kernel_rfl) (by simp) (AllReadyH.cons rfl (fun K hK => ?_) AllReadyH.nil)
  go_simp
  have hq := hs
  refine hK.out _ _ (hs.trans (Ext.alloc _ _)) (fun hs => ?_)
  clear hK K
  refine wpAnyH_takeD (i := 9) (d := 2) (v := .slice (some ⟨Wc.heap.size, 0, none⟩) 2 2) rfl rfl (by kernel_rfl) (by kernel_rfl) (by kernel_rfl) (fun _ _ _ h => h) (Or.inl ⟨by rfl, fun W hW => by go_simp⟩) hs ?_
  simp only [Act.put, List.setIfInBounds_toArray, List.set_cons_succ, List.set_cons_zero]
  refine wpAnyH_done (by kernel_rfl) ?_ _
  go_wp2
  go_ret
  exact HF.out _ hq
set_option maxHeartbeats 2000000 in
theorem fld_setRegs (p : Nat) (k : Int) (hk : k = 16) (w : World) : Calls Tryz.prog 104 #[.pointer (some ⟨p, 0, none⟩)] w (FldP p k w) := by
  have HF : Hid (∀ W, Ext w W → FldP p k w (.returned (.slice (some ⟨W.heap.size, 0, none⟩) 2 2)) (W.alloc (.cells #[.pointer (some ⟨p, 1, none⟩), .int .i64 0, .int .i64 65535, .int .i64 1, .pointer (some ⟨p, 2, none⟩), .int .i64 1, .int .i64 123, .int .i64 1] 111))) := Lib.hid (by
    intro W x
    have hn : fldN k = 2 := by subst hk <;> rfl
    refine ⟨W.heap.size, 0, by rw [hn], fld_new W _ p k ?_, x.size, x.trans (Ext.alloc _ _)⟩
    rw [hn]
    refine all_2.2 ?_
    subst hk <;> (repeat' constructor))
  clear hk
  go_enter Tryz.func104, Tryz.ntmps104
  go_wp2_with fail
  have hs : Ext w w.drew := Ext.drew _
  refine wp_region_held_drew (S := fun W => Ext w W) (by kernel_rfl) hs (fun _ => ?_)
  refine wpAnyH_takeD (i := 0) (d := 3) (v := .pointer (some ⟨p, 0, none⟩)) rfl rfl (by kernel_rfl) (by kernel_rfl) (by kernel_rfl) (fun _ _ _ h => h) (Or.inl ⟨by rfl, fun W hW => by go_simp⟩) hs ?_
  simp only [Act.put, List.setIfInBounds_toArray, List.set_cons_succ, List.set_cons_zero]
  refine wpAnyH_takeD (i := 1) (d := 4) (v := .pointer (some ⟨p, 0, none⟩)) rfl rfl (by kernel_rfl) (by kernel_rfl) (by kernel_rfl) (fun _ _ _ h => h) (Or.inl ⟨by rfl, fun W hW => by go_simp⟩) hs ?_
  simp only [Act.put, List.setIfInBounds_toArray, List.set_cons_succ, List.set_cons_zero]
  refine wpAnyH_takeD (i := 2) (d := 5) (v := .pointer (some ⟨p, 1, none⟩)) rfl rfl (by kernel_rfl) (by kernel_rfl) (by kernel_rfl) (fun _ _ _ h => h) (Or.inl ⟨by rfl, fun W hW => by go_simp⟩) hs ?_
  simp only [Act.put, List.setIfInBounds_toArray, List.set_cons_succ, List.set_cons_zero]
  refine wpAnyH_takeD (i := 4) (d := 7) (v := .pointer (some ⟨p, 0, none⟩)) rfl rfl (by kernel_rfl) (by kernel_rfl) (by kernel_rfl) (fun _ _ _ h => h) (Or.inl ⟨by rfl, fun W hW => by go_simp⟩) hs ?_
  simp only [Act.put, List.setIfInBounds_toArray, List.set_cons_succ, List.set_cons_zero]
  refine wpAnyH_takeD (i := 5) (d := 8) (v := .pointer (some ⟨p, 0, none⟩)) rfl rfl (by kernel_rfl) (by kernel_rfl) (by kernel_rfl) (fun _ _ _ h => h) (Or.inl ⟨by rfl, fun W hW => by go_simp⟩) hs ?_
  simp only [Act.put, List.setIfInBounds_toArray, List.set_cons_succ, List.set_cons_zero]
  refine wpAnyH_takeD (i := 6) (d := 9) (v := .pointer (some ⟨p, 2, none⟩)) rfl rfl (by kernel_rfl) (by kernel_rfl) (by kernel_rfl) (fun _ _ _ h => h) (Or.inl ⟨by rfl, fun W hW => by go_simp⟩) hs ?_
  simp only [Act.put, List.setIfInBounds_toArray, List.set_cons_succ, List.set_cons_zero]
  refine wpAnyH_ready (rs := [3]) (by kernel_rfl) (by simp) (AllReadyH.cons rfl (fun K hK => ?_) AllReadyH.nil)
  go_simp
  go_at_call 133
  refine (free_v _ _).mono ?_; rintro e Wc ⟨rfl, y⟩
  go_wp2_with fail
  refine hK.out _ _ (hs.trans y) (fun hs => ?_)
  clear hK K y
  refine wpAnyH_ready (rs := [7]) (by kernel_rfl) (by simp) (AllReadyH.cons rfl (fun K hK => ?_) AllReadyH.nil)
  go_simp
  go_at_call 134
  refine (amount_v _ _ _).mono ?_; rintro e Wc ⟨rfl, y⟩
  go_wp2_with fail
  refine hK.out _ _ (hs.trans y) (fun hs => ?_)
  clear hK K y
  refine wpAnyH_ready (rs := [8]) (by kernel_rfl) (by simp) (AllReadyH.cons rfl (fun K hK => ?_) AllReadyH.nil)
  go_simp
  have hq := hs
  refine hK.out _ _ (hs.trans (Ext.alloc _ _)) (fun hs => ?_)
  clear hK K
  refine wpAnyH_takeD (i := 9) (d := 2) (v := .slice (some ⟨Wc.heap.size, 0, none⟩) 2 2) rfl rfl (by kernel_rfl) (by kernel_rfl) (by kernel_rfl) (fun _ _ _ h => h) (Or.inl ⟨by rfl, fun W hW => by go_simp⟩) hs ?_
  simp only [Act.put, List.setIfInBounds_toArray, List.set_cons_succ, List.set_cons_zero]
  refine wpAnyH_done (by kernel_rfl) ?_ _
  go_wp2
  go_ret
  exact HF.out _ hq
set_option maxHeartbeats 2000000 in
theorem fld_mask (p : Nat) (k : Int) (hk : k = 22) (w : World) : Calls Tryz.prog 105 #[.pointer (some ⟨p, 0, none⟩)] w (FldP p k w) := by
  have HF : Hid (∀ W, Ext w W → FldP p k w (.returned (.slice (some ⟨W.heap.size, 0, none⟩) 3 3)) (W.alloc (.cells #[.pointer (some ⟨p, 1, none⟩), .int .i64 0, .int .i64 65535, .int .i64 1, .pointer (some ⟨p, 4, none⟩), .int .i64 0, .int .i64 65535, .int .i64 1, .pointer (some ⟨p, 5, none⟩), .int .i64 0, .int .i64 65535, .int .i64 1] 111))) := Lib.hid (by
    intro W x
    have hn : fldN k = 3 := by subst hk <;> rfl
    refine ⟨W.heap.size, 0, by rw [hn], fld_new W _ p k ?_, x.size, x.trans (Ext.alloc _ _)⟩
    rw [hn]
    refine all_3.2 ?_
    subst hk <;> (repeat' constructor))
  clear hk
  go_enter Tryz.func105, Tryz.ntmps105
  go_wp2_with fail
  have hs : Ext w w.drew := Ext.drew _
  refine wp_region_held_drew (S := fun W => Ext w W) (by kernel_rfl) hs (fun _ => ?_)
  refine wpAnyH_takeD (i := 0) (d := 3) (v := .pointer (some ⟨p, 0, none⟩)) rfl rfl (by kernel_rfl) (by kernel_rfl) (by kernel_rfl) (fun _ _ _ h => h) (Or.inl ⟨by rfl, fun W hW => by go_simp⟩) hs ?_
  simp only [Act.put, List.setIfInBounds_toArray, List.set_cons_succ, List.set_cons_zero]
  refine wpAnyH_takeD (i := 1) (d := 4) (v := .pointer (some ⟨p, 0, none⟩)) rfl rfl (by kernel_rfl) (by kernel_rfl) (by kernel_rfl) (fun _ _ _ h => h) (Or.inl ⟨by rfl, fun W hW => by go_simp⟩) hs ?_
  simp only [Act.put, List.setIfInBounds_toArray, List.set_cons_succ, List.set_cons_zero]
  refine wpAnyH_takeD (i := 2) (d := 5) (v := .pointer (some ⟨p, 1, none⟩)) rfl rfl (by kernel_rfl) (by kernel_rfl) (by kernel_rfl) (fun _ _ _ h => h) (Or.inl ⟨by rfl, fun W hW => by go_simp⟩) hs ?_
  simp only [Act.put, List.setIfInBounds_toArray, List.set_cons_succ, List.set_cons_zero]
  refine wpAnyH_takeD (i := 4) (d := 7) (v := .pointer (some ⟨p, 0, none⟩)) rfl rfl (by kernel_rfl) (by kernel_rfl) (by kernel_rfl) (fun _ _ _ h => h) (Or.inl ⟨by rfl, fun W hW => by go_simp⟩) hs ?_
  simp only [Act.put, List.setIfInBounds_toArray, List.set_cons_succ, List.set_cons_zero]
  refine wpAnyH_takeD (i := 5) (d := 8) (v := .pointer (some ⟨p, 0, none⟩)) rfl rfl (by kernel_rfl) (by kernel_rfl) (by kernel_rfl) (fun _ _ _ h => h) (Or.inl ⟨by rfl, fun W hW => by go_simp⟩) hs ?_
  simp only [Act.put, List.setIfInBounds_toArray, List.set_cons_succ, List.set_cons_zero]
  refine wpAnyH_takeD (i := 6) (d := 9) (v := .pointer (some ⟨p, 4, none⟩)) rfl rfl (by kernel_rfl) (by kernel_rfl) (by kernel_rfl) (fun _ _ _ h => h) (Or.inl ⟨by rfl, fun W hW => by go_simp⟩) hs ?_
  simp only [Act.put, List.setIfInBounds_toArray, List.set_cons_succ, List.set_cons_zero]
  refine wpAnyH_takeD (i := 8) (d := 11) (v := .pointer (some ⟨p, 0, none⟩)) rfl rfl (by kernel_rfl) (by kernel_rfl) (by kernel_rfl) (fun _ _ _ h => h) (Or.inl ⟨by rfl, fun W hW => by go_simp⟩) hs ?_
  simp only [Act.put, List.setIfInBounds_toArray, List.set_cons_succ, List.set_cons_zero]
  refine wpAnyH_takeD (i := 9) (d := 12) (v := .pointer (some ⟨p, 0, none⟩)) rfl rfl (by kernel_rfl) (by kernel_rfl) (by kernel_rfl) (fun _ _ _ h => h) (Or.inl ⟨by rfl, fun W hW => by go_simp⟩) hs ?_
  simp only [Act.put, List.setIfInBounds_toArray, List.set_cons_succ, List.set_cons_zero]
  refine wpAnyH_takeD (i := 10) (d := 13) (v := .pointer (some ⟨p, 5, none⟩)) rfl rfl (by kernel_rfl) (by kernel_rfl) (by kernel_rfl) (fun _ _ _ h => h) (Or.inl ⟨by rfl, fun W hW => by go_simp⟩) hs ?_
  simp only [Act.put, List.setIfInBounds_toArray, List.set_cons_succ, List.set_cons_zero]
  refine wpAnyH_ready (rs := [3]) (by kernel_rfl) (by simp) (AllReadyH.cons rfl (fun K hK => ?_) AllReadyH.nil)
  go_simp
  go_at_call 133
  refine (free_v _ _).mono ?_; rintro e Wc ⟨rfl, y⟩
  go_wp2_with fail
  refine hK.out _ _ (hs.trans y) (fun hs => ?_)
  clear hK K y
  refine wpAnyH_ready (rs := [7]) (by kernel_rfl) (by simp) (AllReadyH.cons rfl (fun K hK => ?_) AllReadyH.nil)
  go_simp
  go_at_call 133
  refine (free_v _ _).mono ?_; rintro e Wc ⟨rfl, y⟩
  go_wp2_with fail
  refine hK.out _ _ (hs.trans y) (fun hs => ?_)
  clear hK K y
  refine wpAnyH_ready (rs := [11]) (by kernel_rfl) (by simp) (AllReadyH.cons rfl (fun K hK => ?_) AllReadyH.nil)
  go_simp
  go_at_call 133
  refine (free_v _ _).mono ?_; rintro e Wc ⟨rfl, y⟩
  go_wp2_with fail
  refine hK.out _ _ (hs.trans y) (fun hs => ?_)
  clear hK K y
  refine wpAnyH_ready (rs := [12]) (by kernel_rfl) (by simp) (AllReadyH.cons rfl (fun K hK => ?_) AllReadyH.nil)
  go_simp
  have hq := hs
  refine hK.out _ _ (hs.trans (Ext.alloc _ _)) (fun hs => ?_)
  clear hK K
  refine wpAnyH_takeD (i := 13) (d := 2) (v := .slice (some ⟨Wc.heap.size, 0, none⟩) 3 3) rfl rfl (by kernel_rfl) (by kernel_rfl) (by kernel_rfl) (fun _ _ _ h => h) (Or.inl ⟨by rfl, fun W hW => by go_simp⟩) hs ?_
  simp only [Act.put, List.setIfInBounds_toArray, List.set_cons_succ, List.set_cons_zero]
  refine wpAnyH_done (by kernel_rfl) ?_ _
  go_wp2
  go_ret
  exact HF.out _ hq
set_option maxHeartbeats 2000000 in
theorem fld_readSetRegs (p : Nat) (k : Int) (hk : k = 23) (w : World) : Calls Tryz.prog 106 #[.pointer (some ⟨p, 0, none⟩)] w (FldP p k w) := by
  have HF : Hid (∀ W, Ext w W → FldP p k w (.returned (.slice (some ⟨W.heap.size, 0, none⟩) 4 4)) (W.alloc (.cells #[.pointer (some ⟨p, 6, none⟩), .int .i64 0, .int .i64 65535, .int .i64 1, .pointer (some ⟨p, 7, none⟩), .int .i64 1, .int .i64 125, .int .i64 1, .pointer (some ⟨p, 1, none⟩), .int .i64 0, .int .i64 65535, .int .i64 1, .pointer (some ⟨p, 2, none⟩), .int .i64 1, .int .i64 121, .int .i64 1] 111))) := Lib.hid (by
    intro W x
    have hn : fldN k = 4 := by subst hk <;> rfl
    refine ⟨W.heap.size, 0, by rw [hn], fld_new W _ p k ?_, x.size, x.trans (Ext.alloc _ _)⟩
    rw [hn]
    refine all_4.2 ?_
    subst hk <;> (repeat' constructor))
  clear hk
  go_enter Tryz.func106, Tryz.ntmps106
  go_wp2_with fail
  have hs : Ext w w.drew := Ext.drew _
  refine wp_region_held_drew (S := fun W => Ext w W) (by kernel_rfl) hs (fun _ => ?_)
  refine wpAnyH_takeD (i := 0) (d := 3) (v := .pointer (some ⟨p, 0, none⟩)) rfl rfl (by kernel_rfl) (by kernel_rfl) (by kernel_rfl) (fun _ _ _ h => h) (Or.inl ⟨by rfl, fun W hW => by go_simp⟩) hs ?_
  simp only [Act.put, List.setIfInBounds_toArray, List.set_cons_succ, List.set_cons_zero]
  refine wpAnyH_takeD (i := 1) (d := 4) (v := .pointer (some ⟨p, 0, none⟩)) rfl rfl (by kernel_rfl) (by kernel_rfl) (by kernel_rfl) (fun _ _ _ h => h) (Or.inl ⟨by rfl, fun W hW => by go_simp⟩) hs ?_
  simp only [Act.put, List.setIfInBounds_toArray, List.set_cons_succ, List.set_cons_zero]
  refine wpAnyH_takeD (i := 2) (d := 5) (v := .pointer (some ⟨p, 6, none⟩)) rfl rfl (by kernel_rfl) (by kernel_rfl) (by kernel_rfl) (fun _ _ _ h => h) (Or.inl ⟨by rfl, fun W hW => by go_simp⟩) hs ?_
  simp only [Act.put, List.setIfInBounds_toArray, List.set_cons_succ, List.set_cons_zero]
  refine wpAnyH_takeD (i := 4) (d := 7) (v := .pointer (some ⟨p, 0, none⟩)) rfl rfl (by kernel_rfl) (by kernel_rfl) (by kernel_rfl) (fun _ _ _ h => h) (Or.inl ⟨by rfl, fun W hW => by go_simp⟩) hs ?_
  simp only [Act.put, List.setIfInBounds_toArray, List.set_cons_succ, List.set_cons_zero]
  refine wpAnyH_takeD (i := 5) (d := 8) (v := .pointer (some ⟨p, 0, none⟩)) rfl rfl (by kernel_rfl) (by kernel_rfl) (by kernel_rfl) (fun _ _ _ h => h) (Or.inl ⟨by rfl, fun W hW => by go_simp⟩) hs ?_
  simp only [Act.put, List.setIfInBounds_toArray, List.set_cons_succ, List.set_cons_zero]
  refine wpAnyH_takeD (i := 6) (d := 9) (v := .pointer (some ⟨p, 7, none⟩)) rfl rfl (by kernel_rfl) (by kernel_rfl) (by kernel_rfl) (fun _ _ _ h => h) (Or.inl ⟨by rfl, fun W hW => by go_simp⟩) hs ?_
  simp only [Act.put, List.setIfInBounds_toArray, List.set_cons_succ, List.set_cons_zero]
  refine wpAnyH_takeD (i := 8) (d := 11) (v := .pointer (some ⟨p, 0, none⟩)) rfl rfl (by kernel_rfl) (by kernel_rfl) (by kernel_rfl) (fun _ _ _ h => h) (Or.inl ⟨by rfl, fun W hW => by go_simp⟩) hs ?_
  simp only [Act.put, List.setIfInBounds_toArray, List.set_cons_succ, List.set_cons_zero]
  refine wpAnyH_takeD (i := 9) (d := 12) (v := .pointer (some ⟨p, 0, none⟩)) rfl rfl (by kernel_rfl) (by kernel_rfl) (by kernel_rfl) (fun _ _ _ h => h) (Or.inl ⟨by rfl, fun W hW => by go_simp⟩) hs ?_
  simp only [Act.put, List.setIfInBounds_toArray, List.set_cons_succ, List.set_cons_zero]
  refine wpAnyH_takeD (i := 10) (d := 13) (v := .pointer (some ⟨p, 1, none⟩)) rfl rfl (by kernel_rfl) (by kernel_rfl) (by kernel_rfl) (fun _ _ _ h => h) (Or.inl ⟨by rfl, fun W hW => by go_simp⟩) hs ?_
  simp only [Act.put, List.setIfInBounds_toArray, List.set_cons_succ, List.set_cons_zero]
  refine wpAnyH_takeD (i := 12) (d := 15) (v := .pointer (some ⟨p, 0, none⟩)) rfl rfl (by kernel_rfl) (by kernel_rfl) (by kernel_rfl) (fun _ _ _ h => h) (Or.inl ⟨by rfl, fun W hW => by go_simp⟩) hs ?_
  simp only [Act.put, List.setIfInBounds_toArray, List.set_cons_succ, List.set_cons_zero]
  refine wpAnyH_takeD (i := 13) (d := 16) (v := .pointer (some ⟨p, 0, none⟩)) rfl rfl (by kernel_rfl) (by kernel_rfl) (by kernel_rfl) (fun _ _ _ h => h) (Or.inl ⟨by rfl, fun W hW => by go_simp⟩) hs ?_
  simp only [Act.put, List.setIfInBounds_toArray, List.set_cons_succ, List.set_cons_zero]
  refine wpAnyH_takeD (i := 14) (d := 17) (v := .pointer (some ⟨p, 2, none⟩)) rfl rfl (by kernel_rfl) (by kernel_rfl) (by kernel_rfl) (fun _ _ _ h => h) (Or.inl ⟨by rfl, fun W hW => by go_simp⟩) hs ?_
  simp only [Act.put, List.setIfInBounds_toArray, List.set_cons_succ, List.set_cons_zero]
  refine wpAnyH_ready (rs := [3]) (by kernel_rfl) (by simp) (AllReadyH.cons rfl (fun K hK => ?_) AllReadyH.nil)
  go_simp
  go_at_call 133
  refine (free_v _ _).mono ?_; rintro e Wc ⟨rfl, y⟩
  go_wp2_with fail
  refine hK.out _ _ (hs.trans y) (fun hs => ?_)
  clear hK K y
  refine wpAnyH_ready (rs := [7]) (by kernel_rfl) (by simp) (AllReadyH.cons rfl (fun K hK => ?_) AllReadyH.nil)
  go_simp
  go_at_call 134
  refine (amount_v _ _ _).mono ?_; rintro e Wc ⟨rfl, y⟩
  go_wp2_with fail
  refine hK.out _ _ (hs.trans y) (fun hs => ?_)
  clear hK K y
  refine wpAnyH_ready (rs := [11]) (by kernel_rfl) (by simp) (AllReadyH.cons rfl (fun K hK => ?_) AllReadyH.nil)
  go_simp
  go_at_call 133
  refine (free_v _ _).mono ?_; rintro e Wc ⟨rfl, y⟩
  go_wp2_with fail
  refine hK.out _ _ (hs.trans y) (fun hs => ?_)
  clear hK K y
  refine wpAnyH_ready (rs := [15]) (by kernel_rfl) (by simp) (AllReadyH.cons rfl (fun K hK => ?_) AllReadyH.nil)
  go_simp
  go_at_call 134
  refine (amount_v _ _ _).mono ?_; rintro e Wc ⟨rfl, y⟩
  go_wp2_with fail
  refine hK.out _ _ (hs.trans y) (fun hs => ?_)
  clear hK K y
  refine wpAnyH_ready (rs := [16]) (by kernel_rfl) (by simp) (AllReadyH.cons rfl (fun K hK => ?_) AllReadyH.nil)
  go_simp
  have hq := hs
  refine hK.out _ _ (hs.trans (Ext.alloc _ _)) (fun hs => ?_)
  clear hK K
  refine wpAnyH_takeD (i := 17) (d := 2) (v := .slice (some ⟨Wc.heap.size, 0, none⟩) 4 4) rfl rfl (by kernel_rfl) (by kernel_rfl) (by kernel_rfl) (fun _ _ _ h => h) (Or.inl ⟨by rfl, fun W hW => by go_simp⟩) hs ?_
  simp only [Act.put, List.setIfInBounds_toArray, List.set_cons_succ, List.set_cons_zero]
  refine wpAnyH_done (by kernel_rfl) ?_ _
  go_wp2
  go_ret
  exact HF.out _ hq
end Go.Proofs.YtlafnobjfajamaaGreat
namespace Go.Proofs.YtlafnobjfajamaaGreat
open Go.RowKit
set_option linter.unusedVariables false
set_option maxRecDepth 100000

set_option maxHeartbeats 2000000 in
theorem sleqbool_any (a b : Option Addr) (n m c d : Nat) (f g : Nat → Bool) (w : World) (ha : HoldsG Value.bool w a n f) (hb : HoldsG Value.bool w b m g) (hn : n ≤ 1000000) (hm : m ≤ 1000000) :
    Calls Tryz.prog 96 #[.slice a n c, .slice b m d] w fun e w' => e = .returned (.bool (eqG n m f g)) ∧ ∃ q, w' = w.drewN q := by
  by_cases hnm : n = m
  · subst hnm
    go_enter Tryz.func96, Tryz.ntmps96
    go_wp2
    go_loopw [13] (fun i wr => ∃ j : Nat, j ≤ n ∧ i = .int .i64 j ∧ (∀ t, t < j → f t = g t) ∧ ∃ q, wr = w.drewN q) (fun i _ => n - (intOf i).toNat)
    case atStart => exact ⟨0, Nat.zero_le _, rfl, fun t ht => absurd ht (by omega), 0, rfl⟩
    case round =>
      obtain ⟨j, hj, rfl, hall0, q, rfl⟩ := hrel
      have hall := Lib.hid hall0
      clear hall0
      by_cases hlt : j < n
      · obtain ⟨p, o, rfl, hp, hc⟩ := ha.resolve_left (by omega)
        obtain ⟨p', o', rfl, hp', hc'⟩ := hb.resolve_left (by omega)
        have c1 := hc j hlt
        have c2 := hc' j hlt
        clear hc hc' ha hb
        obtain ⟨x, hx⟩ : ∃ x, x = f j := ⟨_, rfl⟩
        obtain ⟨y, hy⟩ : ∃ y, y = g j := ⟨_, rfl⟩
        rw [← hx] at c1
        rw [← hy] at c2
        have HX := Lib.hid hx
        have HY := Lib.hid hy
        clear hx hy
        by_cases hxy : x = y
        · cases x <;> cases y <;> (first | (cases hxy; done) | skip)
          all_goals
            clear hxy
            go_wp2
            go_quiet (fail)
            go_wp2
            go_roundw
            case rel => exact ⟨j + 1, by omega, by go_num, fun t ht => by rcases Nat.lt_or_ge t j with h | h; exact hall.out t h; obtain rfl : t = j := by omega
                                                                          exact HX.out.symm.trans HY.out, q + _, rfl⟩
            case measure => simp [intOf]; omega
        · have he := Lib.hid (eqG_false (n := n) (m := n) (f := f) (g := g) (.inr ⟨j, hlt, by rw [← HX.out, ← HY.out]; exact hxy⟩))
          cases x <;> cases y <;> (first | (exact absurd rfl hxy; done) | skip)
          all_goals
            clear hxy
            go_wp2
            go_quiet (fail)
            go_wp2
            go_ret
            exact ⟨ret_b he.out.symm, dr2 _ _ _⟩
      · have he := Lib.hid (eqG_true (n := n) (m := n) (f := f) (g := g) rfl (fun i hi => hall.out i (by omega)))
        clear ha hb
        go_wp2
        go_ret
        exact ⟨ret_b he.out.symm, _, rfl⟩
  · have he := Lib.hid (eqG_false (n := n) (m := m) (f := f) (g := g) (.inl hnm))
    clear ha hb
    go_enter Tryz.func96, Tryz.ntmps96
    go_wp2
    go_ret
    exact ⟨ret_b he.out.symm, 0, rfl⟩
set_option maxHeartbeats 2000000 in
theorem slequint16_any (a b : Option Addr) (n m c d : Nat) (f g : Nat → Int) (w : World) (ha : HoldsG (Value.int .u16) w a n f) (hb : HoldsG (Value.int .u16) w b m g) (hn : n ≤ 1000000) (hm : m ≤ 1000000) :
    Calls Tryz.prog 98 #[.slice a n c, .slice b m d] w fun e w' => e = .returned (.bool (eqB n m f g)) ∧ ∃ q, w' = w.drewN q := by
  by_cases hnm : n = m
  · subst hnm
    go_enter Tryz.func98, Tryz.ntmps98
    go_wp2
    go_loopw [13] (fun i wr => ∃ j : Nat, j ≤ n ∧ i = .int .i64 j ∧ (∀ t, t < j → f t = g t) ∧ ∃ q, wr = w.drewN q) (fun i _ => n - (intOf i).toNat)
    case atStart => exact ⟨0, Nat.zero_le _, rfl, fun t ht => absurd ht (by omega), 0, rfl⟩
    case round =>
      obtain ⟨j, hj, rfl, hall0, q, rfl⟩ := hrel
      have hall := Lib.hid hall0
      clear hall0
      by_cases hlt : j < n
      · obtain ⟨p, o, rfl, hp, hc⟩ := ha.resolve_left (by omega)
        obtain ⟨p', o', rfl, hp', hc'⟩ := hb.resolve_left (by omega)
        have c1 := hc j hlt
        have c2 := hc' j hlt
        clear hc hc' ha hb
        by_cases hfg : f j = g j
        · have hfe := Lib.hid hfg
          have hff : (f j != g j) = false := by simp [hfg]
          clear hfg
          go_wp2
          go_quiet (fail)
          go_wp2
          go_roundw
          case rel => exact ⟨j + 1, by omega, by go_num, fun t ht => by rcases Nat.lt_or_ge t j with h | h; exact hall.out t h; obtain rfl : t = j := by omega
                                                                        exact hfe.out, q + _, rfl⟩
          case measure => simp [intOf]; omega
        · have he := Lib.hid (eqB_false (n := n) (m := n) (f := f) (g := g) (.inr ⟨j, hlt, hfg⟩))
          have hff : (f j != g j) = true := by simp [hfg]
          clear hfg
          go_wp2
          go_quiet (fail)
          go_wp2
          go_ret
          exact ⟨by rw [he.out]; rfl, drewN_two _ _ _⟩
      · have he := Lib.hid (eqB_true (n := n) (m := n) (f := f) (g := g) rfl (fun i hi => hall.out i (by omega)))
        clear ha hb
        go_wp2
        go_ret
        exact ⟨by rw [he.out]; rfl, _, rfl⟩
  · have he := Lib.hid (eqB_false (n := n) (m := m) (f := f) (g := g) (.inl hnm))
    clear ha hb
    go_enter Tryz.func98, Tryz.ntmps98
    go_wp2
    go_ret
    exact ⟨by rw [he.out]; rfl, 0, rfl⟩
def numsL (Q : Qst) : Array Value := #[.int .i64 Q.k, .int .i64 Q.ad, .int .i64 Q.ct, .int .i64 Q.va, .int .i64 Q.an, .int .i64 Q.oo, .int .i64 Q.fr, .int .i64 Q.mn]
theorem Tryz.infoInt : (Tryz.prog.info? 3).map (fun i => (i.zero, i.size, i.bytes)) = some (some (.int .i64 0), 1, 8) := by kernel_rfl
theorem nums_run (F G : Qst) (w : World) : (binOp .eql 147 (.agg (numsL F)) (.agg (numsL G))).run Tryz.prog w = .ok (.bool (numsB F G)) w := by
  obtain ⟨i0, hi0, hz0, hz1, hz2⟩ := info_parts Tryz.infoInt
  have hc : Tryz.prog.cellsOf 3 = 1 := by kernel_rfl
  rw [run_eql_struct, run_equalIn_array w 9999 _ _ Tryz.underlying147 hi0, hc]
  have hi := Tryz.underlying3
  rw [show List.range 8 = [0, 1, 2, 3, 4, 5, 6, 7] from rfl]
  simp [Op.eqItems, go_sem, hi, numsL]
  by_cases h : numsB F G = true
  · rw [h]
    obtain ⟨h0, h1, h2, h3, h4, h5, h6, h7⟩ := (nums_iff F G).1 h
    rw [if_pos h0, if_pos h1, if_pos h2, if_pos h3, if_pos h4, if_pos h5, if_pos h6, if_pos h7]
  · have hf : numsB F G = false := by cases hb : numsB F G; rfl; exact absurd hb h
    rw [hf]
    repeat' split
    all_goals first | rfl | (rename_i h0 h1 h2 h3 h4 h5 h6 h7; exact absurd ((nums_iff F G).2 ⟨h0, h1, h2, h3, h4, h5, h6, h7⟩) h)
theorem nums_guard (x y : Operand) (xs ys : Array Value) (w : World) : (eqGuard .eql 147 x y (.agg xs) (.agg ys)).run Tryz.prog w = .ok () w :=
  run_eqGuard_agg w .eql _ x y xs ys (by kernel_rfl)
set_option maxHeartbeats 2000000 in
theorem numbers_v (V : QstV) (Q : Qst) (w : World) : Calls Tryz.prog 107 #[.agg (qstC V Q)] w fun e w' => e = .returned (.agg (numsL Q)) ∧ Ext w w' := by
  obtain ⟨k, ad, ct, va, an, oo, fr, mn, nb, B, nr, R⟩ := Q
  obtain ⟨a1, d1, a2, d2⟩ := V
  unfold qstC numsL
  dsimp only
  have e0 := (Ext.alloc w (.cells #[.int .i64 k, .int .i64 ad, .int .i64 ct, .int .i64 va, .int .i64 an, .int .i64 oo, .int .i64 fr, .int .i64 mn, .slice a1 nb d1, .slice a2 nr d2] 31)).trans (Ext.alloc _ (.cells #[.int .i64 0, .int .i64 0, .int .i64 0, .int .i64 0, .int .i64 0, .int .i64 0, .int .i64 0, .int .i64 0] 147))
  go_enter Tryz.func107, Tryz.ntmps107
  go_wp2_with (first
    | (refine wpList_store_row rfl 147 (.tmp 2) (.tmp 19) rfl _ _ rfl rfl 147 _ (heap_new_at _ _ (by first | rfl | simp)) (by kernel_rfl) rfl (by simp [Value.oneCell']) ?_))
  refine bodyPost_ret (results_cell_row rfl _ _ (w.heap.size + 1) 147 _ (0, 0) _ rfl (setRow_heap _ _ _ _ _ _ (heap_new_at _ _ (by simp))) Tryz.underlying147 rfl (by kernel_rfl)) rfl ?_
  exact ⟨by rfl, below_setRow e0 (by simp) _⟩
set_option maxHeartbeats 4000000 in
theorem asame_any (V : QstV) (F : Qst) (U : QstV) (G : Qst) (w : World) (h : QstAt w V F) (k : QstAt w U G) (f1 : F.nb ≤ 1000000) (f2 : F.nr ≤ 1000000) (g1 : G.nb ≤ 1000000) (g2 : G.nr ≤ 1000000) :
    Calls Tryz.prog 64 #[.agg (qstC V F), .agg (qstC U G)] w fun e w' => e = .returned (.bool (sameQ F G)) ∧ Ext w w' := by
  obtain ⟨W2, hW2, e0, HX⟩ : ∃ W2, W2 = (w.alloc (.cells (qstC V F) 31)).alloc (.cells (qstC U G) 31) ∧ Ext w W2 ∧ Hid (∀ W, Ext W2 W → W.heap[w.heap.size]? = some (.cells (qstC V F) 31 (0, 0)) ∧ W.heap[w.heap.size + 1]? = some (.cells (qstC U G) 31 (0, 0))) :=
    ⟨_, rfl, (Ext.alloc w _).trans (Ext.alloc _ _), Lib.hid fun W x => ⟨x.block ((heap_alloc_old _ _ (by simp)).trans (heap_alloc_new w _)), x.block (heap_new_at _ _ (by simp))⟩⟩
  have HC := Lib.hid (fun W (x : Ext W2 W) => (⟨cell_of_heap (HX.out W x).1 rfl, cell_of_heap (HX.out W x).2 rfl, cell_of_heap (HX.out W x).1 rfl, cell_of_heap (HX.out W x).2 rfl⟩ : W.cell? ⟨w.heap.size, 8, none⟩ = some (.slice V.a1 F.nb V.d1) ∧ W.cell? ⟨w.heap.size + 1, 8, none⟩ = some (.slice U.a1 G.nb U.d1) ∧ W.cell? ⟨w.heap.size, 9, none⟩ = some (.slice V.a2 F.nr V.d2) ∧ W.cell? ⟨w.heap.size + 1, 9, none⟩ = some (.slice U.a2 G.nr U.d2)))
  have K1 := Lib.hid (fun w' (hx : Ext w w') => (sleqbool_any V.a1 U.a1 F.nb G.nb V.d1 U.d1 F.B G.B w' (h.h1.ext hx) (k.h1.ext hx) f1 g1).mono fun _ _ h => (⟨h.1, Ext.of_drewN h.2⟩ : _ ∧ Ext w' _))
  have K2 := Lib.hid (fun w' (hx : Ext w w') => (slequint16_any V.a2 U.a2 F.nr G.nr V.d2 U.d2 F.R G.R w' (h.h2.ext hx) (k.h2.ext hx) f2 g2).mono fun _ _ h => (⟨h.1, Ext.of_drewN h.2⟩ : _ ∧ Ext w' _))
  have hq := fun w => nums_run F G w
  have hg := fun x y xs ys w => nums_guard x y xs ys w
  unfold sameQ
  generalize eqG F.nb G.nb F.B G.B = B1 at K1 ⊢
  generalize eqB F.nr G.nr F.R G.R = B2 at K2 ⊢
  generalize numsB F G = D at hq ⊢
  clear h k f1 f2 g1 g2
  cases D with
  | false =>
    rw [Bool.false_and, Bool.false_and]
    go_enter Tryz.func64, Tryz.ntmps64
    go_wp2_with fail
    rw [← hW2]
    clear hW2
    have hs : Ext W2 W2.drew := Ext.drew _
    refine wp_region_held_drew (S := fun W => Ext W2 W) (by kernel_rfl) hs (fun _ => ?_)
    refine wpAnyH_takeD (i := 0) (d := 5) rfl rfl (by kernel_rfl) (by kernel_rfl) (by kernel_rfl) (fun _ _ _ h => h) (yieldsIf_load_row (by rfl) 31 (.tmp 2) rfl (w.heap.size) rfl 31 _ (0, 0) _ (fun w' hw' => (HX.out _ hw').1) Tryz.underlying31 rfl (by kernel_rfl)) hs ?_
    simp only [Act.put, List.setIfInBounds_toArray, List.set_cons_succ, List.set_cons_zero]
    refine wpAnyH_takeD (i := 2) (d := 7) rfl rfl (by kernel_rfl) (by kernel_rfl) (by kernel_rfl) (fun _ _ _ h => h) (yieldsIf_load_row (by rfl) 31 (.tmp 3) rfl (w.heap.size + 1) rfl 31 _ (0, 0) _ (fun w' hw' => (HX.out _ hw').2) Tryz.underlying31 rfl (by kernel_rfl)) hs ?_
    simp only [Act.put, List.setIfInBounds_toArray, List.set_cons_succ, List.set_cons_zero]
    refine wpAnyH_ready (rs := [1]) (by kernel_rfl) (by simp) (AllReadyH.cons rfl (fun K hK => ?_) AllReadyH.nil)
    go_simp
    go_at_call 107
    refine (numbers_v V F _).mono ?_; rintro e Wc ⟨rfl, y⟩
    go_wp2_with fail
    refine hK.out _ _ (hs.trans y) (fun hs => ?_)
    clear hK K y
    refine wpAnyH_ready (rs := [3]) (by kernel_rfl) (by simp) (AllReadyH.cons rfl (fun K hK => ?_) AllReadyH.nil)
    go_simp
    go_at_call 107
    refine (numbers_v U G _).mono ?_; rintro e Wc ⟨rfl, y⟩
    go_wp2_with fail
    refine hK.out _ _ (hs.trans y) (fun hs => ?_)
    clear hK K y
    refine wpAnyH_takeD (i := 4) (d := 9) (v := .bool false) rfl rfl (by kernel_rfl) (by kernel_rfl) (by kernel_rfl) (fun _ _ _ h => h) (Or.inl ⟨by rfl, fun W hW => by go_simp⟩) hs ?_
    simp only [Act.put, List.setIfInBounds_toArray, List.set_cons_succ, List.set_cons_zero]
    refine wpAnyH_takeD (i := 5) (d := 10) (v := .bool false) rfl rfl (by kernel_rfl) (by kernel_rfl) (by kernel_rfl) (fun _ _ _ h => h) (Or.inl ⟨by rfl, fun W hW => by go_simp⟩) hs ?_
    simp only [Act.put, List.setIfInBounds_toArray, List.set_cons_succ, List.set_cons_zero]
    refine wpAnyH_takeD (i := 6) (d := 11) (v := undef) rfl rfl (by kernel_rfl) (by kernel_rfl) (by kernel_rfl) (fun _ _ _ h => h) (Or.inr ⟨by rfl, rfl⟩) hs ?_
    simp only [Act.put, List.setIfInBounds_toArray, List.set_cons_succ, List.set_cons_zero]
    refine wpAnyH_takeD (i := 7) (d := 12) (v := undef) rfl rfl (by kernel_rfl) (by kernel_rfl) (by kernel_rfl) (fun _ _ _ h => h) (Or.inr ⟨by rfl, rfl⟩) hs ?_
    simp only [Act.put, List.setIfInBounds_toArray, List.set_cons_succ, List.set_cons_zero]
    refine wpAnyH_takeD (i := 8) (d := 13) (v := undef) rfl rfl (by kernel_rfl) (by kernel_rfl) (by kernel_rfl) (fun _ _ _ h => h) (Or.inr ⟨by rfl, rfl⟩) hs ?_
    simp only [Act.put, List.setIfInBounds_toArray, List.set_cons_succ, List.set_cons_zero]
    refine wpAnyH_takeD (i := 9) (d := 14) (v := undef) rfl rfl (by kernel_rfl) (by kernel_rfl) (by kernel_rfl) (fun _ _ _ h => h) (Or.inr ⟨by rfl, rfl⟩) hs ?_
    simp only [Act.put, List.setIfInBounds_toArray, List.set_cons_succ, List.set_cons_zero]
    refine wpAnyH_takeD (i := 10) (d := 15) (v := undef) rfl rfl (by kernel_rfl) (by kernel_rfl) (by kernel_rfl) (fun _ _ _ h => h) (Or.inr ⟨by rfl, rfl⟩) hs ?_
    simp only [Act.put, List.setIfInBounds_toArray, List.set_cons_succ, List.set_cons_zero]
    refine wpAnyH_takeD (i := 11) (d := 16) (v := .bool false) rfl rfl (by kernel_rfl) (by kernel_rfl) (by kernel_rfl) (fun _ _ _ h => h) (Or.inl ⟨by rfl, fun W hW => by go_simp⟩) hs ?_
    simp only [Act.put, List.setIfInBounds_toArray, List.set_cons_succ, List.set_cons_zero]
    refine wpAnyH_takeD (i := 12) (d := 17) (v := .bool false) rfl rfl (by kernel_rfl) (by kernel_rfl) (by kernel_rfl) (fun _ _ _ h => h) (Or.inl ⟨by rfl, fun W hW => by go_simp⟩) hs ?_
    simp only [Act.put, List.setIfInBounds_toArray, List.set_cons_succ, List.set_cons_zero]
    refine wpAnyH_takeD (i := 13) (d := 18) (v := undef) rfl rfl (by kernel_rfl) (by kernel_rfl) (by kernel_rfl) (fun _ _ _ h => h) (Or.inr ⟨by rfl, rfl⟩) hs ?_
    simp only [Act.put, List.setIfInBounds_toArray, List.set_cons_succ, List.set_cons_zero]
    refine wpAnyH_takeD (i := 14) (d := 19) (v := undef) rfl rfl (by kernel_rfl) (by kernel_rfl) (by kernel_rfl) (fun _ _ _ h => h) (Or.inr ⟨by rfl, rfl⟩) hs ?_
    simp only [Act.put, List.setIfInBounds_toArray, List.set_cons_succ, List.set_cons_zero]
    refine wpAnyH_takeD (i := 15) (d := 20) (v := undef) rfl rfl (by kernel_rfl) (by kernel_rfl) (by kernel_rfl) (fun _ _ _ h => h) (Or.inr ⟨by rfl, rfl⟩) hs ?_
    simp only [Act.put, List.setIfInBounds_toArray, List.set_cons_succ, List.set_cons_zero]
    refine wpAnyH_takeD (i := 16) (d := 21) (v := undef) rfl rfl (by kernel_rfl) (by kernel_rfl) (by kernel_rfl) (fun _ _ _ h => h) (Or.inr ⟨by rfl, rfl⟩) hs ?_
    simp only [Act.put, List.setIfInBounds_toArray, List.set_cons_succ, List.set_cons_zero]
    refine wpAnyH_takeD (i := 17) (d := 22) (v := undef) rfl rfl (by kernel_rfl) (by kernel_rfl) (by kernel_rfl) (fun _ _ _ h => h) (Or.inr ⟨by rfl, rfl⟩) hs ?_
    simp only [Act.put, List.setIfInBounds_toArray, List.set_cons_succ, List.set_cons_zero]
    refine wpAnyH_takeD (i := 18) (d := 23) (v := .bool false) rfl rfl (by kernel_rfl) (by kernel_rfl) (by kernel_rfl) (fun _ _ _ h => h) (Or.inl ⟨by rfl, fun W hW => by go_simp⟩) hs ?_
    simp only [Act.put, List.setIfInBounds_toArray, List.set_cons_succ, List.set_cons_zero]
    refine wpAnyH_takeD (i := 19) (d := 4) (v := .bool false) rfl rfl (by kernel_rfl) (by kernel_rfl) (by kernel_rfl) (fun _ _ _ h => h) (Or.inl ⟨by rfl, fun W hW => by go_simp⟩) hs ?_
    simp only [Act.put, List.setIfInBounds_toArray, List.set_cons_succ, List.set_cons_zero]
    refine wpAnyH_done (by kernel_rfl) ?_ _
    go_wp2
    go_ret
    exact ⟨rfl, e0.trans hs⟩
  | true =>
   cases B1 with
   | false =>
    rw [Bool.true_and, Bool.false_and]
    go_enter Tryz.func64, Tryz.ntmps64
    go_wp2_with fail
    rw [← hW2]
    clear hW2
    have hs : Ext W2 W2.drew := Ext.drew _
    refine wp_region_held_drew (S := fun W => Ext W2 W) (by kernel_rfl) hs (fun _ => ?_)
    refine wpAnyH_takeD (i := 0) (d := 5) rfl rfl (by kernel_rfl) (by kernel_rfl) (by kernel_rfl) (fun _ _ _ h => h) (yieldsIf_load_row (by rfl) 31 (.tmp 2) rfl (w.heap.size) rfl 31 _ (0, 0) _ (fun w' hw' => (HX.out _ hw').1) Tryz.underlying31 rfl (by kernel_rfl)) hs ?_
    simp only [Act.put, List.setIfInBounds_toArray, List.set_cons_succ, List.set_cons_zero]
    refine wpAnyH_takeD (i := 2) (d := 7) rfl rfl (by kernel_rfl) (by kernel_rfl) (by kernel_rfl) (fun _ _ _ h => h) (yieldsIf_load_row (by rfl) 31 (.tmp 3) rfl (w.heap.size + 1) rfl 31 _ (0, 0) _ (fun w' hw' => (HX.out _ hw').2) Tryz.underlying31 rfl (by kernel_rfl)) hs ?_
    simp only [Act.put, List.setIfInBounds_toArray, List.set_cons_succ, List.set_cons_zero]
    refine wpAnyH_ready (rs := [1]) (by kernel_rfl) (by simp) (AllReadyH.cons rfl (fun K hK => ?_) AllReadyH.nil)
    go_simp
    go_at_call 107
    refine (numbers_v V F _).mono ?_; rintro e Wc ⟨rfl, y⟩
    go_wp2_with fail
    refine hK.out _ _ (hs.trans y) (fun hs => ?_)
    clear hK K y
    refine wpAnyH_ready (rs := [3]) (by kernel_rfl) (by simp) (AllReadyH.cons rfl (fun K hK => ?_) AllReadyH.nil)
    go_simp
    go_at_call 107
    refine (numbers_v U G _).mono ?_; rintro e Wc ⟨rfl, y⟩
    go_wp2_with fail
    refine hK.out _ _ (hs.trans y) (fun hs => ?_)
    clear hK K y
    refine wpAnyH_takeD (i := 4) (d := 9) (v := .bool true) rfl rfl (by kernel_rfl) (by kernel_rfl) (by kernel_rfl) (fun _ _ _ h => h) (Or.inl ⟨by rfl, fun W hW => by go_simp⟩) hs ?_
    simp only [Act.put, List.setIfInBounds_toArray, List.set_cons_succ, List.set_cons_zero]
    refine wpAnyH_takeD (i := 5) (d := 10) (v := .bool true) rfl rfl (by kernel_rfl) (by kernel_rfl) (by kernel_rfl) (fun _ _ _ h => h) (Or.inl ⟨by rfl, fun W hW => by go_simp⟩) hs ?_
    simp only [Act.put, List.setIfInBounds_toArray, List.set_cons_succ, List.set_cons_zero]
    refine wpAnyH_takeD (i := 6) (d := 11) (v := .pointer (some ⟨w.heap.size, 8, none⟩)) rfl rfl (by kernel_rfl) (by kernel_rfl) (by kernel_rfl) (fun _ _ _ h => h) (Or.inl ⟨by rfl, fun W hW => by go_simp⟩) hs ?_
    simp only [Act.put, List.setIfInBounds_toArray, List.set_cons_succ, List.set_cons_zero]
    refine wpAnyH_takeD (i := 7) (d := 12) (v := .slice V.a1 F.nb V.d1) rfl rfl (by kernel_rfl) (by kernel_rfl) (by kernel_rfl) (fun _ _ _ h => h) (Or.inl ⟨by rfl, fun W hW => by obtain ⟨c1, c2, c3, c4⟩ := HC.out W hW; go_simp⟩) hs ?_
    simp only [Act.put, List.setIfInBounds_toArray, List.set_cons_succ, List.set_cons_zero]
    refine wpAnyH_takeD (i := 8) (d := 13) (v := .pointer (some ⟨w.heap.size + 1, 8, none⟩)) rfl rfl (by kernel_rfl) (by kernel_rfl) (by kernel_rfl) (fun _ _ _ h => h) (Or.inl ⟨by rfl, fun W hW => by go_simp⟩) hs ?_
    simp only [Act.put, List.setIfInBounds_toArray, List.set_cons_succ, List.set_cons_zero]
    refine wpAnyH_takeD (i := 9) (d := 14) (v := .slice U.a1 G.nb U.d1) rfl rfl (by kernel_rfl) (by kernel_rfl) (by kernel_rfl) (fun _ _ _ h => h) (Or.inl ⟨by rfl, fun W hW => by obtain ⟨c1, c2, c3, c4⟩ := HC.out W hW; go_simp⟩) hs ?_
    simp only [Act.put, List.setIfInBounds_toArray, List.set_cons_succ, List.set_cons_zero]
    refine wpAnyH_ready (rs := [10]) (by kernel_rfl) (by simp) (AllReadyH.cons rfl (fun K hK => ?_) AllReadyH.nil)
    go_simp
    go_at_call 96
    refine (K1.out _ (e0.trans hs)).mono ?_; rintro e Wc ⟨rfl, y⟩
    go_wp2_with fail
    refine hK.out _ _ (hs.trans y) (fun hs => ?_)
    clear hK K y
    refine wpAnyH_takeD (i := 11) (d := 16) (v := .bool false) rfl rfl (by kernel_rfl) (by kernel_rfl) (by kernel_rfl) (fun _ _ _ h => h) (Or.inl ⟨by rfl, fun W hW => by go_simp⟩) hs ?_
    simp only [Act.put, List.setIfInBounds_toArray, List.set_cons_succ, List.set_cons_zero]
    refine wpAnyH_takeD (i := 12) (d := 17) (v := .bool false) rfl rfl (by kernel_rfl) (by kernel_rfl) (by kernel_rfl) (fun _ _ _ h => h) (Or.inl ⟨by rfl, fun W hW => by go_simp⟩) hs ?_
    simp only [Act.put, List.setIfInBounds_toArray, List.set_cons_succ, List.set_cons_zero]
    refine wpAnyH_takeD (i := 13) (d := 18) (v := undef) rfl rfl (by kernel_rfl) (by kernel_rfl) (by kernel_rfl) (fun _ _ _ h => h) (Or.inr ⟨by rfl, rfl⟩) hs ?_
    simp only [Act.put, List.setIfInBounds_toArray, List.set_cons_succ, List.set_cons_zero]
    refine wpAnyH_takeD (i := 14) (d := 19) (v := undef) rfl rfl (by kernel_rfl) (by kernel_rfl) (by kernel_rfl) (fun _ _ _ h => h) (Or.inr ⟨by rfl, rfl⟩) hs ?_
    simp only [Act.put, List.setIfInBounds_toArray, List.set_cons_succ, List.set_cons_zero]
    refine wpAnyH_takeD (i := 15) (d := 20) (v := undef) rfl rfl (by kernel_rfl) (by kernel_rfl) (by kernel_rfl) (fun _ _ _ h => h) (Or.inr ⟨by rfl, rfl⟩) hs ?_
    simp only [Act.put, List.setIfInBounds_toArray, List.set_cons_succ, List.set_cons_zero]
    refine wpAnyH_takeD (i := 16) (d := 21) (v := undef) rfl rfl (by kernel_rfl) (by kernel_rfl) (by kernel_rfl) (fun _ _ _ h => h) (Or.inr ⟨by rfl, rfl⟩) hs ?_
    simp only [Act.put, List.setIfInBounds_toArray, List.set_cons_succ, List.set_cons_zero]
    refine wpAnyH_takeD (i := 17) (d := 22) (v := undef) rfl rfl (by kernel_rfl) (by kernel_rfl) (by kernel_rfl) (fun _ _ _ h => h) (Or.inr ⟨by rfl, rfl⟩) hs ?_
    simp only [Act.put, List.setIfInBounds_toArray, List.set_cons_succ, List.set_cons_zero]
    refine wpAnyH_takeD (i := 18) (d := 23) (v := .bool false) rfl rfl (by kernel_rfl) (by kernel_rfl) (by kernel_rfl) (fun _ _ _ h => h) (Or.inl ⟨by rfl, fun W hW => by go_simp⟩) hs ?_
    simp only [Act.put, List.setIfInBounds_toArray, List.set_cons_succ, List.set_cons_zero]
    refine wpAnyH_takeD (i := 19) (d := 4) (v := .bool false) rfl rfl (by kernel_rfl) (by kernel_rfl) (by kernel_rfl) (fun _ _ _ h => h) (Or.inl ⟨by rfl, fun W hW => by go_simp⟩) hs ?_
    simp only [Act.put, List.setIfInBounds_toArray, List.set_cons_succ, List.set_cons_zero]
    refine wpAnyH_done (by kernel_rfl) ?_ _
    go_wp2
    go_ret
    exact ⟨rfl, e0.trans hs⟩
   | true =>
    rw [Bool.true_and, Bool.true_and]
    go_enter Tryz.func64, Tryz.ntmps64
    go_wp2_with fail
    rw [← hW2]
    clear hW2
    have hs : Ext W2 W2.drew := Ext.drew _
    refine wp_region_held_drew (S := fun W => Ext W2 W) (by kernel_rfl) hs (fun _ => ?_)
    refine wpAnyH_takeD (i := 0) (d := 5) rfl rfl (by kernel_rfl) (by kernel_rfl) (by kernel_rfl) (fun _ _ _ h => h) (yieldsIf_load_row (by rfl) 31 (.tmp 2) rfl (w.heap.size) rfl 31 _ (0, 0) _ (fun w' hw' => (HX.out _ hw').1) Tryz.underlying31 rfl (by kernel_rfl)) hs ?_
    simp only [Act.put, List.setIfInBounds_toArray, List.set_cons_succ, List.set_cons_zero]
    refine wpAnyH_takeD (i := 2) (d := 7) rfl rfl (by kernel_rfl) (by kernel_rfl) (by kernel_rfl) (fun _ _ _ h => h) (yieldsIf_load_row (by rfl) 31 (.tmp 3) rfl (w.heap.size + 1) rfl 31 _ (0, 0) _ (fun w' hw' => (HX.out _ hw').2) Tryz.underlying31 rfl (by kernel_rfl)) hs ?_
    simp only [Act.put, List.setIfInBounds_toArray, List.set_cons_succ, List.set_cons_zero]
    refine wpAnyH_ready (rs := [1]) (by kernel_rfl) (by simp) (AllReadyH.cons rfl (fun K hK => ?_) AllReadyH.nil)
    go_simp
    go_at_call 107
    refine (numbers_v V F _).mono ?_; rintro e Wc ⟨rfl, y⟩
    go_wp2_with fail
    refine hK.out _ _ (hs.trans y) (fun hs => ?_)
    clear hK K y
    refine wpAnyH_ready (rs := [3]) (by kernel_rfl) (by simp) (AllReadyH.cons rfl (fun K hK => ?_) AllReadyH.nil)
    go_simp
    go_at_call 107
    refine (numbers_v U G _).mono ?_; rintro e Wc ⟨rfl, y⟩
    go_wp2_with fail
    refine hK.out _ _ (hs.trans y) (fun hs => ?_)
    clear hK K y
    refine wpAnyH_takeD (i := 4) (d := 9) (v := .bool true) rfl rfl (by kernel_rfl) (by kernel_rfl) (by kernel_rfl) (fun _ _ _ h => h) (Or.inl ⟨by rfl, fun W hW => by go_simp⟩) hs ?_
    simp only [Act.put, List.setIfInBounds_toArray, List.set_cons_succ, List.set_cons_zero]
    refine wpAnyH_takeD (i := 5) (d := 10) (v := .bool true) rfl rfl (by kernel_rfl) (by kernel_rfl) (by kernel_rfl) (fun _ _ _ h => h) (Or.inl ⟨by rfl, fun W hW => by go_simp⟩) hs ?_
    simp only [Act.put, List.setIfInBounds_toArray, List.set_cons_succ, List.set_cons_zero]
    refine wpAnyH_takeD (i := 6) (d := 11) (v := .pointer (some ⟨w.heap.size, 8, none⟩)) rfl rfl (by kernel_rfl) (by kernel_rfl) (by kernel_rfl) (fun _ _ _ h => h) (Or.inl ⟨by rfl, fun W hW => by go_simp⟩) hs ?_
    simp only [Act.put, List.setIfInBounds_toArray, List.set_cons_succ, List.set_cons_zero]
    refine wpAnyH_takeD (i := 7) (d := 12) (v := .slice V.a1 F.nb V.d1) rfl rfl (by kernel_rfl) (by kernel_rfl) (by kernel_rfl) (fun _ _ _ h => h) (Or.inl ⟨by rfl, fun W hW => by obtain ⟨c1, c2, c3, c4⟩ := HC.out W hW; go_simp⟩) hs ?_
    simp only [Act.put, List.setIfInBounds_toArray, List.set_cons_succ, List.set_cons_zero]
    refine wpAnyH_takeD (i := 8) (d := 13) (v := .pointer (some ⟨w.heap.size + 1, 8, none⟩)) rfl rfl (by kernel_rfl) (by kernel_rfl) (by kernel_rfl) (fun _ _ _ h => h) (Or.inl ⟨by rfl, fun W hW => by go_simp⟩) hs ?_
    simp only [Act.put, List.setIfInBounds_toArray, List.set_cons_succ, List.set_cons_zero]
    refine wpAnyH_takeD (i := 9) (d := 14) (v := .slice U.a1 G.nb U.d1) rfl rfl (by kernel_rfl) (by kernel_rfl) (by kernel_rfl) (fun _ _ _ h => h) (Or.inl ⟨by rfl, fun W hW => by obtain ⟨c1, c2, c3, c4⟩ := HC.out W hW; go_simp⟩) hs ?_
    simp only [Act.put, List.setIfInBounds_toArray, List.set_cons_succ, List.set_cons_zero]
    refine wpAnyH_ready (rs := [10]) (by kernel_rfl) (by simp) (AllReadyH.cons rfl (fun K hK => ?_) AllReadyH.nil)
    go_simp
    go_at_call 96
    refine (K1.out _ (e0.trans hs)).mono ?_; rintro e Wc ⟨rfl, y⟩
    go_wp2_with fail
    refine hK.out _ _ (hs.trans y) (fun hs => ?_)
    clear hK K y
    refine wpAnyH_takeD (i := 11) (d := 16) (v := .bool true) rfl rfl (by kernel_rfl) (by kernel_rfl) (by kernel_rfl) (fun _ _ _ h => h) (Or.inl ⟨by rfl, fun W hW => by go_simp⟩) hs ?_
    simp only [Act.put, List.setIfInBounds_toArray, List.set_cons_succ, List.set_cons_zero]
    refine wpAnyH_takeD (i := 12) (d := 17) (v := .bool true) rfl rfl (by kernel_rfl) (by kernel_rfl) (by kernel_rfl) (fun _ _ _ h => h) (Or.inl ⟨by rfl, fun W hW => by go_simp⟩) hs ?_
    simp only [Act.put, List.setIfInBounds_toArray, List.set_cons_succ, List.set_cons_zero]
    refine wpAnyH_takeD (i := 13) (d := 18) (v := .pointer (some ⟨w.heap.size, 9, none⟩)) rfl rfl (by kernel_rfl) (by kernel_rfl) (by kernel_rfl) (fun _ _ _ h => h) (Or.inl ⟨by rfl, fun W hW => by go_simp⟩) hs ?_
    simp only [Act.put, List.setIfInBounds_toArray, List.set_cons_succ, List.set_cons_zero]
    refine wpAnyH_takeD (i := 14) (d := 19) (v := .slice V.a2 F.nr V.d2) rfl rfl (by kernel_rfl) (by kernel_rfl) (by kernel_rfl) (fun _ _ _ h => h) (Or.inl ⟨by rfl, fun W hW => by obtain ⟨c1, c2, c3, c4⟩ := HC.out W hW; go_simp⟩) hs ?_
    simp only [Act.put, List.setIfInBounds_toArray, List.set_cons_succ, List.set_cons_zero]
    refine wpAnyH_takeD (i := 15) (d := 20) (v := .pointer (some ⟨w.heap.size + 1, 9, none⟩)) rfl rfl (by kernel_rfl) (by kernel_rfl) (by kernel_rfl) (fun _ _ _ h => h) (Or.inl ⟨by rfl, fun W hW => by go_simp⟩) hs ?_
    simp only [Act.put, List.setIfInBounds_toArray, List.set_cons_succ, List.set_cons_zero]
    refine wpAnyH_takeD (i := 16) (d := 21) (v := .slice U.a2 G.nr U.d2) rfl rfl (by kernel_rfl) (by kernel_rfl) (by kernel_rfl) (fun _ _ _ h => h) (Or.inl ⟨by rfl, fun W hW => by obtain ⟨c1, c2, c3, c4⟩ := HC.out W hW; go_simp⟩) hs ?_
    simp only [Act.put, List.setIfInBounds_toArray, List.set_cons_succ, List.set_cons_zero]
    refine wpAnyH_ready (rs := [17]) (by kernel_rfl) (by simp) (AllReadyH.cons rfl (fun K hK => ?_) AllReadyH.nil)
    go_simp
    go_at_call 98
    refine (K2.out _ (e0.trans hs)).mono ?_; rintro e Wc ⟨rfl, y⟩
    go_wp2_with fail
    refine hK.out _ _ (hs.trans y) (fun hs => ?_)
    clear hK K y
    refine wpAnyH_takeD (i := 18) (d := 23) (v := .bool B2) rfl rfl (by kernel_rfl) (by kernel_rfl) (by kernel_rfl) (fun _ _ _ h => h) (Or.inl ⟨by rfl, fun W hW => by go_simp⟩) hs ?_
    simp only [Act.put, List.setIfInBounds_toArray, List.set_cons_succ, List.set_cons_zero]
    refine wpAnyH_takeD (i := 19) (d := 4) (v := .bool B2) rfl rfl (by kernel_rfl) (by kernel_rfl) (by kernel_rfl) (fun _ _ _ h => h) (Or.inl ⟨by rfl, fun W hW => by go_simp⟩) hs ?_
    simp only [Act.put, List.setIfInBounds_toArray, List.set_cons_succ, List.set_cons_zero]
    refine wpAnyH_done (by kernel_rfl) ?_ _
    go_wp2
    go_ret
    exact ⟨rfl, e0.trans hs⟩
end Go.Proofs.YtlafnobjfajamaaGreat
namespace Go.Proofs.YtlafnobjfajamaaGreat
open Go.RowKit
set_option linter.unusedVariables false
set_option maxRecDepth 100000

theorem call_enters {P : Program} {f : FuncId} {fn : Func} {c : Code} (hf : P.funcs[f]? = some fn) (hname : (fn.name == "runtime.NumGoroutine") = false) (hb : fn.body = some c) (args : Array Value) (w : World) :
    (callFunc f args).run P w = .ok (.enter f args) w := by
  have h1 : fn.name ≠ "runtime.NumGoroutine" := by simpa using hname
  simp [callFunc, hf, h1, hb]
/-- A reader that was told: it is entered when it is called, and tells the fields. -/
structure ReadC (F : FuncId) (k : Int) : Prop where
  enters : ∀ (args : Array Value) (w : World), (callFunc F args).run Tryz.prog w = .ok (.enter F args) w
  tells : ∀ (p : Nat) (W : World), Calls Tryz.prog F #[.pointer (some ⟨p, 0, none⟩)] W (FldP p k W)
set_option maxHeartbeats 4000000 in
theorem fieldsOf_yes (k : Int) (h : knownB k = true) (w : World) : Calls Tryz.prog 61 #[.int .i64 k] w fun e w' => ∃ F, e = .returned (.func (Fn.func F) #[] #[]) ∧ ReadC F k ∧ w' = w := by
  have hk := (known_iff k).1 h
  clear h
  rcases hk with rfl | rfl | rfl | rfl | rfl | rfl | rfl | rfl | rfl | rfl
  all_goals
    go_enter Tryz.func61, Tryz.ntmps61
    go_wp2
    go_ret
  · exact ⟨_, rfl, ⟨fun args w => call_enters Tryz.func99 (by kernel_rfl) rfl args w, fun p W => fld_readBits p _ (by decide) W⟩, rfl⟩
  · exact ⟨_, rfl, ⟨fun args w => call_enters Tryz.func99 (by kernel_rfl) rfl args w, fun p W => fld_readBits p _ (by decide) W⟩, rfl⟩
  · exact ⟨_, rfl, ⟨fun args w => call_enters Tryz.func100 (by kernel_rfl) rfl args w, fun p W => fld_readRegs p _ (by decide) W⟩, rfl⟩
  · exact ⟨_, rfl, ⟨fun args w => call_enters Tryz.func100 (by kernel_rfl) rfl args w, fun p W => fld_readRegs p _ (by decide) W⟩, rfl⟩
  · exact ⟨_, rfl, ⟨fun args w => call_enters Tryz.func101 (by kernel_rfl) rfl args w, fun p W => fld_setBit p _ (by decide) W⟩, rfl⟩
  · exact ⟨_, rfl, ⟨fun args w => call_enters Tryz.func102 (by kernel_rfl) rfl args w, fun p W => fld_setReg p _ (by decide) W⟩, rfl⟩
  · exact ⟨_, rfl, ⟨fun args w => call_enters Tryz.func103 (by kernel_rfl) rfl args w, fun p W => fld_setBits p _ (by decide) W⟩, rfl⟩
  · exact ⟨_, rfl, ⟨fun args w => call_enters Tryz.func104 (by kernel_rfl) rfl args w, fun p W => fld_setRegs p _ (by decide) W⟩, rfl⟩
  · exact ⟨_, rfl, ⟨fun args w => call_enters Tryz.func105 (by kernel_rfl) rfl args w, fun p W => fld_mask p _ (by decide) W⟩, rfl⟩
  · exact ⟨_, rfl, ⟨fun args w => call_enters Tryz.func106 (by kernel_rfl) rfl args w, fun p W => fld_readSetRegs p _ (by decide) W⟩, rfl⟩
set_option maxHeartbeats 4000000 in
theorem fieldsOf_no (k : Int) (h : knownB k = false) (w : World) : Calls Tryz.prog 61 #[.int .i64 k] w fun e w' => e = .returned .nilFunc ∧ w' = w := by
  have hk : ¬ (k = 1 ∨ k = 2 ∨ k = 3 ∨ k = 4 ∨ k = 5 ∨ k = 6 ∨ k = 15 ∨ k = 16 ∨ k = 22 ∨ k = 23) := fun hh => by have := (known_iff k).2 hh; rw [h] at this; cases this
  have b1 : (k == 1) = false := by simp; omega
  have b2 : (k == 2) = false := by simp; omega
  have b3 : (k == 3) = false := by simp; omega
  have b4 : (k == 4) = false := by simp; omega
  have b5 : (k == 5) = false := by simp; omega
  have b6 : (k == 6) = false := by simp; omega
  have b15 : (k == 15) = false := by simp; omega
  have b16 : (k == 16) = false := by simp; omega
  have b22 : (k == 22) = false := by simp; omega
  have b23 : (k == 23) = false := by simp; omega
  clear hk h
  go_enter Tryz.func61, Tryz.ntmps61
  go_wp2
  go_ret
  exact ⟨rfl, rfl⟩
theorem nil_in (d : Nat) (F : FuncId) (w : World) : (Op.equalIn (d + 1) 106 (.func (Fn.func F) #[] #[]) .nilFunc).run Tryz.prog w = .ok false w := by
  have hu := Tryz.underlying106
  simp [Op.equalIn, run_underlying hu]
theorem nil_in' (d : Nat) (w : World) : (Op.equalIn (d + 1) 106 .nilFunc .nilFunc).run Tryz.prog w = .ok true w := by
  have hu := Tryz.underlying106
  simp [Op.equalIn, run_underlying hu]
theorem nil_ne (F : FuncId) (w : World) : (binOp .neq 106 (.func (Fn.func F) #[] #[]) .nilFunc).run Tryz.prog w = .ok (.bool true) w := by
  have h := nil_in 9999 F w
  simp only [binOp, Op.equal, Op.maxDepth, Sem.run_bind]
  rw [h]; rfl
theorem nil_eq (w : World) : (binOp .neq 106 .nilFunc .nilFunc).run Tryz.prog w = .ok (.bool false) w := by
  have h := nil_in' 9999 w
  simp only [binOp, Op.equal, Op.maxDepth, Sem.run_bind]
  rw [h]; rfl
theorem aknown_v {k : Int} {B : Bool} (h : knownB k = B) (w : World) : Calls Tryz.prog 60 #[.int .i64 k] w fun e w' => e = .returned (.bool B) ∧ w' = w := by
  cases B with
  | true =>
    have H := Lib.hid (fun w => fieldsOf_yes k h w)
    have hne := nil_ne
    clear h
    go_enter Tryz.func60, Tryz.ntmps60
    go_wp2_with fail
    refine (H.out _).mono ?_; rintro e w1 ⟨F, rfl, -, rfl⟩
    go_wp2
    go_ret
    exact ⟨rfl, rfl⟩
  | false =>
    have H := Lib.hid (fun w => fieldsOf_no k h w)
    have hne := nil_eq
    clear h
    go_enter Tryz.func60, Tryz.ntmps60
    go_wp2_with fail
    refine (H.out _).mono ?_; rintro e w1 ⟨rfl, rfl⟩
    go_wp2
    go_ret
    exact ⟨rfl, rfl⟩
theorem fitI_iff (l h t n : Int) : fitI l h t n = true ↔ l ≤ n ∧ n ≤ h ∧ (n - l) % t = 0 := by unfold fitI; rw [decide_eq_true_iff]
set_option maxHeartbeats 2000000 in
theorem fits_any (p o : Nat) (l h t n : Int) (w : World) (hc : w.cell? ⟨p, o, none⟩ = some (.int .i64 n)) (hb : 0 ≤ l ∧ l ≤ 1 ∧ 0 ≤ h ∧ h ≤ 65535 ∧ 1 ≤ t ∧ t ≤ 65280) :
    Calls Tryz.prog 62 #[.agg #[.pointer (some ⟨p, o, none⟩), .int .i64 l, .int .i64 h, .int .i64 t]] w fun e w' => e = .returned (.bool (fitI l h t n)) ∧ Ext w w' := by
  have H := Lib.hid (fitI_iff l h t n)
  generalize fitI l h t n = B at H ⊢
  have e0 := Ext.alloc w (.cells #[.pointer (some ⟨p, o, none⟩), .int .i64 l, .int .i64 h, .int .i64 t] 111)
  have c1 := e0.cell (World.block_lt_of_cell? _ _ hc) hc
  clear hc
  by_cases h1 : l ≤ n
  · by_cases h2 : n ≤ h
    · have hs : IntKind.i64.wrap (n - l) = n - l := IntWalk.i64_in _ (by omega)
      have ht0 : (t == 0) = false := by simp; omega
      have htn : t ≠ 0 := by omega
      have hm : (n - l).tmod t = (n - l) % t := Int.tmod_eq_emod_of_nonneg (by omega)
      have hw : IntKind.i64.wrap ((n - l).tmod t) = (n - l).tmod t := by
        rw [hm]
        have := Int.emod_nonneg (n - l) htn
        have := Int.emod_lt_of_pos (n - l) (show 0 < t by omega)
        exact IntWalk.i64_in _ (by omega)
      have HM := Lib.hid hm
      have HH := Lib.hid (show B = decide ((n - l) % t = 0) by
        cases B
        · exact (decide_eq_false fun hq => by have := H.out.2 ⟨h1, h2, hq⟩; cases this).symm
        · exact (decide_eq_true (H.out.1 rfl).2.2).symm)
      clear H
      have hd1 : decide (l ≤ n) = true := decide_eq_true h1
      have hd2 : decide (n ≤ h) = true := decide_eq_true h2
      clear hm hb
      go_enter Tryz.func62, Tryz.ntmps62
      go_wp2
      go_ret
      refine ⟨?_, e0⟩
      rw [HH.out]
      show Ending.returned (.bool ((n - l) % t == 0)) = _
      refine ret_b ?_
      by_cases hz : (n - l) % t = 0
      · rw [hz]; rfl
      · rw [decide_eq_false hz]; simp [hz]
    · have hB : B = false := by
        cases B
        · rfl
        · exact absurd (H.out.1 rfl).2.1 h2
      subst hB
      clear H hb
      have hd1 : decide (l ≤ n) = true := decide_eq_true h1
      have hd2 : decide (n ≤ h) = false := decide_eq_false h2
      go_enter Tryz.func62, Tryz.ntmps62
      go_wp2
      go_ret
      exact ⟨rfl, e0⟩
  · have hB : B = false := by
      cases B
      · rfl
      · exact absurd (H.out.1 rfl).1 h1
    subst hB
    clear H hb
    have hd1 : decide (l ≤ n) = false := decide_eq_false h1
    go_enter Tryz.func62, Tryz.ntmps62
    go_wp2
    go_ret
    exact ⟨rfl, e0⟩
set_option maxHeartbeats 2000000 in
theorem lists_any (V : QstV) (Q : Qst) (w : World) : Calls Tryz.prog 63 #[.agg (qstC V Q)] w fun e w' => e = .returned (.tuple #[.int .i64 (ofbQ Q), .int .i64 (ofrQ Q)]) ∧ Ext w w' := by
  unfold ofbQ ofrQ
  obtain ⟨k, ad, ct, va, an, oo, fr, mn, nb, B, nr, R⟩ := Q
  obtain ⟨a1, d1, a2, d2⟩ := V
  unfold qstC
  dsimp only
  have e0 := Ext.alloc w (.cells #[.int .i64 k, .int .i64 ad, .int .i64 ct, .int .i64 va, .int .i64 an, .int .i64 oo, .int .i64 fr, .int .i64 mn, .slice a1 nb d1, .slice a2 nr d2] 31)
  by_cases h1 : k = 15
  · subst h1
    rw [if_pos rfl, if_neg (by decide)]
    go_enter Tryz.func63, Tryz.ntmps63
    go_wp2
    go_ret2
    exact ⟨rfl, e0⟩
  by_cases h2 : k = 16
  · subst h2
    rw [if_neg (by decide), if_pos (by decide)]
    go_enter Tryz.func63, Tryz.ntmps63
    go_wp2
    go_quiet (fail)
    go_wp2
    go_ret2
    exact ⟨rfl, e0.trans (Ext.drewN _ _)⟩
  by_cases h3 : k = 23
  · subst h3
    rw [if_neg (by decide), if_pos (by decide)]
    go_enter Tryz.func63, Tryz.ntmps63
    go_wp2
    go_quiet (fail)
    go_wp2
    go_ret2
    exact ⟨rfl, e0.trans (Ext.drewN _ _)⟩
  rw [if_neg h1, if_neg (by omega)]
  have b1 : (k == 15) = false := by simp; omega
  have b2 : (k == 16) = false := by simp; omega
  have b3 : (k == 23) = false := by simp; omega
  clear h1 h2 h3
  go_enter Tryz.func63, Tryz.ntmps63
  go_wp2
  go_ret2
  exact ⟨rfl, e0⟩
end Go.Proofs.YtlafnobjfajamaaGreat
