/-
  LAYER 16, PLAIN: what is told is understood; what is understood answers, and, said again, is those bytes.
-/
import Derived.Test.YtejiafihiielgaaTel
namespace Go.Proofs.Ytejiafihiielgaa
open Go.RowKit
set_option linter.unusedVariables false

theorem tright_yes {Q : Qst} {T : Tel} (hr : rightQ Q = true) : rightT Q T = (if T.cd = 0 then sameT T (wholeT Q T.nb T.B T.nr T.R) && cntB Q T else inB T.cd 1 4 && sameT T { zeroT with k := Q.k, cd := T.cd }) := by unfold rightT; rw [hr, Bool.true_and]
theorem tright_parts {Q : Qst} {T : Tel} (h : rightT Q T = true) (hc : T.cd = 0) : Alike16 T (wholeT Q T.nb T.B T.nr T.R) ∧ cntB Q T = true ∧ rightQ Q = true := by
  have hr := (rightT_k h).2
  rw [tright_yes hr, if_pos hc, Bool.and_eq_true] at h
  exact ⟨(sameT_iff _ _).1 h.1, h.2, hr⟩
theorem tright_code {Q : Qst} {T : Tel} (h : rightT Q T = true) (hc : T.cd ≠ 0) : Alike16 T { zeroT with k := Q.k, cd := T.cd } ∧ (1 ≤ T.cd ∧ T.cd ≤ 4) ∧ rightQ Q = true := by
  have hr := (rightT_k h).2
  rw [tright_yes hr, if_neg hc, Bool.and_eq_true, inB_iff] at h
  exact ⟨(sameT_iff _ _).1 h.2, h.1, hr⟩
/-- How many bits and words come with what answers. -/
theorem tcnt {Q : Qst} {T : Tel} (h : rightT Q T = true) (hc : T.cd = 0) :
    ((Q.k = 1 ∨ Q.k = 2) → (T.nb : Int) = Q.ct ∧ 1 ≤ Q.ct ∧ Q.ct ≤ 2000 ∧ T.nr = 0) ∧ ((Q.k = 3 ∨ Q.k = 4) → (T.nr : Int) = Q.ct ∧ 1 ≤ Q.ct ∧ Q.ct ≤ 125 ∧ T.nb = 0) ∧ (Q.k = 23 → (T.nr : Int) = Q.mn ∧ 1 ≤ Q.mn ∧ Q.mn ≤ 125 ∧ T.nb = 0) ∧
      (¬ (Q.k = 1 ∨ Q.k = 2) → ¬ (Q.k = 3 ∨ Q.k = 4 ∨ Q.k = 23) → T.nb = 0 ∧ T.nr = 0) := by
  obtain ⟨ha, hn, hq⟩ := tright_parts h hc
  obtain ⟨hkn, -, -, hf⟩ := (rightQ_iff Q).1 hq
  have hk := (known_iff Q.k).1 hkn
  have e1 := ha.nb; have e2 := ha.nr
  unfold wholeT at e1 e2
  unfold cntB at hn
  unfold fitsB at hf
  rcases hk with hk | hk | hk | hk | hk | hk | hk | hk | hk | hk <;>
  · simp (config := { decide := true }) only [hk, zeroT, if_true, if_false, Bool.and_eq_true, inB_iff, decide_eq_true_iff, true_implies, false_implies, true_and, and_true, or_true, or_false, not_true] at e1 e2 hn hf ⊢
    first | trivial | omega
theorem tsay_size {Q : Qst} {T : Tel} (h : rightT Q T = true) : 2 ≤ tsayN T ∧ tsayN T ≤ 253 := by
  have hk := (rightT_k h).1
  by_cases hc : T.cd = 0
  · obtain ⟨c1, c2, c3, -⟩ := tcnt h hc
    unfold tsayN
    rw [if_neg (by omega)]
    unfold szN
    repeat' split
    all_goals omega
  · unfold tsayN
    rw [if_pos hc]
    omega
theorem tsay_zero {Q : Qst} {T : Tel} (h : rightT Q T = true) : tsayF T 0 = if T.cd = 0 then Q.k else Q.k + 128 := by
  have hk := (rightT_k h).1
  unfold tsayF
  by_cases hc : T.cd = 0
  · rw [if_neg (by omega), if_pos rfl, if_pos hc, hk]
  · rw [if_pos hc, if_pos rfl, if_neg hc, hk]
theorem talike_say {A B : Tel} (h : Alike16 A B) : tsayN A = tsayN B ∧ ∀ i, i < tsayN A → tsayF A i = tsayF B i := by
  have e1 : tsayN A = tsayN B := by unfold tsayN; rw [h.k, h.cd, h.nb, h.nr]
  refine ⟨e1, fun i hi => ?_⟩
  have e2 : tnumF A = tnumF B := by unfold tnumF; rw [h.k, h.ad, h.va, h.ct, h.an, h.oo]
  unfold tsayN at hi
  unfold tsayF
  rw [h.k, h.cd, e2, h.nb, h.nr]
  rw [h.k, h.cd] at hi
  by_cases hc : B.cd ≠ 0
  · rw [if_pos hc, if_pos hc]
  · rw [if_neg hc, if_neg hc]
    rw [if_neg hc] at hi
    by_cases h0 : i = 0
    · rw [if_pos h0, if_pos h0]
    · rw [if_neg h0, if_neg h0]
      by_cases k1 : B.k = 1 ∨ B.k = 2
      · rw [if_pos k1, if_pos k1]
        by_cases h1 : i = 1
        · rw [if_pos h1, if_pos h1]
        · rw [if_neg h1, if_neg h1]
          exact bt_self _ (fun j hj => h.B j (by rw [h.nb]; exact hj)) _
      · rw [if_neg k1, if_neg k1]
        rw [if_neg k1] at hi
        by_cases k2 : B.k = 3 ∨ B.k = 4 ∨ B.k = 23
        · rw [if_pos k2, if_pos k2]
          rw [if_pos k2] at hi
          by_cases h1 : i = 1
          · rw [if_pos h1, if_pos h1]
          · rw [if_neg h1, if_neg h1]
            unfold putF
            rw [h.R _ (by omega)]
        · rw [if_neg k2, if_neg k2]
theorem talike_whole {A B : Tel} (Q : Qst) (h : Alike16 A B) : Alike16 (wholeT Q A.nb A.B A.nr A.R) (wholeT Q B.nb B.B B.nr B.R) := by
  unfold wholeT
  repeat' split
  all_goals first
    | exact ⟨rfl, rfl, rfl, rfl, rfl, rfl, rfl, h.nb, h.B, rfl, fun _ _ => rfl⟩
    | exact ⟨rfl, rfl, rfl, rfl, rfl, rfl, rfl, rfl, fun _ _ => rfl, h.nr, h.R⟩
    | exact ⟨rfl, rfl, rfl, rfl, rfl, rfl, rfl, rfl, fun _ _ => rfl, rfl, fun _ _ => rfl⟩
theorem Alike16.symm {A B : Tel} (h : Alike16 A B) : Alike16 B A := ⟨h.k.symm, h.cd.symm, h.ad.symm, h.ct.symm, h.va.symm, h.an.symm, h.oo.symm, h.nb.symm, fun i hi => (h.B i (by rw [h.nb]; exact hi)).symm, h.nr.symm, fun i hi => (h.R i (by rw [h.nr]; exact hi)).symm⟩
theorem Alike16.trans {A B C : Tel} (h : Alike16 A B) (k : Alike16 B C) : Alike16 A C := ⟨h.k.trans k.k, h.cd.trans k.cd, h.ad.trans k.ad, h.ct.trans k.ct, h.va.trans k.va, h.an.trans k.an, h.oo.trans k.oo, h.nb.trans k.nb, fun i hi => (h.B i hi).trans (k.B i (by rw [← h.nb]; exact hi)), h.nr.trans k.nr, fun i hi => (h.R i hi).trans (k.R i (by rw [← h.nr]; exact hi))⟩
theorem talike_right {A B : Tel} (Q : Qst) (h : Alike16 A B) (hr : rightT Q A = true) : rightT Q B = true := by
  have hq := (rightT_k hr).2
  by_cases hc : A.cd = 0
  · obtain ⟨a1, a2, -⟩ := tright_parts hr hc
    rw [tright_yes hq, if_pos (h.cd.symm.trans hc), Bool.and_eq_true]
    exact ⟨(sameT_iff _ _).2 ((h.symm.trans a1).trans (talike_whole Q h)), by unfold cntB at a2 ⊢; rw [← h.nb, ← h.nr]; exact a2⟩
  · obtain ⟨a1, a2, -⟩ := tright_code hr hc
    rw [tright_yes hq, if_neg (by rw [← h.cd]; exact hc), Bool.and_eq_true, inB_iff, ← h.cd]
    exact ⟨a2, (sameT_iff _ _).2 (h.symm.trans a1)⟩
/-- What is told is understood, by any ask of its function that may be, if it is an exception; by its own ask. -/
theorem tsay_gue {Q : Qst} {T : Tel} (h : rightT Q T = true) (hR : ∀ i, i < T.nr → 0 ≤ T.R i ∧ T.R i < 65536) : Alike16 T (tgue Q (tsayN T) (tsayF T)) := by
  have hk := (rightT_k h).1
  have h0 := tsay_zero h
  by_cases hc : T.cd = 0
  · obtain ⟨ha, -, hq⟩ := tright_parts h hc
    obtain ⟨c1, c2, c3, c4⟩ := tcnt h hc
    rw [if_pos hc] at h0
    unfold tgue
    rw [if_neg (by omega)]
    have hkk := (known_iff Q.k).1 ((rightQ_iff Q).1 hq).1
    by_cases k1 : Q.k = 1 ∨ Q.k = 2
    · have hn : tsayN T = 2 + szN T.nb := by unfold tsayN; rw [if_neg (by omega), hk, if_pos k1]
      obtain ⟨d1, d2, d3, d4⟩ := c1 k1
      have hsz : szI Q.ct = szN T.nb := by rw [← d1]; exact szI_nat _
      have hp : 1 ≤ szN T.nb := by unfold szN; omega
      rw [if_pos (by omega), hn, show 2 + szN T.nb - 2 = szN T.nb by omega]
      have hu : unN (szN T.nb) Q.ct = T.nb := by
        have : unE (szN T.nb) Q.ct = 0 := unE_zero.2 ⟨by omega, hsz.symm⟩
        unfold unN; rw [if_pos this]; omega
      refine ha.trans ?_
      unfold wholeT
      rw [if_pos k1, if_pos k1, hu]
      refine ⟨rfl, rfl, rfl, rfl, rfl, rfl, rfl, rfl, fun i hi => ?_, rfl, fun _ _ => rfl⟩
      have hi : i < T.nb := hi
      have e := un_pk T.B T.nb i hi
      show T.B i = unF (fun j => tsayF T (2 + j)) i
      rw [← e]
      unfold unF
      dsimp only
      unfold tsayF
      rw [if_neg (by omega), if_neg (by omega), hk, if_pos k1, if_neg (by omega), show 2 + i / 8 - 2 = i / 8 by omega]
    by_cases k2 : Q.k = 3 ∨ Q.k = 4 ∨ Q.k = 23
    · have hn : tsayN T = 2 + 2 * T.nr := by unfold tsayN; rw [if_neg (by omega), hk, if_neg k1, if_pos k2]
      have hnr : 1 ≤ T.nr := by
        rcases k2 with e | e | e
        · have := c2 (.inl e); omega
        · have := c2 (.inr e); omega
        · have := c3 e; omega
      rw [if_pos (by omega), hn, show 2 + 2 * T.nr - 2 = 2 * T.nr by omega]
      have hu : getN (2 * T.nr) = T.nr := by unfold getN; rw [if_pos (by omega)]; omega
      refine ha.trans ?_
      unfold wholeT
      rw [if_neg k1, if_pos k2, if_neg k1, if_pos k2, hu]
      refine ⟨rfl, rfl, rfl, rfl, rfl, rfl, rfl, rfl, fun _ _ => rfl, rfl, fun i hi => ?_⟩
      have hi : i < T.nr := hi
      have hb := hR i hi
      show T.R i = getF (fun j => tsayF T (2 + j)) i
      have e : ∀ j, tsayF T (2 + j) = putF T.R j := fun j => by
        unfold tsayF
        rw [if_neg (by omega), if_neg (by omega), hk, if_neg k1, if_pos k2, if_neg (by omega), show 2 + j - 2 = j by omega]
      unfold getF
      dsimp only
      rw [e, e, putF_even, putF_odd]
      omega
    · have hn : 2 < tsayN T := by unfold tsayN; rw [if_neg (by omega), hk, if_neg k1, if_neg k2]; split <;> omega
      rw [if_pos hn]
      refine ha.trans ?_
      unfold wholeT
      rw [if_neg k1, if_neg k2, if_neg k1, if_neg k2]
      repeat' split
      all_goals exact ⟨rfl, rfl, rfl, rfl, rfl, rfl, rfl, rfl, fun _ _ => rfl, rfl, fun _ _ => rfl⟩
  · obtain ⟨ha, -, hq⟩ := tright_code h hc
    rw [if_neg hc] at h0
    have hn : tsayN T = 2 := by unfold tsayN; rw [if_pos hc]
    have h1 : tsayF T 1 = T.cd := by unfold tsayF; rw [if_pos hc, if_neg (by omega)]
    unfold tgue
    rw [if_pos ⟨hn, h0⟩, h1]
    exact ha
theorem tsay_parse {Q : Qst} {T : Tel} (h : rightT Q T = true) (hR : ∀ i, i < T.nr → 0 ≤ T.R i ∧ T.R i < 65536) : tpaE Q (tsayN T) (tsayF T) = 0 ∧ Alike16 T (tpaT Q (tsayN T) (tsayF T)) := by
  have ha := tsay_gue h hR
  have hs := talike_say ha
  have hE : tpaE Q (tsayN T) (tsayF T) = 0 := by
    unfold tpaE
    rw [(rightT_k h).2, if_neg (by decide), if_pos]
    exact (tsays_iff _ _ _).2 ⟨talike_right Q ha h, hs.1.symm, fun i hi => (hs.2 i hi).symm⟩
  exact ⟨hE, by unfold tpaT; rw [if_pos hE]; exact ha⟩
theorem tparse_parts {Q : Qst} {n : Nat} {f : Nat → Int} (h : tpaE Q n f = 0) : tpaT Q n f = tgue Q n f ∧ rightT Q (tpaT Q n f) = true ∧ tsayN (tpaT Q n f) = n ∧ (∀ i, i < n → tsayF (tpaT Q n f) i = f i) := by
  have hq : tpaT Q n f = tgue Q n f := by unfold tpaT; rw [if_pos h]
  rcases tpaE_ways Q n f with ⟨h1, _⟩ | ⟨h1, _⟩ | ⟨_, _, hs⟩
  · rw [h1] at h; cases h
  · rw [h1] at h; cases h
  · obtain ⟨p1, p2, p3⟩ := (tsays_iff Q n f).1 hs
    rw [hq]
    exact ⟨rfl, p1, p2, p3⟩
/-- What answers an ask is not understood by an ask of another function. -/
theorem tother {Q R : Qst} {T : Tel} (h : rightT Q T = true) (hr : rightQ R = true) (hk : Q.k ≠ R.k) : tpaE R (tsayN T) (tsayF T) = 14 := by
  rcases tpaE_ways R (tsayN T) (tsayF T) with h1 | h1 | h1
  · rw [h1.2] at hr; cases hr
  · exact h1.1
  · exfalso
    obtain ⟨p1, p2, p3⟩ := (tsays_iff R _ _).1 h1.2.2
    have hz := (tsay_size h).1
    have e0 := p3 0 (by omega)
    rw [tsay_zero h, tsay_zero p1] at e0
    have k1 := (known_iff Q.k).1 ((rightQ_iff Q).1 (rightT_k h).2).1
    have k2 := (known_iff R.k).1 ((rightQ_iff R).1 hr).1
    split at e0 <;> split at e0 <;> omega
/-- An exception answers all asks of its function. -/
theorem texcept {Q R : Qst} {T : Tel} (h : rightT Q T = true) (hr : rightQ R = true) (hk : Q.k = R.k) (hc : T.cd ≠ 0) (hR : ∀ i, i < T.nr → 0 ≤ T.R i ∧ T.R i < 65536) : tpaE R (tsayN T) (tsayF T) = 0 ∧ Alike16 T (tpaT R (tsayN T) (tsayF T)) := by
  obtain ⟨ha, hb, -⟩ := tright_code h hc
  have h2 : rightT R T = true := by
    rw [tright_yes hr, if_neg hc, Bool.and_eq_true, inB_iff, ← hk]
    exact ⟨hb, (sameT_iff _ _).2 ha⟩
  exact tsay_parse h2 hR
theorem tsayF_bd {Q : Qst} {T : Tel} (h : rightT Q T = true) (hR : ∀ i, i < T.nr → 0 ≤ T.R i ∧ T.R i < 65536) : ∀ i, i < tsayN T → 0 ≤ tsayF T i ∧ tsayF T i < 256 := by
  intro i hi
  have hk := (rightT_k h).1
  have hq := (rightT_k h).2
  have hkk := (known_iff Q.k).1 ((rightQ_iff Q).1 hq).1
  by_cases hc : T.cd = 0
  · obtain ⟨ha, -, -⟩ := tright_parts h hc
    obtain ⟨c1, c2, c3, c4⟩ := tcnt h hc
    unfold tsayF
    unfold tsayN at hi
    rw [if_neg (by omega)] at hi
    rw [if_neg (by omega), hk]
    rw [hk] at hi
    by_cases h0 : i = 0
    · rw [if_pos h0]; omega
    · rw [if_neg h0]
      by_cases k1 : Q.k = 1 ∨ Q.k = 2
      · rw [if_pos k1]
        split
        · unfold szN; omega
        · exact pkF_bd _ _ _
      · rw [if_neg k1]
        rw [if_neg k1] at hi
        by_cases k2 : Q.k = 3 ∨ Q.k = 4 ∨ Q.k = 23
        · rw [if_pos k2]
          rw [if_pos k2] at hi
          split
          · omega
          · exact putF_bd T.R T.nr hR _ (by omega)
        · rw [if_neg k2]
          obtain ⟨-, ho, had, hf⟩ := (rightQ_iff Q).1 hq
          have e1 := ha.ad; have e2 := ha.ct; have e3 := ha.va; have e4 := ha.an; have e5 := ha.oo
          have hn : ∀ j, 0 ≤ tnumF T j ∧ tnumF T j < 65536 := by
            intro j
            unfold wholeT at e1 e2 e3 e4 e5
            unfold fitsB at hf
            unfold tnumF
            rcases hkk with hk' | hk' | hk' | hk' | hk' | hk' | hk' | hk' | hk' | hk' <;>
            · simp (config := { decide := true }) only [hk', zeroT, if_true, if_false, Bool.and_eq_true, inB_iff, decide_eq_true_iff] at e1 e2 e3 e4 e5 hf
              rw [e1, e2, e3, e4, e5]
              repeat' split
              all_goals omega
          exact putF_bd (tnumF T) i (fun j _ => hn j) _ (by omega)
  · obtain ⟨-, hb, -⟩ := tright_code h hc
    unfold tsayF
    rw [if_pos hc]
    split <;> omega
end Go.Proofs.Ytejiafihiielgaa
