/-
  LAYER 15, PLAIN: what is said is understood; what is understood, said again.
-/
import Derived.Test.YtejiafihiielgaaAsk
namespace Go.Proofs.Ytejiafihiielgaa
open Go.RowKit
set_option linter.unusedVariables false

/-- What an ask's function does not have is 0. -/
def onlyP (Q : Qst) : Prop :=
  ((Q.k = 1 ∨ Q.k = 2 ∨ Q.k = 3 ∨ Q.k = 4) → Q.va = 0 ∧ Q.an = 0 ∧ Q.oo = 0 ∧ Q.fr = 0 ∧ Q.mn = 0 ∧ Q.nb = 0 ∧ Q.nr = 0) ∧
  ((Q.k = 5 ∨ Q.k = 6) → Q.ct = 0 ∧ Q.an = 0 ∧ Q.oo = 0 ∧ Q.fr = 0 ∧ Q.mn = 0 ∧ Q.nb = 0 ∧ Q.nr = 0) ∧
  (Q.k = 15 → Q.va = 0 ∧ Q.an = 0 ∧ Q.oo = 0 ∧ Q.fr = 0 ∧ Q.mn = 0 ∧ Q.nr = 0) ∧
  (Q.k = 16 → Q.va = 0 ∧ Q.an = 0 ∧ Q.oo = 0 ∧ Q.fr = 0 ∧ Q.mn = 0 ∧ Q.nb = 0) ∧
  (Q.k = 22 → Q.ct = 0 ∧ Q.va = 0 ∧ Q.fr = 0 ∧ Q.mn = 0 ∧ Q.nb = 0 ∧ Q.nr = 0) ∧
  (Q.k = 23 → Q.va = 0 ∧ Q.an = 0 ∧ Q.oo = 0 ∧ Q.nb = 0)
theorem eqG_none (n : Nat) (f g : Nat → Bool) : eqG n 0 f g = true ↔ n = 0 := by
  rw [eqG_iff]
  exact ⟨fun h => h.1, fun h => ⟨h, fun i hi => absurd hi (by omega)⟩⟩
theorem eqB_none (n : Nat) (f g : Nat → Int) : eqB n 0 f g = true ↔ n = 0 := by
  rw [eqB_iff]
  exact ⟨fun h => h.1, fun h => ⟨h, fun i hi => absurd hi (by omega)⟩⟩
theorem eqG_self (n : Nat) (f : Nat → Bool) : eqG n n f f = true := eqG_true rfl fun _ _ => rfl
theorem eqB_own (n : Nat) (f : Nat → Int) : eqB n n f f = true := eqB_true rfl fun _ _ => rfl
theorem own_iff {Q : Qst} (hk : knownB Q.k = true) : sameQ Q (ownQ Q) = true ↔ onlyP Q := by
  have hk := (known_iff Q.k).1 hk
  unfold sameQ numsB ownQ onlyP
  rcases hk with hk | hk | hk | hk | hk | hk | hk | hk | hk | hk <;>
  · simp (config := { decide := true }) only [hk, zeroQ, if_true, if_false, Bool.and_eq_true, decide_eq_true_iff, eqG_none, eqB_none, eqG_self, eqB_own, true_and, and_true, true_implies, false_implies, or_true, or_false]
    constructor
    · intro h; omega
    · intro h; omega
/-- An ask that may be, in its parts. -/
theorem rightQ_iff (Q : Qst) : rightQ Q = true ↔ knownB Q.k = true ∧ onlyP Q ∧ (0 ≤ Q.ad ∧ Q.ad ≤ 65535) ∧ fitsB Q = true := by
  unfold rightQ
  rw [Bool.and_eq_true, Bool.and_eq_true, Bool.and_eq_true, inB_iff]
  constructor
  · rintro ⟨⟨⟨h1, h2⟩, h3⟩, h4⟩; exact ⟨h1, (own_iff h1).1 h2, h3, h4⟩
  · rintro ⟨h1, h2, h3, h4⟩; exact ⟨⟨⟨h1, (own_iff h1).2 h2⟩, h3⟩, h4⟩
/-- Two asks that are the same. -/
structure Alike15 (F G : Qst) : Prop where
  k : F.k = G.k
  ad : F.ad = G.ad
  ct : F.ct = G.ct
  va : F.va = G.va
  an : F.an = G.an
  oo : F.oo = G.oo
  fr : F.fr = G.fr
  mn : F.mn = G.mn
  nb : F.nb = G.nb
  B : ∀ i, i < F.nb → F.B i = G.B i
  nr : F.nr = G.nr
  R : ∀ i, i < F.nr → F.R i = G.R i
theorem sameQ_iff (A B : Qst) : sameQ A B = true ↔ Alike15 A B := by
  unfold sameQ numsB
  rw [Bool.and_eq_true, Bool.and_eq_true, decide_eq_true_iff, eqG_iff, eqB_iff]
  constructor
  · rintro ⟨⟨⟨h1, h2, h3, h4, h5, h6, h7, h8⟩, h9, h10⟩, h11, h12⟩; exact ⟨h1, h2, h3, h4, h5, h6, h7, h8, h9, h10, h11, h12⟩
  · intro h; exact ⟨⟨⟨h.k, h.ad, h.ct, h.va, h.an, h.oo, h.fr, h.mn⟩, h.nb, h.B⟩, h.nr, h.R⟩
theorem bt_self {f g : Nat → Bool} (n : Nat) (h : ∀ i, i < n → f i = g i) (j : Nat) : pkF f n j = pkF g n j := by
  unfold pkF
  congr 1
  refine bt_congr 8 fun i hi => ?_
  by_cases hb : 8 * j + i < n
  · rw [h _ hb]
  · simp [hb]
theorem numN_le (Q : Qst) : 2 ≤ numN Q ∧ numN Q ≤ 4 := by unfold numN; split; omega; split <;> omega
theorem alike_say {A B : Qst} (h : Alike15 A B) (hn : A.k = 16 ∨ A.k = 23 ∨ A.k = 15 ∨ tailN A = 0) : sayN A = sayN B ∧ ∀ i, i < sayN A → sayF A i = sayF B i := by
  have e1 : numN A = numN B := by unfold numN; rw [h.k]
  have e2 : tailN A = tailN B := by unfold tailN; rw [h.k, h.nb, h.nr]
  have e3 : numF A = numF B := by unfold numF; rw [h.k, h.ad, h.ct, h.va, h.an, h.oo, h.fr, h.mn]
  have e4 : sayN A = sayN B := by unfold sayN; rw [e1, e2]
  refine ⟨e4, fun i hi => ?_⟩
  unfold sayF
  rw [h.k, e1, e3]
  split
  · rfl
  split
  · rfl
  · rename_i h0 h1
    have hi2 : i - (1 + 2 * numN B) < tailN A := by unfold sayN at hi; rw [e1] at hi; omega
    generalize i - (1 + 2 * numN B) = j at hi2
    unfold tailF
    unfold tailN at hi2
    rw [h.k, h.ct]
    by_cases h15 : B.k = 15
    · rw [if_pos h15, if_pos h15, h.nb]
      split
      · rfl
      · exact bt_self _ (fun i hi => h.B i (by rw [h.nb]; exact hi)) _
    · rw [if_neg h15, if_neg h15]
      rw [h.k, if_neg h15] at hi2
      split
      · rfl
      · rename_i hj
        split at hi2
        · unfold putF
          rw [h.R _ (by omega)]
        · omega
theorem alike_right {A B : Qst} (h : Alike15 A B) : rightQ A = rightQ B := by
  rw [Bool.eq_iff_iff, rightQ_iff, rightQ_iff]
  have e1 : knownB A.k = knownB B.k := by rw [h.k]
  have e2 : onlyP A ↔ onlyP B := by unfold onlyP; rw [h.k, h.va, h.an, h.oo, h.fr, h.mn, h.nb, h.nr, h.ct]
  have e3 : fitsB A = fitsB B := by unfold fitsB; rw [h.k, h.ct, h.va, h.nb, h.nr, h.an, h.oo, h.fr, h.mn]
  rw [e1, e2, h.ad, e3]
/-- A number that is said is got. -/
theorem num_got {Q : Qst} {j : Nat} (hj : j < numN Q) (hb : 0 ≤ numF Q j ∧ numF Q j < 65536) : numAt (sayN Q) (sayF Q) (1 + 2 * j) = numF Q j := by
  unfold numAt
  have h1 : 1 + 2 * j + 1 < sayN Q := by unfold sayN; omega
  rw [if_pos h1]
  unfold sayF
  rw [if_neg (by omega), if_pos (by omega), if_neg (by omega), if_pos (by omega)]
  rw [show 1 + 2 * j - 1 = 2 * j by omega, show 1 + 2 * j + 1 - 1 = 2 * j + 1 by omega, putF_even, putF_odd]
  omega
theorem numF_bd {Q : Qst} (h : rightQ Q = true) : ∀ i, i < numN Q → 0 ≤ numF Q i ∧ numF Q i < 65536 := by
  obtain ⟨hkn, -, had, hf⟩ := (rightQ_iff Q).1 h
  have hk := (known_iff Q.k).1 hkn
  intro i hi
  rcases hk with hk | hk | hk | hk | hk | hk | hk | hk | hk | hk <;>
  · unfold fitsB at hf
    unfold numN at hi
    unfold numF
    simp (config := { decide := true }) only [hk, if_true, if_false, Bool.and_eq_true, inB_iff, decide_eq_true_iff] at hf hi ⊢
    repeat' split
    all_goals omega
theorem get_put {f : Nat → Int} {i : Nat} (h : 0 ≤ f i ∧ f i < 65536) : putF f (2 * i) * 256 + putF f (2 * i + 1) = f i := by rw [putF_even, putF_odd]; omega
/-- What is said is understood. -/
theorem say_gue {Q : Qst} (h : rightQ Q = true) (hR : ∀ i, i < Q.nr → 0 ≤ Q.R i ∧ Q.R i < 65536) : Alike15 Q (gueQ (sayN Q) (sayF Q)) := by
  have hb := numF_bd h
  obtain ⟨hkn, ho, had, hf⟩ := (rightQ_iff Q).1 h
  have hk := (known_iff Q.k).1 hkn
  have h0 : sayF Q 0 = Q.k := by unfold sayF; rw [if_pos rfl]
  have g0 : 0 < numN Q → numAt (sayN Q) (sayF Q) 1 = numF Q 0 := fun hn => num_got (j := 0) hn (hb 0 hn)
  have g1 : 1 < numN Q → numAt (sayN Q) (sayF Q) 3 = numF Q 1 := fun hn => num_got (j := 1) hn (hb 1 hn)
  have g2 : 2 < numN Q → numAt (sayN Q) (sayF Q) 5 = numF Q 2 := fun hn => num_got (j := 2) hn (hb 2 hn)
  have g3 : 3 < numN Q → numAt (sayN Q) (sayF Q) 7 = numF Q 3 := fun hn => num_got (j := 3) hn (hb 3 hn)
  have hs : sayN Q = 1 + 2 * numN Q + tailN Q := rfl
  have ht : ∀ j, sayF Q (1 + 2 * numN Q + j) = tailF Q j := fun j => by unfold sayF; rw [if_neg (by omega), if_neg (by omega)]; congr 1; omega
  unfold gueQ
  rw [h0]
  unfold onlyP at ho
  unfold fitsB at hf
  unfold numN at g0 g1 g2 g3 hs ht
  unfold numF at g0 g1 g2 g3
  unfold tailN at hs
  unfold tailF at ht
  rcases hk with hk | hk | hk | hk | hk | hk | hk | hk | hk | hk
  all_goals
    simp (config := { decide := true }) only [hk, zeroQ, if_true, if_false, Bool.and_eq_true, inB_iff, decide_eq_true_iff, true_implies, false_implies, or_true, or_false, true_and, and_true] at ho hf g0 g1 g2 g3 hs ht ⊢
  · refine ⟨hk, g0.symm, g1.symm, ?_, ?_, ?_, ?_, ?_, ?_, ?_, ?_, ?_⟩ <;> dsimp only <;> first | omega | (intro i hi; exact absurd hi (by omega))
  · refine ⟨hk, g0.symm, g1.symm, ?_, ?_, ?_, ?_, ?_, ?_, ?_, ?_, ?_⟩ <;> dsimp only <;> first | omega | (intro i hi; exact absurd hi (by omega))
  · refine ⟨hk, g0.symm, g1.symm, ?_, ?_, ?_, ?_, ?_, ?_, ?_, ?_, ?_⟩ <;> dsimp only <;> first | omega | (intro i hi; exact absurd hi (by omega))
  · refine ⟨hk, g0.symm, g1.symm, ?_, ?_, ?_, ?_, ?_, ?_, ?_, ?_, ?_⟩ <;> dsimp only <;> first | omega | (intro i hi; exact absurd hi (by omega))
  · refine ⟨hk, g0.symm, ?_, g1.symm, ?_, ?_, ?_, ?_, ?_, ?_, ?_, ?_⟩ <;> dsimp only <;> first | omega | (intro i hi; exact absurd hi (by omega))
  · refine ⟨hk, g0.symm, ?_, g1.symm, ?_, ?_, ?_, ?_, ?_, ?_, ?_, ?_⟩ <;> dsimp only <;> first | omega | (intro i hi; exact absurd hi (by omega))
  · have hct : Q.ct = (Q.nb : Int) := hf.2.symm
    have hsz : szI Q.ct = szN Q.nb := by rw [hct]; exact szI_nat _
    have hpos : 0 < szN Q.nb := by unfold szN; omega
    have hc : 6 < sayN Q ∧ (sayN Q : Int) - 6 = szI (numAt (sayN Q) (sayF Q) 3) := by rw [g1, hsz, hs]; omega
    obtain ⟨o1, o2, o3, o4, o5, o6⟩ := ho
    refine ⟨hk, g0.symm, g1.symm, o1, o2, o3, o4, o5, ?_, fun i hi => ?_, o6, fun i hi => absurd hi (by omega)⟩
    · show Q.nb = if _ then _ else _
      rw [if_pos hc, g1, hct]; omega
    · dsimp only [unF]
      rw [show 6 + i / 8 = 5 + (i / 8 + 1) by omega, ht, if_neg (by omega), Nat.add_sub_cancel]
      have := un_pk Q.B Q.nb i hi
      unfold unF at this
      rw [this]
  · have hct : Q.ct = (Q.nr : Int) := hf.2.symm
    have hn : behN (sayN Q) 6 = Q.nr := by unfold behN; rw [hs, if_pos (by omega)]; omega
    obtain ⟨o1, o2, o3, o4, o5, o6⟩ := ho
    refine ⟨hk, g0.symm, g1.symm, o1, o2, o3, o4, o5, o6, fun i hi => absurd hi (by omega), hn.symm, fun i hi => ?_⟩
    dsimp only [getF]
    rw [show 6 + 2 * i = 5 + (2 * i + 1) by omega, show 6 + (2 * i + 1) = 5 + (2 * i + 2) by omega, ht, ht, if_neg (by omega), if_neg (by omega), show 2 * i + 1 - 1 = 2 * i by omega, show 2 * i + 2 - 1 = 2 * i + 1 by omega]
    exact (get_put (hR i hi)).symm
  · refine ⟨hk, g0.symm, ?_, ?_, g1.symm, g2.symm, ?_, ?_, ?_, ?_, ?_, ?_⟩ <;> dsimp only <;> first | omega | (intro i hi; exact absurd hi (by omega))
  · have hct : Q.ct = (Q.nr : Int) := hf.2.symm
    have hn : behN (sayN Q) 10 = Q.nr := by unfold behN; rw [hs, if_pos (by omega)]; omega
    obtain ⟨o1, o2, o3, o4⟩ := ho
    refine ⟨hk, g2.symm, g3.symm, o1, o2, o3, g0.symm, g1.symm, o4, fun i hi => absurd hi (by omega), hn.symm, fun i hi => ?_⟩
    dsimp only [getF]
    rw [show 10 + 2 * i = 9 + (2 * i + 1) by omega, show 10 + (2 * i + 1) = 9 + (2 * i + 2) by omega, ht, ht, if_neg (by omega), if_neg (by omega), show 2 * i + 1 - 1 = 2 * i by omega, show 2 * i + 2 - 1 = 2 * i + 1 by omega]
    exact (get_put (hR i hi)).symm
theorem tail_some (Q : Qst) : Q.k = 16 ∨ Q.k = 23 ∨ Q.k = 15 ∨ tailN Q = 0 := by
  by_cases h1 : Q.k = 15
  · exact .inr (.inr (.inl h1))
  · by_cases h2 : Q.k = 16 ∨ Q.k = 23
    · rcases h2 with h | h
      · exact .inl h
      · exact .inr (.inl h)
    · exact .inr (.inr (.inr (by unfold tailN; rw [if_neg h1, if_neg h2])))
theorem saysB_iff (n : Nat) (f : Nat → Int) : saysB n f = true ↔ rightQ (gueQ n f) = true ∧ sayN (gueQ n f) = n ∧ ∀ i, i < n → sayF (gueQ n f) i = f i ∨ (f 0 = 15 ∧ i + 1 = n) := by
  unfold saysB
  rw [Bool.and_eq_true, Bool.and_eq_true, decide_eq_true_iff, List.all_eq_true]
  constructor
  · rintro ⟨⟨h1, h2⟩, h3⟩
    refine ⟨h1, h2, fun i hi => ?_⟩
    have := h3 i (List.mem_range.2 hi)
    simpa using this
  · rintro ⟨h1, h2, h3⟩
    refine ⟨⟨h1, h2⟩, fun i hi => ?_⟩
    simpa using h3 i (List.mem_range.1 hi)
theorem say_size {Q : Qst} (h : rightQ Q = true) : 5 ≤ sayN Q ∧ sayN Q ≤ 253 := by
  obtain ⟨hkn, ho, had, hf⟩ := (rightQ_iff Q).1 h
  have hk := (known_iff Q.k).1 hkn
  unfold fitsB at hf
  unfold sayN numN tailN szN
  rcases hk with hk | hk | hk | hk | hk | hk | hk | hk | hk | hk
  all_goals
    simp (config := { decide := true }) only [hk, if_true, if_false, Bool.and_eq_true, inB_iff, decide_eq_true_iff] at hf ⊢
    try omega
/-- What is said is understood. -/
theorem say_parse {Q : Qst} (h : rightQ Q = true) (hR : ∀ i, i < Q.nr → 0 ≤ Q.R i ∧ Q.R i < 65536) : paE (sayN Q) (sayF Q) = 0 ∧ Alike15 Q (paQ (sayN Q) (sayF Q)) := by
  have ha := say_gue h hR
  have hs := alike_say ha (tail_some Q)
  have hsz := say_size h
  have h0 : sayF Q 0 = Q.k := by unfold sayF; rw [if_pos rfl]
  have hE : paE (sayN Q) (sayF Q) = 0 := by
    unfold paE
    rw [if_neg (by omega), h0, ((rightQ_iff Q).1 h).1, if_neg (by decide), if_pos]
    exact (saysB_iff _ _).2 ⟨(alike_right ha).symm.trans h, hs.1.symm, fun i hi => .inl (hs.2 i hi).symm⟩
  refine ⟨hE, ?_⟩
  unfold paQ
  rw [if_pos hE]
  exact ha
theorem gue_k (n : Nat) (f : Nat → Int) : (gueQ n f).k = f 0 := by
  unfold gueQ
  repeat' split
  all_goals rfl
theorem paE_ways (n : Nat) (f : Nat → Int) : (paE n f = 12 ∧ n = 0) ∨ (paE n f = 1 ∧ n ≠ 0 ∧ knownB (f 0) = false) ∨ (paE n f = 3 ∧ n ≠ 0 ∧ knownB (f 0) = true ∧ saysB n f = false) ∨ (paE n f = 0 ∧ n ≠ 0 ∧ knownB (f 0) = true ∧ saysB n f = true) := by
  unfold paE
  by_cases h0 : n = 0
  · rw [if_pos h0]; exact .inl ⟨rfl, h0⟩
  · rw [if_neg h0]
    cases hk : knownB (f 0) with
    | false => rw [if_pos rfl]; exact .inr (.inl ⟨rfl, h0, rfl⟩)
    | true =>
      rw [if_neg (by decide)]
      cases hs : saysB n f with
      | true => rw [if_pos rfl]; exact .inr (.inr (.inr ⟨rfl, h0, rfl, rfl⟩))
      | false => rw [if_neg (by decide)]; exact .inr (.inr (.inl ⟨rfl, h0, rfl, rfl⟩))
/-- What is understood, said again. -/
theorem parse_parts {n : Nat} {f : Nat → Int} (h : paE n f = 0) : paQ n f = gueQ n f ∧ rightQ (paQ n f) = true ∧ sayN (paQ n f) = n ∧ (∀ i, i < n → sayF (paQ n f) i = f i ∨ (f 0 = 15 ∧ i + 1 = n)) ∧ (paQ n f).k = f 0 := by
  have hq : paQ n f = gueQ n f := by unfold paQ; rw [if_pos h]
  rcases paE_ways n f with ⟨h1, _⟩ | ⟨h1, _⟩ | ⟨h1, _⟩ | ⟨_, _, _, hs⟩
  · rw [h1] at h; cases h
  · rw [h1] at h; cases h
  · rw [h1] at h; cases h
  · obtain ⟨p1, p2, p3⟩ := (saysB_iff n f).1 hs
    rw [hq]
    exact ⟨rfl, p1, p2, p3, gue_k n f⟩
/-- The bits behind the last one of 15. -/
theorem parse_tidy {n : Nat} {f : Nat → Int} (hf : ∀ i, i < n → 0 ≤ f i ∧ f i < 256) (h : paE n f = 0) (h15 : f 0 = 15) :
    6 < n ∧ (tdB (fun i => f (6 + i)) (n - 6) (paQ n f).ct = true ↔ ∀ i, i < n → sayF (paQ n f) i = f i) := by
  obtain ⟨hq, hr, hn, hsay, hk⟩ := parse_parts h
  obtain ⟨hkn, ho, had, hfit⟩ := (rightQ_iff _).1 hr
  rw [h15] at hk
  have hnb : ((paQ n f).nb : Int) = (paQ n f).ct := by
    unfold fitsB at hfit
    simp (config := { decide := true }) only [hk, if_true, if_false, Bool.and_eq_true, inB_iff, decide_eq_true_iff] at hfit
    exact hfit.2
  have hct : 1 ≤ (paQ n f).ct ∧ (paQ n f).ct ≤ 1968 := by
    unfold fitsB at hfit
    simp (config := { decide := true }) only [hk, if_true, if_false, Bool.and_eq_true, inB_iff, decide_eq_true_iff] at hfit
    exact hfit.1
  have hB : (paQ n f).B = unF (fun i => f (6 + i)) := by
    rw [hq]
    unfold gueQ
    simp (config := { decide := true }) only [h15, if_true, if_false]
  have hsz : n = 6 + szN (paQ n f).nb := by
    have := hn
    unfold sayN numN tailN at this
    simp (config := { decide := true }) only [hk, if_true, if_false] at this
    omega
  have hpos : 0 < szN (paQ n f).nb := by unfold szN; omega
  have hF : ∀ j, sayF (paQ n f) (6 + j) = pkF (unF (fun i => f (6 + i))) (paQ n f).nb j := fun j => by
    unfold sayF numN tailF
    simp (config := { decide := true }) only [hk, if_true, if_false]
    rw [if_neg (by omega), if_neg (by omega), if_neg (by omega), hB]
    congr 1
    omega
  generalize paQ n f = Q at *
  refine ⟨by omega, ?_⟩
  rw [tdB_iff]
  have hto : Q.ct.toNat = Q.nb := by omega
  rw [hto]
  constructor
  · rintro ⟨-, -, ht⟩ i hi
    by_cases h6 : i < 6
    · rcases hsay i hi with h | ⟨_, h⟩
      · exact h
      · omega
    · have := pk_un (fun i => f (6 + i)) (n - 6) Q.nb (fun j hj => hf _ (by omega)) (by omega) ht (i - 6) (by omega)
      rw [← hF] at this
      rw [show 6 + (i - 6) = i by omega] at this
      exact this
  · intro hall
    refine ⟨by omega, ?_, ?_⟩
    · rw [← hnb, szI_nat]; omega
    · exact pk_un_only (fun i => f (6 + i)) (n - 6) Q.nb (fun j hj => by rw [← hF]; exact hall _ (by omega))
theorem numN_two {Q : Qst} (h1 : Q.k ≠ 22) (h2 : Q.k ≠ 23) : numN Q = 2 := by unfold numN; rw [if_neg h1, if_neg h2]
theorem numN_three {Q : Qst} (h : Q.k = 22) : numN Q = 3 := by unfold numN; rw [if_pos h]
theorem numN_four {Q : Qst} (h : Q.k = 23) : numN Q = 4 := by unfold numN; rw [if_neg (by omega), if_pos h]
theorem numF_ct {Q : Qst} (h1 : Q.k ≠ 22) (h2 : Q.k ≠ 23) (h3 : ¬ (Q.k = 5 ∨ Q.k = 6)) : numF Q 0 = Q.ad ∧ numF Q 1 = Q.ct := by unfold numF; rw [if_neg h1, if_neg h2, if_neg h3, if_neg h1, if_neg h2, if_neg h3]; exact ⟨rfl, rfl⟩
theorem numF_va {Q : Qst} (h : Q.k = 5 ∨ Q.k = 6) : numF Q 0 = Q.ad ∧ numF Q 1 = Q.va := by
  have h1 : Q.k ≠ 22 := by omega
  have h2 : Q.k ≠ 23 := by omega
  unfold numF; rw [if_neg h1, if_neg h2, if_pos h, if_neg h1, if_neg h2, if_pos h]; exact ⟨rfl, rfl⟩
theorem numF_an {Q : Qst} (h : Q.k = 22) : numF Q 0 = Q.ad ∧ numF Q 1 = Q.an ∧ numF Q 2 = Q.oo := by unfold numF; rw [if_pos h, if_pos h, if_pos h]; exact ⟨rfl, rfl, rfl⟩
theorem numF_fr {Q : Qst} (h : Q.k = 23) : numF Q 0 = Q.fr ∧ numF Q 1 = Q.mn ∧ numF Q 2 = Q.ad ∧ numF Q 3 = Q.ct := by
  have h' : Q.k ≠ 22 := by omega
  unfold numF; rw [if_neg h', if_pos h, if_neg h', if_pos h, if_neg h', if_pos h, if_neg h', if_pos h]; exact ⟨rfl, rfl, rfl, rfl⟩
theorem tail_none {Q : Qst} (h1 : Q.k ≠ 15) (h2 : ¬ (Q.k = 16 ∨ Q.k = 23)) : tailN Q = 0 := by unfold tailN; rw [if_neg h1, if_neg h2]
theorem tail_bits {Q : Qst} (h : Q.k = 15) : tailN Q = 1 + szN Q.nb ∧ ∀ i, tailF Q i = if i = 0 then (szN Q.nb : Int) else pkF Q.B Q.nb (i - 1) := by unfold tailN tailF; rw [if_pos h]; exact ⟨rfl, fun i => by rw [if_pos h]⟩
theorem tail_words {Q : Qst} (h : Q.k = 16 ∨ Q.k = 23) : tailN Q = 1 + 2 * Q.nr ∧ ∀ i, tailF Q i = if i = 0 then 2 * Q.ct else putF Q.R (i - 1) := by
  have h' : Q.k ≠ 15 := by omega
  unfold tailN tailF; rw [if_neg h', if_pos h]; exact ⟨rfl, fun i => by rw [if_neg h']⟩
theorem fits_bits {Q : Qst} (h : Q.k = 15) (hf : fitsB Q = true) : (1 ≤ Q.ct ∧ Q.ct ≤ 1968) ∧ (Q.nb : Int) = Q.ct := by
  unfold fitsB at hf
  rw [if_neg (by omega), if_neg (by omega), if_neg (by omega), if_neg (by omega), if_pos h, Bool.and_eq_true, inB_iff, decide_eq_true_iff] at hf
  exact hf
theorem fits_words {Q : Qst} (h : Q.k = 16 ∨ Q.k = 23) (hf : fitsB Q = true) : (1 ≤ Q.ct ∧ Q.ct ≤ 123) ∧ (Q.nr : Int) = Q.ct := by
  unfold fitsB at hf
  rw [if_neg (by omega), if_neg (by omega), if_neg (by omega), if_neg (by omega), if_neg (by omega)] at hf
  rcases h with h | h
  · rw [if_pos h, Bool.and_eq_true, inB_iff, decide_eq_true_iff] at hf
    exact hf
  · rw [if_neg (by omega), if_neg (by omega), Bool.and_eq_true, Bool.and_eq_true, Bool.and_eq_true, inB_iff, inB_iff, inB_iff, decide_eq_true_iff] at hf
    exact ⟨by omega, hf.2⟩
end Go.Proofs.Ytejiafihiielgaa
