/-
  LAYER 15, PLAIN: an ask's numbers by their cells; the fields of a function, as package ask reads them; when an ask may be.
-/
import Derived.Test.YtejiafihiielgaaAskM
namespace Go.Proofs.Ytejiafihiielgaa
open Go.RowKit
set_option linter.unusedVariables false

/-- The number in a cell of an ask. -/
def getQ (o : Nat) (Q : Qst) : Int := if o = 1 then Q.ad else if o = 2 then Q.ct else if o = 3 then Q.va else if o = 4 then Q.an else if o = 5 then Q.oo else if o = 6 then Q.fr else Q.mn
def setQ (o : Nat) (v : Int) (Q : Qst) : Qst :=
  if o = 1 then { Q with ad := v } else if o = 2 then { Q with ct := v } else if o = 3 then { Q with va := v } else if o = 4 then { Q with an := v } else if o = 5 then { Q with oo := v } else if o = 6 then { Q with fr := v } else { Q with mn := v }
theorem seven {o : Nat} (h1 : 1 ≤ o) (h7 : o ≤ 7) : o = 1 ∨ o = 2 ∨ o = 3 ∨ o = 4 ∨ o = 5 ∨ o = 6 ∨ o = 7 := by omega
theorem setQ_cells (V : QstV) (Q : Qst) {o : Nat} (v : Int) (h1 : 1 ≤ o) (h7 : o ≤ 7) : (qstC V Q).setIfInBounds o (.int .i64 v) = qstC V (setQ o v Q) := by
  rcases seven h1 h7 with rfl | rfl | rfl | rfl | rfl | rfl | rfl <;> rfl
theorem getQ_cell (V : QstV) (Q : Qst) {o : Nat} (h1 : 1 ≤ o) (h7 : o ≤ 7) : (qstC V Q)[o]? = some (.int .i64 (getQ o Q)) := by
  rcases seven h1 h7 with rfl | rfl | rfl | rfl | rfl | rfl | rfl <;> rfl
theorem setQ_rest (o : Nat) (v : Int) (Q : Qst) : (setQ o v Q).k = Q.k ∧ (setQ o v Q).nb = Q.nb ∧ (setQ o v Q).B = Q.B ∧ (setQ o v Q).nr = Q.nr ∧ (setQ o v Q).R = Q.R := by
  unfold setQ
  repeat' split
  all_goals exact ⟨rfl, rfl, rfl, rfl, rfl⟩
theorem setQ_at {w : World} {V : QstV} {Q : Qst} (h : QstAt w V Q) (o : Nat) (v : Int) : QstAt w V (setQ o v Q) := by
  obtain ⟨_, e1, e2, e3, e4⟩ := setQ_rest o v Q
  exact ⟨by rw [e1, e2]; exact h.h1, by rw [e1]; exact h.l1, h.m1, by rw [e3, e4]; exact h.h2, by rw [e3]; exact h.l2, h.m2⟩
/-- A function's fields: which cell, from, to, by steps. -/
def fldO (k : Int) (i : Nat) : Nat :=
  if k = 22 then (if i = 0 then 1 else if i = 1 then 4 else 5)
  else if k = 23 then (if i = 0 then 6 else if i = 1 then 7 else if i = 2 then 1 else 2)
  else if k = 5 ∨ k = 6 then (if i = 0 then 1 else 3)
  else (if i = 0 then 1 else 2)
def fldL (k : Int) (i : Nat) : Int := if k = 22 ∨ k = 5 ∨ k = 6 then 0 else if k = 23 then (if i = 1 ∨ i = 3 then 1 else 0) else (if i = 0 then 0 else 1)
def fldH (k : Int) (i : Nat) : Int :=
  if k = 22 ∨ k = 6 then 65535
  else if k = 23 then (if i = 1 then 125 else if i = 3 then 121 else 65535)
  else if i = 0 then 65535
  else if k = 5 then 65280 else if k = 1 ∨ k = 2 then 2000 else if k = 3 ∨ k = 4 then 125 else if k = 15 then 1968 else 123
def fldT (k : Int) (i : Nat) : Int := if k = 5 ∧ i ≠ 0 then 65280 else 1
def fldN (k : Int) : Nat := if k = 22 then 3 else if k = 23 then 4 else 2
theorem fldO_bd (k : Int) (i : Nat) : 1 ≤ fldO k i ∧ fldO k i ≤ 7 := by
  unfold fldO
  repeat' split
  all_goals omega
theorem fldB_bd (k : Int) (i : Nat) : 0 ≤ fldL k i ∧ fldL k i ≤ 1 ∧ 0 ≤ fldH k i ∧ fldH k i ≤ 65535 ∧ 1 ≤ fldT k i ∧ fldT k i ≤ 65280 := by
  unfold fldL fldH fldT
  refine ⟨?_, ?_, ?_, ?_, ?_, ?_⟩ <;> (repeat' split) <;> omega
theorem fldN_bd (k : Int) : 2 ≤ fldN k ∧ fldN k ≤ 4 := by unfold fldN; split; omega; split <;> omega
theorem fldN_eq (Q : Qst) : fldN Q.k = numN Q := rfl
theorem fld_num (Q : Qst) (i : Nat) : getQ (fldO Q.k i) Q = numF Q i := by
  unfold fldO numF
  repeat' split
  all_goals rfl
/-- Is a number what a field may be? -/
def fitI (l h t n : Int) : Bool := decide (l ≤ n ∧ n ≤ h ∧ (n - l) % t = 0)
def fitK (k : Int) (i : Nat) (n : Int) : Bool := fitI (fldL k i) (fldH k i) (fldT k i) n
/-- An ask, the first i of its numbers taken out. -/
def clrQ (Q : Qst) : Nat → Qst
  | 0 => Q
  | i + 1 => setQ (fldO Q.k i) 0 (clrQ Q i)
theorem clrQ_rest (Q : Qst) : ∀ i, (clrQ Q i).k = Q.k ∧ (clrQ Q i).nb = Q.nb ∧ (clrQ Q i).B = Q.B ∧ (clrQ Q i).nr = Q.nr ∧ (clrQ Q i).R = Q.R
  | 0 => ⟨rfl, rfl, rfl, rfl, rfl⟩
  | i + 1 => by
    obtain ⟨h1, h2, h3, h4, h5⟩ := setQ_rest (fldO Q.k i) 0 (clrQ Q i)
    obtain ⟨g1, g2, g3, g4, g5⟩ := clrQ_rest Q i
    exact ⟨h1.trans g1, h2.trans g2, h3.trans g3, h4.trans g4, h5.trans g5⟩
theorem clrQ_at {w : World} {V : QstV} {Q : Qst} (h : QstAt w V Q) : ∀ i, QstAt w V (clrQ Q i)
  | 0 => h
  | i + 1 => setQ_at (clrQ_at h i) _ _
theorem clr_num {Q : Qst} (hk : knownB Q.k = true) {i : Nat} (hi : i < numN Q) : getQ (fldO Q.k i) (clrQ Q i) = numF Q i := by
  have hk := (known_iff Q.k).1 hk
  rcases hk with hk | hk | hk | hk | hk | hk | hk | hk | hk | hk <;>
  · unfold numN at hi
    unfold numF
    simp (config := { decide := true }) only [hk, if_true, if_false] at hi ⊢
    have h4 : i = 0 ∨ i = 1 ∨ i = 2 ∨ i = 3 := by omega
    rcases h4 with rfl | rfl | rfl | rfl <;> first | omega | (simp (config := { decide := true }) [clrQ, fldO, hk, getQ, setQ])
def restQ (Q : Qst) : Qst := { clrQ Q (numN Q) with nb := 0, nr := 0 }
def ofbQ (Q : Qst) : Int := if Q.k = 15 then Q.ct else 0
def ofrQ (Q : Qst) : Int := if Q.k = 16 ∨ Q.k = 23 then Q.ct else 0
theorem all_2 {P : Nat → Prop} : (∀ i, i < 2 → P i) ↔ P 0 ∧ P 1 := ⟨fun h => ⟨h 0 (by omega), h 1 (by omega)⟩, fun h i hi => by
  have : i = 0 ∨ i = 1 := by omega
  rcases this with rfl | rfl; exact h.1; exact h.2⟩
theorem all_3 {P : Nat → Prop} : (∀ i, i < 3 → P i) ↔ P 0 ∧ P 1 ∧ P 2 := ⟨fun h => ⟨h 0 (by omega), h 1 (by omega), h 2 (by omega)⟩, fun h i hi => by
  have : i = 0 ∨ i = 1 ∨ i = 2 := by omega
  rcases this with rfl | rfl | rfl; exact h.1; exact h.2.1; exact h.2.2⟩
theorem all_4 {P : Nat → Prop} : (∀ i, i < 4 → P i) ↔ P 0 ∧ P 1 ∧ P 2 ∧ P 3 := ⟨fun h => ⟨h 0 (by omega), h 1 (by omega), h 2 (by omega), h 3 (by omega)⟩, fun h i hi => by
  have : i = 0 ∨ i = 1 ∨ i = 2 ∨ i = 3 := by omega
  rcases this with rfl | rfl | rfl | rfl; exact h.1; exact h.2.1; exact h.2.2.1; exact h.2.2.2⟩
/-- When an ask may be, as package ask finds it. -/
theorem rightL_iff {Q : Qst} (hk : knownB Q.k = true) :
    rightQ Q = true ↔ (∀ i, i < numN Q → fitK Q.k i (numF Q i) = true) ∧ sameQ (restQ Q) { zeroQ with k := Q.k } = true ∧ (Q.nb : Int) = ofbQ Q ∧ (Q.nr : Int) = ofrQ Q := by
  rw [rightQ_iff]
  have hs : sameQ (restQ Q) { zeroQ with k := Q.k } = true ↔ (restQ Q).ad = 0 ∧ (restQ Q).ct = 0 ∧ (restQ Q).va = 0 ∧ (restQ Q).an = 0 ∧ (restQ Q).oo = 0 ∧ (restQ Q).fr = 0 ∧ (restQ Q).mn = 0 := by
    rw [sameQ_iff]
    constructor
    · intro h; exact ⟨h.ad, h.ct, h.va, h.an, h.oo, h.fr, h.mn⟩
    · rintro ⟨h1, h2, h3, h4, h5, h6, h7⟩
      exact ⟨(clrQ_rest Q _).1, h1, h2, h3, h4, h5, h6, h7, rfl, fun i hi => absurd hi (Nat.not_lt_zero i), rfl, fun i hi => absurd hi (Nat.not_lt_zero i)⟩
  rw [hs]
  have hkk := (known_iff Q.k).1 hk
  rw [hk]
  unfold onlyP fitsB numN restQ numN ofbQ ofrQ
  rcases hkk with hkk | hkk | hkk | hkk | hkk | hkk | hkk | hkk | hkk | hkk
  all_goals
    simp (config := { decide := true }) only [hkk, if_true, if_false, true_and, Bool.and_eq_true, decide_eq_true_iff, inB_iff, true_implies, false_implies, and_true, or_true, or_false, all_2, all_3, all_4, fitK, fitI, fldL, fldH, fldT, numF, clrQ, fldO, setQ]
    constructor <;> (intro h; omega)
end Go.Proofs.Ytejiafihiielgaa
