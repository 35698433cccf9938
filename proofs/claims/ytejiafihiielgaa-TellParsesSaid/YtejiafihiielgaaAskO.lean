/-
  LAYER 15, PLAIN: how package ask takes an ask out of bytes, number by number; that it is the ask that they say.
-/
import Derived.Test.YtejiafihiielgaaAskC
import Derived.Test.YtejiafihiielgaaBitsX
namespace Go.Proofs.Ytejiafihiielgaa
open Go.RowKit
set_option linter.unusedVariables false

/-- Where the i-th number begins, and what it is; -1, where there are not two bytes. -/
def takO (n : Nat) : Nat → Nat
  | 0 => 1
  | i + 1 => if takO n i + 2 ≤ n then takO n i + 2 else takO n i
def takA (n : Nat) (f : Nat → Int) (O : Nat) : Int := if O + 2 ≤ n then f O * 256 + f (O + 1) else -1
def takV (n : Nat) (f : Nat → Int) (i : Nat) : Int := takA n f (takO n i)
/-- The ask, its first i numbers laid. -/
def filQ (n : Nat) (f : Nat → Int) (k : Int) : Nat → Qst
  | 0 => { zeroQ with k := k }
  | i + 1 => setQ (fldO k i) (takV n f i) (filQ n f k i)
/-- Is what is left a list that tells its length? -/
def lstB (n : Nat) (f : Nat → Int) (O : Nat) : Bool := decide (O < n ∧ f O = (n : Int) - O - 1)
def lstN (n : Nat) (f : Nat → Int) (O : Nat) : Nat := if lstB n f O = true then n - O - 1 else 0
def lefN (n : Nat) (f : Nat → Int) (O : Nat) : Nat := if lstB n f O = true then 0 else n - O
def getN (m : Nat) : Nat := if m % 2 = 0 then m / 2 else 0
/-- The list laid. -/
def lisQ (n : Nat) (f : Nat → Int) (O : Nat) (T : Qst) : Qst :=
  if T.k = 15 then { T with nb := unN (lstN n f O) T.ct, B := unF (fun i => f (O + 1 + i)) }
  else if T.k = 16 ∨ T.k = 23 then { T with nr := getN (lstN n f O), R := getF (fun i => f (O + 1 + i)) }
  else T
def lisL (n : Nat) (f : Nat → Int) (O : Nat) (k : Int) : Nat := if k = 15 ∨ k = 16 ∨ k = 23 then lefN n f O else n - O
def parO (n : Nat) (f : Nat → Int) : Nat := takO n (fldN (f 0))
def parQ (n : Nat) (f : Nat → Int) : Qst := lisQ n f (parO n f) (filQ n f (f 0) (fldN (f 0)))
def parL (n : Nat) (f : Nat → Int) : Nat := lisL n f (parO n f) (f 0)
theorem takO_le (n : Nat) (h : 1 ≤ n) : ∀ i, takO n i ≤ n ∧ 1 ≤ takO n i
  | 0 => ⟨h, Nat.le_refl _⟩
  | i + 1 => by
    have := takO_le n h i
    unfold takO
    split <;> omega
theorem takA_bd {n : Nat} {f : Nat → Int} {O : Nat} (hf : ∀ i, i < n → 0 ≤ f i ∧ f i < 256) : -1 ≤ takA n f O ∧ takA n f O < 65536 := by
  unfold takA
  split
  · have := hf O (by omega)
    have := hf (O + 1) (by omega)
    omega
  · omega
theorem takO_all {n m : Nat} (h : 1 + 2 * m ≤ n) : ∀ i, i ≤ m → takO n i = 1 + 2 * i
  | 0, _ => rfl
  | i + 1, hi => by
    have e := takO_all h i (by omega)
    unfold takO
    rw [e, if_pos (by omega)]
    omega
theorem takO_few {n : Nat} {f : Nat → Int} : ∀ m, (∀ i, i < m → 0 ≤ takV n f i) → takO n m = 1 + 2 * m ∧ (0 < m → 1 + 2 * m ≤ n)
  | 0, _ => ⟨rfl, fun h => absurd h (by omega)⟩
  | m + 1, h => by
    obtain ⟨e, -⟩ := takO_few (f := f) m (fun i hi => h i (by omega))
    have hv := h m (by omega)
    unfold takV takA at hv
    have hle : takO n m + 2 ≤ n := by
      rcases Nat.lt_or_ge n (takO n m + 2) with h | h
      · rw [if_neg (by omega)] at hv; omega
      · exact h
    unfold takO
    rw [if_pos hle, e]
    rw [e] at hle
    omega
theorem takV_num {n m : Nat} {f : Nat → Int} (h : 1 + 2 * m ≤ n) {i : Nat} (hi : i < m) : takV n f i = numAt n f (1 + 2 * i) := by
  unfold takV takA numAt
  rw [takO_all h i (by omega), if_pos (by omega), if_pos (by omega)]
theorem filQ_rest (n : Nat) (f : Nat → Int) (k : Int) : ∀ i, (filQ n f k i).k = k ∧ (filQ n f k i).nb = 0 ∧ (filQ n f k i).B = (fun _ => false) ∧ (filQ n f k i).nr = 0 ∧ (filQ n f k i).R = fun _ => 0
  | 0 => ⟨rfl, rfl, rfl, rfl, rfl⟩
  | i + 1 => by
    obtain ⟨h1, h2, h3, h4, h5⟩ := setQ_rest (fldO k i) (takV n f i) (filQ n f k i)
    obtain ⟨g1, g2, g3, g4, g5⟩ := filQ_rest n f k i
    exact ⟨h1.trans g1, h2.trans g2, h3.trans g3, h4.trans g4, h5.trans g5⟩
theorem lisQ_num (n : Nat) (f : Nat → Int) (O : Nat) (T : Qst) : (lisQ n f O T).k = T.k ∧ numF (lisQ n f O T) = numF T ∧ (lisQ n f O T).ct = T.ct := by
  unfold lisQ
  split
  · exact ⟨rfl, rfl, rfl⟩
  split
  · exact ⟨rfl, rfl, rfl⟩
  · exact ⟨rfl, rfl, rfl⟩
/-- The numbers that were laid. -/
theorem fil_num (n : Nat) (f : Nat → Int) {k : Int} (hk : knownB k = true) {i : Nat} (hi : i < fldN k) : numF (filQ n f k (fldN k)) i = takV n f i := by
  have hk := (known_iff k).1 hk
  rcases hk with rfl | rfl | rfl | rfl | rfl | rfl | rfl | rfl | rfl | rfl <;>
  · unfold fldN at hi
    simp (config := { decide := true }) only [if_true, if_false] at hi
    have h4 : i = 0 ∨ i = 1 ∨ i = 2 ∨ i = 3 := by omega
    rcases h4 with rfl | rfl | rfl | rfl <;> first | omega | (simp (config := { decide := true }) [filQ, fldN, setQ, numF, zeroQ])
/-- The ask of the numbers alone, when all are there, is the one that is guessed, but for its list. -/
theorem fil_gue {n : Nat} {f : Nat → Int} (hk : knownB (f 0) = true) (h : 1 + 2 * fldN (f 0) ≤ n) :
    filQ n f (f 0) (fldN (f 0)) = { gueQ n f with nb := 0, B := fun _ => false, nr := 0, R := fun _ => 0 } := by
  have e0 := fun h => takV_num (n := n) (m := fldN (f 0)) (f := f) (i := 0) ‹_› h
  have e1 := fun h => takV_num (n := n) (m := fldN (f 0)) (f := f) (i := 1) ‹_› h
  have e2 := fun h => takV_num (n := n) (m := fldN (f 0)) (f := f) (i := 2) ‹_› h
  have e3 := fun h => takV_num (n := n) (m := fldN (f 0)) (f := f) (i := 3) ‹_› h
  have hk := (known_iff (f 0)).1 hk
  unfold gueQ
  generalize f 0 = k at *
  rcases hk with rfl | rfl | rfl | rfl | rfl | rfl | rfl | rfl | rfl | rfl <;>
  simp (config := { decide := true }) [filQ, fldN, setQ, zeroQ] at e0 e1 e2 e3 ⊢ <;> simp [e0, e1, e2, e3]
theorem pk_full (b : Nat → Int) (n j : Nat) (h : 8 * j + 8 ≤ n) (hb : 0 ≤ b j ∧ b j < 256) : pkF (unF b) n j = b j := by
  unfold pkF
  have e : bt (fun k => decide (8 * j + k < n) && unF b (8 * j + k)) 8 = bt (fun i => (b j).toNat.testBit i) 8 := bt_congr 8 fun i hi => by
    have e1 : unF b (8 * j + i) = (b j).toNat.testBit i := by unfold unF; rw [show (8 * j + i) / 8 = j by omega, show (8 * j + i) % 8 = i by omega]
    rw [e1, decide_eq_true (by omega), Bool.true_and]
  rw [e, bt_of_bits _ 8 (by omega)]
  omega
theorem gue_fun {n : Nat} {f : Nat → Int} (hk : knownB (f 0) = true) (h : 1 + 2 * fldN (f 0) ≤ n) {i : Nat} (hi : i < fldN (f 0)) : numF (gueQ n f) i = f (1 + 2 * i) * 256 + f (1 + 2 * i + 1) := by
  have e := fil_num n f hk hi
  rw [fil_gue hk h] at e
  have e2 : numF (gueQ n f) i = takV n f i := e
  rw [e2]
  unfold takV takA
  rw [takO_all h i (by omega), if_pos (by omega)]
/-- The bytes of the function and of its numbers. -/
theorem gue_head {n : Nat} {f : Nat → Int} (hf : ∀ i, i < n → 0 ≤ f i ∧ f i < 256) (hk : knownB (f 0) = true) (h : 1 + 2 * fldN (f 0) ≤ n) {i : Nat} (hi : i < 1 + 2 * fldN (f 0)) : sayF (gueQ n f) i = f i := by
  have hn : numN (gueQ n f) = fldN (f 0) := by rw [← fldN_eq, gue_k]
  unfold sayF
  by_cases h0 : i = 0
  · rw [if_pos h0, gue_k, h0]
  · rw [if_neg h0, hn, if_pos hi]
    have hj : i - 1 = 2 * ((i - 1) / 2) ∨ i - 1 = 2 * ((i - 1) / 2) + 1 := by omega
    have hfj := gue_fun hk h (i := (i - 1) / 2) (by omega)
    rcases hj with e | e
    · rw [e, putF_even, hfj]
      have := hf (1 + 2 * ((i - 1) / 2)) (by omega)
      have := hf (1 + 2 * ((i - 1) / 2) + 1) (by omega)
      rw [show f i = f (1 + 2 * ((i - 1) / 2)) from by congr 1; omega]
      omega
    · rw [e, putF_odd, hfj]
      have := hf (1 + 2 * ((i - 1) / 2)) (by omega)
      have := hf (1 + 2 * ((i - 1) / 2) + 1) (by omega)
      rw [show f i = f (1 + 2 * ((i - 1) / 2) + 1) from by congr 1; omega]
      omega
theorem gue_words {n : Nat} {f : Nat → Int} (h : f 0 = 16 ∨ f 0 = 23) : (gueQ n f).nr = behN n (1 + 2 * fldN (f 0) + 1) ∧ (gueQ n f).R = getF (fun i => f (1 + 2 * fldN (f 0) + 1 + i)) ∧ (gueQ n f).nb = 0 ∧ (gueQ n f).B = fun _ => false := by
  rcases h with h | h
  · have hm : fldN (f 0) = 2 := by rw [h]; rfl
    rw [hm]
    refine ⟨?_, ?_, ?_, ?_⟩ <;> (unfold gueQ; simp (config := { decide := true }) only [h, if_true, if_false]) <;> rfl
  · have hm : fldN (f 0) = 4 := by rw [h]; rfl
    rw [hm]
    refine ⟨?_, ?_, ?_, ?_⟩ <;> (unfold gueQ; simp (config := { decide := true }) only [h, if_true, if_false]) <;> rfl
theorem gue_bits {n : Nat} {f : Nat → Int} (h : f 0 = 15) : (gueQ n f).nb = (if 6 < n ∧ (n : Int) - 6 = szI (gueQ n f).ct then (gueQ n f).ct.toNat else 0) ∧ (gueQ n f).B = unF (fun i => f (6 + i)) ∧ (gueQ n f).nr = 0 ∧ (gueQ n f).R = fun _ => 0 := by
  refine ⟨?_, ?_, ?_, ?_⟩ <;> (unfold gueQ; simp (config := { decide := true }) only [h, if_true, if_false]) <;> rfl
theorem gue_none {n : Nat} {f : Nat → Int} (h1 : f 0 ≠ 15) (h2 : ¬ (f 0 = 16 ∨ f 0 = 23)) : (gueQ n f).nb = 0 ∧ (gueQ n f).B = (fun _ => false) ∧ (gueQ n f).nr = 0 ∧ (gueQ n f).R = fun _ => 0 := by
  unfold gueQ
  repeat' split
  all_goals first | exact ⟨rfl, rfl, rfl, rfl⟩ | (exfalso; omega)
theorem qst_eta (G : Qst) {nb : Nat} {B : Nat → Bool} {nr : Nat} {R : Nat → Int} (h1 : G.nb = nb) (h2 : G.B = B) (h3 : G.nr = nr) (h4 : G.R = R) : ({ G with nb := nb, B := B, nr := nr, R := R } : Qst) = G := by
  subst h1 h2 h3 h4; rfl
/-- What is taken, when all numbers are there and the list fits, is the ask that is guessed. -/
theorem par_says {n : Nat} {f : Nat → Int} (hf : ∀ i, i < n → 0 ≤ f i ∧ f i < 256) (h0 : 0 < n) (hk : knownB (f 0) = true) :
    ((parL n f = 0 ∧ rightQ (parQ n f) = true) → saysB n f = true ∧ parQ n f = gueQ n f) ∧ (saysB n f = true → parL n f = 0 ∧ parQ n f = gueQ n f) := by
  have hfk := (filQ_rest n f (f 0) (fldN (f 0))).1
  obtain ⟨pk, pn, pc⟩ := lisQ_num n f (parO n f) (filQ n f (f 0) (fldN (f 0)))
  have hT : ∀ T, parQ n f = T → T.k = f 0 := fun T e => by rw [← e]; exact pk.trans hfk
  have hGk := gue_k n f
  have hsay := saysB_iff n f
  have hnG : numN (gueQ n f) = fldN (f 0) := by rw [← fldN_eq, hGk]
  have hmb := fldN_bd (f 0)
  constructor
  · rintro ⟨hL, hr⟩
    have hbd := numF_bd hr
    have hnT : numN (parQ n f) = fldN (f 0) := by rw [← fldN_eq, hT _ rfl]
    have hall : ∀ i, i < fldN (f 0) → 0 ≤ takV n f i := fun i hi => by
      have := (hbd i (by rw [hnT]; exact hi)).1
      have e : numF (parQ n f) i = takV n f i := by
        show numF (lisQ n f (parO n f) (filQ n f (f 0) (fldN (f 0)))) i = _
        rw [pn]; exact fil_num n f hk hi
      omega
    obtain ⟨hO, hle⟩ := takO_few _ hall
    have hle := hle (by omega)
    have hO' : parO n f = 1 + 2 * fldN (f 0) := hO
    have hG := fil_gue hk hle
    have hP : parQ n f = lisQ n f (1 + 2 * fldN (f 0)) { gueQ n f with nb := 0, B := fun _ => false, nr := 0, R := fun _ => 0 } := by unfold parQ; rw [hO', hG]
    have hLL : parL n f = lisL n f (1 + 2 * fldN (f 0)) (f 0) := by unfold parL; rw [hO']
    obtain ⟨hkn, ho, had, hfit⟩ := (rightQ_iff _).1 hr
    have hhead := fun i hi => gue_head hf hk hle (i := i) hi
    by_cases h15 : f 0 = 15
    · have hm : fldN (f 0) = 2 := by rw [h15]; rfl
      rw [hm] at hle hP hLL hhead hnG
      obtain ⟨g1, g2, g3, g4⟩ := gue_bits (n := n) h15
      unfold lisL at hLL
      rw [if_pos (.inl h15)] at hLL
      have hP2 : parQ n f = { gueQ n f with nb := unN (lstN n f 5) (gueQ n f).ct, B := unF (fun i => f (6 + i)), nr := 0, R := fun _ => 0 } := by
        rw [hP]; unfold lisQ; rw [if_pos (by exact hGk.trans h15)]
      obtain ⟨hct, hnb⟩ := fits_bits ((hT _ rfl).trans h15) hfit
      rw [hP2] at hct hnb
      simp only at hct hnb
      have hun := unN_le (m := lstN n f 5) (n := (gueQ n f).ct)
      have hb : lstB n f 5 = true := by
        cases hb : lstB n f 5
        · have : lstN n f 5 = 0 := by unfold lstN; rw [hb]; rfl
          omega
        · rfl
      have hln : lstN n f 5 = n - 6 := by unfold lstN; rw [if_pos hb]; omega
      have hb' := hb
      unfold lstB at hb'
      rw [decide_eq_true_iff] at hb'
      rw [hln] at hnb hun
      have hue : unE (n - 6) (gueQ n f).ct = 0 := by
        rcases Decidable.em (unE (n - 6) (gueQ n f).ct = 0) with h | h
        · exact h
        · exfalso
          have : unN (n - 6) (gueQ n f).ct = 0 := by unfold unN; rw [if_neg h]
          omega
      have hue' := unE_zero.1 hue
      have hn6 : 6 < n := by omega
      have hnbG : (gueQ n f).nb = (gueQ n f).ct.toNat := by rw [g1, if_pos ⟨hn6, by omega⟩]
      have hunv : unN (n - 6) (gueQ n f).ct = (gueQ n f).ct.toNat := by unfold unN; rw [if_pos hue]
      have hPG : parQ n f = gueQ n f := by
        rw [hP2, hln, hunv, ← hnbG]
        exact qst_eta _ rfl g2 g3 g4
      have hszN : szN (gueQ n f).nb = n - 6 := by
        have := szI_nat (gueQ n f).nb
        have e : ((gueQ n f).nb : Int) = (gueQ n f).ct := by omega
        rw [e] at this
        omega
      obtain ⟨t1, t2⟩ := tail_bits (Q := gueQ n f) (hGk.trans h15)
      have hsn : sayN (gueQ n f) = n := by unfold sayN; rw [t1, hnG, hszN]; omega
      refine ⟨hsay.2 ⟨by rw [← hPG]; exact hr, hsn, fun i hi => ?_⟩, hPG⟩
      by_cases hi5 : i < 1 + 2 * 2
      · exact .inl (hhead i hi5)
      by_cases hil : i + 1 = n
      · exact .inr ⟨h15, hil⟩
      · refine .inl ?_
        unfold sayF
        rw [if_neg (by omega), hnG, if_neg hi5, t2]
        by_cases hi6 : i = 5
        · subst hi6
          rw [if_pos (by omega), hszN, hb'.2]; omega
        · rw [if_neg (by omega), g2, show i - (1 + 2 * 2) - 1 = i - 6 by omega, pk_full _ _ _ (by unfold szN at hszN; omega) (by have := hf (6 + (i - 6)) (by omega); exact this)]
          congr 1; omega
    by_cases h16 : f 0 = 16 ∨ f 0 = 23
    · obtain ⟨g1, g2, g3, g4⟩ := gue_words (n := n) h16
      generalize hm : fldN (f 0) = m at *
      unfold lisL at hLL
      rw [if_pos (.inr h16)] at hLL
      have hP2 : parQ n f = { gueQ n f with nb := 0, B := fun _ => false, nr := getN (lstN n f (1 + 2 * m)), R := getF (fun i => f (1 + 2 * m + 1 + i)) } := by
        rw [hP]; unfold lisQ; rw [if_neg (by show ¬ (gueQ n f).k = 15; rw [hGk]; exact h15), if_pos (by show (gueQ n f).k = 16 ∨ (gueQ n f).k = 23; rw [hGk]; exact h16)]
      obtain ⟨hct, hnr⟩ := fits_words (by rw [hT _ rfl]; exact h16) hfit
      rw [hP2] at hct hnr
      simp only at hct hnr
      have hb : lstB n f (1 + 2 * m) = true := by
        cases hb : lstB n f (1 + 2 * m)
        · have : lstN n f (1 + 2 * m) = 0 := by unfold lstN; rw [hb]; rfl
          rw [this] at hnr
          have : getN 0 = 0 := rfl
          omega
        · rfl
      have hln : lstN n f (1 + 2 * m) = n - (1 + 2 * m) - 1 := by unfold lstN; rw [if_pos hb]
      have hb' := hb
      unfold lstB at hb'
      rw [decide_eq_true_iff] at hb'
      rw [hln] at hnr
      have hev : (n - (1 + 2 * m) - 1) % 2 = 0 := by
        rcases Decidable.em ((n - (1 + 2 * m) - 1) % 2 = 0) with h | h
        · exact h
        · exfalso; unfold getN at hnr; rw [if_neg h] at hnr; omega
      have hgn : getN (n - (1 + 2 * m) - 1) = (n - (1 + 2 * m) - 1) / 2 := by unfold getN; rw [if_pos hev]
      have hnG2 : (gueQ n f).nr = (n - (1 + 2 * m) - 1) / 2 := by
        rw [g1]; unfold behN; rw [if_pos (by rw [hgn] at hnr; omega)]; omega
      have hPG : parQ n f = gueQ n f := by
        rw [hP2, hln, hgn]
        exact qst_eta _ g3 g4 hnG2 g2
      obtain ⟨t1, t2⟩ := tail_words (Q := gueQ n f) (by rw [hGk]; exact h16)
      have hct2 : (gueQ n f).ct = ((gueQ n f).nr : Int) := by rw [hnG2, ← hgn]; omega
      have hsn : sayN (gueQ n f) = n := by unfold sayN; rw [t1, hnG, hnG2]; rw [hgn] at hnr; omega
      refine ⟨hsay.2 ⟨by rw [← hPG]; exact hr, hsn, fun i hi => .inl ?_⟩, hPG⟩
      by_cases hi5 : i < 1 + 2 * m
      · exact hhead i hi5
      · unfold sayF
        rw [if_neg (by omega), hnG, if_neg hi5, t2]
        by_cases hi6 : i = 1 + 2 * m
        · rw [if_pos (by omega), hct2, hnG2, hi6, hb'.2]; omega
        · rw [if_neg (by omega), g2]
          have hj : i - (1 + 2 * m) - 1 = 2 * ((i - (1 + 2 * m) - 1) / 2) ∨ i - (1 + 2 * m) - 1 = 2 * ((i - (1 + 2 * m) - 1) / 2) + 1 := by omega
          have b1 := hf (1 + 2 * m + 1 + 2 * ((i - (1 + 2 * m) - 1) / 2)) (by omega)
          have b2 := hf (1 + 2 * m + 1 + (2 * ((i - (1 + 2 * m) - 1) / 2) + 1)) (by omega)
          rcases hj with e | e
          · rw [e, putF_even]
            dsimp only [getF]
            rw [show f i = f (1 + 2 * m + 1 + 2 * ((i - (1 + 2 * m) - 1) / 2)) from by congr 1; omega]
            omega
          · rw [e, putF_odd]
            dsimp only [getF]
            rw [show f i = f (1 + 2 * m + 1 + (2 * ((i - (1 + 2 * m) - 1) / 2) + 1)) from by congr 1; omega]
            omega
    · obtain ⟨g1, g2, g3, g4⟩ := gue_none (n := n) h15 h16
      have hPG : parQ n f = gueQ n f := by
        rw [hP]; unfold lisQ
        rw [if_neg (by show ¬ (gueQ n f).k = 15; rw [hGk]; exact h15), if_neg (by show ¬ ((gueQ n f).k = 16 ∨ (gueQ n f).k = 23); rw [hGk]; exact h16)]
        exact qst_eta _ g1 g2 g3 g4
      have hL0 : n = 1 + 2 * fldN (f 0) := by
        rw [hLL] at hL; unfold lisL at hL
        rw [if_neg (by omega)] at hL; omega
      have hsn : sayN (gueQ n f) = n := by unfold sayN; rw [tail_none (Q := gueQ n f) (by rw [hGk]; exact h15) (by rw [hGk]; exact h16), hnG]; omega
      exact ⟨hsay.2 ⟨by rw [← hPG]; exact hr, hsn, fun i hi => .inl (hhead i (by omega))⟩, hPG⟩
  · intro hs
    obtain ⟨hr, hsn, hsf⟩ := hsay.1 hs
    have hle : 1 + 2 * fldN (f 0) ≤ n := by rw [← hsn]; unfold sayN; rw [hnG]; omega
    have hO' : parO n f = 1 + 2 * fldN (f 0) := takO_all hle _ (Nat.le_refl _)
    have hG := fil_gue hk hle
    have hP : parQ n f = lisQ n f (1 + 2 * fldN (f 0)) { gueQ n f with nb := 0, B := fun _ => false, nr := 0, R := fun _ => 0 } := by unfold parQ; rw [hO', hG]
    have hLL : parL n f = lisL n f (1 + 2 * fldN (f 0)) (f 0) := by unfold parL; rw [hO']
    obtain ⟨hkn, ho, had, hfit⟩ := (rightQ_iff _).1 hr
    by_cases h15 : f 0 = 15
    · have hm : fldN (f 0) = 2 := by rw [h15]; rfl
      rw [hm] at hle hP hLL hnG
      obtain ⟨g1, g2, g3, g4⟩ := gue_bits (n := n) h15
      obtain ⟨hct, hnb⟩ := fits_bits (hGk.trans h15) hfit
      obtain ⟨t1, t2⟩ := tail_bits (Q := gueQ n f) (hGk.trans h15)
      have hsn' := hsn
      unfold sayN at hsn'
      rw [t1, hnG] at hsn'
      have hsz : 1 ≤ szN (gueQ n f).nb := by unfold szN; omega
      have h5 : f 5 = (szN (gueQ n f).nb : Int) := by
        rcases hsf 5 (by omega) with e | e
        · rw [← e]; unfold sayF; rw [if_neg (by omega), hnG, if_neg (by omega), t2, if_pos (by omega)]
        · omega
      have hb : lstB n f 5 = true := by unfold lstB; rw [decide_eq_true_iff]; omega
      have hln : lstN n f 5 = n - 6 := by unfold lstN; rw [if_pos hb]; omega
      have hue : unE (n - 6) (gueQ n f).ct = 0 := unE_zero.2 ⟨by omega, by
        have := szI_nat (gueQ n f).nb
        rw [hnb] at this
        omega⟩
      have hunv : unN (n - 6) (gueQ n f).ct = (gueQ n f).nb := by unfold unN; rw [if_pos hue]; omega
      refine ⟨?_, ?_⟩
      · rw [hLL]; unfold lisL lefN
        rw [if_pos (.inl h15), if_pos hb]
      · rw [hP]; unfold lisQ; rw [if_pos (by exact hGk.trans h15)]
        show ({ gueQ n f with nb := unN (lstN n f 5) (gueQ n f).ct, B := unF (fun i => f (6 + i)), nr := 0, R := fun _ => 0 } : Qst) = _
        rw [hln, hunv]
        exact qst_eta _ rfl g2 g3 g4
    by_cases h16 : f 0 = 16 ∨ f 0 = 23
    · obtain ⟨g1, g2, g3, g4⟩ := gue_words (n := n) h16
      generalize hm : fldN (f 0) = m at *
      obtain ⟨hct, hnr⟩ := fits_words (by rw [hGk]; exact h16) hfit
      obtain ⟨t1, t2⟩ := tail_words (Q := gueQ n f) (by rw [hGk]; exact h16)
      have hsn' := hsn
      unfold sayN at hsn'
      rw [t1, hnG] at hsn'
      have h5 : f (1 + 2 * m) = 2 * (gueQ n f).ct := by
        rcases hsf (1 + 2 * m) (by omega) with e | e
        · rw [← e]; unfold sayF; rw [if_neg (by omega), hnG, if_neg (by omega), t2, if_pos (by omega)]
        · omega
      have hb : lstB n f (1 + 2 * m) = true := by unfold lstB; rw [decide_eq_true_iff]; omega
      have hln : lstN n f (1 + 2 * m) = 2 * (gueQ n f).nr := by unfold lstN; rw [if_pos hb]; omega
      have hgn : getN (2 * (gueQ n f).nr) = (gueQ n f).nr := by unfold getN; rw [if_pos (by omega)]; omega
      refine ⟨?_, ?_⟩
      · rw [hLL]; unfold lisL lefN
        rw [if_pos (.inr h16), if_pos hb]
      · rw [hP]; unfold lisQ
        rw [if_neg (by show ¬ (gueQ n f).k = 15; rw [hGk]; exact h15), if_pos (by show (gueQ n f).k = 16 ∨ (gueQ n f).k = 23; rw [hGk]; exact h16), hln, hgn]
        exact qst_eta _ g3 g4 rfl g2
    · obtain ⟨g1, g2, g3, g4⟩ := gue_none (n := n) h15 h16
      have hsn' := hsn
      unfold sayN at hsn'
      rw [tail_none (Q := gueQ n f) (by rw [hGk]; exact h15) (by rw [hGk]; exact h16), hnG] at hsn'
      refine ⟨?_, ?_⟩
      · rw [hLL]; unfold lisL
        rw [if_neg (by omega)]; omega
      · rw [hP]; unfold lisQ
        rw [if_neg (by show ¬ (gueQ n f).k = 15; rw [hGk]; exact h15), if_neg (by show ¬ ((gueQ n f).k = 16 ∨ (gueQ n f).k = 23); rw [hGk]; exact h16)]
        exact qst_eta _ g1 g2 g3 g4
end Go.Proofs.Ytejiafihiielgaa
