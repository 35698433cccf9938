/-
  LAYER 16, PLAIN: what answers an ask (api.Tell), its nine cells, what the calls tell.
-/
import Derived.Test.YtejiafihiielgaaAskO
namespace Go.Proofs.Ytejiafihiielgaa
open Go.RowKit
set_option linter.unusedVariables false

/-- What is told: seven numbers, bits, words. -/
structure Tel where
  k : Int
  cd : Int
  ad : Int
  ct : Int
  va : Int
  an : Int
  oo : Int
  nb : Nat
  B : Nat → Bool
  nr : Nat
  R : Nat → Int
/-- Where its tables lie: as an ask's. -/
def telC (V : QstV) (T : Tel) : Array Value := #[.int .i64 T.k, .int .i64 T.cd, .int .i64 T.ad, .int .i64 T.ct, .int .i64 T.va, .int .i64 T.an, .int .i64 T.oo, .slice V.a1 T.nb V.d1, .slice V.a2 T.nr V.d2]
structure TelAt (w : World) (V : QstV) (T : Tel) : Prop where
  h1 : HoldsG Value.bool w V.a1 T.nb T.B
  l1 : T.nb ≤ V.d1
  m1 : V.d1 ≤ maxLen
  h2 : HoldsG (Value.int .u16) w V.a2 T.nr T.R
  l2 : T.nr ≤ V.d2
  m2 : V.d2 ≤ maxLen
theorem TelAt.ext {w w' : World} {V : QstV} {T : Tel} (h : TelAt w V T) (x : Ext w w') : TelAt w' V T := ⟨h.h1.ext x, h.l1, h.m1, h.h2.ext x, h.l2, h.m2⟩
structure TelW (T : Tel) : Prop where
  wk : (Lit.int .i64 T.k).wf = true
  wcd : (Lit.int .i64 T.cd).wf = true
  wad : (Lit.int .i64 T.ad).wf = true
  wct : (Lit.int .i64 T.ct).wf = true
  wva : (Lit.int .i64 T.va).wf = true
  wan : (Lit.int .i64 T.an).wf = true
  woo : (Lit.int .i64 T.oo).wf = true
  wR : ∀ i, i < T.nr → 0 ≤ T.R i ∧ T.R i < 65536
def zeroT : Tel := ⟨0, 0, 0, 0, 0, 0, 0, 0, fun _ => false, 0, fun _ => 0⟩
theorem telnone_at (w : World) {T : Tel} (h1 : T.nb = 0) (h2 : T.nr = 0) : TelAt w zeroQV T := ⟨.inl h1, Nat.le_of_eq h1, Nat.zero_le _, .inl h2, Nat.le_of_eq h2, Nat.zero_le _⟩
def numsT (A B : Tel) : Bool := decide (A.k = B.k ∧ A.cd = B.cd ∧ A.ad = B.ad ∧ A.ct = B.ct ∧ A.va = B.va ∧ A.an = B.an ∧ A.oo = B.oo)
def sameT (A B : Tel) : Bool := numsT A B && eqG A.nb B.nb A.B B.B && eqB A.nr B.nr A.R B.R
theorem numsT_iff (A B : Tel) : numsT A B = true ↔ A.k = B.k ∧ A.cd = B.cd ∧ A.ad = B.ad ∧ A.ct = B.ct ∧ A.va = B.va ∧ A.an = B.an ∧ A.oo = B.oo := by unfold numsT; rw [decide_eq_true_iff]
structure Alike16 (F G : Tel) : Prop where
  k : F.k = G.k
  cd : F.cd = G.cd
  ad : F.ad = G.ad
  ct : F.ct = G.ct
  va : F.va = G.va
  an : F.an = G.an
  oo : F.oo = G.oo
  nb : F.nb = G.nb
  B : ∀ i, i < F.nb → F.B i = G.B i
  nr : F.nr = G.nr
  R : ∀ i, i < F.nr → F.R i = G.R i
theorem sameT_iff (A B : Tel) : sameT A B = true ↔ Alike16 A B := by
  unfold sameT
  rw [Bool.and_eq_true, Bool.and_eq_true, numsT_iff, eqG_iff, eqB_iff]
  constructor
  · rintro ⟨⟨⟨h1, h2, h3, h4, h5, h6, h7⟩, h9, h10⟩, h11, h12⟩; exact ⟨h1, h2, h3, h4, h5, h6, h7, h9, h10, h11, h12⟩
  · intro h; exact ⟨⟨⟨h.k, h.cd, h.ad, h.ct, h.va, h.an, h.oo⟩, h.nb, h.B⟩, h.nr, h.R⟩
theorem sameT_self (T : Tel) : sameT T T = true := (sameT_iff T T).2 ⟨rfl, rfl, rfl, rfl, rfl, rfl, rfl, rfl, fun _ _ => rfl, rfl, fun _ _ => rfl⟩
/-- What answers an ask, with such bits and words. -/
def wholeT (Q : Qst) (nb : Nat) (B : Nat → Bool) (nr : Nat) (R : Nat → Int) : Tel :=
  if Q.k = 1 ∨ Q.k = 2 then { zeroT with k := Q.k, nb := nb, B := B }
  else if Q.k = 3 ∨ Q.k = 4 ∨ Q.k = 23 then { zeroT with k := Q.k, nr := nr, R := R }
  else if Q.k = 5 ∨ Q.k = 6 then { zeroT with k := Q.k, ad := Q.ad, va := Q.va }
  else if Q.k = 15 ∨ Q.k = 16 then { zeroT with k := Q.k, ad := Q.ad, ct := Q.ct }
  else if Q.k = 22 then { zeroT with k := Q.k, ad := Q.ad, an := Q.an, oo := Q.oo }
  else { zeroT with k := Q.k }
def wholeV (Q : Qst) (V : QstV) : QstV :=
  if Q.k = 1 ∨ Q.k = 2 then { zeroQV with a1 := V.a1, d1 := V.d1 }
  else if Q.k = 3 ∨ Q.k = 4 ∨ Q.k = 23 then { zeroQV with a2 := V.a2, d2 := V.d2 }
  else zeroQV
theorem whole_at {w : World} {V : QstV} {nb : Nat} {B : Nat → Bool} {nr : Nat} {R : Nat → Int} (Q : Qst) (h1 : HoldsG Value.bool w V.a1 nb B) (l1 : nb ≤ V.d1) (m1 : V.d1 ≤ maxLen) (h2 : HoldsG (Value.int .u16) w V.a2 nr R) (l2 : nr ≤ V.d2) (m2 : V.d2 ≤ maxLen) : TelAt w (wholeV Q V) (wholeT Q nb B nr R) := by
  unfold wholeV wholeT
  by_cases a1 : Q.k = 1 ∨ Q.k = 2
  · rw [if_pos a1, if_pos a1]; exact ⟨h1, l1, m1, .inl rfl, Nat.le_refl _, Nat.zero_le _⟩
  · rw [if_neg a1, if_neg a1]
    by_cases a2 : Q.k = 3 ∨ Q.k = 4 ∨ Q.k = 23
    · rw [if_pos a2, if_pos a2]; exact ⟨.inl rfl, Nat.le_refl _, Nat.zero_le _, h2, l2, m2⟩
    · rw [if_neg a2, if_neg a2]
      repeat' split
      all_goals exact telnone_at w rfl rfl
def cntB (Q : Qst) (T : Tel) : Bool :=
  if Q.k = 1 ∨ Q.k = 2 then decide ((T.nb : Int) = Q.ct)
  else if Q.k = 3 ∨ Q.k = 4 then decide ((T.nr : Int) = Q.ct)
  else if Q.k = 23 then decide ((T.nr : Int) = Q.mn)
  else true
/-- Does it answer the ask? -/
def rightT (Q : Qst) (T : Tel) : Bool :=
  rightQ Q && (if T.cd = 0 then sameT T (wholeT Q T.nb T.B T.nr T.R) && cntB Q T else inB T.cd 1 4 && sameT T { zeroT with k := Q.k, cd := T.cd })
/-- What is said. -/
def tnumF (T : Tel) : Nat → Int := fun i =>
  if i = 0 then T.ad else if T.k = 5 ∨ T.k = 6 then T.va else if T.k = 15 ∨ T.k = 16 then T.ct else if i = 1 then T.an else T.oo
def tsayN (T : Tel) : Nat :=
  if T.cd ≠ 0 then 2
  else if T.k = 1 ∨ T.k = 2 then 2 + szN T.nb
  else if T.k = 3 ∨ T.k = 4 ∨ T.k = 23 then 2 + 2 * T.nr
  else if T.k = 22 then 7 else 5
def tsayF (T : Tel) : Nat → Int := fun i =>
  if T.cd ≠ 0 then (if i = 0 then T.k + 128 else T.cd)
  else if i = 0 then T.k
  else if T.k = 1 ∨ T.k = 2 then (if i = 1 then (szN T.nb : Int) else pkF T.B T.nb (i - 2))
  else if T.k = 3 ∨ T.k = 4 ∨ T.k = 23 then (if i = 1 then 2 * (T.nr : Int) else putF T.R (i - 2))
  else putF (tnumF T) (i - 1)
def tprN (Q : Qst) (T : Tel) : Nat := if rightT Q T = true then tsayN T else 0
def tprE (Q : Qst) (T : Tel) : Int := if rightT Q T = true then 0 else 11
/-- What bytes tell of an ask, if they tell anything. -/
def tgue (Q : Qst) (n : Nat) (f : Nat → Int) : Tel :=
  if n = 2 ∧ f 0 = Q.k + 128 then { zeroT with k := Q.k, cd := f 1 }
  else if 2 < n then wholeT Q (unN (n - 2) Q.ct) (unF (fun i => f (2 + i))) (getN (n - 2)) (getF (fun i => f (2 + i)))
  else zeroT
def tsays (Q : Qst) (n : Nat) (f : Nat → Int) : Bool := rightT Q (tgue Q n f) && decide (tsayN (tgue Q n f) = n) && (List.range n).all (fun i => decide (tsayF (tgue Q n f) i = f i))
def tpaE (Q : Qst) (n : Nat) (f : Nat → Int) : Int := if rightQ Q = false then 11 else if tsays Q n f = true then 0 else 14
def tpaT (Q : Qst) (n : Nat) (f : Nat → Int) : Tel := if tpaE Q n f = 0 then tgue Q n f else zeroT
theorem tsays_iff (Q : Qst) (n : Nat) (f : Nat → Int) : tsays Q n f = true ↔ rightT Q (tgue Q n f) = true ∧ tsayN (tgue Q n f) = n ∧ ∀ i, i < n → tsayF (tgue Q n f) i = f i := by
  unfold tsays
  rw [Bool.and_eq_true, Bool.and_eq_true, decide_eq_true_iff, List.all_eq_true]
  constructor
  · rintro ⟨⟨h1, h2⟩, h3⟩
    exact ⟨h1, h2, fun i hi => by simpa using h3 i (List.mem_range.2 hi)⟩
  · rintro ⟨h1, h2, h3⟩
    exact ⟨⟨h1, h2⟩, fun i hi => by simpa using h3 i (List.mem_range.1 hi)⟩
theorem tpaE_ways (Q : Qst) (n : Nat) (f : Nat → Int) : (tpaE Q n f = 11 ∧ rightQ Q = false) ∨ (tpaE Q n f = 14 ∧ rightQ Q = true ∧ tsays Q n f = false) ∨ (tpaE Q n f = 0 ∧ rightQ Q = true ∧ tsays Q n f = true) := by
  unfold tpaE
  cases hr : rightQ Q with
  | false => rw [if_pos rfl]; exact .inl ⟨rfl, rfl⟩
  | true =>
    rw [if_neg (by decide)]
    cases hs : tsays Q n f with
    | true => rw [if_pos rfl]; exact .inr (.inr ⟨rfl, rfl, rfl⟩)
    | false => rw [if_neg (by decide)]; exact .inr (.inl ⟨rfl, rfl, rfl⟩)
theorem whole_k (Q : Qst) (nb : Nat) (B : Nat → Bool) (nr : Nat) (R : Nat → Int) : (wholeT Q nb B nr R).k = Q.k ∧ (wholeT Q nb B nr R).cd = 0 ∧ (wholeT Q nb B nr R).nb ≤ nb ∧ (wholeT Q nb B nr R).nr ≤ nr := by
  unfold wholeT
  repeat' split
  all_goals exact ⟨rfl, rfl, by first | exact Nat.le_refl _ | exact Nat.zero_le _, by first | exact Nat.le_refl _ | exact Nat.zero_le _⟩
theorem rightT_k {Q : Qst} {T : Tel} (h : rightT Q T = true) : T.k = Q.k ∧ rightQ Q = true := by
  unfold rightT at h
  rw [Bool.and_eq_true] at h
  refine ⟨?_, h.1⟩
  have h2 := h.2
  split at h2
  · rw [Bool.and_eq_true] at h2
    exact ((sameT_iff _ _).1 h2.1).k.trans (whole_k Q _ _ _ _).1
  · rw [Bool.and_eq_true] at h2
    exact ((sameT_iff _ _).1 h2.2).k
end Go.Proofs.Ytejiafihiielgaa
