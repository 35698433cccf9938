/-
  LAYER 15, PLAIN: an ask (api.Ask), its ten cells, what the calls tell.
-/
import Derived.Test.YtejiafihiielgaaWord
import Derived.Test.YtejiafihiielgaaBitsX
import Derived.Test.YtejiafihiielgaaKeep
namespace Go.Proofs.Ytejiafihiielgaa
open Go.RowKit
set_option linter.unusedVariables false

/-- An ask: eight numbers, bits, words. -/
structure Qst where
  k : Int
  ad : Int
  ct : Int
  va : Int
  an : Int
  oo : Int
  fr : Int
  mn : Int
  nb : Nat
  B : Nat → Bool
  nr : Nat
  R : Nat → Int
/-- Where its tables lie. -/
structure QstV where
  a1 : Option Addr
  d1 : Nat
  a2 : Option Addr
  d2 : Nat
/-- Its ten cells. -/
def qstC (V : QstV) (Q : Qst) : Array Value := #[.int .i64 Q.k, .int .i64 Q.ad, .int .i64 Q.ct, .int .i64 Q.va, .int .i64 Q.an, .int .i64 Q.oo, .int .i64 Q.fr, .int .i64 Q.mn, .slice V.a1 Q.nb V.d1, .slice V.a2 Q.nr V.d2]
structure QstAt (w : World) (V : QstV) (Q : Qst) : Prop where
  h1 : HoldsG Value.bool w V.a1 Q.nb Q.B
  l1 : Q.nb ≤ V.d1
  m1 : V.d1 ≤ maxLen
  h2 : HoldsG (Value.int .u16) w V.a2 Q.nr Q.R
  l2 : Q.nr ≤ V.d2
  m2 : V.d2 ≤ maxLen
theorem QstAt.ext {w w' : World} {V : QstV} {Q : Qst} (h : QstAt w V Q) (x : Ext w w') : QstAt w' V Q := ⟨h.h1.ext x, h.l1, h.m1, h.h2.ext x, h.l2, h.m2⟩
/-- Each number is one of its kind. -/
structure QstW (Q : Qst) : Prop where
  wk : (Lit.int .i64 Q.k).wf = true
  wad : (Lit.int .i64 Q.ad).wf = true
  wct : (Lit.int .i64 Q.ct).wf = true
  wva : (Lit.int .i64 Q.va).wf = true
  wan : (Lit.int .i64 Q.an).wf = true
  woo : (Lit.int .i64 Q.oo).wf = true
  wfr : (Lit.int .i64 Q.fr).wf = true
  wmn : (Lit.int .i64 Q.mn).wf = true
  wR : ∀ i, i < Q.nr → 0 ≤ Q.R i ∧ Q.R i < 65536
def zeroQ : Qst := ⟨0, 0, 0, 0, 0, 0, 0, 0, 0, fun _ => false, 0, fun _ => 0⟩
def zeroQV : QstV := ⟨none, 0, none, 0⟩
theorem zeroQ_at (w : World) : QstAt w zeroQV zeroQ := ⟨.inl rfl, Nat.le_refl _, Nat.zero_le _, .inl rfl, Nat.le_refl _, Nat.zero_le _⟩
theorem none_at (w : World) {Q : Qst} (h1 : Q.nb = 0) (h2 : Q.nr = 0) : QstAt w zeroQV Q := ⟨.inl h1, Nat.le_of_eq h1, Nat.zero_le _, .inl h2, Nat.le_of_eq h2, Nat.zero_le _⟩
/-- Is it one of the tables' functions? -/
def knownB (k : Int) : Bool := decide (k = 1 ∨ k = 2 ∨ k = 3 ∨ k = 4 ∨ k = 5 ∨ k = 6 ∨ k = 15 ∨ k = 16 ∨ k = 22 ∨ k = 23)
/-- Are two asks' numbers the same? -/
def numsB (A B : Qst) : Bool := decide (A.k = B.k ∧ A.ad = B.ad ∧ A.ct = B.ct ∧ A.va = B.va ∧ A.an = B.an ∧ A.oo = B.oo ∧ A.fr = B.fr ∧ A.mn = B.mn)
def sameQ (A B : Qst) : Bool := numsB A B && eqG A.nb B.nb A.B B.B && eqB A.nr B.nr A.R B.R
def inB (n a b : Int) : Bool := decide (a ≤ n ∧ n ≤ b)
/-- An ask with what its function has, nothing else. -/
def ownQ (Q : Qst) : Qst :=
  if Q.k = 1 ∨ Q.k = 2 ∨ Q.k = 3 ∨ Q.k = 4 then { zeroQ with k := Q.k, ad := Q.ad, ct := Q.ct }
  else if Q.k = 5 ∨ Q.k = 6 then { zeroQ with k := Q.k, ad := Q.ad, va := Q.va }
  else if Q.k = 15 then { zeroQ with k := Q.k, ad := Q.ad, ct := Q.ct, nb := Q.nb, B := Q.B }
  else if Q.k = 16 then { zeroQ with k := Q.k, ad := Q.ad, ct := Q.ct, nr := Q.nr, R := Q.R }
  else if Q.k = 22 then { zeroQ with k := Q.k, ad := Q.ad, an := Q.an, oo := Q.oo }
  else if Q.k = 23 then { zeroQ with k := Q.k, ad := Q.ad, ct := Q.ct, fr := Q.fr, mn := Q.mn, nr := Q.nr, R := Q.R }
  else { zeroQ with k := Q.k, ad := Q.ad }
def ownV (V : QstV) (Q : Qst) : QstV :=
  if Q.k = 15 then { zeroQV with a1 := V.a1, d1 := V.d1 }
  else if Q.k = 16 ∨ Q.k = 23 then { zeroQV with a2 := V.a2, d2 := V.d2 }
  else zeroQV
/-- Has an ask the numbers that its function asks for? -/
def fitsB (Q : Qst) : Bool :=
  if Q.k = 1 ∨ Q.k = 2 then inB Q.ct 1 2000
  else if Q.k = 3 ∨ Q.k = 4 then inB Q.ct 1 125
  else if Q.k = 5 then decide (Q.va = 0 ∨ Q.va = 65280)
  else if Q.k = 6 then inB Q.va 0 65535
  else if Q.k = 15 then inB Q.ct 1 1968 && decide ((Q.nb : Int) = Q.ct)
  else if Q.k = 16 then inB Q.ct 1 123 && decide ((Q.nr : Int) = Q.ct)
  else if Q.k = 22 then inB Q.an 0 65535 && inB Q.oo 0 65535
  else inB Q.fr 0 65535 && inB Q.mn 1 125 && inB Q.ct 1 121 && decide ((Q.nr : Int) = Q.ct)
def rightQ (Q : Qst) : Bool := knownB Q.k && sameQ Q (ownQ Q) && inB Q.ad 0 65535 && fitsB Q
/-- What is said: the numbers. -/
def numN (Q : Qst) : Nat := if Q.k = 22 then 3 else if Q.k = 23 then 4 else 2
def numF (Q : Qst) : Nat → Int := fun i =>
  if Q.k = 22 then (if i = 0 then Q.ad else if i = 1 then Q.an else Q.oo)
  else if Q.k = 23 then (if i = 0 then Q.fr else if i = 1 then Q.mn else if i = 2 then Q.ad else Q.ct)
  else if Q.k = 5 ∨ Q.k = 6 then (if i = 0 then Q.ad else Q.va)
  else (if i = 0 then Q.ad else Q.ct)
/-- What is said: the rest. -/
def tailN (Q : Qst) : Nat := if Q.k = 15 then 1 + szN Q.nb else if Q.k = 16 ∨ Q.k = 23 then 1 + 2 * Q.nr else 0
def tailF (Q : Qst) : Nat → Int := fun i =>
  if Q.k = 15 then (if i = 0 then (szN Q.nb : Int) else pkF Q.B Q.nb (i - 1))
  else (if i = 0 then 2 * Q.ct else putF Q.R (i - 1))
def sayN (Q : Qst) : Nat := 1 + 2 * numN Q + tailN Q
def sayF (Q : Qst) : Nat → Int := fun i => if i = 0 then Q.k else if i < 1 + 2 * numN Q then putF (numF Q) (i - 1) else tailF Q (i - (1 + 2 * numN Q))
/-- What is told of it: how many bytes, the error. -/
def prN (Q : Qst) : Nat := if rightQ Q = true then sayN Q else 0
def prE (Q : Qst) : Int := if rightQ Q = true then 0 else 11
/-- A number out of bytes. -/
def numAt (n : Nat) (f : Nat → Int) (i : Nat) : Int := if i + 1 < n then f i * 256 + f (i + 1) else 0
/-- The words behind a place. -/
def behN (n i : Nat) : Nat := if i < n ∧ (n - i) % 2 = 0 then (n - i) / 2 else 0
/-- The ask that bytes say, if they say any. -/
def gueQ (n : Nat) (f : Nat → Int) : Qst :=
  if f 0 = 1 ∨ f 0 = 2 ∨ f 0 = 3 ∨ f 0 = 4 then { zeroQ with k := f 0, ad := numAt n f 1, ct := numAt n f 3 }
  else if f 0 = 5 ∨ f 0 = 6 then { zeroQ with k := f 0, ad := numAt n f 1, va := numAt n f 3 }
  else if f 0 = 15 then
    { zeroQ with k := f 0, ad := numAt n f 1, ct := numAt n f 3, nb := if 6 < n ∧ (n : Int) - 6 = szI (numAt n f 3) then (numAt n f 3).toNat else 0, B := unF (fun i => f (6 + i)) }
  else if f 0 = 16 then { zeroQ with k := f 0, ad := numAt n f 1, ct := numAt n f 3, nr := behN n 6, R := getF (fun i => f (6 + i)) }
  else if f 0 = 22 then { zeroQ with k := f 0, ad := numAt n f 1, an := numAt n f 3, oo := numAt n f 5 }
  else if f 0 = 23 then { zeroQ with k := f 0, ad := numAt n f 5, ct := numAt n f 7, fr := numAt n f 1, mn := numAt n f 3, nr := behN n 10, R := getF (fun i => f (10 + i)) }
  else { zeroQ with k := f 0, ad := numAt n f 1 }
/-- Do bytes say an ask? (The bits behind the last one of 15 are not looked at.) -/
def saysB (n : Nat) (f : Nat → Int) : Bool :=
  rightQ (gueQ n f) && decide (sayN (gueQ n f) = n) && (List.range n).all (fun i => decide (sayF (gueQ n f) i = f i) || (decide (f 0 = 15) && decide (i + 1 = n)))
def paE (n : Nat) (f : Nat → Int) : Int := if n = 0 then 12 else if knownB (f 0) = false then 1 else if saysB n f = true then 0 else 3
def paQ (n : Nat) (f : Nat → Int) : Qst := if paE n f = 0 then gueQ n f else zeroQ
theorem known_iff (k : Int) : knownB k = true ↔ k = 1 ∨ k = 2 ∨ k = 3 ∨ k = 4 ∨ k = 5 ∨ k = 6 ∨ k = 15 ∨ k = 16 ∨ k = 22 ∨ k = 23 := by unfold knownB; rw [decide_eq_true_iff]
theorem inB_iff (n a b : Int) : inB n a b = true ↔ a ≤ n ∧ n ≤ b := by unfold inB; rw [decide_eq_true_iff]
theorem own_at {w : World} {V : QstV} {Q : Qst} (h : QstAt w V Q) : QstAt w (ownV V Q) (ownQ Q) := by
  unfold ownV ownQ
  by_cases h1 : Q.k = 1 ∨ Q.k = 2 ∨ Q.k = 3 ∨ Q.k = 4
  · rw [if_pos h1, if_neg (by omega), if_neg (by omega)]; exact none_at w rfl rfl
  · rw [if_neg h1]
    by_cases h2 : Q.k = 5 ∨ Q.k = 6
    · rw [if_pos h2, if_neg (by omega), if_neg (by omega)]; exact none_at w rfl rfl
    · rw [if_neg h2]
      by_cases h3 : Q.k = 15
      · rw [if_pos h3, if_pos h3]; exact ⟨h.h1, h.l1, h.m1, .inl rfl, Nat.le_refl _, Nat.zero_le _⟩
      · rw [if_neg h3, if_neg h3]
        by_cases h4 : Q.k = 16
        · rw [if_pos (.inl h4), if_pos h4]; exact ⟨.inl rfl, Nat.le_refl _, Nat.zero_le _, h.h2, h.l2, h.m2⟩
        · rw [if_neg h4]
          by_cases h5 : Q.k = 22
          · rw [if_pos h5, if_neg (by omega)]; exact none_at w rfl rfl
          · rw [if_neg h5]
            by_cases h6 : Q.k = 23
            · rw [if_pos (.inr h6), if_pos h6]; exact ⟨.inl rfl, Nat.le_refl _, Nat.zero_le _, h.h2, h.l2, h.m2⟩
            · rw [if_neg h6, if_neg (by omega)]; exact none_at w rfl rfl
end Go.Proofs.Ytejiafihiielgaa
