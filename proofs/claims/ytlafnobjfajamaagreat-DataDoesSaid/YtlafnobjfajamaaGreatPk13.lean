/-
  LAYER 15, PLAIN: an ask (api.Ask), its ten cells, what the calls tell.
  LAYER 15, PLAIN: what is said is understood; what is understood, said again.
  LAYER 15, PLAIN: an ask's numbers by their cells; the fields of a function, as package ask reads them; when an ask may be.
  LAYER 15, PLAIN: how package ask takes an ask out of bytes, number by number; that it is the ask that they say.
  LAYER 16, PLAIN: what answers an ask (api.Tell), its nine cells, what the calls tell.
  LAYER 16, PLAIN: what is told is understood; what is understood answers, and, said again, is those bytes.
  BITS AND WORDS THAT ARE TOLD: in memory that is new (bilgeref02.Unpack, bilgeref01.Get).
-/
import Derived.Test.YtlafnobjfajamaaGreatPk8
import Derived.Test.YtlafnobjfajamaaGreatPk12
import Derived.Test.YtlafnobjfajamaaGreatPk5
import Derived.BigQuiet
import Derived.Deep.AppendLies
import Derived.Deep.LoopGhost
import Derived.Deep.QuietTactic
import Derived.Deep.RegionHeld3
import Derived.Deep.RegionWith
import Derived.Handy
import Derived.KernelRfl
import Derived.Laws.BitsAllLaws
import Derived.Lib.Hide
import Derived.Lib.Tables
import Derived.Outline
import Derived.RegionTactic
import Derived.StillTailTactics
import Derived.WalkLawsBesides
import Derived.WalkMore
import Derived.WalkSpells
namespace Go.Proofs.YtlafnobjfajamaaGreat
open Go.RowKit
set_option linter.unusedVariables false

/-- An ask: eight numbers, bits, words. -/
structure Qst where
  k : Int
  ad : Int
  ct : Int
  va : Int
  an : Int
  oo : Int
  fr : Int
  mn : Int
  nb : Nat
  B : Nat → Bool
  nr : Nat
  R : Nat → Int
/-- Where its tables lie. -/
structure QstV where
  a1 : Option Addr
  d1 : Nat
  a2 : Option Addr
  d2 : Nat
/-- Its ten cells. -/
def qstC (V : QstV) (Q : Qst) : Array Value := #[.int .i64 Q.k, .int .i64 Q.ad, .int .i64 Q.ct, .int .i64 Q.va, .int .i64 Q.an, .int .i64 Q.oo, .int .i64 Q.fr, .int .i64 Q.mn, .slice V.a1 Q.nb V.d1, .slice V.a2 Q.nr V.d2]
structure QstAt (w : World) (V : QstV) (Q : Qst) : Prop where
  h1 : HoldsG Value.bool w V.a1 Q.nb Q.B
  l1 : Q.nb ≤ V.d1
  m1 : V.d1 ≤ maxLen
  h2 : HoldsG (Value.int .u16) w V.a2 Q.nr Q.R
  l2 : Q.nr ≤ V.d2
  m2 : V.d2 ≤ maxLen
theorem QstAt.ext {w w' : World} {V : QstV} {Q : Qst} (h : QstAt w V Q) (x : Ext w w') : QstAt w' V Q := ⟨h.h1.ext x, h.l1, h.m1, h.h2.ext x, h.l2, h.m2⟩
/-- Each number is one of its kind. -/
structure QstW (Q : Qst) : Prop where
  wk : (Lit.int .i64 Q.k).wf = true
  wad : (Lit.int .i64 Q.ad).wf = true
  wct : (Lit.int .i64 Q.ct).wf = true
  wva : (Lit.int .i64 Q.va).wf = true
  wan : (Lit.int .i64 Q.an).wf = true
  woo : (Lit.int .i64 Q.oo).wf = true
  wfr : (Lit.int .i64 Q.fr).wf = true
  wmn : (Lit.int .i64 Q.mn).wf = true
  wR : ∀ i, i < Q.nr → 0 ≤ Q.R i ∧ Q.R i < 65536
def zeroQ : Qst := ⟨0, 0, 0, 0, 0, 0, 0, 0, 0, fun _ => false, 0, fun _ => 0⟩
def zeroQV : QstV := ⟨none, 0, none, 0⟩
theorem zeroQ_at (w : World) : QstAt w zeroQV zeroQ := ⟨.inl rfl, Nat.le_refl _, Nat.zero_le _, .inl rfl, Nat.le_refl _, Nat.zero_le _⟩
theorem none_at (w : World) {Q : Qst} (h1 : Q.nb = 0) (h2 : Q.nr = 0) : QstAt w zeroQV Q := ⟨.inl h1, Nat.le_of_eq h1, Nat.zero_le _, .inl h2, Nat.le_of_eq h2, Nat.zero_le _⟩
/-- Is it one of the tables' functions? -/
def knownB (k : Int) : Bool := decide (k = 1 ∨ k = 2 ∨ k = 3 ∨ k = 4 ∨ k = 5 ∨ k = 6 ∨ k = 15 ∨ k = 16 ∨ k = 22 ∨ k = 23)
/-- Are two asks' numbers the same? -/
def numsB (A B : Qst) : Bool := decide (A.k = B.k ∧ A.ad = B.ad ∧ A.ct = B.ct ∧ A.va = B.va ∧ A.an = B.an ∧ A.oo = B.oo ∧ A.fr = B.fr ∧ A.mn = B.mn)
def sameQ (A B : Qst) : Bool := numsB A B && eqG A.nb B.nb A.B B.B && eqB A.nr B.nr A.R B.R
def inB (n a b : Int) : Bool := decide (a ≤ n ∧ n ≤ b)
/-- An ask with what its function has, nothing else. -/
def ownQ (Q : Qst) : Qst :=
  if Q.k = 1 ∨ Q.k = 2 ∨ Q.k = 3 ∨ Q.k = 4 then { zeroQ with k := Q.k, ad := Q.ad, ct := Q.ct }
  else if Q.k = 5 ∨ Q.k = 6 then { zeroQ with k := Q.k, ad := Q.ad, va := Q.va }
  else if Q.k = 15 then { zeroQ with k := Q.k, ad := Q.ad, ct := Q.ct, nb := Q.nb, B := Q.B }
  else if Q.k = 16 then { zeroQ with k := Q.k, ad := Q.ad, ct := Q.ct, nr := Q.nr, R := Q.R }
  else if Q.k = 22 then { zeroQ with k := Q.k, ad := Q.ad, an := Q.an, oo := Q.oo }
  else if Q.k = 23 then { zeroQ with k := Q.k, ad := Q.ad, ct := Q.ct, fr := Q.fr, mn := Q.mn, nr := Q.nr, R := Q.R }
  else { zeroQ with k := Q.k, ad := Q.ad }
def ownV (V : QstV) (Q : Qst) : QstV :=
  if Q.k = 15 then { zeroQV with a1 := V.a1, d1 := V.d1 }
  else if Q.k = 16 ∨ Q.k = 23 then { zeroQV with a2 := V.a2, d2 := V.d2 }
  else zeroQV
/-- Has an ask the numbers that its function asks for? -/
def fitsB (Q : Qst) : Bool :=
  if Q.k = 1 ∨ Q.k = 2 then inB Q.ct 1 2000
  else if Q.k = 3 ∨ Q.k = 4 then inB Q.ct 1 125
  else if Q.k = 5 then decide (Q.va = 0 ∨ Q.va = 65280)
  else if Q.k = 6 then inB Q.va 0 65535
  else if Q.k = 15 then inB Q.ct 1 1968 && decide ((Q.nb : Int) = Q.ct)
  else if Q.k = 16 then inB Q.ct 1 123 && decide ((Q.nr : Int) = Q.ct)
  else if Q.k = 22 then inB Q.an 0 65535 && inB Q.oo 0 65535
  else inB Q.fr 0 65535 && inB Q.mn 1 125 && inB Q.ct 1 121 && decide ((Q.nr : Int) = Q.ct)
def rightQ (Q : Qst) : Bool := knownB Q.k && sameQ Q (ownQ Q) && inB Q.ad 0 65535 && fitsB Q
/-- What is said: the numbers. -/
def numN (Q : Qst) : Nat := if Q.k = 22 then 3 else if Q.k = 23 then 4 else 2
def numF (Q : Qst) : Nat → Int := fun i =>
  if Q.k = 22 then (if i = 0 then Q.ad else if i = 1 then Q.an else Q.oo)
  else if Q.k = 23 then (if i = 0 then Q.fr else if i = 1 then Q.mn else if i = 2 then Q.ad else Q.ct)
  else if Q.k = 5 ∨ Q.k = 6 then (if i = 0 then Q.ad else Q.va)
  else (if i = 0 then Q.ad else Q.ct)
/-- What is said: the rest. -/
def tailN (Q : Qst) : Nat := if Q.k = 15 then 1 + szN Q.nb else if Q.k = 16 ∨ Q.k = 23 then 1 + 2 * Q.nr else 0
def tailF (Q : Qst) : Nat → Int := fun i =>
  if Q.k = 15 then (if i = 0 then (szN Q.nb : Int) else pkF Q.B Q.nb (i - 1))
  else (if i = 0 then 2 * Q.ct else putF Q.R (i - 1))
def sayN (Q : Qst) : Nat := 1 + 2 * numN Q + tailN Q
def sayF (Q : Qst) : Nat → Int := fun i => if i = 0 then Q.k else if i < 1 + 2 * numN Q then putF (numF Q) (i - 1) else tailF Q (i - (1 + 2 * numN Q))
/-- A number out of bytes. -/
def numAt (n : Nat) (f : Nat → Int) (i : Nat) : Int := if i + 1 < n then f i * 256 + f (i + 1) else 0
/-- The words behind a place. -/
def behN (n i : Nat) : Nat := if i < n ∧ (n - i) % 2 = 0 then (n - i) / 2 else 0
/-- The ask that bytes say, if they say any. -/
def gueQ (n : Nat) (f : Nat → Int) : Qst :=
  if f 0 = 1 ∨ f 0 = 2 ∨ f 0 = 3 ∨ f 0 = 4 then { zeroQ with k := f 0, ad := numAt n f 1, ct := numAt n f 3 }
  else if f 0 = 5 ∨ f 0 = 6 then { zeroQ with k := f 0, ad := numAt n f 1, va := numAt n f 3 }
  else if f 0 = 15 then
    { zeroQ with k := f 0, ad := numAt n f 1, ct := numAt n f 3, nb := if 6 < n ∧ (n : Int) - 6 = szI (numAt n f 3) then (numAt n f 3).toNat else 0, B := unF (fun i => f (6 + i)) }
  else if f 0 = 16 then { zeroQ with k := f 0, ad := numAt n f 1, ct := numAt n f 3, nr := behN n 6, R := getF (fun i => f (6 + i)) }
  else if f 0 = 22 then { zeroQ with k := f 0, ad := numAt n f 1, an := numAt n f 3, oo := numAt n f 5 }
  else if f 0 = 23 then { zeroQ with k := f 0, ad := numAt n f 5, ct := numAt n f 7, fr := numAt n f 1, mn := numAt n f 3, nr := behN n 10, R := getF (fun i => f (10 + i)) }
  else { zeroQ with k := f 0, ad := numAt n f 1 }
/-- Do bytes say an ask? (The bits behind the last one of 15 are not looked at.) -/
def saysB (n : Nat) (f : Nat → Int) : Bool :=
  rightQ (gueQ n f) && decide (sayN (gueQ n f) = n) && (List.range n).all (fun i => decide (sayF (gueQ n f) i = f i) || (decide (f 0 = 15) && decide (i + 1 = n)))
def paE (n : Nat) (f : Nat → Int) : Int := if n = 0 then 12 else if knownB (f 0) = false then 1 else if saysB n f = true then 0 else 3
def paQ (n : Nat) (f : Nat → Int) : Qst := if paE n f = 0 then gueQ n f else zeroQ
theorem known_iff (k : Int) : knownB k = true ↔ k = 1 ∨ k = 2 ∨ k = 3 ∨ k = 4 ∨ k = 5 ∨ k = 6 ∨ k = 15 ∨ k = 16 ∨ k = 22 ∨ k = 23 := by unfold knownB; rw [decide_eq_true_iff]
theorem inB_iff (n a b : Int) : inB n a b = true ↔ a ≤ n ∧ n ≤ b := by unfold inB; rw [decide_eq_true_iff]
theorem own_at {w : World} {V : QstV} {Q : Qst} (h : QstAt w V Q) : QstAt w (ownV V Q) (ownQ Q) := by
  unfold ownV ownQ
  by_cases h1 : Q.k = 1 ∨ Q.k = 2 ∨ Q.k = 3 ∨ Q.k = 4
  · rw [if_pos h1, if_neg (by omega), if_neg (by omega)]; exact none_at w rfl rfl
  · rw [if_neg h1]
    by_cases h2 : Q.k = 5 ∨ Q.k = 6
    · rw [if_pos h2, if_neg (by omega), if_neg (by omega)]; exact none_at w rfl rfl
    · rw [if_neg h2]
      by_cases h3 : Q.k = 15
      · rw [if_pos h3, if_pos h3]; exact ⟨h.h1, h.l1, h.m1, .inl rfl, Nat.le_refl _, Nat.zero_le _⟩
      · rw [if_neg h3, if_neg h3]
        by_cases h4 : Q.k = 16
        · rw [if_pos (.inl h4), if_pos h4]; exact ⟨.inl rfl, Nat.le_refl _, Nat.zero_le _, h.h2, h.l2, h.m2⟩
        · rw [if_neg h4]
          by_cases h5 : Q.k = 22
          · rw [if_pos h5, if_neg (by omega)]; exact none_at w rfl rfl
          · rw [if_neg h5]
            by_cases h6 : Q.k = 23
            · rw [if_pos (.inr h6), if_pos h6]; exact ⟨.inl rfl, Nat.le_refl _, Nat.zero_le _, h.h2, h.l2, h.m2⟩
            · rw [if_neg h6, if_neg (by omega)]; exact none_at w rfl rfl
end Go.Proofs.YtlafnobjfajamaaGreat
namespace Go.Proofs.YtlafnobjfajamaaGreat
open Go.RowKit
set_option linter.unusedVariables false

/-- What an ask's function does not have is 0. -/
def onlyP (Q : Qst) : Prop :=
  ((Q.k = 1 ∨ Q.k = 2 ∨ Q.k = 3 ∨ Q.k = 4) → Q.va = 0 ∧ Q.an = 0 ∧ Q.oo = 0 ∧ Q.fr = 0 ∧ Q.mn = 0 ∧ Q.nb = 0 ∧ Q.nr = 0) ∧
  ((Q.k = 5 ∨ Q.k = 6) → Q.ct = 0 ∧ Q.an = 0 ∧ Q.oo = 0 ∧ Q.fr = 0 ∧ Q.mn = 0 ∧ Q.nb = 0 ∧ Q.nr = 0) ∧
  (Q.k = 15 → Q.va = 0 ∧ Q.an = 0 ∧ Q.oo = 0 ∧ Q.fr = 0 ∧ Q.mn = 0 ∧ Q.nr = 0) ∧
  (Q.k = 16 → Q.va = 0 ∧ Q.an = 0 ∧ Q.oo = 0 ∧ Q.fr = 0 ∧ Q.mn = 0 ∧ Q.nb = 0) ∧
  (Q.k = 22 → Q.ct = 0 ∧ Q.va = 0 ∧ Q.fr = 0 ∧ Q.mn = 0 ∧ Q.nb = 0 ∧ Q.nr = 0) ∧
  (Q.k = 23 → Q.va = 0 ∧ Q.an = 0 ∧ Q.oo = 0 ∧ Q.nb = 0)
theorem eqG_none (n : Nat) (f g : Nat → Bool) : eqG n 0 f g = true ↔ n = 0 := by
  rw [eqG_iff]
  exact ⟨fun h => h.1, fun h => ⟨h, fun i hi => absurd hi (by omega)⟩⟩
theorem eqB_none (n : Nat) (f g : Nat → Int) : eqB n 0 f g = true ↔ n = 0 := by
  rw [eqB_iff]
  exact ⟨fun h => h.1, fun h => ⟨h, fun i hi => absurd hi (by omega)⟩⟩
theorem eqG_self (n : Nat) (f : Nat → Bool) : eqG n n f f = true := eqG_true rfl fun _ _ => rfl
theorem eqB_own (n : Nat) (f : Nat → Int) : eqB n n f f = true := eqB_true rfl fun _ _ => rfl
theorem own_iff {Q : Qst} (hk : knownB Q.k = true) : sameQ Q (ownQ Q) = true ↔ onlyP Q := by
  have hk := (known_iff Q.k).1 hk
  unfold sameQ numsB ownQ onlyP
  rcases hk with hk | hk | hk | hk | hk | hk | hk | hk | hk | hk <;>
  · simp (config := { decide := true }) only [hk, zeroQ, if_true, if_false, Bool.and_eq_true, decide_eq_true_iff, eqG_none, eqB_none, eqG_self, eqB_own, true_and, and_true, true_implies, false_implies, or_true, or_false]
    constructor
    · intro h; omega
    · intro h; omega
/-- An ask that may be, in its parts. -/
theorem rightQ_iff (Q : Qst) : rightQ Q = true ↔ knownB Q.k = true ∧ onlyP Q ∧ (0 ≤ Q.ad ∧ Q.ad ≤ 65535) ∧ fitsB Q = true := by
  unfold rightQ
  rw [Bool.and_eq_true, Bool.and_eq_true, Bool.and_eq_true, inB_iff]
  constructor
  · rintro ⟨⟨⟨h1, h2⟩, h3⟩, h4⟩; exact ⟨h1, (own_iff h1).1 h2, h3, h4⟩
  · rintro ⟨h1, h2, h3, h4⟩; exact ⟨⟨⟨h1, (own_iff h1).2 h2⟩, h3⟩, h4⟩
/-- Two asks that are the same. -/
structure Alike15 (F G : Qst) : Prop where
  k : F.k = G.k
  ad : F.ad = G.ad
  ct : F.ct = G.ct
  va : F.va = G.va
  an : F.an = G.an
  oo : F.oo = G.oo
  fr : F.fr = G.fr
  mn : F.mn = G.mn
  nb : F.nb = G.nb
  B : ∀ i, i < F.nb → F.B i = G.B i
  nr : F.nr = G.nr
  R : ∀ i, i < F.nr → F.R i = G.R i
theorem sameQ_iff (A B : Qst) : sameQ A B = true ↔ Alike15 A B := by
  unfold sameQ numsB
  rw [Bool.and_eq_true, Bool.and_eq_true, decide_eq_true_iff, eqG_iff, eqB_iff]
  constructor
  · rintro ⟨⟨⟨h1, h2, h3, h4, h5, h6, h7, h8⟩, h9, h10⟩, h11, h12⟩; exact ⟨h1, h2, h3, h4, h5, h6, h7, h8, h9, h10, h11, h12⟩
  · intro h; exact ⟨⟨⟨h.k, h.ad, h.ct, h.va, h.an, h.oo, h.fr, h.mn⟩, h.nb, h.B⟩, h.nr, h.R⟩
theorem numF_bd {Q : Qst} (h : rightQ Q = true) : ∀ i, i < numN Q → 0 ≤ numF Q i ∧ numF Q i < 65536 := by
  obtain ⟨hkn, -, had, hf⟩ := (rightQ_iff Q).1 h
  have hk := (known_iff Q.k).1 hkn
  intro i hi
  rcases hk with hk | hk | hk | hk | hk | hk | hk | hk | hk | hk <;>
  · unfold fitsB at hf
    unfold numN at hi
    unfold numF
    simp (config := { decide := true }) only [hk, if_true, if_false, Bool.and_eq_true, inB_iff, decide_eq_true_iff] at hf hi ⊢
    repeat' split
    all_goals omega
theorem saysB_iff (n : Nat) (f : Nat → Int) : saysB n f = true ↔ rightQ (gueQ n f) = true ∧ sayN (gueQ n f) = n ∧ ∀ i, i < n → sayF (gueQ n f) i = f i ∨ (f 0 = 15 ∧ i + 1 = n) := by
  unfold saysB
  rw [Bool.and_eq_true, Bool.and_eq_true, decide_eq_true_iff, List.all_eq_true]
  constructor
  · rintro ⟨⟨h1, h2⟩, h3⟩
    refine ⟨h1, h2, fun i hi => ?_⟩
    have := h3 i (List.mem_range.2 hi)
    simpa using this
  · rintro ⟨h1, h2, h3⟩
    refine ⟨⟨h1, h2⟩, fun i hi => ?_⟩
    simpa using h3 i (List.mem_range.1 hi)
theorem gue_k (n : Nat) (f : Nat → Int) : (gueQ n f).k = f 0 := by
  unfold gueQ
  repeat' split
  all_goals rfl
theorem paE_ways (n : Nat) (f : Nat → Int) : (paE n f = 12 ∧ n = 0) ∨ (paE n f = 1 ∧ n ≠ 0 ∧ knownB (f 0) = false) ∨ (paE n f = 3 ∧ n ≠ 0 ∧ knownB (f 0) = true ∧ saysB n f = false) ∨ (paE n f = 0 ∧ n ≠ 0 ∧ knownB (f 0) = true ∧ saysB n f = true) := by
  unfold paE
  by_cases h0 : n = 0
  · rw [if_pos h0]; exact .inl ⟨rfl, h0⟩
  · rw [if_neg h0]
    cases hk : knownB (f 0) with
    | false => rw [if_pos rfl]; exact .inr (.inl ⟨rfl, h0, rfl⟩)
    | true =>
      rw [if_neg (by decide)]
      cases hs : saysB n f with
      | true => rw [if_pos rfl]; exact .inr (.inr (.inr ⟨rfl, h0, rfl, rfl⟩))
      | false => rw [if_neg (by decide)]; exact .inr (.inr (.inl ⟨rfl, h0, rfl, rfl⟩))
/-- What is understood, said again. -/
theorem parse_parts {n : Nat} {f : Nat → Int} (h : paE n f = 0) : paQ n f = gueQ n f ∧ rightQ (paQ n f) = true ∧ sayN (paQ n f) = n ∧ (∀ i, i < n → sayF (paQ n f) i = f i ∨ (f 0 = 15 ∧ i + 1 = n)) ∧ (paQ n f).k = f 0 := by
  have hq : paQ n f = gueQ n f := by unfold paQ; rw [if_pos h]
  rcases paE_ways n f with ⟨h1, _⟩ | ⟨h1, _⟩ | ⟨h1, _⟩ | ⟨_, _, _, hs⟩
  · rw [h1] at h; cases h
  · rw [h1] at h; cases h
  · rw [h1] at h; cases h
  · obtain ⟨p1, p2, p3⟩ := (saysB_iff n f).1 hs
    rw [hq]
    exact ⟨rfl, p1, p2, p3, gue_k n f⟩
theorem numN_four {Q : Qst} (h : Q.k = 23) : numN Q = 4 := by unfold numN; rw [if_neg (by omega), if_pos h]
theorem tail_none {Q : Qst} (h1 : Q.k ≠ 15) (h2 : ¬ (Q.k = 16 ∨ Q.k = 23)) : tailN Q = 0 := by unfold tailN; rw [if_neg h1, if_neg h2]
theorem tail_bits {Q : Qst} (h : Q.k = 15) : tailN Q = 1 + szN Q.nb ∧ ∀ i, tailF Q i = if i = 0 then (szN Q.nb : Int) else pkF Q.B Q.nb (i - 1) := by unfold tailN tailF; rw [if_pos h]; exact ⟨rfl, fun i => by rw [if_pos h]⟩
theorem tail_words {Q : Qst} (h : Q.k = 16 ∨ Q.k = 23) : tailN Q = 1 + 2 * Q.nr ∧ ∀ i, tailF Q i = if i = 0 then 2 * Q.ct else putF Q.R (i - 1) := by
  have h' : Q.k ≠ 15 := by omega
  unfold tailN tailF; rw [if_neg h', if_pos h]; exact ⟨rfl, fun i => by rw [if_neg h']⟩
theorem fits_bits {Q : Qst} (h : Q.k = 15) (hf : fitsB Q = true) : (1 ≤ Q.ct ∧ Q.ct ≤ 1968) ∧ (Q.nb : Int) = Q.ct := by
  unfold fitsB at hf
  rw [if_neg (by omega), if_neg (by omega), if_neg (by omega), if_neg (by omega), if_pos h, Bool.and_eq_true, inB_iff, decide_eq_true_iff] at hf
  exact hf
theorem fits_words {Q : Qst} (h : Q.k = 16 ∨ Q.k = 23) (hf : fitsB Q = true) : (1 ≤ Q.ct ∧ Q.ct ≤ 123) ∧ (Q.nr : Int) = Q.ct := by
  unfold fitsB at hf
  rw [if_neg (by omega), if_neg (by omega), if_neg (by omega), if_neg (by omega), if_neg (by omega)] at hf
  rcases h with h | h
  · rw [if_pos h, Bool.and_eq_true, inB_iff, decide_eq_true_iff] at hf
    exact hf
  · rw [if_neg (by omega), if_neg (by omega), Bool.and_eq_true, Bool.and_eq_true, Bool.and_eq_true, inB_iff, inB_iff, inB_iff, decide_eq_true_iff] at hf
    exact ⟨by omega, hf.2⟩
end Go.Proofs.YtlafnobjfajamaaGreat
namespace Go.Proofs.YtlafnobjfajamaaGreat
open Go.RowKit
set_option linter.unusedVariables false

/-- The number in a cell of an ask. -/
def getQ (o : Nat) (Q : Qst) : Int := if o = 1 then Q.ad else if o = 2 then Q.ct else if o = 3 then Q.va else if o = 4 then Q.an else if o = 5 then Q.oo else if o = 6 then Q.fr else Q.mn
def setQ (o : Nat) (v : Int) (Q : Qst) : Qst :=
  if o = 1 then { Q with ad := v } else if o = 2 then { Q with ct := v } else if o = 3 then { Q with va := v } else if o = 4 then { Q with an := v } else if o = 5 then { Q with oo := v } else if o = 6 then { Q with fr := v } else { Q with mn := v }
theorem seven {o : Nat} (h1 : 1 ≤ o) (h7 : o ≤ 7) : o = 1 ∨ o = 2 ∨ o = 3 ∨ o = 4 ∨ o = 5 ∨ o = 6 ∨ o = 7 := by omega
theorem setQ_cells (V : QstV) (Q : Qst) {o : Nat} (v : Int) (h1 : 1 ≤ o) (h7 : o ≤ 7) : (qstC V Q).setIfInBounds o (.int .i64 v) = qstC V (setQ o v Q) := by
  rcases seven h1 h7 with rfl | rfl | rfl | rfl | rfl | rfl | rfl <;> rfl
theorem getQ_cell (V : QstV) (Q : Qst) {o : Nat} (h1 : 1 ≤ o) (h7 : o ≤ 7) : (qstC V Q)[o]? = some (.int .i64 (getQ o Q)) := by
  rcases seven h1 h7 with rfl | rfl | rfl | rfl | rfl | rfl | rfl <;> rfl
theorem setQ_rest (o : Nat) (v : Int) (Q : Qst) : (setQ o v Q).k = Q.k ∧ (setQ o v Q).nb = Q.nb ∧ (setQ o v Q).B = Q.B ∧ (setQ o v Q).nr = Q.nr ∧ (setQ o v Q).R = Q.R := by
  unfold setQ
  repeat' split
  all_goals exact ⟨rfl, rfl, rfl, rfl, rfl⟩
/-- A function's fields: which cell, from, to, by steps. -/
def fldO (k : Int) (i : Nat) : Nat :=
  if k = 22 then (if i = 0 then 1 else if i = 1 then 4 else 5)
  else if k = 23 then (if i = 0 then 6 else if i = 1 then 7 else if i = 2 then 1 else 2)
  else if k = 5 ∨ k = 6 then (if i = 0 then 1 else 3)
  else (if i = 0 then 1 else 2)
def fldL (k : Int) (i : Nat) : Int := if k = 22 ∨ k = 5 ∨ k = 6 then 0 else if k = 23 then (if i = 1 ∨ i = 3 then 1 else 0) else (if i = 0 then 0 else 1)
def fldH (k : Int) (i : Nat) : Int :=
  if k = 22 ∨ k = 6 then 65535
  else if k = 23 then (if i = 1 then 125 else if i = 3 then 121 else 65535)
  else if i = 0 then 65535
  else if k = 5 then 65280 else if k = 1 ∨ k = 2 then 2000 else if k = 3 ∨ k = 4 then 125 else if k = 15 then 1968 else 123
def fldT (k : Int) (i : Nat) : Int := if k = 5 ∧ i ≠ 0 then 65280 else 1
def fldN (k : Int) : Nat := if k = 22 then 3 else if k = 23 then 4 else 2
theorem fldO_bd (k : Int) (i : Nat) : 1 ≤ fldO k i ∧ fldO k i ≤ 7 := by
  unfold fldO
  repeat' split
  all_goals omega
theorem fldB_bd (k : Int) (i : Nat) : 0 ≤ fldL k i ∧ fldL k i ≤ 1 ∧ 0 ≤ fldH k i ∧ fldH k i ≤ 65535 ∧ 1 ≤ fldT k i ∧ fldT k i ≤ 65280 := by
  unfold fldL fldH fldT
  refine ⟨?_, ?_, ?_, ?_, ?_, ?_⟩ <;> (repeat' split) <;> omega
theorem fldN_bd (k : Int) : 2 ≤ fldN k ∧ fldN k ≤ 4 := by unfold fldN; split; omega; split <;> omega
theorem fldN_eq (Q : Qst) : fldN Q.k = numN Q := rfl
/-- Is a number what a field may be? -/
def fitI (l h t n : Int) : Bool := decide (l ≤ n ∧ n ≤ h ∧ (n - l) % t = 0)
def fitK (k : Int) (i : Nat) (n : Int) : Bool := fitI (fldL k i) (fldH k i) (fldT k i) n
/-- An ask, the first i of its numbers taken out. -/
def clrQ (Q : Qst) : Nat → Qst
  | 0 => Q
  | i + 1 => setQ (fldO Q.k i) 0 (clrQ Q i)
theorem clrQ_rest (Q : Qst) : ∀ i, (clrQ Q i).k = Q.k ∧ (clrQ Q i).nb = Q.nb ∧ (clrQ Q i).B = Q.B ∧ (clrQ Q i).nr = Q.nr ∧ (clrQ Q i).R = Q.R
  | 0 => ⟨rfl, rfl, rfl, rfl, rfl⟩
  | i + 1 => by
    obtain ⟨h1, h2, h3, h4, h5⟩ := setQ_rest (fldO Q.k i) 0 (clrQ Q i)
    obtain ⟨g1, g2, g3, g4, g5⟩ := clrQ_rest Q i
    exact ⟨h1.trans g1, h2.trans g2, h3.trans g3, h4.trans g4, h5.trans g5⟩
theorem clr_num {Q : Qst} (hk : knownB Q.k = true) {i : Nat} (hi : i < numN Q) : getQ (fldO Q.k i) (clrQ Q i) = numF Q i := by
  have hk := (known_iff Q.k).1 hk
  rcases hk with hk | hk | hk | hk | hk | hk | hk | hk | hk | hk <;>
  · unfold numN at hi
    unfold numF
    simp (config := { decide := true }) only [hk, if_true, if_false] at hi ⊢
    have h4 : i = 0 ∨ i = 1 ∨ i = 2 ∨ i = 3 := by omega
    rcases h4 with rfl | rfl | rfl | rfl <;> first | omega | (simp (config := { decide := true }) [clrQ, fldO, hk, getQ, setQ])
def restQ (Q : Qst) : Qst := { clrQ Q (numN Q) with nb := 0, nr := 0 }
def ofbQ (Q : Qst) : Int := if Q.k = 15 then Q.ct else 0
def ofrQ (Q : Qst) : Int := if Q.k = 16 ∨ Q.k = 23 then Q.ct else 0
theorem all_2 {P : Nat → Prop} : (∀ i, i < 2 → P i) ↔ P 0 ∧ P 1 := ⟨fun h => ⟨h 0 (by omega), h 1 (by omega)⟩, fun h i hi => by
  have : i = 0 ∨ i = 1 := by omega
  rcases this with rfl | rfl; exact h.1; exact h.2⟩
theorem all_3 {P : Nat → Prop} : (∀ i, i < 3 → P i) ↔ P 0 ∧ P 1 ∧ P 2 := ⟨fun h => ⟨h 0 (by omega), h 1 (by omega), h 2 (by omega)⟩, fun h i hi => by
  have : i = 0 ∨ i = 1 ∨ i = 2 := by omega
  rcases this with rfl | rfl | rfl; exact h.1; exact h.2.1; exact h.2.2⟩
theorem all_4 {P : Nat → Prop} : (∀ i, i < 4 → P i) ↔ P 0 ∧ P 1 ∧ P 2 ∧ P 3 := ⟨fun h => ⟨h 0 (by omega), h 1 (by omega), h 2 (by omega), h 3 (by omega)⟩, fun h i hi => by
  have : i = 0 ∨ i = 1 ∨ i = 2 ∨ i = 3 := by omega
  rcases this with rfl | rfl | rfl | rfl; exact h.1; exact h.2.1; exact h.2.2.1; exact h.2.2.2⟩
/-- When an ask may be, as package ask finds it. -/
theorem rightL_iff {Q : Qst} (hk : knownB Q.k = true) :
    rightQ Q = true ↔ (∀ i, i < numN Q → fitK Q.k i (numF Q i) = true) ∧ sameQ (restQ Q) { zeroQ with k := Q.k } = true ∧ (Q.nb : Int) = ofbQ Q ∧ (Q.nr : Int) = ofrQ Q := by
  rw [rightQ_iff]
  have hs : sameQ (restQ Q) { zeroQ with k := Q.k } = true ↔ (restQ Q).ad = 0 ∧ (restQ Q).ct = 0 ∧ (restQ Q).va = 0 ∧ (restQ Q).an = 0 ∧ (restQ Q).oo = 0 ∧ (restQ Q).fr = 0 ∧ (restQ Q).mn = 0 := by
    rw [sameQ_iff]
    constructor
    · intro h; exact ⟨h.ad, h.ct, h.va, h.an, h.oo, h.fr, h.mn⟩
    · rintro ⟨h1, h2, h3, h4, h5, h6, h7⟩
      exact ⟨(clrQ_rest Q _).1, h1, h2, h3, h4, h5, h6, h7, rfl, fun i hi => absurd hi (Nat.not_lt_zero i), rfl, fun i hi => absurd hi (Nat.not_lt_zero i)⟩
  rw [hs]
  have hkk := (known_iff Q.k).1 hk
  rw [hk]
  unfold onlyP fitsB numN restQ numN ofbQ ofrQ
  rcases hkk with hkk | hkk | hkk | hkk | hkk | hkk | hkk | hkk | hkk | hkk
  all_goals
    simp (config := { decide := true }) only [hkk, if_true, if_false, true_and, Bool.and_eq_true, decide_eq_true_iff, inB_iff, true_implies, false_implies, and_true, or_true, or_false, all_2, all_3, all_4, fitK, fitI, fldL, fldH, fldT, numF, clrQ, fldO, setQ]
    constructor <;> (intro h; omega)
end Go.Proofs.YtlafnobjfajamaaGreat
namespace Go.Proofs.YtlafnobjfajamaaGreat
open Go.RowKit
set_option linter.unusedVariables false

/-- Where the i-th number begins, and what it is; -1, where there are not two bytes. -/
def takO (n : Nat) : Nat → Nat
  | 0 => 1
  | i + 1 => if takO n i + 2 ≤ n then takO n i + 2 else takO n i
def takA (n : Nat) (f : Nat → Int) (O : Nat) : Int := if O + 2 ≤ n then f O * 256 + f (O + 1) else -1
def takV (n : Nat) (f : Nat → Int) (i : Nat) : Int := takA n f (takO n i)
/-- The ask, its first i numbers laid. -/
def filQ (n : Nat) (f : Nat → Int) (k : Int) : Nat → Qst
  | 0 => { zeroQ with k := k }
  | i + 1 => setQ (fldO k i) (takV n f i) (filQ n f k i)
/-- Is what is left a list that tells its length? -/
def lstB (n : Nat) (f : Nat → Int) (O : Nat) : Bool := decide (O < n ∧ f O = (n : Int) - O - 1)
def lstN (n : Nat) (f : Nat → Int) (O : Nat) : Nat := if lstB n f O = true then n - O - 1 else 0
def lefN (n : Nat) (f : Nat → Int) (O : Nat) : Nat := if lstB n f O = true then 0 else n - O
def getN (m : Nat) : Nat := if m % 2 = 0 then m / 2 else 0
/-- The list laid. -/
def lisQ (n : Nat) (f : Nat → Int) (O : Nat) (T : Qst) : Qst :=
  if T.k = 15 then { T with nb := unN (lstN n f O) T.ct, B := unF (fun i => f (O + 1 + i)) }
  else if T.k = 16 ∨ T.k = 23 then { T with nr := getN (lstN n f O), R := getF (fun i => f (O + 1 + i)) }
  else T
def lisL (n : Nat) (f : Nat → Int) (O : Nat) (k : Int) : Nat := if k = 15 ∨ k = 16 ∨ k = 23 then lefN n f O else n - O
def parO (n : Nat) (f : Nat → Int) : Nat := takO n (fldN (f 0))
def parQ (n : Nat) (f : Nat → Int) : Qst := lisQ n f (parO n f) (filQ n f (f 0) (fldN (f 0)))
def parL (n : Nat) (f : Nat → Int) : Nat := lisL n f (parO n f) (f 0)
theorem takO_le (n : Nat) (h : 1 ≤ n) : ∀ i, takO n i ≤ n ∧ 1 ≤ takO n i
  | 0 => ⟨h, Nat.le_refl _⟩
  | i + 1 => by
    have := takO_le n h i
    unfold takO
    split <;> omega
theorem takA_bd {n : Nat} {f : Nat → Int} {O : Nat} (hf : ∀ i, i < n → 0 ≤ f i ∧ f i < 256) : -1 ≤ takA n f O ∧ takA n f O < 65536 := by
  unfold takA
  split
  · have := hf O (by omega)
    have := hf (O + 1) (by omega)
    omega
  · omega
theorem takO_all {n m : Nat} (h : 1 + 2 * m ≤ n) : ∀ i, i ≤ m → takO n i = 1 + 2 * i
  | 0, _ => rfl
  | i + 1, hi => by
    have e := takO_all h i (by omega)
    unfold takO
    rw [e, if_pos (by omega)]
    omega
theorem takO_few {n : Nat} {f : Nat → Int} : ∀ m, (∀ i, i < m → 0 ≤ takV n f i) → takO n m = 1 + 2 * m ∧ (0 < m → 1 + 2 * m ≤ n)
  | 0, _ => ⟨rfl, fun h => absurd h (by omega)⟩
  | m + 1, h => by
    obtain ⟨e, -⟩ := takO_few (f := f) m (fun i hi => h i (by omega))
    have hv := h m (by omega)
    unfold takV takA at hv
    have hle : takO n m + 2 ≤ n := by
      rcases Nat.lt_or_ge n (takO n m + 2) with h | h
      · rw [if_neg (by omega)] at hv; omega
      · exact h
    unfold takO
    rw [if_pos hle, e]
    rw [e] at hle
    omega
theorem takV_num {n m : Nat} {f : Nat → Int} (h : 1 + 2 * m ≤ n) {i : Nat} (hi : i < m) : takV n f i = numAt n f (1 + 2 * i) := by
  unfold takV takA numAt
  rw [takO_all h i (by omega), if_pos (by omega), if_pos (by omega)]
theorem filQ_rest (n : Nat) (f : Nat → Int) (k : Int) : ∀ i, (filQ n f k i).k = k ∧ (filQ n f k i).nb = 0 ∧ (filQ n f k i).B = (fun _ => false) ∧ (filQ n f k i).nr = 0 ∧ (filQ n f k i).R = fun _ => 0
  | 0 => ⟨rfl, rfl, rfl, rfl, rfl⟩
  | i + 1 => by
    obtain ⟨h1, h2, h3, h4, h5⟩ := setQ_rest (fldO k i) (takV n f i) (filQ n f k i)
    obtain ⟨g1, g2, g3, g4, g5⟩ := filQ_rest n f k i
    exact ⟨h1.trans g1, h2.trans g2, h3.trans g3, h4.trans g4, h5.trans g5⟩
theorem lisQ_num (n : Nat) (f : Nat → Int) (O : Nat) (T : Qst) : (lisQ n f O T).k = T.k ∧ numF (lisQ n f O T) = numF T ∧ (lisQ n f O T).ct = T.ct := by
  unfold lisQ
  split
  · exact ⟨rfl, rfl, rfl⟩
  split
  · exact ⟨rfl, rfl, rfl⟩
  · exact ⟨rfl, rfl, rfl⟩
/-- The numbers that were laid. -/
theorem fil_num (n : Nat) (f : Nat → Int) {k : Int} (hk : knownB k = true) {i : Nat} (hi : i < fldN k) : numF (filQ n f k (fldN k)) i = takV n f i := by
  have hk := (known_iff k).1 hk
  rcases hk with rfl | rfl | rfl | rfl | rfl | rfl | rfl | rfl | rfl | rfl <;>
  · unfold fldN at hi
    simp (config := { decide := true }) only [if_true, if_false] at hi
    have h4 : i = 0 ∨ i = 1 ∨ i = 2 ∨ i = 3 := by omega
    rcases h4 with rfl | rfl | rfl | rfl <;> first | omega | (simp (config := { decide := true }) [filQ, fldN, setQ, numF, zeroQ])
/-- The ask of the numbers alone, when all are there, is the one that is guessed, but for its list. -/
theorem fil_gue {n : Nat} {f : Nat → Int} (hk : knownB (f 0) = true) (h : 1 + 2 * fldN (f 0) ≤ n) :
    filQ n f (f 0) (fldN (f 0)) = { gueQ n f with nb := 0, B := fun _ => false, nr := 0, R := fun _ => 0 } := by
  have e0 := fun h => takV_num (n := n) (m := fldN (f 0)) (f := f) (i := 0) ‹_› h
  have e1 := fun h => takV_num (n := n) (m := fldN (f 0)) (f := f) (i := 1) ‹_› h
  have e2 := fun h => takV_num (n := n) (m := fldN (f 0)) (f := f) (i := 2) ‹_› h
  have e3 := fun h => takV_num (n := n) (m := fldN (f 0)) (f := f) (i := 3) ‹_› h
  have hk := (known_iff (f 0)).1 hk
  unfold gueQ
  generalize f 0 = k at *
  rcases hk with rfl | rfl | rfl | rfl | rfl | rfl | rfl | rfl | rfl | rfl <;>
  simp (config := { decide := true }) [filQ, fldN, setQ, zeroQ] at e0 e1 e2 e3 ⊢ <;> simp [e0, e1, e2, e3]
theorem pk_full (b : Nat → Int) (n j : Nat) (h : 8 * j + 8 ≤ n) (hb : 0 ≤ b j ∧ b j < 256) : pkF (unF b) n j = b j := by
  unfold pkF
  have e : bt (fun k => decide (8 * j + k < n) && unF b (8 * j + k)) 8 = bt (fun i => (b j).toNat.testBit i) 8 := bt_congr 8 fun i hi => by
    have e1 : unF b (8 * j + i) = (b j).toNat.testBit i := by unfold unF; rw [show (8 * j + i) / 8 = j by omega, show (8 * j + i) % 8 = i by omega]
    rw [e1, decide_eq_true (by omega), Bool.true_and]
  rw [e, bt_of_bits _ 8 (by omega)]
  omega
theorem gue_fun {n : Nat} {f : Nat → Int} (hk : knownB (f 0) = true) (h : 1 + 2 * fldN (f 0) ≤ n) {i : Nat} (hi : i < fldN (f 0)) : numF (gueQ n f) i = f (1 + 2 * i) * 256 + f (1 + 2 * i + 1) := by
  have e := fil_num n f hk hi
  rw [fil_gue hk h] at e
  have e2 : numF (gueQ n f) i = takV n f i := e
  rw [e2]
  unfold takV takA
  rw [takO_all h i (by omega), if_pos (by omega)]
/-- The bytes of the function and of its numbers. -/
theorem gue_head {n : Nat} {f : Nat → Int} (hf : ∀ i, i < n → 0 ≤ f i ∧ f i < 256) (hk : knownB (f 0) = true) (h : 1 + 2 * fldN (f 0) ≤ n) {i : Nat} (hi : i < 1 + 2 * fldN (f 0)) : sayF (gueQ n f) i = f i := by
  have hn : numN (gueQ n f) = fldN (f 0) := by rw [← fldN_eq, gue_k]
  unfold sayF
  by_cases h0 : i = 0
  · rw [if_pos h0, gue_k, h0]
  · rw [if_neg h0, hn, if_pos hi]
    have hj : i - 1 = 2 * ((i - 1) / 2) ∨ i - 1 = 2 * ((i - 1) / 2) + 1 := by omega
    have hfj := gue_fun hk h (i := (i - 1) / 2) (by omega)
    rcases hj with e | e
    · rw [e, putF_even, hfj]
      have := hf (1 + 2 * ((i - 1) / 2)) (by omega)
      have := hf (1 + 2 * ((i - 1) / 2) + 1) (by omega)
      rw [show f i = f (1 + 2 * ((i - 1) / 2)) from by congr 1; omega]
      omega
    · rw [e, putF_odd, hfj]
      have := hf (1 + 2 * ((i - 1) / 2)) (by omega)
      have := hf (1 + 2 * ((i - 1) / 2) + 1) (by omega)
      rw [show f i = f (1 + 2 * ((i - 1) / 2) + 1) from by congr 1; omega]
      omega
theorem gue_words {n : Nat} {f : Nat → Int} (h : f 0 = 16 ∨ f 0 = 23) : (gueQ n f).nr = behN n (1 + 2 * fldN (f 0) + 1) ∧ (gueQ n f).R = getF (fun i => f (1 + 2 * fldN (f 0) + 1 + i)) ∧ (gueQ n f).nb = 0 ∧ (gueQ n f).B = fun _ => false := by
  rcases h with h | h
  · have hm : fldN (f 0) = 2 := by rw [h]; rfl
    rw [hm]
    refine ⟨?_, ?_, ?_, ?_⟩ <;> (unfold gueQ; simp (config := { decide := true }) only [h, if_true, if_false]) <;> rfl
  · have hm : fldN (f 0) = 4 := by rw [h]; rfl
    rw [hm]
    refine ⟨?_, ?_, ?_, ?_⟩ <;> (unfold gueQ; simp (config := { decide := true }) only [h, if_true, if_false]) <;> rfl
theorem gue_bits {n : Nat} {f : Nat → Int} (h : f 0 = 15) : (gueQ n f).nb = (if 6 < n ∧ (n : Int) - 6 = szI (gueQ n f).ct then (gueQ n f).ct.toNat else 0) ∧ (gueQ n f).B = unF (fun i => f (6 + i)) ∧ (gueQ n f).nr = 0 ∧ (gueQ n f).R = fun _ => 0 := by
  refine ⟨?_, ?_, ?_, ?_⟩ <;> (unfold gueQ; simp (config := { decide := true }) only [h, if_true, if_false]) <;> rfl
theorem gue_none {n : Nat} {f : Nat → Int} (h1 : f 0 ≠ 15) (h2 : ¬ (f 0 = 16 ∨ f 0 = 23)) : (gueQ n f).nb = 0 ∧ (gueQ n f).B = (fun _ => false) ∧ (gueQ n f).nr = 0 ∧ (gueQ n f).R = fun _ => 0 := by
  unfold gueQ
  repeat' split
  all_goals first | exact ⟨rfl, rfl, rfl, rfl⟩ | (exfalso; omega)
theorem qst_eta (G : Qst) {nb : Nat} {B : Nat → Bool} {nr : Nat} {R : Nat → Int} (h1 : G.nb = nb) (h2 : G.B = B) (h3 : G.nr = nr) (h4 : G.R = R) : ({ G with nb := nb, B := B, nr := nr, R := R } : Qst) = G := by
  subst h1 h2 h3 h4; rfl
/-- What is taken, when all numbers are there and the list fits, is the ask that is guessed. -/
theorem par_says {n : Nat} {f : Nat → Int} (hf : ∀ i, i < n → 0 ≤ f i ∧ f i < 256) (h0 : 0 < n) (hk : knownB (f 0) = true) :
    ((parL n f = 0 ∧ rightQ (parQ n f) = true) → saysB n f = true ∧ parQ n f = gueQ n f) ∧ (saysB n f = true → parL n f = 0 ∧ parQ n f = gueQ n f) := by
  have hfk := (filQ_rest n f (f 0) (fldN (f 0))).1
  obtain ⟨pk, pn, pc⟩ := lisQ_num n f (parO n f) (filQ n f (f 0) (fldN (f 0)))
  have hT : ∀ T, parQ n f = T → T.k = f 0 := fun T e => by rw [← e]; exact pk.trans hfk
  have hGk := gue_k n f
  have hsay := saysB_iff n f
  have hnG : numN (gueQ n f) = fldN (f 0) := by rw [← fldN_eq, hGk]
  have hmb := fldN_bd (f 0)
  constructor
  · rintro ⟨hL, hr⟩
    have hbd := numF_bd hr
    have hnT : numN (parQ n f) = fldN (f 0) := by rw [← fldN_eq, hT _ rfl]
    have hall : ∀ i, i < fldN (f 0) → 0 ≤ takV n f i := fun i hi => by
      have := (hbd i (by rw [hnT]; exact hi)).1
      have e : numF (parQ n f) i = takV n f i := by
        show numF (lisQ n f (parO n f) (filQ n f (f 0) (fldN (f 0)))) i = _
        rw [pn]; exact fil_num n f hk hi
      omega
    obtain ⟨hO, hle⟩ := takO_few _ hall
    have hle := hle (by omega)
    have hO' : parO n f = 1 + 2 * fldN (f 0) := hO
    have hG := fil_gue hk hle
    have hP : parQ n f = lisQ n f (1 + 2 * fldN (f 0)) { gueQ n f with nb := 0, B := fun _ => false, nr := 0, R := fun _ => 0 } := by unfold parQ; rw [hO', hG]
    have hLL : parL n f = lisL n f (1 + 2 * fldN (f 0)) (f 0) := by unfold parL; rw [hO']
    obtain ⟨hkn, ho, had, hfit⟩ := (rightQ_iff _).1 hr
    have hhead := fun i hi => gue_head hf hk hle (i := i) hi
    by_cases h15 : f 0 = 15
    · have hm : fldN (f 0) = 2 := by rw [h15]; rfl
      rw [hm] at hle hP hLL hhead hnG
      obtain ⟨g1, g2, g3, g4⟩ := gue_bits (n := n) h15
      unfold lisL at hLL
      rw [if_pos (.inl h15)] at hLL
      have hP2 : parQ n f = { gueQ n f with nb := unN (lstN n f 5) (gueQ n f).ct, B := unF (fun i => f (6 + i)), nr := 0, R := fun _ => 0 } := by
        rw [hP]; unfold lisQ; rw [if_pos (by exact hGk.trans h15)]
      obtain ⟨hct, hnb⟩ := fits_bits ((hT _ rfl).trans h15) hfit
      rw [hP2] at hct hnb
      simp only at hct hnb
      have hun := unN_le (m := lstN n f 5) (n := (gueQ n f).ct)
      have hb : lstB n f 5 = true := by
        cases hb : lstB n f 5
        · have : lstN n f 5 = 0 := by unfold lstN; rw [hb]; rfl
          omega
        · rfl
      have hln : lstN n f 5 = n - 6 := by unfold lstN; rw [if_pos hb]; omega
      have hb' := hb
      unfold lstB at hb'
      rw [decide_eq_true_iff] at hb'
      rw [hln] at hnb hun
      have hue : unE (n - 6) (gueQ n f).ct = 0 := by
        rcases Decidable.em (unE (n - 6) (gueQ n f).ct = 0) with h | h
        · exact h
        · exfalso
          have : unN (n - 6) (gueQ n f).ct = 0 := by unfold unN; rw [if_neg h]
          omega
      have hue' := unE_zero.1 hue
      have hn6 : 6 < n := by omega
      have hnbG : (gueQ n f).nb = (gueQ n f).ct.toNat := by rw [g1, if_pos ⟨hn6, by omega⟩]
      have hunv : unN (n - 6) (gueQ n f).ct = (gueQ n f).ct.toNat := by unfold unN; rw [if_pos hue]
      have hPG : parQ n f = gueQ n f := by
        rw [hP2, hln, hunv, ← hnbG]
        exact qst_eta _ rfl g2 g3 g4
      have hszN : szN (gueQ n f).nb = n - 6 := by
        have := szI_nat (gueQ n f).nb
        have e : ((gueQ n f).nb : Int) = (gueQ n f).ct := by omega
        rw [e] at this
        omega
      obtain ⟨t1, t2⟩ := tail_bits (Q := gueQ n f) (hGk.trans h15)
      have hsn : sayN (gueQ n f) = n := by unfold sayN; rw [t1, hnG, hszN]; omega
      refine ⟨hsay.2 ⟨by rw [← hPG]; exact hr, hsn, fun i hi => ?_⟩, hPG⟩
      by_cases hi5 : i < 1 + 2 * 2
      · exact .inl (hhead i hi5)
      by_cases hil : i + 1 = n
      · exact .inr ⟨h15, hil⟩
      · refine .inl ?_
        unfold sayF
        rw [if_neg (by omega), hnG, if_neg hi5, t2]
        by_cases hi6 : i = 5
        · subst hi6
          rw [if_pos (by omega), hszN, hb'.2]; omega
        · rw [if_neg (by omega), g2, show i - (1 + 2 * 2) - 1 = i - 6 by omega, pk_full _ _ _ (by unfold szN at hszN; omega) (by have := hf (6 + (i - 6)) (by omega); exact this)]
          congr 1; omega
    by_cases h16 : f 0 = 16 ∨ f 0 = 23
    · obtain ⟨g1, g2, g3, g4⟩ := gue_words (n := n) h16
      generalize hm : fldN (f 0) = m at *
      unfold lisL at hLL
      rw [if_pos (.inr h16)] at hLL
      have hP2 : parQ n f = { gueQ n f with nb := 0, B := fun _ => false, nr := getN (lstN n f (1 + 2 * m)), R := getF (fun i => f (1 + 2 * m + 1 + i)) } := by
        rw [hP]; unfold lisQ; rw [if_neg (by show ¬ (gueQ n f).k = 15; rw [hGk]; exact h15), if_pos (by show (gueQ n f).k = 16 ∨ (gueQ n f).k = 23; rw [hGk]; exact h16)]
      obtain ⟨hct, hnr⟩ := fits_words (by rw [hT _ rfl]; exact h16) hfit
      rw [hP2] at hct hnr
      simp only at hct hnr
      have hb : lstB n f (1 + 2 * m) = true := by
        cases hb : lstB n f (1 + 2 * m)
        · have : lstN n f (1 + 2 * m) = 0 := by unfold lstN; rw [hb]; rfl
          rw [this] at hnr
          have : getN 0 = 0 := rfl
          omega
        · rfl
      have hln : lstN n f (1 + 2 * m) = n - (1 + 2 * m) - 1 := by unfold lstN; rw [if_pos hb]
      have hb' := hb
      unfold lstB at hb'
      rw [decide_eq_true_iff] at hb'
      rw [hln] at hnr
      have hev : (n - (1 + 2 * m) - 1) % 2 = 0 := by
        rcases Decidable.em ((n - (1 + 2 * m) - 1) % 2 = 0) with h | h
        · exact h
        · exfalso; unfold getN at hnr; rw [if_neg h] at hnr; omega
      have hgn : getN (n - (1 + 2 * m) - 1) = (n - (1 + 2 * m) - 1) / 2 := by unfold getN; rw [if_pos hev]
      have hnG2 : (gueQ n f).nr = (n - (1 + 2 * m) - 1) / 2 := by
        rw [g1]; unfold behN; rw [if_pos (by rw [hgn] at hnr; omega)]; omega
      have hPG : parQ n f = gueQ n f := by
        rw [hP2, hln, hgn]
        exact qst_eta _ g3 g4 hnG2 g2
      obtain ⟨t1, t2⟩ := tail_words (Q := gueQ n f) (by rw [hGk]; exact h16)
      have hct2 : (gueQ n f).ct = ((gueQ n f).nr : Int) := by rw [hnG2, ← hgn]; omega
      have hsn : sayN (gueQ n f) = n := by unfold sayN; rw [t1, hnG, hnG2]; rw [hgn] at hnr; omega
      refine ⟨hsay.2 ⟨by rw [← hPG]; exact hr, hsn, fun i hi => .inl ?_⟩, hPG⟩
      by_cases hi5 : i < 1 + 2 * m
      · exact hhead i hi5
      · unfold sayF
        rw [if_neg (by omega), hnG, if_neg hi5, t2]
        by_cases hi6 : i = 1 + 2 * m
        · rw [if_pos (by omega), hct2, hnG2, hi6, hb'.2]; omega
        · rw [if_neg (by omega), g2]
          have hj : i - (1 + 2 * m) - 1 = 2 * ((i - (1 + 2 * m) - 1) / 2) ∨ i - (1 + 2 * m) - 1 = 2 * ((i - (1 + 2 * m) - 1) / 2) + 1 := by omega
          have b1 := hf (1 + 2 * m + 1 + 2 * ((i - (1 + 2 * m) - 1) / 2)) (by omega)
          have b2 := hf (1 + 2 * m + 1 + (2 * ((i - (1 + 2 * m) - 1) / 2) + 1)) (by omega)
          rcases hj with e | e
          · rw [e, putF_even]
            dsimp only [getF]
            rw [show f i = f (1 + 2 * m + 1 + 2 * ((i - (1 + 2 * m) - 1) / 2)) from by congr 1; omega]
            omega
          · rw [e, putF_odd]
            dsimp only [getF]
            rw [show f i = f (1 + 2 * m + 1 + (2 * ((i - (1 + 2 * m) - 1) / 2) + 1)) from by congr 1; omega]
            omega
    · obtain ⟨g1, g2, g3, g4⟩ := gue_none (n := n) h15 h16
      have hPG : parQ n f = gueQ n f := by
        rw [hP]; unfold lisQ
        rw [if_neg (by show ¬ (gueQ n f).k = 15; rw [hGk]; exact h15), if_neg (by show ¬ ((gueQ n f).k = 16 ∨ (gueQ n f).k = 23); rw [hGk]; exact h16)]
        exact qst_eta _ g1 g2 g3 g4
      have hL0 : n = 1 + 2 * fldN (f 0) := by
        rw [hLL] at hL; unfold lisL at hL
        rw [if_neg (by omega)] at hL; omega
      have hsn : sayN (gueQ n f) = n := by unfold sayN; rw [tail_none (Q := gueQ n f) (by rw [hGk]; exact h15) (by rw [hGk]; exact h16), hnG]; omega
      exact ⟨hsay.2 ⟨by rw [← hPG]; exact hr, hsn, fun i hi => .inl (hhead i (by omega))⟩, hPG⟩
  · intro hs
    obtain ⟨hr, hsn, hsf⟩ := hsay.1 hs
    have hle : 1 + 2 * fldN (f 0) ≤ n := by rw [← hsn]; unfold sayN; rw [hnG]; omega
    have hO' : parO n f = 1 + 2 * fldN (f 0) := takO_all hle _ (Nat.le_refl _)
    have hG := fil_gue hk hle
    have hP : parQ n f = lisQ n f (1 + 2 * fldN (f 0)) { gueQ n f with nb := 0, B := fun _ => false, nr := 0, R := fun _ => 0 } := by unfold parQ; rw [hO', hG]
    have hLL : parL n f = lisL n f (1 + 2 * fldN (f 0)) (f 0) := by unfold parL; rw [hO']
    obtain ⟨hkn, ho, had, hfit⟩ := (rightQ_iff _).1 hr
    by_cases h15 : f 0 = 15
    · have hm : fldN (f 0) = 2 := by rw [h15]; rfl
      rw [hm] at hle hP hLL hnG
      obtain ⟨g1, g2, g3, g4⟩ := gue_bits (n := n) h15
      obtain ⟨hct, hnb⟩ := fits_bits (hGk.trans h15) hfit
      obtain ⟨t1, t2⟩ := tail_bits (Q := gueQ n f) (hGk.trans h15)
      have hsn' := hsn
      unfold sayN at hsn'
      rw [t1, hnG] at hsn'
      have hsz : 1 ≤ szN (gueQ n f).nb := by unfold szN; omega
      have h5 : f 5 = (szN (gueQ n f).nb : Int) := by
        rcases hsf 5 (by omega) with e | e
        · rw [← e]; unfold sayF; rw [if_neg (by omega), hnG, if_neg (by omega), t2, if_pos (by omega)]
        · omega
      have hb : lstB n f 5 = true := by unfold lstB; rw [decide_eq_true_iff]; omega
      have hln : lstN n f 5 = n - 6 := by unfold lstN; rw [if_pos hb]; omega
      have hue : unE (n - 6) (gueQ n f).ct = 0 := unE_zero.2 ⟨by omega, by
        have := szI_nat (gueQ n f).nb
        rw [hnb] at this
        omega⟩
      have hunv : unN (n - 6) (gueQ n f).ct = (gueQ n f).nb := by unfold unN; rw [if_pos hue]; omega
      refine ⟨?_, ?_⟩
      · rw [hLL]; unfold lisL lefN
        rw [if_pos (.inl h15), if_pos hb]
      · rw [hP]; unfold lisQ; rw [if_pos (by exact hGk.trans h15)]
        show ({ gueQ n f with nb := unN (lstN n f 5) (gueQ n f).ct, B := unF (fun i => f (6 + i)), nr := 0, R := fun _ => 0 } : Qst) = _
        rw [hln, hunv]
        exact qst_eta _ rfl g2 g3 g4
    by_cases h16 : f 0 = 16 ∨ f 0 = 23
    · obtain ⟨g1, g2, g3, g4⟩ := gue_words (n := n) h16
      generalize hm : fldN (f 0) = m at *
      obtain ⟨hct, hnr⟩ := fits_words (by rw [hGk]; exact h16) hfit
      obtain ⟨t1, t2⟩ := tail_words (Q := gueQ n f) (by rw [hGk]; exact h16)
      have hsn' := hsn
      unfold sayN at hsn'
      rw [t1, hnG] at hsn'
      have h5 : f (1 + 2 * m) = 2 * (gueQ n f).ct := by
        rcases hsf (1 + 2 * m) (by omega) with e | e
        · rw [← e]; unfold sayF; rw [if_neg (by omega), hnG, if_neg (by omega), t2, if_pos (by omega)]
        · omega
      have hb : lstB n f (1 + 2 * m) = true := by unfold lstB; rw [decide_eq_true_iff]; omega
      have hln : lstN n f (1 + 2 * m) = 2 * (gueQ n f).nr := by unfold lstN; rw [if_pos hb]; omega
      have hgn : getN (2 * (gueQ n f).nr) = (gueQ n f).nr := by unfold getN; rw [if_pos (by omega)]; omega
      refine ⟨?_, ?_⟩
      · rw [hLL]; unfold lisL lefN
        rw [if_pos (.inr h16), if_pos hb]
      · rw [hP]; unfold lisQ
        rw [if_neg (by show ¬ (gueQ n f).k = 15; rw [hGk]; exact h15), if_pos (by show (gueQ n f).k = 16 ∨ (gueQ n f).k = 23; rw [hGk]; exact h16), hln, hgn]
        exact qst_eta _ g3 g4 rfl g2
    · obtain ⟨g1, g2, g3, g4⟩ := gue_none (n := n) h15 h16
      have hsn' := hsn
      unfold sayN at hsn'
      rw [tail_none (Q := gueQ n f) (by rw [hGk]; exact h15) (by rw [hGk]; exact h16), hnG] at hsn'
      refine ⟨?_, ?_⟩
      · rw [hLL]; unfold lisL
        rw [if_neg (by omega)]; omega
      · rw [hP]; unfold lisQ
        rw [if_neg (by show ¬ (gueQ n f).k = 15; rw [hGk]; exact h15), if_neg (by show ¬ ((gueQ n f).k = 16 ∨ (gueQ n f).k = 23); rw [hGk]; exact h16)]
        exact qst_eta _ g1 g2 g3 g4
end Go.Proofs.YtlafnobjfajamaaGreat
namespace Go.Proofs.YtlafnobjfajamaaGreat
open Go.RowKit
set_option linter.unusedVariables false

/-- What is told: seven numbers, bits, words. -/
structure Tel where
  k : Int
  cd : Int
  ad : Int
  ct : Int
  va : Int
  an : Int
  oo : Int
  nb : Nat
  B : Nat → Bool
  nr : Nat
  R : Nat → Int
/-- Where its tables lie: as an ask's. -/
def telC (V : QstV) (T : Tel) : Array Value := #[.int .i64 T.k, .int .i64 T.cd, .int .i64 T.ad, .int .i64 T.ct, .int .i64 T.va, .int .i64 T.an, .int .i64 T.oo, .slice V.a1 T.nb V.d1, .slice V.a2 T.nr V.d2]
structure TelAt (w : World) (V : QstV) (T : Tel) : Prop where
  h1 : HoldsG Value.bool w V.a1 T.nb T.B
  l1 : T.nb ≤ V.d1
  m1 : V.d1 ≤ maxLen
  h2 : HoldsG (Value.int .u16) w V.a2 T.nr T.R
  l2 : T.nr ≤ V.d2
  m2 : V.d2 ≤ maxLen
theorem TelAt.ext {w w' : World} {V : QstV} {T : Tel} (h : TelAt w V T) (x : Ext w w') : TelAt w' V T := ⟨h.h1.ext x, h.l1, h.m1, h.h2.ext x, h.l2, h.m2⟩
def zeroT : Tel := ⟨0, 0, 0, 0, 0, 0, 0, 0, fun _ => false, 0, fun _ => 0⟩
theorem telnone_at (w : World) {T : Tel} (h1 : T.nb = 0) (h2 : T.nr = 0) : TelAt w zeroQV T := ⟨.inl h1, Nat.le_of_eq h1, Nat.zero_le _, .inl h2, Nat.le_of_eq h2, Nat.zero_le _⟩
def numsT (A B : Tel) : Bool := decide (A.k = B.k ∧ A.cd = B.cd ∧ A.ad = B.ad ∧ A.ct = B.ct ∧ A.va = B.va ∧ A.an = B.an ∧ A.oo = B.oo)
def sameT (A B : Tel) : Bool := numsT A B && eqG A.nb B.nb A.B B.B && eqB A.nr B.nr A.R B.R
theorem numsT_iff (A B : Tel) : numsT A B = true ↔ A.k = B.k ∧ A.cd = B.cd ∧ A.ad = B.ad ∧ A.ct = B.ct ∧ A.va = B.va ∧ A.an = B.an ∧ A.oo = B.oo := by unfold numsT; rw [decide_eq_true_iff]
structure Alike16 (F G : Tel) : Prop where
  k : F.k = G.k
  cd : F.cd = G.cd
  ad : F.ad = G.ad
  ct : F.ct = G.ct
  va : F.va = G.va
  an : F.an = G.an
  oo : F.oo = G.oo
  nb : F.nb = G.nb
  B : ∀ i, i < F.nb → F.B i = G.B i
  nr : F.nr = G.nr
  R : ∀ i, i < F.nr → F.R i = G.R i
theorem sameT_iff (A B : Tel) : sameT A B = true ↔ Alike16 A B := by
  unfold sameT
  rw [Bool.and_eq_true, Bool.and_eq_true, numsT_iff, eqG_iff, eqB_iff]
  constructor
  · rintro ⟨⟨⟨h1, h2, h3, h4, h5, h6, h7⟩, h9, h10⟩, h11, h12⟩; exact ⟨h1, h2, h3, h4, h5, h6, h7, h9, h10, h11, h12⟩
  · intro h; exact ⟨⟨⟨h.k, h.cd, h.ad, h.ct, h.va, h.an, h.oo⟩, h.nb, h.B⟩, h.nr, h.R⟩
theorem sameT_self (T : Tel) : sameT T T = true := (sameT_iff T T).2 ⟨rfl, rfl, rfl, rfl, rfl, rfl, rfl, rfl, fun _ _ => rfl, rfl, fun _ _ => rfl⟩
/-- What answers an ask, with such bits and words. -/
def wholeT (Q : Qst) (nb : Nat) (B : Nat → Bool) (nr : Nat) (R : Nat → Int) : Tel :=
  if Q.k = 1 ∨ Q.k = 2 then { zeroT with k := Q.k, nb := nb, B := B }
  else if Q.k = 3 ∨ Q.k = 4 ∨ Q.k = 23 then { zeroT with k := Q.k, nr := nr, R := R }
  else if Q.k = 5 ∨ Q.k = 6 then { zeroT with k := Q.k, ad := Q.ad, va := Q.va }
  else if Q.k = 15 ∨ Q.k = 16 then { zeroT with k := Q.k, ad := Q.ad, ct := Q.ct }
  else if Q.k = 22 then { zeroT with k := Q.k, ad := Q.ad, an := Q.an, oo := Q.oo }
  else { zeroT with k := Q.k }
def wholeV (Q : Qst) (V : QstV) : QstV :=
  if Q.k = 1 ∨ Q.k = 2 then { zeroQV with a1 := V.a1, d1 := V.d1 }
  else if Q.k = 3 ∨ Q.k = 4 ∨ Q.k = 23 then { zeroQV with a2 := V.a2, d2 := V.d2 }
  else zeroQV
theorem whole_at {w : World} {V : QstV} {nb : Nat} {B : Nat → Bool} {nr : Nat} {R : Nat → Int} (Q : Qst) (h1 : HoldsG Value.bool w V.a1 nb B) (l1 : nb ≤ V.d1) (m1 : V.d1 ≤ maxLen) (h2 : HoldsG (Value.int .u16) w V.a2 nr R) (l2 : nr ≤ V.d2) (m2 : V.d2 ≤ maxLen) : TelAt w (wholeV Q V) (wholeT Q nb B nr R) := by
  unfold wholeV wholeT
  by_cases a1 : Q.k = 1 ∨ Q.k = 2
  · rw [if_pos a1, if_pos a1]; exact ⟨h1, l1, m1, .inl rfl, Nat.le_refl _, Nat.zero_le _⟩
  · rw [if_neg a1, if_neg a1]
    by_cases a2 : Q.k = 3 ∨ Q.k = 4 ∨ Q.k = 23
    · rw [if_pos a2, if_pos a2]; exact ⟨.inl rfl, Nat.le_refl _, Nat.zero_le _, h2, l2, m2⟩
    · rw [if_neg a2, if_neg a2]
      repeat' split
      all_goals exact telnone_at w rfl rfl
def cntB (Q : Qst) (T : Tel) : Bool :=
  if Q.k = 1 ∨ Q.k = 2 then decide ((T.nb : Int) = Q.ct)
  else if Q.k = 3 ∨ Q.k = 4 then decide ((T.nr : Int) = Q.ct)
  else if Q.k = 23 then decide ((T.nr : Int) = Q.mn)
  else true
/-- Does it answer the ask? -/
def rightT (Q : Qst) (T : Tel) : Bool :=
  rightQ Q && (if T.cd = 0 then sameT T (wholeT Q T.nb T.B T.nr T.R) && cntB Q T else inB T.cd 1 4 && sameT T { zeroT with k := Q.k, cd := T.cd })
/-- What is said. -/
def tnumF (T : Tel) : Nat → Int := fun i =>
  if i = 0 then T.ad else if T.k = 5 ∨ T.k = 6 then T.va else if T.k = 15 ∨ T.k = 16 then T.ct else if i = 1 then T.an else T.oo
def tsayN (T : Tel) : Nat :=
  if T.cd ≠ 0 then 2
  else if T.k = 1 ∨ T.k = 2 then 2 + szN T.nb
  else if T.k = 3 ∨ T.k = 4 ∨ T.k = 23 then 2 + 2 * T.nr
  else if T.k = 22 then 7 else 5
def tsayF (T : Tel) : Nat → Int := fun i =>
  if T.cd ≠ 0 then (if i = 0 then T.k + 128 else T.cd)
  else if i = 0 then T.k
  else if T.k = 1 ∨ T.k = 2 then (if i = 1 then (szN T.nb : Int) else pkF T.B T.nb (i - 2))
  else if T.k = 3 ∨ T.k = 4 ∨ T.k = 23 then (if i = 1 then 2 * (T.nr : Int) else putF T.R (i - 2))
  else putF (tnumF T) (i - 1)
def tprN (Q : Qst) (T : Tel) : Nat := if rightT Q T = true then tsayN T else 0
def tprE (Q : Qst) (T : Tel) : Int := if rightT Q T = true then 0 else 11
theorem whole_k (Q : Qst) (nb : Nat) (B : Nat → Bool) (nr : Nat) (R : Nat → Int) : (wholeT Q nb B nr R).k = Q.k ∧ (wholeT Q nb B nr R).cd = 0 ∧ (wholeT Q nb B nr R).nb ≤ nb ∧ (wholeT Q nb B nr R).nr ≤ nr := by
  unfold wholeT
  repeat' split
  all_goals exact ⟨rfl, rfl, by first | exact Nat.le_refl _ | exact Nat.zero_le _, by first | exact Nat.le_refl _ | exact Nat.zero_le _⟩
theorem rightT_k {Q : Qst} {T : Tel} (h : rightT Q T = true) : T.k = Q.k ∧ rightQ Q = true := by
  unfold rightT at h
  rw [Bool.and_eq_true] at h
  refine ⟨?_, h.1⟩
  have h2 := h.2
  split at h2
  · rw [Bool.and_eq_true] at h2
    exact ((sameT_iff _ _).1 h2.1).k.trans (whole_k Q _ _ _ _).1
  · rw [Bool.and_eq_true] at h2
    exact ((sameT_iff _ _).1 h2.2).k
end Go.Proofs.YtlafnobjfajamaaGreat
namespace Go.Proofs.YtlafnobjfajamaaGreat
open Go.RowKit
set_option linter.unusedVariables false

theorem tright_yes {Q : Qst} {T : Tel} (hr : rightQ Q = true) : rightT Q T = (if T.cd = 0 then sameT T (wholeT Q T.nb T.B T.nr T.R) && cntB Q T else inB T.cd 1 4 && sameT T { zeroT with k := Q.k, cd := T.cd }) := by unfold rightT; rw [hr, Bool.true_and]
theorem tright_parts {Q : Qst} {T : Tel} (h : rightT Q T = true) (hc : T.cd = 0) : Alike16 T (wholeT Q T.nb T.B T.nr T.R) ∧ cntB Q T = true ∧ rightQ Q = true := by
  have hr := (rightT_k h).2
  rw [tright_yes hr, if_pos hc, Bool.and_eq_true] at h
  exact ⟨(sameT_iff _ _).1 h.1, h.2, hr⟩
theorem tright_code {Q : Qst} {T : Tel} (h : rightT Q T = true) (hc : T.cd ≠ 0) : Alike16 T { zeroT with k := Q.k, cd := T.cd } ∧ (1 ≤ T.cd ∧ T.cd ≤ 4) ∧ rightQ Q = true := by
  have hr := (rightT_k h).2
  rw [tright_yes hr, if_neg hc, Bool.and_eq_true, inB_iff] at h
  exact ⟨(sameT_iff _ _).1 h.2, h.1, hr⟩
/-- How many bits and words come with what answers. -/
theorem tcnt {Q : Qst} {T : Tel} (h : rightT Q T = true) (hc : T.cd = 0) :
    ((Q.k = 1 ∨ Q.k = 2) → (T.nb : Int) = Q.ct ∧ 1 ≤ Q.ct ∧ Q.ct ≤ 2000 ∧ T.nr = 0) ∧ ((Q.k = 3 ∨ Q.k = 4) → (T.nr : Int) = Q.ct ∧ 1 ≤ Q.ct ∧ Q.ct ≤ 125 ∧ T.nb = 0) ∧ (Q.k = 23 → (T.nr : Int) = Q.mn ∧ 1 ≤ Q.mn ∧ Q.mn ≤ 125 ∧ T.nb = 0) ∧
      (¬ (Q.k = 1 ∨ Q.k = 2) → ¬ (Q.k = 3 ∨ Q.k = 4 ∨ Q.k = 23) → T.nb = 0 ∧ T.nr = 0) := by
  obtain ⟨ha, hn, hq⟩ := tright_parts h hc
  obtain ⟨hkn, -, -, hf⟩ := (rightQ_iff Q).1 hq
  have hk := (known_iff Q.k).1 hkn
  have e1 := ha.nb; have e2 := ha.nr
  unfold wholeT at e1 e2
  unfold cntB at hn
  unfold fitsB at hf
  rcases hk with hk | hk | hk | hk | hk | hk | hk | hk | hk | hk <;>
  · simp (config := { decide := true }) only [hk, zeroT, if_true, if_false, Bool.and_eq_true, inB_iff, decide_eq_true_iff, true_implies, false_implies, true_and, and_true, or_true, or_false, not_true] at e1 e2 hn hf ⊢
    first | trivial | omega
end Go.Proofs.YtlafnobjfajamaaGreat
namespace Go.Proofs.YtlafnobjfajamaaGreat
open Go.RowKit
set_option linter.unusedVariables false

end Go.Proofs.YtlafnobjfajamaaGreat
