/-
  LAYER 22, PLAIN: eight coils as a byte; who a server is, as bytes.
-/
import Derived.Test.YtkgakeknnfnjdaaFil
import Derived.Test.YtkgakeknnfnjdaaBitsMath
import Derived.Test.YtkgakeknnfnjdaaSame
namespace Go.Proofs.Ytkgakeknnfnjdaa
open Go.RowKit
set_option linter.unusedVariables false

/-- Is the coil k behind a place there, and true? -/
def cB (F : Fil) (x : Int) (k : Nat) : Bool := hasB F.cf F.cc (x + k) && F.C (x + k - F.cf).toNat
def stG (F : Fil) (x : Int) : Bool := decide (x ≤ 65535) && (decide (-8 ≤ x) && rightB F)
def stF (F : Fil) (x : Int) : Int := if stG F x = true then (bt (cB F x) 8 : Int) else 0
/-- What is reported. -/
def repL (n : Nat) (f : Nat → Int) (r : Bool) : List Int := ((n : Int) + 1) :: ((List.range n).map f ++ [if r = true then 255 else 0])
theorem repL_len (n : Nat) (f : Nat → Int) (r : Bool) : (repL n f r).length = n + 2 := by unfold repL; simp
def repE (n : Nat) : Int := if n ≤ 240 then 0 else 13
def repK (n : Nat) : Nat := if n ≤ 240 then n + 2 else 0
/-- What bytes report: may they be, who, and whether it runs. -/
def rrB (n : Nat) (f : Nat → Int) : Bool := decide (2 ≤ n ∧ n ≤ 242 ∧ f 0 + 1 = n ∧ (f (n - 1) = 0 ∨ f (n - 1) = 255))
def rrE (n : Nat) (f : Nat → Int) : Int := if rrB n f = true then 0 else 14
def rrN (n : Nat) (f : Nat → Int) : Nat := if rrB n f = true then n - 2 else 0
def rrR (n : Nat) (f : Nat → Int) : Bool := rrB n f && decide (f (n - 1) = 255)
def rrF (f : Nat → Int) : Nat → Int := fun i => f (1 + i)
theorem rep_at (n : Nat) (f : Nat → Int) (r : Bool) : ofL (repL n f r) 0 = n + 1 ∧ (∀ i, i < n → ofL (repL n f r) (1 + i) = f i) ∧ ofL (repL n f r) (n + 1) = if r = true then 255 else 0 := by
  refine ⟨rfl, fun i hi => ?_, ?_⟩
  · unfold repL ofL
    rw [show 1 + i = i + 1 by omega, List.getD_eq_getElem?_getD, List.getElem?_cons_succ, List.getElem?_append_left (by simp; exact hi)]
    simp [hi]
  · unfold repL ofL
    rw [List.getD_eq_getElem?_getD, List.getElem?_cons_succ, List.getElem?_append_right (by simp)]
    simp
/-- What is reported is read. -/
theorem rep_read {n : Nat} {f : Nat → Int} {r : Bool} (h : n ≤ 240) : rrB (n + 2) (ofL (repL n f r)) = true ∧ rrN (n + 2) (ofL (repL n f r)) = n ∧ rrR (n + 2) (ofL (repL n f r)) = r ∧ ∀ i, i < n → rrF (ofL (repL n f r)) i = f i := by
  obtain ⟨h0, h1, h2⟩ := rep_at n f r
  have hb : rrB (n + 2) (ofL (repL n f r)) = true := by
    refine decide_eq_true ⟨by omega, by omega, by rw [h0]; omega, ?_⟩
    rw [show n + 2 - 1 = n + 1 by omega, h2]
    cases r
    · exact .inl rfl
    · exact .inr rfl
  refine ⟨hb, by unfold rrN; rw [if_pos hb]; omega, ?_, h1⟩
  unfold rrR
  rw [hb, Bool.true_and, show n + 2 - 1 = n + 1 by omega, h2]
  cases r <;> rfl
/-- What is read, reported again, is those bytes. -/
theorem read_rep {n : Nat} {f : Nat → Int} (h : rrB n f = true) : rrN n f ≤ 240 ∧ rrN n f + 2 = n ∧ ∀ i, i < n → ofL (repL (rrN n f) (rrF f) (rrR n f)) i = f i := by
  obtain ⟨h1, h2, h3, h4⟩ := of_decide_eq_true h
  have hn : rrN n f = n - 2 := by unfold rrN; rw [if_pos h]
  refine ⟨by omega, by omega, fun i hi => ?_⟩
  obtain ⟨e0, e1, e2⟩ := rep_at (rrN n f) (rrF f) (rrR n f)
  rcases (show i = 0 ∨ (∃ j, i = 1 + j ∧ j < rrN n f) ∨ i = rrN n f + 1 by
    by_cases h0 : i = 0
    · exact .inl h0
    · by_cases h5 : i = rrN n f + 1
      · exact .inr (.inr h5)
      · exact .inr (.inl ⟨i - 1, by omega, by omega⟩)) with rfl | ⟨j, rfl, hj⟩ | rfl
  · rw [e0, hn]; omega
  · rw [e1 j hj]; rfl
  · rw [e2, hn]
    unfold rrR
    rw [h, Bool.true_and, show n - 2 + 1 = n - 1 by omega]
    by_cases e : f (n - 1) = 255
    · rw [decide_eq_true e, if_pos rfl, e]
    · rw [decide_eq_false e, if_neg (by decide)]; exact (h4.resolve_right e).symm
theorem rr_no {n : Nat} {f : Nat → Int} (h : rrB n f = false) : rrE n f = 14 ∧ rrN n f = 0 ∧ rrR n f = false := ⟨by unfold rrE; rw [h]; rfl, by unfold rrN; rw [h]; rfl, by unfold rrR; rw [h]; rfl⟩
theorem bt_succ (g : Nat → Bool) (k : Nat) : bt g (k + 1) = bt g k + (if g k = true then 2 ^ k else 0) := rfl
end Go.Proofs.Ytkgakeknnfnjdaa
