/-
  PLAIN MATHEMATICS: bits in bytes.
-/
import Derived.WalkKit
namespace Go.Proofs.YtlafnobjfajamaaGreat
open Go.RowKit

/-- How many bytes so many bits take. -/
def szN (n : Nat) : Nat := (n + 7) / 8
def szI (n : Int) : Int := if n < 1 then 0 else (n - 1) / 8 + 1
theorem szI_nat (n : Nat) : szI n = szN n := by unfold szI szN; split <;> omega
/-- The bits below k, as a number. -/
def bt (g : Nat → Bool) : Nat → Nat
  | 0 => 0
  | k + 1 => bt g k + (if g k then 2 ^ k else 0)
theorem bt_lt (g : Nat → Bool) (k : Nat) : bt g k < 2 ^ k := by
  induction k with
  | zero => simp [bt]
  | succ k ih => simp only [bt]; rw [Nat.pow_succ]; split <;> omega
theorem bt_congr {g h : Nat → Bool} (k : Nat) (e : ∀ i, i < k → g i = h i) : bt g k = bt h k := by
  induction k with
  | zero => rfl
  | succ k ih => simp only [bt]; rw [ih (fun i hi => e i (by omega)), e k (by omega)]
theorem bt_bit (g : Nat → Bool) (k i : Nat) : (bt g k).testBit i = (decide (i < k) && g i) := by
  induction k with
  | zero => simp [bt]
  | succ k ih =>
    simp only [bt]
    have hl := bt_lt g k
    by_cases hg : g k
    · rw [if_pos hg, Nat.add_comm]
      rcases Nat.lt_trichotomy i k with h | h | h
      · rw [Nat.testBit_two_pow_add_gt h, ih]; simp [h, show i < k + 1 from by omega]
      · subst h; rw [Nat.testBit_two_pow_add_eq, Nat.testBit_lt_two_pow hl]; simp [hg]
      · rw [Nat.testBit_lt_two_pow]
        · simp; omega
        · have : 2 ^ (k + 1) ≤ 2 ^ i := Nat.pow_le_pow_right (by decide) (by omega)
          rw [Nat.pow_succ] at this; omega
    · rw [if_neg hg, Nat.add_zero, ih]
      rcases Nat.lt_trichotomy i k with h | h | h
      · simp [h, show i < k + 1 from by omega]
      · subst h; simp; simpa using hg
      · simp [show ¬ i < k from by omega, show ¬ i < k + 1 from by omega]
theorem bt_of_bits (v k : Nat) (hv : v < 2 ^ k) : bt (fun i => v.testBit i) k = v := by
  apply Nat.eq_of_testBit_eq
  intro i
  rw [bt_bit]
  by_cases h : i < k
  · simp [h]
  · simp [h]
    rw [Nat.testBit_lt_two_pow]
    exact Nat.lt_of_lt_of_le hv (Nat.pow_le_pow_right (by decide) (by omega))
/-- The byte number j of bits. -/
def pkF (f : Nat → Bool) (n : Nat) : Nat → Int := fun j => (bt (fun k => decide (8 * j + k < n) && f (8 * j + k)) 8 : Nat)
/-- The bit number k of bytes. -/
def unF (b : Nat → Int) : Nat → Bool := fun k => (b (k / 8)).toNat.testBit (k % 8)
end Go.Proofs.YtlafnobjfajamaaGreat
