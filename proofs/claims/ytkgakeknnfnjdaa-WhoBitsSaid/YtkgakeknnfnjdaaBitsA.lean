/-
  CONTRACTS: bits.Size, Ones, Flags; bilgeref02.Size, Ones, bit, Same.
-/
import Derived.Test.YtkgakeknnfnjdaaRows
import Derived.Test.YtkgakeknnfnjdaaBools
import Derived.Test.YtkgakeknnfnjdaaBitsMath
import Derived.WalkLawsBesides
import Derived.WalkSpells
import Derived.Deep.QuietTactic
import Derived.BigQuiet
import Derived.RegionTactic
import Derived.Outline
import Derived.Lib.Hide
import Derived.Handy
import Derived.IntWalk
namespace Go.Proofs.Ytkgakeknnfnjdaa
open Go.RowKit

/-- The byte of the first 8. -/
def flF (f : Nat → Bool) (n : Nat) : Nat := bt (fun k => decide (k < n) && f k) 8
theorem flF_first (f : Nat → Bool) (n : Nat) : flF f n = bt f (min n 8) := by
  unfold flF
  have : ∀ k, k ≤ 8 → bt (fun k => decide (k < n) && f k) k = bt f (min n k) := by
    intro k hk
    induction k with
    | zero => simp [bt]
    | succ k ih =>
      simp only [bt]; rw [ih (by omega)]
      by_cases h : k < n
      · rw [show min n (k + 1) = k + 1 from by omega, show min n k = k from by omega]; simp [bt, h]
      · rw [show min n (k + 1) = n from by omega, show min n k = n from by omega]; simp [h]
  exact this 8 (Nat.le_refl _)
theorem or_pow (x k : Nat) (hx : x < 2 ^ k) (hk : k < 8) : bits .or .u8 (x : Int) ((2 : Int) ^ k) = ((x + 2 ^ k : Nat) : Int) := by
  have h8 : 2 ^ k ≤ 2 ^ 7 := Nat.pow_le_pow_right (by decide) (by omega)
  have e : ((2 : Int) ^ k) = ((2 ^ k : Nat) : Int) := by simp
  rw [e, u8_or _ _ (by omega) (by omega) (by omega) (by omega), Int.toNat_natCast, Int.toNat_natCast]
  have := Nat.two_pow_add_eq_or_of_lt (i := k) (b := x) hx 1
  rw [Nat.mul_one] at this
  rw [Nat.or_comm, ← this, Nat.add_comm]

theorem un_bit (v : Int) (k : Nat) (h0 : 0 ≤ v) : v.toNat.testBit k = ((v / 2 ^ k).tmod 2 == 1) := by
  obtain ⟨V, rfl⟩ := Int.eq_ofNat_of_zero_le h0
  rw [Int.toNat_natCast, Nat.testBit_eq_decide_div_mod_eq]
  have e : ((V : Int) / 2 ^ k) = ((V / 2 ^ k : Nat) : Int) := by simp
  rw [e, Int.tmod_eq_emod_of_nonneg (Int.natCast_nonneg _), Bool.eq_iff_iff]
  simp; omega
end Go.Proofs.Ytkgakeknnfnjdaa
