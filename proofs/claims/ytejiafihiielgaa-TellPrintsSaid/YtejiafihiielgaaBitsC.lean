/-
  CONTRACTS: bits.Tidy, bilgeref02.Tidy; bits.Unpack, bilgeref02.Unpack.
-/
import Derived.Test.YtejiafihiielgaaBitsB
import Derived.Deep.RegionHeld3
import Derived.Deep.RegionWith
import Derived.Deep.AppendLies
import Derived.StillTailTactics
namespace Go.Proofs.Ytejiafihiielgaa
open Go.RowKit

/-- Tidy, as the code asks it: the last byte, without its first bits, is 0. -/
theorem tdB_last (b : Nat → Int) (m : Nat) (n : Nat) (hb : ∀ i, i < m → 0 ≤ b i ∧ b i < 256) (hm : m = szN n) (h8 : n % 8 ≠ 0) : tdB b m n = (b (m - 1) / 2 ^ (n % 8) == 0) := by
  have hm1 : 0 < m := by rw [hm]; unfold szN; omega
  obtain ⟨h0, h1⟩ := hb (m - 1) (by omega)
  obtain ⟨v, hv⟩ := Int.eq_ofNat_of_zero_le h0
  have e : (b (m - 1) / 2 ^ (n % 8) == 0) = true ↔ v / 2 ^ (n % 8) = 0 := by
    rw [hv, beq_iff_eq]
    have : ((v : Int) / 2 ^ (n % 8)) = ((v / 2 ^ (n % 8) : Nat) : Int) := by simp
    rw [this]; omega
  rw [Bool.eq_iff_iff, tdB_iff, e]
  have hmn : 8 * (m - 1) + n % 8 = n := by rw [hm]; unfold szN; omega
  constructor
  · rintro ⟨_, _, h⟩
    apply Nat.eq_of_testBit_eq
    intro i
    rw [Nat.testBit_div_two_pow, Nat.zero_testBit]
    by_cases hi : i + n % 8 < 8
    · have := h (8 * (m - 1) + (i + n % 8)) (by omega) (by omega)
      unfold unF at this
      rw [show (8 * (m - 1) + (i + n % 8)) / 8 = m - 1 from by omega, show (8 * (m - 1) + (i + n % 8)) % 8 = i + n % 8 from by omega, hv, Int.toNat_natCast] at this
      exact this
    · rw [Nat.testBit_lt_two_pow]
      have : 2 ^ 8 ≤ 2 ^ (i + n % 8) := Nat.pow_le_pow_right (by decide) (by omega)
      omega
  · intro h
    refine ⟨by omega, by rw [szI_nat, hm], fun k hk hk2 => ?_⟩
    rw [Int.toNat_natCast] at hk
    unfold unF
    have hkm : k / 8 = m - 1 := by omega
    rw [hkm, hv, Int.toNat_natCast]
    have := congrArg (fun x => x.testBit (k % 8 - n % 8)) h
    simp only [Nat.zero_testBit, Nat.testBit_div_two_pow] at this
    rw [show k % 8 - n % 8 + n % 8 = k % 8 from by omega] at this
    exact this
theorem tdB_full (b : Nat → Int) (m : Nat) (n : Nat) (hm : m = szN n) (h8 : n % 8 = 0) : tdB b m n = true :=
  tdB_iff.2 ⟨by omega, by rw [szI_nat, hm], fun k hk hk2 => by rw [Int.toNat_natCast] at hk; rw [hm] at hk2; unfold szN at hk2; omega⟩
theorem tdB_not (b : Nat → Int) (m : Nat) (n : Int) (h : n < 0 ∨ (m : Int) ≠ szI n) : tdB b m n = false := by
  cases e : tdB b m n with
  | false => rfl
  | true => obtain ⟨h1, h2, _⟩ := tdB_iff.1 e; rcases h with h | h <;> omega

end Go.Proofs.Ytejiafihiielgaa
