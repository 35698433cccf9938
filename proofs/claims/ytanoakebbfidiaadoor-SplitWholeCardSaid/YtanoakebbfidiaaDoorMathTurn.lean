/-
  PLAIN MATHEMATICS: the number whose k lowest bits are a number's k lowest bits in the other order ('rk k a'); what it does to '^', '&', '|'; the table of bytes turned.
-/
import Derived.Lib.Tables
import Derived.Laws.BitsAllLaws
import Derived.KernelRfl
namespace Go.Proofs.YtanoakebbfidiaaDoor

/-- The k lowest bits of a, in the other order. -/
def rk : Nat → Nat → Nat
  | 0, _ => 0
  | k + 1, a => rk k a * 2 + (a / 2 ^ k) % 2

theorem rk_lt (k a : Nat) : rk k a < 2 ^ k := by
  induction k with
  | zero => simp [rk]
  | succ k ih => simp only [rk, Nat.pow_succ]; omega

theorem rk_bit (k a i : Nat) : (rk k a).testBit i = (decide (i < k) && a.testBit (k - 1 - i)) := by
  induction k generalizing i with
  | zero => simp [rk]
  | succ k ih =>
    cases i with
    | zero =>
      simp [rk, Nat.testBit_eq_decide_div_mod_eq]
    | succ i =>
      rw [Nat.testBit_succ]
      have e : rk (k + 1) a / 2 = rk k a := by simp only [rk]; omega
      rw [e, ih]
      have h1 : (k + 1 - 1 - (i + 1)) = k - 1 - i := by omega
      rw [h1]
      simp

theorem rk_ext {k x y : Nat} (hx : x < 2 ^ k) (hy : y < 2 ^ k) (h : ∀ i, i < k → x.testBit i = y.testBit i) : x = y := by
  apply Nat.eq_of_testBit_eq
  intro i
  by_cases hi : i < k
  · exact h i hi
  · have le : 2 ^ k ≤ 2 ^ i := Nat.pow_le_pow_right (by decide) (by omega)
    rw [Nat.testBit_lt_two_pow (by omega), Nat.testBit_lt_two_pow (by omega)]

theorem rk_xor (k a b : Nat) : rk k (a ^^^ b) = rk k a ^^^ rk k b := by
  apply rk_ext (rk_lt _ _) (Nat.xor_lt_two_pow (rk_lt _ _) (rk_lt _ _))
  intro i hi; simp [rk_bit, hi]
theorem rk_and (k a b : Nat) : rk k (a &&& b) = rk k a &&& rk k b := by
  apply rk_ext (rk_lt _ _) (Nat.and_lt_two_pow _ (rk_lt _ _))
  intro i hi; simp [rk_bit, hi]
theorem rk_or (k a b : Nat) : rk k (a ||| b) = rk k a ||| rk k b := by
  apply rk_ext (rk_lt _ _) (Nat.or_lt_two_pow (rk_lt _ _) (rk_lt _ _))
  intro i hi; simp [rk_bit, hi]
theorem rk_rk (k a : Nat) (h : a < 2 ^ k) : rk k (rk k a) = a := by
  apply rk_ext (rk_lt _ _) h
  intro i hi
  have h1 : k - 1 - i < k := by omega
  have h2 : k - 1 - (k - 1 - i) = i := by omega
  simp [rk_bit, hi, h1, h2]
theorem rk_inj (k a b : Nat) (ha : a < 2 ^ k) (hb : b < 2 ^ k) : rk k a = rk k b ↔ a = b :=
  ⟨fun h => by rw [← rk_rk k a ha, ← rk_rk k b hb, h], fun h => by rw [h]⟩

/-- The low part turned, then the high one. -/
theorem rk_add (k m a : Nat) : rk (k + m) a = rk k a * 2 ^ m + rk m (a / 2 ^ k) := by
  induction m with
  | zero => simp [rk]
  | succ m ih =>
    show rk (k + m) a * 2 + (a / 2 ^ (k + m)) % 2 = _
    simp only [rk]
    rw [ih, Nat.div_div_eq_div_mul, ← Nat.pow_add, Nat.pow_succ]
    have : rk k a * (2 ^ m * 2) = rk k a * 2 ^ m * 2 := by rw [Nat.mul_assoc]
    omega
theorem rk_mod (k a : Nat) : rk k (a % 2 ^ k) = rk k a := by
  apply rk_ext (rk_lt _ _) (rk_lt _ _)
  intro i hi
  have h1 : k - 1 - i < k := by omega
  simp [rk_bit, hi, Nat.testBit_mod_two_pow, h1]

set_option maxRecDepth 100000 in
theorem rev8_all : ∀ i : Fin 256, Lib.rev8 ((i.val : Nat) : Int) = ((rk 8 i.val : Nat) : Int) := by decide +kernel
theorem rev8_rk (i : Nat) (h : i < 256) : Lib.rev8 (i : Int) = ((rk 8 i : Nat) : Int) := rev8_all ⟨i, h⟩

/-- A word turned: its low byte's bits stand high. -/
theorem turn_eq (a : Nat) (h : a < 65536) :
    bits .or .u16 (IntKind.u16.wrap (Lib.rev8 ((a : Int) / 256))) (IntKind.u16.wrap (IntKind.u16.wrap (Lib.rev8 (bits .and .u16 (a : Int) 255)) * 256)) = ((rk 16 a : Nat) : Int) := by
  have e1 : ((a : Int) / 256) = ((a / 256 : Nat) : Int) := by omega
  have e2 : bits .and .u16 (a : Int) 255 = ((a % 256 : Nat) : Int) := by
    rw [u16_and (a : Int) 255 (by omega) (by omega) (by omega) (by omega)]
    have this : a &&& 255 = a % 256 := by simpa using Nat.and_two_pow_sub_one_eq_mod a 8
    rw [Int.toNat_natCast]
    show ((a &&& 255 : Nat) : Int) = _
    rw [this]
  rw [e1, e2, rev8_rk _ (by omega), rev8_rk _ (by omega)]
  have l1 := rk_lt 8 (a / 256)
  have l2 := rk_lt 8 (a % 256)
  have h1 : rk 16 a = rk 8 (a % 256) * 2 ^ 8 + rk 8 (a / 256) := by
    have := rk_add 8 8 a
    rw [this, ← rk_mod 8 a]
  simp only [IntKind.wrap_u16]
  have f1 : ((rk 8 (a / 256) : Nat) : Int) % 65536 = ((rk 8 (a / 256) : Nat) : Int) := by omega
  have f2 : (((rk 8 (a % 256) : Nat) : Int) % 65536 * 256) % 65536 = ((rk 8 (a % 256) * 256 : Nat) : Int) := by omega
  rw [f1, f2, u16_or _ _ (by omega) (by omega) (by omega) (by omega), h1]
  rw [Int.toNat_natCast, Int.toNat_natCast, Nat.or_comm]
  have := Nat.two_pow_add_eq_or_of_lt l1 (rk 8 (a % 256))
  rw [← Nat.mul_comm] at this
  rw [show (256 : Nat) = 2 ^ 8 from rfl, ← this]
end Go.Proofs.YtanoakebbfidiaaDoor
