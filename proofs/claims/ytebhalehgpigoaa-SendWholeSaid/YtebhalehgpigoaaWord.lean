/-
  PLAIN MATHEMATICS: the number whose k lowest bits are a number's k lowest bits in the other order ('rk k a'); what it does to '^', '&', '|'; the table of bytes turned.
  CONTRACTS of package word, the plain ones: join, Turn, Low, Unlow, At; and the document's Turn and At.
  CONTRACTS: the document's Turn and At (bilgeref01); word.Get and bilgeref01.Get.
  CONTRACTS: bilgeref01.Get and Put: slices that are appended to.
  CONTRACTS: word.Put: its row, each of its words put by a method value.
-/
import Derived.Lib.Tables
import Derived.Laws.BitsAllLaws
import Derived.KernelRfl
import Derived.Test.YtebhalehgpigoaaRows
import Derived.Test.YtebhalehgpigoaaSlices
import Derived.WalkLawsBesides
import Derived.WalkSpells
import Derived.Deep.QuietTactic
import Derived.BigQuiet
import Derived.RegionTactic
import Derived.Outline
import Derived.Lib.Hide
import Derived.Handy
import Derived.Deep.RegionHeld3
import Derived.Deep.RegionWith
import Derived.Deep.AppendLies
import Derived.StillTailTactics
set_option maxRecDepth 100000
namespace Go.Proofs.Ytebhalehgpigoaa

/-- The k lowest bits of a, in the other order. -/
def rk : Nat → Nat → Nat
  | 0, _ => 0
  | k + 1, a => rk k a * 2 + (a / 2 ^ k) % 2

theorem rk_lt (k a : Nat) : rk k a < 2 ^ k := by
  induction k with
  | zero => simp [rk]
  | succ k ih => simp only [rk, Nat.pow_succ]; omega

theorem rk_bit (k a i : Nat) : (rk k a).testBit i = (decide (i < k) && a.testBit (k - 1 - i)) := by
  induction k generalizing i with
  | zero => simp [rk]
  | succ k ih =>
    cases i with
    | zero =>
      simp [rk, Nat.testBit_eq_decide_div_mod_eq]
    | succ i =>
      rw [Nat.testBit_succ]
      have e : rk (k + 1) a / 2 = rk k a := by simp only [rk]; omega
      rw [e, ih]
      have h1 : (k + 1 - 1 - (i + 1)) = k - 1 - i := by omega
      rw [h1]
      simp

theorem rk_ext {k x y : Nat} (hx : x < 2 ^ k) (hy : y < 2 ^ k) (h : ∀ i, i < k → x.testBit i = y.testBit i) : x = y := by
  apply Nat.eq_of_testBit_eq
  intro i
  by_cases hi : i < k
  · exact h i hi
  · have le : 2 ^ k ≤ 2 ^ i := Nat.pow_le_pow_right (by decide) (by omega)
    rw [Nat.testBit_lt_two_pow (by omega), Nat.testBit_lt_two_pow (by omega)]

theorem rk_xor (k a b : Nat) : rk k (a ^^^ b) = rk k a ^^^ rk k b := by
  apply rk_ext (rk_lt _ _) (Nat.xor_lt_two_pow (rk_lt _ _) (rk_lt _ _))
  intro i hi; simp [rk_bit, hi]
theorem rk_and (k a b : Nat) : rk k (a &&& b) = rk k a &&& rk k b := by
  apply rk_ext (rk_lt _ _) (Nat.and_lt_two_pow _ (rk_lt _ _))
  intro i hi; simp [rk_bit, hi]
theorem rk_or (k a b : Nat) : rk k (a ||| b) = rk k a ||| rk k b := by
  apply rk_ext (rk_lt _ _) (Nat.or_lt_two_pow (rk_lt _ _) (rk_lt _ _))
  intro i hi; simp [rk_bit, hi]
theorem rk_rk (k a : Nat) (h : a < 2 ^ k) : rk k (rk k a) = a := by
  apply rk_ext (rk_lt _ _) h
  intro i hi
  have h1 : k - 1 - i < k := by omega
  have h2 : k - 1 - (k - 1 - i) = i := by omega
  simp [rk_bit, hi, h1, h2]
theorem rk_inj (k a b : Nat) (ha : a < 2 ^ k) (hb : b < 2 ^ k) : rk k a = rk k b ↔ a = b :=
  ⟨fun h => by rw [← rk_rk k a ha, ← rk_rk k b hb, h], fun h => by rw [h]⟩

/-- The low part turned, then the high one. -/
theorem rk_add (k m a : Nat) : rk (k + m) a = rk k a * 2 ^ m + rk m (a / 2 ^ k) := by
  induction m with
  | zero => simp [rk]
  | succ m ih =>
    show rk (k + m) a * 2 + (a / 2 ^ (k + m)) % 2 = _
    simp only [rk]
    rw [ih, Nat.div_div_eq_div_mul, ← Nat.pow_add, Nat.pow_succ]
    have : rk k a * (2 ^ m * 2) = rk k a * 2 ^ m * 2 := by rw [Nat.mul_assoc]
    omega
theorem rk_mod (k a : Nat) : rk k (a % 2 ^ k) = rk k a := by
  apply rk_ext (rk_lt _ _) (rk_lt _ _)
  intro i hi
  have h1 : k - 1 - i < k := by omega
  simp [rk_bit, hi, Nat.testBit_mod_two_pow, h1]

set_option maxRecDepth 100000 in
theorem rev8_all : ∀ i : Fin 256, Lib.rev8 ((i.val : Nat) : Int) = ((rk 8 i.val : Nat) : Int) := by decide +kernel
theorem rev8_rk (i : Nat) (h : i < 256) : Lib.rev8 (i : Int) = ((rk 8 i : Nat) : Int) := rev8_all ⟨i, h⟩

/-- A word turned: its low byte's bits stand high. -/
theorem turn_eq (a : Nat) (h : a < 65536) :
    bits .or .u16 (IntKind.u16.wrap (Lib.rev8 ((a : Int) / 256))) (IntKind.u16.wrap (IntKind.u16.wrap (Lib.rev8 (bits .and .u16 (a : Int) 255)) * 256)) = ((rk 16 a : Nat) : Int) := by
  have e1 : ((a : Int) / 256) = ((a / 256 : Nat) : Int) := by omega
  have e2 : bits .and .u16 (a : Int) 255 = ((a % 256 : Nat) : Int) := by
    rw [u16_and (a : Int) 255 (by omega) (by omega) (by omega) (by omega)]
    have this : a &&& 255 = a % 256 := by simpa using Nat.and_two_pow_sub_one_eq_mod a 8
    rw [Int.toNat_natCast]
    show ((a &&& 255 : Nat) : Int) = _
    rw [this]
  rw [e1, e2, rev8_rk _ (by omega), rev8_rk _ (by omega)]
  have l1 := rk_lt 8 (a / 256)
  have l2 := rk_lt 8 (a % 256)
  have h1 : rk 16 a = rk 8 (a % 256) * 2 ^ 8 + rk 8 (a / 256) := by
    have := rk_add 8 8 a
    rw [this, ← rk_mod 8 a]
  simp only [IntKind.wrap_u16]
  have f1 : ((rk 8 (a / 256) : Nat) : Int) % 65536 = ((rk 8 (a / 256) : Nat) : Int) := by omega
  have f2 : (((rk 8 (a % 256) : Nat) : Int) % 65536 * 256) % 65536 = ((rk 8 (a % 256) * 256 : Nat) : Int) := by omega
  rw [f1, f2, u16_or _ _ (by omega) (by omega) (by omega) (by omega), h1]
  rw [Int.toNat_natCast, Int.toNat_natCast, Nat.or_comm]
  have := Nat.two_pow_add_eq_or_of_lt l1 (rk 8 (a % 256))
  rw [← Nat.mul_comm] at this
  rw [show (256 : Nat) = 2 ^ 8 from rfl, ← this]
end Go.Proofs.Ytebhalehgpigoaa
namespace Go.Proofs.Ytebhalehgpigoaa
open Go.RowKit

theorem or_byte (a b : Int) (a0 : 0 ≤ a) (a1 : a < 256) (b0 : 0 ≤ b) (b1 : b < 256) : bits .or .u16 (a * 256) b = a * 256 + b := by
  obtain ⟨A, rfl⟩ := Int.eq_ofNat_of_zero_le a0
  obtain ⟨B, rfl⟩ := Int.eq_ofNat_of_zero_le b0
  rw [u16_or _ _ (by omega) (by omega) (by omega) (by omega)]
  have e : ((A : Int) * 256).toNat = A * 256 := by omega
  rw [e, Int.toNat_natCast]
  have := Nat.two_pow_add_eq_or_of_lt (i := 8) (b := B) (by omega) A
  rw [← Nat.mul_comm, show (2 : Nat) ^ 8 = 256 from rfl] at this
  rw [← this]; omega

/-- A word turned. -/
def tw (a : Int) : Int := ((rk 16 a.toNat : Nat) : Int)
theorem tw_bd (a : Int) : 0 ≤ tw a ∧ tw a < 65536 := by
  have := rk_lt 16 a.toNat
  unfold tw; omega

theorem fold_rev : ({ data := (([0, 128, 64, 192, 32, 160, 96, 224, 16, 144, 80, 208, 48, 176, 112, 240, 8, 136, 72, 200, 40, 168, 104, 232, 24, 152, 88, 216, 56, 184, 120, 248, 4, 132, 68, 196, 36, 164, 100, 228, 20, 148, 84, 212, 52, 180, 116, 244, 12, 140, 76, 204, 44, 172, 108, 236, 28, 156, 92, 220, 60, 188, 124, 252].append [2, 130, 66, 194, 34, 162, 98, 226, 18, 146, 82, 210, 50, 178, 114, 242, 10, 138, 74, 202, 42, 170, 106, 234, 26, 154, 90, 218, 58, 186, 122, 250, 6, 134, 70, 198, 38, 166, 102, 230, 22, 150, 86, 214, 54, 182, 118, 246, 14, 142, 78, 206, 46, 174, 110, 238, 30, 158, 94, 222, 62, 190, 126, 254]).append ([1, 129, 65, 193, 33, 161, 97, 225, 17, 145, 81, 209, 49, 177, 113, 241, 9, 137, 73, 201, 41, 169, 105, 233, 25, 153, 89, 217, 57, 185, 121, 249, 5, 133, 69, 197, 37, 165, 101, 229, 21, 149, 85, 213, 53, 181, 117, 245, 13, 141, 77, 205, 45, 173, 109, 237, 29, 157, 93, 221, 61, 189, 125, 253].append [3, 131, 67, 195, 35, 163, 99, 227, 19, 147, 83, 211, 51, 179, 115, 243, 11, 139, 75, 203, 43, 171, 107, 235, 27, 155, 91, 219, 59, 187, 123, 251, 7, 135, 71, 199, 39, 167, 103, 231, 23, 151, 87, 215, 55, 183, 119, 247, 15, 143, 79, 207, 47, 175, 111, 239, 31, 159, 95, 223, 63, 191, 127, 255])).toArray } : ByteArray) = Lib.rev8tab := by kernel_rfl

/-- The low byte of a word, then its high one. -/
def lowF (x : Int) : Nat → Int := fun i => if i = 0 then x % 256 else x / 256

end Go.Proofs.Ytebhalehgpigoaa
namespace Go.Proofs.Ytebhalehgpigoaa
open Go.RowKit

theorem rk_step (k a : Nat) (v : Int) (hv : v = ((a / 2 ^ k : Nat) : Int)) : ((rk k a : Nat) : Int) * 2 + v % 2 = ((rk (k + 1) a : Nat) : Int) := by
  subst hv; simp only [rk]; omega

/-- Behind k rounds: what is left, and what has come. -/
def TurnAt (A k v r : Nat) : Prop := v = A / 2 ^ k ∧ r = rk k A

/-- The words that bytes are. -/
def getF (f : Nat → Int) : Nat → Int := fun i => f (2 * i) * 256 + f (2 * i + 1)

theorem Try.info8 : (Try.prog.info? 5).map (fun i => (i.zero, i.size, i.bytes)) = some (some (.int .u8 0), 1, 1) := by kernel_rfl

end Go.Proofs.Ytebhalehgpigoaa
namespace Go.Proofs.Ytebhalehgpigoaa
open Go.RowKit

/-- The bytes of words. -/
def putF (f : Nat → Int) : Nat → Int := fun j => if j % 2 = 0 then f (j / 2) / 256 else f (j / 2) % 256
theorem putF_even (f : Nat → Int) (k : Nat) : putF f (2 * k) = f k / 256 := by unfold putF; rw [if_pos (by omega)]; congr 2; omega
theorem putF_odd (f : Nat → Int) (k : Nat) : putF f (2 * k + 1) = f k % 256 := by unfold putF; rw [if_neg (by omega)]; congr 2; omega
theorem putF_bd (f : Nat → Int) (n : Nat) (hf : ∀ i, i < n → 0 ≤ f i ∧ f i < 65536) : ∀ j, j < 2 * n → 0 ≤ putF f j ∧ putF f j < 256 := by
  intro j hj
  have := hf (j / 2) (by omega)
  unfold putF; split <;> omega

end Go.Proofs.Ytebhalehgpigoaa
namespace Go.Proofs.Ytebhalehgpigoaa
open Go.RowKit

end Go.Proofs.Ytebhalehgpigoaa
