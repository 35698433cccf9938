/-
  LAYER 13, PLAIN: a word by a mask.
  CONTRACTS: bilgeref13.Mask (layer 13).
-/
import Derived.Test.YtkgakeknnfnjdaaChecked
import Derived.Laws.BitsAllLaws
import Derived.WalkKit
import Derived.WalkSmall
import Derived.Lib.Hide
import Derived.Test.YtkgakeknnfnjdaaLater
import Derived.BigQuiet
namespace Go.Proofs.Ytkgakeknnfnjdaa
open Go.RowKit
set_option linter.unusedVariables false

/-- Sixteen bits as a number. -/
def vM (x : BitVec 16) : Int := (x.toNat : Int)
theorem vM_lo (x : BitVec 16) : 0 ≤ vM x := Int.natCast_nonneg _
theorem vM_hi (x : BitVec 16) : vM x < 65536 := by have := x.isLt; unfold vM; omega
theorem vM_of {r : Int} (h0 : 0 ≤ r) (h1 : r < 65536) : ∃ x, r = vM x := ⟨BitVec.ofNat 16 r.toNat, by unfold vM; rw [BitVec.toNat_ofNat]; omega⟩
theorem vM_inj (x y : BitVec 16) : vM x = vM y ↔ x = y := by unfold vM; rw [Int.ofNat_inj]; exact BitVec.toNat_inj
theorem vM_toNat (x : BitVec 16) : (vM x).toNat = x.toNat := Int.toNat_natCast _
theorem vM_and (x y : BitVec 16) : bits .and .u16 (vM x) (vM y) = vM (x &&& y) := by
  rw [u16_and _ _ (vM_lo _) (vM_hi _) (vM_lo _) (vM_hi _), vM_toNat, vM_toNat]; unfold vM; rw [BitVec.toNat_and]
theorem vM_or (x y : BitVec 16) : bits .or .u16 (vM x) (vM y) = vM (x ||| y) := by
  rw [u16_or _ _ (vM_lo _) (vM_hi _) (vM_lo _) (vM_hi _), vM_toNat, vM_toNat]; unfold vM; rw [BitVec.toNat_or]
theorem vM_xor (x y : BitVec 16) : bits .xor .u16 (vM x) (vM y) = vM (x ^^^ y) := by
  rw [u16_xor _ _ (vM_lo _) (vM_hi _) (vM_lo _) (vM_hi _), vM_toNat, vM_toNat]; unfold vM; rw [BitVec.toNat_xor]
theorem vM_andNot (x y : BitVec 16) : bits .andNot .u16 (vM x) (vM y) = vM (x &&& ~~~y) := by
  rw [u16_andNot _ _ (vM_lo _) (vM_hi _) (vM_lo _) (vM_hi _), vM_toNat, vM_toNat]; unfold vM; rw [BitVec.toNat_and, BitVec.toNat_not]
/-- The bits of x where a has a 1, those of o where it has a 0. -/
def mskV (x a o : BitVec 16) : BitVec 16 := (x &&& a) ||| (o &&& ~~~a)
theorem mskV_bit (x a o : BitVec 16) (k : Nat) (hk : k < 16) : (mskV x a o).toNat.testBit k = if a.toNat.testBit k = true then x.toNat.testBit k else o.toNat.testBit k := by
  have e : (mskV x a o).getLsbD k = if a.getLsbD k = true then x.getLsbD k else o.getLsbD k := by
    unfold mskV
    simp only [BitVec.getLsbD_or, BitVec.getLsbD_and, BitVec.getLsbD_not, hk, decide_true, Bool.true_and]
    cases a.getLsbD k <;> simp
  exact e
theorem and_all (x : BitVec 16) : x &&& BitVec.allOnes 16 = x := by
  apply BitVec.eq_of_getLsbD_eq; intro i hi
  rw [BitVec.getLsbD_and, BitVec.getLsbD_allOnes, decide_eq_true hi, Bool.and_true]
theorem mskV_all (x o : BitVec 16) : mskV x 65535#16 o = x := by
  unfold mskV
  rw [show ~~~(65535#16) = 0#16 from by decide, show 65535#16 = BitVec.allOnes 16 from by decide, and_all, BitVec.and_zero, BitVec.or_zero]
theorem mskV_none (x o : BitVec 16) : mskV x 0#16 o = o := by
  unfold mskV
  rw [show ~~~(0#16) = BitVec.allOnes 16 from by decide, and_all, BitVec.and_zero, BitVec.zero_or]
theorem mskV_twice (x a o : BitVec 16) : mskV (mskV x a o) a o = mskV x a o := by
  apply BitVec.eq_of_getLsbD_eq; intro i hi
  unfold mskV
  simp only [BitVec.getLsbD_or, BitVec.getLsbD_and, BitVec.getLsbD_not, hi, decide_true, Bool.true_and]
  cases a.getLsbD i <;> simp
theorem mskV_other (x a o y : BitVec 16) : mskV (mskV x a o) (~~~a) y = mskV o (~~~a) y := by
  apply BitVec.eq_of_getLsbD_eq; intro i hi
  unfold mskV
  simp only [BitVec.getLsbD_or, BitVec.getLsbD_and, BitVec.getLsbD_not, hi, decide_true, Bool.true_and]
  cases a.getLsbD i <;> simp
theorem mskV_and (x a o : BitVec 16) : mskV x a o &&& a = x &&& a := by
  apply BitVec.eq_of_getLsbD_eq; intro i hi
  unfold mskV
  simp only [BitVec.getLsbD_or, BitVec.getLsbD_and, BitVec.getLsbD_not, hi, decide_true, Bool.true_and]
  cases a.getLsbD i <;> simp
theorem mskV_andNot (x a o : BitVec 16) : mskV x a o &&& ~~~a = o &&& ~~~a := by
  apply BitVec.eq_of_getLsbD_eq; intro i hi
  unfold mskV
  simp only [BitVec.getLsbD_or, BitVec.getLsbD_and, BitVec.getLsbD_not, hi, decide_true, Bool.true_and]
  cases a.getLsbD i <;> simp

/-- A word's bit, as a number. -/
def bitI (x : BitVec 16) (k : Nat) : Int := if x.toNat.testBit k = true then 1 else 0
theorem bitI_eq (x : BitVec 16) (k : Nat) : (vM x / 2 ^ k).tmod 2 = bitI x k := by
  have e : (vM x / 2 ^ k) = ((x.toNat / 2 ^ k : Nat) : Int) := by unfold vM; simp
  unfold bitI
  rw [e, Int.tmod_eq_emod_of_nonneg (Int.natCast_nonneg _), Nat.testBit_eq_decide_div_mod_eq]
  by_cases h : x.toNat / 2 ^ k % 2 = 1
  · rw [if_pos (decide_eq_true h)]; omega
  · rw [if_neg (by rw [decide_eq_true_eq]; exact h)]; omega
theorem bitI_two (x : BitVec 16) (k : Nat) : bitI x k = 0 ∨ bitI x k = 1 := by unfold bitI; split <;> omega
/-- The k low bits of a word, as a number. -/
def lowI (x : BitVec 16) (k : Nat) : Int := ((x.toNat % 2 ^ k : Nat) : Int)
theorem lowI_zero (x : BitVec 16) : lowI x 0 = 0 := by unfold lowI; simp [Nat.mod_one]
theorem lowI_all (x : BitVec 16) : lowI x 16 = vM x := by unfold lowI vM; rw [Nat.mod_eq_of_lt x.isLt]
theorem lowI_step (x : BitVec 16) (k : Nat) : lowI x (k + 1) = lowI x k + bitI x k * 2 ^ k := by
  have h : x.toNat % 2 ^ (k + 1) = x.toNat % 2 ^ k + 2 ^ k * (x.toNat / 2 ^ k % 2) := Nat.mod_pow_succ
  have e : ((2 ^ k : Nat) : Int) = (2 : Int) ^ k := by simp
  unfold lowI bitI
  rw [h, Nat.testBit_eq_decide_div_mod_eq]
  by_cases hb : x.toNat / 2 ^ k % 2 = 1
  · rw [if_pos (decide_eq_true hb), hb, ← e]; omega
  · rw [if_neg (by rw [decide_eq_true_eq]; exact hb), show x.toNat / 2 ^ k % 2 = 0 by omega]; omega
theorem lowI_bd (x : BitVec 16) (k : Nat) : 0 ≤ lowI x k ∧ lowI x k < 2 ^ k := by
  have h : x.toNat % 2 ^ k < 2 ^ k := Nat.mod_lt _ (Nat.two_pow_pos k)
  have e : ((2 ^ k : Nat) : Int) = (2 : Int) ^ k := by simp
  unfold lowI
  rw [← e]
  omega
theorem mskV_bitI (x a o : BitVec 16) (k : Nat) (hk : k < 16) : bitI (mskV x a o) k = if bitI a k = 1 then bitI x k else bitI o k := by
  unfold bitI
  rw [mskV_bit x a o k hk]
  cases a.toNat.testBit k <;> simp

end Go.Proofs.Ytkgakeknnfnjdaa
