/-
  REMAINDERS, PLAIN: of 16 bits; a step by a bit, by a byte, by bytes; the way back; what is linear.
-/
import Derived.Laws.BitsAllLaws
namespace Go.Proofs.YtanoakebbfidiaaDoor
open Go

/-- A remainder as an integer. -/
def vI (x : BitVec 16) : Int := (x.toNat : Int)
theorem vI_lo (x : BitVec 16) : 0 ≤ vI x := Int.natCast_nonneg _
theorem vI_hi (x : BitVec 16) : vI x < 65536 := by have := x.isLt; unfold vI; omega
theorem vI_of {r : Int} (h0 : 0 ≤ r) (h1 : r < 65536) : ∃ x, r = vI x := ⟨BitVec.ofNat 16 r.toNat, by unfold vI; rw [BitVec.toNat_ofNat]; omega⟩
theorem vI_inj (x y : BitVec 16) : vI x = vI y ↔ x = y := by unfold vI; rw [Int.ofNat_inj]; exact BitVec.toNat_inj
theorem vI_toNat (x : BitVec 16) : (vI x).toNat = x.toNat := Int.toNat_natCast _
theorem vI_mk (x : BitVec 16) (n : Nat) (h : n = x.toNat) : (n : Int) = vI x := by subst h; rfl
theorem vI_xor (x y : BitVec 16) : bits .xor .u16 (vI x) (vI y) = vI (x ^^^ y) := by
  rw [u16_xor _ _ (vI_lo _) (vI_hi _) (vI_lo _) (vI_hi _), vI_toNat, vI_toNat]; exact vI_mk _ _ (BitVec.toNat_xor _ _).symm
theorem vI_or (x y : BitVec 16) : bits .or .u16 (vI x) (vI y) = vI (x ||| y) := by
  rw [u16_or _ _ (vI_lo _) (vI_hi _) (vI_lo _) (vI_hi _), vI_toNat, vI_toNat]; exact vI_mk _ _ (BitVec.toNat_or _ _).symm
theorem vI_and (x y : BitVec 16) : bits .and .u16 (vI x) (vI y) = vI (x &&& y) := by
  rw [u16_and _ _ (vI_lo _) (vI_hi _) (vI_lo _) (vI_hi _), vI_toNat, vI_toNat]; exact vI_mk _ _ (BitVec.toNat_and _ _).symm
theorem vI_low (x : BitVec 16) : vI x % (2 : Int) = if x.getLsbD 0 then 1 else 0 := by
  have e : x.getLsbD 0 = decide (x.toNat % 2 = 1) := by rw [BitVec.getLsbD, Nat.testBit_zero]
  rw [e]; unfold vI
  by_cases h : x.toNat % 2 = 1
  · rw [decide_eq_true h, if_pos rfl]; omega
  · rw [decide_eq_false h, if_neg (by simp)]; omega
theorem vI_top (x : BitVec 16) : vI x / (32768 : Int) = if x.getLsbD 15 then 1 else 0 := by
  have e : x.getLsbD 15 = decide (x.toNat / 32768 % 2 = 1) := by rw [BitVec.getLsbD, Nat.testBit_eq_decide_div_mod_eq]
  have := x.isLt
  rw [e]; unfold vI
  by_cases h : x.toNat / 32768 % 2 = 1
  · rw [decide_eq_true h, if_pos rfl]; omega
  · rw [decide_eq_false h, if_neg (by simp)]; omega
theorem vI_half (x : BitVec 16) : vI x / (2 : Int) = vI (x >>> 1) := by
  unfold vI; rw [BitVec.toNat_ushiftRight, Nat.shiftRight_eq_div_pow]; simp
theorem vI_double (x : BitVec 16) : (vI x * (2 : Int)) % (65536 : Int) = vI (x <<< 1) := by
  unfold vI; rw [BitVec.toNat_shiftLeft, Nat.shiftLeft_eq]; simp

def bitV (x : BitVec 16) (one : Bool) : BitVec 16 := if (x.getLsbD 0 != one) then (x >>> 1) ^^^ 40961#16 else x >>> 1
def unbitV (y : BitVec 16) (one : Bool) : BitVec 16 :=
  ((if y.getLsbD 15 then y ^^^ 40961#16 else y) <<< 1) ||| (if (y.getLsbD 15 != one) then 1#16 else 0#16)

theorem bitV_xor (x y : BitVec 16) (a b : Bool) : bitV (x ^^^ y) (a ^^ b) = bitV x a ^^^ bitV y b := by
  unfold bitV
  rw [BitVec.getLsbD_xor, BitVec.ushiftRight_xor_distrib]
  generalize x >>> 1 = X
  generalize y >>> 1 = Y
  generalize 40961#16 = C
  cases x.getLsbD 0 <;> cases y.getLsbD 0 <;> cases a <;> cases b <;>
    (apply BitVec.eq_of_getLsbD_eq; intro i hi; simp only [BitVec.getLsbD_xor, Bool.xor_true, Bool.xor_false, Bool.not_true, Bool.not_false, Bool.false_eq_true, if_true, if_false]; try (cases X.getLsbD i <;> cases Y.getLsbD i <;> cases C.getLsbD i <;> rfl))

theorem poly_bits : ∀ i : Fin 16, (40961#16).getLsbD i.val = decide (i.val = 0 ∨ i.val = 13 ∨ i.val = 15) := by decide
theorem bitV_top (x : BitVec 16) (one : Bool) : (bitV x one).getLsbD 15 = (x.getLsbD 0 != one) := by
  unfold bitV
  cases h : (x.getLsbD 0 != one)
  · simp [BitVec.getLsbD_of_ge]
  · simp [BitVec.getLsbD_of_ge]
theorem unbit_bit (x : BitVec 16) (one : Bool) : unbitV (bitV x one) one = x := by
  have h1 : (if (bitV x one).getLsbD 15 then bitV x one ^^^ 40961#16 else bitV x one) = x >>> 1 := by
    rw [bitV_top]; unfold bitV
    cases (x.getLsbD 0 != one)
    · simp
    · simp [BitVec.xor_assoc]
  unfold unbitV
  rw [h1, bitV_top]
  have h2 : ((x.getLsbD 0 != one) != one) = x.getLsbD 0 := by cases x.getLsbD 0 <;> cases one <;> rfl
  rw [h2]
  apply BitVec.eq_of_getLsbD_eq; intro i hi
  rw [BitVec.getLsbD_or, BitVec.getLsbD_shiftLeft, BitVec.getLsbD_ushiftRight]
  rcases Nat.eq_zero_or_pos i with rfl | hp
  · cases x.getLsbD 0 <;> simp
  · rw [show 1 + (i - 1) = i from by omega]
    have : (if x.getLsbD 0 then 1#16 else 0#16).getLsbD i = false := by
      cases x.getLsbD 0
      · simp
      · simp; omega
    rw [this]; simp; omega
theorem bit_unbit (y : BitVec 16) (one : Bool) : bitV (unbitV y one) one = y := by
  have h0 : (unbitV y one).getLsbD 0 = (y.getLsbD 15 != one) := by
    unfold unbitV; rw [BitVec.getLsbD_or, BitVec.getLsbD_shiftLeft]
    cases (y.getLsbD 15 != one) <;> simp
  have hz : (if y.getLsbD 15 then y ^^^ 40961#16 else y).getLsbD 15 = false := by
    cases h : y.getLsbD 15
    · simpa using h
    · rw [if_pos rfl, BitVec.getLsbD_xor, h]; simp
  have h1 : unbitV y one >>> 1 = (if y.getLsbD 15 then y ^^^ 40961#16 else y) := by
    unfold unbitV
    generalize (if y.getLsbD 15 then y ^^^ 40961#16 else y) = z at hz ⊢
    apply BitVec.eq_of_getLsbD_eq; intro i hi
    rw [BitVec.getLsbD_ushiftRight, BitVec.getLsbD_or, BitVec.getLsbD_shiftLeft]
    have : (if (y.getLsbD 15 != one) then 1#16 else 0#16).getLsbD (1 + i) = false := by
      cases (y.getLsbD 15 != one)
      · simp
      · simp
    rw [this, show 1 + i - 1 = i from by omega]
    by_cases h : i = 15
    · subst h; rw [hz]; simp
    · simp; omega
  unfold bitV
  rw [h0, h1]
  have h2 : ((y.getLsbD 15 != one) != one) = y.getLsbD 15 := by cases y.getLsbD 15 <;> cases one <;> rfl
  rw [h2]
  cases y.getLsbD 15
  · simp
  · simp [BitVec.xor_assoc]

/-- Behind the bits g 0 .. g (n - 1). -/
def stepsV (x : BitVec 16) (g : Nat → Bool) : Nat → BitVec 16
  | 0 => x
  | n + 1 => bitV (stepsV x g n) (g n)
theorem stepsV_xor (x y : BitVec 16) (g h : Nat → Bool) : ∀ n, stepsV (x ^^^ y) (fun k => g k ^^ h k) n = stepsV x g n ^^^ stepsV y h n
  | 0 => rfl
  | n + 1 => by simp only [stepsV]; rw [stepsV_xor x y g h n, bitV_xor]
/-- Ahead of the bits g (n - 1) .. g 0, the last one first. -/
def unstepsV (y : BitVec 16) (g : Nat → Bool) : Nat → BitVec 16
  | 0 => y
  | n + 1 => unstepsV (unbitV y (g n)) g n
theorem unsteps_steps (g : Nat → Bool) : ∀ n x, unstepsV (stepsV x g n) g n = x
  | 0, _ => rfl
  | n + 1, x => by simp only [stepsV, unstepsV]; rw [unbit_bit]; exact unsteps_steps g n x
theorem steps_unsteps (g : Nat → Bool) : ∀ n y, stepsV (unstepsV y g n) g n = y
  | 0, _ => rfl
  | n + 1, y => by simp only [stepsV, unstepsV]; rw [steps_unsteps g n]; exact bit_unbit _ _

/-- The bits of a byte. -/
def bB (b : Int) (k : Nat) : Bool := b.toNat.testBit k
def byteV (x : BitVec 16) (b : Int) : BitVec 16 := stepsV x (bB b) 8
def unbyteV (y : BitVec 16) (b : Int) : BitVec 16 := unstepsV y (bB b) 8
theorem unbyte_byte (x : BitVec 16) (b : Int) : unbyteV (byteV x b) b = x := unsteps_steps _ _ _
theorem byte_unbyte (y : BitVec 16) (b : Int) : byteV (unbyteV y b) b = y := steps_unsteps _ _ _
/-- How Back goes: by the bits 7, 6 .. -/
def downV (y : BitVec 16) (g : Nat → Bool) : Nat → BitVec 16
  | 0 => y
  | n + 1 => unbitV (downV y g n) (g (7 - n))
theorem down_eq (y : BitVec 16) (g : Nat → Bool) : downV y g 8 = unstepsV y g 8 := rfl
theorem byteV_xor (x y : BitVec 16) (a b : Nat) : byteV (x ^^^ y) ((a ^^^ b : Nat) : Int) = byteV x a ^^^ byteV y b := by
  unfold byteV
  rw [← stepsV_xor]
  congr 1
  funext k
  simp [bB, Nat.testBit_xor]

/-- Behind the bytes f 0 .. f (n - 1). -/
def remV (x : BitVec 16) (f : Nat → Int) : Nat → BitVec 16
  | 0 => x
  | n + 1 => byteV (remV x f n) (f n)
theorem remV_congr {f g : Nat → Int} (x : BitVec 16) : ∀ n, (∀ i, i < n → f i = g i) → remV x f n = remV x g n
  | 0, _ => rfl
  | n + 1, h => by simp only [remV]; rw [remV_congr x n (fun i hi => h i (by omega)), h n (by omega)]
theorem remV_add (f g : Nat → Int) (x : BitVec 16) (n : Nat) : ∀ m, remV x (fun i => if i < n then f i else g (i - n)) (n + m) = remV (remV x f n) g m
  | 0 => remV_congr x n fun i hi => if_pos hi
  | m + 1 => by
      show byteV (remV x (fun i => if i < n then f i else g (i - n)) (n + m)) (if n + m < n then f (n + m) else g (n + m - n)) = _
      rw [remV_add f g x n m, if_neg (by omega), show n + m - n = m from by omega]; rfl
/-- Bytes held against others. -/
def xB (a b : Int) : Int := ((a.toNat ^^^ b.toNat : Nat) : Int)
theorem byteV_xB (x y : BitVec 16) (a b : Int) (ha : 0 ≤ a) (hb : 0 ≤ b) : byteV (x ^^^ y) (xB a b) = byteV x a ^^^ byteV y b := by
  obtain ⟨A, rfl⟩ := Int.eq_ofNat_of_zero_le ha
  obtain ⟨B, rfl⟩ := Int.eq_ofNat_of_zero_le hb
  exact byteV_xor x y A B
theorem xB_lo (a b : Int) : 0 ≤ xB a b := Int.natCast_nonneg _
theorem xB_hi (a b : Int) (ha : a < 256) (hb : b < 256) : xB a b < 256 := by
  have : a.toNat ^^^ b.toNat < 2 ^ 8 := Nat.xor_lt_two_pow (by omega) (by omega)
  unfold xB; omega
theorem xB_bits (a b : Int) (ha : 0 ≤ a) (ha' : a < 256) (hb : 0 ≤ b) (hb' : b < 256) : bits .xor .u8 a b = xB a b := u8_xor a b ha ha' hb hb'
theorem remV_xor (x y : BitVec 16) (f g : Nat → Int) (m : Nat) (hf : ∀ i, i < m → 0 ≤ f i) (hg : ∀ i, i < m → 0 ≤ g i) : remV (x ^^^ y) (fun i => xB (f i) (g i)) m = remV x f m ^^^ remV y g m := by
  induction m with
  | zero => rfl
  | succ m ih => simp only [remV]; rw [ih (fun i hi => hf i (by omega)) (fun i hi => hg i (by omega)), byteV_xB _ _ _ _ (hf m (by omega)) (hg m (by omega))]
/-- The way back over n bytes, from the last one on. -/
def backV (y : BitVec 16) (f : Nat → Int) : Nat → BitVec 16
  | 0 => y
  | n + 1 => backV (unbyteV y (f n)) f n
theorem back_rem (f : Nat → Int) (x : BitVec 16) : ∀ n, backV (remV x f n) f n = x
  | 0 => rfl
  | n + 1 => by simp only [remV, backV]; rw [unbyte_byte]; exact back_rem f x n
theorem remV_inj (f : Nat → Int) (x y : BitVec 16) (n : Nat) : remV x f n = remV y f n ↔ x = y :=
  ⟨fun h => by rw [← back_rem f x n, h, back_rem], fun h => by rw [h]⟩
end Go.Proofs.YtanoakebbfidiaaDoor
