/-
  REMAINDERS, PLAIN: of 16 bits; a step by a bit, by a byte, by bytes; the way back; what is linear.
  CONTRACTS: poly.Bit, unbit; bilgeref03.Bit.
  CONTRACTS: poly.Mix; bilgeref03.Mix.
  CONTRACTS: bilgeref03.Mix.
  CONTRACTS: poly's remainder, each, Rem; bilgeref03.Rem.
  CONTRACTS of package poly and bilgeref03 in the forms that the callers take.
-/
import Derived.Laws.BitsAllLaws
import Derived.Test.YtebhalehgpigoaaRows
import Derived.Test.YtebhalehgpigoaaBools
import Derived.WalkLawsBesides
import Derived.WalkSpells
import Derived.Deep.QuietTactic
import Derived.BigQuiet
import Derived.RegionTactic
import Derived.Outline
import Derived.Lib.Hide
import Derived.Handy
import Derived.IntWalk
import Derived.Test.YtebhalehgpigoaaBlocks
import Derived.Deep.RegionHeld3
import Derived.Deep.AppendLies
namespace Go.Proofs.Ytebhalehgpigoaa
open Go

/-- A remainder as an integer. -/
def vI (x : BitVec 16) : Int := (x.toNat : Int)
theorem vI_lo (x : BitVec 16) : 0 ≤ vI x := Int.natCast_nonneg _
theorem vI_hi (x : BitVec 16) : vI x < 65536 := by have := x.isLt; unfold vI; omega
theorem vI_of {r : Int} (h0 : 0 ≤ r) (h1 : r < 65536) : ∃ x, r = vI x := ⟨BitVec.ofNat 16 r.toNat, by unfold vI; rw [BitVec.toNat_ofNat]; omega⟩
theorem vI_inj (x y : BitVec 16) : vI x = vI y ↔ x = y := by unfold vI; rw [Int.ofNat_inj]; exact BitVec.toNat_inj
theorem vI_toNat (x : BitVec 16) : (vI x).toNat = x.toNat := Int.toNat_natCast _
theorem vI_mk (x : BitVec 16) (n : Nat) (h : n = x.toNat) : (n : Int) = vI x := by subst h; rfl
theorem vI_xor (x y : BitVec 16) : bits .xor .u16 (vI x) (vI y) = vI (x ^^^ y) := by
  rw [u16_xor _ _ (vI_lo _) (vI_hi _) (vI_lo _) (vI_hi _), vI_toNat, vI_toNat]; exact vI_mk _ _ (BitVec.toNat_xor _ _).symm
theorem vI_or (x y : BitVec 16) : bits .or .u16 (vI x) (vI y) = vI (x ||| y) := by
  rw [u16_or _ _ (vI_lo _) (vI_hi _) (vI_lo _) (vI_hi _), vI_toNat, vI_toNat]; exact vI_mk _ _ (BitVec.toNat_or _ _).symm
theorem vI_and (x y : BitVec 16) : bits .and .u16 (vI x) (vI y) = vI (x &&& y) := by
  rw [u16_and _ _ (vI_lo _) (vI_hi _) (vI_lo _) (vI_hi _), vI_toNat, vI_toNat]; exact vI_mk _ _ (BitVec.toNat_and _ _).symm
theorem vI_low (x : BitVec 16) : vI x % (2 : Int) = if x.getLsbD 0 then 1 else 0 := by
  have e : x.getLsbD 0 = decide (x.toNat % 2 = 1) := by rw [BitVec.getLsbD, Nat.testBit_zero]
  rw [e]; unfold vI
  by_cases h : x.toNat % 2 = 1
  · rw [decide_eq_true h, if_pos rfl]; omega
  · rw [decide_eq_false h, if_neg (by simp)]; omega
theorem vI_top (x : BitVec 16) : vI x / (32768 : Int) = if x.getLsbD 15 then 1 else 0 := by
  have e : x.getLsbD 15 = decide (x.toNat / 32768 % 2 = 1) := by rw [BitVec.getLsbD, Nat.testBit_eq_decide_div_mod_eq]
  have := x.isLt
  rw [e]; unfold vI
  by_cases h : x.toNat / 32768 % 2 = 1
  · rw [decide_eq_true h, if_pos rfl]; omega
  · rw [decide_eq_false h, if_neg (by simp)]; omega
theorem vI_half (x : BitVec 16) : vI x / (2 : Int) = vI (x >>> 1) := by
  unfold vI; rw [BitVec.toNat_ushiftRight, Nat.shiftRight_eq_div_pow]; simp
theorem vI_double (x : BitVec 16) : (vI x * (2 : Int)) % (65536 : Int) = vI (x <<< 1) := by
  unfold vI; rw [BitVec.toNat_shiftLeft, Nat.shiftLeft_eq]; simp

def bitV (x : BitVec 16) (one : Bool) : BitVec 16 := if (x.getLsbD 0 != one) then (x >>> 1) ^^^ 40961#16 else x >>> 1
def unbitV (y : BitVec 16) (one : Bool) : BitVec 16 :=
  ((if y.getLsbD 15 then y ^^^ 40961#16 else y) <<< 1) ||| (if (y.getLsbD 15 != one) then 1#16 else 0#16)

theorem bitV_xor (x y : BitVec 16) (a b : Bool) : bitV (x ^^^ y) (a ^^ b) = bitV x a ^^^ bitV y b := by
  unfold bitV
  rw [BitVec.getLsbD_xor, BitVec.ushiftRight_xor_distrib]
  generalize x >>> 1 = X
  generalize y >>> 1 = Y
  generalize 40961#16 = C
  cases x.getLsbD 0 <;> cases y.getLsbD 0 <;> cases a <;> cases b <;>
    (apply BitVec.eq_of_getLsbD_eq; intro i hi; simp only [BitVec.getLsbD_xor, Bool.xor_true, Bool.xor_false, Bool.not_true, Bool.not_false, Bool.false_eq_true, if_true, if_false]; try (cases X.getLsbD i <;> cases Y.getLsbD i <;> cases C.getLsbD i <;> rfl))

theorem poly_bits : ∀ i : Fin 16, (40961#16).getLsbD i.val = decide (i.val = 0 ∨ i.val = 13 ∨ i.val = 15) := by decide
theorem bitV_top (x : BitVec 16) (one : Bool) : (bitV x one).getLsbD 15 = (x.getLsbD 0 != one) := by
  unfold bitV
  cases h : (x.getLsbD 0 != one)
  · simp [BitVec.getLsbD_of_ge]
  · simp [BitVec.getLsbD_of_ge]
theorem unbit_bit (x : BitVec 16) (one : Bool) : unbitV (bitV x one) one = x := by
  have h1 : (if (bitV x one).getLsbD 15 then bitV x one ^^^ 40961#16 else bitV x one) = x >>> 1 := by
    rw [bitV_top]; unfold bitV
    cases (x.getLsbD 0 != one)
    · simp
    · simp [BitVec.xor_assoc]
  unfold unbitV
  rw [h1, bitV_top]
  have h2 : ((x.getLsbD 0 != one) != one) = x.getLsbD 0 := by cases x.getLsbD 0 <;> cases one <;> rfl
  rw [h2]
  apply BitVec.eq_of_getLsbD_eq; intro i hi
  rw [BitVec.getLsbD_or, BitVec.getLsbD_shiftLeft, BitVec.getLsbD_ushiftRight]
  rcases Nat.eq_zero_or_pos i with rfl | hp
  · cases x.getLsbD 0 <;> simp
  · rw [show 1 + (i - 1) = i from by omega]
    have : (if x.getLsbD 0 then 1#16 else 0#16).getLsbD i = false := by
      cases x.getLsbD 0
      · simp
      · simp; omega
    rw [this]; simp; omega
theorem bit_unbit (y : BitVec 16) (one : Bool) : bitV (unbitV y one) one = y := by
  have h0 : (unbitV y one).getLsbD 0 = (y.getLsbD 15 != one) := by
    unfold unbitV; rw [BitVec.getLsbD_or, BitVec.getLsbD_shiftLeft]
    cases (y.getLsbD 15 != one) <;> simp
  have hz : (if y.getLsbD 15 then y ^^^ 40961#16 else y).getLsbD 15 = false := by
    cases h : y.getLsbD 15
    · simpa using h
    · rw [if_pos rfl, BitVec.getLsbD_xor, h]; simp
  have h1 : unbitV y one >>> 1 = (if y.getLsbD 15 then y ^^^ 40961#16 else y) := by
    unfold unbitV
    generalize (if y.getLsbD 15 then y ^^^ 40961#16 else y) = z at hz ⊢
    apply BitVec.eq_of_getLsbD_eq; intro i hi
    rw [BitVec.getLsbD_ushiftRight, BitVec.getLsbD_or, BitVec.getLsbD_shiftLeft]
    have : (if (y.getLsbD 15 != one) then 1#16 else 0#16).getLsbD (1 + i) = false := by
      cases (y.getLsbD 15 != one)
      · simp
      · simp
    rw [this, show 1 + i - 1 = i from by omega]
    by_cases h : i = 15
    · subst h; rw [hz]; simp
    · simp; omega
  unfold bitV
  rw [h0, h1]
  have h2 : ((y.getLsbD 15 != one) != one) = y.getLsbD 15 := by cases y.getLsbD 15 <;> cases one <;> rfl
  rw [h2]
  cases y.getLsbD 15
  · simp
  · simp [BitVec.xor_assoc]

/-- Behind the bits g 0 .. g (n - 1). -/
def stepsV (x : BitVec 16) (g : Nat → Bool) : Nat → BitVec 16
  | 0 => x
  | n + 1 => bitV (stepsV x g n) (g n)
theorem stepsV_xor (x y : BitVec 16) (g h : Nat → Bool) : ∀ n, stepsV (x ^^^ y) (fun k => g k ^^ h k) n = stepsV x g n ^^^ stepsV y h n
  | 0 => rfl
  | n + 1 => by simp only [stepsV]; rw [stepsV_xor x y g h n, bitV_xor]
/-- Ahead of the bits g (n - 1) .. g 0, the last one first. -/
def unstepsV (y : BitVec 16) (g : Nat → Bool) : Nat → BitVec 16
  | 0 => y
  | n + 1 => unstepsV (unbitV y (g n)) g n
theorem unsteps_steps (g : Nat → Bool) : ∀ n x, unstepsV (stepsV x g n) g n = x
  | 0, _ => rfl
  | n + 1, x => by simp only [stepsV, unstepsV]; rw [unbit_bit]; exact unsteps_steps g n x
theorem steps_unsteps (g : Nat → Bool) : ∀ n y, stepsV (unstepsV y g n) g n = y
  | 0, _ => rfl
  | n + 1, y => by simp only [stepsV, unstepsV]; rw [steps_unsteps g n]; exact bit_unbit _ _

/-- The bits of a byte. -/
def bB (b : Int) (k : Nat) : Bool := b.toNat.testBit k
def byteV (x : BitVec 16) (b : Int) : BitVec 16 := stepsV x (bB b) 8
def unbyteV (y : BitVec 16) (b : Int) : BitVec 16 := unstepsV y (bB b) 8
theorem unbyte_byte (x : BitVec 16) (b : Int) : unbyteV (byteV x b) b = x := unsteps_steps _ _ _
theorem byte_unbyte (y : BitVec 16) (b : Int) : byteV (unbyteV y b) b = y := steps_unsteps _ _ _
/-- How Back goes: by the bits 7, 6 .. -/
def downV (y : BitVec 16) (g : Nat → Bool) : Nat → BitVec 16
  | 0 => y
  | n + 1 => unbitV (downV y g n) (g (7 - n))
theorem down_eq (y : BitVec 16) (g : Nat → Bool) : downV y g 8 = unstepsV y g 8 := rfl
theorem byteV_xor (x y : BitVec 16) (a b : Nat) : byteV (x ^^^ y) ((a ^^^ b : Nat) : Int) = byteV x a ^^^ byteV y b := by
  unfold byteV
  rw [← stepsV_xor]
  congr 1
  funext k
  simp [bB, Nat.testBit_xor]

/-- Behind the bytes f 0 .. f (n - 1). -/
def remV (x : BitVec 16) (f : Nat → Int) : Nat → BitVec 16
  | 0 => x
  | n + 1 => byteV (remV x f n) (f n)
theorem remV_congr {f g : Nat → Int} (x : BitVec 16) : ∀ n, (∀ i, i < n → f i = g i) → remV x f n = remV x g n
  | 0, _ => rfl
  | n + 1, h => by simp only [remV]; rw [remV_congr x n (fun i hi => h i (by omega)), h n (by omega)]
theorem remV_add (f g : Nat → Int) (x : BitVec 16) (n : Nat) : ∀ m, remV x (fun i => if i < n then f i else g (i - n)) (n + m) = remV (remV x f n) g m
  | 0 => remV_congr x n fun i hi => if_pos hi
  | m + 1 => by
      show byteV (remV x (fun i => if i < n then f i else g (i - n)) (n + m)) (if n + m < n then f (n + m) else g (n + m - n)) = _
      rw [remV_add f g x n m, if_neg (by omega), show n + m - n = m from by omega]; rfl
/-- Bytes held against others. -/
def xB (a b : Int) : Int := ((a.toNat ^^^ b.toNat : Nat) : Int)
theorem byteV_xB (x y : BitVec 16) (a b : Int) (ha : 0 ≤ a) (hb : 0 ≤ b) : byteV (x ^^^ y) (xB a b) = byteV x a ^^^ byteV y b := by
  obtain ⟨A, rfl⟩ := Int.eq_ofNat_of_zero_le ha
  obtain ⟨B, rfl⟩ := Int.eq_ofNat_of_zero_le hb
  exact byteV_xor x y A B
theorem xB_lo (a b : Int) : 0 ≤ xB a b := Int.natCast_nonneg _
theorem xB_hi (a b : Int) (ha : a < 256) (hb : b < 256) : xB a b < 256 := by
  have : a.toNat ^^^ b.toNat < 2 ^ 8 := Nat.xor_lt_two_pow (by omega) (by omega)
  unfold xB; omega
theorem xB_bits (a b : Int) (ha : 0 ≤ a) (ha' : a < 256) (hb : 0 ≤ b) (hb' : b < 256) : bits .xor .u8 a b = xB a b := u8_xor a b ha ha' hb hb'
theorem remV_xor (x y : BitVec 16) (f g : Nat → Int) (m : Nat) (hf : ∀ i, i < m → 0 ≤ f i) (hg : ∀ i, i < m → 0 ≤ g i) : remV (x ^^^ y) (fun i => xB (f i) (g i)) m = remV x f m ^^^ remV y g m := by
  induction m with
  | zero => rfl
  | succ m ih => simp only [remV]; rw [ih (fun i hi => hf i (by omega)) (fun i hi => hg i (by omega)), byteV_xB _ _ _ _ (hf m (by omega)) (hg m (by omega))]
/-- The way back over n bytes, from the last one on. -/
def backV (y : BitVec 16) (f : Nat → Int) : Nat → BitVec 16
  | 0 => y
  | n + 1 => backV (unbyteV y (f n)) f n
theorem back_rem (f : Nat → Int) (x : BitVec 16) : ∀ n, backV (remV x f n) f n = x
  | 0 => rfl
  | n + 1 => by simp only [remV, backV]; rw [unbyte_byte]; exact back_rem f x n
theorem remV_inj (f : Nat → Int) (x y : BitVec 16) (n : Nat) : remV x f n = remV y f n ↔ x = y :=
  ⟨fun h => by rw [← back_rem f x n, h, back_rem], fun h => by rw [h]⟩
end Go.Proofs.Ytebhalehgpigoaa
namespace Go.Proofs.Ytebhalehgpigoaa
open Go.RowKit

theorem and_low (x : BitVec 16) : bits .and .u16 (vI x) 1 = if x.getLsbD 0 then 1 else 0 := by
  rw [← vI_low, u16_and _ _ (vI_lo _) (vI_hi _) (by decide) (by decide), vI_toNat, show (1 : Int).toNat = 1 from rfl, Nat.and_one_is_mod]; unfold vI; omega
theorem ret_u16 {a b : Int} (h : a = b) : Ending.returned (Value.int .u16 a) = Ending.returned (Value.int .u16 b) := by rw [h]

theorem bitV_same {x : BitVec 16} {one : Bool} (h : x.getLsbD 0 = one) : vI (bitV x one) = vI x / (2 : Int) := by
  unfold bitV; rw [h, vI_half]; simp
theorem bitV_diff {x : BitVec 16} {one : Bool} (h : x.getLsbD 0 = !one) : vI (bitV x one) = bits .xor .u16 (vI x / (2 : Int)) 40961 := by
  have : bitV x one = (x >>> 1) ^^^ 40961#16 := by unfold bitV; rw [h]; cases one <;> rfl
  rw [this, vI_half]; exact (vI_xor _ _).symm
/-- The four ways. -/
theorem bit_ways (x : BitVec 16) (one : Bool) {Q : BitVec 16 → Bool → Prop}
    (hs : ∀ b (r z : Int), 0 ≤ r → r < 65536 → r = vI x → z = vI (bitV x b) → bits .and .u16 r 1 = (if b then 1 else 0) → r % (2 : Int) = (if b then 1 else 0) → z = r / (2 : Int) → Q x b)
    (hd : ∀ b (r z : Int), 0 ≤ r → r < 65536 → r = vI x → z = vI (bitV x b) → bits .and .u16 r 1 = (if b then 0 else 1) → r % (2 : Int) = (if b then 0 else 1) → z = bits .xor .u16 (r / (2 : Int)) 40961 → Q x b) : Q x one := by
  by_cases h : x.getLsbD 0 = one
  · exact hs one _ _ (vI_lo x) (vI_hi x) rfl rfl (by rw [and_low, h]) (by rw [vI_low, h]) (bitV_same h)
  · have h' : x.getLsbD 0 = !one := by revert h; cases x.getLsbD 0 <;> cases one <;> simp
    exact hd one _ _ (vI_lo x) (vI_hi x) rfl rfl (by rw [and_low, h']; cases one <;> rfl) (by rw [vI_low, h']; cases one <;> rfl) (bitV_diff h')

theorem half_t (r : Int) (h0 : 0 ≤ r) (h1 : r < 65536) : IntKind.u16.wrap (r.tdiv 2) = r / (2 : Int) := by
  rw [Int.tdiv_eq_ediv_of_nonneg h0]
  show (r / 2) % 65536 = _
  omega
theorem unbitV_eq (y : BitVec 16) (one : Bool) (t : Bool) (h : y.getLsbD 15 = t) :
    vI (unbitV y one) = bits .or .u16 (((if t then bits .xor .u16 (vI y) 40961 else vI y) * (2 : Int)) % (65536 : Int)) (if (t != one) then 1 else 0) := by
  have e1 : bits .xor .u16 (vI y) 40961 = vI (y ^^^ 40961#16) := vI_xor y 40961#16
  unfold unbitV
  rw [h]
  cases t <;> cases one
  all_goals
    simp only [Bool.false_eq_true, if_false, if_true, bne_self_eq_false, Bool.bne_true, Bool.bne_false, Bool.not_false]
    try rw [e1]
    rw [vI_double]
    exact (vI_or _ _).symm
theorem or_zero (v : Int) (h0 : 0 ≤ v) (h1 : v < 65536) : bits .or .u16 v 0 = v := by
  rw [u16_or _ _ h0 h1 (by decide) (by decide)]; simp; omega
theorem unbit_ways (y : BitVec 16) (one : Bool) {Q : BitVec 16 → Bool → Prop}
    (hq : ∀ b t (r z : Int), 0 ≤ r → r < 65536 → r = vI y → z = vI (unbitV y b) → r / (32768 : Int) = (if t then 1 else 0) →
      z = bits .or .u16 (((if t then bits .xor .u16 r 40961 else r) * (2 : Int)) % (65536 : Int)) (if (t != b) then 1 else 0) → Q y b) : Q y one :=
  hq one _ _ _ (vI_lo y) (vI_hi y) rfl rfl (vI_top y) (unbitV_eq y one _ rfl)
theorem byte_nat {b : Int} (h0 : 0 ≤ b) (h1 : b < 256) : ∃ B : Nat, B < 256 ∧ b = (B : Int) := ⟨b.toNat, by omega, by omega⟩
theorem bB_eq (B k : Nat) : bB (B : Int) k = decide (B / 2 ^ k % 2 = 1) := by unfold bB; rw [Int.toNat_natCast, Nat.testBit_eq_decide_div_mod_eq]
theorem low_bit (b : Int) (k : Nat) (h0 : 0 ≤ b) (h1 : b < 256) (_hk : k < 8) : (bits .and .u8 (b / 2 ^ k) 1 != 0) = bB b k := by
  obtain ⟨B, hB, rfl⟩ := byte_nat h0 h1
  have e : ((B : Int) / 2 ^ k) = ((B / 2 ^ k : Nat) : Int) := by simp
  have hd : B / 2 ^ k < 256 := Nat.lt_of_le_of_lt (Nat.div_le_self _ _) hB
  generalize hD : B / 2 ^ k = D at hd
  have hbb : bB (B : Int) k = decide (D % 2 = 1) := by rw [bB_eq, hD]
  rw [e, hD, u8_and _ _ (by omega) (by omega) (by decide) (by decide), hbb, Int.toNat_natCast, show (1 : Int).toNat = 1 from rfl, Nat.and_one_is_mod, Bool.eq_iff_iff]
  simp; omega
theorem low_rem (b : Int) (k : Nat) (h0 : 0 ≤ b) (h1 : b < 256) : ((b / 2 ^ k).tmod 2 == 1) = bB b k := by
  obtain ⟨B, hB, rfl⟩ := byte_nat h0 h1
  have e : ((B : Int) / 2 ^ k) = ((B / 2 ^ k : Nat) : Int) := by simp
  rw [e, bB_eq, Int.tmod_eq_emod_of_nonneg (Int.natCast_nonneg _), Bool.eq_iff_iff]
  simp; omega

theorem high_all : ∀ k : Fin 8, ∀ B : Fin 256, (((B.val * 2 ^ k.val % 256) &&& 128) != 0) = decide (B.val / 2 ^ (7 - k.val) % 2 = 1) := by decide +kernel
theorem high_bit (b : Int) (k : Nat) (h0 : 0 ≤ b) (h1 : b < 256) (hk : k < 8) : (bits .and .u8 (b * 2 ^ k % 256) 128 != 0) = bB b (7 - k) := by
  obtain ⟨B, hB, rfl⟩ := byte_nat h0 h1
  have e : ((B : Int) * 2 ^ k % 256) = ((B * 2 ^ k % 256 : Nat) : Int) := by simp
  have h := high_all ⟨k, hk⟩ ⟨B, hB⟩
  simp only at h
  rw [bB_eq, ← h, e, u8_and _ _ (by omega) (by omega) (by decide) (by decide), Int.toNat_natCast, show (128 : Int).toNat = 128 from rfl]
  generalize (B * 2 ^ k % 256) &&& 128 = D
  rw [Bool.eq_iff_iff]; simp

end Go.Proofs.Ytebhalehgpigoaa
namespace Go.Proofs.Ytebhalehgpigoaa
open Go.RowKit

theorem Try.info8p : (Try.prog.info? 5).map (fun i => (i.zero, i.size, i.bytes)) = some (some (.int .u8 0), 1, 1) := by kernel_rfl
theorem min_nat (n m : Nat) : min (n : Int) (m : Int) = ((min n m : Nat) : Int) := by omega
def mixF (f g : Nat → Int) : Nat → Int := fun i => xB (f i) (g i)
theorem mixF_at (f g : Nat → Int) (k : Nat) : mixF f g k = xB (f k) (g k) := rfl
theorem mixF_bd {f g : Nat → Int} {m : Nat} (hf : ∀ i, i < m → 0 ≤ f i ∧ f i < 256) (hg : ∀ i, i < m → 0 ≤ g i ∧ g i < 256) : ∀ i, i < m → 0 ≤ mixF f g i ∧ mixF f g i < 256 :=
  fun i hi => ⟨xB_lo _ _, xB_hi _ _ (hf i hi).2 (hg i hi).2⟩

end Go.Proofs.Ytebhalehgpigoaa
namespace Go.Proofs.Ytebhalehgpigoaa
open Go.RowKit

end Go.Proofs.Ytebhalehgpigoaa
namespace Go.Proofs.Ytebhalehgpigoaa
open Go.RowKit


end Go.Proofs.Ytebhalehgpigoaa
namespace Go.Proofs.Ytebhalehgpigoaa
open Go.RowKit

end Go.Proofs.Ytebhalehgpigoaa
