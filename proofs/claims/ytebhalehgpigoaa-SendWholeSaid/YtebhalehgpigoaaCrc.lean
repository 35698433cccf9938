/-
  SUMS, PLAIN: a byte by halves of a table; behind its own sum nothing is left; what is turned, as bits of its own: odd, two, within sixteen.
  CONTRACTS of package crc: Table, with, Update, through, Sum; bilgeref04.Sum.
  CONTRACTS: crc.Append; bilgeref04.Append.
  CONTRACTS: bilgeref04.Append and Check; crc's cut, Check, Strip.
  CONTRACTS: crc.Join; bilgeref04.Join and Flip.
  CONTRACTS of package crc and bilgeref04 in the forms that the callers take.
-/
import Derived.Test.YtebhalehgpigoaaPoly
import Derived.Test.YtebhalehgpigoaaWord
import Derived.Test.YtebhalehgpigoaaAppend
import Derived.Test.YtebhalehgpigoaaSame
namespace Go.Proofs.Ytebhalehgpigoaa
open Go

/-- The two tables. -/
def lowT : List Nat := [0, 49345, 49537, 320, 49921, 960, 640, 49729, 50689, 1728, 1920, 51009, 1280, 50625, 50305, 1088]
def highT : List Nat := [0, 52225, 55297, 5120, 61441, 15360, 10240, 58369, 40961, 27648, 30720, 46081, 20480, 39937, 34817, 17408]
theorem halves_all : ∀ B : Fin 256, lowT.getD (B.val % 16) 0 ^^^ highT.getD (B.val / 16) 0 = (byteV 0#16 (B.val : Int)).toNat := by decide +kernel
theorem low_lt : ∀ i : Fin 16, lowT.getD i.val 0 < 65536 := by decide
theorem high_lt : ∀ i : Fin 16, highT.getD i.val 0 < 65536 := by decide
theorem self_all : ∀ B : Fin 256, byteV (BitVec.ofNat 16 B.val) (B.val : Int) = 0#16 := by decide +kernel
theorem up_all : ∀ B : Fin 256, byteV (BitVec.ofNat 16 (B.val * 256)) 0 = BitVec.ofNat 16 B.val := by decide +kernel

theorem byteV_zero : byteV 0#16 0 = 0#16 := by decide +kernel
/-- A byte goes on from the low byte of what was, and the high one moves down. -/
theorem byteV_split (s : BitVec 16) (B : Nat) : byteV s (B : Int) = BitVec.ofNat 16 (s.toNat / 256) ^^^ byteV 0#16 ((s.toNat % 256 ^^^ B : Nat) : Int) := by
  have hs := s.isLt
  obtain ⟨h, hh⟩ : ∃ h, h = s.toNat / 256 := ⟨_, rfl⟩
  obtain ⟨l, hl⟩ : ∃ l, l = s.toNat % 256 := ⟨_, rfl⟩
  have hh1 : h < 256 := by omega
  have hl1 : l < 256 := by omega
  have e1 : s = BitVec.ofNat 16 (h * 256) ^^^ (BitVec.ofNat 16 l ^^^ 0#16) := by
    apply BitVec.eq_of_toNat_eq
    rw [BitVec.xor_zero, BitVec.toNat_xor, BitVec.toNat_ofNat, BitVec.toNat_ofNat, Nat.mod_eq_of_lt (by omega), Nat.mod_eq_of_lt (by omega)]
    have := Nat.two_pow_add_eq_or_of_lt (i := 8) (b := l) (by omega) h
    apply Nat.eq_of_testBit_eq
    intro i
    rw [Nat.testBit_xor]
    have e2 : s.toNat = 2 ^ 8 * h + l := by rw [show (2 : Nat) ^ 8 = 256 from rfl]; omega
    rw [e2, this, Nat.testBit_or, show h * 256 = 2 ^ 8 * h from Nat.mul_comm _ _, Nat.testBit_two_pow_mul]
    by_cases hi : 8 ≤ i
    · rw [Nat.testBit_lt_two_pow (x := l) (i := i) (Nat.lt_of_lt_of_le hl1 (by rw [show (256 : Nat) = 2 ^ 8 from rfl]; exact Nat.pow_le_pow_right (by decide) hi))]
      simp [hi]
    · simp [hi]
  rw [← hh, ← hl]
  have e2 : (B : Nat) = 0 ^^^ (l ^^^ (l ^^^ B)) := by rw [Nat.zero_xor, ← Nat.xor_assoc, Nat.xor_self, Nat.zero_xor]
  have e3 : byteV s (B : Int) = byteV (BitVec.ofNat 16 (h * 256)) ((0 : Nat) : Int) ^^^ (byteV (BitVec.ofNat 16 l) (l : Int) ^^^ byteV 0#16 ((l ^^^ B : Nat) : Int)) := by
    rw [← byteV_xor, ← byteV_xor, ← e1, ← e2]
  rw [e3, self_all ⟨l, hl1⟩, BitVec.zero_xor]
  congr 1
  exact up_all ⟨h, hh1⟩

/-- What the two tables tell of a byte. -/
theorem halves (B : Nat) (hB : B < 256) : ((lowT.getD (B % 16) 0 ^^^ highT.getD (B / 16) 0 : Nat) : Int) = vI (byteV 0#16 (B : Int)) := by
  rw [halves_all ⟨B, hB⟩]; rfl

/-- Behind its own sum nothing is left. -/
def told2 (x : BitVec 16) (a b : Int) : BitVec 16 := byteV (byteV x a) b
theorem told2_self (x : BitVec 16) : told2 x (vI x % 256) (vI x / 256) = 0#16 := by
  have hx := x.isLt
  unfold told2
  have e1 : vI x % (256 : Int) = ((x.toNat % 256 : Nat) : Int) := by unfold vI; omega
  have e2 : vI x / (256 : Int) = ((x.toNat / 256 : Nat) : Int) := by unfold vI; omega
  rw [e1, e2, byteV_split x, Nat.xor_self]
  rw [show ((0 : Nat) : Int) = 0 from rfl, byteV_zero, BitVec.xor_zero]
  exact self_all ⟨x.toNat / 256, by omega⟩
theorem told2_inj {x y : BitVec 16} {a b : Int} (h : told2 x a b = told2 y a b) : x = y := by
  unfold told2 at h
  have h1 : byteV x a = byteV y a := by rw [← unbyte_byte (byteV x a) b, h, unbyte_byte]
  rw [← unbyte_byte x a, h1, unbyte_byte]
/-- The sum that two bytes are, told of what stands ahead of them: just then nothing is left. -/
theorem told2_iff (x : BitVec 16) (a b : Int) (ha : 0 ≤ a ∧ a < 256) (hb : 0 ≤ b ∧ b < 256) : told2 x a b = 0#16 ↔ vI x = b * 256 + a := by
  obtain ⟨y, hy⟩ := vI_of (r := b * 256 + a) (by omega) (by omega)
  have h := told2_self y
  have ea : vI y % (256 : Int) = a := by rw [← hy]; omega
  have eb : vI y / (256 : Int) = b := by rw [← hy]; omega
  rw [ea, eb] at h
  rw [hy, vI_inj]
  constructor
  · intro hx; exact told2_inj (hx.trans h.symm)
  · rintro rfl; exact h

/-- Bytes with two behind. -/
def andTwo (f : Nat → Int) (n : Nat) (s : Int) : Nat → Int := fun i => if i < n then f i else if i = n then s % 256 else s / 256
theorem andTwo_front (f : Nat → Int) (n : Nat) (s : Int) : ∀ i, i < n → andTwo f n s i = f i := fun _ h => if_pos h
theorem andTwo_bd (f : Nat → Int) (n : Nat) (s : Int) (hf : ∀ i, i < n → 0 ≤ f i ∧ f i < 256) (h0 : 0 ≤ s) (h1 : s < 65536) : ∀ i, 0 ≤ andTwo f n s i ∧ andTwo f n s i < 256 := by
  intro i; unfold andTwo; split
  · exact hf i ‹_›
  · split <;> omega
theorem remV_andTwo (x : BitVec 16) (f : Nat → Int) (n : Nat) : remV x (andTwo f n (vI (remV x f n))) (n + 2) = 0#16 := by
  show byteV (byteV (remV x _ n) _) _ = _
  rw [remV_congr x n (andTwo_front f n _)]
  have e1 : andTwo f n (vI (remV x f n)) n = vI (remV x f n) % 256 := by unfold andTwo; simp
  have e2 : andTwo f n (vI (remV x f n)) (n + 1) = vI (remV x f n) / 256 := by unfold andTwo; rw [if_neg (by omega), if_neg (by omega)]
  rw [e1, e2]; exact told2_self _

/-- Joined: what one differs from the start goes through noughts. -/
theorem remV_zeros_xor (a : BitVec 16) (g : Nat → Int) (m : Nat) (hg : ∀ i, i < m → 0 ≤ g i) : remV (a ^^^ 65535#16) (fun _ => 0) m ^^^ remV 65535#16 g m = remV a g m := by
  rw [← remV_xor _ _ (fun _ => 0) g m (fun _ _ => by omega) hg]
  have e : (a ^^^ 65535#16) ^^^ 65535#16 = a := by rw [BitVec.xor_assoc, BitVec.xor_self, BitVec.xor_zero]
  rw [e]
  exact remV_congr a m fun i hi => by
    obtain ⟨G, hG⟩ := Int.eq_ofNat_of_zero_le (hg i hi)
    show xB 0 (g i) = g i
    rw [hG]; simp [xB]

/-! BITS -/
theorem stepsV_congr {g h : Nat → Bool} (x : BitVec 16) : ∀ n, (∀ i, i < n → g i = h i) → stepsV x g n = stepsV x h n
  | 0, _ => rfl
  | n + 1, e => by simp only [stepsV]; rw [stepsV_congr x n (fun i hi => e i (by omega)), e n (by omega)]
theorem stepsV_add (x : BitVec 16) (g : Nat → Bool) (n : Nat) : ∀ m, stepsV x g (n + m) = stepsV (stepsV x g n) (fun i => g (n + i)) m
  | 0 => rfl
  | m + 1 => by show bitV (stepsV x g (n + m)) (g (n + m)) = _; rw [stepsV_add x g n m]; rfl
theorem stepsV_inj {x y : BitVec 16} {g : Nat → Bool} {n : Nat} (h : stepsV x g n = stepsV y g n) : x = y := by rw [← unsteps_steps g n x, h, unsteps_steps]
/-- The bits of bytes. -/
def bitAt (f : Nat → Int) : Nat → Bool := fun t => bB (f (t / 8)) (t % 8)
theorem bitAt_at (f : Nat → Int) (i j : Nat) (hj : j < 8) : bitAt f (8 * i + j) = bB (f i) j := by
  unfold bitAt; rw [show (8 * i + j) / 8 = i from by omega, show (8 * i + j) % 8 = j from by omega]
theorem remV_bits (x : BitVec 16) (f : Nat → Int) : ∀ n, remV x f n = stepsV x (bitAt f) (8 * n)
  | 0 => rfl
  | n + 1 => by
    rw [show 8 * (n + 1) = 8 * n + 8 from by omega, stepsV_add, ← remV_bits x f n]
    exact stepsV_congr _ 8 fun j hj => (bitAt_at f n j hj).symm
theorem bitV_zero : bitV 0#16 false = 0#16 := by decide
theorem stepsV_none : ∀ (S : Nat → Bool) (n : Nat), (∀ i, i < n → S i = false) → stepsV 0#16 S n = 0#16
  | _, 0, _ => rfl
  | S, n + 1, h => by simp only [stepsV]; rw [stepsV_none S n (fun i hi => h i (by omega)), h n (by omega)]; exact bitV_zero
/-- What is turned leaves what it leaves alone. -/
theorem turned (x : BitVec 16) (f g : Nat → Int) (S : Nat → Bool) (n : Nat) (h : ∀ i, i < n → ∀ j, j < 8 → bB (g i) j = (bB (f i) j ^^ S (8 * i + j))) : remV x g n = remV x f n ^^^ stepsV 0#16 S (8 * n) := by
  rw [remV_bits, remV_bits, ← stepsV_xor, BitVec.xor_zero]
  refine stepsV_congr x _ fun t ht => ?_
  have := h (t / 8) (by omega) (t % 8) (by omega)
  rw [show 8 * (t / 8) + t % 8 = t from by omega] at this
  exact this

/-! AN ODD NUMBER -/
def parN (x : BitVec 16) : Nat → Bool
  | 0 => false
  | n + 1 => parN x n ^^ x.getLsbD n
def par (x : BitVec 16) : Bool := parN x 16
theorem four_xor : ∀ a b c d : Bool, ((a ^^ b) ^^ (c ^^ d)) = ((a ^^ c) ^^ (b ^^ d)) := by decide
theorem parN_xor (x y : BitVec 16) : ∀ n, parN (x ^^^ y) n = (parN x n ^^ parN y n)
  | 0 => rfl
  | n + 1 => by simp only [parN]; rw [parN_xor x y n, BitVec.getLsbD_xor]; exact four_xor _ _ _ _
theorem par_xor (x y : BitVec 16) : par (x ^^^ y) = (par x ^^ par y) := parN_xor x y 16
theorem parN_half (x : BitVec 16) : ∀ n, parN (x >>> 1) n = (parN x (n + 1) ^^ x.getLsbD 0)
  | 0 => by simp [parN]
  | n + 1 => by
    have e : ∀ a b c : Bool, ((a ^^ c) ^^ b) = ((a ^^ b) ^^ c) := by decide
    show (parN (x >>> 1) n ^^ (x >>> 1).getLsbD n) = ((parN x (n + 1) ^^ x.getLsbD (n + 1)) ^^ x.getLsbD 0)
    rw [parN_half x n, BitVec.getLsbD_ushiftRight, Nat.add_comm 1 n]; exact e _ _ _
theorem par_half (x : BitVec 16) : par (x >>> 1) = (par x ^^ x.getLsbD 0) := by
  have h : x.getLsbD 16 = false := BitVec.getLsbD_of_ge _ _ (by decide)
  unfold par
  rw [parN_half]
  show ((parN x 16 ^^ x.getLsbD 16) ^^ _) = _
  rw [h, Bool.xor_false]
theorem par_poly : par 40961#16 = true := by decide
theorem par_bit (x : BitVec 16) (one : Bool) : par (bitV x one) = (par x ^^ one) := by
  unfold bitV
  cases h : (x.getLsbD 0 != one)
  · rw [if_neg (by simp), par_half]
    have : x.getLsbD 0 = one := by simpa using h
    rw [this]
  · rw [if_pos rfl, par_xor, par_half, par_poly]
    have : x.getLsbD 0 = !one := by revert h; cases x.getLsbD 0 <;> cases one <;> simp
    rw [this]; cases par x <;> cases one <;> rfl
/-- How many of S 0 .. S (n - 1). -/
def many (S : Nat → Bool) : Nat → Nat
  | 0 => 0
  | n + 1 => many S n + if S n then 1 else 0
theorem par_next (c : Nat) (b : Bool) : (decide (c % 2 = 1) ^^ b) = decide ((c + if b then 1 else 0) % 2 = 1) := by
  have : c % 2 = 0 ∨ c % 2 = 1 := by omega
  cases b
  · simp
  · rcases this with h | h <;> simp [h] <;> omega
theorem par_steps (S : Nat → Bool) : ∀ n, par (stepsV 0#16 S n) = decide (many S n % 2 = 1)
  | 0 => by show par 0#16 = false; decide
  | n + 1 => by
    simp only [stepsV, many]; rw [par_bit, par_steps S n]
    exact par_next (many S n) (S n)
theorem odd_left (S : Nat → Bool) (n : Nat) (h : many S n % 2 = 1) : stepsV 0#16 S n ≠ 0#16 := by
  intro e
  have := par_steps S n
  rw [e, decide_eq_true h] at this
  exact absurd this (by decide)

/-! TWO -/
theorem many_none {S : Nat → Bool} : ∀ n, many S n = 0 → ∀ i, i < n → S i = false
  | 0, _, _, h => absurd h (by omega)
  | n + 1, h, i, hi => by
    simp only [many] at h
    by_cases e : i = n
    · subst e; cases hs : S i
      · rfl
      · rw [hs] at h; simp at h
    · exact many_none n (by omega) i (by omega)
theorem many_ge {S : Nat → Bool} : ∀ n i, i < n → S i = true → 1 ≤ many S n
  | 0, _, h, _ => absurd h (by omega)
  | n + 1, i, hi, hs => by
    simp only [many]
    by_cases e : i = n
    · subst e; rw [hs]; simp
    · have := many_ge n i (by omega) hs; omega
theorem many_one {S : Nat → Bool} : ∀ n, many S n = 1 → ∃ i, i < n ∧ S i = true ∧ ∀ t, t < n → t ≠ i → S t = false
  | 0, h => by simp [many] at h
  | n + 1, h => by
    simp only [many] at h
    cases hs : S n
    · rw [hs] at h
      obtain ⟨i, hi, h1, h2⟩ := many_one n (by simpa using h)
      refine ⟨i, by omega, h1, fun t ht hne => ?_⟩
      by_cases e : t = n
      · subst e; exact hs
      · exact h2 t (by omega) hne
    · rw [hs] at h
      have h0 : many S n = 0 := by simpa using h
      exact ⟨n, by omega, hs, fun t ht hne => many_none n h0 t (by omega)⟩
theorem many_two {S : Nat → Bool} : ∀ n, many S n = 2 → ∃ i d, i + (d + 1) < n ∧ S i = true ∧ S (i + (d + 1)) = true ∧ ∀ t, t < n → t ≠ i → t ≠ i + (d + 1) → S t = false
  | 0, h => by simp [many] at h
  | n + 1, h => by
    simp only [many] at h
    cases hs : S n
    · rw [hs] at h
      obtain ⟨i, d, hi, h1, h2, h3⟩ := many_two n (by simpa using h)
      refine ⟨i, d, by omega, h1, h2, fun t ht a b => ?_⟩
      by_cases e : t = n
      · subst e; exact hs
      · exact h3 t (by omega) a b
    · rw [hs] at h
      obtain ⟨i, hi, h1, h2⟩ := many_one n (by simpa using h)
      refine ⟨i, n - i - 1, by omega, h1, by rw [show i + (n - i - 1 + 1) = n from by omega]; exact hs, fun t ht a b => h2 t (by omega) a⟩
/-- The powers, one behind the other: none of the first n is the beginning. -/
def stepN (r : Nat) : Nat := if r % 2 = 1 then (r / 2) ^^^ 40961 else r / 2
def apart : Nat → Nat → Bool
  | 0, _ => true
  | n + 1, r => (match stepN r with | r' => !(r' == 40961) && apart n r')
theorem apart_all : apart 3300 40961 = true := by decide +kernel
theorem bitV_step (x : BitVec 16) : (bitV x false).toNat = stepN x.toNat := by
  unfold bitV stepN
  have h0 : x.getLsbD 0 = decide (x.toNat % 2 = 1) := by rw [BitVec.getLsbD, Nat.testBit_zero]
  rw [h0]
  by_cases h : x.toNat % 2 = 1
  · rw [if_pos (by simp [h]), if_pos h, BitVec.toNat_xor, BitVec.toNat_ushiftRight, Nat.shiftRight_eq_div_pow]; rfl
  · rw [if_neg (by simp [h]), if_neg h, BitVec.toNat_ushiftRight, Nat.shiftRight_eq_div_pow]
theorem apart_at : ∀ n (x : BitVec 16), apart n x.toNat = true → ∀ d, d < n → stepsV x (fun _ => false) (d + 1) ≠ 40961#16
  | 0, _, _, _, h => absurd h (by omega)
  | n + 1, x, h, d, hd => by
    have h1 : stepN x.toNat ≠ 40961 ∧ apart n (stepN x.toNat) = true := by
      have : (!(stepN x.toNat == 40961) && apart n (stepN x.toNat)) = true := h
      simpa using this
    rw [← bitV_step] at h1
    intro e
    rw [show d + 1 = 1 + d from by omega, stepsV_add] at e
    have e1 : stepsV x (fun _ => false) 1 = bitV x false := rfl
    rw [e1] at e
    cases d with
    | zero => exact h1.1 (by have : bitV x false = 40961#16 := e
                             rw [this]; rfl)
    | succ d => exact apart_at n (bitV x false) h1.2 d (by omega) e
theorem bitV_true (x : BitVec 16) : bitV x true = bitV x false ^^^ 40961#16 := by
  have h := bitV_xor x 0#16 false true
  rw [BitVec.xor_zero] at h
  rw [show true = (false ^^ true) from rfl, h]; rfl
theorem two_left (S : Nat → Bool) (n : Nat) (hn : n ≤ 3300) (h : many S n = 2) : stepsV 0#16 S n ≠ 0#16 := by
  obtain ⟨i, d, hid, hi, hj, hno⟩ := many_two n h
  intro e
  obtain ⟨m, rfl⟩ : ∃ m, n = i + 1 + d + 1 + m := ⟨n - (i + 1 + d + 1), by omega⟩
  have z1 : stepsV 0#16 S i = 0#16 := stepsV_none S i fun t ht => hno t (by omega) (by omega) (by omega)
  have z2 : stepsV 0#16 S (i + 1) = 40961#16 := by simp only [stepsV]; rw [z1, hi]; decide
  have z3 : stepsV 0#16 S (i + 1 + d) = stepsV 40961#16 (fun _ => false) d := by
    rw [stepsV_add, z2]; exact stepsV_congr _ d fun t ht => hno _ (by omega) (by omega) (by omega)
  have z4 : stepsV 0#16 S (i + 1 + d + 1) = stepsV 40961#16 (fun _ => false) (d + 1) ^^^ 40961#16 := by
    have : S (i + 1 + d) = true := by rw [show i + 1 + d = i + (d + 1) from by omega]; exact hj
    show bitV (stepsV 0#16 S (i + 1 + d)) (S (i + 1 + d)) = _
    rw [this, z3, bitV_true]; rfl
  rw [stepsV_add, z4, stepsV_congr (h := fun _ => false) _ m fun t ht => hno _ (by omega) (by omega) (by omega)] at e
  have e0 := stepsV_none (fun _ => false) m (fun _ _ => rfl)
  have e1 := stepsV_inj (e.trans e0.symm)
  have e2 : stepsV 40961#16 (fun _ => false) (d + 1) = 40961#16 := by
    have := congrArg (· ^^^ 40961#16) e1
    simpa [BitVec.xor_assoc] using this
  exact apart_at 3300 40961#16 apart_all d (by omega) e2

/-! WITHIN SIXTEEN -/
theorem shift_out (T : BitVec 16) (g : Nat → Bool) : ∀ n, (∀ i, i < n → T.getLsbD i = g i) → stepsV T g n = T >>> n
  | 0, _ => by simp [stepsV]
  | n + 1, h => by
    simp only [stepsV]
    rw [shift_out T g n (fun i hi => h i (by omega))]
    have : (T >>> n).getLsbD 0 = g n := by rw [BitVec.getLsbD_ushiftRight]; simpa using h n (by omega)
    unfold bitV
    rw [this]; simp [BitVec.shiftRight_add]
theorem word_of (g : Nat → Bool) : ∀ n, n ≤ 16 → ∃ T : BitVec 16, ∀ i, i < 16 → T.getLsbD i = (g i && decide (i < n))
  | 0, _ => ⟨0#16, fun i _ => by simp⟩
  | n + 1, h => by
    obtain ⟨T, hT⟩ := word_of g n (by omega)
    refine ⟨T ||| (if g n then BitVec.twoPow 16 n else 0#16), fun i hi => ?_⟩
    rw [BitVec.getLsbD_or, hT i hi]
    by_cases e : i = n
    · subst e; cases g i <;> simp [BitVec.getLsbD_twoPow]; omega
    · have e2 : decide (i < n + 1) = decide (i < n) := decide_eq_decide.2 (by omega)
      rw [e2]
      have e3 : (if g n then BitVec.twoPow 16 n else 0#16).getLsbD i = false := by
        cases g n
        · simp
        · simp [BitVec.getLsbD_twoPow]; omega
      rw [e3, Bool.or_false]
theorem word_out {T : BitVec 16} {g : Nat → Bool} {n : Nat} (h : ∀ i, i < 16 → T.getLsbD i = (g i && decide (i < n))) : T >>> n = 0#16 := by
  apply BitVec.eq_of_getLsbD_eq; intro i hi
  rw [BitVec.getLsbD_ushiftRight]
  by_cases h1 : n + i < 16
  · rw [h _ h1]; simp
  · rw [BitVec.getLsbD_of_ge _ _ (by omega)]; simp
/-- Bits that all stand within 16: none of them, if nothing is left. -/
theorem near_left (S : Nat → Bool) (k N : Nat) (h1 : ∀ t, t < k → S t = false) (h2 : ∀ t, k + 16 ≤ t → S t = false) (h : stepsV 0#16 S N = 0#16) : ∀ t, t < N → S t = false := by
  by_cases hk : N ≤ k
  · intro t ht; exact h1 t (by omega)
  obtain ⟨m, r, rfl, hm, hr⟩ : ∃ m r, N = k + m + r ∧ m ≤ 16 ∧ (r = 0 ∨ m = 16) := by
    by_cases h16 : N ≤ k + 16
    · exact ⟨N - k, 0, by omega, by omega, .inl rfl⟩
    · exact ⟨16, N - k - 16, by omega, by omega, .inr rfl⟩
  have z1 : stepsV 0#16 S k = 0#16 := stepsV_none S k h1
  rw [stepsV_add, stepsV_congr (h := fun _ => false) _ r (fun t ht => h2 _ (by omega))] at h
  have z2 : stepsV 0#16 S (k + m) = 0#16 := stepsV_inj (h.trans (stepsV_none (fun _ => false) r (fun _ _ => rfl)).symm)
  rw [stepsV_add, z1] at z2
  obtain ⟨T, hT⟩ := word_of (fun i => S (k + i)) m hm
  have z3 : stepsV T (fun i => S (k + i)) m = 0#16 := by
    rw [shift_out _ _ m (fun i hi => by rw [hT _ (by omega)]; simp [hi]), word_out hT]
  have z4 := stepsV_inj (z3.trans z2.symm)
  intro t ht
  by_cases ha : t < k
  · exact h1 t ha
  · by_cases hb : t < k + m
    · have := hT (t - k) (by omega)
      rw [z4] at this
      have e : k + (t - k) = t := by omega
      simp only [e, decide_eq_true (show t - k < m from by omega), Bool.and_true] at this
      rw [← this]; simp
    · exact h2 t (by omega)
end Go.Proofs.Ytebhalehgpigoaa
namespace Go.Proofs.Ytebhalehgpigoaa
open Go.RowKit

theorem nib_low (B : Nat) (hB : B < 256) : bits .and .u8 (B : Int) 15 = ((B % 16 : Nat) : Int) := by
  rw [u8_and _ _ (by omega) (by omega) (by decide) (by decide), Int.toNat_natCast, show (15 : Int).toNat = 15 from rfl]
  congr 1
  exact Nat.and_two_pow_sub_one_eq_mod B 4
theorem halves_xor (B : Nat) (hB : B < 256) : bits .xor .u16 (lowT.getD (B % 16) 0 : Nat) (highT.getD (B / 16) 0 : Nat) = vI (byteV 0#16 (B : Int)) := by
  have h1 := low_lt ⟨B % 16, by omega⟩
  have h2 := high_lt ⟨B / 16, by omega⟩
  simp only at h1 h2
  rw [u16_xor _ _ (by omega) (by omega) (by omega) (by omega), Int.toNat_natCast, Int.toNat_natCast]
  exact halves B hB

theorem with_math (x : BitVec 16) (b : Int) (h0 : 0 ≤ b) (h1 : b < 256) :
    bits .xor .u8 (vI x % (256 : Int)) b = xB (vI x % (256 : Int)) b ∧ bits .xor .u16 (vI x / (256 : Int)) (vI (byteV 0#16 (xB (vI x % (256 : Int)) b))) = vI (byteV x b) := by
  obtain ⟨B, hB, rfl⟩ := byte_nat h0 h1
  have hx := x.isLt
  have l0 := vI_lo x
  have l1 := vI_hi x
  refine ⟨xB_bits _ _ (by omega) (by omega) (by omega) (by omega), ?_⟩
  have e1 : vI x % (256 : Int) = ((x.toNat % 256 : Nat) : Int) := by unfold vI; omega
  have e2 : vI x / (256 : Int) = vI (BitVec.ofNat 16 (x.toNat / 256)) := by unfold vI; rw [BitVec.toNat_ofNat]; omega
  have e3 : xB ((x.toNat % 256 : Nat) : Int) (B : Int) = ((x.toNat % 256 ^^^ B : Nat) : Int) := by unfold xB; rw [Int.toNat_natCast, Int.toNat_natCast]
  rw [e1, e2, e3, vI_xor, byteV_split x B]

theorem start_v : (65535 : Int) = vI 65535#16 := by decide
/-- The sum of bytes. -/
def sumV (f : Nat → Int) (n : Nat) : BitVec 16 := remV 65535#16 f n
end Go.Proofs.Ytebhalehgpigoaa
namespace Go.Proofs.Ytebhalehgpigoaa
open Go.RowKit

theorem lst_two (f : Nat → Int) (n : Nat) (s : Int) : lstG (.int .u8) f n ++ lstG (.int .u8) (lowF s) 2 = lstG (.int .u8) (andTwo f n s) (n + 2) := by
  rw [lstG_append]
  refine List.map_congr_left fun i hi => ?_
  have hi' := List.mem_range.1 hi
  show Value.int .u8 (if i < n then f i else if i - n = 0 then s % 256 else s / 256) = Value.int .u8 (if i < n then f i else if i = n then s % 256 else s / 256)
  by_cases h1 : i < n
  · rw [if_pos h1, if_pos h1]
  · rw [if_neg h1, if_neg h1]
    by_cases h2 : i = n
    · rw [if_pos (by omega), if_pos h2]
    · rw [if_neg (by omega), if_neg h2]

end Go.Proofs.Ytebhalehgpigoaa
namespace Go.Proofs.Ytebhalehgpigoaa
open Go.RowKit

theorem high_t (r : Int) (h0 : 0 ≤ r) (h1 : r < 65536) : IntKind.u16.wrap (r.tdiv 256) % 256 = r / (256 : Int) := by
  rw [Int.tdiv_eq_ediv_of_nonneg h0]
  show (r / 256) % 65536 % 256 = _
  omega
theorem Holds.front {k : IntKind} {w : World} {a : Option Addr} {n m : Nat} {f : Nat → Int} (h : Holds k w a n f) (hm : m ≤ n) : Holds k w a m f := HoldsG.take (mk := Value.int k) h hm
theorem Holds.back {k : IntKind} {w : World} {b off n : Nat} {f : Nat → Int} (h : Holds k w (some ⟨b, off, none⟩) n f) (q : Nat) : Holds k w (some ⟨b, off + q, none⟩) (n - q) (fun i => f (q + i)) := HoldsG.drop (mk := Value.int k) h

/-- Do the bytes end with their sum? -/
def endB (f : Nat → Int) (n : Nat) : Bool := vI (sumV f n) == f (n + 1) * 256 + f n

end Go.Proofs.Ytebhalehgpigoaa
namespace Go.Proofs.Ytebhalehgpigoaa
open Go.RowKit

/-- Joined. -/
def joinV (x y : BitVec 16) (n : Nat) : BitVec 16 := remV (x ^^^ 65535#16) (fun _ => 0) n ^^^ y
theorem xor_start (x : BitVec 16) : bits .xor .u16 (vI x) 65535 = vI (x ^^^ 65535#16) := vI_xor x 65535#16
/-- Two sums are joined. -/
theorem joinV_sum (f g : Nat → Int) (n m : Nat) (hg : ∀ i, i < m → 0 ≤ g i) : joinV (sumV f n) (sumV g m) m = sumV (fun i => if i < n then f i else g (i - n)) (n + m) := by
  unfold joinV sumV
  rw [remV_zeros_xor _ _ _ hg, remV_add]

/-- What the call owns, opened. -/
theorem own_open {w : World} {base n : Nat} {e : TypeId} {v : Value} {xs : List Value} (h : w.ownsRow base e 1 v n xs) (hn : 0 < n) : ∃ g cap, v = .slice (some ⟨g, 0, none⟩) n cap ∧ base ≤ g ∧ n ≤ cap ∧ cap ≤ maxLen := by
  obtain ⟨hl, h2⟩ := h
  rcases h2 with ⟨hv, hx⟩ | ⟨g, cap, cur, hv, hg, hh, h3, h4, _⟩
  · subst hx; simp at hl; omega
  · exact ⟨g, cap, hv, hg, h3, h4⟩
/-- A bit turned. -/
def flipF (f : Nat → Int) (k : Nat) : Nat → Int := fun i => if i = k / 8 then xB (f i) ((2 ^ (k % 8) : Nat) : Int) else f i
theorem flipF_bd (f : Nat → Int) (k n : Nat) (hf : ∀ i, i < n → 0 ≤ f i ∧ f i < 256) : ∀ i, i < n → 0 ≤ flipF f k i ∧ flipF f k i < 256 := by
  intro i hi
  have h2 : 2 ^ (k % 8) ≤ 2 ^ 7 := Nat.pow_le_pow_right (by decide) (by omega)
  unfold flipF; split
  · exact ⟨xB_lo _ _, xB_hi _ _ (hf i hi).2 (by omega)⟩
  · exact hf i hi
theorem flipF_bit (f : Nat → Int) (k i j : Nat) (hj : j < 8) : bB (flipF f k i) j = (bB (f i) j ^^ decide (8 * i + j = k)) := by
  unfold flipF
  by_cases h : i = k / 8
  · rw [if_pos h]
    unfold xB bB
    rw [Int.toNat_natCast, Int.toNat_natCast, Nat.testBit_xor, Nat.testBit_two_pow]
    congr 1
    exact decide_eq_decide.2 (by omega)
  · rw [if_neg h, decide_eq_false (by omega), Bool.xor_false]
end Go.Proofs.Ytebhalehgpigoaa
namespace Go.Proofs.Ytebhalehgpigoaa
open Go.RowKit

/-- Do the n bytes end with their sum? -/
def endsB (f : Nat → Int) (n : Nat) : Bool := decide (2 ≤ n) && endB f (n - 2)
theorem endsB_short {f : Nat → Int} {n : Nat} (h : n < 2) : endsB f n = false := by unfold endsB; rw [decide_eq_false (by omega)]; rfl
theorem endsB_long (f : Nat → Int) (n : Nat) : endsB f (n + 2) = endB f n := by unfold endsB; rw [decide_eq_true (by omega)]; rfl
theorem endsB_two {f : Nat → Int} {n : Nat} (h : endsB f n = true) : 2 ≤ n := by
  rcases Nat.lt_or_ge n 2 with h2 | h2
  · rw [endsB_short h2] at h; cases h
  · exact h2
/-- They end with their sum just if nothing is left of all. -/
theorem endsB_iff (f : Nat → Int) (n : Nat) (hf : ∀ i, i < n + 2 → 0 ≤ f i ∧ f i < 256) : endsB f (n + 2) = true ↔ sumV f (n + 2) = 0#16 := by
  rw [endsB_long]
  unfold endB
  rw [beq_iff_eq]
  exact (told2_iff (sumV f n) (f n) (f (n + 1)) (hf n (by omega)) (hf (n + 1) (by omega))).symm
theorem endsB_andTwo (f : Nat → Int) (n : Nat) (hf : ∀ i, i < n → 0 ≤ f i ∧ f i < 256) : endsB (andTwo f n (vI (sumV f n))) (n + 2) = true :=
  (endsB_iff _ n fun i _ => andTwo_bd f n _ hf (vI_lo _) (vI_hi _) i).2 (remV_andTwo _ f n)
/-- What ends with its sum, with its sum behind what stands ahead. -/
theorem endsB_back {f : Nat → Int} {n : Nat} (hf : ∀ i, i < n + 2 → 0 ≤ f i ∧ f i < 256) (h : endsB f (n + 2) = true) : ∀ i, i < n + 2 → andTwo f n (vI (sumV f n)) i = f i := by
  rw [endsB_long] at h
  have e : vI (sumV f n) = f (n + 1) * 256 + f n := by unfold endB at h; simpa using h
  have b0 := hf n (by omega)
  have b1 := hf (n + 1) (by omega)
  intro i hi
  unfold andTwo
  rw [e]
  by_cases h1 : i < n
  · rw [if_pos h1]
  · rw [if_neg h1]
    by_cases h2 : i = n
    · subst h2; rw [if_pos rfl]; omega
    · rw [if_neg h2, show i = n + 1 from by omega]; omega

theorem wf8 {n : Int} (h : (Lit.int .u8 n).wf = true) : 0 ≤ n ∧ n < 256 := by have := bounds_u8 h; omega
theorem wf16 {n : Int} (h : (Lit.int .u16 n).wf = true) : ∃ x, n = vI x := by have := bounds_u16 h; exact vI_of (by omega) (by omega)
end Go.Proofs.Ytebhalehgpigoaa
