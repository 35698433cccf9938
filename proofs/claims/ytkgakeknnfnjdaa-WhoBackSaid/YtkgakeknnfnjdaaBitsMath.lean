/-
  PLAIN MATHEMATICS: bits in bytes.
-/
import Derived.WalkKit
namespace Go.Proofs.Ytkgakeknnfnjdaa
open Go.RowKit

/-- How many bytes so many bits take. -/
def szN (n : Nat) : Nat := (n + 7) / 8
def szI (n : Int) : Int := if n < 1 then 0 else (n - 1) / 8 + 1
theorem szI_nat (n : Nat) : szI n = szN n := by unfold szI szN; split <;> omega
theorem szI_nonneg (n : Int) : 0 ≤ szI n := by unfold szI; split <;> omega
/-- The bits below k, as a number. -/
def bt (g : Nat → Bool) : Nat → Nat
  | 0 => 0
  | k + 1 => bt g k + (if g k then 2 ^ k else 0)
theorem bt_lt (g : Nat → Bool) (k : Nat) : bt g k < 2 ^ k := by
  induction k with
  | zero => simp [bt]
  | succ k ih => simp only [bt]; rw [Nat.pow_succ]; split <;> omega
theorem bt_congr {g h : Nat → Bool} (k : Nat) (e : ∀ i, i < k → g i = h i) : bt g k = bt h k := by
  induction k with
  | zero => rfl
  | succ k ih => simp only [bt]; rw [ih (fun i hi => e i (by omega)), e k (by omega)]
theorem bt_bit (g : Nat → Bool) (k i : Nat) : (bt g k).testBit i = (decide (i < k) && g i) := by
  induction k with
  | zero => simp [bt]
  | succ k ih =>
    simp only [bt]
    have hl := bt_lt g k
    by_cases hg : g k
    · rw [if_pos hg, Nat.add_comm]
      rcases Nat.lt_trichotomy i k with h | h | h
      · rw [Nat.testBit_two_pow_add_gt h, ih]; simp [h, show i < k + 1 from by omega]
      · subst h; rw [Nat.testBit_two_pow_add_eq, Nat.testBit_lt_two_pow hl]; simp [hg]
      · rw [Nat.testBit_lt_two_pow]
        · simp; omega
        · have : 2 ^ (k + 1) ≤ 2 ^ i := Nat.pow_le_pow_right (by decide) (by omega)
          rw [Nat.pow_succ] at this; omega
    · rw [if_neg hg, Nat.add_zero, ih]
      rcases Nat.lt_trichotomy i k with h | h | h
      · simp [h, show i < k + 1 from by omega]
      · subst h; simp; simpa using hg
      · simp [show ¬ i < k from by omega, show ¬ i < k + 1 from by omega]
theorem bt_of_bits (v k : Nat) (hv : v < 2 ^ k) : bt (fun i => v.testBit i) k = v := by
  apply Nat.eq_of_testBit_eq
  intro i
  rw [bt_bit]
  by_cases h : i < k
  · simp [h]
  · simp [h]
    rw [Nat.testBit_lt_two_pow]
    exact Nat.lt_of_lt_of_le hv (Nat.pow_le_pow_right (by decide) (by omega))
/-- The byte number j of bits. -/
def pkF (f : Nat → Bool) (n : Nat) : Nat → Int := fun j => (bt (fun k => decide (8 * j + k < n) && f (8 * j + k)) 8 : Nat)
def upd' (f : Nat → Bool) (k : Nat) : Nat → Bool := fun i => if i = k then true else f i
theorem pkF_bd (f : Nat → Bool) (n j : Nat) : 0 ≤ pkF f n j ∧ pkF f n j < 256 := by
  have := bt_lt (fun k => decide (8 * j + k < n) && f (8 * j + k)) 8
  unfold pkF; omega
theorem bt_more (g h : Nat → Bool) (i K : Nat) (hi : i < K) (hg : g i = false) (hh : h i = true) (e : ∀ k, k < K → k ≠ i → h k = g k) : bt h K = bt g K + 2 ^ i := by
  induction K with
  | zero => omega
  | succ K ih =>
    simp only [bt]
    by_cases hK : i = K
    · subst hK
      rw [bt_congr (g := h) (h := g) i (fun k hk => e k (by omega) (by omega)), hg, hh]; simp
    · rw [ih (by omega) (fun k hk hne => e k (by omega) hne), e K (by omega) (by omega)]; omega
theorem pkF_zero (f : Nat → Bool) (j : Nat) : pkF f 0 j = 0 := by
  unfold pkF
  rw [bt_congr (h := fun _ => false) 8 (fun i _ => by simp)]
  decide
theorem pkF_no (f : Nat → Bool) (k j : Nat) (h : f k = false) : pkF f (k + 1) j = pkF f k j := by
  unfold pkF
  congr 1
  refine bt_congr 8 fun i _ => ?_
  by_cases e : 8 * j + i = k
  · rw [e, h]; simp
  · rw [decide_eq_decide.2 (show 8 * j + i < k + 1 ↔ 8 * j + i < k by omega)]
theorem pkF_far (f : Nat → Bool) (k j : Nat) (h : j ≠ k / 8) : pkF f (k + 1) j = pkF f k j := by
  unfold pkF
  congr 1
  refine bt_congr 8 fun i hi => ?_
  rw [decide_eq_decide.2 (show 8 * j + i < k + 1 ↔ 8 * j + i < k by omega)]
theorem pkF_yes (f : Nat → Bool) (k : Nat) (h : f k = true) : pkF f (k + 1) (k / 8) = pkF f k (k / 8) + 2 ^ (k % 8) := by
  unfold pkF
  rw [bt_more (fun i => decide (8 * (k / 8) + i < k) && f (8 * (k / 8) + i)) (fun i => decide (8 * (k / 8) + i < k + 1) && f (8 * (k / 8) + i)) (k % 8) 8 (by omega) ?_ ?_ ?_]
  · simp
  · simp; omega
  · rw [show 8 * (k / 8) + k % 8 = k from by omega, h]; simp
  · intro i _ hne
    rw [decide_eq_decide.2 (show 8 * (k / 8) + i < k + 1 ↔ 8 * (k / 8) + i < k by omega)]
theorem pkF_room (f : Nat → Bool) (k : Nat) : pkF f k (k / 8) + 2 ^ (k % 8) < 256 := by
  have h := pkF_bd (upd' f k) (k + 1) (k / 8)
  rw [pkF_yes _ _ (by simp [upd'])] at h
  have e : pkF (upd' f k) k (k / 8) = pkF f k (k / 8) := by
    unfold pkF
    congr 1
    refine bt_congr 8 fun i _ => ?_
    by_cases e : 8 * (k / 8) + i = k
    · rw [e]; simp
    · simp [upd', e]
  rw [e] at h; omega
/-- The bit number k of bytes. -/
def unF (b : Nat → Int) : Nat → Bool := fun k => (b (k / 8)).toNat.testBit (k % 8)
theorem un_pk (f : Nat → Bool) (n k : Nat) (hk : k < n) : unF (pkF f n) k = f k := by
  unfold unF pkF
  rw [Int.toNat_natCast, bt_bit]
  have h1 : 8 * (k / 8) + k % 8 = k := by omega
  have h2 : k % 8 < 8 := by omega
  simp [h1, h2, hk]
theorem un_pk' (f : Nat → Bool) (n k : Nat) : unF (pkF f n) k = (decide (k < n) && f k) := by
  unfold unF pkF
  rw [Int.toNat_natCast, bt_bit]
  have h1 : 8 * (k / 8) + k % 8 = k := by omega
  have h2 : k % 8 < 8 := by omega
  simp [h1, h2]
/-- Is nothing set behind the first n? -/
def tdB (b : Nat → Int) (m : Nat) (n : Int) : Bool := decide (0 ≤ n) && decide ((m : Int) = szI n) && (List.range (8 * m)).all (fun k => decide (k < n.toNat) || !unF b k)
theorem tdB_iff {b : Nat → Int} {m : Nat} {n : Int} : tdB b m n = true ↔ 0 ≤ n ∧ (m : Int) = szI n ∧ ∀ k, n.toNat ≤ k → k < 8 * m → unF b k = false := by
  simp only [tdB, Bool.and_eq_true, decide_eq_true_eq, List.all_eq_true, List.mem_range, Bool.or_eq_true, Bool.not_eq_true']
  constructor
  · rintro ⟨⟨h1, h2⟩, h3⟩
    refine ⟨h1, h2, fun k hk hk2 => ?_⟩
    rcases h3 k hk2 with h | h
    · omega
    · exact h
  · rintro ⟨h1, h2, h3⟩
    refine ⟨⟨h1, h2⟩, fun k hk => ?_⟩
    by_cases h : k < n.toNat
    · exact .inl h
    · exact .inr (h3 k (by omega) hk)
/-- What is tidy, unpacked and packed, is those bytes; and only what is. -/
theorem pk_un (b : Nat → Int) (m n : Nat) (hb : ∀ i, i < m → 0 ≤ b i ∧ b i < 256) (hm : m = szN n) (ht : ∀ k, n ≤ k → k < 8 * m → unF b k = false) : ∀ j, j < m → pkF (unF b) n j = b j := by
  intro j hj
  obtain ⟨h0, h1⟩ := hb j hj
  unfold pkF
  have e : bt (fun k => decide (8 * j + k < n) && unF b (8 * j + k)) 8 = bt (fun i => (b j).toNat.testBit i) 8 := bt_congr 8 fun i hi => by
    have e1 : unF b (8 * j + i) = (b j).toNat.testBit i := by
      unfold unF
      rw [show (8 * j + i) / 8 = j from by omega, show (8 * j + i) % 8 = i from by omega]
    by_cases hk : 8 * j + i < n
    · simp [hk, e1]
    · have := ht (8 * j + i) (by omega) (by omega)
      rw [e1] at this
      simp [hk, this]
  rw [e, bt_of_bits _ _ (by omega)]
  omega
theorem pk_un_only (b : Nat → Int) (m n : Nat) (h : ∀ j, j < m → pkF (unF b) n j = b j) : ∀ k, n ≤ k → k < 8 * m → unF b k = false := by
  intro k hk hk2
  have h1 := h (k / 8) (by omega)
  have : unF (pkF (unF b) n) k = unF b k := by unfold unF; rw [show pkF (fun k => (b (k / 8)).toNat.testBit (k % 8)) n (k / 8) = b (k / 8) from h1]
  rw [un_pk'] at this
  rw [← this]; simp; omega
/-- How many of the first n are set. -/
def cnt (f : Nat → Bool) : Nat → Nat
  | 0 => 0
  | k + 1 => cnt f k + (if f k then 1 else 0)
theorem cnt_le (f : Nat → Bool) (n : Nat) : cnt f n ≤ n := by
  induction n with
  | zero => exact Nat.le_refl _
  | succ n ih => simp only [cnt]; split <;> omega
theorem cnt_congr {f g : Nat → Bool} (n : Nat) (e : ∀ i, i < n → f i = g i) : cnt f n = cnt g n := by
  induction n with
  | zero => rfl
  | succ n ih => simp only [cnt]; rw [ih (fun i hi => e i (by omega)), e n (by omega)]
theorem cnt_append (f g : Nat → Bool) (n m : Nat) : cnt (fun i => if i < n then f i else g (i - n)) (n + m) = cnt f n + cnt g m := by
  induction m with
  | zero => rw [Nat.add_zero, cnt_congr n (fun i hi => if_pos hi)]; rfl
  | succ m ih => 
    have e : (if n + m < n then f (n + m) else g (n + m - n)) = g m := by rw [if_neg (by omega), show n + m - n = m from by omega]
    rw [← Nat.add_assoc]; simp only [cnt, ih, e]; omega
end Go.Proofs.Ytkgakeknnfnjdaa
