/-
  CONTRACTS: bits.Size, Ones, Flags; bilgeref02.Size, Ones, bit, Same.
-/
import Derived.Test.YtejiafihiielgaaRows
import Derived.Test.YtejiafihiielgaaBools
import Derived.Test.YtejiafihiielgaaBitsMath
import Derived.WalkLawsBesides
import Derived.WalkSpells
import Derived.Deep.QuietTactic
import Derived.BigQuiet
import Derived.RegionTactic
import Derived.Outline
import Derived.Lib.Hide
import Derived.Handy
import Derived.IntWalk
namespace Go.Proofs.Ytejiafihiielgaa
open Go.RowKit

theorem size_any (n : Int) (w : World) (h1 : -9223372036854775808 ≤ n) (h2 : n ≤ 9223372036854775807) :
    Calls Try.prog 57 #[.int .i64 n] w fun e w' => e = .returned (.int .i64 (szI n)) ∧ w = w' := by
  by_cases h : n < 1
  · have e := Lib.hid (show szI n = 0 by unfold szI; rw [if_pos h])
    go_enter Try.func57, Try.ntmps57
    go_wp2
    go_ret
    exact ⟨ret_i e.out.symm, rfl⟩
  · have e := Lib.hid (show szI n = (n - 1) / 8 + 1 by unfold szI; rw [if_neg h])
    have h' : 1 ≤ n := by omega
    clear h
    go_enter Try.func57, Try.ntmps57
    go_wp2
    go_ret
    exact ⟨ret_i e.out.symm, rfl⟩
theorem rsize_any (n : Int) (w : World) (h1 : -9223372036854775808 ≤ n) (h2 : n ≤ 9223372036854775807) :
    Calls Try.prog 45 #[.int .i64 n] w fun e w' => e = .returned (.int .i64 (szI n)) ∧ w = w' := by
  by_cases h : n < 1
  · have e := Lib.hid (show szI n = 0 by unfold szI; rw [if_pos h])
    go_enter Try.func45, Try.ntmps45
    go_wp2
    go_ret
    exact ⟨ret_i e.out.symm, rfl⟩
  · have h' : 1 ≤ n := by omega
    clear h
    by_cases h8 : 0 < n % 8
    · have e := Lib.hid (show szI n = n / 8 + 1 by unfold szI; rw [if_neg (by omega)]; omega)
      go_enter Try.func45, Try.ntmps45
      go_wp2
      go_ret
      exact ⟨ret_i e.out.symm, rfl⟩
    · have e := Lib.hid (show szI n = n / 8 by unfold szI; rw [if_neg (by omega)]; omega)
      have h8' : n % 8 ≤ 0 := by omega
      clear h8
      go_enter Try.func45, Try.ntmps45
      go_wp2
      go_ret
      exact ⟨ret_i e.out.symm, rfl⟩

/-- The byte of the first 8. -/
def flF (f : Nat → Bool) (n : Nat) : Nat := bt (fun k => decide (k < n) && f k) 8
theorem flF_first (f : Nat → Bool) (n : Nat) : flF f n = bt f (min n 8) := by
  unfold flF
  have : ∀ k, k ≤ 8 → bt (fun k => decide (k < n) && f k) k = bt f (min n k) := by
    intro k hk
    induction k with
    | zero => simp [bt]
    | succ k ih =>
      simp only [bt]; rw [ih (by omega)]
      by_cases h : k < n
      · rw [show min n (k + 1) = k + 1 from by omega, show min n k = k from by omega]; simp [bt, h]
      · rw [show min n (k + 1) = n from by omega, show min n k = n from by omega]; simp [h]
  exact this 8 (Nat.le_refl _)
theorem or_pow (x k : Nat) (hx : x < 2 ^ k) (hk : k < 8) : bits .or .u8 (x : Int) ((2 : Int) ^ k) = ((x + 2 ^ k : Nat) : Int) := by
  have h8 : 2 ^ k ≤ 2 ^ 7 := Nat.pow_le_pow_right (by decide) (by omega)
  have e : ((2 : Int) ^ k) = ((2 ^ k : Nat) : Int) := by simp
  rw [e, u8_or _ _ (by omega) (by omega) (by omega) (by omega), Int.toNat_natCast, Int.toNat_natCast]
  have := Nat.two_pow_add_eq_or_of_lt (i := k) (b := x) hx 1
  rw [Nat.mul_one] at this
  rw [Nat.or_comm, ← this, Nat.add_comm]

theorem un_bit (v : Int) (k : Nat) (h0 : 0 ≤ v) : v.toNat.testBit k = ((v / 2 ^ k).tmod 2 == 1) := by
  obtain ⟨V, rfl⟩ := Int.eq_ofNat_of_zero_le h0
  rw [Int.toNat_natCast, Nat.testBit_eq_decide_div_mod_eq]
  have e : ((V : Int) / 2 ^ k) = ((V / 2 ^ k : Nat) : Int) := by simp
  rw [e, Int.tmod_eq_emod_of_nonneg (Int.natCast_nonneg _), Bool.eq_iff_iff]
  simp; omega
theorem bit_any (a : Option Addr) (n c k : Nat) (b : Nat → Int) (w : World) (ha : Holds .u8 w a n b) (hn : n ≤ 1000000) (hk : k < 8 * n) (hb : ∀ i, i < n → 0 ≤ b i ∧ b i < 256) :
    Calls Try.prog 53 #[.slice a n c, .int .i64 k] w fun e w' => e = .returned (.bool (unF b k)) ∧ w = w' := by
  obtain ⟨p, o, rfl, hp, hc⟩ := ha.resolve_left (by omega)
  have c0 := hc (k / 8) (by omega)
  obtain ⟨h0, h1⟩ := hb (k / 8) (by omega)
  have hk' : (k : Int) < 8 * n := by omega
  have hq : (k : Int) / 8 < n := by omega
  clear hc ha hb
  go_enter Try.func53, Try.ntmps53
  go_wp2
  go_ret
  refine ⟨ret_b ?_, rfl⟩
  unfold unF
  rw [un_bit _ _ h0]

theorem same_any (a b : Option Addr) (n m c d : Nat) (f g : Nat → Bool) (w : World) (ha : HoldsG Value.bool w a n f) (hb : HoldsG Value.bool w b m g) (hn : n ≤ 1000000) (hm : m ≤ 1000000) :
    Calls Try.prog 34 #[.slice a n c, .slice b m d] w fun e w' => e = .returned (.bool (eqG n m f g)) ∧ ∃ q, w' = w.drewN q := by
  by_cases hnm : n = m
  · subst hnm
    go_enter Try.func34, Try.ntmps34
    go_wp2
    go_loopw [5] (fun i wr => ∃ j : Nat, j ≤ n ∧ i = .int .i64 j ∧ (∀ t, t < j → f t = g t) ∧ ∃ q, wr = w.drewN q) (fun i _ => n - (intOf i).toNat)
    case atStart => exact ⟨0, Nat.zero_le _, rfl, fun t ht => absurd ht (by omega), 0, rfl⟩
    case round =>
      obtain ⟨j, hj, rfl, hall0, q, rfl⟩ := hrel
      have hall := Lib.hid hall0
      clear hall0
      by_cases hlt : j < n
      · obtain ⟨p, o, rfl, hp, hc⟩ := ha.resolve_left (by omega)
        obtain ⟨p', o', rfl, hp', hc'⟩ := hb.resolve_left (by omega)
        have c1 := hc j hlt
        have c2 := hc' j hlt
        clear hc hc' ha hb
        obtain ⟨x, hx⟩ : ∃ x, x = f j := ⟨_, rfl⟩
        obtain ⟨y, hy⟩ : ∃ y, y = g j := ⟨_, rfl⟩
        rw [← hx] at c1
        rw [← hy] at c2
        have HX := Lib.hid hx
        have HY := Lib.hid hy
        clear hx hy
        by_cases hxy : x = y
        · cases x <;> cases y <;> (first | (cases hxy; done) | skip)
          all_goals
            clear hxy
            go_wp2
            go_quiet (fail)
            go_wp2
            go_roundw
            case rel => exact ⟨j + 1, by omega, by go_num, fun t ht => by rcases Nat.lt_or_ge t j with h | h; exact hall.out t h; obtain rfl : t = j := by omega
                                                                          exact HX.out.symm.trans HY.out, q + _, rfl⟩
            case measure => simp [intOf]; omega
        · have he := Lib.hid (eqG_false (n := n) (m := n) (f := f) (g := g) (.inr ⟨j, hlt, by rw [← HX.out, ← HY.out]; exact hxy⟩))
          cases x <;> cases y <;> (first | (exact absurd rfl hxy; done) | skip)
          all_goals
            clear hxy
            go_wp2
            go_quiet (fail)
            go_wp2
            go_ret
            exact ⟨ret_b he.out.symm, dr2 _ _ _⟩
      · have he := Lib.hid (eqG_true (n := n) (m := n) (f := f) (g := g) rfl (fun i hi => hall.out i (by omega)))
        clear ha hb
        go_wp2
        go_ret
        exact ⟨ret_b he.out.symm, _, rfl⟩
  · have he := Lib.hid (eqG_false (n := n) (m := m) (f := f) (g := g) (.inl hnm))
    clear ha hb
    go_enter Try.func34, Try.ntmps34
    go_wp2
    go_ret
    exact ⟨ret_b he.out.symm, 0, rfl⟩
end Go.Proofs.Ytejiafihiielgaa
