/-
  CONTRACTS of package bits and of bilgeref02 in the forms that the callers take: whatever the number.
-/
import Derived.Test.YtejiafihiielgaaBitsD
namespace Go.Proofs.Ytejiafihiielgaa
open Go.RowKit

def unE (m : Nat) (n : Int) : Int := if n < 0 then 11 else if (m : Int) < szI n then 12 else if szI n < (m : Int) then 13 else 0
def unN (m : Nat) (n : Int) : Nat := if unE m n = 0 then n.toNat else 0
theorem unE_zero {m : Nat} {n : Int} : unE m n = 0 ↔ 0 ≤ n ∧ (m : Int) = szI n := by unfold unE; split <;> (try split) <;> (try split) <;> omega
theorem unE_bd (m : Nat) (n : Int) : 0 ≤ unE m n ∧ unE m n ≤ 13 := by unfold unE; split <;> (try split) <;> (try split) <;> omega
theorem unN_le {m : Nat} {n : Int} : unN m n ≤ 8 * m := by
  unfold unN; split
  · rename_i h; have := unE_zero.1 h; unfold szI at this; split at this <;> omega
  · omega
theorem unpack_x (a : Option Addr) (m c : Nat) (b : Nat → Int) (n : Int) (w : World) (ha : Holds .u8 w a m b) (hm : m ≤ 100000) (hb : ∀ i, i < m → 0 ≤ b i ∧ b i < 256) (h2 : n ≤ 9223372036854775807) :
    Calls Try.prog 51 #[.slice a m c, .int .i64 n] w fun e w' => ∃ x d, e = .returned (.tuple #[.slice x (unN m n) d, .int .i64 (unE m n)]) ∧ unN m n ≤ d ∧ d ≤ maxLen ∧ HoldsG Value.bool w' x (unN m n) (unF b) ∧ Ext w w' := by
  by_cases h0 : n < 0
  · have e : unE m n = 11 := by unfold unE; rw [if_pos h0]
    have e2 : unN m n = 0 := by unfold unN; rw [e]; rfl
    rw [e, e2]
    exact (unpack_neg a m c n w h0).mono fun e w' h => ⟨none, 0, h.1, Nat.le_refl _, Nat.zero_le _, .inl rfl, Ext.of_eq h.2⟩
  · by_cases h1 : (m : Int) < szI n
    · have e : unE m n = 12 := by unfold unE; rw [if_neg h0, if_pos h1]
      have e2 : unN m n = 0 := by unfold unN; rw [e]; rfl
      rw [e, e2]
      exact (unpack_short a m c n w (by omega) h1 h2).mono fun e w' h => ⟨none, 0, h.1, Nat.le_refl _, Nat.zero_le _, .inl rfl, Ext.of_eq h.2⟩
    · by_cases h3 : szI n < (m : Int)
      · have e : unE m n = 13 := by unfold unE; rw [if_neg h0, if_neg h1, if_pos h3]
        have e2 : unN m n = 0 := by unfold unN; rw [e]; rfl
        rw [e, e2]
        exact (unpack_long a m c n w (by omega) h3 h2).mono fun e w' h => ⟨none, 0, h.1, Nat.le_refl _, Nat.zero_le _, .inl rfl, Ext.of_eq h.2⟩
      · have e : unE m n = 0 := by unfold unE; rw [if_neg h0, if_neg h1, if_neg h3]
        obtain ⟨N, rfl⟩ := Int.eq_ofNat_of_zero_le (show 0 ≤ n by omega)
        have e2 : unN m N = N := by unfold unN; rw [if_pos e]; omega
        have e3 : m = szN N := by have := szI_nat N; omega
        rw [e, e2]
        exact (unpack_ok a m c N b w ha e3 (by rw [e3] at hm; unfold szN at hm; omega) hb).mono fun e w' ⟨x, d, h⟩ => ⟨x, d, h⟩
theorem runpack_x (a : Option Addr) (m c : Nat) (b : Nat → Int) (n : Int) (w : World) (ha : Holds .u8 w a m b) (hm : m ≤ 100000) (hb : ∀ i, i < m → 0 ≤ b i ∧ b i < 256) (h2 : n ≤ 9223372036854775807) :
    Calls Try.prog 37 #[.slice a m c, .int .i64 n] w fun e w' => ∃ x d, e = .returned (.tuple #[.slice x (unN m n) d, .int .i64 (unE m n)]) ∧ unN m n ≤ d ∧ d ≤ maxLen ∧ HoldsG Value.bool w' x (unN m n) (unF b) ∧ Ext w w' := by
  by_cases h0 : n < 0
  · have e : unE m n = 11 := by unfold unE; rw [if_pos h0]
    have e2 : unN m n = 0 := by unfold unN; rw [e]; rfl
    rw [e, e2]
    exact (runpack_neg a m c n w h0).mono fun e w' h => ⟨none, 0, h.1, Nat.le_refl _, Nat.zero_le _, .inl rfl, Ext.of_eq h.2⟩
  · by_cases h1 : (m : Int) < szI n
    · have e : unE m n = 12 := by unfold unE; rw [if_neg h0, if_pos h1]
      have e2 : unN m n = 0 := by unfold unN; rw [e]; rfl
      rw [e, e2]
      exact (runpack_short a m c n w (by omega) h1 h2).mono fun e w' h => ⟨none, 0, h.1, Nat.le_refl _, Nat.zero_le _, .inl rfl, Ext.of_eq h.2⟩
    · by_cases h3 : szI n < (m : Int)
      · have e : unE m n = 13 := by unfold unE; rw [if_neg h0, if_neg h1, if_pos h3]
        have e2 : unN m n = 0 := by unfold unN; rw [e]; rfl
        rw [e, e2]
        exact (runpack_long a m c n w (by omega) h3 h2).mono fun e w' h => ⟨none, 0, h.1, Nat.le_refl _, Nat.zero_le _, .inl rfl, Ext.of_eq h.2⟩
      · have e : unE m n = 0 := by unfold unE; rw [if_neg h0, if_neg h1, if_neg h3]
        obtain ⟨N, rfl⟩ := Int.eq_ofNat_of_zero_le (show 0 ≤ n by omega)
        have e2 : unN m N = N := by unfold unN; rw [if_pos e]; omega
        have e3 : m = szN N := by have := szI_nat N; omega
        rw [e, e2]
        exact (runpack_ok a m c N b w ha e3 (by rw [e3] at hm; unfold szN at hm; omega) hb).mono fun e w' ⟨x, d, h⟩ => ⟨x, d, h⟩
/-- Unpack of as many bytes as n bits take. -/
theorem unpack_at (a : Option Addr) (m c : Nat) (b : Nat → Int) (n : Int) (N : Nat) (hN : n = N) (w : World) (ha : Holds .u8 w a m b) (hm : m = szN N) (hn : N ≤ 800000) (hb : ∀ i, i < m → 0 ≤ b i ∧ b i < 256) :
    Calls Try.prog 51 #[.slice a m c, .int .i64 n] w fun e w' => ∃ x d, e = .returned (.tuple #[.slice x N d, .int .i64 0]) ∧ N ≤ d ∧ d ≤ maxLen ∧ HoldsG Value.bool w' x N (unF b) ∧ Ext w w' := by
  subst hN
  exact (unpack_ok a m c N b w ha hm (by omega) hb).mono fun e w' ⟨x, d, h⟩ => ⟨x, d, h⟩
theorem same_eq (a b : Option Addr) (n m c d : Nat) (f g : Nat → Bool) (w : World) (ha : HoldsG Value.bool w a n f) (hb : HoldsG Value.bool w b m g) (hn : n ≤ 1000000) (e : n = m ∧ ∀ i, i < n → f i = g i) :
    Calls Try.prog 34 #[.slice a n c, .slice b m d] w fun e w' => e = .returned (.bool true) ∧ Ext w w' := by
  obtain ⟨rfl, e⟩ := e
  exact (same_any a b n n c d f g w ha hb hn hn).mono fun _ _ h => ⟨by rw [h.1, eqG_true rfl e], Ext.of_drewN h.2⟩
theorem flags_v (a : Option Addr) (n c : Nat) (f : Nat → Bool) (v : Int) (w : World) (ha : HoldsG Value.bool w a n f) (hn : n ≤ 9223372036854775807) (hc : n ≤ c) (hm : c ≤ maxLen) (hv : (flF f n : Int) = v) :
    Calls Try.prog 58 #[.slice a n c] w fun e w' => e = .returned (.int .u8 v) ∧ w = w' := by
  subst hv; exact flags_any a n c f w ha hn hc hm
theorem size_v (n v : Int) (w : World) (h1 : -9223372036854775808 ≤ n) (h2 : n ≤ 9223372036854775807) (hv : szI n = v) :
    Calls Try.prog 57 #[.int .i64 n] w fun e w' => e = .returned (.int .i64 v) ∧ w = w' := by
  subst hv; exact size_any n w h1 h2
end Go.Proofs.Ytejiafihiielgaa
