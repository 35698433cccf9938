/-
  CONTRACTS: bits.Unpack.
  CONTRACTS of package bits and of bilgeref02 in the forms that the callers take: whatever the number.
-/
import Derived.Test.YtlafnobjfajamaaGreatPk11
import Derived.Deep.LoopGhost
import Derived.WalkMore
namespace Go.Proofs.YtlafnobjfajamaaGreat
open Go.RowKit

theorem unpack_neg (a : Option Addr) (m c : Nat) (n : Int) (w : World) (h0 : n < 0) :
    Calls Tryz.prog 121 #[.slice a m c, .int .i64 n] w fun e w' => e = .returned (.tuple #[.slice none 0 0, .int .i64 11]) ∧ w = w' := by
  go_enter Tryz.func121, Tryz.ntmps121
  go_wp2_with fail
  iterate 3 (try go_step3; go_wp2_with fail)
  try rw [Exit.noGoto_ret]
  go_ret2
  exact ⟨rfl, rfl⟩
theorem unpack_short (a : Option Addr) (m c : Nat) (n : Int) (w : World) (h0 : 0 ≤ n) (h1 : (m : Int) < szI n) (h2 : n ≤ 9223372036854775807) :
    Calls Tryz.prog 121 #[.slice a m c, .int .i64 n] w fun e w' => e = .returned (.tuple #[.slice none 0 0, .int .i64 12]) ∧ w = w' := by
  have h3 := size_any n w (by omega) h2
  obtain ⟨s, hs⟩ : ∃ s, s = szI n := ⟨_, rfl⟩
  rw [← hs] at h1 h3
  clear hs
  have H3 := Lib.hid h3
  clear h3
  go_enter Tryz.func121, Tryz.ntmps121
  go_wp2_with fail
  iterate 3 (try go_step3; go_wp2_with fail)
  refine H3.out.mono ?_; rintro e w' ⟨rfl, rfl⟩
  go_wp2_with fail
  try rw [Exit.noGoto_ret]
  go_ret2
  exact ⟨rfl, rfl⟩
theorem unpack_long (a : Option Addr) (m c : Nat) (n : Int) (w : World) (h0 : 0 ≤ n) (h1 : szI n < (m : Int)) (h2 : n ≤ 9223372036854775807) :
    Calls Tryz.prog 121 #[.slice a m c, .int .i64 n] w fun e w' => e = .returned (.tuple #[.slice none 0 0, .int .i64 13]) ∧ w = w' := by
  have h3 := size_any n w (by omega) h2
  obtain ⟨s, hs⟩ : ∃ s, s = szI n := ⟨_, rfl⟩
  rw [← hs] at h1 h3
  clear hs
  have H3 := Lib.hid h3
  clear h3
  go_enter Tryz.func121, Tryz.ntmps121
  go_wp2_with fail
  iterate 3 (try go_step3; go_wp2_with fail)
  refine H3.out.mono ?_; rintro e w' ⟨rfl, rfl⟩
  go_wp2_with fail
  refine H3.out.mono ?_; rintro e w' ⟨rfl, rfl⟩
  go_wp2_with fail
  try rw [Exit.noGoto_ret]
  go_ret2
  exact ⟨rfl, rfl⟩

set_option maxHeartbeats 800000 in
theorem unpack_ok (a : Option Addr) (m c n : Nat) (b : Nat → Int) (w : World) (ha : Holds .u8 w a m b) (hm : m = szN n) (hn : n ≤ 1000000) (hb : ∀ i, i < m → 0 ≤ b i ∧ b i < 256) :
    Calls Tryz.prog 121 #[.slice a m c, .int .i64 n] w fun e w' => ∃ x d, e = .returned (.tuple #[.slice x n d, .int .i64 0]) ∧ n ≤ d ∧ d ≤ maxLen ∧ HoldsG Value.bool w' x n (unF b) ∧ Ext w w' := by
  obtain ⟨i0, hi0, hz0, hz1, hz2⟩ := info_parts Tryz.infoB
  have hmn : n ≤ 8 * m ∧ 8 * m ≤ n + 7 := by rw [hm]; unfold szN; omega
  have hsz : szI n = (m : Int) := by rw [hm]; exact szI_nat n
  have hmb : m ≤ 1000000 := by omega
  have h3 := fun w => size_any n w (by omega) (by omega)
  rw [hsz] at h3
  have H3 := Lib.hid h3
  have hn0 : decide ((n : Int) < 0) = false := by simp
  clear h3 hsz hm
  go_enter Tryz.func121, Tryz.ntmps121
  go_wp2_with fail
  iterate 3 (try go_step3; go_wp2_with fail)
  refine (H3.out _).mono ?_; rintro e w' ⟨rfl, rfl⟩
  go_wp2_with fail
  refine (H3.out _).mono ?_; rintro e w' ⟨rfl, rfl⟩
  go_wp2_with (at_make; refine wpList_make_full _ rfl _ _ 26 rfl w.heap.size 4 i0 (.bool false) 1 Tryz.underlying26 hi0 hz0 hz1 .i64 .i64 n n n rfl rfl rfl rfl (by rw [hz2]; omega) (by unfold maxLen; omega) (Nat.le_refl _) ?_; intro w1 hown1 hgrow1)
  have hb1 : Below w.heap.size w w1 := (Below.refl _ _).grown hgrow1 (Nat.le_refl _) (fun k hk => by cases hk)
  have hr1 : Row Value.bool 4 w1 w.heap.size n (fun _ => false) := Row.made hown1
  obtain ⟨B, hB⟩ : ∃ B, B = w.heap.size := ⟨_, rfl⟩
  rw [← hB] at hr1 hb1 ⊢
  have HB := Lib.hid hB
  clear hB hown1 hgrow1 H3
  iterate 3 (try go_step3; go_wp2_with fail)
  go_loopg [29] m (fun g i wr => ∃ k : Nat, k + g = m ∧ i = .int .i64 k ∧ Row Value.bool 4 wr B n (fun t => decide (t < 8 * k) && unF b t) ∧ Below B w wr)
  case atStart => exact ⟨0, by omega, rfl, hr1.congr (fun t _ => by simp), hb1⟩
  case round =>
    obtain ⟨k, hk, rfl, hr, hbl⟩ := hrel
    clear hr1 hb1
    cases gk with
    | zero =>
      have hkz : ¬ ((k : Int) < m) := by omega
      clear ha hb
      go_wp2_with fail
      try rw [Exit.noGoto_ret]
      go_ret2
      exact ⟨_, _, rfl, Nat.le_refl _, by unfold maxLen; omega, (hr.congr (fun t ht => by simp; omega)).holds, by rw [Ext, ← HB.out]; exact hbl⟩
    | succ g =>
      have hkz : (k : Int) < m := by omega
      obtain ⟨p, o, rfl, hp, hce⟩ := ha.resolve_left (by omega)
      have hpB : p < B := by rw [HB.out]; exact hp
      have c0 := (hbl.cell (p := ⟨p, o + k, none⟩) hpB).trans (hce k (by omega))
      obtain ⟨b0, b1⟩ := hb k (by omega)
      obtain ⟨v, hv⟩ := Int.eq_ofNat_of_zero_le b0
      rw [hv] at c0 b1
      have hun0 : ∀ j, j < 8 → unF b (8 * k + j) = v.testBit j := fun j hj => by
        unfold unF; rw [show (8 * k + j) / 8 = k from by omega, show (8 * k + j) % 8 = j from by omega, hv, Int.toNat_natCast]
      have hun := Lib.hid hun0
      clear hun0 hv b0 hce ha hb
      obtain ⟨wo, rfl⟩ : ∃ wo : World, wo = wr := ⟨_, rfl⟩
      go_wp2_with fail
      go_loopg [8, 9] (n - 8 * k) (fun h r i wr => ∃ q x : Nat, q + h = n ∧ 8 * k ≤ q ∧ q ≤ 8 * k + 8 ∧ Hid (x = v / 2 ^ (q - 8 * k)) ∧ r = .int .u8 (x : Int) ∧ i = .int .i64 q ∧ Row Value.bool 4 wr B n (fun t => decide (t < q) && unF b t) ∧ Below B w wr)
      case atStart => exact ⟨8 * k, v, by omega, by omega, by omega, Lib.hid (by simp), rfl, by go_num, hr, hbl⟩
      case round =>
        clear hr hbl
        obtain ⟨q, x, hqh, hq0, hq1, HX, rfl, rfl, hr, hbl⟩ := hrel
        have hxv : x ≤ v := by rw [HX.out]; exact Nat.div_le_self _ _
        cases gk with
        | zero =>
          have e2 : ¬ (q : Int) < n := by omega
          clear hn0
          go_wp2_with fail
          go_roundg g
          case rel => exact ⟨k + 1, by omega, by go_num, hr.congr (fun t ht => by rw [decide_eq_decide.2 (show t < q ↔ t < 8 * (k + 1) by omega)]), hbl⟩
          case measure => omega
        | succ h =>
          have e2 : (q : Int) < n := by omega
          by_cases hx0 : x = 0
          · subst hx0
            go_wp2_with fail
            go_roundg g
            case rel =>
              refine ⟨k + 1, by omega, by go_num, hr.congr (fun t ht => ?_), hbl⟩
              by_cases h1 : t < q
              · rw [decide_eq_true h1, decide_eq_true (show t < 8 * (k + 1) by omega)]
              · by_cases h2 : t < 8 * (k + 1)
                · have h3 : unF b t = false := by
                    have := hun.out (t - 8 * k) (by omega)
                    rw [show 8 * k + (t - 8 * k) = t from by omega] at this
                    rw [this, show t - 8 * k = t - q + (q - 8 * k) from by omega, ← Nat.testBit_div_two_pow, ← HX.out, Nat.zero_testBit]
                  rw [h3]; simp
                · simp [h1, h2]
            case measure => omega
          · have hj : q < 8 * k + 8 := by
              rcases Nat.lt_or_ge q (8 * k + 8) with h | h
              · exact h
              · exact absurd (by rw [HX.out, show q - 8 * k = 8 from by omega]; omega) hx0
            have c1 := hr.cell q (by omega)
            have f1 := hr.frozen q
            have ex : ((x : Int) == 0) = false := by simp; exact hx0
            have ea : bits .and .u8 (x : Int) 1 = (x : Int) % 2 := by
              rw [u8_and _ _ (by omega) (by omega) (by omega) (by omega), Int.toNat_natCast, show (1 : Int).toNat = 1 from rfl, Nat.and_one_is_mod]; simp
            have hbit : (x : Int) % 2 = 1 ↔ unF b q = true := by
              have := hun.out (q - 8 * k) (by omega)
              rw [show 8 * k + (q - 8 * k) = q from by omega] at this
              rw [this, ← Nat.zero_add (q - 8 * k), ← Nat.testBit_div_two_pow, ← HX.out, Nat.testBit_zero]
              simp; omega
            have HBIT := Lib.hid hbit
            have hset := hr.set q ((x : Int) % 2 != 0)
            have hx256 : (x : Int) < 256 := by omega
            have hnext : Hid (x / 2 = v / 2 ^ (q + 1 - 8 * k)) := Lib.hid (by rw [HX.out, Nat.div_div_eq_div_mul, ← Nat.pow_succ, show (q - 8 * k).succ = q + 1 - 8 * k from by omega])
            clear hx0 hbit hxv
            go_wp2_with fail
            go_roundg h
            case rel =>
              refine ⟨q + 1, x / 2, by omega, by omega, by omega, hnext, by go_num, by go_num, hset.congr (fun t ht => ?_), hbl.setCell (Nat.le_refl _) _⟩
              by_cases e : t = q
              · subst e
                rw [upd_same, decide_eq_true (show t < t + 1 by omega), Bool.true_and, Bool.eq_iff_iff, ← HBIT.out, bne_iff_ne]
                omega
              · rw [upd_other _ _ _ _ e, decide_eq_decide.2 (show t < q ↔ t < q + 1 by omega)]
            case measure => omega

end Go.Proofs.YtlafnobjfajamaaGreat
namespace Go.Proofs.YtlafnobjfajamaaGreat
open Go.RowKit

def unE (m : Nat) (n : Int) : Int := if n < 0 then 11 else if (m : Int) < szI n then 12 else if szI n < (m : Int) then 13 else 0
def unN (m : Nat) (n : Int) : Nat := if unE m n = 0 then n.toNat else 0
theorem unE_zero {m : Nat} {n : Int} : unE m n = 0 ↔ 0 ≤ n ∧ (m : Int) = szI n := by unfold unE; split <;> (try split) <;> (try split) <;> omega
theorem unN_le {m : Nat} {n : Int} : unN m n ≤ 8 * m := by
  unfold unN; split
  · rename_i h; have := unE_zero.1 h; unfold szI at this; split at this <;> omega
  · omega
theorem unpack_x (a : Option Addr) (m c : Nat) (b : Nat → Int) (n : Int) (w : World) (ha : Holds .u8 w a m b) (hm : m ≤ 100000) (hb : ∀ i, i < m → 0 ≤ b i ∧ b i < 256) (h2 : n ≤ 9223372036854775807) :
    Calls Tryz.prog 121 #[.slice a m c, .int .i64 n] w fun e w' => ∃ x d, e = .returned (.tuple #[.slice x (unN m n) d, .int .i64 (unE m n)]) ∧ unN m n ≤ d ∧ d ≤ maxLen ∧ HoldsG Value.bool w' x (unN m n) (unF b) ∧ Ext w w' := by
  by_cases h0 : n < 0
  · have e : unE m n = 11 := by unfold unE; rw [if_pos h0]
    have e2 : unN m n = 0 := by unfold unN; rw [e]; rfl
    rw [e, e2]
    exact (unpack_neg a m c n w h0).mono fun e w' h => ⟨none, 0, h.1, Nat.le_refl _, Nat.zero_le _, .inl rfl, Ext.of_eq h.2⟩
  · by_cases h1 : (m : Int) < szI n
    · have e : unE m n = 12 := by unfold unE; rw [if_neg h0, if_pos h1]
      have e2 : unN m n = 0 := by unfold unN; rw [e]; rfl
      rw [e, e2]
      exact (unpack_short a m c n w (by omega) h1 h2).mono fun e w' h => ⟨none, 0, h.1, Nat.le_refl _, Nat.zero_le _, .inl rfl, Ext.of_eq h.2⟩
    · by_cases h3 : szI n < (m : Int)
      · have e : unE m n = 13 := by unfold unE; rw [if_neg h0, if_neg h1, if_pos h3]
        have e2 : unN m n = 0 := by unfold unN; rw [e]; rfl
        rw [e, e2]
        exact (unpack_long a m c n w (by omega) h3 h2).mono fun e w' h => ⟨none, 0, h.1, Nat.le_refl _, Nat.zero_le _, .inl rfl, Ext.of_eq h.2⟩
      · have e : unE m n = 0 := by unfold unE; rw [if_neg h0, if_neg h1, if_neg h3]
        obtain ⟨N, rfl⟩ := Int.eq_ofNat_of_zero_le (show 0 ≤ n by omega)
        have e2 : unN m N = N := by unfold unN; rw [if_pos e]; omega
        have e3 : m = szN N := by have := szI_nat N; omega
        rw [e, e2]
        exact (unpack_ok a m c N b w ha e3 (by rw [e3] at hm; unfold szN at hm; omega) hb).mono fun e w' ⟨x, d, h⟩ => ⟨x, d, h⟩
theorem same_eq (a b : Option Addr) (n m c d : Nat) (f g : Nat → Bool) (w : World) (ha : HoldsG Value.bool w a n f) (hb : HoldsG Value.bool w b m g) (hn : n ≤ 1000000) (e : n = m ∧ ∀ i, i < n → f i = g i) :
    Calls Tryz.prog 28 #[.slice a n c, .slice b m d] w fun e w' => e = .returned (.bool true) ∧ Ext w w' := by
  obtain ⟨rfl, e⟩ := e
  exact (same_any a b n n c d f g w ha hb hn hn).mono fun _ _ h => ⟨by rw [h.1, eqG_true rfl e], Ext.of_drewN h.2⟩
end Go.Proofs.YtlafnobjfajamaaGreat
