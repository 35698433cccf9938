/-
  CONTRACTS: bits.Size, Ones, Flags; bilgeref02.Size, Ones, bit, Same.
  CONTRACTS: bits.Flags, Pack; bilgeref02.Pack.
-/
import Derived.Test.YtlafnobjfajamaaGreatRows
import Derived.Test.YtlafnobjfajamaaGreatPk1
import Derived.Test.YtlafnobjfajamaaGreatPk9
import Derived.WalkLawsBesides
import Derived.WalkSpells
import Derived.Deep.QuietTactic
import Derived.BigQuiet
import Derived.RegionTactic
import Derived.Outline
import Derived.Lib.Hide
import Derived.Handy
import Derived.IntWalk
namespace Go.Proofs.YtlafnobjfajamaaGreat
open Go.RowKit

theorem size_any (n : Int) (w : World) (h1 : -9223372036854775808 ≤ n) (h2 : n ≤ 9223372036854775807) :
    Calls Tryz.prog 141 #[.int .i64 n] w fun e w' => e = .returned (.int .i64 (szI n)) ∧ w = w' := by
  by_cases h : n < 1
  · have e := Lib.hid (show szI n = 0 by unfold szI; rw [if_pos h])
    go_enter Tryz.func141, Tryz.ntmps141
    go_wp2
    go_ret
    exact ⟨ret_i e.out.symm, rfl⟩
  · have e := Lib.hid (show szI n = (n - 1) / 8 + 1 by unfold szI; rw [if_neg h])
    have h' : 1 ≤ n := by omega
    clear h
    go_enter Tryz.func141, Tryz.ntmps141
    go_wp2
    go_ret
    exact ⟨ret_i e.out.symm, rfl⟩
/-- The byte of the first 8. -/
def flF (f : Nat → Bool) (n : Nat) : Nat := bt (fun k => decide (k < n) && f k) 8
theorem flF_first (f : Nat → Bool) (n : Nat) : flF f n = bt f (min n 8) := by
  unfold flF
  have : ∀ k, k ≤ 8 → bt (fun k => decide (k < n) && f k) k = bt f (min n k) := by
    intro k hk
    induction k with
    | zero => simp [bt]
    | succ k ih =>
      simp only [bt]; rw [ih (by omega)]
      by_cases h : k < n
      · rw [show min n (k + 1) = k + 1 from by omega, show min n k = k from by omega]; simp [bt, h]
      · rw [show min n (k + 1) = n from by omega, show min n k = n from by omega]; simp [h]
  exact this 8 (Nat.le_refl _)
theorem or_pow (x k : Nat) (hx : x < 2 ^ k) (hk : k < 8) : bits .or .u8 (x : Int) ((2 : Int) ^ k) = ((x + 2 ^ k : Nat) : Int) := by
  have h8 : 2 ^ k ≤ 2 ^ 7 := Nat.pow_le_pow_right (by decide) (by omega)
  have e : ((2 : Int) ^ k) = ((2 ^ k : Nat) : Int) := by simp
  rw [e, u8_or _ _ (by omega) (by omega) (by omega) (by omega), Int.toNat_natCast, Int.toNat_natCast]
  have := Nat.two_pow_add_eq_or_of_lt (i := k) (b := x) hx 1
  rw [Nat.mul_one] at this
  rw [Nat.or_comm, ← this, Nat.add_comm]

theorem same_any (a b : Option Addr) (n m c d : Nat) (f g : Nat → Bool) (w : World) (ha : HoldsG Value.bool w a n f) (hb : HoldsG Value.bool w b m g) (hn : n ≤ 1000000) (hm : m ≤ 1000000) :
    Calls Tryz.prog 28 #[.slice a n c, .slice b m d] w fun e w' => e = .returned (.bool (eqG n m f g)) ∧ ∃ q, w' = w.drewN q := by
  by_cases hnm : n = m
  · subst hnm
    go_enter Tryz.func28, Tryz.ntmps28
    go_wp2
    go_loopw [5] (fun i wr => ∃ j : Nat, j ≤ n ∧ i = .int .i64 j ∧ (∀ t, t < j → f t = g t) ∧ ∃ q, wr = w.drewN q) (fun i _ => n - (intOf i).toNat)
    case atStart => exact ⟨0, Nat.zero_le _, rfl, fun t ht => absurd ht (by omega), 0, rfl⟩
    case round =>
      obtain ⟨j, hj, rfl, hall0, q, rfl⟩ := hrel
      have hall := Lib.hid hall0
      clear hall0
      by_cases hlt : j < n
      · obtain ⟨p, o, rfl, hp, hc⟩ := ha.resolve_left (by omega)
        obtain ⟨p', o', rfl, hp', hc'⟩ := hb.resolve_left (by omega)
        have c1 := hc j hlt
        have c2 := hc' j hlt
        clear hc hc' ha hb
        obtain ⟨x, hx⟩ : ∃ x, x = f j := ⟨_, rfl⟩
        obtain ⟨y, hy⟩ : ∃ y, y = g j := ⟨_, rfl⟩
        rw [← hx] at c1
        rw [← hy] at c2
        have HX := Lib.hid hx
        have HY := Lib.hid hy
        clear hx hy
        by_cases hxy : x = y
        · cases x <;> cases y <;> (first | (cases hxy; done) | skip)
          all_goals
            clear hxy
            go_wp2
            go_quiet (fail)
            go_wp2
            go_roundw
            case rel => exact ⟨j + 1, by omega, by go_num, fun t ht => by rcases Nat.lt_or_ge t j with h | h; exact hall.out t h; obtain rfl : t = j := by omega
                                                                          exact HX.out.symm.trans HY.out, q + _, rfl⟩
            case measure => simp [intOf]; omega
        · have he := Lib.hid (eqG_false (n := n) (m := n) (f := f) (g := g) (.inr ⟨j, hlt, by rw [← HX.out, ← HY.out]; exact hxy⟩))
          cases x <;> cases y <;> (first | (exact absurd rfl hxy; done) | skip)
          all_goals
            clear hxy
            go_wp2
            go_quiet (fail)
            go_wp2
            go_ret
            exact ⟨ret_b he.out.symm, dr2 _ _ _⟩
      · have he := Lib.hid (eqG_true (n := n) (m := n) (f := f) (g := g) rfl (fun i hi => hall.out i (by omega)))
        clear ha hb
        go_wp2
        go_ret
        exact ⟨ret_b he.out.symm, _, rfl⟩
  · have he := Lib.hid (eqG_false (n := n) (m := m) (f := f) (g := g) (.inl hnm))
    clear ha hb
    go_enter Tryz.func28, Tryz.ntmps28
    go_wp2
    go_ret
    exact ⟨ret_b he.out.symm, 0, rfl⟩
end Go.Proofs.YtlafnobjfajamaaGreat
namespace Go.Proofs.YtlafnobjfajamaaGreat
open Go.RowKit

theorem or_pow' (x k : Nat) (hx : x < 2 ^ k) (hk : k < 8) : bits .or .u8 (x : Int) ((2 : Int) ^ k % 256) = (x : Int) + 2 ^ k := by
  have h8 : 2 ^ k ≤ 2 ^ 7 := Nat.pow_le_pow_right (by decide) (by omega)
  have e : ((2 : Int) ^ k) = ((2 ^ k : Nat) : Int) := by simp
  have := or_pow x k hx hk
  rw [e] at this ⊢
  rw [show ((2 ^ k : Nat) : Int) % 256 = ((2 ^ k : Nat) : Int) from by omega, this]; simp

set_option maxHeartbeats 400000 in
theorem flags_any (a : Option Addr) (n c : Nat) (f : Nat → Bool) (w : World) (ha : HoldsG Value.bool w a n f) (hn : n ≤ 9223372036854775807) (hc : n ≤ c) (hm : c ≤ maxLen) :
    Calls Tryz.prog 145 #[.slice a n c] w fun e w' => e = .returned (.int .u8 (flF f n)) ∧ w = w' := by
  unfold maxLen at hm
  have hf := Lib.hid (flF_first f n)
  by_cases h8 : 8 < n
  · have h8' : (8 : Int) < n := by omega
    go_enter Tryz.func145, Tryz.ntmps145
    go_wp2
    go_loop [3, 12] (fun s i => ∃ k : Nat, k ≤ 8 ∧ i = .int .i64 k ∧ s = .int .u8 (bt f k)) (fun _ i => 8 - (intOf i).toNat)
    case atStart => exact ⟨0, Nat.zero_le _, rfl, rfl⟩
    case round =>
      obtain ⟨k, hk, rfl, rfl⟩ := hrel
      by_cases hlt : k < 8
      · obtain ⟨p, o, rfl, hp, hce⟩ := ha.resolve_left (by omega)
        have c0 := hce k (by omega)
        have hor := or_pow' (bt f k) k (bt_lt f k) hlt
        clear hce ha
        obtain ⟨b, hb⟩ : ∃ b, b = f k := ⟨_, rfl⟩
        rw [← hb] at c0
        have HB := Lib.hid hb
        clear hb
        have hlt' : (k : Int) < max 8 0 := by omega
        cases b
        · go_wp2
          go_round
          case rel => exact ⟨k + 1, by omega, by go_num, by simp [bt, ← HB.out]⟩
          case measure => simp [intOf]; omega
        · go_wp2
          go_round
          case rel => exact ⟨k + 1, by omega, by go_num, by simp [bt, ← HB.out]⟩
          case measure => simp [intOf]; omega
      · clear ha
        go_wp2
        go_ret
        obtain rfl : k = 8 := by omega
        exact ⟨ret_i (by rw [hf.out, show min n 8 = 8 from by omega]), rfl⟩
  · have h8' : (n : Int) ≤ 8 := by omega
    go_enter Tryz.func145, Tryz.ntmps145
    go_wp2
    go_loop [3, 12] (fun s i => ∃ k : Nat, k ≤ n ∧ i = .int .i64 k ∧ s = .int .u8 (bt f k)) (fun _ i => n - (intOf i).toNat)
    case atStart => exact ⟨0, Nat.zero_le _, rfl, rfl⟩
    case round =>
      obtain ⟨k, hk, rfl, rfl⟩ := hrel
      by_cases hlt : k < n
      · obtain ⟨p, o, rfl, hp, hce⟩ := ha.resolve_left (by omega)
        have c0 := hce k (by omega)
        have hor := or_pow' (bt f k) k (bt_lt f k) (by omega)
        clear hce ha
        obtain ⟨b, hb⟩ : ∃ b, b = f k := ⟨_, rfl⟩
        rw [← hb] at c0
        have HB := Lib.hid hb
        clear hb
        cases b
        · go_wp2
          go_round
          case rel => exact ⟨k + 1, by omega, by go_num, by simp [bt, ← HB.out]⟩
          case measure => simp [intOf]; omega
        · go_wp2
          go_round
          case rel => exact ⟨k + 1, by omega, by go_num, by simp [bt, ← HB.out]⟩
          case measure => simp [intOf]; omega
      · clear ha
        go_wp2
        go_ret
        obtain rfl : k = n := by omega
        exact ⟨ret_i (by rw [hf.out, show min k 8 = k from by omega]), rfl⟩

theorem pk_flF (f : Nat → Bool) (n j : Nat) : ((flF (fun i => f (8 * j + i)) (n - 8 * j) : Nat) : Int) = pkF f n j := by
  unfold flF pkF
  congr 1
  refine bt_congr 8 fun i _ => ?_
  have : decide (i < n - 8 * j) = decide (8 * j + i < n) := decide_eq_decide.2 (by omega)
  rw [this]
theorem Tryz.info8 : (Tryz.prog.info? 5).map (fun i => (i.zero, i.size, i.bytes)) = some (some (.int .u8 0), 1, 1) := by kernel_rfl
theorem Tryz.infoB : (Tryz.prog.info? 4).map (fun i => (i.zero, i.size, i.bytes)) = some (some (.bool false), 1, 1) := by kernel_rfl

set_option maxHeartbeats 800000 in
theorem pack_any (a : Option Addr) (n c : Nat) (f : Nat → Bool) (w : World) (ha : HoldsG Value.bool w a n f) (hn : n ≤ 1000000) (hc : n ≤ c) (hm : c ≤ maxLen) :
    Calls Tryz.prog 128 #[.slice a n c] w fun e w' => ∃ b d, e = .returned (.slice b (szN n) d) ∧ szN n ≤ d ∧ d ≤ maxLen ∧ Holds .u8 w' b (szN n) (pkF f n) ∧ Ext w w' := by
  have hm' := hm
  unfold maxLen at hm'
  obtain ⟨i0, hi0, hz0, hz1, hz2⟩ := info_parts Tryz.info8
  obtain ⟨m, hM⟩ : ∃ m, m = szN n := ⟨_, rfl⟩
  have hmb : m ≤ 1000000 := by rw [hM]; unfold szN; omega
  have hsz : szI n = (m : Int) := by rw [hM]; exact szI_nat n
  have Hsz := Lib.hid hsz
  rw [← hM]
  have HM := Lib.hid hM
  clear hM hsz
  go_enter Tryz.func128, Tryz.ntmps128
  go_wp2_with fail
  refine (size_any n _ (by omega) (by omega)).mono ?_; rintro e w' ⟨rfl, rfl⟩
  rw [Hsz.out]
  go_wp2_with (at_make; refine wpList_make_full _ rfl _ _ 48 rfl w.heap.size 5 i0 (.int .u8 0) 1 Tryz.underlying48 hi0 hz0 hz1 .i64 .i64 m m m rfl rfl rfl rfl (by rw [hz2]; omega) (by unfold maxLen; omega) (Nat.le_refl _) ?_; intro w1 hown1 hgrow1)
  have hb1 : Below w.heap.size w w1 := (Below.refl _ _).grown hgrow1 (Nat.le_refl _) (fun k hk => by cases hk)
  have hr1 : Row (.int .u8) 5 w1 w.heap.size m (fun _ => 0) := Row.made hown1
  obtain ⟨B, hB⟩ : ∃ B, B = w.heap.size := ⟨_, rfl⟩
  rw [← hB] at hr1 hb1 ⊢
  have HB := Lib.hid hB
  clear hB hown1 hgrow1
  go_loopw [4, 11] (fun _ i wr => ∃ k : Nat, k ≤ m ∧ i = .int .i64 k ∧ ∃ g, Row (.int .u8) 5 wr B m g ∧ (∀ j, j < k → g j = pkF f n j) ∧ Below B w wr) (fun _ i _ => m - (intOf i).toNat)
  case atStart => exact ⟨0, Nat.zero_le _, rfl, _, hr1, fun j hj => absurd hj (by omega), hb1⟩
  case round =>
    obtain ⟨k, hk, rfl, g, hr, hg0, hb⟩ := hrel
    have hg := Lib.hid hg0
    clear hg0 hr1 hb1
    by_cases hlt : k < m
    · have h8n : 8 * k < n := by have := HM.out; unfold szN at this; omega
      obtain ⟨p, o, rfl, hp, hce⟩ := ha.resolve_left (by omega)
      have hd := (HoldsG.drop (k := 8 * k) (n := n) (.inr ⟨p, o, rfl, hp, hce⟩ : HoldsG Value.bool w (some ⟨p, o, none⟩) n f)).ext (by rw [Ext, ← HB.out]; exact hb)
      clear hce ha
      have h1 : (8 : Int) * k < n := by omega
      have h2 : (8 : Int) * k ≤ c := by omega
      have c0 := hr.cell k hlt
      have f0 := hr.frozen k
      go_wp2_with fail
      refine (flags_any _ _ _ _ _ hd (by omega) (by omega) (by unfold maxLen; omega)).mono ?_; rintro e w' ⟨rfl, rfl⟩
      rw [pk_flF]
      have hs := hr.set k (pkF f n k)
      go_wp2
      go_roundw
      case rel => 
        refine ⟨k + 1, by omega, by go_num, _, hs, fun j hj => ?_, hb.setCell (Nat.le_refl _) _⟩
        by_cases e : j = k
        · subst e; rw [upd_same]
        · rw [upd_other _ _ _ _ e]; exact hg.out j (by omega)
      case measure => simp [intOf]; omega
    · clear ha
      go_wp2
      go_ret
      obtain rfl : k = m := by omega
      exact ⟨_, _, rfl, Nat.le_refl _, by unfold maxLen; omega, (hr.congr hg.out).holds, by rw [Ext, ← HB.out]; exact hb⟩

end Go.Proofs.YtlafnobjfajamaaGreat
