/-
  CONTRACTS: bits.Flags, Pack; bilgeref02.Pack.
-/
import Derived.Test.YtejiafihiielgaaBitsA
import Derived.Test.YtejiafihiielgaaBlocks
namespace Go.Proofs.Ytejiafihiielgaa
open Go.RowKit

theorem or_pow' (x k : Nat) (hx : x < 2 ^ k) (hk : k < 8) : bits .or .u8 (x : Int) ((2 : Int) ^ k % 256) = (x : Int) + 2 ^ k := by
  have h8 : 2 ^ k ≤ 2 ^ 7 := Nat.pow_le_pow_right (by decide) (by omega)
  have e : ((2 : Int) ^ k) = ((2 ^ k : Nat) : Int) := by simp
  have := or_pow x k hx hk
  rw [e] at this ⊢
  rw [show ((2 ^ k : Nat) : Int) % 256 = ((2 ^ k : Nat) : Int) from by omega, this]; simp

set_option maxHeartbeats 400000 in
theorem flags_any (a : Option Addr) (n c : Nat) (f : Nat → Bool) (w : World) (ha : HoldsG Value.bool w a n f) (hn : n ≤ 9223372036854775807) (hc : n ≤ c) (hm : c ≤ maxLen) :
    Calls Try.prog 58 #[.slice a n c] w fun e w' => e = .returned (.int .u8 (flF f n)) ∧ w = w' := by
  unfold maxLen at hm
  have hf := Lib.hid (flF_first f n)
  by_cases h8 : 8 < n
  · have h8' : (8 : Int) < n := by omega
    go_enter Try.func58, Try.ntmps58
    go_wp2
    go_loop [3, 12] (fun s i => ∃ k : Nat, k ≤ 8 ∧ i = .int .i64 k ∧ s = .int .u8 (bt f k)) (fun _ i => 8 - (intOf i).toNat)
    case atStart => exact ⟨0, Nat.zero_le _, rfl, rfl⟩
    case round =>
      obtain ⟨k, hk, rfl, rfl⟩ := hrel
      by_cases hlt : k < 8
      · obtain ⟨p, o, rfl, hp, hce⟩ := ha.resolve_left (by omega)
        have c0 := hce k (by omega)
        have hor := or_pow' (bt f k) k (bt_lt f k) hlt
        clear hce ha
        obtain ⟨b, hb⟩ : ∃ b, b = f k := ⟨_, rfl⟩
        rw [← hb] at c0
        have HB := Lib.hid hb
        clear hb
        have hlt' : (k : Int) < max 8 0 := by omega
        cases b
        · go_wp2
          go_round
          case rel => exact ⟨k + 1, by omega, by go_num, by simp [bt, ← HB.out]⟩
          case measure => simp [intOf]; omega
        · go_wp2
          go_round
          case rel => exact ⟨k + 1, by omega, by go_num, by simp [bt, ← HB.out]⟩
          case measure => simp [intOf]; omega
      · clear ha
        go_wp2
        go_ret
        obtain rfl : k = 8 := by omega
        exact ⟨ret_i (by rw [hf.out, show min n 8 = 8 from by omega]), rfl⟩
  · have h8' : (n : Int) ≤ 8 := by omega
    go_enter Try.func58, Try.ntmps58
    go_wp2
    go_loop [3, 12] (fun s i => ∃ k : Nat, k ≤ n ∧ i = .int .i64 k ∧ s = .int .u8 (bt f k)) (fun _ i => n - (intOf i).toNat)
    case atStart => exact ⟨0, Nat.zero_le _, rfl, rfl⟩
    case round =>
      obtain ⟨k, hk, rfl, rfl⟩ := hrel
      by_cases hlt : k < n
      · obtain ⟨p, o, rfl, hp, hce⟩ := ha.resolve_left (by omega)
        have c0 := hce k (by omega)
        have hor := or_pow' (bt f k) k (bt_lt f k) (by omega)
        clear hce ha
        obtain ⟨b, hb⟩ : ∃ b, b = f k := ⟨_, rfl⟩
        rw [← hb] at c0
        have HB := Lib.hid hb
        clear hb
        cases b
        · go_wp2
          go_round
          case rel => exact ⟨k + 1, by omega, by go_num, by simp [bt, ← HB.out]⟩
          case measure => simp [intOf]; omega
        · go_wp2
          go_round
          case rel => exact ⟨k + 1, by omega, by go_num, by simp [bt, ← HB.out]⟩
          case measure => simp [intOf]; omega
      · clear ha
        go_wp2
        go_ret
        obtain rfl : k = n := by omega
        exact ⟨ret_i (by rw [hf.out, show min k 8 = k from by omega]), rfl⟩

theorem pk_flF (f : Nat → Bool) (n j : Nat) : ((flF (fun i => f (8 * j + i)) (n - 8 * j) : Nat) : Int) = pkF f n j := by
  unfold flF pkF
  congr 1
  refine bt_congr 8 fun i _ => ?_
  have : decide (i < n - 8 * j) = decide (8 * j + i < n) := decide_eq_decide.2 (by omega)
  rw [this]
theorem Try.info8 : (Try.prog.info? 5).map (fun i => (i.zero, i.size, i.bytes)) = some (some (.int .u8 0), 1, 1) := by kernel_rfl
theorem Try.infoB : (Try.prog.info? 4).map (fun i => (i.zero, i.size, i.bytes)) = some (some (.bool false), 1, 1) := by kernel_rfl

set_option maxHeartbeats 800000 in
theorem pack_any (a : Option Addr) (n c : Nat) (f : Nat → Bool) (w : World) (ha : HoldsG Value.bool w a n f) (hn : n ≤ 1000000) (hc : n ≤ c) (hm : c ≤ maxLen) :
    Calls Try.prog 44 #[.slice a n c] w fun e w' => ∃ b d, e = .returned (.slice b (szN n) d) ∧ szN n ≤ d ∧ d ≤ maxLen ∧ Holds .u8 w' b (szN n) (pkF f n) ∧ Ext w w' := by
  have hm' := hm
  unfold maxLen at hm'
  obtain ⟨i0, hi0, hz0, hz1, hz2⟩ := info_parts Try.info8
  obtain ⟨m, hM⟩ : ∃ m, m = szN n := ⟨_, rfl⟩
  have hmb : m ≤ 1000000 := by rw [hM]; unfold szN; omega
  have hsz : szI n = (m : Int) := by rw [hM]; exact szI_nat n
  have Hsz := Lib.hid hsz
  rw [← hM]
  have HM := Lib.hid hM
  clear hM hsz
  go_enter Try.func44, Try.ntmps44
  go_wp2_with fail
  refine (size_any n _ (by omega) (by omega)).mono ?_; rintro e w' ⟨rfl, rfl⟩
  rw [Hsz.out]
  go_wp2_with (at_make; refine wpList_make_full _ rfl _ _ 31 rfl w.heap.size 5 i0 (.int .u8 0) 1 Try.underlying31 hi0 hz0 hz1 .i64 .i64 m m m rfl rfl rfl rfl (by rw [hz2]; omega) (by unfold maxLen; omega) (Nat.le_refl _) ?_; intro w1 hown1 hgrow1)
  have hb1 : Below w.heap.size w w1 := (Below.refl _ _).grown hgrow1 (Nat.le_refl _) (fun k hk => by cases hk)
  have hr1 : Row (.int .u8) 5 w1 w.heap.size m (fun _ => 0) := Row.made hown1
  obtain ⟨B, hB⟩ : ∃ B, B = w.heap.size := ⟨_, rfl⟩
  rw [← hB] at hr1 hb1 ⊢
  have HB := Lib.hid hB
  clear hB hown1 hgrow1
  go_loopw [4, 11] (fun _ i wr => ∃ k : Nat, k ≤ m ∧ i = .int .i64 k ∧ ∃ g, Row (.int .u8) 5 wr B m g ∧ (∀ j, j < k → g j = pkF f n j) ∧ Below B w wr) (fun _ i _ => m - (intOf i).toNat)
  case atStart => exact ⟨0, Nat.zero_le _, rfl, _, hr1, fun j hj => absurd hj (by omega), hb1⟩
  case round =>
    obtain ⟨k, hk, rfl, g, hr, hg0, hb⟩ := hrel
    have hg := Lib.hid hg0
    clear hg0 hr1 hb1
    by_cases hlt : k < m
    · have h8n : 8 * k < n := by have := HM.out; unfold szN at this; omega
      obtain ⟨p, o, rfl, hp, hce⟩ := ha.resolve_left (by omega)
      have hd := (HoldsG.drop (k := 8 * k) (n := n) (.inr ⟨p, o, rfl, hp, hce⟩ : HoldsG Value.bool w (some ⟨p, o, none⟩) n f)).ext (by rw [Ext, ← HB.out]; exact hb)
      clear hce ha
      have h1 : (8 : Int) * k < n := by omega
      have h2 : (8 : Int) * k ≤ c := by omega
      have c0 := hr.cell k hlt
      have f0 := hr.frozen k
      go_wp2_with fail
      refine (flags_any _ _ _ _ _ hd (by omega) (by omega) (by unfold maxLen; omega)).mono ?_; rintro e w' ⟨rfl, rfl⟩
      rw [pk_flF]
      have hs := hr.set k (pkF f n k)
      go_wp2
      go_roundw
      case rel => 
        refine ⟨k + 1, by omega, by go_num, _, hs, fun j hj => ?_, hb.setCell (Nat.le_refl _) _⟩
        by_cases e : j = k
        · subst e; rw [upd_same]
        · rw [upd_other _ _ _ _ e]; exact hg.out j (by omega)
      case measure => simp [intOf]; omega
    · clear ha
      go_wp2
      go_ret
      obtain rfl : k = m := by omega
      exact ⟨_, _, rfl, Nat.le_refl _, by unfold maxLen; omega, (hr.congr hg.out).holds, by rw [Ext, ← HB.out]; exact hb⟩

set_option maxHeartbeats 800000 in
theorem rpack_any (a : Option Addr) (n c : Nat) (f : Nat → Bool) (w : World) (ha : HoldsG Value.bool w a n f) (hn : n ≤ 1000000) :
    Calls Try.prog 26 #[.slice a n c] w fun e w' => ∃ b d, e = .returned (.slice b (szN n) d) ∧ szN n ≤ d ∧ d ≤ maxLen ∧ Holds .u8 w' b (szN n) (pkF f n) ∧ Ext w w' := by
  obtain ⟨i0, hi0, hz0, hz1, hz2⟩ := info_parts Try.info8
  obtain ⟨m, hM⟩ : ∃ m, m = szN n := ⟨_, rfl⟩
  have hmb : m ≤ 1000000 := by rw [hM]; unfold szN; omega
  have hsz : szI n = (m : Int) := by rw [hM]; exact szI_nat n
  have Hsz := Lib.hid hsz
  rw [← hM]
  have HM := Lib.hid hM
  clear hM hsz
  go_enter Try.func26, Try.ntmps26
  go_wp2_with fail
  refine (rsize_any n _ (by omega) (by omega)).mono ?_; rintro e w' ⟨rfl, rfl⟩
  rw [Hsz.out]
  go_wp2_with (at_make; refine wpList_make_full _ rfl _ _ 31 rfl w.heap.size 5 i0 (.int .u8 0) 1 Try.underlying31 hi0 hz0 hz1 .i64 .i64 m m m rfl rfl rfl rfl (by rw [hz2]; omega) (by unfold maxLen; omega) (Nat.le_refl _) ?_; intro w1 hown1 hgrow1)
  have hb1 : Below w.heap.size w w1 := (Below.refl _ _).grown hgrow1 (Nat.le_refl _) (fun k hk => by cases hk)
  have hr1 : Row (.int .u8) 5 w1 w.heap.size m (fun _ => 0) := Row.made hown1
  obtain ⟨B, hB⟩ : ∃ B, B = w.heap.size := ⟨_, rfl⟩
  rw [← hB] at hr1 hb1 ⊢
  have HB := Lib.hid hB
  clear hB hown1 hgrow1
  go_loopw [4] (fun i wr => ∃ k : Nat, k ≤ n ∧ i = .int .i64 k ∧ Row (.int .u8) 5 wr B m (pkF f k) ∧ Below B w wr) (fun i _ => n - (intOf i).toNat)
  case atStart => exact ⟨0, Nat.zero_le _, rfl, hr1.congr (fun i _ => (pkF_zero f i).symm), hb1⟩
  case round =>
    obtain ⟨k, hk, rfl, hr, hb⟩ := hrel
    clear hr1 hb1
    by_cases hlt : k < n
    · have h8m : k / 8 < m := by have := HM.out; unfold szN at this; omega
      obtain ⟨p, o, rfl, hp, hce⟩ := ha.resolve_left (by omega)
      have hpB : p < B := by rw [HB.out]; exact hp
      have c0 := (hb.cell (p := ⟨p, o + k, none⟩) hpB).trans (hce k hlt)
      clear hce ha
      obtain ⟨b, hfb⟩ : ∃ b, b = f k := ⟨_, rfl⟩
      rw [← hfb] at c0
      have HF := Lib.hid hfb
      clear hfb
      cases b
      · go_wp2
        go_roundw
        case rel => exact ⟨k + 1, by omega, by go_num, hr.congr (fun i _ => (pkF_no f k i HF.out.symm).symm), hb⟩
        case measure => simp [intOf]; omega
      · have c1 := hr.cell (k / 8) h8m
        have f1 := hr.frozen (k / 8)
        have hs := hr.set (k / 8) (pkF f k (k / 8) + 2 ^ (k % 8))
        have hroom := pkF_room f k
        have hbd := pkF_bd f k (k / 8)
        have hq : (k : Int) / 8 < m := by omega
        go_wp2_with fail
        have h256 : ((2 : Int) ^ (k % 8)) % 256 = 2 ^ (k % 8) := by
          have h0 : (0 : Int) ≤ 2 ^ (k % 8) := Int.pow_nonneg (by decide)
          omega
        go_region
        go_wp2
        go_roundw
        case rel =>
          refine ⟨k + 1, by omega, by go_num, (hs.drew).congr (fun j _ => ?_), (hb.setCell (Nat.le_refl _) _).drew⟩
          by_cases e : j = k / 8
          · subst e; rw [upd_same, pkF_yes f k HF.out.symm]
          · rw [upd_other _ _ _ _ e, pkF_far f k j e]
        case measure => simp [intOf]; omega
    · clear ha
      go_wp2
      go_ret
      obtain rfl : k = n := by omega
      exact ⟨_, _, rfl, Nat.le_refl _, by unfold maxLen; omega, hr.holds, by rw [Ext, ← HB.out]; exact hb⟩
end Go.Proofs.Ytejiafihiielgaa
