/-
  CONTRACTS: bits.Flags, Pack; bilgeref02.Pack.
-/
import Derived.Test.YtkgakeknnfnjdaaBitsA
import Derived.Test.YtkgakeknnfnjdaaBlocks
namespace Go.Proofs.Ytkgakeknnfnjdaa
open Go.RowKit

theorem or_pow' (x k : Nat) (hx : x < 2 ^ k) (hk : k < 8) : bits .or .u8 (x : Int) ((2 : Int) ^ k % 256) = (x : Int) + 2 ^ k := by
  have h8 : 2 ^ k ≤ 2 ^ 7 := Nat.pow_le_pow_right (by decide) (by omega)
  have e : ((2 : Int) ^ k) = ((2 ^ k : Nat) : Int) := by simp
  have := or_pow x k hx hk
  rw [e] at this ⊢
  rw [show ((2 ^ k : Nat) : Int) % 256 = ((2 ^ k : Nat) : Int) from by omega, this]; simp

set_option maxHeartbeats 400000 in
theorem flags_any (a : Option Addr) (n c : Nat) (f : Nat → Bool) (w : World) (ha : HoldsG Value.bool w a n f) (hn : n ≤ 9223372036854775807) (hc : n ≤ c) (hm : c ≤ maxLen) :
    Calls Try.prog 15 #[.slice a n c] w fun e w' => e = .returned (.int .u8 (flF f n)) ∧ w = w' := by
  unfold maxLen at hm
  have hf := Lib.hid (flF_first f n)
  by_cases h8 : 8 < n
  · have h8' : (8 : Int) < n := by omega
    go_enter Try.func15, Try.ntmps15
    go_wp2
    go_loop [3, 12] (fun s i => ∃ k : Nat, k ≤ 8 ∧ i = .int .i64 k ∧ s = .int .u8 (bt f k)) (fun _ i => 8 - (intOf i).toNat)
    case atStart => exact ⟨0, Nat.zero_le _, rfl, rfl⟩
    case round =>
      obtain ⟨k, hk, rfl, rfl⟩ := hrel
      by_cases hlt : k < 8
      · obtain ⟨p, o, rfl, hp, hce⟩ := ha.resolve_left (by omega)
        have c0 := hce k (by omega)
        have hor := or_pow' (bt f k) k (bt_lt f k) hlt
        clear hce ha
        obtain ⟨b, hb⟩ : ∃ b, b = f k := ⟨_, rfl⟩
        rw [← hb] at c0
        have HB := Lib.hid hb
        clear hb
        have hlt' : (k : Int) < max 8 0 := by omega
        cases b
        · go_wp2
          go_round
          case rel => exact ⟨k + 1, by omega, by go_num, by simp [bt, ← HB.out]⟩
          case measure => simp [intOf]; omega
        · go_wp2
          go_round
          case rel => exact ⟨k + 1, by omega, by go_num, by simp [bt, ← HB.out]⟩
          case measure => simp [intOf]; omega
      · clear ha
        go_wp2
        go_ret
        obtain rfl : k = 8 := by omega
        exact ⟨ret_i (by rw [hf.out, show min n 8 = 8 from by omega]), rfl⟩
  · have h8' : (n : Int) ≤ 8 := by omega
    go_enter Try.func15, Try.ntmps15
    go_wp2
    go_loop [3, 12] (fun s i => ∃ k : Nat, k ≤ n ∧ i = .int .i64 k ∧ s = .int .u8 (bt f k)) (fun _ i => n - (intOf i).toNat)
    case atStart => exact ⟨0, Nat.zero_le _, rfl, rfl⟩
    case round =>
      obtain ⟨k, hk, rfl, rfl⟩ := hrel
      by_cases hlt : k < n
      · obtain ⟨p, o, rfl, hp, hce⟩ := ha.resolve_left (by omega)
        have c0 := hce k (by omega)
        have hor := or_pow' (bt f k) k (bt_lt f k) (by omega)
        clear hce ha
        obtain ⟨b, hb⟩ : ∃ b, b = f k := ⟨_, rfl⟩
        rw [← hb] at c0
        have HB := Lib.hid hb
        clear hb
        cases b
        · go_wp2
          go_round
          case rel => exact ⟨k + 1, by omega, by go_num, by simp [bt, ← HB.out]⟩
          case measure => simp [intOf]; omega
        · go_wp2
          go_round
          case rel => exact ⟨k + 1, by omega, by go_num, by simp [bt, ← HB.out]⟩
          case measure => simp [intOf]; omega
      · clear ha
        go_wp2
        go_ret
        obtain rfl : k = n := by omega
        exact ⟨ret_i (by rw [hf.out, show min k 8 = k from by omega]), rfl⟩

theorem pk_flF (f : Nat → Bool) (n j : Nat) : ((flF (fun i => f (8 * j + i)) (n - 8 * j) : Nat) : Int) = pkF f n j := by
  unfold flF pkF
  congr 1
  refine bt_congr 8 fun i _ => ?_
  have : decide (i < n - 8 * j) = decide (8 * j + i < n) := decide_eq_decide.2 (by omega)
  rw [this]
theorem Try.info8 : (Try.prog.info? 5).map (fun i => (i.zero, i.size, i.bytes)) = some (some (.int .u8 0), 1, 1) := by kernel_rfl
theorem Try.infoB : (Try.prog.info? 4).map (fun i => (i.zero, i.size, i.bytes)) = some (some (.bool false), 1, 1) := by kernel_rfl

end Go.Proofs.Ytkgakeknnfnjdaa
