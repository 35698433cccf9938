/-
  CONTRACTS: bits.Flags, Pack; bilgeref02.Pack.
-/
import Derived.Test.YtbabfhbkckokfaaBitsA
import Derived.Test.YtbabfhbkckokfaaBlocks
namespace Go.Proofs.Ytbabfhbkckokfaa
open Go.RowKit

theorem or_pow' (x k : Nat) (hx : x < 2 ^ k) (hk : k < 8) : bits .or .u8 (x : Int) ((2 : Int) ^ k % 256) = (x : Int) + 2 ^ k := by
  have h8 : 2 ^ k ≤ 2 ^ 7 := Nat.pow_le_pow_right (by decide) (by omega)
  have e : ((2 : Int) ^ k) = ((2 ^ k : Nat) : Int) := by simp
  have := or_pow x k hx hk
  rw [e] at this ⊢
  rw [show ((2 ^ k : Nat) : Int) % 256 = ((2 ^ k : Nat) : Int) from by omega, this]; simp

theorem pk_flF (f : Nat → Bool) (n j : Nat) : ((flF (fun i => f (8 * j + i)) (n - 8 * j) : Nat) : Int) = pkF f n j := by
  unfold flF pkF
  congr 1
  refine bt_congr 8 fun i _ => ?_
  have : decide (i < n - 8 * j) = decide (8 * j + i < n) := decide_eq_decide.2 (by omega)
  rw [this]
theorem Try.info8 : (Try.prog.info? 5).map (fun i => (i.zero, i.size, i.bytes)) = some (some (.int .u8 0), 1, 1) := by kernel_rfl
theorem Try.infoB : (Try.prog.info? 4).map (fun i => (i.zero, i.size, i.bytes)) = some (some (.bool false), 1, 1) := by kernel_rfl

end Go.Proofs.Ytbabfhbkckokfaa
