/-
  CONTRACTS: poly's remainder, each, Rem; bilgeref03.Rem.
-/
import Derived.Test.YtanoakebbfidiaaDoorPolyB
namespace Go.Proofs.YtanoakebbfidiaaDoor
open Go.RowKit


set_option maxHeartbeats 1600000 in
theorem rrem_any (a : Option Addr) (n c : Nat) (f : Nat → Int) (x : BitVec 16) (w : World) (ha : Holds .u8 w a n f) (hn : n ≤ 1000000) (hf : ∀ i, i < n → 0 ≤ f i ∧ f i < 256) :
    Calls Tryd.prog 45 #[.int .u16 (vI x), .slice a n c] w fun e w' => e = .returned (.int .u16 (vI (remV x f n))) ∧ w = w' := by
  go_enter Tryd.func45, Tryd.ntmps45
  go_wp2
  go_loop [0, 5] (fun r i => ∃ k : Nat, k ≤ n ∧ i = .int .i64 k ∧ r = .int .u16 (vI (remV x f k))) (fun _ i => n - (intOf i).toNat)
  case atStart => exact ⟨0, Nat.zero_le _, rfl, rfl⟩
  case round =>
    obtain ⟨k, hk, rfl, rfl⟩ := hrel
    by_cases hlt : k < n
    · obtain ⟨p, o, rfl, hp, hc⟩ := ha.resolve_left (by omega)
      have c0 := hc k hlt
      obtain ⟨f0, f1⟩ := hf k hlt
      clear hc ha hf
      go_wp2_with fail
      refine (rbyte_any _ _ _ f0 f1).mono ?_; rintro e w' ⟨rfl, rfl⟩
      go_wp2
      go_round
      case rel => exact ⟨k + 1, by omega, by go_num, rfl⟩
      case measure => simp [intOf]; omega
    · obtain rfl : k = n := by omega
      clear ha hf
      go_wp2
      go_ret
      exact ⟨rfl, rfl⟩
end Go.Proofs.YtanoakebbfidiaaDoor
