/-
  CONTRACTS: poly.Bit, unbit; bilgeref03.Bit.
-/
import Derived.Test.YtanoakebbfidiaaDoorRows
import Derived.Test.YtanoakebbfidiaaDoorBools
import Derived.Test.YtanoakebbfidiaaDoorPolyMath
import Derived.WalkLawsBesides
import Derived.WalkSpells
import Derived.Deep.QuietTactic
import Derived.BigQuiet
import Derived.RegionTactic
import Derived.Outline
import Derived.Lib.Hide
import Derived.Handy
import Derived.IntWalk
namespace Go.Proofs.YtanoakebbfidiaaDoor
open Go.RowKit

theorem and_low (x : BitVec 16) : bits .and .u16 (vI x) 1 = if x.getLsbD 0 then 1 else 0 := by
  rw [← vI_low, u16_and _ _ (vI_lo _) (vI_hi _) (by decide) (by decide), vI_toNat, show (1 : Int).toNat = 1 from rfl, Nat.and_one_is_mod]; unfold vI; omega
theorem ret_u16 {a b : Int} (h : a = b) : Ending.returned (Value.int .u16 a) = Ending.returned (Value.int .u16 b) := by rw [h]

theorem bitV_same {x : BitVec 16} {one : Bool} (h : x.getLsbD 0 = one) : vI (bitV x one) = vI x / (2 : Int) := by
  unfold bitV; rw [h, vI_half]; simp
theorem bitV_diff {x : BitVec 16} {one : Bool} (h : x.getLsbD 0 = !one) : vI (bitV x one) = bits .xor .u16 (vI x / (2 : Int)) 40961 := by
  have : bitV x one = (x >>> 1) ^^^ 40961#16 := by unfold bitV; rw [h]; cases one <;> rfl
  rw [this, vI_half]; exact (vI_xor _ _).symm
/-- The four ways. -/
theorem bit_ways (x : BitVec 16) (one : Bool) {Q : BitVec 16 → Bool → Prop}
    (hs : ∀ b (r z : Int), 0 ≤ r → r < 65536 → r = vI x → z = vI (bitV x b) → bits .and .u16 r 1 = (if b then 1 else 0) → r % (2 : Int) = (if b then 1 else 0) → z = r / (2 : Int) → Q x b)
    (hd : ∀ b (r z : Int), 0 ≤ r → r < 65536 → r = vI x → z = vI (bitV x b) → bits .and .u16 r 1 = (if b then 0 else 1) → r % (2 : Int) = (if b then 0 else 1) → z = bits .xor .u16 (r / (2 : Int)) 40961 → Q x b) : Q x one := by
  by_cases h : x.getLsbD 0 = one
  · exact hs one _ _ (vI_lo x) (vI_hi x) rfl rfl (by rw [and_low, h]) (by rw [vI_low, h]) (bitV_same h)
  · have h' : x.getLsbD 0 = !one := by revert h; cases x.getLsbD 0 <;> cases one <;> simp
    exact hd one _ _ (vI_lo x) (vI_hi x) rfl rfl (by rw [and_low, h']; cases one <;> rfl) (by rw [vI_low, h']; cases one <;> rfl) (bitV_diff h')

theorem half_t (r : Int) (h0 : 0 ≤ r) (h1 : r < 65536) : IntKind.u16.wrap (r.tdiv 2) = r / (2 : Int) := by
  rw [Int.tdiv_eq_ediv_of_nonneg h0]
  show (r / 2) % 65536 = _
  omega
set_option maxHeartbeats 1000000 in
theorem rbit_any (x : BitVec 16) (one : Bool) (w : World) :
    Calls Tryd.prog 52 #[.int .u16 (vI x), .bool one] w fun e w' => e = .returned (.int .u16 (vI (bitV x one))) ∧ w = w' := by
  refine bit_ways x one (Q := fun x one => Calls Tryd.prog 52 #[.int .u16 (vI x), .bool one] w fun e w' => e = .returned (.int .u16 (vI (bitV x one))) ∧ w = w') ?_ ?_
  all_goals
    intro b r z l0 l1 hr hz k1 k2 hq
    rw [← hr, ← hz]
    have HQ := Lib.hid hq
    clear hr hz hq k1
    cases b
    all_goals
      simp only [Bool.false_eq_true, if_false, if_true] at k2
      go_enter Tryd.func52, Tryd.ntmps52
      go_wp2
      go_ret
      rw [half_t r l0 l1]
      exact ⟨ret_u16 HQ.out.symm, rfl⟩

theorem unbitV_eq (y : BitVec 16) (one : Bool) (t : Bool) (h : y.getLsbD 15 = t) :
    vI (unbitV y one) = bits .or .u16 (((if t then bits .xor .u16 (vI y) 40961 else vI y) * (2 : Int)) % (65536 : Int)) (if (t != one) then 1 else 0) := by
  have e1 : bits .xor .u16 (vI y) 40961 = vI (y ^^^ 40961#16) := vI_xor y 40961#16
  unfold unbitV
  rw [h]
  cases t <;> cases one
  all_goals
    simp only [Bool.false_eq_true, if_false, if_true, bne_self_eq_false, Bool.bne_true, Bool.bne_false, Bool.not_false]
    try rw [e1]
    rw [vI_double]
    exact (vI_or _ _).symm
theorem or_zero (v : Int) (h0 : 0 ≤ v) (h1 : v < 65536) : bits .or .u16 v 0 = v := by
  rw [u16_or _ _ h0 h1 (by decide) (by decide)]; simp; omega
theorem unbit_ways (y : BitVec 16) (one : Bool) {Q : BitVec 16 → Bool → Prop}
    (hq : ∀ b t (r z : Int), 0 ≤ r → r < 65536 → r = vI y → z = vI (unbitV y b) → r / (32768 : Int) = (if t then 1 else 0) →
      z = bits .or .u16 (((if t then bits .xor .u16 r 40961 else r) * (2 : Int)) % (65536 : Int)) (if (t != b) then 1 else 0) → Q y b) : Q y one :=
  hq one _ _ _ (vI_lo y) (vI_hi y) rfl rfl (vI_top y) (unbitV_eq y one _ rfl)
theorem byte_nat {b : Int} (h0 : 0 ≤ b) (h1 : b < 256) : ∃ B : Nat, B < 256 ∧ b = (B : Int) := ⟨b.toNat, by omega, by omega⟩
theorem bB_eq (B k : Nat) : bB (B : Int) k = decide (B / 2 ^ k % 2 = 1) := by unfold bB; rw [Int.toNat_natCast, Nat.testBit_eq_decide_div_mod_eq]
theorem low_bit (b : Int) (k : Nat) (h0 : 0 ≤ b) (h1 : b < 256) (_hk : k < 8) : (bits .and .u8 (b / 2 ^ k) 1 != 0) = bB b k := by
  obtain ⟨B, hB, rfl⟩ := byte_nat h0 h1
  have e : ((B : Int) / 2 ^ k) = ((B / 2 ^ k : Nat) : Int) := by simp
  have hd : B / 2 ^ k < 256 := Nat.lt_of_le_of_lt (Nat.div_le_self _ _) hB
  generalize hD : B / 2 ^ k = D at hd
  have hbb : bB (B : Int) k = decide (D % 2 = 1) := by rw [bB_eq, hD]
  rw [e, hD, u8_and _ _ (by omega) (by omega) (by decide) (by decide), hbb, Int.toNat_natCast, show (1 : Int).toNat = 1 from rfl, Nat.and_one_is_mod, Bool.eq_iff_iff]
  simp; omega
theorem low_rem (b : Int) (k : Nat) (h0 : 0 ≤ b) (h1 : b < 256) : ((b / 2 ^ k).tmod 2 == 1) = bB b k := by
  obtain ⟨B, hB, rfl⟩ := byte_nat h0 h1
  have e : ((B : Int) / 2 ^ k) = ((B / 2 ^ k : Nat) : Int) := by simp
  rw [e, bB_eq, Int.tmod_eq_emod_of_nonneg (Int.natCast_nonneg _), Bool.eq_iff_iff]
  simp; omega

theorem high_all : ∀ k : Fin 8, ∀ B : Fin 256, (((B.val * 2 ^ k.val % 256) &&& 128) != 0) = decide (B.val / 2 ^ (7 - k.val) % 2 = 1) := by decide +kernel
theorem high_bit (b : Int) (k : Nat) (h0 : 0 ≤ b) (h1 : b < 256) (hk : k < 8) : (bits .and .u8 (b * 2 ^ k % 256) 128 != 0) = bB b (7 - k) := by
  obtain ⟨B, hB, rfl⟩ := byte_nat h0 h1
  have e : ((B : Int) * 2 ^ k % 256) = ((B * 2 ^ k % 256 : Nat) : Int) := by simp
  have h := high_all ⟨k, hk⟩ ⟨B, hB⟩
  simp only at h
  rw [bB_eq, ← h, e, u8_and _ _ (by omega) (by omega) (by decide) (by decide), Int.toNat_natCast, show (128 : Int).toNat = 128 from rfl]
  generalize (B * 2 ^ k % 256) &&& 128 = D
  rw [Bool.eq_iff_iff]; simp

theorem rbit_v (x : BitVec 16) (one b : Bool) (w : World) (h : one = b) :
    Calls Tryd.prog 52 #[.int .u16 (vI x), .bool one] w fun e w' => e = .returned (.int .u16 (vI (bitV x b))) ∧ w = w' := h ▸ rbit_any x one w
set_option maxHeartbeats 1000000 in
theorem rbyte_any (x : BitVec 16) (b : Int) (w : World) (h0 : 0 ≤ b) (h1 : b < 256) :
    Calls Tryd.prog 48 #[.int .u16 (vI x), .int .u8 b] w fun e w' => e = .returned (.int .u16 (vI (byteV x b))) ∧ w = w' := by
  go_enter Tryd.func48, Tryd.ntmps48
  go_wp2
  go_loop [0, 5] (fun r i => ∃ k : Nat, k ≤ 8 ∧ i = .int .i64 k ∧ r = .int .u16 (vI (stepsV x (bB b) k))) (fun _ i => 8 - (intOf i).toNat)
  case atStart => exact ⟨0, Nat.zero_le _, rfl, rfl⟩
  case round =>
    obtain ⟨k, hk, rfl, rfl⟩ := hrel
    by_cases hlt : k < 8
    · have hki : (k : Int) < 8 := by omega
      go_wp2_with fail
      refine (rbit_v _ _ (bB b k) _ ?_).mono ?_
      · exact low_rem b k h0 h1
      rintro e w' ⟨rfl, rfl⟩
      go_wp2
      go_round
      case rel => exact ⟨k + 1, by omega, by go_num, rfl⟩
      case measure => simp [intOf]; omega
    · obtain rfl : k = 8 := by omega
      go_wp2
      go_ret
      exact ⟨rfl, rfl⟩
end Go.Proofs.YtanoakebbfidiaaDoor
