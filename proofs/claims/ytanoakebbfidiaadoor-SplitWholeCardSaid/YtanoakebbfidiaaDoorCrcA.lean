/-
  CONTRACTS of package crc: Table, with, Update, through, Sum; bilgeref04.Sum.
-/
import Derived.Test.YtanoakebbfidiaaDoorCrcMath
import Derived.Test.YtanoakebbfidiaaDoorPolyX
import Derived.Test.YtanoakebbfidiaaDoorWordA
namespace Go.Proofs.YtanoakebbfidiaaDoor
open Go.RowKit

/-- The two tables lie where they were laid. -/
def Tabs (w : World) : Prop :=
  (∀ i, i < 16 → w.cell? ⟨0, i, none⟩ = some (.int .u16 (lowT.getD i 0 : Nat))) ∧ (∀ i, i < 16 → w.cell? ⟨1, i, none⟩ = some (.int .u16 (highT.getD i 0 : Nat)))
theorem Tabs.ext {w w' : World} (h : Tabs w) (x : Ext w w') : Tabs w' :=
  ⟨fun i hi => x.cell (World.block_lt_of_cell? w _ (h.1 i hi)) (h.1 i hi), fun i hi => x.cell (World.block_lt_of_cell? w _ (h.2 i hi)) (h.2 i hi)⟩

theorem nib_low (B : Nat) (hB : B < 256) : bits .and .u8 (B : Int) 15 = ((B % 16 : Nat) : Int) := by
  rw [u8_and _ _ (by omega) (by omega) (by decide) (by decide), Int.toNat_natCast, show (15 : Int).toNat = 15 from rfl]
  congr 1
  exact Nat.and_two_pow_sub_one_eq_mod B 4
theorem halves_xor (B : Nat) (hB : B < 256) : bits .xor .u16 (lowT.getD (B % 16) 0 : Nat) (highT.getD (B / 16) 0 : Nat) = vI (byteV 0#16 (B : Int)) := by
  have h1 := low_lt ⟨B % 16, by omega⟩
  have h2 := high_lt ⟨B / 16, by omega⟩
  simp only at h1 h2
  rw [u16_xor _ _ (by omega) (by omega) (by omega) (by omega), Int.toNat_natCast, Int.toNat_natCast]
  exact halves B hB

set_option maxHeartbeats 1000000 in
theorem table_any (b : Int) (w : World) (ht : Tabs w) (h0 : 0 ≤ b) (h1 : b < 256) :
    Calls Tryd.prog 54 #[.int .u8 b] w fun e w' => e = .returned (.int .u16 (vI (byteV 0#16 b))) ∧ Ext w w' := by
  obtain ⟨B, hB, rfl⟩ := byte_nat h0 h1
  have n1 := nib_low B hB
  have hx := Lib.hid (halves_xor B hB)
  have c0 := ht.1 (B % 16) (by omega)
  have c1 := ht.2 (B / 16) (by omega)
  generalize lowT.getD (B % 16) 0 = X at c0 hx
  generalize highT.getD (B / 16) 0 = Y at c1 hx
  obtain ⟨L, hL⟩ : ∃ L, L = B % 16 := ⟨_, rfl⟩
  obtain ⟨H, hH⟩ : ∃ H, H = B / 16 := ⟨_, rfl⟩
  have n2 : (B : Int) / 16 = (H : Int) := by omega
  rw [← hL] at n1 c0
  rw [← hH] at c1
  have l1 : (L : Int) < 16 := by omega
  have l2 : (H : Int) < 16 := by omega
  clear hL hH ht
  go_enter Tryd.func54, Tryd.ntmps54
  go_wp2
  go_quiet (fail)
  go_wp2
  go_ret
  exact ⟨ret_u16 hx.out, Ext.drewN _ _⟩

theorem with_math (x : BitVec 16) (b : Int) (h0 : 0 ≤ b) (h1 : b < 256) :
    bits .xor .u8 (vI x % (256 : Int)) b = xB (vI x % (256 : Int)) b ∧ bits .xor .u16 (vI x / (256 : Int)) (vI (byteV 0#16 (xB (vI x % (256 : Int)) b))) = vI (byteV x b) := by
  obtain ⟨B, hB, rfl⟩ := byte_nat h0 h1
  have hx := x.isLt
  have l0 := vI_lo x
  have l1 := vI_hi x
  refine ⟨xB_bits _ _ (by omega) (by omega) (by omega) (by omega), ?_⟩
  have e1 : vI x % (256 : Int) = ((x.toNat % 256 : Nat) : Int) := by unfold vI; omega
  have e2 : vI x / (256 : Int) = vI (BitVec.ofNat 16 (x.toNat / 256)) := by unfold vI; rw [BitVec.toNat_ofNat]; omega
  have e3 : xB ((x.toNat % 256 : Nat) : Int) (B : Int) = ((x.toNat % 256 ^^^ B : Nat) : Int) := by unfold xB; rw [Int.toNat_natCast, Int.toNat_natCast]
  rw [e1, e2, e3, vI_xor, byteV_split x B]

set_option maxHeartbeats 1000000 in
theorem with_any (x : BitVec 16) (b : Int) (w : World) (ht : Tabs w) (h0 : 0 ≤ b) (h1 : b < 256) :
    Calls Tryd.prog 51 #[.int .u16 (vI x), .int .u8 b] w fun e w' => e = .returned (.int .u16 (vI (byteV x b))) ∧ Ext w w' := by
  obtain ⟨m1, m2⟩ := with_math x b h0 h1
  obtain ⟨r, hr⟩ : ∃ r, r = vI x := ⟨_, rfl⟩
  obtain ⟨z, hz⟩ : ∃ z, z = vI (byteV x b) := ⟨_, rfl⟩
  have l0 : 0 ≤ r := hr ▸ vI_lo x
  have l1 : r < 65536 := hr ▸ vI_hi x
  rw [← hr, ← hz] at m2
  rw [← hr] at m1
  rw [← hr, ← hz]
  have q0 := xB_lo (r % 256) b
  have q1 := xB_hi (r % 256) b (by omega) h1
  generalize xB (r % 256) b = q at *
  have HM := Lib.hid m2
  clear hr hz m2
  go_enter Tryd.func51, Tryd.ntmps51
  go_wp2_with fail
  refine (table_any q _ ht q0 q1).mono ?_; rintro e w' ⟨rfl, x1⟩
  have HM2 := HM.out
  go_wp2
  go_ret
  exact ⟨rfl, x1⟩

set_option maxHeartbeats 1000000 in
theorem through_any (a : Option Addr) (n c : Nat) (f : Nat → Int) (x : BitVec 16) (w : World) (ht : Tabs w) (ha : Holds .u8 w a n f) (hn : n ≤ 1000000) (hf : ∀ i, i < n → 0 ≤ f i ∧ f i < 256) :
    Calls Tryd.prog 50 #[.int .u16 (vI x), .slice a n c, .func (Fn.func 51) #[] #[]] w fun e w' => e = .returned (.int .u16 (vI (remV x f n))) ∧ Ext w w' := by
  go_enter Tryd.func50, Tryd.ntmps50
  go_wp2
  go_loopw [0, 11] (fun r i wr => ∃ k : Nat, k ≤ n ∧ i = .int .i64 k ∧ r = .int .u16 (vI (remV x f k)) ∧ Ext w wr) (fun _ i _ => n - (intOf i).toNat)
  case atStart => exact ⟨0, Nat.zero_le _, rfl, rfl, Ext.refl _⟩
  case round =>
    obtain ⟨k, hk, rfl, rfl, hx⟩ := hrel
    by_cases hlt : k < n
    · obtain ⟨p, o, rfl, hp, hc⟩ := (ha.ext hx).resolve_left (by omega)
      have c0 := hc k hlt
      obtain ⟨f0, f1⟩ := hf k hlt
      have ht1 := ht.ext hx
      clear hc ha hf ht
      go_wp2_with fail
      refine (with_any (remV x f k) (f k) _ ht1 f0 f1).mono ?_; rintro e w' ⟨rfl, x1⟩
      go_wp2
      go_roundw
      case rel => exact ⟨k + 1, by omega, by go_num, rfl, hx.trans x1⟩
      case measure => simp [intOf]; omega
    · obtain rfl : k = n := by omega
      clear ha hf ht
      go_wp2
      go_ret
      exact ⟨rfl, hx⟩

theorem start_v : (65535 : Int) = vI 65535#16 := by decide
/-- The sum of bytes. -/
def sumV (f : Nat → Int) (n : Nat) : BitVec 16 := remV 65535#16 f n
theorem sum_any (a : Option Addr) (n c : Nat) (f : Nat → Int) (w : World) (ht : Tabs w) (ha : Holds .u8 w a n f) (hn : n ≤ 1000000) (hf : ∀ i, i < n → 0 ≤ f i ∧ f i < 256) :
    Calls Tryd.prog 47 #[.slice a n c] w fun e w' => e = .returned (.int .u16 (vI (sumV f n))) ∧ Ext w w' := by
  have h := through_any a n c f 65535#16 w ht ha hn hf
  rw [← start_v] at h
  go_enter Tryd.func47, Tryd.ntmps47
  go_wp2_with fail
  refine h.mono ?_; rintro e w' ⟨rfl, x1⟩
  go_wp2
  go_ret
  exact ⟨rfl, x1⟩
theorem rsum_any (a : Option Addr) (n c : Nat) (f : Nat → Int) (w : World) (ha : Holds .u8 w a n f) (hn : n ≤ 1000000) (hf : ∀ i, i < n → 0 ≤ f i ∧ f i < 256) :
    Calls Tryd.prog 40 #[.slice a n c] w fun e w' => e = .returned (.int .u16 (vI (sumV f n))) ∧ w = w' := by
  have h := rrem_any a n c f 65535#16 w ha hn hf
  rw [← start_v] at h
  go_enter Tryd.func40, Tryd.ntmps40
  go_wp2_with fail
  refine h.mono ?_; rintro e w' ⟨rfl, rfl⟩
  go_wp2
  go_ret
  exact ⟨rfl, rfl⟩
end Go.Proofs.YtanoakebbfidiaaDoor
