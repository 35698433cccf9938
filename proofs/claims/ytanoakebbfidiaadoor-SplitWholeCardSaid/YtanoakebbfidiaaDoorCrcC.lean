/-
  CONTRACTS: bilgeref04.Append and Check; crc's cut, Check, Strip.
-/
import Derived.Test.YtanoakebbfidiaaDoorCrcB
namespace Go.Proofs.YtanoakebbfidiaaDoor
open Go.RowKit

theorem high_t (r : Int) (h0 : 0 ≤ r) (h1 : r < 65536) : IntKind.u16.wrap (r.tdiv 256) % 256 = r / (256 : Int) := by
  rw [Int.tdiv_eq_ediv_of_nonneg h0]
  show (r / 256) % 65536 % 256 = _
  omega
theorem cut_short (a : Option Addr) (n c : Nat) (w : World) (hn : n < 2) :
    Calls Tryd.prog 46 #[.slice a n c] w fun e w' => e = .returned (.tuple #[.slice none 0 0, .int .u16 0, .bool false]) ∧ w = w' := by
  have h : (n : Int) < 2 := by omega
  clear hn
  go_enter Tryd.func46, Tryd.ntmps46
  go_wp2
  go_ret3
  exact ⟨rfl, rfl⟩

theorem Holds.front {k : IntKind} {w : World} {a : Option Addr} {n m : Nat} {f : Nat → Int} (h : Holds k w a n f) (hm : m ≤ n) : Holds k w a m f := HoldsG.take (mk := Value.int k) h hm
theorem Holds.back {k : IntKind} {w : World} {b off n : Nat} {f : Nat → Int} (h : Holds k w (some ⟨b, off, none⟩) n f) (q : Nat) : Holds k w (some ⟨b, off + q, none⟩) (n - q) (fun i => f (q + i)) := HoldsG.drop (mk := Value.int k) h

set_option maxHeartbeats 1600000 in
theorem cut_long (a : Option Addr) (n c : Nat) (f : Nat → Int) (w : World) (ha : Holds .u8 w a (n + 2) f) (hc : n + 2 ≤ c) (hcm : c ≤ maxLen) (hn : n ≤ 1000000) (hf : ∀ i, i < n + 2 → 0 ≤ f i ∧ f i < 256) :
    Calls Tryd.prog 46 #[.slice a (n + 2) c] w fun e w' => e = .returned (.tuple #[.slice a n c, .int .u16 (f (n + 1) * 256 + f n), .bool true]) ∧ Ext w w' := by
  obtain ⟨b, off, rfl, hlt, hc0⟩ := id (ha.resolve_left (by omega))
  have h1 : ((n + 2 : Nat) : Int) - 2 = (n : Int) := by omega
  have h2 : ¬ ((n + 2 : Nat) : Int) < 2 := by omega
  have hb := ha.back n
  rw [show n + 2 - n = 2 from by omega] at hb
  have hbf : ∀ i, i < 2 → 0 ≤ f (n + i) ∧ f (n + i) < 256 := fun i hi => hf (n + i) (by omega)
  have hmax : c ≤ 9223372036854775807 := hcm
  go_enter Tryd.func46, Tryd.ntmps46
  go_wp2_with fail
  refine (unlow_two _ _ _ _ hb hbf).mono ?_; rintro e w1 ⟨rfl, q, rfl⟩
  go_wp2
  go_ret3
  exact ⟨rfl, Ext.drewN _ _⟩

/-- Do the bytes end with their sum? -/
def endB (f : Nat → Int) (n : Nat) : Bool := vI (sumV f n) == f (n + 1) * 256 + f n

theorem check_short (a : Option Addr) (n c : Nat) (w : World) (hn : n < 2) :
    Calls Tryd.prog 41 #[.slice a n c] w fun e w' => e = .returned (.bool false) ∧ w = w' := by
  go_enter Tryd.func41, Tryd.ntmps41
  go_wp2_with fail
  refine (cut_short a n c w hn).mono ?_; rintro e w1 ⟨rfl, rfl⟩
  go_wp2
  go_ret
  exact ⟨rfl, rfl⟩
set_option maxHeartbeats 1600000 in
theorem check_long (a : Option Addr) (n c : Nat) (f : Nat → Int) (w : World) (ht : Tabs w) (ha : Holds .u8 w a (n + 2) f) (hc : n + 2 ≤ c) (hcm : c ≤ maxLen) (hn : n ≤ 1000000) (hf : ∀ i, i < n + 2 → 0 ≤ f i ∧ f i < 256) :
    Calls Tryd.prog 41 #[.slice a (n + 2) c] w fun e w' => e = .returned (.bool (endB f n)) ∧ Ext w w' := by
  have h1 := cut_long a n c f w ha hc hcm hn hf
  have e0 : endB f n = (vI (sumV f n) == f (n + 1) * 256 + f n) := rfl
  generalize f (n + 1) * 256 + f n = told at h1 e0
  have H0 := Lib.hid e0
  clear e0
  go_enter Tryd.func41, Tryd.ntmps41
  go_wp2_with fail
  refine h1.mono ?_; rintro e w1 ⟨rfl, x1⟩
  go_wp2_with fail
  refine (sum_any a n c f _ (ht.ext x1) ((ha.front (by omega)).ext x1) hn (fun i hi => hf i (by omega))).mono ?_; rintro e w2 ⟨rfl, x2⟩
  go_wp2
  go_ret
  exact ⟨ret_b H0.out.symm, x1.trans x2⟩

theorem rcheck_short (a : Option Addr) (n c : Nat) (w : World) (hn : n < 2) :
    Calls Tryd.prog 27 #[.slice a n c] w fun e w' => e = .returned (.bool false) ∧ w = w' := by
  have h : (n : Int) - 2 < 0 := by omega
  go_enter Tryd.func27, Tryd.ntmps27
  go_wp2
  go_ret
  exact ⟨rfl, rfl⟩
set_option maxHeartbeats 1600000 in
theorem rcheck_long (a : Option Addr) (n c : Nat) (f : Nat → Int) (w : World) (ha : Holds .u8 w a (n + 2) f) (hc : n + 2 ≤ c) (hcm : c ≤ maxLen) (hn : n ≤ 1000000) (hf : ∀ i, i < n + 2 → 0 ≤ f i ∧ f i < 256) :
    Calls Tryd.prog 27 #[.slice a (n + 2) c] w fun e w' => e = .returned (.bool (endB f n)) ∧ Ext w w' := by
  obtain ⟨b, off, rfl, hlt, hc0⟩ := id (ha.resolve_left (by omega))
  have h2 : ¬ ((n + 2 : Nat) : Int) < 2 := by omega
  have c0 := hc0 n (by omega)
  have c1 : w.cell? ⟨b, off + (n + 1), none⟩ = some (.int .u8 (f (n + 1))) := hc0 (n + 1) (by omega)
  have hmax : c ≤ 9223372036854775807 := hcm
  have hr := rsum_any (some ⟨b, off, none⟩) n c f w (ha.front (by omega)) hn (fun i hi => hf i (by omega))
  obtain ⟨f00, f01⟩ := hf n (by omega)
  obtain ⟨f10, f11⟩ := hf (n + 1) (by omega)
  have s0 := vI_lo (sumV f n)
  have s1 := vI_hi (sumV f n)
  have e0 : endB f n = (vI (sumV f n) == f (n + 1) * 256 + f n) := rfl
  generalize vI (sumV f n) = s at *
  have H0 := Lib.hid e0
  clear ha hc0 hf e0
  go_enter Tryd.func27, Tryd.ntmps27
  go_wp2_with fail
  refine hr.mono ?_; rintro e w1 ⟨rfl, rfl⟩
  go_wp2
  · go_ret
    refine ⟨ret_b ?_, Ext.refl _⟩
    rw [H0.out, high_t s s0 s1, Bool.eq_iff_iff]
    simp only [beq_iff_eq]
    omega
  · go_ret
    refine ⟨ret_b ?_, Ext.refl _⟩
    rw [H0.out]
    symm
    rw [beq_eq_false_iff_ne]
    omega
end Go.Proofs.YtanoakebbfidiaaDoor
