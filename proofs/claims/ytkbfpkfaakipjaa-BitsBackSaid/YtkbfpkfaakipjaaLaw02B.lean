/-
  THE LAWS OF LAYER 2: the walks of BitsTell, BitsBack, BitsParts.
-/
import Derived.Test.YtkbfpkfaakipjaaLaw02A
import Derived.Deep.LoopGhost
namespace Go.Proofs.Ytkbfpkfaakipjaa
open Go.RowKit

theorem wf_by {n : Int} (h : (Lit.int .u8 n).wf = true) : 0 ≤ n ∧ n < 256 := by have := bounds_u8 h; omega
theorem wf_in {n : Int} (h : (Lit.int .i64 n).wf = true) : -9223372036854775808 ≤ n ∧ n ≤ 9223372036854775807 := bounds_i64 h

set_option maxRecDepth 100000 in
set_option maxHeartbeats 1600000 in
theorem bitsTell.great (a : Option Addr) (n c : Nat) (b : Option Addr) (m d : Nat) (i : Int) (w : World) (hn : n ≤ maxLen) (hm : m ≤ maxLen) (h : 2500 < n ∨ 400 < m) :
    Calls Try.prog 3 #[.slice a n c, .slice b m d, .int .i64 i] w fun e w' => e = .returned (.bool true) ∧ Ext w w' := by
  unfold maxLen at hn hm
  by_cases h1 : 2500 < n
  · have k1 : decide ((2500 : Int) < n) = true := by simp; omega
    clear h h1
    go_enter Try.func3, Try.ntmps3
    go_wp2_with fail
    refine (sure2_any _).mono ?_; rintro e w8 ⟨rfl, x8⟩
    go_wp2
    go_ret
    exact ⟨rfl, x8⟩
  · have k1 : decide ((2500 : Int) < n) = false := by simp; omega
    have k2 : decide ((400 : Int) < m) = true := by simp; omega
    clear h h1
    go_enter Try.func3, Try.ntmps3
    go_wp2_with fail
    refine (sure2_any _).mono ?_; rintro e w8 ⟨rfl, x8⟩
    go_wp2
    go_ret
    exact ⟨rfl, x8⟩

set_option maxRecDepth 100000 in
set_option maxHeartbeats 3200000 in
theorem bitsTell.small (a : Option Addr) (n c : Nat) (f : Nat → Bool) (b : Option Addr) (m d : Nat) (g : Nat → Int) (i : Int) (w : World) (ha : HoldsG Value.bool w a n f) (hc : n ≤ c) (hcm : c ≤ maxLen)
    (hb : Holds .u8 w b m g) (hg : ∀ i, i < m → 0 ≤ g i ∧ g i < 256) (hn : n ≤ 2500) (hm : m ≤ 400) (i0 : -9223372036854775808 ≤ i) (i1 : i ≤ 9223372036854775807) :
    Calls Try.prog 3 #[.slice a n c, .slice b m d, .int .i64 i] w fun e w' => e = .returned (.bool true) ∧ Ext w w' := by
  have n1 : (n : Int) ≤ 2500 := by omega
  have m1 : (m : Int) ≤ 400 := by omega
  have k1 : decide ((2500 : Int) < n) = false := by simp; omega
  have k2 : decide ((400 : Int) < m) = false := by simp; omega
  have hN := @unN_le m i
  go_enter Try.func3, Try.ntmps3
  go_wp2_with fail
  refine (unpack_x b m d g i _ hb (by omega) hg i1).mono ?_; rintro e w1 ⟨b1, d1, rfl, _, _, h1, x1⟩
  go_wp2_with fail
  refine (runpack_x b m d g i _ (hb.ext x1) (by omega) hg i1).mono ?_; rintro e w2 ⟨b2, d2, rfl, _, _, h2, x2⟩
  go_wp2_with fail
  refine (rpack_any a n c f _ ((ha.ext x1).ext x2) (by omega)).mono ?_; rintro e w3 ⟨b3, d3, rfl, _, _, h3, x3⟩
  have y3 : Ext w w3 := (Ext.trans x1 x2).trans x3
  have a3 := ha.ext y3
  have bb3 := hb.ext y3
  have h13 := (h1.ext x2).ext x3
  have h23 := h2.ext x3
  clear ha hb h1 h2 x1 x2 x3
  obtain ⟨N, hNN⟩ : ∃ N, N = unN m i := ⟨_, rfl⟩
  obtain ⟨E, hEE⟩ : ∃ E, E = unE m i := ⟨_, rfl⟩
  obtain ⟨S, hSS⟩ : ∃ S, S = szN n := ⟨_, rfl⟩
  rw [← hNN] at hN h13 h23
  rw [← hSS] at h3
  rw [← hNN, ← hEE, ← hSS]
  have hSb : S ≤ 1000 := by rw [hSS]; unfold szN; omega
  have own : ∃ v : Int, v = flF f n ∧ (0 < S → v = pkF f n 0) ∧ (S = 0 → v = 0) := ⟨flF f n, rfl, fun _ => by have := pk_flF f n 0; simpa using this, fun h => by
    have : n = 0 := by rw [hSS] at h; unfold szN at h; omega
    subst this; unfold flF; rw [bt_congr (h := fun _ => false) 8 (fun i _ => by simp)]; decide⟩
  obtain ⟨v, hv, hv1, hv0⟩ := own
  have HV := Lib.hid hv
  have HV1 := Lib.hid hv1
  have HV0 := Lib.hid hv0
  clear hNN hEE hSS hv hv1 hv0
  by_cases hS : 0 < S
  · obtain ⟨p, o, rfl, hp, hce⟩ := h3.resolve_left (by omega)
    have c0 : w3.cell? ⟨p, o, none⟩ = some (.int .u8 v) := by rw [HV1.out hS]; exact hce 0 hS
    have hS' : (0 : Int) < S := by omega
    clear h3 hce
    go_wp2_with fail
    refine (pack_any a n c f _ a3 (by omega) hc hcm).mono ?_; rintro e w4 ⟨b4, d4, rfl, _, _, h4, x4⟩
    go_wp2_with fail
    refine (rpack_any a n c f _ (a3.ext x4) (by omega)).mono ?_; rintro e w5 ⟨b5, d5, rfl, _, _, h5, x5⟩
    go_wp2_with fail
    refine (bytes_eq _ _ (szN n) (szN n) _ _ _ _ _ (h4.ext x5) h5 (by unfold szN; omega) ⟨rfl, fun _ _ => rfl⟩).mono ?_; rintro e w6 ⟨rfl, x6⟩
    have y6 := (x4.trans x5).trans x6
    clear x4 x5 x6 h4 h5
    go_wp2_with fail
    refine (same_eq _ _ N N _ _ _ _ _ (h13.ext y6) (h23.ext y6) (by omega) ⟨rfl, fun _ _ => rfl⟩).mono ?_; rintro e w7 ⟨rfl, x7⟩
    have y7 := y6.trans x7
    clear x7 y6 h13 h23
    go_wp2_with fail
    refine (size_any i _ i0 i1).mono ?_; rintro e w' ⟨rfl, rfl⟩
    go_wp2_with fail
    refine (rsize_any i _ i0 i1).mono ?_; rintro e w' ⟨rfl, rfl⟩
    go_wp2_with fail
    refine (tidy_any b m d g i _ (bb3.ext y7) (by omega) hg i0 i1).mono ?_; rintro e w' ⟨rfl, rfl⟩
    go_wp2_with fail
    refine (rtidy_any b m d g i _ (bb3.ext y7) (by omega) hg i0 i1).mono ?_; rintro e w' ⟨rfl, rfl⟩
    go_wp2_with fail
    refine (ones_any a n c f _ (a3.ext y7) (by omega)).mono ?_; rintro e w' ⟨rfl, rfl⟩
    go_wp2_with fail
    refine (rones_any a n c f _ (a3.ext y7) (by omega)).mono ?_; rintro e w' ⟨rfl, rfl⟩
    go_wp2_with fail
    refine (flags_v a n c f v _ (a3.ext y7) (by omega) hc hcm HV.out.symm).mono ?_; rintro e w' ⟨rfl, rfl⟩
    go_wp2_with fail
    refine (sure2_any _).mono ?_; rintro e w8 ⟨rfl, x8⟩
    go_wp2
    go_ret
    exact ⟨rfl, (y3.trans y7).trans x8⟩
  · obtain rfl : S = 0 := by omega
    obtain rfl : v = 0 := HV0.out rfl
    clear h3 hS
    go_wp2_with fail
    refine (pack_any a n c f _ a3 (by omega) hc hcm).mono ?_; rintro e w4 ⟨b4, d4, rfl, _, _, h4, x4⟩
    go_wp2_with fail
    refine (rpack_any a n c f _ (a3.ext x4) (by omega)).mono ?_; rintro e w5 ⟨b5, d5, rfl, _, _, h5, x5⟩
    go_wp2_with fail
    refine (bytes_eq _ _ (szN n) (szN n) _ _ _ _ _ (h4.ext x5) h5 (by unfold szN; omega) ⟨rfl, fun _ _ => rfl⟩).mono ?_; rintro e w6 ⟨rfl, x6⟩
    have y6 := (x4.trans x5).trans x6
    clear x4 x5 x6 h4 h5
    go_wp2_with fail
    refine (same_eq _ _ N N _ _ _ _ _ (h13.ext y6) (h23.ext y6) (by omega) ⟨rfl, fun _ _ => rfl⟩).mono ?_; rintro e w7 ⟨rfl, x7⟩
    have y7 := y6.trans x7
    clear x7 y6 h13 h23
    go_wp2_with fail
    refine (size_any i _ i0 i1).mono ?_; rintro e w' ⟨rfl, rfl⟩
    go_wp2_with fail
    refine (rsize_any i _ i0 i1).mono ?_; rintro e w' ⟨rfl, rfl⟩
    go_wp2_with fail
    refine (tidy_any b m d g i _ (bb3.ext y7) (by omega) hg i0 i1).mono ?_; rintro e w' ⟨rfl, rfl⟩
    go_wp2_with fail
    refine (rtidy_any b m d g i _ (bb3.ext y7) (by omega) hg i0 i1).mono ?_; rintro e w' ⟨rfl, rfl⟩
    go_wp2_with fail
    refine (ones_any a n c f _ (a3.ext y7) (by omega)).mono ?_; rintro e w' ⟨rfl, rfl⟩
    go_wp2_with fail
    refine (rones_any a n c f _ (a3.ext y7) (by omega)).mono ?_; rintro e w' ⟨rfl, rfl⟩
    go_wp2_with fail
    refine (flags_v a n c f 0 _ (a3.ext y7) (by omega) hc hcm HV.out.symm).mono ?_; rintro e w' ⟨rfl, rfl⟩
    go_wp2_with fail
    refine (sure2_any _).mono ?_; rintro e w8 ⟨rfl, x8⟩
    go_wp2
    go_ret
    exact ⟨rfl, (y3.trans y7).trans x8⟩

theorem bitsTell.walk (a : Option Addr) (n c : Nat) (f : Nat → Bool) (b : Option Addr) (m d : Nat) (g : Nat → Int) (i : Int) (w : World) (ha : HoldsG Value.bool w a n f) (hn : n ≤ maxLen) (hc : n ≤ c) (hcm : c ≤ maxLen)
    (hb : Holds .u8 w b m g) (hm : m ≤ maxLen) (_hd : m ≤ d) (_hdm : d ≤ maxLen) (hg : ∀ i, i < m → (Lit.int .u8 (g i)).wf = true) (hi : (Lit.int .i64 i).wf = true) :
    Calls Try.prog 3 #[.slice a n c, .slice b m d, .int .i64 i] w fun e w' => e = .returned (.bool true) ∧ Ext w w' := by
  by_cases h : 2500 < n ∨ 400 < m
  · exact bitsTell.great a n c b m d i w hn hm h
  · exact bitsTell.small a n c f b m d g i w ha hc hcm hb (fun i hi => wf_by (hg i hi)) (by omega) (by omega) (wf_in hi).1 (wf_in hi).2
end Go.Proofs.Ytkbfpkfaakipjaa
