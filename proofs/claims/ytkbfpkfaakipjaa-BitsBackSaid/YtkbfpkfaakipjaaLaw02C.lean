/-
  THE LAWS OF LAYER 2: the walk of BitsBack.
-/
import Derived.Test.YtkbfpkfaakipjaaLaw02B
namespace Go.Proofs.Ytkbfpkfaakipjaa
open Go.RowKit

set_option maxRecDepth 100000 in
set_option maxHeartbeats 1600000 in
theorem bitsBack.great (a : Option Addr) (n c : Nat) (b : Option Addr) (m d : Nat) (i : Int) (w : World) (hn : n ≤ maxLen) (hm : m ≤ maxLen) (h : 2500 < n ∨ 400 < m) :
    Calls Try.prog 4 #[.slice a n c, .slice b m d, .int .i64 i] w fun e w' => e = .returned (.bool true) ∧ Ext w w' := by
  unfold maxLen at hn hm
  by_cases h1 : 2500 < n
  · have k1 : decide ((2500 : Int) < n) = true := by simp; omega
    clear h h1
    go_enter Try.func4, Try.ntmps4
    go_wp2_with fail
    refine (sure2_any _).mono ?_; rintro e w8 ⟨rfl, x8⟩
    go_wp2
    go_ret
    exact ⟨rfl, x8⟩
  · have k1 : decide ((2500 : Int) < n) = false := by simp; omega
    have k2 : decide ((400 : Int) < m) = true := by simp; omega
    clear h h1
    go_enter Try.func4, Try.ntmps4
    go_wp2_with fail
    refine (sure2_any _).mono ?_; rintro e w8 ⟨rfl, x8⟩
    go_wp2
    go_ret
    exact ⟨rfl, x8⟩

theorem td_pk (f : Nat → Bool) (n : Nat) : tdB (pkF f n) (szN n) n = true :=
  tdB_iff.2 ⟨by omega, (szI_nat n).symm, fun k hk _ => by rw [un_pk']; rw [Int.toNat_natCast] at hk; simp; omega⟩
theorem eqB_td (b : Nat → Int) (m N : Nat) (hb : ∀ i, i < m → 0 ≤ b i ∧ b i < 256) (hm : m = szN N) : eqB m m (pkF (unF b) N) b = tdB b m N := by
  rw [Bool.eq_iff_iff, eqB_iff, tdB_iff]
  constructor
  · rintro ⟨_, h⟩
    exact ⟨by omega, by rw [szI_nat, hm], fun k hk hk2 => pk_un_only b m N h k (by rw [Int.toNat_natCast] at hk; exact hk) hk2⟩
  · rintro ⟨_, _, h⟩
    exact ⟨rfl, pk_un b m N hb hm (fun k hk hk2 => h k (by rw [Int.toNat_natCast]; exact hk) hk2)⟩

set_option maxRecDepth 100000 in
set_option maxHeartbeats 3200000 in
theorem bitsBack.small (a : Option Addr) (n c : Nat) (f : Nat → Bool) (b : Option Addr) (m d : Nat) (g : Nat → Int) (i : Int) (w : World) (ha : HoldsG Value.bool w a n f) (hc : n ≤ c) (hcm : c ≤ maxLen)
    (hb : Holds .u8 w b m g) (hg : ∀ i, i < m → 0 ≤ g i ∧ g i < 256) (hn : n ≤ 2500) (hm : m ≤ 400) (i0 : -9223372036854775808 ≤ i) (i1 : i ≤ 9223372036854775807) :
    Calls Try.prog 4 #[.slice a n c, .slice b m d, .int .i64 i] w fun e w' => e = .returned (.bool true) ∧ Ext w w' := by
  have n1 : (n : Int) ≤ 2500 := by omega
  have m1 : (m : Int) ≤ 400 := by omega
  have k1 : decide ((2500 : Int) < n) = false := by simp; omega
  have k2 : decide ((400 : Int) < m) = false := by simp; omega
  obtain ⟨S, hSS⟩ : ∃ S, S = szN n := ⟨_, rfl⟩
  have hSb : S ≤ 1000 := by rw [hSS]; unfold szN; omega
  have HS := Lib.hid hSS
  clear hSS
  go_enter Try.func4, Try.ntmps4
  go_wp2_with fail
  refine (pack_any a n c f _ ha (by omega) hc hcm).mono ?_; rintro e w1 ⟨b1, d1, rfl, _, _, h1, x1⟩
  rw [← HS.out] at h1 ⊢
  go_wp2_with fail
  refine (unpack_at b1 S d1 _ n n rfl _ h1 HS.out (by omega) (fun i _ => pkF_bd f n i)).mono ?_; rintro e w2 ⟨b2, d2, rfl, _, _, h2, x2⟩
  go_wp2_with fail
  refine (same_eq _ _ n n _ _ f _ _ ((ha.ext x1).ext x2) h2 (by omega) ⟨rfl, fun i hi => (un_pk f n i hi).symm⟩).mono ?_; rintro e w3 ⟨rfl, x3⟩
  go_wp2_with fail
  refine (tidy_v b1 S d1 _ n true _ ((h1.ext x2).ext x3) (by omega) (fun i _ => pkF_bd f n i) (by omega) (by omega) (by rw [HS.out]; exact td_pk f n)).mono ?_; rintro e w' ⟨rfl, rfl⟩
  go_wp2_with fail
  refine (size_v n S _ (by omega) (by omega) (by rw [HS.out]; exact szI_nat n)).mono ?_; rintro e w' ⟨rfl, rfl⟩
  have y3 : Ext w w3 := (Ext.trans x1 x2).trans x3
  have bb3 := hb.ext y3
  clear ha hb h1 h2 x1 x2 x3
  by_cases hE : unE m i = 0
  · obtain ⟨q0, q1⟩ := unE_zero.1 hE
    obtain ⟨N, rfl⟩ := Int.eq_ofNat_of_zero_le q0
    have hmN : m = szN N := by have := szI_nat N; omega
    have hNb : N ≤ 3200 := by rw [hmN] at hm; unfold szN at hm; omega
    have HE := Lib.hid (eqB_td g m N hg hmN)
    have HM := Lib.hid hmN
    have hcnt := cnt_le (unF g) N
    clear hE q0 q1 hmN
    go_wp2_with fail
    refine (unpack_at b m d g N N rfl _ bb3 HM.out (by omega) hg).mono ?_; rintro e w4 ⟨b4, d4, rfl, q4, q5, h4, x4⟩
    go_wp2_with fail
    refine (pack_any b4 N d4 (unF g) _ h4 (by omega) q4 q5).mono ?_; rintro e w5 ⟨b5, d5, rfl, _, _, h5, x5⟩
    rw [← HM.out] at h5 ⊢
    go_wp2_with fail
    refine (bytes_any _ _ m m _ _ _ g _ h5 ((bb3.ext x4).ext x5) (by omega) (by omega)).mono ?_; rintro e w6 ⟨rfl, x6⟩
    rw [HE.out]
    have y6 := (x4.trans x5).trans (Ext.of_drewN x6)
    have h46 := h4.ext (x5.trans (Ext.of_drewN x6))
    clear x4 x5 x6 h4 h5
    go_wp2_with fail
    refine (tidy_any b m d g N _ (bb3.ext y6) (by omega) hg i0 i1).mono ?_; rintro e w' ⟨rfl, rfl⟩
    obtain ⟨T, hT⟩ : ∃ T, T = tdB g m N := ⟨_, rfl⟩
    rw [← hT]
    have hTT : (T == T) = true := by simp
    clear hT
    go_wp2_with fail
    refine (ones_any b4 N d4 (unF g) _ h46 (by omega)).mono ?_; rintro e w' ⟨rfl, rfl⟩
    go_wp2_with fail
    refine (sure2_any _).mono ?_; rintro e w8 ⟨rfl, x8⟩
    go_wp2
    go_ret
    exact ⟨rfl, (y3.trans y6).trans x8⟩
  · have hN0 : unN m i = 0 := by unfold unN; rw [if_neg hE]
    have hT : tdB g m i = false := by
      cases e : tdB g m i with
      | false => rfl
      | true => obtain ⟨t1, t2, _⟩ := tdB_iff.1 e; exact absurd (unE_zero.2 ⟨t1, t2⟩) hE
    have HN := Lib.hid hN0
    have HT := Lib.hid hT
    obtain ⟨E, hEE⟩ : ∃ E, E = unE m i := ⟨_, rfl⟩
    have hE0 : (E != 0) = true := by rw [hEE]; simpa using hE
    have HEE := Lib.hid hEE
    clear hN0 hT hE hEE
    go_wp2_with fail
    refine (unpack_x b m d g i _ bb3 (by omega) hg i1).mono ?_; rintro e w4 ⟨b4, d4, rfl, _, _, h4, x4⟩
    rw [HN.out, ← HEE.out]
    go_wp2_with fail
    refine (tidy_v b m d g i false _ (bb3.ext x4) (by omega) hg i0 i1 HT.out).mono ?_; rintro e w' ⟨rfl, rfl⟩
    go_wp2_with fail
    refine (sure2_any _).mono ?_; rintro e w8 ⟨rfl, x8⟩
    go_wp2
    go_ret
    exact ⟨rfl, (y3.trans x4).trans x8⟩

theorem bitsBack.walk (a : Option Addr) (n c : Nat) (f : Nat → Bool) (b : Option Addr) (m d : Nat) (g : Nat → Int) (i : Int) (w : World) (ha : HoldsG Value.bool w a n f) (hn : n ≤ maxLen) (hc : n ≤ c) (hcm : c ≤ maxLen)
    (hb : Holds .u8 w b m g) (hm : m ≤ maxLen) (_hd : m ≤ d) (_hdm : d ≤ maxLen) (hg : ∀ i, i < m → (Lit.int .u8 (g i)).wf = true) (hi : (Lit.int .i64 i).wf = true) :
    Calls Try.prog 4 #[.slice a n c, .slice b m d, .int .i64 i] w fun e w' => e = .returned (.bool true) ∧ Ext w w' := by
  by_cases h : 2500 < n ∨ 400 < m
  · exact bitsBack.great a n c b m d i w hn hm h
  · exact bitsBack.small a n c f b m d g i w ha hc hcm hb (fun i hi => wf_by (hg i hi)) (by omega) (by omega) (wf_in hi).1 (wf_in hi).2
end Go.Proofs.Ytkbfpkfaakipjaa
