/-
  THE LAWS OF LAYER 4: the walk of CrcBursts.
-/
import Derived.Test.YtgemdnmcklpbkaaDoorLaw04G
namespace Go.Proofs.YtgemdnmcklpbkaaDoor
open Go.RowKit

theorem crcBursts.great (a : Option Addr) (n c : Nat) (p q : Int) (w : World) (ht : Tabs w) (hn : n ≤ 140737488351232) (h : 400 < n) :
    Calls Tryd.prog 6 #[.slice a n c, .int .u16 p, .int .u16 q] w fun e w' => e = .returned (.bool true) ∧ Ext w w' := by
  have k1 : (400 : Int) < n := by omega
  clear h
  go_enter Tryd.func6, Tryd.ntmps6
  go_wp2_with fail
  refine (sure4_any _ ht).mono ?_; rintro e w8 ⟨rfl, x8⟩
  go_wp2
  go_ret
  exact ⟨rfl, x8⟩

/-- The bits that are turned behind j rounds. -/
def burst (k : Nat) (T : Nat) (j : Nat) : Nat → Bool := fun t => decide (k ≤ t) && decide (t < k + j) && T.testBit (t - k)
theorem burst_no (k T t : Nat) : burst k T 0 t = false := by
  unfold burst
  by_cases h : k ≤ t
  · rw [decide_eq_false (show ¬ t < k + 0 by omega)]; simp
  · rw [decide_eq_false h]; simp
theorem burst_at {k T j : Nat} : burst k T j (k + j) = false := by unfold burst; rw [decide_eq_false (show ¬ k + j < k + j by omega)]; simp
theorem burst_set {k T j : Nat} (h : T.testBit j = true) : burst k T (j + 1) = upd (burst k T j) (k + j) true := by
  funext t
  by_cases e : t = k + j
  · subst e; rw [upd_same]; unfold burst; rw [show k + j - k = j from by omega, h, decide_eq_true (by omega), decide_eq_true (by omega)]; rfl
  · rw [upd_other _ _ _ _ e]; unfold burst; rw [show decide (t < k + (j + 1)) = decide (t < k + j) from decide_eq_decide.2 (by omega)]
theorem burst_skip {k T j : Nat} (h : T.testBit j = false) : burst k T (j + 1) = burst k T j := by
  funext t
  by_cases e : t = k + j
  · subst e; unfold burst; rw [show k + j - k = j from by omega, h]; simp
  · unfold burst; rw [show decide (t < k + (j + 1)) = decide (t < k + j) from decide_eq_decide.2 (by omega)]
theorem bit_rem (T j : Nat) : ((((T : Int) / 2 ^ j).tmod 2) == 1) = T.testBit j := by
  have e : ((T : Int) / 2 ^ j) = ((T / 2 ^ j : Nat) : Int) := by simp
  rw [e, Nat.testBit_eq_decide_div_mod_eq, Int.tmod_eq_emod_of_nonneg (Int.natCast_nonneg _), Bool.eq_iff_iff]
  simp; omega

set_option maxRecDepth 100000 in
set_option maxHeartbeats 3200000 in
theorem crcBursts.small (a : Option Addr) (n c : Nat) (f : Nat → Int) (p q : Int) (T : Nat) (w : World) (ht : Tabs w) (ha : Holds .u8 w a n f) (hf : ∀ i, i < n → 0 ≤ f i ∧ f i < 256) (p0 : 0 ≤ p) (p1 : p < 65536) (q1 : q < 65536) (hT : q = (T : Int)) (hn : n ≤ 400) :
    Calls Tryd.prog 6 #[.slice a n c, .int .u16 p, .int .u16 q] w fun e w' => e = .returned (.bool true) ∧ Ext w w' := by
  have k1 : (n : Int) ≤ 400 := by omega
  obtain ⟨L, hL⟩ : ∃ L, L = n + 2 := ⟨_, rfl⟩
  obtain ⟨N, hN⟩ : ∃ N, N = 8 * L := ⟨_, rfl⟩
  have k3 : (n : Int) + 2 = (L : Int) := by omega
  have k4 : 8 * (L : Int) = (N : Int) := by omega
  have k5 : (N : Int) ≤ 4000 := by omega
  have k6 : 0 < (N : Int) := by omega
  have hap := append_any a n c f w ht ha (by omega) hf
  rw [← hL] at hap
  obtain ⟨k, hk⟩ : ∃ k : Nat, p % (N : Int) = (k : Int) := ⟨(p % (N : Int)).toNat, by have := Int.emod_nonneg p (show (N : Int) ≠ 0 by omega); omega⟩
  have hkN : k < N := by have := Int.emod_lt_of_pos p k6; omega
  have hki : (k : Int) ≤ 4000 := by omega
  have q0 : 0 ≤ q := by omega
  have HT := Lib.hid hT
  have HL := Lib.hid hL
  have HN := Lib.hid hN
  clear hL hN ha hT
  go_enter Tryd.func6, Tryd.ntmps6
  go_wp2_with fail
  refine hap.mono ?_; rintro e w1 ⟨b1, d1, rfl, c1, m1, h1, x1⟩
  have t1 := ht.ext x1
  have hg1 := andTwo_bd f n (vI (sumV f n)) hf (vI_lo _) (vI_hi _)
  have HG1 := Lib.hid hg1
  clear ht hap hf hg1
  go_wp2_with fail
  rw [hk]
  clear hk
  go_loopw [8, 10] (fun y i wr => ∃ (j : Nat) (yb : Option Addr) (yd : Nat) (g : Nat → Int), j ≤ 16 ∧ i = .int .i64 j ∧ y = .slice yb L yd ∧ L ≤ yd ∧ yd ≤ maxLen ∧ Holds .u8 wr yb L g ∧ (∀ i, i < L → 0 ≤ g i ∧ g i < 256) ∧ (∀ i, i < L → ∀ t, t < 8 → bB (g i) t = (bB (andTwo f n (vI (sumV f n)) i) t ^^ burst k T j (8 * i + t))) ∧ Ext w1 wr) (fun _ i _ => 16 - (intOf i).toNat)
  case atStart => exact ⟨0, b1, d1, _, Nat.zero_le _, rfl, rfl, c1, m1, h1, fun i _ => HG1.out i, fun i _ t _ => by rw [burst_no, Bool.xor_false], Ext.refl _⟩
  case round =>
    obtain ⟨j, yb, yd, g, hj, rfl, rfl, hyd, hym, hy, hg, hbits, hx⟩ := hrel
    have HBits := Lib.hid hbits
    clear hbits
    by_cases hlt : j < 16
    · have hlt' : (j : Int) < 16 := by omega
      have hbit := bit_rem T j
      rw [← HT.out] at hbit
      clear hj t1 h1 hlt
      cases hTb : T.testBit j
      · rw [hTb] at hbit
        have HTb := Lib.hid hTb
        clear hTb
        go_wp2
        go_roundw
        case rel => exact ⟨j + 1, yb, yd, g, by omega, by go_num, rfl, hyd, hym, hy, hg, by rw [burst_skip HTb.out]; exact HBits.out, hx⟩
        case measure => simp [intOf]; omega
      · rw [hTb] at hbit
        have HTb := Lib.hid hTb
        clear hTb
        obtain ⟨z, hz⟩ : ∃ z : Nat, (k : Int) + (j : Int) = (z : Int) := ⟨k + j, by omega⟩
        have HZ : Hid (z = k + j) := Lib.hid (by omega)
        have hz2 : (z : Int) ≤ 5000 := by omega
        go_wp2_with fail
        refine (flip_any yb L yd z g _ hy (by omega) (by omega) hg).mono ?_; rintro e w5 ⟨b5, d5, rfl, c5, m5, h5, x5, _⟩
        have x6 := hx.trans x5
        clear hy hx x5
        go_wp2
        go_roundw
        case rel => exact ⟨j + 1, b5, d5, _, by omega, by go_num, rfl, c5, m5, h5, flipF_bd g z L hg, by rw [burst_set HTb.out, HZ.out]; exact more_bit burst_at HBits.out, x6⟩
        case measure => simp [intOf]; omega
    · obtain rfl : j = 16 := by omega
      have t2 := t1.ext hx
      have h2 := h1.ext hx
      have hgL : ∀ i, i < n + 2 → 0 ≤ g i ∧ g i < 256 := by rw [← HL.out]; exact hg
      have hiff := hurt f g n (burst k T 16) hgL (by rw [← HL.out]; exact HBits.out)
      rw [← HL.out, ← HN.out] at hiff
      have hsame : eqB L L (andTwo f n (vI (sumV f n))) g = endsB g L := by
        rw [Bool.eq_iff_iff, hiff, eqB_iff]
        constructor
        · rintro ⟨_, hall⟩
          refine stepsV_none _ N fun t htN => ?_
          have h8 := HN.out
          have := HBits.out (t / 8) (by omega) (t % 8) (by omega)
          rw [← hall (t / 8) (by omega), show 8 * (t / 8) + t % 8 = t from by omega] at this
          revert this
          cases bB (andTwo f n (vI (sumV f n)) (t / 8)) (t % 8) <;> cases burst k T 16 t <;> simp
        · intro hz
          have hno := near_left (burst k T 16) k N (fun t ht => by unfold burst; rw [decide_eq_false (by omega)]; rfl) (fun t ht => by unfold burst; rw [decide_eq_false (show ¬ t < k + 16 by omega)]; simp) hz
          refine ⟨rfl, fun i hi => byte_bits (HG1.out i) (hg i hi) fun t ht => ?_⟩
          rw [HBits.out i hi t ht, hno _ (by rw [HN.out]; omega), Bool.xor_false]
      have HS := Lib.hid hsame
      clear t1 h1 hj hlt hiff hgL hsame
      go_wp2_with fail
      refine (check_any yb L yd g _ t2 hy hyd hym (by omega) hg).mono ?_; rintro e w6 ⟨rfl, x6⟩
      have t3 := t2.ext x6
      have h3 := h2.ext x6
      have y3 := hy.ext x6
      have x7 := (x1.trans hx).trans x6
      clear hy t2 h2
      go_wp2_with fail
      refine (bytes_any b1 yb L L _ _ _ g _ h3 y3 (by omega) (by omega)).mono ?_; rintro e w8 ⟨rfl, q8, rfl⟩
      rw [HS.out]
      have t8 := t3.ext (Ext.drewN _ q8)
      have x8 := x7.trans (Ext.drewN w6 q8)
      clear t3 h3 y3 x7 hg
      go_wp2_with fail
      refine (sure4_any _ t8).mono ?_; rintro e w10 ⟨rfl, x10⟩
      go_wp2
      go_ret
      exact ⟨rfl, x8.trans x10⟩

theorem crcBursts.walk (a : Option Addr) (n c : Nat) (f : Nat → Int) (p q : Int) (w : World) (ht : Tabs w)
    (ha : Holds .u8 w a n f) (hc : n ≤ c) (hcm : c * 1 ≤ 140737488351232) (hf : ∀ i, i < n → (Lit.int .u8 (f i)).wf = true) (hp : (Lit.int .u16 p).wf = true) (hq : (Lit.int .u16 q).wf = true) :
    Calls Tryd.prog 6 #[.slice a n c, .int .u16 p, .int .u16 q] w fun e w' => e = .returned (.bool true) ∧ Ext w w' := by
  by_cases h : 400 < n
  · exact crcBursts.great a n c p q w ht (by omega) h
  · have hp' := bounds_u16 hp
    have hq' := bounds_u16 hq
    obtain ⟨Q, hQ⟩ := Int.eq_ofNat_of_zero_le (show 0 ≤ q by omega)
    exact crcBursts.small a n c f p q Q w ht ha (fun i hi => wf8 (hf i hi)) (by omega) (by omega) (by omega) hQ (by omega)
end Go.Proofs.YtgemdnmcklpbkaaDoor
