/-
  THE LAWS OF LAYER 1: the walk of WordBack.
-/
import Derived.Test.YtgihepbglfhahaaLaw01B
import Derived.Deep.LoopGhost
namespace Go.Proofs.Ytgihepbglfhahaa
open Go.RowKit

theorem wf_u16 {n : Int} (h : (Lit.int .u16 n).wf = true) : 0 ≤ n ∧ n < 65536 := by have := bounds_u16 h; omega
theorem wf_u8 {n : Int} (h : (Lit.int .u8 n).wf = true) : 0 ≤ n ∧ n < 256 := by have := bounds_u8 h; omega
theorem get_put (f : Nat → Int) (i : Nat) : getF (putF f) i = f i := by
  unfold getF; rw [putF_even, putF_odd]; omega
theorem put_get (g : Nat → Int) (m : Nat) (hg : ∀ i, i < 2 * m → 0 ≤ g i ∧ g i < 256) : ∀ j, j < 2 * m → putF (getF g) j = g j := by
  intro j hj
  rcases Nat.mod_two_eq_zero_or_one j with h | h
  · obtain ⟨k, rfl⟩ : ∃ k, j = 2 * k := ⟨j / 2, by omega⟩
    have h1 := hg (2 * k) (by omega)
    have h2 := hg (2 * k + 1) (by omega)
    rw [putF_even]; unfold getF; omega
  · obtain ⟨k, rfl⟩ : ∃ k, j = 2 * k + 1 := ⟨j / 2, by omega⟩
    have h1 := hg (2 * k) (by omega)
    have h2 := hg (2 * k + 1) (by omega)
    rw [putF_odd]; unfold getF; omega
theorem getF_bd (g : Nat → Int) (m : Nat) (hg : ∀ i, i < 2 * m → 0 ≤ g i ∧ g i < 256) : ∀ j, j < m → 0 ≤ getF g j ∧ getF g j < 65536 := by
  intro j hj
  have h1 := hg (2 * j) (by omega)
  have h2 := hg (2 * j + 1) (by omega)
  unfold getF; omega
theorem tw_tw (a : Int) (a0 : 0 ≤ a) (a1 : a < 65536) : tw (tw a) = a := by
  unfold tw; rw [Int.toNat_natCast, rk_rk 16 _ (by omega)]; omega
theorem at_x (a : Option Addr) (n c i : Nat) (j : Int) (hj : j = i) (f : Nat → Int) (w : World) (ha : Holds .u8 w a n f) (hn : n ≤ 1000000) (hi : i + 1 < n) (hf : ∀ i, i < n → 0 ≤ f i ∧ f i < 256) (v : Int) (hv : f i * 256 + f (i + 1) = v) :
    Calls Try.prog 9 #[.slice a n c, .int .i64 j] w fun e w' => e = .returned (.tuple #[.int .u16 v, .bool true]) ∧ Ext w w' := by
  subst hj; subst hv
  exact (at_some a n c i f w ha hn hi hf).mono fun _ _ h => ⟨h.1, Ext.of_drewN h.2⟩
theorem unlow_x (a : Option Addr) (c : Nat) (x : Int) (w : World) (ha : Holds .u8 w a 2 (lowF x)) (x0 : 0 ≤ x) (x1 : x < 65536) :
    Calls Try.prog 18 #[.slice a 2 c] w fun e w' => e = .returned (.tuple #[.int .u16 x, .bool true]) ∧ Ext w w' :=
  (unlow_two a c (lowF x) w ha (small2 (by simp [lowF]; omega) (by simp [lowF]; omega))).mono fun _ _ h => ⟨by rw [h.1]; simp only [lowF]; congr 3; simp; omega, Ext.of_drewN h.2⟩

attribute [local irreducible] tw

set_option maxRecDepth 100000 in
set_option maxHeartbeats 3200000 in
theorem wordBack.small (a : Option Addr) (n c : Nat) (f : Nat → Int) (b : Option Addr) (m d : Nat) (g : Nat → Int) (w : World) (ha : Holds .u16 w a n f) (hf : ∀ i, i < n → 0 ≤ f i ∧ f i < 65536)
    (hb : Holds .u8 w b m g) (hg : ∀ i, i < m → 0 ≤ g i ∧ g i < 256) (hn : n ≤ 300) (hm : m ≤ 600) :
    Calls Try.prog 4 #[.slice a n c, .slice b m d] w fun e w' => e = .returned (.bool true) ∧ Ext w w' := by
  have n1 : (n : Int) ≤ 300 := by omega
  have m1 : (m : Int) ≤ 600 := by omega
  have k1 : decide ((300 : Int) < n) = false := by simp; omega
  have k2 : decide ((600 : Int) < m) = false := by simp; omega
  go_enter Try.func4, Try.ntmps4
  go_wp2_with fail
  refine (wput_any a n c f _ ha (by omega) hf).mono ?_; rintro e w1 ⟨b1, d1, rfl, h1, x1⟩
  go_wp2_with fail
  refine (get_even b1 n d1 (putF f) _ h1 (by omega) (putF_bd f n hf)).mono ?_; rintro e w2 ⟨b2, d2, rfl, h2, x2⟩
  go_wp2_with fail
  refine (words_same _ _ n _ _ f (getF (putF f)) _ ((ha.ext x1).ext x2) h2 (by omega) (fun i _ => (get_put f i).symm)).mono ?_; rintro e w3 ⟨rfl, x3⟩
  go_wp2_with fail
  have y3 : Ext w w3 := (Ext.trans x1 x2).trans x3
  have h3 := (h1.ext x2).ext x3
  have ha3 := ha.ext y3
  clear ha h1 h2 x1 x2 x3
  go_loopw [8, 9, 10, 11, 12] (fun i _ _ _ _ wr => ∃ k : Nat, k ≤ n ∧ i = .int .i64 k ∧ Ext w3 wr) (fun i _ _ _ _ _ => n - (intOf i).toNat)
  case atStart => exact ⟨0, Nat.zero_le _, rfl, Ext.refl _⟩
  case round =>
    obtain ⟨k, hk, rfl, xr⟩ := hrel
    by_cases hlt : k < n
    · have hl1 : (k : Int) < n := by omega
      obtain ⟨p, o, rfl, hp, hc⟩ := ha3.resolve_left (by omega)
      obtain ⟨f0, f1⟩ := hf k hlt
      go_wp2_with fail
      refine (at_x b1 (2 * n) d1 (2 * k) _ (by omega) (putF f) _ (h3.ext xr) (by omega) (by omega) (putF_bd f n hf) (f k) (by rw [putF_even, putF_odd]; omega)).mono ?_; rintro e w5 ⟨rfl, x5⟩
      have c5 := (xr.trans x5).cell hp (hc k hlt)
      go_wp2_with fail
      refine (low_any (f k) _ f0 f1).mono ?_; rintro e w6 ⟨b6, d6, rfl, h6, x6⟩
      go_wp2_with fail
      refine (unlow_x b6 d6 (f k) _ h6 f0 f1).mono ?_; rintro e w7 ⟨rfl, x7⟩
      have y7 : Ext w3 w7 := ((xr.trans x5).trans x6).trans x7
      have c7 := y7.cell hp (hc k hlt)
      obtain ⟨t0, t1⟩ := tw_bd (f k)
      have htt := tw_tw (f k) f0 f1
      clear hc c5 x5 x6 x7 xr h6
      go_wp2_with fail
      go_quiet ((go_at_call 11; first | exact Calls.quiet_of (turn_any (f k) _ f0 f1) | exact Calls.quiet_of (turn_any (tw (f k)) _ t0 t1)))
      clear htt t0 t1 f0 f1 c7
      go_wp2
      go_roundw
      case rel => exact ⟨k + 1, by omega, by go_num, y7.trans (Ext.drewN _ _)⟩
      case measure => simp [intOf]; omega
    · have hl1 : (n : Int) ≤ k := by omega
      have y4 := y3.trans xr
      have hb4 := hb.ext y4
      clear ha3 h3 hb xr
      rcases Nat.mod_two_eq_zero_or_one m with hm2 | hm2
      · obtain ⟨q, rfl⟩ : ∃ q, m = 2 * q := ⟨m / 2, by omega⟩
        clear hm2
        go_wp2_with fail
        refine (get_even b q d g _ hb4 (by omega) hg).mono ?_; rintro e w5 ⟨b5, d5, rfl, h5, x5⟩
        go_wp2_with fail
        refine (wput_any b5 q d5 (getF g) _ h5 (by omega) (getF_bd g q hg)).mono ?_; rintro e w6 ⟨b6, d6, rfl, h6, x6⟩
        go_wp2_with fail
        refine (bytes_same _ _ (2 * q) _ _ (putF (getF g)) g _ h6 ((hb4.ext x5).ext x6) (by omega) (put_get g q hg)).mono ?_; rintro e w7 ⟨rfl, x7⟩
        go_wp2_with fail
        refine (sure_any _).mono ?_; rintro e w8 ⟨rfl, x8⟩
        go_wp2
        go_ret
        exact ⟨rfl, (((y4.trans x5).trans x6).trans x7).trans x8⟩
      · have k3 : ((m : Int) % 2 == 1) = true := by simp; omega
        go_wp2_with fail
        refine (get_odd b m d _ (by omega) hm2).mono ?_; rintro e w5 ⟨rfl, rfl⟩
        clear hm2
        go_wp2_with fail
        refine (sure_any _).mono ?_; rintro e w8 ⟨rfl, x8⟩
        go_wp2
        go_ret
        exact ⟨rfl, y4.trans x8⟩

set_option maxRecDepth 100000 in
set_option maxHeartbeats 1600000 in
theorem wordBack.great (a : Option Addr) (n c : Nat) (b : Option Addr) (m d : Nat) (w : World) (hn : n ≤ maxLen) (hm : m ≤ maxLen) (h : 300 < n ∨ 600 < m) :
    Calls Try.prog 4 #[.slice a n c, .slice b m d] w fun e w' => e = .returned (.bool true) ∧ Ext w w' := by
  unfold maxLen at hn hm
  by_cases h1 : 300 < n
  · have k1 : decide ((300 : Int) < n) = true := by simp; omega
    clear h h1
    go_enter Try.func4, Try.ntmps4
    go_wp2_with fail
    refine (sure_any _).mono ?_; rintro e w8 ⟨rfl, x8⟩
    go_wp2
    go_ret
    exact ⟨rfl, x8⟩
  · have k1 : decide ((300 : Int) < n) = false := by simp; omega
    have k2 : decide ((600 : Int) < m) = true := by simp; omega
    clear h h1
    go_enter Try.func4, Try.ntmps4
    go_wp2_with fail
    refine (sure_any _).mono ?_; rintro e w8 ⟨rfl, x8⟩
    go_wp2
    go_ret
    exact ⟨rfl, x8⟩

theorem wordBack.walk (a : Option Addr) (n c : Nat) (f : Nat → Int) (b : Option Addr) (m d : Nat) (g : Nat → Int) (w : World) (ha : Holds .u16 w a n f) (hn : n ≤ maxLen) (hf : ∀ i, i < n → (Lit.int .u16 (f i)).wf = true)
    (hb : Holds .u8 w b m g) (hm : m ≤ maxLen) (hg : ∀ i, i < m → (Lit.int .u8 (g i)).wf = true) :
    Calls Try.prog 4 #[.slice a n c, .slice b m d] w fun e w' => e = .returned (.bool true) ∧ Ext w w' := by
  by_cases h : 300 < n ∨ 600 < m
  · exact wordBack.great a n c b m d w hn hm h
  · exact wordBack.small a n c f b m d g w ha (fun i hi => wf_u16 (hf i hi)) hb (fun i hi => wf_u8 (hg i hi)) (by omega) (by omega)
end Go.Proofs.Ytgihepbglfhahaa
