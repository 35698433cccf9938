/-
  THE LAWS OF LAYER 1: the walk of WordTells.
-/
import Derived.Test.YtgihepbglfhahaaLaw01C
import Derived.Deep.DeepCutAuto
namespace Go.Proofs.Ytgihepbglfhahaa
open Go.RowKit

attribute [local irreducible] tw

theorem rturn_x (a : Int) (w : World) (a0 : 0 ≤ a) (a1 : a < 65536) :
    Calls Try.prog 12 #[.int .u16 a] w fun e w' => e = .returned (.int .u16 (tw a)) ∧ Ext w w' :=
  (rturn_any a w a0 a1).mono fun _ _ h => ⟨h.1, Ext.of_eq h.2⟩
theorem low_x (x : Int) (w : World) (x0 : 0 ≤ x) (x1 : x < 65536) :
    Calls Try.prog 14 #[.int .u16 x] w fun e w' => ∃ a c, e = .returned (.slice a 2 c) ∧ Holds .u8 w' a 2 (lowF x) ∧ Ext w w' := low_any x w x0 x1
/-- Get, whatever the number of bytes: as many words, or none and an error. -/
theorem get_x (b : Option Addr) (m d : Nat) (g : Nat → Int) (w : World) (hb : Holds .u8 w b m g) (hm : m ≤ 1000000) (hg : ∀ i, i < m → 0 ≤ g i ∧ g i < 256) :
    Calls Try.prog 7 #[.slice b m d] w fun e w' => ∃ a n c x, e = .returned (.tuple #[.slice a n c, .int .i64 x]) ∧ n = (if m % 2 = 0 then m / 2 else 0) ∧ x = (if m % 2 = 0 then 0 else 12) ∧ Holds .u16 w' a n (getF g) ∧ Ext w w' := by
  rcases Nat.mod_two_eq_zero_or_one m with h | h
  · obtain ⟨q, rfl⟩ : ∃ q, m = 2 * q := ⟨m / 2, by omega⟩
    exact (get_even b q d g w hb (by omega) hg).mono fun e w' ⟨a, c, he, hh, x⟩ => ⟨a, q, c, 0, he, by rw [if_pos h]; omega, by rw [if_pos h], hh, x⟩
  · exact (get_odd b m d w hm h).mono fun e w' ⟨he, x⟩ => ⟨none, 0, 0, 12, he, by rw [if_neg (by omega)], by rw [if_neg (by omega)], .inl rfl, Ext.of_eq x⟩
theorem rget_x (b : Option Addr) (m d : Nat) (g : Nat → Int) (w : World) (hb : Holds .u8 w b m g) (hm : m ≤ 1000000) (hg : ∀ i, i < m → 0 ≤ g i ∧ g i < 256) :
    Calls Try.prog 8 #[.slice b m d] w fun e w' => ∃ a n c x, e = .returned (.tuple #[.slice a n c, .bool x]) ∧ n = (if m % 2 = 0 then m / 2 else 0) ∧ x = decide (m % 2 = 0) ∧ Holds .u16 w' a n (getF g) ∧ Ext w w' := by
  rcases Nat.mod_two_eq_zero_or_one m with h | h
  · obtain ⟨q, rfl⟩ : ∃ q, m = 2 * q := ⟨m / 2, by omega⟩
    exact (rget_even b q d g w hb (by omega) hg).mono fun e w' ⟨a, c, he, hh, x⟩ => ⟨a, q, c, true, he, by rw [if_pos h]; omega, by simp, hh, x⟩
  · exact (rget_odd b m d w hm h).mono fun e w' ⟨he, x⟩ => ⟨none, 0, 0, false, he, by rw [if_neg (by omega)], by simp; omega, .inl rfl, Ext.of_eq x⟩
/-- At, whatever the place. -/
def atOk (m : Nat) (i : Int) : Bool := decide (0 ≤ i) && decide (i < (m : Int) - 1)
def atF (m : Nat) (g : Nat → Int) (i : Int) : Int := if atOk m i then g i.toNat * 256 + g (i.toNat + 1) else 0
theorem at_y (b : Option Addr) (m d : Nat) (i : Int) (g : Nat → Int) (w : World) (hb : Holds .u8 w b m g) (hm : m ≤ 1000000) (hg : ∀ i, i < m → 0 ≤ g i ∧ g i < 256) :
    Calls Try.prog 9 #[.slice b m d, .int .i64 i] w fun e w' => e = .returned (.tuple #[.int .u16 (atF m g i), .bool (atOk m i)]) ∧ Ext w w' := by
  by_cases h : 0 ≤ i ∧ i < (m : Int) - 1
  · have hk : atOk m i = true := by simp [atOk, h]
    obtain ⟨q, rfl⟩ := Int.eq_ofNat_of_zero_le h.1
    exact (at_some b m d q g w hb hm (by omega) hg).mono fun _ _ x => ⟨by rw [x.1]; simp [atF, hk], Ext.of_drewN x.2⟩
  · have hk : atOk m i = false := by simp [atOk]; omega
    exact (at_none b m d i w hm (by omega)).mono fun _ _ x => ⟨by rw [x.1]; simp [atF, hk], Ext.of_eq x.2⟩
theorem rat_y (b : Option Addr) (m d : Nat) (i : Int) (g : Nat → Int) (w : World) (hb : Holds .u8 w b m g) (hm : m ≤ 1000000) (hg : ∀ i, i < m → 0 ≤ g i ∧ g i < 256) :
    Calls Try.prog 10 #[.slice b m d, .int .i64 i] w fun e w' => e = .returned (.tuple #[.int .u16 (atF m g i), .bool (atOk m i)]) ∧ Ext w w' := by
  by_cases h : 0 ≤ i ∧ i < (m : Int) - 1
  · have hk : atOk m i = true := by simp [atOk, h]
    obtain ⟨q, rfl⟩ := Int.eq_ofNat_of_zero_le h.1
    exact (rat_some b m d q g w hb hm (by omega) hg).mono fun _ _ x => ⟨by rw [x.1]; simp [atF, hk], Ext.of_drewN x.2⟩
  · have hk : atOk m i = false := by simp [atOk]; omega
    exact (rat_none b m d i w hm (by omega)).mono fun _ _ x => ⟨by rw [x.1]; simp [atF, hk], Ext.of_eq x.2⟩

set_option maxRecDepth 100000 in
set_option maxHeartbeats 3200000 in
theorem wordTells.small (a : Option Addr) (n c : Nat) (f : Nat → Int) (b : Option Addr) (m d : Nat) (g : Nat → Int) (i : Int) (w : World) (ha : Holds .u16 w a n f) (hf : ∀ i, i < n → 0 ≤ f i ∧ f i < 65536)
    (hb : Holds .u8 w b m g) (hg : ∀ i, i < m → 0 ≤ g i ∧ g i < 256) (hn : n ≤ 300) (hm : m ≤ 600) :
    Calls Try.prog 3 #[.slice a n c, .slice b m d, .int .i64 i] w fun e w' => e = .returned (.bool true) ∧ Ext w w' := by
  have n1 : (n : Int) ≤ 300 := by omega
  have m1 : (m : Int) ≤ 600 := by omega
  have k1 : decide ((300 : Int) < n) = false := by simp; omega
  have k2 : decide ((600 : Int) < m) = false := by simp; omega
  go_enter Try.func3, Try.ntmps3
  go_wp2_with fail
  refine (get_x b m d g _ hb (by omega) hg).mono ?_; rintro e w1 ⟨b1, q, d1, v1, rfl, hq0, hv0, h1, x1⟩
  have hq := Lib.hid hq0
  have hv := Lib.hid hv0
  clear hq0 hv0
  go_wp2_with fail
  refine (rget_x b m d g _ (hb.ext x1) (by omega) hg).mono ?_; rintro e w2 ⟨b2, q2, d2, v2, rfl, hq20, hv20, h2, x2⟩
  have hv2 := Lib.hid hv20
  obtain rfl : q2 = q := by rw [hq20, hq.out]
  clear hv20 hq20
  go_wp2_with fail
  refine (at_y b m d i g _ ((hb.ext x1).ext x2) (by omega) hg).mono ?_; rintro e w3 ⟨rfl, x3⟩
  go_wp2_with fail
  refine (rat_y b m d i g _ (((hb.ext x1).ext x2).ext x3) (by omega) hg).mono ?_; rintro e w4 ⟨rfl, x4⟩
  have y4 : Ext w w4 := ((Ext.trans x1 x2).trans x3).trans x4
  have h14 := ((h1.ext x2).ext x3).ext x4
  have h24 := (h2.ext x3).ext x4
  have ha4 := ha.ext y4
  clear ha h1 h2 x1 x2 x3 x4 hb hg
  go_wp2_with fail
  go_loopw [15] (fun i wr => ∃ k : Nat, k ≤ n ∧ i = .int .i64 k ∧ Ext w4 wr) (fun i _ => n - (intOf i).toNat)
  case atStart => exact ⟨0, Nat.zero_le _, rfl, Ext.refl _⟩
  case round =>
    obtain ⟨k, hk, rfl, xr⟩ := hrel
    by_cases hlt : k < n
    · have hl1 : (k : Int) < n := by omega
      obtain ⟨p, o, rfl, hp, hc⟩ := ha4.resolve_left (by omega)
      obtain ⟨f0, f1⟩ := hf k hlt
      have cr := xr.cell hp (hc k hlt)
      have hpr : p < wr.heap.size := Nat.lt_of_lt_of_le hp xr.size
      obtain ⟨F, hF⟩ : ∃ F, F = f k := ⟨_, rfl⟩
      rw [← hF] at f0 f1 cr
      clear hF hc ha4 hf h14 h24 hq hv hv2
      have t1 : IntKind.u8.wrap (F / 256) = F / 256 := by rw [IntKind.wrap_u8]; omega
      have t2 : IntKind.u8.wrap (F % 256) = F % 256 := by rw [IntKind.wrap_u8]; omega
      have t3 : F.tdiv 256 = F / 256 := Int.tdiv_eq_ediv_of_nonneg f0
      have t4 : F.tmod 256 = F % 256 := Int.tmod_eq_emod_of_nonneg f0
      have t5 : IntKind.u16.wrap (F / 256) = F / 256 := by rw [IntKind.wrap_u16]; omega
      have m5 : 0 ≤ (k : Int) := by omega
      go_wp2_with fail
      go_region_held3 (fun w' => p < w'.heap.size ∧ w'.cell? ⟨p, o + k, none⟩ = some (.int .u16 F))
        (first
          | (refine ⟨Nat.lt_of_lt_of_le hpr (Ext.size (w := wr) ?_), Ext.cell (w := wr) ?_ hpr cr⟩ <;> (repeat (first | (with_reducible exact Ext.refl _) | (with_reducible assumption) | (with_reducible refine Ext.trans ?_ (Ext.drew _)) | (with_reducible refine Ext.trans ?_ (Ext.drewN _ _)) | (with_reducible refine Ext.alloc' ?_ _) | (with_reducible refine Ext.trans ?_ (by assumption)))))
          | (go_keep; done))
        (first
          | (go_at_call 11; refine (turn_x F _ f0 f1).mono ?_; rintro e w5 ⟨rfl, x5⟩)
          | (go_at_call 12; refine (rturn_x F _ f0 f1).mono ?_; rintro e w6 ⟨rfl, x6⟩)
          | (go_at_call 14; refine (low_x F _ f0 f1).mono ?_; rintro e w7 ⟨b7, d7, rfl, h7, x7⟩)
          | (go_at_call 13; refine (bytes_same _ _ 2 _ _ (lowF F) (ofL [F % 256, F / 256]) _ ?_ ?_ (by omega) (small2 rfl rfl)).mono ?_; (first | exact h7 | exact h7.ext (Ext.alloc _ _)); (first | exact Holds.lit w7 [F % 256, F / 256] _ _ rfl _ rfl | exact (Holds.lit w6 [F % 256, F / 256] _ _ rfl _ rfl).ext x7); rintro e w8 ⟨rfl, x8⟩))
      all_goals
        have xk : Ext wr w8 := by (repeat (first | (with_reducible exact Ext.refl _) | (with_reducible assumption) | (with_reducible refine Ext.trans ?_ (Ext.drew _)) | (with_reducible refine Ext.trans ?_ (Ext.drewN _ _)) | (with_reducible refine Ext.alloc' ?_ _) | (with_reducible refine Ext.trans ?_ (by assumption))))
        have xk4 := xr.trans xk
        clear xr xk x5 x6 x7 x8 h7 cr t1 t2 t3 t4 t5
        go_wp2
        go_roundw
        case rel => exact ⟨k + 1, by omega, by go_num, xk4⟩
        case measure => simp [intOf]; omega
    · have hl1 : (n : Int) ≤ k := by omega
      have ha5 := ha4.ext xr
      have h15 := h14.ext xr
      have h25 := h24.ext xr
      have y5 := y4.trans xr
      clear ha4 h14 h24 xr y4
      have hqb : q2 ≤ 1000000 := by rw [hq.out]; split <;> omega
      clear hq
      have fin : v1 = 0 ∧ v2 = true ∨ v1 = 12 ∧ v2 = false := by
        rcases Nat.mod_two_eq_zero_or_one m with h | h
        · left; rw [hv.out, hv2.out]; simp [h]
        · right; rw [hv.out, hv2.out]; simp [h]
      clear hv hv2
      rcases fin with ⟨rfl, rfl⟩ | ⟨rfl, rfl⟩
      all_goals
        go_wp2_with fail
        refine (wput_any a n c f _ ha5 (by omega) hf).mono ?_; rintro e w6 ⟨b6, d6, rfl, h6, x6⟩
        go_wp2_with fail
        refine (rput_any a n c f _ (ha5.ext x6) (by omega) hf).mono ?_; rintro e w7 ⟨b7, d7, rfl, h7, x7⟩
        go_wp2_with fail
        refine (bytes_same _ _ (2 * n) _ _ (putF f) (putF f) _ (h6.ext x7) h7 (by omega) (fun _ _ => rfl)).mono ?_; rintro e w8 ⟨rfl, x8⟩
        go_wp2_with fail
        refine (words_same _ _ q2 _ _ (getF g) (getF g) _ (((h15.ext x6).ext x7).ext x8) (((h25.ext x6).ext x7).ext x8) hqb (fun _ _ => rfl)).mono ?_; rintro e w9 ⟨rfl, x9⟩
        go_wp2_with fail
        refine (sure_any _).mono ?_; rintro e w10 ⟨rfl, x10⟩
        go_wp2
        go_ret
        exact ⟨rfl, ((((y5.trans x6).trans x7).trans x8).trans x9).trans x10⟩

set_option maxRecDepth 100000 in
set_option maxHeartbeats 1600000 in
theorem wordTells.great (a : Option Addr) (n c : Nat) (b : Option Addr) (m d : Nat) (i : Int) (w : World) (hn : n ≤ maxLen) (hm : m ≤ maxLen) (h : 300 < n ∨ 600 < m) :
    Calls Try.prog 3 #[.slice a n c, .slice b m d, .int .i64 i] w fun e w' => e = .returned (.bool true) ∧ Ext w w' := by
  unfold maxLen at hn hm
  by_cases h1 : 300 < n
  · have k1 : decide ((300 : Int) < n) = true := by simp; omega
    clear h h1
    go_enter Try.func3, Try.ntmps3
    go_wp2_with fail
    refine (sure_any _).mono ?_; rintro e w8 ⟨rfl, x8⟩
    go_wp2
    go_ret
    exact ⟨rfl, x8⟩
  · have k1 : decide ((300 : Int) < n) = false := by simp; omega
    have k2 : decide ((600 : Int) < m) = true := by simp; omega
    clear h h1
    go_enter Try.func3, Try.ntmps3
    go_wp2_with fail
    refine (sure_any _).mono ?_; rintro e w8 ⟨rfl, x8⟩
    go_wp2
    go_ret
    exact ⟨rfl, x8⟩

theorem wordTells.walk (a : Option Addr) (n c : Nat) (f : Nat → Int) (b : Option Addr) (m d : Nat) (g : Nat → Int) (i : Int) (w : World) (ha : Holds .u16 w a n f) (hn : n ≤ maxLen) (hf : ∀ i, i < n → (Lit.int .u16 (f i)).wf = true)
    (hb : Holds .u8 w b m g) (hm : m ≤ maxLen) (hg : ∀ i, i < m → (Lit.int .u8 (g i)).wf = true) (_hi : (Lit.int .i64 i).wf = true) :
    Calls Try.prog 3 #[.slice a n c, .slice b m d, .int .i64 i] w fun e w' => e = .returned (.bool true) ∧ Ext w w' := by
  by_cases h : 300 < n ∨ 600 < m
  · exact wordTells.great a n c b m d i w hn hm h
  · exact wordTells.small a n c f b m d g i w ha (fun i hi => wf_u16 (hf i hi)) hb (fun i hi => wf_u8 (hg i hi)) (by omega) (by omega)
end Go.Proofs.Ytgihepbglfhahaa
