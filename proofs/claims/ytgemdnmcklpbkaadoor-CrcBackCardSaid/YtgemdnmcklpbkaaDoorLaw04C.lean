/-
  THE LAWS OF LAYER 4: the walk of CrcBack.
-/
import Derived.Test.YtgemdnmcklpbkaaDoorLaw04B
namespace Go.Proofs.YtgemdnmcklpbkaaDoor
open Go.RowKit

theorem ret_v16 {a b : Int} (h : a = b) : Value.int .u16 a = .int .u16 b := by rw [h]
theorem crcBack.great (a : Option Addr) (n c : Nat) (w : World) (ht : Tabs w) (hn : n ≤ 140737488351232) (h : 600 < n) :
    Calls Tryd.prog 4 #[.slice a n c] w fun e w' => e = .returned (.bool true) ∧ Ext w w' := by
  have k1 : (600 : Int) < n := by omega
  clear h
  go_enter Tryd.func4, Tryd.ntmps4
  go_wp2_with fail
  refine (sure4_any _ ht).mono ?_; rintro e w8 ⟨rfl, x8⟩
  go_wp2
  go_ret
  exact ⟨rfl, x8⟩

set_option maxRecDepth 100000 in
set_option maxHeartbeats 3200000 in
theorem crcBack.small (a : Option Addr) (n c : Nat) (f : Nat → Int) (w : World) (ht : Tabs w) (ha : Holds .u8 w a n f) (hc : n ≤ c) (hcm : c ≤ maxLen) (hf : ∀ i, i < n → 0 ≤ f i ∧ f i < 256) (hn : n ≤ 600) :
    Calls Tryd.prog 4 #[.slice a n c] w fun e w' => e = .returned (.bool true) ∧ Ext w w' := by
  have k1 : (n : Int) ≤ 600 := by omega
  go_enter Tryd.func4, Tryd.ntmps4
  go_wp2_with fail
  refine (append_any a n c f _ ht ha (by omega) hf).mono ?_; rintro e w1 ⟨b1, d1, rfl, c1, m1, h1, x1⟩
  have t1 := ht.ext x1
  have a1 := ha.ext x1
  clear ht ha
  go_wp2_with fail
  go_loopw [4, 5] (fun r i wr => ∃ k : Nat, k ≤ n ∧ i = .int .i64 k ∧ r = .int .u16 (vI (sumV f k)) ∧ Ext w1 wr) (fun _ i _ => n - (intOf i).toNat)
  case atStart => exact ⟨0, Nat.zero_le _, rfl, ret_v16 start_v, Ext.refl _⟩
  case round =>
    obtain ⟨k, hk, rfl, rfl, hx⟩ := hrel
    by_cases hlt : k < n
    · obtain ⟨p, o, rfl, hp, hcell⟩ := (a1.ext hx).resolve_left (by omega)
      have c0 := hcell k hlt
      obtain ⟨f0, f1⟩ := hf k hlt
      have t2 := t1.ext hx
      have hlt' : (k : Int) < n := by omega
      clear hcell a1 hf t1 h1
      go_wp2_with fail
      refine (update_any (sumV f k) (f k) _ t2 f0 f1).mono ?_; rintro e w' ⟨rfl, x2⟩
      go_wp2
      go_roundw
      case rel => exact ⟨k + 1, by omega, by go_num, rfl, hx.trans x2⟩
      case measure => simp [intOf]; omega
    · obtain rfl : k = n := by omega
      have t2 := t1.ext hx
      have a2 := a1.ext hx
      have h2 := h1.ext hx
      have z2 := x1.trans hx
      have hb := andTwo_bd f k (vI (sumV f k)) hf (vI_lo _) (vI_hi _)
      have HB := Lib.hid hb
      have hs0 : vI (sumV (andTwo f k (vI (sumV f k))) (k + 2)) = 0 := by
        have : sumV (andTwo f k (vI (sumV f k))) (k + 2) = 0#16 := remV_andTwo _ f k
        rw [this]; decide
      have HS := Lib.hid hs0
      clear t1 a1 h1 x1 hx hb hs0 hk
      go_wp2_with fail
      refine (check_v b1 (k + 2) d1 _ true _ t2 h2 c1 m1 (by omega) (fun i _ => HB.out i) (endsB_andTwo f k hf)).mono ?_; rintro e w3 ⟨rfl, x3⟩
      have t3 := t2.ext x3
      have a3 := a2.ext x3
      have h3 := h2.ext x3
      have z3 := z2.trans x3
      clear t2 a2 h2 z2 x3
      go_wp2_with fail
      refine (sum_v b1 (k + 2) d1 _ 0 _ t3 h3 (by omega) (fun i _ => HB.out i) HS.out).mono ?_; rintro e w4 ⟨rfl, x4⟩
      have t4 := t3.ext x4
      have a4 := a3.ext x4
      have z4 := z3.trans x4
      clear t3 a3 h3 z3 x4 HB HS
      go_wp2_with fail
      refine (sum_any a k c f _ t4 a4 (by omega) hf).mono ?_; rintro e w5 ⟨rfl, x5⟩
      have t5 := t4.ext x5
      have a5 := a4.ext x5
      have z5 := z4.trans x5
      clear t4 a4 z4 x5
      go_wp2_with fail
      refine (rem_v a k c f _ (vI (sumV f k)) 65535#16 _ a5 (by omega) hf start_v rfl).mono ?_; rintro e w6 ⟨rfl, x6⟩
      have t6 := t5.ext x6
      have a6 := a5.ext x6
      have z6 := z5.trans x6
      clear t5 a5 z5 x6
      go_wp2_with fail
      cases he : endsB f k
      · refine (strip_no a k c f _ t6 a6 hc hcm (by omega) hf he).mono ?_; rintro e w7 ⟨r, rfl, hr, x7⟩
        have hr' : (r != 0) = true := by simpa using hr
        have t7 := t6.ext x7
        have a7 := a6.ext x7
        have z7 := z6.trans x7
        clear t6 a6 z6 x7 hr
        go_wp2_with fail
        refine (check_v a k c f false _ t7 a7 hc hcm (by omega) hf he).mono ?_; rintro e w8 ⟨rfl, x8⟩
        have t8 := t7.ext x8
        have z8 := z7.trans x8
        clear t7 a7 z7 x8 hf
        go_wp2_with fail
        refine (sure4_any _ t8).mono ?_; rintro e w10 ⟨rfl, x10⟩
        go_wp2
        go_ret
        exact ⟨rfl, z8.trans x10⟩
      · obtain ⟨m, rfl⟩ : ∃ m, k = m + 2 := ⟨k - 2, by have := endsB_two he; omega⟩
        refine (strip_yes a m c f _ t6 a6 hc hcm (by omega) hf he).mono ?_; rintro e w7 ⟨b7, d7, rfl, c7, m7, h7, x7⟩
        have t7 := t6.ext x7
        have a7 := a6.ext x7
        have z7 := z6.trans x7
        clear t6 a6 z6 x7
        go_wp2_with fail
        refine (append_any b7 m d7 f _ t7 h7 (by omega) (fun i hi => hf i (by omega))).mono ?_; rintro e w8 ⟨b8, d8, rfl, c8, m8, h8, x8⟩
        have t8 := t7.ext x8
        have a8 := a7.ext x8
        have z8 := z7.trans x8
        clear t7 a7 h7 z7 x8
        go_wp2_with fail
        refine (bytes_eq b8 a (m + 2) (m + 2) _ _ _ f _ h8 a8 (by omega) ⟨rfl, endsB_back hf he⟩).mono ?_; rintro e w9 ⟨rfl, x9⟩
        have t9 := t8.ext x9
        have z9 := z8.trans x9
        clear t8 a8 h8 z8 x9 hf
        go_wp2_with fail
        refine (sure4_any _ t9).mono ?_; rintro e w10 ⟨rfl, x10⟩
        go_wp2
        go_ret
        exact ⟨rfl, z9.trans x10⟩

theorem crcBack.walk (a : Option Addr) (n c : Nat) (f : Nat → Int) (w : World) (ht : Tabs w)
    (ha : Holds .u8 w a n f) (hc : n ≤ c) (hcm : c * 1 ≤ 140737488351232) (hf : ∀ i, i < n → (Lit.int .u8 (f i)).wf = true) :
    Calls Tryd.prog 4 #[.slice a n c] w fun e w' => e = .returned (.bool true) ∧ Ext w w' := by
  have hm : c ≤ maxLen := by unfold maxLen; omega
  by_cases h : 600 < n
  · exact crcBack.great a n c w ht (by omega) h
  · exact crcBack.small a n c f w ht ha hc hm (fun i hi => wf8 (hf i hi)) (by omega)
end Go.Proofs.YtgemdnmcklpbkaaDoor
