/-
  THE LAWS OF LAYER 4: the walk of CrcTells.
-/
import Derived.Test.YtgemdnmcklpbkaaDoorLaw04A
namespace Go.Proofs.YtgemdnmcklpbkaaDoor
open Go.RowKit

theorem crcTells.great (r : Int) (a : Option Addr) (n c : Nat) (w : World) (ht : Tabs w) (hn : n ≤ 140737488351232) (h : 600 < n) :
    Calls Tryd.prog 3 #[.int .u16 r, .slice a n c] w fun e w' => e = .returned (.bool true) ∧ Ext w w' := by
  have k1 : (600 : Int) < n := by omega
  clear h
  go_enter Tryd.func3, Tryd.ntmps3
  go_wp2_with fail
  refine (sure4_any _ ht).mono ?_; rintro e w8 ⟨rfl, x8⟩
  go_wp2
  go_ret
  exact ⟨rfl, x8⟩

theorem zero_v : (0 : Int) = vI 0#16 := by decide
set_option maxRecDepth 100000 in
set_option maxHeartbeats 3200000 in
theorem crcTells.no (x : BitVec 16) (a : Option Addr) (n c : Nat) (f : Nat → Int) (w : World) (ht : Tabs w) (ha : Holds .u8 w a n f) (hc : n ≤ c) (hcm : c ≤ maxLen) (hf : ∀ i, i < n → 0 ≤ f i ∧ f i < 256) (hn : n ≤ 600) (he : endsB f n = false) :
    Calls Tryd.prog 3 #[.int .u16 (vI x), .slice a n c] w fun e w' => e = .returned (.bool true) ∧ Ext w w' := by
  have k1 : (n : Int) ≤ 600 := by omega
  have hZ := zero_v
  have hZ2 : (vI 0#16) = 0 := by decide
  obtain ⟨y, hy⟩ : ∃ y, y = vI x % (256 : Int) := ⟨_, rfl⟩
  have y0 : 0 ≤ y := by omega
  have y1 : y < 256 := by omega
  clear hZ
  go_enter Tryd.func3, Tryd.ntmps3
  go_wp2_with fail
  rw [← hy]
  have HY := Lib.hid hy
  clear hy
  refine (strip_no a n c f _ ht ha hc hcm (by omega) hf he).mono ?_; rintro e w1 ⟨r, rfl, hr, x1⟩
  have hr' : (r == 0) = false := by simpa using hr
  have t1 := ht.ext x1
  have a1 := ha.ext x1
  clear ht ha hr
  go_wp2_with fail
  refine (rcheck_v a n c f false _ a1 hc hcm (by omega) hf he).mono ?_; rintro e w2 ⟨rfl, x2⟩
  have t2 := t1.ext x2
  have a2 := a1.ext x2
  have z2 := x1.trans x2
  clear t1 a1 x1 x2
  go_wp2_with fail
  refine (table_any y _ t2 y0 y1).mono ?_; rintro e w3 ⟨rfl, x3⟩
  have t3 := t2.ext x3
  have a3 := a2.ext x3
  have z3 := z2.trans x3
  clear t2 a2 z2 x3
  go_wp2_with fail
  refine (rbyte_v 0#16 _ _ (vI (byteV 0#16 y)) _ y0 y1 zero_v rfl).mono ?_; rintro e w' ⟨rfl, rfl⟩
  go_wp2_with fail
  refine (update_any x y _ t3 y0 y1).mono ?_; rintro e w4 ⟨rfl, x4⟩
  have t4 := t3.ext x4
  have a4 := a3.ext x4
  have z4 := z3.trans x4
  clear t3 a3 z3 x4
  go_wp2_with fail
  refine (rbyte_any x y _ y0 y1).mono ?_; rintro e w' ⟨rfl, rfl⟩
  go_wp2_with fail
  refine (sum_any a n c f _ t4 a4 (by omega) hf).mono ?_; rintro e w5 ⟨rfl, x5⟩
  have t5 := t4.ext x5
  have a5 := a4.ext x5
  have z5 := z4.trans x5
  clear t4 a4 z4 x5
  go_wp2_with fail
  refine (rsum_any a n c f _ a5 (by omega) hf).mono ?_; rintro e w' ⟨rfl, rfl⟩
  go_wp2_with fail
  refine (append_any a n c f _ t5 a5 (by omega) hf).mono ?_; rintro e w6 ⟨b6, d6, rfl, c6, m6, h6, x6⟩
  have t6 := t5.ext x6
  have a6 := a5.ext x6
  have z6 := z5.trans x6
  clear t5 a5 z5 x6
  go_wp2_with fail
  refine (rappend_any a n c f _ a6 (by omega) hf).mono ?_; rintro e w7 ⟨b7, d7, rfl, h7, x7⟩
  have t7 := t6.ext x7
  have a7 := a6.ext x7
  have h6' := h6.ext x7
  have z7 := z6.trans x7
  clear t6 a6 h6 z6 x7
  go_wp2_with fail
  refine (bytes_eq b6 b7 (n + 2) (n + 2) _ _ _ _ _ h6' h7 (by omega) ⟨rfl, fun i _ => rfl⟩).mono ?_; rintro e w8 ⟨rfl, x8⟩
  have t8 := t7.ext x8
  have a8 := a7.ext x8
  have z8 := z7.trans x8
  clear t7 a7 h6' h7 z7 x8
  go_wp2_with fail
  refine (check_v a n c f false _ t8 a8 hc hcm (by omega) hf he).mono ?_; rintro e w9 ⟨rfl, x9⟩
  have t9 := t8.ext x9
  have z9 := z8.trans x9
  clear t8 a8 z8 x9 hf
  go_wp2_with fail
  refine (sure4_any _ t9).mono ?_; rintro e w10 ⟨rfl, x10⟩
  go_wp2
  go_ret
  exact ⟨rfl, z9.trans x10⟩

set_option maxRecDepth 100000 in
set_option maxHeartbeats 3200000 in
theorem crcTells.yes (x : BitVec 16) (a : Option Addr) (n c : Nat) (f : Nat → Int) (w : World) (ht : Tabs w) (ha : Holds .u8 w a (n + 2) f) (hc : n + 2 ≤ c) (hcm : c ≤ maxLen) (hf : ∀ i, i < n + 2 → 0 ≤ f i ∧ f i < 256) (hn : n + 2 ≤ 600) (he : endsB f (n + 2) = true) :
    Calls Tryd.prog 3 #[.int .u16 (vI x), .slice a (n + 2) c] w fun e w' => e = .returned (.bool true) ∧ Ext w w' := by
  have k1 : ((n + 2 : Nat) : Int) ≤ 600 := by omega
  have k2 : ((n + 2 : Nat) : Int) - 2 = (n : Int) := by omega
  have hmax : c ≤ 9223372036854775807 := hcm
  obtain ⟨y, hy⟩ : ∃ y, y = vI x % (256 : Int) := ⟨_, rfl⟩
  have y0 : 0 ≤ y := by omega
  have y1 : y < 256 := by omega
  go_enter Tryd.func3, Tryd.ntmps3
  go_wp2_with fail
  rw [← hy]
  have HY := Lib.hid hy
  clear hy
  refine (strip_yes a n c f _ ht ha hc hcm (by omega) hf he).mono ?_; rintro e w1 ⟨b1, d1, rfl, c1, m1, h1, x1⟩
  have t1 := ht.ext x1
  have a1 := ha.ext x1
  clear ht ha
  go_wp2_with fail
  refine (rcheck_v a (n + 2) c f true _ a1 hc hcm (by omega) hf he).mono ?_; rintro e w2 ⟨rfl, x2⟩
  have t2 := t1.ext x2
  have a2 := a1.ext x2
  have h2 := h1.ext x2
  have z2 := x1.trans x2
  clear t1 a1 x1 x2 h1
  go_wp2_with fail
  refine (bytes_eq b1 a n n _ _ f f _ h2 (a2.front (by omega)) (by omega) ⟨rfl, fun i _ => rfl⟩).mono ?_; rintro e w2' ⟨rfl, x2'⟩
  have t2' := t2.ext x2'
  have a2' := a2.ext x2'
  have z2' := z2.trans x2'
  clear t2 a2 z2 x2' h2
  go_wp2_with fail
  refine (table_any y _ t2' y0 y1).mono ?_; rintro e w3 ⟨rfl, x3⟩
  have t3 := t2'.ext x3
  have a3 := a2'.ext x3
  have z3 := z2'.trans x3
  clear t2' a2' z2' x3
  go_wp2_with fail
  refine (rbyte_v 0#16 _ _ (vI (byteV 0#16 y)) _ y0 y1 zero_v rfl).mono ?_; rintro e w' ⟨rfl, rfl⟩
  go_wp2_with fail
  refine (update_any x y _ t3 y0 y1).mono ?_; rintro e w4 ⟨rfl, x4⟩
  have t4 := t3.ext x4
  have a4 := a3.ext x4
  have z4 := z3.trans x4
  clear t3 a3 z3 x4
  go_wp2_with fail
  refine (rbyte_any x y _ y0 y1).mono ?_; rintro e w' ⟨rfl, rfl⟩
  go_wp2_with fail
  refine (sum_any a (n + 2) c f _ t4 a4 (by omega) hf).mono ?_; rintro e w5 ⟨rfl, x5⟩
  have t5 := t4.ext x5
  have a5 := a4.ext x5
  have z5 := z4.trans x5
  clear t4 a4 z4 x5
  go_wp2_with fail
  refine (rsum_any a (n + 2) c f _ a5 (by omega) hf).mono ?_; rintro e w' ⟨rfl, rfl⟩
  go_wp2_with fail
  refine (append_any a (n + 2) c f _ t5 a5 (by omega) hf).mono ?_; rintro e w6 ⟨b6, d6, rfl, c6, m6, h6, x6⟩
  have t6 := t5.ext x6
  have a6 := a5.ext x6
  have z6 := z5.trans x6
  clear t5 a5 z5 x6
  go_wp2_with fail
  refine (rappend_any a (n + 2) c f _ a6 (by omega) hf).mono ?_; rintro e w7 ⟨b7, d7, rfl, h7, x7⟩
  have t7 := t6.ext x7
  have a7 := a6.ext x7
  have h6' := h6.ext x7
  have z7 := z6.trans x7
  clear t6 a6 h6 z6 x7
  go_wp2_with fail
  refine (bytes_eq b6 b7 (n + 2 + 2) (n + 2 + 2) _ _ _ _ _ h6' h7 (by omega) ⟨rfl, fun i _ => rfl⟩).mono ?_; rintro e w8 ⟨rfl, x8⟩
  have t8 := t7.ext x8
  have a8 := a7.ext x8
  have z8 := z7.trans x8
  clear t7 a7 h6' h7 z7 x8
  go_wp2_with fail
  refine (check_v a (n + 2) c f true _ t8 a8 hc hcm (by omega) hf he).mono ?_; rintro e w9 ⟨rfl, x9⟩
  have t9 := t8.ext x9
  have z9 := z8.trans x9
  clear t8 a8 z8 x9 hf
  go_wp2_with fail
  refine (sure4_any _ t9).mono ?_; rintro e w10 ⟨rfl, x10⟩
  go_wp2
  go_ret
  exact ⟨rfl, z9.trans x10⟩

theorem crcTells.walk (r : Int) (a : Option Addr) (n c : Nat) (f : Nat → Int) (w : World) (ht : Tabs w) (hr : (Lit.int .u16 r).wf = true)
    (ha : Holds .u8 w a n f) (hc : n ≤ c) (hcm : c * 1 ≤ 140737488351232) (hf : ∀ i, i < n → (Lit.int .u8 (f i)).wf = true) :
    Calls Tryd.prog 3 #[.int .u16 r, .slice a n c] w fun e w' => e = .returned (.bool true) ∧ Ext w w' := by
  obtain ⟨x, rfl⟩ := wf16 hr
  have hm : c ≤ maxLen := by unfold maxLen; omega
  by_cases h : 600 < n
  · exact crcTells.great _ a n c w ht (by omega) h
  · cases he : endsB f n
    · exact crcTells.no x a n c f w ht ha hc hm (fun i hi => wf8 (hf i hi)) (by omega) he
    · obtain ⟨m, rfl⟩ : ∃ m, n = m + 2 := ⟨n - 2, by have := endsB_two he; omega⟩
      exact crcTells.yes x a m c f w ht ha hc hm (fun i hi => wf8 (hf i hi)) (by omega) he
end Go.Proofs.YtgemdnmcklpbkaaDoor
