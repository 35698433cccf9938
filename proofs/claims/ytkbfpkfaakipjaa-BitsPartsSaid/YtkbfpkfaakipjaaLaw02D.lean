/-
  THE LAWS OF LAYER 2: the walk of BitsParts.
-/
import Derived.Test.YtkbfpkfaakipjaaLaw02C
import Derived.Test.YtkbfpkfaakipjaaAppend
namespace Go.Proofs.Ytkbfpkfaakipjaa
open Go.RowKit

def catF {α : Type} (f g : Nat → α) (n : Nat) : Nat → α := fun i => if i < n then f i else g (i - n)
theorem pk_cat (g : Nat → Int) (f : Nat → Bool) (m n : Nat) (hg : ∀ i, i < m → 0 ≤ g i ∧ g i < 256) : ∀ j, pkF (catF (unF g) f (8 * m)) (8 * m + n) j = catF g (pkF f n) m j := by
  intro j
  by_cases h : j < m
  · obtain ⟨h0, h1⟩ := hg j h
    unfold catF
    rw [if_pos h]
    unfold pkF
    have e : bt (fun k => decide (8 * j + k < 8 * m + n) && (if 8 * j + k < 8 * m then unF g (8 * j + k) else f (8 * j + k - 8 * m))) 8 = bt (fun i => (g j).toNat.testBit i) 8 := bt_congr 8 fun i hi => by
      rw [if_pos (by omega)]
      unfold unF
      rw [show (8 * j + i) / 8 = j from by omega, show (8 * j + i) % 8 = i from by omega, decide_eq_true (show 8 * j + i < 8 * m + n by omega), Bool.true_and]
    rw [e, bt_of_bits _ _ (by omega)]
    omega
  · unfold catF
    rw [if_neg h]
    unfold pkF
    congr 1
    refine bt_congr 8 fun i _ => ?_
    simp only
    rw [if_neg (by omega), show 8 * j + i - 8 * m = 8 * (j - m) + i from by omega, decide_eq_decide.2 (show 8 * j + i < 8 * m + n ↔ 8 * (j - m) + i < n by omega)]
theorem lst_cat {α : Type} (mk : α → Value) (f g : Nat → α) (n m : Nat) : lstG mk f n ++ lstG mk g m = lstG mk (catF f g n) (n + m) := lstG_append mk f g n m

set_option maxRecDepth 100000 in
set_option maxHeartbeats 1600000 in
theorem bitsParts.great (b : Option Addr) (m d : Nat) (a : Option Addr) (n c : Nat) (w : World) (hn : n ≤ maxLen) (hm : m ≤ maxLen) (h : 200 < m ∨ 600 < n) :
    Calls Try.prog 5 #[.slice b m d, .slice a n c] w fun e w' => e = .returned (.bool true) ∧ Ext w w' := by
  unfold maxLen at hn hm
  by_cases h1 : 200 < m
  · have k1 : decide ((200 : Int) < m) = true := by simp; omega
    clear h h1
    go_enter Try.func5, Try.ntmps5
    go_wp2_with fail
    refine (sure2_any _).mono ?_; rintro e w8 ⟨rfl, x8⟩
    go_wp2
    go_ret
    exact ⟨rfl, x8⟩
  · have k1 : decide ((200 : Int) < m) = false := by simp; omega
    have k2 : decide ((600 : Int) < n) = true := by simp; omega
    clear h h1
    go_enter Try.func5, Try.ntmps5
    go_wp2_with fail
    refine (sure2_any _).mono ?_; rintro e w8 ⟨rfl, x8⟩
    go_wp2
    go_ret
    exact ⟨rfl, x8⟩

set_option maxRecDepth 100000 in
set_option maxHeartbeats 3200000 in
theorem bitsParts.small (b : Option Addr) (m d : Nat) (g : Nat → Int) (a : Option Addr) (n c : Nat) (f : Nat → Bool) (w : World) (ha : HoldsG Value.bool w a n f) (hc : n ≤ c) (hcm : c ≤ maxLen)
    (hb : Holds .u8 w b m g) (hg : ∀ i, i < m → 0 ≤ g i ∧ g i < 256) (hn : n ≤ 600) (hm : m ≤ 200) :
    Calls Try.prog 5 #[.slice b m d, .slice a n c] w fun e w' => e = .returned (.bool true) ∧ Ext w w' := by
  obtain ⟨iB, hiB, hzB0, hzB1, hzB2⟩ := info_parts Try.infoB
  obtain ⟨i8, hi8, hz80, hz81, hz82⟩ := info_parts Try.info8
  have n1 : (n : Int) ≤ 600 := by omega
  have m1 : (m : Int) ≤ 200 := by omega
  have k1 : decide ((200 : Int) < m) = false := by simp; omega
  have k2 : decide ((600 : Int) < n) = false := by simp; omega
  go_enter Try.func5, Try.ntmps5
  go_wp2_with fail
  refine (unpack_at b m d g _ (8 * m) (by omega) _ hb (by unfold szN; omega) (by omega) hg).mono ?_; rintro e w1 ⟨b1, d1, rfl, q1, q2, h1, x1⟩
  have y1 := hb.ext x1
  have z1 := ha.ext x1
  go_wp2_with (first
    | (at_builtin; refine wpList_append_holds rfl (.tmp 27) (.tmp 28) _ rfl w1.heap.size 4 iB (.bool false) 1 Try.underlying22 hiB hzB0 hzB1 hzB2 rfl _ 0 [] rfl (World.ownsRow_lit w1 #[] 0 (Nat.le_refl _) (by unfold maxLen; omega) rfl) b1 (8 * m) d1 (unF g) rfl (h1.ext (Ext.alloc _ _)) (fun _ => rfl) (by unfold maxLen; omega) (by omega) (by simp) ?_; intro v2 w2 hown2 hgr2 hb2; have e12 : Ext w1 w2 := ((Below.refl _ _).alloc (Nat.le_refl _) _).trans hb2)
    | (at_builtin; refine wpList_append_holds rfl (.tmp 29) (.tmp 30) _ rfl w1.heap.size 4 iB (.bool false) 1 Try.underlying22 hiB hzB0 hzB1 hzB2 rfl v2 (0 + 8 * m) ([] ++ lstG Value.bool (unF g) (8 * m)) rfl hown2 a n c f rfl (z1.ext e12) (fun _ => rfl) (by unfold maxLen; omega) (by omega) e12.size ?_; intro v3 w3 hown3 hgr3 hb3))
  have e13 : Ext w1 w3 := Below.trans e12 hb3
  obtain ⟨b3, d3, rfl, q3, q4, h3⟩ := HoldsG.of_own (mk := Value.bool) (n := 8 * m + n) (f := catF (unF g) f (8 * m)) (by rw [← lst_cat]; simpa using hown3)
  clear hown2 hgr2 hown3 hgr3 hb2 hb3 e12
  have y3 := y1.ext e13
  have z3 := z1.ext e13
  have h13 := h1.ext e13
  clear h1 y1 z1 ha hb
  refine (pack_any b3 (8 * m + n) d3 _ _ h3 (by omega) q3 q4).mono ?_; rintro e w4 ⟨b4, d4, rfl, _, _, h4, x4⟩
  have y4 := y3.ext x4
  go_wp2_with (at_builtin; refine wpList_append_holds rfl (.tmp 34) (.tmp 35) _ rfl w4.heap.size 5 i8 (.int .u8 0) 1 Try.underlying23 hi8 hz80 hz81 hz82 rfl _ 0 [] rfl (World.ownsRow_lit w4 #[] 0 (Nat.le_refl _) (by unfold maxLen; omega) rfl) b m d g rfl (y4.ext (Ext.alloc _ _)) (fun _ => rfl) (by unfold maxLen; omega) (by omega) (by simp) ?_; intro v5 w5 hown5 hgr5 hb5)
  have e45 : Ext w4 w5 := ((Below.refl _ _).alloc (Nat.le_refl _) _).trans hb5
  have z5 := (z3.ext x4).ext e45
  have hBB := e45.size
  obtain ⟨S, hSS⟩ : ∃ S, S = szN n := ⟨_, rfl⟩
  have HS := Lib.hid hSS
  have hSb : S ≤ 1000 := by rw [hSS]; unfold szN; omega
  clear hSS
  refine (pack_any a n c f _ z5 (by omega) hc hcm).mono ?_; rintro e w6 ⟨b6, d6, rfl, _, _, h6, x6⟩
  rw [← HS.out] at h6 ⊢
  have hown6 : w6.ownsRow w4.heap.size 5 1 v5 (0 + m) ([] ++ lstG (.int .u8) g m) := own_ext hown5 x6
  go_wp2_with (at_builtin; refine wpList_append_holds rfl (.tmp 36) (.tmp 38) _ rfl w4.heap.size 5 i8 (.int .u8 0) 1 Try.underlying23 hi8 hz80 hz81 hz82 rfl v5 (0 + m) ([] ++ lstG (.int .u8) g m) rfl hown6 b6 S d6 (pkF f n) rfl h6 (fun _ => rfl) (by unfold maxLen; omega) (by omega) (by have := x6.size; omega) ?_; intro v7 w7 hown7 hgr7 hb7)
  obtain ⟨b7, d7, rfl, q5, q6, h7⟩ := HoldsG.of_own (mk := Value.int .u8) (n := m + S) (f := catF g (pkF f n) m) (by rw [← lst_cat]; simpa using hown7)
  have e47 : Ext w4 w7 := by
    have e46 : Ext w4 w6 := Ext.trans e45 x6
    exact Below.trans e46 hb7
  have h47 := h4.ext e47
  have z7 := (z3.ext x4).ext e47
  have h17 := (h13.ext x4).ext e47
  have h37 := (h3.ext x4).ext e47
  clear hown5 hgr5 hb5 hown6 hown7 hgr7 hb7 e45 x6 z5 h6 hBB h4 h13 h3 y3 y4 z3
  have hs8 : szN (8 * m + n) = m + S := by rw [HS.out]; unfold szN; omega
  have H8 := Lib.hid hs8
  clear hs8
  refine (bytes_eq _ _ (szN (8 * m + n)) (m + S) _ _ _ _ _ h47 h7 (by rw [H8.out]; omega) ⟨H8.out, fun i _ => pk_cat g f m n hg i⟩).mono ?_; rintro e w8 ⟨rfl, x8⟩
  have hca : ((cnt (catF (unF g) f (8 * m)) (8 * m + n) : Nat) : Int) = (cnt (unF g) (8 * m) : Int) + cnt f n := by rw [show catF (unF g) f (8 * m) = (fun i => if i < 8 * m then unF g i else f (i - 8 * m)) from rfl, cnt_append]; simp
  have HCA := Lib.hid hca
  clear hca
  have hl1 := cnt_le (unF g) (8 * m)
  have hl2 := cnt_le f n
  go_wp2_with fail
  refine (ones_v b3 (8 * m + n) d3 _ _ _ (h37.ext x8) (by omega) HCA.out).mono ?_; rintro e w' ⟨rfl, rfl⟩
  go_wp2_with fail
  refine (ones_any b1 (8 * m) d1 _ _ (h17.ext x8) (by omega)).mono ?_; rintro e w' ⟨rfl, rfl⟩
  go_wp2_with fail
  refine (ones_any a n c f _ (z7.ext x8) (by omega)).mono ?_; rintro e w' ⟨rfl, rfl⟩
  go_wp2_with fail
  refine (sure2_any _).mono ?_; rintro e w9 ⟨rfl, x9⟩
  go_wp2
  go_ret
  exact ⟨rfl, ((((x1.trans e13).trans x4).trans e47).trans x8).trans x9⟩

theorem bitsParts.walk (b : Option Addr) (m d : Nat) (g : Nat → Int) (a : Option Addr) (n c : Nat) (f : Nat → Bool) (w : World) (hb : Holds .u8 w b m g) (hm : m ≤ maxLen) (_hd : m ≤ d) (_hdm : d ≤ maxLen) (hg : ∀ i, i < m → (Lit.int .u8 (g i)).wf = true)
    (ha : HoldsG Value.bool w a n f) (hn : n ≤ maxLen) (hc : n ≤ c) (hcm : c ≤ maxLen) :
    Calls Try.prog 5 #[.slice b m d, .slice a n c] w fun e w' => e = .returned (.bool true) ∧ Ext w w' := by
  by_cases h : 200 < m ∨ 600 < n
  · exact bitsParts.great b m d a n c w hn hm h
  · exact bitsParts.small b m d g a n c f w ha hc hcm hb (fun i hi => wf_by (hg i hi)) (by omega) (by omega)
end Go.Proofs.Ytkbfpkfaakipjaa
