/-
  THE LAWS OF LAYER 11: the walk of AduTells.
-/
import Derived.Test.YtaaapfpcdkfleaaDoorLaw11A
namespace Go.Proofs.YtaaapfpcdkfleaaDoor
open Go.RowKit

theorem aduTells.great (s : Int) (a : Option Addr) (n c : Nat) (b : Option Addr) (m d : Nat) (w : World) (ht : Tabs w) (hn : n ≤ 140737488351232) (hm : m ≤ 140737488351232) (h : 900 < n + m) :
    Calls Tryd.prog 3 #[.int .i64 s, .slice a n c, .slice b m d] w fun e w' => e = .returned (.bool true) ∧ Ext w w' := by
  have k1 : (900 : Int) < n + m := by omega
  clear h
  go_enter Tryd.func3, Tryd.ntmps3
  go_wp2_with fail
  refine (sure11_any _ ht).mono ?_; rintro e w8 ⟨rfl, x8⟩
  go_wp2
  go_ret
  exact ⟨rfl, x8⟩

theorem wrapE_bd (s : Int) (n : Nat) : 0 ≤ wrapE s n ∧ wrapE s n ≤ 14 := by unfold wrapE; split <;> (try split) <;> (try split) <;> omega
theorem openE_bd (f : Nat → Int) (n : Nat) : 0 ≤ openE f n ∧ openE f n ≤ 14 := by unfold openE; split <;> (try split) <;> (try split) <;> omega

set_option maxRecDepth 100000 in
set_option maxHeartbeats 3200000 in
theorem aduTells.small (s : Int) (a : Option Addr) (n c : Nat) (f : Nat → Int) (b : Option Addr) (m d : Nat) (g : Nat → Int) (w : World) (ht : Tabs w) (ha : Holds .u8 w a n f) (hf : ∀ i, i < n → 0 ≤ f i ∧ f i < 256)
    (hb : Holds .u8 w b m g) (hd : m ≤ d) (hdm : d ≤ maxLen) (hg : ∀ i, i < m → 0 ≤ g i ∧ g i < 256) (h : n + m ≤ 900) :
    Calls Tryd.prog 3 #[.int .i64 s, .slice a n c, .slice b m d] w fun e w' => e = .returned (.bool true) ∧ Ext w w' := by
  have k1 : (n : Int) + m ≤ 900 := by omega
  obtain ⟨E, hE⟩ : ∃ E, wrapE s n = E := ⟨_, rfl⟩
  obtain ⟨W, hW⟩ : ∃ W, wrapN s n = W := ⟨_, rfl⟩
  obtain ⟨V, hV⟩ : ∃ V, openS g m = V := ⟨_, rfl⟩
  obtain ⟨G, hG⟩ : ∃ G, openE g m = G := ⟨_, rfl⟩
  obtain ⟨O, hO⟩ : ∃ O, openN g m = O := ⟨_, rfl⟩
  have E0 : 0 ≤ E ∧ E ≤ 14 := hE ▸ wrapE_bd s n
  have G0 : 0 ≤ G ∧ G ≤ 14 := hG ▸ openE_bd g m
  have hW2 : W ≤ 256 := hW ▸ wrapN_le s n
  have hO2 : O ≤ 253 := hO ▸ openN_le g m
  obtain ⟨E0, E1⟩ := E0
  obtain ⟨G0, G1⟩ := G0
  have A1 := wrap_v s a n c f E W w ht ha (by omega) hf hE hW
  have A2 := Lib.hid (fun w' (x : Ext w w') => rwrap_v s a n c f E W w' (ha.ext x) (by omega) hf hE hW)
  have A3 := Lib.hid (fun w' (x : Ext w w') => open_v b m d g V G O w' (ht.ext x) (hb.ext x) hd hdm (by omega) hg hV hG hO)
  have A4 := Lib.hid (fun w' (x : Ext w w') => ropen_v b m d g V G O w' (hb.ext x) hd hdm (by omega) hg hV hG hO)
  have hT := Lib.hid ht
  clear hE hW hV hG hO ht ha hb hf hg h hd hdm
  obtain ⟨z, hz⟩ : ∃ z, sizeN s = z := ⟨_, rfl⟩
  have hzz := hz
  unfold sizeN at hzz
  by_cases hs0 : 0 < s
  · by_cases hs1 : s < 254
    · rw [if_neg (by omega)] at hzz
      subst hzz
      have HZ := Lib.hid hz
      clear hz
      go_enter Tryd.func3, Tryd.ntmps3
      go_wp2_with fail
      refine A1.mono ?_; rintro e w1 ⟨b1, d1, rfl, -, -, h1, x1⟩
      clear A1
      go_wp2_with fail
      refine (A2.out _ x1).mono ?_; rintro e w2 ⟨b2, d2, rfl, h2, x2⟩
      have y2 := x1.trans x2
      have h1' := h1.ext x2
      clear h1 x1 x2
      go_wp2_with fail
      refine (A3.out _ y2).mono ?_; rintro e w3 ⟨b3, d3, rfl, -, -, h3, x3⟩
      have y3 := y2.trans x3
      have h1 := h1'.ext x3
      have h2' := h2.ext x3
      clear h1' h2 x3 y2
      go_wp2_with fail
      refine (A4.out _ y3).mono ?_; rintro e w4 ⟨b4, d4, rfl, -, -, h4, x4⟩
      have y4 := y3.trans x4
      have h1' := h1.ext x4
      have h2 := h2'.ext x4
      have h3' := h3.ext x4
      clear h1 h2' h3 x4 y3
      go_wp2_with fail
      refine (bytes_eq b1 b2 W W _ _ _ _ _ h1' h2 (by omega) ⟨rfl, fun i _ => rfl⟩).mono ?_; rintro e w5 ⟨rfl, x5⟩
      have y5 := y4.trans x5
      have h3 := h3'.ext x5
      have h4' := h4.ext x5
      clear h1' h2 h3' h4 x5 y4
      go_wp2_with fail
      refine (bytes_eq b3 b4 O O _ _ _ _ _ h3 h4' (by omega) ⟨rfl, fun i _ => rfl⟩).mono ?_; rintro e w6 ⟨rfl, x6⟩
      have y6 := y5.trans x6
      clear h3 h4' x6 y5
      go_wp2_with fail
      refine (size_v s _ _ HZ.out).mono ?_; rintro e w7 ⟨rfl, rfl⟩
      go_wp2_with fail
      refine (sure11_any _ (hT.out.ext y6)).mono ?_; rintro e w8 ⟨rfl, x8⟩
      have y8 := y6.trans x8
      clear y6 x8
      go_wp2
      go_ret
      exact ⟨rfl, y8⟩
    · rw [if_pos (by omega)] at hzz
      subst hzz
      have HZ := Lib.hid hz
      clear hz
      go_enter Tryd.func3, Tryd.ntmps3
      go_wp2_with fail
      refine A1.mono ?_; rintro e w1 ⟨b1, d1, rfl, -, -, h1, x1⟩
      clear A1
      go_wp2_with fail
      refine (A2.out _ x1).mono ?_; rintro e w2 ⟨b2, d2, rfl, h2, x2⟩
      have y2 := x1.trans x2
      have h1' := h1.ext x2
      clear h1 x1 x2
      go_wp2_with fail
      refine (A3.out _ y2).mono ?_; rintro e w3 ⟨b3, d3, rfl, -, -, h3, x3⟩
      have y3 := y2.trans x3
      have h1 := h1'.ext x3
      have h2' := h2.ext x3
      clear h1' h2 x3 y2
      go_wp2_with fail
      refine (A4.out _ y3).mono ?_; rintro e w4 ⟨b4, d4, rfl, -, -, h4, x4⟩
      have y4 := y3.trans x4
      have h1' := h1.ext x4
      have h2 := h2'.ext x4
      have h3' := h3.ext x4
      clear h1 h2' h3 x4 y3
      go_wp2_with fail
      refine (bytes_eq b1 b2 W W _ _ _ _ _ h1' h2 (by omega) ⟨rfl, fun i _ => rfl⟩).mono ?_; rintro e w5 ⟨rfl, x5⟩
      have y5 := y4.trans x5
      have h3 := h3'.ext x5
      have h4' := h4.ext x5
      clear h1' h2 h3' h4 x5 y4
      go_wp2_with fail
      refine (bytes_eq b3 b4 O O _ _ _ _ _ h3 h4' (by omega) ⟨rfl, fun i _ => rfl⟩).mono ?_; rintro e w6 ⟨rfl, x6⟩
      have y6 := y5.trans x6
      clear h3 h4' x6 y5
      go_wp2_with fail
      refine (size_v s _ _ HZ.out).mono ?_; rintro e w7 ⟨rfl, rfl⟩
      go_wp2_with fail
      refine (sure11_any _ (hT.out.ext y6)).mono ?_; rintro e w8 ⟨rfl, x8⟩
      have y8 := y6.trans x8
      clear y6 x8
      go_wp2
      go_ret
      exact ⟨rfl, y8⟩
  · rw [if_pos (by omega)] at hzz
    subst hzz
    have HZ := Lib.hid hz
    clear hz
    go_enter Tryd.func3, Tryd.ntmps3
    go_wp2_with fail
    refine A1.mono ?_; rintro e w1 ⟨b1, d1, rfl, -, -, h1, x1⟩
    clear A1
    go_wp2_with fail
    refine (A2.out _ x1).mono ?_; rintro e w2 ⟨b2, d2, rfl, h2, x2⟩
    have y2 := x1.trans x2
    have h1' := h1.ext x2
    clear h1 x1 x2
    go_wp2_with fail
    refine (A3.out _ y2).mono ?_; rintro e w3 ⟨b3, d3, rfl, -, -, h3, x3⟩
    have y3 := y2.trans x3
    have h1 := h1'.ext x3
    have h2' := h2.ext x3
    clear h1' h2 x3 y2
    go_wp2_with fail
    refine (A4.out _ y3).mono ?_; rintro e w4 ⟨b4, d4, rfl, -, -, h4, x4⟩
    have y4 := y3.trans x4
    have h1' := h1.ext x4
    have h2 := h2'.ext x4
    have h3' := h3.ext x4
    clear h1 h2' h3 x4 y3
    go_wp2_with fail
    refine (bytes_eq b1 b2 W W _ _ _ _ _ h1' h2 (by omega) ⟨rfl, fun i _ => rfl⟩).mono ?_; rintro e w5 ⟨rfl, x5⟩
    have y5 := y4.trans x5
    have h3 := h3'.ext x5
    have h4' := h4.ext x5
    clear h1' h2 h3' h4 x5 y4
    go_wp2_with fail
    refine (bytes_eq b3 b4 O O _ _ _ _ _ h3 h4' (by omega) ⟨rfl, fun i _ => rfl⟩).mono ?_; rintro e w6 ⟨rfl, x6⟩
    have y6 := y5.trans x6
    clear h3 h4' x6 y5
    go_wp2_with fail
    refine (size_v s _ _ HZ.out).mono ?_; rintro e w7 ⟨rfl, rfl⟩
    go_wp2_with fail
    refine (sure11_any _ (hT.out.ext y6)).mono ?_; rintro e w8 ⟨rfl, x8⟩
    have y8 := y6.trans x8
    clear y6 x8
    go_wp2
    go_ret
    exact ⟨rfl, y8⟩

theorem aduTells.walk (s : Int) (a : Option Addr) (n c : Nat) (f : Nat → Int) (b : Option Addr) (m d : Nat) (g : Nat → Int) (w : World) (ht : Tabs w) (_ : (Lit.int .i64 s).wf = true)
    (ha : Holds .u8 w a n f) (hc : n ≤ c) (hcm : c * 1 ≤ 140737488351232) (hf : ∀ i, i < n → (Lit.int .u8 (f i)).wf = true)
    (hb : Holds .u8 w b m g) (hd : m ≤ d) (hdm : d * 1 ≤ 140737488351232) (hg : ∀ i, i < m → (Lit.int .u8 (g i)).wf = true) :
    Calls Tryd.prog 3 #[.int .i64 s, .slice a n c, .slice b m d] w fun e w' => e = .returned (.bool true) ∧ Ext w w' := by
  by_cases h : 900 < n + m
  · exact aduTells.great s a n c b m d w ht (by omega) (by omega) h
  · exact aduTells.small s a n c f b m d g w ht ha (fun i hi => wf8 (hf i hi)) hb hd (by unfold maxLen; omega) (fun i hi => wf8 (hg i hi)) (by omega)
end Go.Proofs.YtaaapfpcdkfleaaDoor
