/-
  THE LAWS OF LAYER 11: the walk of AduBack.
-/
import Derived.Test.YtaaapfpcdkfleaaDoorLaw11B
namespace Go.Proofs.YtaaapfpcdkfleaaDoor
open Go.RowKit

theorem aduBack.great (s : Int) (a : Option Addr) (n c : Nat) (b : Option Addr) (m d : Nat) (w : World) (ht : Tabs w) (hn : n ≤ 140737488351232) (hm : m ≤ 140737488351232) (h : 900 < n + m) :
    Calls Tryd.prog 4 #[.int .i64 s, .slice a n c, .slice b m d] w fun e w' => e = .returned (.bool true) ∧ Ext w w' := by
  have k1 : (900 : Int) < n + m := by omega
  clear h
  go_enter Tryd.func4, Tryd.ntmps4
  go_wp2_with fail
  refine (sure11_any _ ht).mono ?_; rintro e w8 ⟨rfl, x8⟩
  go_wp2
  go_ret
  exact ⟨rfl, x8⟩

theorem sizeN_ok {n : Nat} (h1 : 1 ≤ n) (h2 : n ≤ 253) : sizeN (n : Int) = ((n + 3 : Nat) : Int) := by unfold sizeN; rw [if_neg (by omega)]; omega

set_option maxRecDepth 100000 in
set_option maxHeartbeats 3200000 in
theorem aduBack.small (s : Int) (a : Option Addr) (n c : Nat) (f : Nat → Int) (b : Option Addr) (m d : Nat) (g : Nat → Int) (w : World) (ht : Tabs w) (ha : Holds .u8 w a n f) (hf : ∀ i, i < n → 0 ≤ f i ∧ f i < 256)
    (hb : Holds .u8 w b m g) (hd : m ≤ d) (hdm : d ≤ maxLen) (hg : ∀ i, i < m → 0 ≤ g i ∧ g i < 256) (h : n + m ≤ 900) :
    Calls Tryd.prog 4 #[.int .i64 s, .slice a n c, .slice b m d] w fun e w' => e = .returned (.bool true) ∧ Ext w w' := by
  have k1 : (n : Int) + m ≤ 900 := by omega
  obtain ⟨G, hG⟩ : ∃ G, openE g m = G := ⟨_, rfl⟩
  obtain ⟨V, hV⟩ : ∃ V, openS g m = V := ⟨_, rfl⟩
  obtain ⟨O, hO⟩ : ∃ O, openN g m = O := ⟨_, rfl⟩
  have A3 := Lib.hid (fun w' (x : Ext w w') => open_v b m d g V G O w' (ht.ext x) (hb.ext x) hd hdm (by omega) hg hV hG hO)
  have HB := Lib.hid (fun w' (x : Ext w w') => hb.ext x)
  have HA := Lib.hid (fun w' (x : Ext w w') => ha.ext x)
  have hT := Lib.hid (fun w' (x : Ext w w') => ht.ext x)
  obtain ⟨E, hE⟩ : ∃ E, wrapE s n = E := ⟨_, rfl⟩
  obtain ⟨W, hW⟩ : ∃ W, wrapN s n = W := ⟨_, rfl⟩
  have A1 := wrap_v s a n c f E W w ht ha (by omega) hf hE hW
  clear hb ha ht hdm
  by_cases e0 : E = 0
  · subst e0
    obtain ⟨s0, s1, n1, n2⟩ := wrapE_zero hE
    rw [wrapN_ok hE] at hW
    have hsz := sizeN_ok n1 n2
    rw [hW] at hsz
    have hW2 : (W : Int) ≤ 256 := by omega
    have hW4 : 4 ≤ W := by omega
    have n3 : n ≤ 253 := n2
    have gb := fun i (_ : i < W) => frm_bd s0 s1 hf i
    have ge : openE (frm s f n) W = 0 := openE_ok (by omega) (by omega) (by rw [← hW]; exact frm_ends s0 s1 hf)
    have gs : openS (frm s f n) W = s := by rw [openS_ok ge]; exact frm_zero s f n
    have gn : openN (frm s f n) W = n := by rw [openN_ok ge]; omega
    have A2 := Lib.hid (fun x1 d1 w' (c1 : W ≤ d1) (m1 : d1 ≤ maxLen) (x : Ext w w') (hh : Holds .u8 w' x1 W (frm s f n)) => open_v x1 W d1 _ s 0 n w' (hT.out _ x) hh c1 m1 (by omega) gb gs ge gn)
    have HS := Lib.hid hsz
    clear hsz gb ge gs gn hW hE s0 s1 n1 n2 hW4 hf n3
    by_cases g0 : G = 0
    · subst g0
      obtain ⟨m4, m5, hend⟩ := openE_zero hG
      rw [openS_ok hG] at hV
      rw [openN_ok hG] at hO
      obtain ⟨v0, v1⟩ := hg 0 (by omega)
      rw [hV] at v0 v1
      have hm3 : m = O + 3 := by omega
      have we : wrapE V O = 0 := wrapE_ok v0 v1 (by omega) (by omega)
      have wn : wrapN V O = m := by rw [wrapN_ok we]; omega
      have A5 := Lib.hid (fun x1 d1 w' (x : Ext w w') (hh : Holds .u8 w' x1 O (fun i => g (i + 1))) => wrap_v V x1 O d1 (fun i => g (i + 1)) 0 m w' (hT.out _ x) hh (by omega) (fun i hi => hg (i + 1) (by omega)) we wn)
      have HK := Lib.hid (show ∀ i, i < m → frm V (fun i => g (i + 1)) O i = g i by rw [← hV, hm3]; exact frm_back (fun i hi => hg i (by omega)) (by rw [← hm3]; exact hend))
      clear hg hG hV hO m4 m5 hend v0 v1 hm3 we wn hd h
      go_enter Tryd.func4, Tryd.ntmps4
      go_wp2_with fail
      refine A1.mono ?_; rintro e w1 ⟨b1, d1, rfl, c1, m1, h1, x1⟩
      clear A1
      go_wp2_with fail
      refine (A2.out _ _ _ c1 m1 x1 h1).mono ?_; rintro e w2 ⟨b2, d2, rfl, -, -, h2, x2⟩
      have y2 := x1.trans x2
      clear x1 x2 h1
      go_wp2_with fail
      refine (bytes_eq b2 a n n _ _ _ f _ h2 (HA.out _ y2) (by omega) ⟨rfl, fun i hi => frm_succ s f n i hi⟩).mono ?_; rintro e w3 ⟨rfl, x3⟩
      have y3 := y2.trans x3
      clear y2 x3 h2
      go_wp2_with fail
      refine (size_v _ _ _ HS.out).mono ?_; rintro e w' ⟨rfl, rfl⟩
      go_wp2_with fail
      refine (A3.out _ y3).mono ?_; rintro e w4 ⟨b4, d4, rfl, c4, m4, h4, x4⟩
      have y4 := y3.trans x4
      clear y3 x4
      go_wp2_with fail
      refine (A5.out _ _ _ y4 h4).mono ?_; rintro e w5 ⟨b5, d5, rfl, -, -, h5, x5⟩
      have y5 := y4.trans x5
      clear y4 x5 h4
      go_wp2_with fail
      refine (bytes_eq b5 b m m _ _ _ g _ h5 (HB.out _ y5) (by omega) ⟨rfl, HK.out⟩).mono ?_; rintro e w6 ⟨rfl, x6⟩
      have y6 := y5.trans x6
      clear y5 x6 h5
      go_wp2_with fail
      refine (sure11_any _ (hT.out _ y6)).mono ?_; rintro e w8 ⟨rfl, x8⟩
      have y8 := y6.trans x8
      clear y6 x8
      go_wp2
      go_ret
      exact ⟨rfl, y8⟩
    · rw [openS_no (by rw [hG]; exact g0)] at hV
      rw [openN_no (by rw [hG]; exact g0)] at hO
      subst hV
      subst hO
      have gb : (G == 0) = false := beq_eq_false_iff_ne.2 g0
      have gb2 : (G != 0) = true := by rw [bne, gb]; rfl
      clear g0 hG hg hd h
      go_enter Tryd.func4, Tryd.ntmps4
      go_wp2_with fail
      refine A1.mono ?_; rintro e w1 ⟨b1, d1, rfl, c1, m1, h1, x1⟩
      clear A1
      go_wp2_with fail
      refine (A2.out _ _ _ c1 m1 x1 h1).mono ?_; rintro e w2 ⟨b2, d2, rfl, -, -, h2, x2⟩
      have y2 := x1.trans x2
      clear x1 x2 h1
      go_wp2_with fail
      refine (bytes_eq b2 a n n _ _ _ f _ h2 (HA.out _ y2) (by omega) ⟨rfl, fun i hi => frm_succ s f n i hi⟩).mono ?_; rintro e w3 ⟨rfl, x3⟩
      have y3 := y2.trans x3
      clear y2 x3 h2
      go_wp2_with fail
      refine (size_v _ _ _ HS.out).mono ?_; rintro e w' ⟨rfl, rfl⟩
      go_wp2_with fail
      refine (A3.out _ y3).mono ?_; rintro e w4 ⟨b4, d4, rfl, c4, m4, h4, x4⟩
      have y4 := y3.trans x4
      clear y3 x4 h4
      go_wp2_with fail
      refine (sure11_any _ (hT.out _ y4)).mono ?_; rintro e w8 ⟨rfl, x8⟩
      have y8 := y4.trans x8
      clear y4 x8
      go_wp2
      go_ret
      exact ⟨rfl, y8⟩
  · have eb : (E == 0) = false := beq_eq_false_iff_ne.2 e0
    clear e0 hE hW hf HA
    by_cases g0 : G = 0
    · subst g0
      obtain ⟨m4, m5, hend⟩ := openE_zero hG
      rw [openS_ok hG] at hV
      rw [openN_ok hG] at hO
      obtain ⟨v0, v1⟩ := hg 0 (by omega)
      rw [hV] at v0 v1
      have hm3 : m = O + 3 := by omega
      have we : wrapE V O = 0 := wrapE_ok v0 v1 (by omega) (by omega)
      have wn : wrapN V O = m := by rw [wrapN_ok we]; omega
      have A5 := Lib.hid (fun x1 d1 w' (x : Ext w w') (hh : Holds .u8 w' x1 O (fun i => g (i + 1))) => wrap_v V x1 O d1 (fun i => g (i + 1)) 0 m w' (hT.out _ x) hh (by omega) (fun i hi => hg (i + 1) (by omega)) we wn)
      have HK := Lib.hid (show ∀ i, i < m → frm V (fun i => g (i + 1)) O i = g i by rw [← hV, hm3]; exact frm_back (fun i hi => hg i (by omega)) (by rw [← hm3]; exact hend))
      clear hg hG hV hO m4 m5 hend v0 v1 hm3 we wn hd h
      go_enter Tryd.func4, Tryd.ntmps4
      go_wp2_with fail
      refine A1.mono ?_; rintro e w1 ⟨b1, d1, rfl, c1, m1, h1, x1⟩
      clear A1
      have y3 := x1
      clear x1 h1
      go_wp2_with fail
      refine (A3.out _ y3).mono ?_; rintro e w4 ⟨b4, d4, rfl, c4, m4, h4, x4⟩
      have y4 := y3.trans x4
      clear y3 x4
      go_wp2_with fail
      refine (A5.out _ _ _ y4 h4).mono ?_; rintro e w5 ⟨b5, d5, rfl, -, -, h5, x5⟩
      have y5 := y4.trans x5
      clear y4 x5 h4
      go_wp2_with fail
      refine (bytes_eq b5 b m m _ _ _ g _ h5 (HB.out _ y5) (by omega) ⟨rfl, HK.out⟩).mono ?_; rintro e w6 ⟨rfl, x6⟩
      have y6 := y5.trans x6
      clear y5 x6 h5
      go_wp2_with fail
      refine (sure11_any _ (hT.out _ y6)).mono ?_; rintro e w8 ⟨rfl, x8⟩
      have y8 := y6.trans x8
      clear y6 x8
      go_wp2
      go_ret
      exact ⟨rfl, y8⟩
    · rw [openS_no (by rw [hG]; exact g0)] at hV
      rw [openN_no (by rw [hG]; exact g0)] at hO
      subst hV
      subst hO
      have gb : (G == 0) = false := beq_eq_false_iff_ne.2 g0
      have gb2 : (G != 0) = true := by rw [bne, gb]; rfl
      clear g0 hG hg hd h
      go_enter Tryd.func4, Tryd.ntmps4
      go_wp2_with fail
      refine A1.mono ?_; rintro e w1 ⟨b1, d1, rfl, c1, m1, h1, x1⟩
      clear A1
      have y3 := x1
      clear x1 h1
      go_wp2_with fail
      refine (A3.out _ y3).mono ?_; rintro e w4 ⟨b4, d4, rfl, c4, m4, h4, x4⟩
      have y4 := y3.trans x4
      clear y3 x4 h4
      go_wp2_with fail
      refine (sure11_any _ (hT.out _ y4)).mono ?_; rintro e w8 ⟨rfl, x8⟩
      have y8 := y4.trans x8
      clear y4 x8
      go_wp2
      go_ret
      exact ⟨rfl, y8⟩

theorem aduBack.walk (s : Int) (a : Option Addr) (n c : Nat) (f : Nat → Int) (b : Option Addr) (m d : Nat) (g : Nat → Int) (w : World) (ht : Tabs w) (_ : (Lit.int .i64 s).wf = true)
    (ha : Holds .u8 w a n f) (hc : n ≤ c) (hcm : c * 1 ≤ 140737488351232) (hf : ∀ i, i < n → (Lit.int .u8 (f i)).wf = true)
    (hb : Holds .u8 w b m g) (hd : m ≤ d) (hdm : d * 1 ≤ 140737488351232) (hg : ∀ i, i < m → (Lit.int .u8 (g i)).wf = true) :
    Calls Tryd.prog 4 #[.int .i64 s, .slice a n c, .slice b m d] w fun e w' => e = .returned (.bool true) ∧ Ext w w' := by
  by_cases h : 900 < n + m
  · exact aduBack.great s a n c b m d w ht (by omega) (by omega) h
  · exact aduBack.small s a n c f b m d g w ht ha (fun i hi => wf8 (hf i hi)) hb hd (by unfold maxLen; omega) (fun i hi => wf8 (hg i hi)) (by omega)
end Go.Proofs.YtaaapfpcdkfleaaDoor
