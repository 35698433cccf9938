/-
  THE LAWS OF LAYER 3: the walk of PolyLinear.
-/
import Derived.Test.YtfhoaaocjaleaaaLaw03B
namespace Go.Proofs.Ytfhoaaocjaleaaa
open Go.RowKit

theorem ext2 (w : World) (o o' : Obj) : Ext w ((w.alloc o).alloc o').drew := (((Ext.alloc w o).trans (Ext.alloc _ o')).trans (Ext.drew _))
theorem Holds.take {k : IntKind} {w : World} {a : Option Addr} {n : Nat} {f : Nat → Int} (h : Holds k w a n f) {m : Nat} (hm : m ≤ n) : Holds k w a m f := HoldsG.take (mk := .int k) h hm

set_option maxHeartbeats 800000 in
theorem polyLinear.great (p q : Int) (a : Option Addr) (n c : Nat) (b : Option Addr) (m d : Nat) (w : World) (h : 300 < n ∧ 300 < m) :
    Calls Try.prog 4 #[.agg #[.int .u16 p, .int .u16 q], .agg #[.slice a n c, .slice b m d]] w fun e w' => e = .returned (.bool true) ∧ Ext w w' := by
  have k1 : (300 : Int) < n := by omega
  have k2 : (300 : Int) < m := by omega
  clear h
  go_enter Try.func4, Try.ntmps4
  go_wp2_with fail
  go_region
  go_wp2_with fail
  all_goals
    refine (sure3_any _).mono ?_; rintro e w8 ⟨rfl, x8⟩
    go_wp2
    go_ret
    exact ⟨rfl, (ext2 _ _ _).trans x8⟩

set_option maxRecDepth 100000 in
set_option maxHeartbeats 3200000 in
theorem polyLinear.small (x y : BitVec 16) (a : Option Addr) (n c : Nat) (f : Nat → Int) (b : Option Addr) (m d : Nat) (g : Nat → Int) (w : World) (ha : Holds .u8 w a n f) (hf : ∀ i, i < n → 0 ≤ f i ∧ f i < 256)
    (hb : Holds .u8 w b m g) (hg : ∀ i, i < m → 0 ≤ g i ∧ g i < 256) (hc : n ≤ c) (hd : m ≤ d) (h : n ≤ 300 ∨ m ≤ 300) :
    Calls Try.prog 4 #[.agg #[.int .u16 (vI x), .int .u16 (vI y)], .agg #[.slice a n c, .slice b m d]] w fun e w' => e = .returned (.bool true) ∧ Ext w w' := by
  by_cases hnm : n ≤ m
  · have k1 : (n : Int) ≤ m := by omega
    have k2 : (n : Int) ≤ 300 := by omega
    have k3 : (n : Int) ≤ c := by omega
    have k4 : (n : Int) ≤ d := by omega
    go_enter Try.func4, Try.ntmps4
    go_wp2_with fail
    go_region
    go_wp2_with fail
    go_region
    go_wp2_with fail
    have e0 := ext2 w (.cells #[.int .u16 (vI x), .int .u16 (vI y)] 31) (.cells #[.slice a n c, .slice b m d] 32)
    have e1 := e0.trans (Ext.drew _)
    have h0 := (ha.take (m := n) (by omega)).ext e1
    have h1 := (hb.take (m := n) (by omega)).ext e1
    have hf' : ∀ i, i < n → 0 ≤ f i ∧ f i < 256 := fun i hi => hf i (by omega)
    have hg' : ∀ i, i < n → 0 ≤ g i ∧ g i < 256 := fun i hi => hg i (by omega)
    refine (mix_any a b n n c d n f g _ h0 h1 (by omega) (by omega) (by omega) hf' hg').mono ?_; rintro e w2 ⟨b2, d2, rfl, _, _, h2, x2⟩
    have h3 := h0.ext x2
    have h4 := h1.ext x2
    have e2 := e1.trans x2
    clear ha hb h0 h1 hf hg e0 e1 x2
    go_wp2_with fail
    refine (rem_v b2 n d2 (mixF f g) _ (bits .xor .u16 (vI (remV x f n)) (vI (remV y g n))) (x ^^^ y) _ h2 (by omega) (mixF_bd hf' hg') (vI_xor x y) (by rw [vI_xor]; exact congrArg vI (remV_xor x y f g n (fun i hi => (hf' i hi).1) (fun i hi => (hg' i hi).1)))).mono ?_
    rintro e w3 ⟨rfl, x3⟩
    have e3 := e2.trans x3
    have h5 := h3.ext x3
    have h6 := h4.ext x3
    clear h2 h3 h4 e2 x3
    go_wp2_with fail
    refine (rem_any a n c f x _ h5 (by omega) hf').mono ?_; rintro e w4 ⟨rfl, x4⟩
    have e4 := e3.trans x4
    have h7 := h6.ext x4
    clear h5 h6 e3 x4
    go_wp2_with fail
    refine (rem_any b n d g y _ h7 (by omega) hg').mono ?_; rintro e w5 ⟨rfl, x5⟩
    have e5 := e4.trans x5
    clear h7 e4 x5 hf' hg'
    go_wp2_with fail
    refine (sure3_any _).mono ?_; rintro e w8 ⟨rfl, x8⟩
    go_wp2
    go_ret
    exact ⟨rfl, e5.trans x8⟩
  · have k1 : (m : Int) < n := by omega
    have k2 : (m : Int) ≤ 300 := by omega
    have k3 : (m : Int) ≤ c := by omega
    have k4 : (m : Int) ≤ d := by omega
    go_enter Try.func4, Try.ntmps4
    go_wp2_with fail
    go_region
    go_wp2_with fail
    go_region
    go_wp2_with fail
    have e0 := ext2 w (.cells #[.int .u16 (vI x), .int .u16 (vI y)] 31) (.cells #[.slice a n c, .slice b m d] 32)
    have e1 := e0.trans (Ext.drew _)
    have h0 := (ha.take (m := m) (by omega)).ext e1
    have h1 := (hb.take (m := m) (by omega)).ext e1
    have hf' : ∀ i, i < m → 0 ≤ f i ∧ f i < 256 := fun i hi => hf i (by omega)
    have hg' : ∀ i, i < m → 0 ≤ g i ∧ g i < 256 := fun i hi => hg i (by omega)
    refine (mix_any a b m m c d m f g _ h0 h1 (by omega) (by omega) (by omega) hf' hg').mono ?_; rintro e w2 ⟨b2, d2, rfl, _, _, h2, x2⟩
    have h3 := h0.ext x2
    have h4 := h1.ext x2
    have e2 := e1.trans x2
    clear ha hb h0 h1 hf hg e0 e1 x2
    go_wp2_with fail
    refine (rem_v b2 m d2 (mixF f g) _ (bits .xor .u16 (vI (remV x f m)) (vI (remV y g m))) (x ^^^ y) _ h2 (by omega) (mixF_bd hf' hg') (vI_xor x y) (by rw [vI_xor]; exact congrArg vI (remV_xor x y f g m (fun i hi => (hf' i hi).1) (fun i hi => (hg' i hi).1)))).mono ?_
    rintro e w3 ⟨rfl, x3⟩
    have e3 := e2.trans x3
    have h5 := h3.ext x3
    have h6 := h4.ext x3
    clear h2 h3 h4 e2 x3
    go_wp2_with fail
    refine (rem_any a m c f x _ h5 (by omega) hf').mono ?_; rintro e w4 ⟨rfl, x4⟩
    have e4 := e3.trans x4
    have h7 := h6.ext x4
    clear h5 h6 e3 x4
    go_wp2_with fail
    refine (rem_any b m d g y _ h7 (by omega) hg').mono ?_; rintro e w5 ⟨rfl, x5⟩
    have e5 := e4.trans x5
    clear h7 e4 x5 hf' hg'
    go_wp2_with fail
    refine (sure3_any _).mono ?_; rintro e w8 ⟨rfl, x8⟩
    go_wp2
    go_ret
    exact ⟨rfl, e5.trans x8⟩

theorem polyLinear.walk (p q : Int) (a : Option Addr) (n c : Nat) (f : Nat → Int) (b : Option Addr) (m d : Nat) (g : Nat → Int) (w : World) (hp : (Lit.int .u16 p).wf = true) (hq : (Lit.int .u16 q).wf = true)
    (ha : Holds .u8 w a n f) (hc : n ≤ c) (_hcm : c * 1 ≤ 140737488351232) (hf : ∀ i, i < n → (Lit.int .u8 (f i)).wf = true)
    (hb : Holds .u8 w b m g) (hd : m ≤ d) (_hdm : d * 1 ≤ 140737488351232) (hg : ∀ i, i < m → (Lit.int .u8 (g i)).wf = true) :
    Calls Try.prog 4 #[.agg #[.int .u16 p, .int .u16 q], .agg #[.slice a n c, .slice b m d]] w fun e w' => e = .returned (.bool true) ∧ Ext w w' := by
  by_cases h : 300 < n ∧ 300 < m
  · exact polyLinear.great p q a n c b m d w h
  · obtain ⟨x, rfl⟩ := wf16 hp
    obtain ⟨y, rfl⟩ := wf16 hq
    exact polyLinear.small x y a n c f b m d g w ha (fun i hi => wf8 (hf i hi)) hb (fun i hi => wf8 (hg i hi)) hc hd (by omega)
end Go.Proofs.Ytfhoaaocjaleaaa
