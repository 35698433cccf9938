/-
  THE LAWS OF LAYER 3: the walk of PolyTells.
-/
import Derived.Test.YtfhoaaocjaleaaaLaw03A
namespace Go.Proofs.Ytfhoaaocjaleaaa
open Go.RowKit

theorem wf8 {n : Int} (h : (Lit.int .u8 n).wf = true) : 0 ≤ n ∧ n < 256 := by have := bounds_u8 h; omega
theorem wf16 {n : Int} (h : (Lit.int .u16 n).wf = true) : ∃ x, n = vI x := by have := bounds_u16 h; exact vI_of (by omega) (by omega)

theorem polyTells.great (r : Int) (a : Option Addr) (n c : Nat) (b : Option Addr) (m d : Nat) (w : World) (hn : n ≤ 140737488351232) (hm : m ≤ 140737488351232) (h : 600 < n + m) :
    Calls Try.prog 3 #[.int .u16 r, .slice a n c, .slice b m d] w fun e w' => e = .returned (.bool true) ∧ Ext w w' := by
  have k1 : (600 : Int) < n + m := by omega
  clear h
  go_enter Try.func3, Try.ntmps3
  go_wp2_with fail
  refine (sure3_any _).mono ?_; rintro e w8 ⟨rfl, x8⟩
  go_wp2
  go_ret
  exact ⟨rfl, x8⟩

set_option maxRecDepth 100000 in
set_option maxHeartbeats 3200000 in
theorem polyTells.small (x : BitVec 16) (a : Option Addr) (n c : Nat) (f : Nat → Int) (b : Option Addr) (m d : Nat) (g : Nat → Int) (w : World) (ha : Holds .u8 w a n f) (hf : ∀ i, i < n → 0 ≤ f i ∧ f i < 256)
    (hb : Holds .u8 w b m g) (hg : ∀ i, i < m → 0 ≤ g i ∧ g i < 256) (h : n + m ≤ 600) :
    Calls Try.prog 3 #[.int .u16 (vI x), .slice a n c, .slice b m d] w fun e w' => e = .returned (.bool true) ∧ Ext w w' := by
  have k1 : (n : Int) + m ≤ 600 := by omega

  go_enter Try.func3, Try.ntmps3
  go_wp2_with fail
  refine (pbit_any x _ _).mono ?_; rintro e w' ⟨rfl, rfl⟩
  go_wp2_with fail
  refine (rbit_any x _ _).mono ?_; rintro e w' ⟨rfl, rfl⟩
  go_wp2_with fail
  refine (pbyte_any x _ _ (by omega) (by omega)).mono ?_; rintro e w' ⟨rfl, rfl⟩
  go_wp2_with fail
  refine (rbyte_any x _ _ (by omega) (by omega)).mono ?_; rintro e w' ⟨rfl, rfl⟩
  go_wp2_with fail
  refine (rem_any a n c f x _ ha (by omega) hf).mono ?_; rintro e w1 ⟨rfl, x1⟩
  go_wp2_with fail
  refine (rrem_any a n c f x _ (ha.ext x1) (by omega) hf).mono ?_; rintro e w' ⟨rfl, rfl⟩
  go_wp2_with fail
  refine (mix_any a b n m c d (min n m) f g _ (ha.ext x1) (hb.ext x1) (by omega) (by omega) rfl hf hg).mono ?_; rintro e w2 ⟨b2, d2, rfl, _, _, h2, x2⟩
  have x12 := x1.trans x2
  go_wp2_with fail
  refine (rmix_any a b n m c d (min n m) f g _ (ha.ext x12) (hb.ext x12) (by omega) (by omega) rfl hf hg).mono ?_; rintro e w3 ⟨b3, d3, rfl, h3, x3⟩
  go_wp2_with fail
  refine (bytes_eq b2 b3 (min n m) (min n m) _ _ _ _ _ (h2.ext x3) h3 (by omega) ⟨rfl, fun i _ => rfl⟩).mono ?_; rintro e w4 ⟨rfl, x4⟩
  clear ha hb hf hg h2 h3
  go_wp2_with fail
  refine (back_any x _ _ (by omega) (by omega)).mono ?_; rintro e w' ⟨rfl, rfl⟩
  go_wp2_with fail
  refine (rbyte_v (unbyteV x _) _ _ (vI x) _ (by omega) (by omega) rfl (by rw [byte_unbyte])).mono ?_; rintro e w' ⟨rfl, rfl⟩
  go_wp2_with fail
  refine (sure3_any _).mono ?_; rintro e w8 ⟨rfl, x8⟩
  go_wp2
  go_ret
  exact ⟨rfl, ((x12.trans x3).trans x4).trans x8⟩

theorem polyTells.walk (r : Int) (a : Option Addr) (n c : Nat) (f : Nat → Int) (b : Option Addr) (m d : Nat) (g : Nat → Int) (w : World) (hr : (Lit.int .u16 r).wf = true)
    (ha : Holds .u8 w a n f) (hc : n ≤ c) (hcm : c * 1 ≤ 140737488351232) (hf : ∀ i, i < n → (Lit.int .u8 (f i)).wf = true)
    (hb : Holds .u8 w b m g) (hd : m ≤ d) (hdm : d * 1 ≤ 140737488351232) (hg : ∀ i, i < m → (Lit.int .u8 (g i)).wf = true) :
    Calls Try.prog 3 #[.int .u16 r, .slice a n c, .slice b m d] w fun e w' => e = .returned (.bool true) ∧ Ext w w' := by
  obtain ⟨x, rfl⟩ := wf16 hr
  by_cases h : 600 < n + m
  · exact polyTells.great _ a n c b m d w (by omega) (by omega) h
  · exact polyTells.small x a n c f b m d g w ha (fun i hi => wf8 (hf i hi)) hb (fun i hi => wf8 (hg i hi)) (by omega)
end Go.Proofs.Ytfhoaaocjaleaaa
