/-
  THE LAWS OF LAYER 3: the walk of PolyParts.
-/
import Derived.Test.YtfhoaaocjaleaaaLaw03C
import Derived.Test.YtfhoaaocjaleaaaAppend
namespace Go.Proofs.Ytfhoaaocjaleaaa
open Go.RowKit

theorem lst_join {α : Type} (mk : α → Value) (f g : Nat → α) (n m : Nat) : lstG mk f n ++ lstG mk g m = lstG mk (fun i => if i < n then f i else g (i - n)) (n + m) := lstG_append mk f g n m

set_option maxHeartbeats 800000 in
theorem polyParts.great (p q : Int) (a : Option Addr) (n c : Nat) (b : Option Addr) (m d : Nat) (w : World) (hn : n ≤ 140737488351232) (hm : m ≤ 140737488351232) (h : 600 < n + m) :
    Calls Try.prog 5 #[.agg #[.int .u16 p, .int .u16 q], .agg #[.slice a n c, .slice b m d]] w fun e w' => e = .returned (.bool true) ∧ Ext w w' := by
  have k1 : (600 : Int) < n + m := by omega
  clear h
  go_enter Try.func5, Try.ntmps5
  go_wp2_with fail
  go_region
  go_wp2_with fail
  refine (sure3_any _).mono ?_; rintro e w8 ⟨rfl, x8⟩
  go_wp2
  go_ret
  exact ⟨rfl, (ext2 _ _ _).trans x8⟩

set_option maxRecDepth 100000 in
set_option maxHeartbeats 3200000 in
theorem polyParts.small (x y : BitVec 16) (a : Option Addr) (n c : Nat) (f : Nat → Int) (b : Option Addr) (m d : Nat) (g : Nat → Int) (w : World) (ha : Holds .u8 w a n f) (hf : ∀ i, i < n → 0 ≤ f i ∧ f i < 256)
    (hb : Holds .u8 w b m g) (hg : ∀ i, i < m → 0 ≤ g i ∧ g i < 256) (h : n + m ≤ 600) :
    Calls Try.prog 5 #[.agg #[.int .u16 (vI x), .int .u16 (vI y)], .agg #[.slice a n c, .slice b m d]] w fun e w' => e = .returned (.bool true) ∧ Ext w w' := by
  obtain ⟨i8, hi8, hz80, hz81, hz82⟩ := info_parts Try.info8p
  have k1 : (n : Int) + m ≤ 600 := by omega
  have e0 := ext2 w (.cells #[.int .u16 (vI x), .int .u16 (vI y)] 31) (.cells #[.slice a n c, .slice b m d] 32)
  have a0 := ha.ext e0
  have b0 := hb.ext e0
  clear ha hb
  obtain ⟨v0, hv0⟩ : ∃ v0, v0 = ((w.alloc (.cells #[.int .u16 (vI x), .int .u16 (vI y)] 31)).alloc (.cells #[.slice a n c, .slice b m d] 32)).drew := ⟨_, rfl⟩
  rw [← hv0] at e0 a0 b0
  have HV := Lib.hid hv0
  go_enter Try.func5, Try.ntmps5
  go_wp2_with fail
  clear hv0
  go_region
  rw [← HV.out]
  go_wp2_with (first
    | (at_builtin; refine wpList_append_holds rfl (.tmp 29) (.tmp 30) _ rfl v0.heap.size 5 i8 (.int .u8 0) 1 Try.underlying23 hi8 hz80 hz81 hz82 rfl _ 0 [] rfl (World.ownsRow_lit v0 #[] 0 (Nat.le_refl _) (by unfold maxLen; omega) rfl) a n c f rfl (a0.ext (Ext.alloc _ _)) (fun _ => rfl) (by unfold maxLen; omega) (by omega) (by simp) ?_; intro v2 w2 hown2 hgr2 hb2; have e12 : Ext v0 w2 := ((Below.refl _ _).alloc (Nat.le_refl _) _).trans hb2)
    | (at_builtin; refine wpList_append_holds rfl (.tmp 31) (.tmp 32) _ rfl v0.heap.size 5 i8 (.int .u8 0) 1 Try.underlying23 hi8 hz80 hz81 hz82 rfl v2 (0 + n) ([] ++ lstG (.int .u8) f n) rfl hown2 b m d g rfl (b0.ext e12) (fun _ => rfl) (by unfold maxLen; omega) (by omega) e12.size ?_; intro v3 w3 hown3 hgr3 hb3))
  have e13 : Ext v0 w3 := Below.trans e12 hb3
  obtain ⟨b3, d3, rfl, _, _, h3⟩ := HoldsG.of_own (mk := Value.int .u8) (n := n + m) (f := fun i => if i < n then f i else g (i - n)) (by rw [← lst_join]; simpa using hown3)
  clear hown2 hgr2 hown3 hgr3 hb2 hb3 e12
  have a3 := a0.ext e13
  have b3' := b0.ext e13
  have e3 := e0.trans e13
  clear a0 b0 e0 e13 HV
  have hall : ∀ i, i < n + m → 0 ≤ (fun i => if i < n then f i else g (i - n)) i ∧ (fun i => if i < n then f i else g (i - n)) i < 256 := by
    intro i hi
    by_cases hin : i < n
    · simp only [if_pos hin]; exact hf i hin
    · simp only [if_neg hin]; exact hg (i - n) (by omega)
  have HA := Lib.hid hall
  clear hall
  refine (rem_any a n c f x _ a3 (by omega) hf).mono ?_; rintro e w4 ⟨rfl, x4⟩
  have a4 := a3.ext x4
  have b4 := b3'.ext x4
  have h4 : Holds .u8 w4 b3 (n + m) (fun i => if i < n then f i else g (i - n)) := Holds.ext h3 x4
  have e4 := e3.trans x4
  clear a3 b3' h3 e3 x4
  go_wp2_with fail
  refine (rem_any a n c f y _ a4 (by omega) hf).mono ?_; rintro e w5 ⟨rfl, x5⟩
  have a5 := a4.ext x5
  have b5 := b4.ext x5
  have h5 := h4.ext x5
  have e5 := e4.trans x5
  clear a4 b4 h4 e4 x5
  go_wp2_with fail
  go_loop [12, 13] (fun r i => ∃ k : Nat, k ≤ n ∧ i = .int .i64 ((k : Int) - 1) ∧ r = .int .u16 (vI (remV x f k))) (fun _ i => (intOf i + 1).toNat)
  case atStart => exact ⟨n, Nat.le_refl _, rfl, rfl⟩
  case round =>
    obtain ⟨k, hk, rfl, rfl⟩ := hrel
    rcases Nat.eq_zero_or_pos k with rfl | hpos
    · have hz0 : ((0 : Nat) : Int) - 1 = -1 := by omega
      rw [hz0]
      clear hz0 hk a5 hf
      by_cases hxy : x = y
      · subst hxy
        have hq : remV x f 0 = x := rfl
        rw [hq]
        clear hq
        go_wp2_with fail
        refine (rem_v b3 (n + m) d3 _ _ (vI (remV (remV x f n) g m)) x _ h5 (by omega) HA.out rfl (congrArg vI (remV_add f g x n m))).mono ?_; rintro e w6 ⟨rfl, x6⟩
        have b6 := b5.ext x6
        have e6 := e5.trans x6
        clear b5 h5 e5 x6
        go_wp2_with fail
        refine (rem_any b m d g (remV x f n) _ b6 (by omega) hg).mono ?_; rintro e w7 ⟨rfl, x7⟩
        have e7 := e6.trans x7
        clear b6 e6 x7 hg HA
        go_wp2_with fail
        refine (sure3_any _).mono ?_; rintro e w8 ⟨rfl, x8⟩
        go_wp2
        go_ret
        exact ⟨rfl, e7.trans x8⟩
      · have hq : remV x f 0 = x := rfl
        rw [hq]
        have q1 : (vI x == vI y) = false := by rw [beq_eq_false_iff_ne, ne_eq, vI_inj]; exact hxy
        have q2 : (vI (remV x f n) == vI (remV y f n)) = false := by rw [beq_eq_false_iff_ne, ne_eq, vI_inj, remV_inj]; exact hxy
        clear hq hxy
        go_wp2_with fail
        refine (rem_v b3 (n + m) d3 _ _ (vI (remV (remV x f n) g m)) x _ h5 (by omega) HA.out rfl (congrArg vI (remV_add f g x n m))).mono ?_; rintro e w6 ⟨rfl, x6⟩
        have b6 := b5.ext x6
        have e6 := e5.trans x6
        clear b5 h5 e5 x6
        go_wp2_with fail
        refine (rem_any b m d g (remV x f n) _ b6 (by omega) hg).mono ?_; rintro e w7 ⟨rfl, x7⟩
        have e7 := e6.trans x7
        clear b6 e6 x7 hg HA
        go_wp2_with fail
        refine (sure3_any _).mono ?_; rintro e w8 ⟨rfl, x8⟩
        go_wp2
        go_ret
        exact ⟨rfl, e7.trans x8⟩
    · obtain ⟨j, rfl⟩ : ∃ j, k = j + 1 := ⟨k - 1, by omega⟩
      obtain ⟨p, o, rfl, hp, hc⟩ := a5.resolve_left (by omega)
      have c0 := hc j (by omega)
      obtain ⟨f0, f1⟩ := hf j (by omega)
      obtain ⟨z, hz⟩ : ∃ z : Int, z = ((j + 1 : Nat) : Int) - 1 := ⟨_, rfl⟩
      have hz' : z = (j : Int) := by omega
      rw [← hz, hz']
      have hj : (j : Int) < n := by omega
      clear hz hz' hpos hk hc a5 b5 h5 hf hg
      go_wp2_with fail
      refine (back_v (remV x f (j + 1)) _ _ (vI (remV x f j)) _ f0 f1 rfl (by simp only [remV]; rw [unbyte_byte])).mono ?_; rintro e w' ⟨rfl, rfl⟩
      go_wp2
      go_round
      case rel => exact ⟨j, by omega, by go_num, rfl⟩
      case measure => simp [intOf]

theorem polyParts.walk (p q : Int) (a : Option Addr) (n c : Nat) (f : Nat → Int) (b : Option Addr) (m d : Nat) (g : Nat → Int) (w : World) (hp : (Lit.int .u16 p).wf = true) (hq : (Lit.int .u16 q).wf = true)
    (ha : Holds .u8 w a n f) (hc : n ≤ c) (hcm : c * 1 ≤ 140737488351232) (hf : ∀ i, i < n → (Lit.int .u8 (f i)).wf = true)
    (hb : Holds .u8 w b m g) (hd : m ≤ d) (hdm : d * 1 ≤ 140737488351232) (hg : ∀ i, i < m → (Lit.int .u8 (g i)).wf = true) :
    Calls Try.prog 5 #[.agg #[.int .u16 p, .int .u16 q], .agg #[.slice a n c, .slice b m d]] w fun e w' => e = .returned (.bool true) ∧ Ext w w' := by
  by_cases h : 600 < n + m
  · exact polyParts.great p q a n c b m d w (by omega) (by omega) h
  · obtain ⟨x, rfl⟩ := wf16 hp
    obtain ⟨y, rfl⟩ := wf16 hq
    exact polyParts.small x y a n c f b m d g w ha (fun i hi => wf8 (hf i hi)) hb (fun i hi => wf8 (hg i hi)) (by omega)
end Go.Proofs.Ytfhoaaocjaleaaa
