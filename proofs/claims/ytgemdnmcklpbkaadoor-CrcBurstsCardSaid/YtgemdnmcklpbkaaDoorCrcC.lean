/-
  CONTRACTS: bilgeref04.Append and Check; crc's cut, Check, Strip.
-/
import Derived.Test.YtgemdnmcklpbkaaDoorCrcB
namespace Go.Proofs.YtgemdnmcklpbkaaDoor
open Go.RowKit

theorem high_t (r : Int) (h0 : 0 ≤ r) (h1 : r < 65536) : IntKind.u16.wrap (r.tdiv 256) % 256 = r / (256 : Int) := by
  rw [Int.tdiv_eq_ediv_of_nonneg h0]
  show (r / 256) % 65536 % 256 = _
  omega
set_option maxHeartbeats 1600000 in
theorem rappend_any (a : Option Addr) (n c : Nat) (f : Nat → Int) (w : World) (ha : Holds .u8 w a n f) (hn : n ≤ 1000000) (hf : ∀ i, i < n → 0 ≤ f i ∧ f i < 256) :
    Calls Tryd.prog 18 #[.slice a n c] w fun e w' => ∃ x y, e = .returned (.slice x (n + 2) y) ∧ Holds .u8 w' x (n + 2) (andTwo f n (vI (sumV f n))) ∧ Ext w w' := by
  obtain ⟨i8, hi8, hz80, hz81, hz82⟩ := info_parts Tryd.info8p
  have hr := rsum_any a n c f w ha hn hf
  have s0 := vI_lo (sumV f n)
  have s1 := vI_hi (sumV f n)
  obtain ⟨s, hs⟩ : ∃ s, s = vI (sumV f n) := ⟨_, rfl⟩
  rw [← hs] at s0 s1 hr ⊢
  clear hs hf
  go_enter Tryd.func18, Tryd.ntmps18
  go_wp2_with fail
  refine hr.mono ?_; rintro e w' ⟨rfl, rfl⟩
  go_wp2_with (first
    | (at_builtin; refine wpList_append_holds rfl (.tmp 6) (.tmp 7) _ rfl w.heap.size 5 i8 (.int .u8 0) 1 Tryd.underlying23 hi8 hz80 hz81 hz82 rfl _ 0 [] rfl (World.ownsRow_lit w #[] 0 (Nat.le_refl _) (by unfold maxLen; omega) rfl) a n c f rfl (Holds.ext ha (Ext.alloc _ _)) (fun _ => rfl) (by unfold maxLen; omega) (by omega) (by simp) ?_; intro v2 w2 hown2 hgr2 hb2; have x2 : Ext w w2 := ((Below.refl _ _).alloc (Nat.le_refl _) _).trans hb2)
    | (at_builtin; refine wpList_append_holds rfl (.tmp 8) (.tmp 15) _ rfl w.heap.size 5 i8 (.int .u8 0) 1 Tryd.underlying23 hi8 hz80 hz81 hz82 rfl v2 (0 + n) ([] ++ lstG (.int .u8) f n) rfl (own_ext hown2 (Ext.alloc _ _)) _ 2 _ (lowF s) rfl (Holds.new _ _ _ _ _ (fun i hi => by
        match i, hi with
        | 0, _ => (first | rfl | (simp [lowF]; try omega))
        | 1, _ => (first | rfl | (simp [lowF]; exact high_t s s0 s1)))) (fun _ => rfl) (by unfold maxLen; omega) (by omega) (x2.trans (Ext.alloc _ _)).size ?_; intro v7 w7 hown7 hgr7 hb7))
  obtain ⟨b8, d8, rfl, l8, m8, h8⟩ := HoldsG.of_own (mk := Value.int .u8) (n := n + 2) (f := andTwo f n s) (by rw [← lst_two]; simpa using hown7)
  have x8 : Ext w w7 := Below.trans (x2.trans (Ext.alloc _ _)) hb7
  clear hown2 hown7 hgr2 hgr7 hb2 hb7 x2
  go_ret
  exact ⟨_, _, rfl, h8, x8⟩

theorem cut_short (a : Option Addr) (n c : Nat) (w : World) (hn : n < 2) :
    Calls Tryd.prog 24 #[.slice a n c] w fun e w' => e = .returned (.tuple #[.slice none 0 0, .int .u16 0, .bool false]) ∧ w = w' := by
  have h : (n : Int) < 2 := by omega
  clear hn
  go_enter Tryd.func24, Tryd.ntmps24
  go_wp2
  go_ret3
  exact ⟨rfl, rfl⟩

theorem Holds.front {k : IntKind} {w : World} {a : Option Addr} {n m : Nat} {f : Nat → Int} (h : Holds k w a n f) (hm : m ≤ n) : Holds k w a m f := HoldsG.take (mk := Value.int k) h hm
theorem Holds.back {k : IntKind} {w : World} {b off n : Nat} {f : Nat → Int} (h : Holds k w (some ⟨b, off, none⟩) n f) (q : Nat) : Holds k w (some ⟨b, off + q, none⟩) (n - q) (fun i => f (q + i)) := HoldsG.drop (mk := Value.int k) h

set_option maxHeartbeats 1600000 in
theorem cut_long (a : Option Addr) (n c : Nat) (f : Nat → Int) (w : World) (ha : Holds .u8 w a (n + 2) f) (hc : n + 2 ≤ c) (hcm : c ≤ maxLen) (hn : n ≤ 1000000) (hf : ∀ i, i < n + 2 → 0 ≤ f i ∧ f i < 256) :
    Calls Tryd.prog 24 #[.slice a (n + 2) c] w fun e w' => e = .returned (.tuple #[.slice a n c, .int .u16 (f (n + 1) * 256 + f n), .bool true]) ∧ Ext w w' := by
  obtain ⟨b, off, rfl, hlt, hc0⟩ := id (ha.resolve_left (by omega))
  have h1 : ((n + 2 : Nat) : Int) - 2 = (n : Int) := by omega
  have h2 : ¬ ((n + 2 : Nat) : Int) < 2 := by omega
  have hb := ha.back n
  rw [show n + 2 - n = 2 from by omega] at hb
  have hbf : ∀ i, i < 2 → 0 ≤ f (n + i) ∧ f (n + i) < 256 := fun i hi => hf (n + i) (by omega)
  have hmax : c ≤ 9223372036854775807 := hcm
  go_enter Tryd.func24, Tryd.ntmps24
  go_wp2_with fail
  refine (unlow_two _ _ _ _ hb hbf).mono ?_; rintro e w1 ⟨rfl, q, rfl⟩
  go_wp2
  go_ret3
  exact ⟨rfl, Ext.drewN _ _⟩

/-- Do the bytes end with their sum? -/
def endB (f : Nat → Int) (n : Nat) : Bool := vI (sumV f n) == f (n + 1) * 256 + f n

theorem check_short (a : Option Addr) (n c : Nat) (w : World) (hn : n < 2) :
    Calls Tryd.prog 19 #[.slice a n c] w fun e w' => e = .returned (.bool false) ∧ w = w' := by
  go_enter Tryd.func19, Tryd.ntmps19
  go_wp2_with fail
  refine (cut_short a n c w hn).mono ?_; rintro e w1 ⟨rfl, rfl⟩
  go_wp2
  go_ret
  exact ⟨rfl, rfl⟩
set_option maxHeartbeats 1600000 in
theorem check_long (a : Option Addr) (n c : Nat) (f : Nat → Int) (w : World) (ht : Tabs w) (ha : Holds .u8 w a (n + 2) f) (hc : n + 2 ≤ c) (hcm : c ≤ maxLen) (hn : n ≤ 1000000) (hf : ∀ i, i < n + 2 → 0 ≤ f i ∧ f i < 256) :
    Calls Tryd.prog 19 #[.slice a (n + 2) c] w fun e w' => e = .returned (.bool (endB f n)) ∧ Ext w w' := by
  have h1 := cut_long a n c f w ha hc hcm hn hf
  have e0 : endB f n = (vI (sumV f n) == f (n + 1) * 256 + f n) := rfl
  generalize f (n + 1) * 256 + f n = told at h1 e0
  have H0 := Lib.hid e0
  clear e0
  go_enter Tryd.func19, Tryd.ntmps19
  go_wp2_with fail
  refine h1.mono ?_; rintro e w1 ⟨rfl, x1⟩
  go_wp2_with fail
  refine (sum_any a n c f _ (ht.ext x1) ((ha.front (by omega)).ext x1) hn (fun i hi => hf i (by omega))).mono ?_; rintro e w2 ⟨rfl, x2⟩
  go_wp2
  go_ret
  exact ⟨ret_b H0.out.symm, x1.trans x2⟩

theorem strip_short (a : Option Addr) (n c : Nat) (w : World) (hn : n < 2) :
    Calls Tryd.prog 9 #[.slice a n c] w fun e w' => e = .returned (.tuple #[.slice none 0 0, .int .i64 12]) ∧ w = w' := by
  go_enter Tryd.func9, Tryd.ntmps9
  go_wp2_with fail
  refine (cut_short a n c w hn).mono ?_; rintro e w1 ⟨rfl, rfl⟩
  go_wp2
  go_ret2
  exact ⟨rfl, rfl⟩
set_option maxHeartbeats 1600000 in
theorem strip_bad (a : Option Addr) (n c : Nat) (f : Nat → Int) (w : World) (ht : Tabs w) (ha : Holds .u8 w a (n + 2) f) (hc : n + 2 ≤ c) (hcm : c ≤ maxLen) (hn : n ≤ 1000000) (hf : ∀ i, i < n + 2 → 0 ≤ f i ∧ f i < 256) (he : endB f n = false) :
    Calls Tryd.prog 9 #[.slice a (n + 2) c] w fun e w' => e = .returned (.tuple #[.slice none 0 0, .int .i64 14]) ∧ Ext w w' := by
  have h1 := cut_long a n c f w ha hc hcm hn hf
  have e0 : (vI (sumV f n) == f (n + 1) * 256 + f n) = false := he
  have e1 : (vI (sumV f n) != f (n + 1) * 256 + f n) = true := by rw [bne, e0]; rfl
  generalize f (n + 1) * 256 + f n = told at h1 e0 e1
  clear he
  go_enter Tryd.func9, Tryd.ntmps9
  go_wp2_with fail
  refine h1.mono ?_; rintro e w1 ⟨rfl, x1⟩
  go_wp2_with fail
  refine (sum_any a n c f _ (ht.ext x1) ((ha.front (by omega)).ext x1) hn (fun i hi => hf i (by omega))).mono ?_; rintro e w2 ⟨rfl, x2⟩
  go_wp2
  go_ret2
  exact ⟨rfl, x1.trans x2⟩
set_option maxHeartbeats 1600000 in
theorem strip_good (a : Option Addr) (n c : Nat) (f : Nat → Int) (w : World) (ht : Tabs w) (ha : Holds .u8 w a (n + 2) f) (hc : n + 2 ≤ c) (hcm : c ≤ maxLen) (hn : n ≤ 1000000) (hf : ∀ i, i < n + 2 → 0 ≤ f i ∧ f i < 256) (he : endB f n = true) :
    Calls Tryd.prog 9 #[.slice a (n + 2) c] w fun e w' => ∃ x y, e = .returned (.tuple #[.slice x n y, .int .i64 0]) ∧ n ≤ y ∧ y ≤ maxLen ∧ Holds .u8 w' x n f ∧ Ext w w' := by
  obtain ⟨i8, hi8, hz80, hz81, hz82⟩ := info_parts Tryd.info8p
  have h1 := cut_long a n c f w ha hc hcm hn hf
  have e0 : (vI (sumV f n) == f (n + 1) * 256 + f n) = true := he
  have e1 : (vI (sumV f n) != f (n + 1) * 256 + f n) = false := by rw [bne, e0]; rfl
  generalize f (n + 1) * 256 + f n = told at h1 e0 e1
  clear he
  go_enter Tryd.func9, Tryd.ntmps9
  go_wp2_with fail
  refine h1.mono ?_; rintro e w1 ⟨rfl, x1⟩
  go_wp2_with fail
  have a1 := (ha.front (m := n) (by omega)).ext x1
  refine (sum_any a n c f _ (ht.ext x1) a1 hn (fun i hi => hf i (by omega))).mono ?_; rintro e w2 ⟨rfl, x2⟩
  have a2 := a1.ext x2
  have x12 := x1.trans x2
  clear ha ht a1 x1 x2 hf
  go_wp2_with (first
    | (at_make; refine wpList_make_own _ rfl _ _ 23 rfl w2.heap.size 5 i8 (.int .u8 0) 1 Tryd.underlying23 hi8 hz80 hz81 .i64 .i64 _ n rfl rfl (by omega) (by rw [hz82]; omega) (by unfold maxLen; omega) (Nat.le_refl _) ?_; intro w3 hown3 hgrow3)
    | (at_builtin; refine wpList_append_holds rfl (.tmp 23) (.tmp 24) _ rfl w2.heap.size 5 i8 (.int .u8 0) 1 Tryd.underlying23 hi8 hz80 hz81 hz82 rfl _ 0 [] rfl hown3 a n c f rfl (Holds.below a2 ((Below.refl _ _).grown hgrow3 (Nat.le_refl _) (fun k hk => by cases hk))) (fun _ => rfl) (by unfold maxLen; omega) (by omega) (Below.size ((Below.refl _ _).grown hgrow3 (Nat.le_refl _) (fun k hk => by cases hk))) ?_; intro v4 w4 hown4 hgr4 hb4))
  have hb3 : Below w2.heap.size w2 w3 := (Below.refl _ _).grown hgrow3 (Nat.le_refl _) (fun k hk => by cases hk)
  have x4 : Ext w2 w4 := Below.trans hb3 hb4
  obtain ⟨b8, d8, rfl, l8, m8, h8⟩ := HoldsG.of_own (mk := Value.int .u8) (n := n) (f := f) (by simpa using hown4)
  clear hown3 hgrow3 hown4 hgr4 hb3 hb4 a2
  go_ret2
  exact ⟨_, _, rfl, l8, m8, h8, x12.trans x4⟩

theorem rcheck_short (a : Option Addr) (n c : Nat) (w : World) (hn : n < 2) :
    Calls Tryd.prog 10 #[.slice a n c] w fun e w' => e = .returned (.bool false) ∧ w = w' := by
  have h : (n : Int) - 2 < 0 := by omega
  go_enter Tryd.func10, Tryd.ntmps10
  go_wp2
  go_ret
  exact ⟨rfl, rfl⟩
set_option maxHeartbeats 1600000 in
theorem rcheck_long (a : Option Addr) (n c : Nat) (f : Nat → Int) (w : World) (ha : Holds .u8 w a (n + 2) f) (hc : n + 2 ≤ c) (hcm : c ≤ maxLen) (hn : n ≤ 1000000) (hf : ∀ i, i < n + 2 → 0 ≤ f i ∧ f i < 256) :
    Calls Tryd.prog 10 #[.slice a (n + 2) c] w fun e w' => e = .returned (.bool (endB f n)) ∧ Ext w w' := by
  obtain ⟨b, off, rfl, hlt, hc0⟩ := id (ha.resolve_left (by omega))
  have h2 : ¬ ((n + 2 : Nat) : Int) < 2 := by omega
  have c0 := hc0 n (by omega)
  have c1 : w.cell? ⟨b, off + (n + 1), none⟩ = some (.int .u8 (f (n + 1))) := hc0 (n + 1) (by omega)
  have hmax : c ≤ 9223372036854775807 := hcm
  have hr := rsum_any (some ⟨b, off, none⟩) n c f w (ha.front (by omega)) hn (fun i hi => hf i (by omega))
  obtain ⟨f00, f01⟩ := hf n (by omega)
  obtain ⟨f10, f11⟩ := hf (n + 1) (by omega)
  have s0 := vI_lo (sumV f n)
  have s1 := vI_hi (sumV f n)
  have e0 : endB f n = (vI (sumV f n) == f (n + 1) * 256 + f n) := rfl
  generalize vI (sumV f n) = s at *
  have H0 := Lib.hid e0
  clear ha hc0 hf e0
  go_enter Tryd.func10, Tryd.ntmps10
  go_wp2_with fail
  refine hr.mono ?_; rintro e w1 ⟨rfl, rfl⟩
  go_wp2
  · go_ret
    refine ⟨ret_b ?_, Ext.refl _⟩
    rw [H0.out, high_t s s0 s1, Bool.eq_iff_iff]
    simp only [beq_iff_eq]
    omega
  · go_ret
    refine ⟨ret_b ?_, Ext.refl _⟩
    rw [H0.out]
    symm
    rw [beq_eq_false_iff_ne]
    omega
end Go.Proofs.YtgemdnmcklpbkaaDoor
