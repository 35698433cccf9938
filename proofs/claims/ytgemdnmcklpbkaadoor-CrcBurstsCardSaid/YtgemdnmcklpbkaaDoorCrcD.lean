/-
  CONTRACTS: crc.Join; bilgeref04.Join and Flip.
-/
import Derived.Test.YtgemdnmcklpbkaaDoorCrcC
namespace Go.Proofs.YtgemdnmcklpbkaaDoor
open Go.RowKit

theorem join_arg (x y : Int) (n : Int) (w : World) (h : n < 0 ∨ 65536 < n) :
    Calls Tryd.prog 22 #[.int .u16 x, .int .u16 y, .int .i64 n] w fun e w' => e = .returned (.tuple #[.int .u16 0, .int .i64 11]) ∧ w = w' := by
  by_cases h0 : n < 0
  · clear h
    go_enter Tryd.func22, Tryd.ntmps22
    go_wp2
    go_ret2
    exact ⟨rfl, rfl⟩
  · have h1 : 65536 < n := by omega
    clear h
    go_enter Tryd.func22, Tryd.ntmps22
    go_wp2
    go_ret2
    exact ⟨rfl, rfl⟩

/-- Joined. -/
def joinV (x y : BitVec 16) (n : Nat) : BitVec 16 := remV (x ^^^ 65535#16) (fun _ => 0) n ^^^ y
theorem xor_start (x : BitVec 16) : bits .xor .u16 (vI x) 65535 = vI (x ^^^ 65535#16) := vI_xor x 65535#16
set_option maxHeartbeats 1600000 in
theorem join_ok (x y : BitVec 16) (n : Nat) (w : World) (ht : Tabs w) (hn : n ≤ 65536) :
    Calls Tryd.prog 22 #[.int .u16 (vI x), .int .u16 (vI y), .int .i64 n] w fun e w' => e = .returned (.tuple #[.int .u16 (vI (joinV x y n)), .int .i64 0]) ∧ Ext w w' := by
  have hs := xor_start x
  have h0 : ¬ (n : Int) < 0 := by omega
  have h1 : ¬ 65536 < (n : Int) := by omega
  go_enter Tryd.func22, Tryd.ntmps22
  go_wp2_with fail
  go_loopw [8, 18] (fun r i wr => ∃ k : Nat, k ≤ n ∧ i = .int .i64 k ∧ r = .int .u16 (vI (remV (x ^^^ 65535#16) (fun _ => 0) k)) ∧ Ext w wr) (fun _ i _ => n - (intOf i).toNat)
  case atStart => exact ⟨0, Nat.zero_le _, rfl, rfl, Ext.refl _⟩
  case round =>
    obtain ⟨k, hk, rfl, rfl, hx⟩ := hrel
    by_cases hlt : k < n
    · have ht1 := ht.ext hx
      have hlt' : (k : Int) < n := by omega
      clear ht hs
      go_wp2_with fail
      refine (update_any (remV (x ^^^ 65535#16) (fun _ => 0) k) 0 _ ht1 (by decide) (by decide)).mono ?_; rintro e w' ⟨rfl, x1⟩
      go_wp2
      go_roundw
      case rel => exact ⟨k + 1, by omega, by go_num, rfl, hx.trans x1⟩
      case measure => simp [intOf]; omega
    · obtain rfl : k = n := by omega
      have hv := vI_xor (remV (x ^^^ 65535#16) (fun _ => 0) k) y
      clear ht hs
      go_wp2
      go_ret2
      exact ⟨rfl, hx⟩
set_option maxHeartbeats 1600000 in
theorem rjoin_ok (x y : BitVec 16) (n : Nat) (w : World) (hn : n ≤ 65536) :
    Calls Tryd.prog 23 #[.int .u16 (vI x), .int .u16 (vI y), .int .i64 n] w fun e w' => e = .returned (.int .u16 (vI (joinV x y n))) ∧ w = w' := by
  have hs := xor_start x
  go_enter Tryd.func23, Tryd.ntmps23
  go_wp2_with fail
  go_loop [7, 8] (fun r i => ∃ k : Nat, k ≤ n ∧ i = .int .i64 k ∧ r = .int .u16 (vI (remV (x ^^^ 65535#16) (fun _ => 0) k))) (fun _ i => n - (intOf i).toNat)
  case atStart => exact ⟨0, Nat.zero_le _, rfl, rfl⟩
  case round =>
    obtain ⟨k, hk, rfl, rfl⟩ := hrel
    by_cases hlt : k < n
    · have hlt' : (k : Int) < n := by omega
      clear hs
      go_wp2_with fail
      refine (rbyte_any (remV (x ^^^ 65535#16) (fun _ => 0) k) 0 _ (by decide) (by decide)).mono ?_; rintro e w' ⟨rfl, rfl⟩
      go_wp2
      go_round
      case rel => exact ⟨k + 1, by omega, by go_num, rfl⟩
      case measure => simp [intOf]; omega
    · obtain rfl : k = n := by omega
      have hv := vI_xor (remV (x ^^^ 65535#16) (fun _ => 0) k) y
      clear hs
      go_wp2
      go_ret
      exact ⟨rfl, rfl⟩
/-- Two sums are joined. -/
theorem joinV_sum (f g : Nat → Int) (n m : Nat) (hg : ∀ i, i < m → 0 ≤ g i) : joinV (sumV f n) (sumV g m) m = sumV (fun i => if i < n then f i else g (i - n)) (n + m) := by
  unfold joinV sumV
  rw [remV_zeros_xor _ _ _ hg, remV_add]

/-- What the call owns, opened. -/
theorem own_open {w : World} {base n : Nat} {e : TypeId} {v : Value} {xs : List Value} (h : w.ownsRow base e 1 v n xs) (hn : 0 < n) : ∃ g cap, v = .slice (some ⟨g, 0, none⟩) n cap ∧ base ≤ g ∧ n ≤ cap ∧ cap ≤ maxLen := by
  obtain ⟨hl, h2⟩ := h
  rcases h2 with ⟨hv, hx⟩ | ⟨g, cap, cur, hv, hg, hh, h3, h4, _⟩
  · subst hx; simp at hl; omega
  · exact ⟨g, cap, hv, hg, h3, h4⟩
/-- A bit turned. -/
def flipF (f : Nat → Int) (k : Nat) : Nat → Int := fun i => if i = k / 8 then xB (f i) ((2 ^ (k % 8) : Nat) : Int) else f i
theorem flipF_bd (f : Nat → Int) (k n : Nat) (hf : ∀ i, i < n → 0 ≤ f i ∧ f i < 256) : ∀ i, i < n → 0 ≤ flipF f k i ∧ flipF f k i < 256 := by
  intro i hi
  have h2 : 2 ^ (k % 8) ≤ 2 ^ 7 := Nat.pow_le_pow_right (by decide) (by omega)
  unfold flipF; split
  · exact ⟨xB_lo _ _, xB_hi _ _ (hf i hi).2 (by omega)⟩
  · exact hf i hi
theorem flipF_bit (f : Nat → Int) (k i j : Nat) (hj : j < 8) : bB (flipF f k i) j = (bB (f i) j ^^ decide (8 * i + j = k)) := by
  unfold flipF
  by_cases h : i = k / 8
  · rw [if_pos h]
    unfold xB bB
    rw [Int.toNat_natCast, Int.toNat_natCast, Nat.testBit_xor, Nat.testBit_two_pow]
    congr 1
    exact decide_eq_decide.2 (by omega)
  · rw [if_neg h, decide_eq_false (by omega), Bool.xor_false]
set_option maxHeartbeats 1600000 in
theorem flip_any (a : Option Addr) (n c k : Nat) (f : Nat → Int) (w : World) (ha : Holds .u8 w a n f) (hn : n ≤ 1000000) (hk : k ≤ 1000000) (hf : ∀ i, i < n → 0 ≤ f i ∧ f i < 256) :
    Calls Tryd.prog 21 #[.slice a n c, .int .i64 k] w fun e w' => ∃ x y, e = .returned (.slice x n y) ∧ n ≤ y ∧ y ≤ maxLen ∧ Holds .u8 w' x n (flipF f k) ∧ Ext w w' ∧ ∀ p, x = some p → w.heap.size ≤ p.block := by
  obtain ⟨i8, hi8, hz80, hz81, hz82⟩ := info_parts Tryd.info8p
  obtain ⟨q, hq⟩ : ∃ q, q = k / 8 := ⟨_, rfl⟩
  obtain ⟨r, hr⟩ : ∃ r, r = k % 8 := ⟨_, rfl⟩
  have k1 : (k : Int) / 8 = (q : Int) := by omega
  have k2 : (k : Int) % 8 = (r : Int) := by omega
  have k0 : 0 ≤ (k : Int) := by omega
  have r8 : r < 8 := by omega
  have HQ := Lib.hid hq
  have HR := Lib.hid hr
  obtain ⟨z, hz⟩ : ∃ z : Int, z = (k : Int) := ⟨_, rfl⟩
  rw [← hz] at k0 k1 k2 ⊢
  have HZ := Lib.hid hz
  have kz : z ≤ 1000000 := by omega
  clear hz hq hr
  have r1 : (r : Int) < 8 := by omega
  by_cases hin : q < n
  · have hin' : (q : Int) < n := by omega
    obtain ⟨f0, f1⟩ := hf q hin
    obtain ⟨p, hp⟩ : ∃ p, p = 2 ^ r := ⟨_, rfl⟩
    have p2 : p ≤ 2 ^ 7 := by rw [hp]; exact Nat.pow_le_pow_right (by decide) (by omega)
    have p3 : p ≤ 128 := p2
    have hx := xB_bits (f q) (p : Int) f0 f1 (by omega) (by omega)
    obtain ⟨P, hP⟩ : ∃ P : Int, P = (p : Int) := ⟨_, rfl⟩
    have hP1 : (2 : Int) ^ r = P := by rw [hP, hp]; simp
    rw [← hP] at hx
    have P0 : 0 ≤ P := by omega
    have P1 : P < 256 := by omega
    have HP : Hid (P = ((2 ^ r : Nat) : Int)) := Lib.hid (by rw [hP, hp])
    generalize hX : xB (f q) P = X at hx
    have HX := Lib.hid hX
    clear r8 hk hP p2 p3 hX hp
    go_enter Tryd.func21, Tryd.ntmps21
    go_wp2_with (at_builtin; refine wpList_append_holds rfl (.tmp 6) (.tmp 7) _ rfl w.heap.size 5 i8 (.int .u8 0) 1 Tryd.underlying23 hi8 hz80 hz81 hz82 rfl _ 0 [] rfl (World.ownsRow_lit w #[] 0 (Nat.le_refl _) (by unfold maxLen; omega) rfl) a n c f rfl (Holds.ext ha (Ext.alloc _ _)) (fun _ => rfl) (by unfold maxLen; omega) (by omega) (by simp) ?_; intro v2 w2 hown2 hgr2 hb2; have x2 : Ext w w2 := ((Below.refl _ _).alloc (Nat.le_refl _) _).trans hb2; rw [Nat.zero_add, List.nil_append] at hown2; obtain ⟨g, cap, rfl, hg, hc1, hc2⟩ := own_open hown2 (by omega); have hfr := hown2.frozenAt q; have hce := hown2.cellAt q (by omega); rw [lstG_get _ _ _ _ hin] at hce; have hst := (hown2.stored q (.int .u8 X)).1; clear ha hgr2 hb2)
    go_region
    go_wp2
    go_ret
    obtain ⟨b8, d8, hv, l8, m8, h8⟩ := HoldsG.of_own (f := flipF f k) (own_lst hst fun i hi => by
      unfold flipF
      rw [← HQ.out, ← HR.out]
      by_cases e : i = q
      · subst e
        rw [List.getElem?_set_self (by rw [lstG_length]; exact hi), if_pos rfl, ← HP.out, HX.out]
      · rw [List.getElem?_set_ne (Ne.symm e), lstG_get _ _ _ _ hi, if_neg e])
    cases hv
    exact ⟨_, _, rfl, l8, m8, Holds.ext h8 (Ext.drew _), (Below.setCell x2 hg _).drew, fun p hp => by cases hp; exact hg⟩
  · have hin' : ¬ (q : Int) < n := by omega
    clear r8 hk
    go_enter Tryd.func21, Tryd.ntmps21
    go_wp2_with (at_builtin; refine wpList_append_holds rfl (.tmp 6) (.tmp 7) _ rfl w.heap.size 5 i8 (.int .u8 0) 1 Tryd.underlying23 hi8 hz80 hz81 hz82 rfl _ 0 [] rfl (World.ownsRow_lit w #[] 0 (Nat.le_refl _) (by unfold maxLen; omega) rfl) a n c f rfl (Holds.ext ha (Ext.alloc _ _)) (fun _ => rfl) (by unfold maxLen; omega) (by omega) (by simp) ?_; intro v2 w2 hown2 hgr2 hb2; have x2 : Ext w w2 := ((Below.refl _ _).alloc (Nat.le_refl _) _).trans hb2; rw [Nat.zero_add, List.nil_append] at hown2; obtain ⟨b8, d8, rfl, l8, m8, h8⟩ := HoldsG.of_own hown2; have hnew : ∀ p, b8 = some p → w.heap.size ≤ p.block := (fun p hp => by subst hp; exact (hown2.lt _ rfl).1); clear ha hgr2 hb2 hown2)
    go_ret
    refine ⟨_, _, rfl, l8, m8, Holds.congr (f := f) h8 fun i hi => ?_, x2, hnew⟩
    unfold flipF
    rw [if_neg (by rw [← HQ.out]; omega)]
end Go.Proofs.YtgemdnmcklpbkaaDoor
