/-
  CONTRACTS: crc.Append; bilgeref04.Append.
-/
import Derived.Test.YtgemdnmcklpbkaaDoorCrcA
import Derived.Test.YtgemdnmcklpbkaaDoorAppend
import Derived.Test.YtgemdnmcklpbkaaDoorPolyB
namespace Go.Proofs.YtgemdnmcklpbkaaDoor
open Go.RowKit

theorem lst_two (f : Nat → Int) (n : Nat) (s : Int) : lstG (.int .u8) f n ++ lstG (.int .u8) (lowF s) 2 = lstG (.int .u8) (andTwo f n s) (n + 2) := by
  rw [lstG_append]
  refine List.map_congr_left fun i hi => ?_
  have hi' := List.mem_range.1 hi
  show Value.int .u8 (if i < n then f i else if i - n = 0 then s % 256 else s / 256) = Value.int .u8 (if i < n then f i else if i = n then s % 256 else s / 256)
  by_cases h1 : i < n
  · rw [if_pos h1, if_pos h1]
  · rw [if_neg h1, if_neg h1]
    by_cases h2 : i = n
    · rw [if_pos (by omega), if_pos h2]
    · rw [if_neg (by omega), if_neg h2]

set_option maxHeartbeats 1600000 in
theorem append_any (a : Option Addr) (n c : Nat) (f : Nat → Int) (w : World) (ht : Tabs w) (ha : Holds .u8 w a n f) (hn : n ≤ 1000000) (hf : ∀ i, i < n → 0 ≤ f i ∧ f i < 256) :
    Calls Tryd.prog 17 #[.slice a n c] w fun e w' => ∃ x y, e = .returned (.slice x (n + 2) y) ∧ n + 2 ≤ y ∧ y ≤ maxLen ∧ Holds .u8 w' x (n + 2) (andTwo f n (vI (sumV f n))) ∧ Ext w w' := by
  obtain ⟨i8, hi8, hz80, hz81, hz82⟩ := info_parts Tryd.info8p
  obtain ⟨B, hB⟩ : ∃ B, B = w.heap.size := ⟨_, rfl⟩
  go_enter Tryd.func17, Tryd.ntmps17
  go_wp2_with (first
    | (at_make; refine wpList_make_own _ rfl _ _ 23 rfl w.heap.size 5 i8 (.int .u8 0) 1 Tryd.underlying23 hi8 hz80 hz81 .i64 .i64 _ (n + 2) rfl rfl (by omega) (by rw [hz82]; omega) (by unfold maxLen; omega) (Nat.le_refl _) ?_; intro w1 hown1 hgrow1)
    | (at_builtin; refine wpList_append_holds rfl (.tmp 8) (.tmp 9) _ rfl w.heap.size 5 i8 (.int .u8 0) 1 Tryd.underlying23 hi8 hz80 hz81 hz82 rfl _ 0 [] rfl hown1 a n c f rfl (Holds.below ha ((Below.refl _ _).grown hgrow1 (Nat.le_refl _) (fun k hk => by cases hk))) (fun _ => rfl) (by unfold maxLen; omega) (by omega) (Below.size ((Below.refl _ _).grown hgrow1 (Nat.le_refl _) (fun k hk => by cases hk))) ?_; intro v2 w2 hown2 hgr2 hb2))
  have hb1 : Below w.heap.size w w1 := (Below.refl _ _).grown hgrow1 (Nat.le_refl _) (fun k hk => by cases hk)
  have x2 : Ext w w2 := Below.trans hb1 hb2
  refine (sum_any a n c f _ (ht.ext x2) (ha.ext x2) hn hf).mono ?_; rintro e w3 ⟨rfl, x3⟩
  have hown3 := own_ext hown2 x3
  have x4 := x2.trans x3
  have s0 := vI_lo (sumV f n)
  have s1 := vI_hi (sumV f n)
  obtain ⟨s, hs⟩ : ∃ s, s = vI (sumV f n) := ⟨_, rfl⟩
  rw [← hs] at s0 s1
  simp only [← hs]
  have HS := Lib.hid hs
  clear hs
  clear ht ha hown1 hgrow1 hown2 hgr2 hb2 hb1 x2 x3 hf
  go_wp2_with fail
  refine (low_any s _ s0 s1).mono ?_; rintro e w5 ⟨b5, c5, rfl, h5, x5⟩
  have hown5 := own_ext hown3 x5
  have x6 : Ext w w5 := x4.trans x5
  clear hown3 x4 x5
  go_wp2_with (at_builtin; refine wpList_append_holds rfl (.tmp 11) (.tmp 14) _ rfl w.heap.size 5 i8 (.int .u8 0) 1 Tryd.underlying23 hi8 hz80 hz81 hz82 rfl v2 (0 + n) ([] ++ lstG (.int .u8) f n) rfl hown5 b5 2 c5 (lowF s) rfl h5 (fun _ => rfl) (by unfold maxLen; omega) (by omega) x6.size ?_; intro v7 w7 hown7 hgr7 hb7)
  obtain ⟨b8, d8, rfl, l8, m8, h8⟩ := HoldsG.of_own (mk := Value.int .u8) (n := n + 2) (f := andTwo f n s) (by rw [← lst_two]; simpa using hown7)
  have x8 : Ext w w7 := Below.trans x6 hb7
  clear hown5 hown7 hgr7 hb7 x6 h5
  go_ret
  exact ⟨_, _, rfl, l8, m8, by rw [← HS.out]; exact h8, x8⟩
end Go.Proofs.YtgemdnmcklpbkaaDoor
