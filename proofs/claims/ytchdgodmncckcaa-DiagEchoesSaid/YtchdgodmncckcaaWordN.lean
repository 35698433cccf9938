/-
  CONTRACTS: package word: Get and Put: what they tell is new.
-/
import Derived.Test.YtchdgodmncckcaaWord
import Derived.Test.YtchdgodmncckcaaKeep
import Derived.StillTailTactics
namespace Go.Proofs.Ytchdgodmncckcaa
open Go.RowKit
set_option linter.unusedVariables false

set_option maxHeartbeats 800000 in
theorem get_new (a : Option Addr) (n c : Nat) (f : Nat → Int) (w : World) (ha : Holds .u8 w a (2 * n) f) (hn : n ≤ 1000000) (hf : ∀ i, i < 2 * n → 0 ≤ f i ∧ f i < 256) :
    Calls Try.prog 24 #[.slice a (2 * n) c] w fun e w' => ∃ b d, e = .returned (.tuple #[.slice b n d, .int .i64 0]) ∧ n ≤ d ∧ d ≤ maxLen ∧ Holds .u16 w' b n (getF f) ∧ Fresh w b ∧ Below w.heap.size w w' := by
  obtain ⟨i0, hi0, hz0, hz1, hz2⟩ := info_parts Try.info16
  have e2 : ((2 * n : Nat) : Int) = 2 * (n : Int) := by omega
  have e3 : (2 * (n : Int)) % 2 = 0 := by omega
  have e4 : (2 * (n : Int)) / 2 = n := by omega
  go_enter Try.func24, Try.ntmps24
  go_wp2_with (at_make; refine wpList_make_full _ rfl _ _ 45 rfl w.heap.size 26 i0 (.int .u16 0) 1 Try.underlying45 hi0 hz0 hz1 .i64 .i64 n n n rfl rfl rfl rfl (by rw [hz2]; omega) (by unfold maxLen; omega) (Nat.le_refl _) ?_; intro w1 hown1 hgrow1)
  have hb1 : Below w.heap.size w w1 := (Below.refl _ _).grown hgrow1 (Nat.le_refl _) (fun k hk => by cases hk)
  obtain ⟨B, hB⟩ : ∃ B, B = w.heap.size := ⟨_, rfl⟩
  rw [← hB] at hown1 hb1 ⊢
  have HB := Lib.hid hB
  clear hB
  go_loopw [5, 16] (fun _ i wr => ∃ k : Nat, k ≤ n ∧ i = .int .i64 k ∧ ∃ xs, wr.ownsRow B 26 1 (.slice (some ⟨B, 0, none⟩) n n) n xs ∧ (∀ j, j < k → xs[j]? = some (.int .u16 (getF f j))) ∧ Below B w wr) (fun _ i _ => n - (intOf i).toNat)
  case atStart => exact ⟨0, Nat.zero_le _, rfl, _, hown1, fun j hj => absurd hj (by omega), hb1⟩
  case round =>
    obtain ⟨k, hk, rfl, xs, hown, hxs0, hb⟩ := hrel
    have hxs := Lib.hid hxs0
    clear hxs0 hown1 hgrow1 hb1
    by_cases hlt : k < n
    · obtain ⟨p, o, rfl, hp, hc⟩ := ha.resolve_left (by omega)
      have hpB : p < B := by rw [HB.out]; exact hp
      have hpne : p ≠ B := by omega
      have c0 : wr.cell? ⟨p, o + 2 * k, none⟩ = some (.int .u8 (f (2 * k))) := (hb.cell (p := ⟨p, o + 2 * k, none⟩) hpB).trans (hc (2 * k) (by omega))
      have c1 : wr.cell? ⟨p, o + (2 * k + 1), none⟩ = some (.int .u8 (f (2 * k + 1))) := (hb.cell (p := ⟨p, o + (2 * k + 1), none⟩) hpB).trans (hc (2 * k + 1) (by omega))
      obtain ⟨f00, f01⟩ := hf (2 * k) (by omega)
      obtain ⟨f10, f11⟩ := hf (2 * k + 1) (by omega)
      have hfr := hown.frozenAt k
      obtain ⟨v0, hv0⟩ : ∃ v, wr.cell? ⟨B, k, none⟩ = some v := by
        rw [hown.cellAt k (by omega)]; exact ⟨xs[k]'(by have := hown.1; omega), List.getElem?_eq_getElem _⟩
      have hst := (hown.stored k (.int .u16 (getF f k))).1
      clear hc ha hf e2 e3 e4
      have m1 : IntKind.i64.wrap (2 * (k : Int)) = 2 * k := IntWalk.i64_in _ (by omega)
      have m2 : IntKind.i64.wrap (2 * (k : Int) + 1) = 2 * k + 1 := IntWalk.i64_in _ (by omega)
      have m3 : (2 * (k : Int)).toNat = 2 * k := by omega
      have m4 : (2 * (k : Int) + 1).toNat = 2 * k + 1 := by omega
      have m5 : 0 ≤ 2 * (k : Int) := by omega
      have m6 : 0 ≤ 2 * (k : Int) + 1 := by omega
      have m7 : 2 * (k : Int) < 2 * n := by omega
      have m8 : 2 * (k : Int) + 1 < 2 * n := by omega
      have m9 : (k : Int) < n := by omega
      have m0 : 0 ≤ (k : Int) := by omega
      go_wp2_with fail
      refine wp_region_still_tail 15 (by kernel_rfl) (by kernel_rfl) ?_
      simp only [List.take_succ_cons, List.take_zero, List.drop_succ_cons, List.drop_zero]
      iterate 13 still_step
      still_call ((join_any _ _ _ f00 f01 f10 f11).mono fun e w2 h => ⟨h.1, h.2.symm⟩)
      still_step
      refine wpStill_nil ?_
      go_wp2
      go_roundw
      case rel =>
        refine ⟨k + 1, by omega, by go_num, _, hst.drew, fun j hj => ?_, (hb.setCell (Nat.le_refl _) _).drew⟩
        rcases Nat.lt_or_ge j k with h | h
        · rw [List.getElem?_set_ne (by omega)]; exact hxs.out j h
        · obtain rfl : j = k := by omega
          rw [List.getElem?_set_self (by have := hown.1; omega)]
      case measure => simp [intOf]; omega
    · clear ha hf e2 e3 e4
      go_wp2
      go_ret2
      obtain rfl : k = n := by omega
      exact ⟨_, _, rfl, Nat.le_refl _, by unfold maxLen; omega, .inr ⟨B, 0, rfl, (hown.lt B rfl).2, fun i hi => by rw [Nat.zero_add, hown.cellAt i (by omega), hxs.out i hi]⟩, fun p hp => by cases hp; exact Nat.le_of_eq HB.out.symm, by rw [← HB.out]; exact hb⟩
set_option maxHeartbeats 800000 in
theorem put_new (a : Option Addr) (n c : Nat) (f : Nat → Int) (w : World) (ha : Holds .u16 w a n f) (hn : n ≤ 1000000) (hf : ∀ i, i < n → 0 ≤ f i ∧ f i < 65536) :
    Calls Try.prog 26 #[.slice a n c] w fun e w' => ∃ b d, e = .returned (.slice b (2 * n) d) ∧ 2 * n ≤ d ∧ d ≤ maxLen ∧ Holds .u8 w' b (2 * n) (putF f) ∧ Fresh w b ∧ Below w.heap.size w w' := by
  obtain ⟨i0, hi0, hz0, hz1, hz2⟩ := info_parts Try.info8
  go_enter Try.func26, Try.ntmps26
  go_wp2_with (at_make; refine wpList_make_own _ rfl _ _ 31 rfl w.heap.size 5 i0 (.int .u8 0) 1 Try.underlying31 hi0 hz0 hz1 .i64 .i64 (2 * (n : Int)) (2 * n) rfl rfl (by omega) (by rw [hz2]; omega) (by unfold maxLen; omega) (Nat.le_refl _) ?_; intro w1 hown1 hgrow1)
  have hb1 : Below w.heap.size w w1 := (Below.refl _ _).grown hgrow1 (Nat.le_refl _) (fun k hk => by cases hk)
  have hl1 : w.heap.size < w1.heap.size := (hown1.lt _ rfl).2
  refine (each_any a n c w1.heap.size w.heap.size _ f _ ((ha.below hb1).below ((Below.refl _ _).alloc (Nat.le_refl _) _)) hn hf ?hlow (heap_alloc_new w1 _) (hown1.alloc _) (Nat.le_of_lt hl1) ?hne).mono ?_
  case hlow =>
    intro p o h0 e
    obtain ⟨p', o', e', hp, _⟩ := ha.resolve_left (by omega)
    rw [e'] at e
    cases e
    exact hp
  case hne => simp [Value.ownBlock]; omega
  rintro e w2 ⟨rfl, v2, hR2, hown2, hb2⟩
  have c2 := cell_of_one hR2
  have hb3 : Below w.heap.size w w2 := (hb1.alloc (Nat.le_of_lt hl1) _).trans hb2
  obtain ⟨b, d, rfl, d1, d2, hh, hfr⟩ := Holds.of_own_at hown2
  go_wp2
  go_ret
  exact ⟨b, d, rfl, d1, d2, hh, hfr, hb3⟩
end Go.Proofs.Ytchdgodmncckcaa
