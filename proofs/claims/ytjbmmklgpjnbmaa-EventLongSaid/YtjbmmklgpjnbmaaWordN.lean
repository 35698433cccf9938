/-
  CONTRACTS: package word: Get and Put: what they tell is new.
-/
import Derived.Test.YtjbmmklgpjnbmaaWord
import Derived.Test.YtjbmmklgpjnbmaaKeep
import Derived.StillTailTactics
namespace Go.Proofs.Ytjbmmklgpjnbmaa
open Go.RowKit
set_option linter.unusedVariables false

set_option maxHeartbeats 800000 in
theorem put_new (a : Option Addr) (n c : Nat) (f : Nat → Int) (w : World) (ha : Holds .u16 w a n f) (hn : n ≤ 1000000) (hf : ∀ i, i < n → 0 ≤ f i ∧ f i < 65536) :
    Calls Try.prog 32 #[.slice a n c] w fun e w' => ∃ b d, e = .returned (.slice b (2 * n) d) ∧ 2 * n ≤ d ∧ d ≤ maxLen ∧ Holds .u8 w' b (2 * n) (putF f) ∧ Fresh w b ∧ Below w.heap.size w w' := by
  obtain ⟨i0, hi0, hz0, hz1, hz2⟩ := info_parts Try.info8
  go_enter Try.func32, Try.ntmps32
  go_wp2_with (at_make; refine wpList_make_own _ rfl _ _ 27 rfl w.heap.size 5 i0 (.int .u8 0) 1 Try.underlying27 hi0 hz0 hz1 .i64 .i64 (2 * (n : Int)) (2 * n) rfl rfl (by omega) (by rw [hz2]; omega) (by unfold maxLen; omega) (Nat.le_refl _) ?_; intro w1 hown1 hgrow1)
  have hb1 : Below w.heap.size w w1 := (Below.refl _ _).grown hgrow1 (Nat.le_refl _) (fun k hk => by cases hk)
  have hl1 : w.heap.size < w1.heap.size := (hown1.lt _ rfl).2
  refine (each_any a n c w1.heap.size w.heap.size _ f _ ((ha.below hb1).below ((Below.refl _ _).alloc (Nat.le_refl _) _)) hn hf ?hlow (heap_alloc_new w1 _) (hown1.alloc _) (Nat.le_of_lt hl1) ?hne).mono ?_
  case hlow =>
    intro p o h0 e
    obtain ⟨p', o', e', hp, _⟩ := ha.resolve_left (by omega)
    rw [e'] at e
    cases e
    exact hp
  case hne => simp [Value.ownBlock]; omega
  rintro e w2 ⟨rfl, v2, hR2, hown2, hb2⟩
  have c2 := cell_of_one hR2
  have hb3 : Below w.heap.size w w2 := (hb1.alloc (Nat.le_of_lt hl1) _).trans hb2
  obtain ⟨b, d, rfl, d1, d2, hh, hfr⟩ := Holds.of_own_at hown2
  go_wp2
  go_ret
  exact ⟨b, d, rfl, d1, d2, hh, hfr, hb3⟩
end Go.Proofs.Ytjbmmklgpjnbmaa
