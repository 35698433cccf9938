/-
  CONTRACTS: package ask (layer 15): number, list, fill, fillList.
-/
import Derived.Test.YtejiafihiielgaaAskE
import Derived.Test.YtejiafihiielgaaAskO
import Derived.Test.YtejiafihiielgaaBitsX
import Derived.StillTailTactics
namespace Go.Proofs.Ytejiafihiielgaa
open Go.RowKit
set_option linter.unusedVariables false
set_option maxRecDepth 100000

set_option maxHeartbeats 800000 in
theorem get_full (a : Option Addr) (n c : Nat) (f : Nat → Int) (w : World) (ha : Holds .u8 w a (2 * n) f) (hn : n ≤ 1000000) (hf : ∀ i, i < 2 * n → 0 ≤ f i ∧ f i < 256) :
    Calls Try.prog 52 #[.slice a (2 * n) c] w fun e w' => ∃ b d, e = .returned (.tuple #[.slice b n d, .int .i64 0]) ∧ n ≤ d ∧ d ≤ maxLen ∧ Holds .u16 w' b n (getF f) ∧ Below w.heap.size w w' := by
  obtain ⟨i0, hi0, hz0, hz1, hz2⟩ := info_parts Try.info16
  have e2 : ((2 * n : Nat) : Int) = 2 * (n : Int) := by omega
  have e3 : (2 * (n : Int)) % 2 = 0 := by omega
  have e4 : (2 * (n : Int)) / 2 = n := by omega
  go_enter Try.func52, Try.ntmps52
  go_wp2_with (at_make; refine wpList_make_full _ rfl _ _ 23 rfl w.heap.size 50 i0 (.int .u16 0) 1 Try.underlying23 hi0 hz0 hz1 .i64 .i64 n n n rfl rfl rfl rfl (by rw [hz2]; omega) (by unfold maxLen; omega) (Nat.le_refl _) ?_; intro w1 hown1 hgrow1)
  have hb1 : Below w.heap.size w w1 := (Below.refl _ _).grown hgrow1 (Nat.le_refl _) (fun k hk => by cases hk)
  obtain ⟨B, hB⟩ : ∃ B, B = w.heap.size := ⟨_, rfl⟩
  rw [← hB] at hown1 hb1 ⊢
  have HB := Lib.hid hB
  clear hB
  go_loopw [5, 16] (fun _ i wr => ∃ k : Nat, k ≤ n ∧ i = .int .i64 k ∧ ∃ xs, wr.ownsRow B 50 1 (.slice (some ⟨B, 0, none⟩) n n) n xs ∧ (∀ j, j < k → xs[j]? = some (.int .u16 (getF f j))) ∧ Below B w wr) (fun _ i _ => n - (intOf i).toNat)
  case atStart => exact ⟨0, Nat.zero_le _, rfl, _, hown1, fun j hj => absurd hj (by omega), hb1⟩
  case round =>
    obtain ⟨k, hk, rfl, xs, hown, hxs0, hb⟩ := hrel
    have hxs := Lib.hid hxs0
    clear hxs0 hown1 hgrow1 hb1
    by_cases hlt : k < n
    · obtain ⟨p, o, rfl, hp, hc⟩ := ha.resolve_left (by omega)
      have hpB : p < B := by rw [HB.out]; exact hp
      have hpne : p ≠ B := by omega
      have c0 : wr.cell? ⟨p, o + 2 * k, none⟩ = some (.int .u8 (f (2 * k))) := (hb.cell (p := ⟨p, o + 2 * k, none⟩) hpB).trans (hc (2 * k) (by omega))
      have c1 : wr.cell? ⟨p, o + (2 * k + 1), none⟩ = some (.int .u8 (f (2 * k + 1))) := (hb.cell (p := ⟨p, o + (2 * k + 1), none⟩) hpB).trans (hc (2 * k + 1) (by omega))
      obtain ⟨f00, f01⟩ := hf (2 * k) (by omega)
      obtain ⟨f10, f11⟩ := hf (2 * k + 1) (by omega)
      have hfr := hown.frozenAt k
      obtain ⟨v0, hv0⟩ : ∃ v, wr.cell? ⟨B, k, none⟩ = some v := by
        rw [hown.cellAt k (by omega)]; exact ⟨xs[k]'(by have := hown.1; omega), List.getElem?_eq_getElem _⟩
      have hst := (hown.stored k (.int .u16 (getF f k))).1
      clear hc ha hf e2 e3 e4
      have m1 : IntKind.i64.wrap (2 * (k : Int)) = 2 * k := IntWalk.i64_in _ (by omega)
      have m2 : IntKind.i64.wrap (2 * (k : Int) + 1) = 2 * k + 1 := IntWalk.i64_in _ (by omega)
      have m3 : (2 * (k : Int)).toNat = 2 * k := by omega
      have m4 : (2 * (k : Int) + 1).toNat = 2 * k + 1 := by omega
      have m5 : 0 ≤ 2 * (k : Int) := by omega
      have m6 : 0 ≤ 2 * (k : Int) + 1 := by omega
      have m7 : 2 * (k : Int) < 2 * n := by omega
      have m8 : 2 * (k : Int) + 1 < 2 * n := by omega
      have m9 : (k : Int) < n := by omega
      have m0 : 0 ≤ (k : Int) := by omega
      go_wp2_with fail
      refine wp_region_still_tail 15 (by kernel_rfl) (by kernel_rfl) ?_
      simp only [List.take_succ_cons, List.take_zero, List.drop_succ_cons, List.drop_zero]
      iterate 13 still_step
      still_call ((join_any _ _ _ f00 f01 f10 f11).mono fun e w2 h => ⟨h.1, h.2.symm⟩)
      still_step
      refine wpStill_nil ?_
      go_wp2
      go_roundw
      case rel =>
        refine ⟨k + 1, by omega, by go_num, _, hst.drew, fun j hj => ?_, (hb.setCell (Nat.le_refl _) _).drew⟩
        rcases Nat.lt_or_ge j k with h | h
        · rw [List.getElem?_set_ne (by omega)]; exact hxs.out j h
        · obtain rfl : j = k := by omega
          rw [List.getElem?_set_self (by have := hown.1; omega)]
      case measure => simp [intOf]; omega
    · clear ha hf e2 e3 e4
      go_wp2
      go_ret2
      obtain rfl : k = n := by omega
      exact ⟨_, _, rfl, Nat.le_refl _, by unfold maxLen; omega, .inr ⟨B, 0, rfl, (hown.lt B rfl).2, fun i hi => by rw [Nat.zero_add, hown.cellAt i (by omega), hxs.out i hi]⟩, by rw [← HB.out]; exact hb⟩
theorem get_x (a : Option Addr) (m c : Nat) (f : Nat → Int) (w : World) (ha : Holds .u8 w a m f) (hm : m ≤ 100000) (hf : ∀ i, i < m → 0 ≤ f i ∧ f i < 256) :
    Calls Try.prog 52 #[.slice a m c] w fun e w' => ∃ b d E, e = .returned (.tuple #[.slice b (getN m) d, .int .i64 E]) ∧ getN m ≤ d ∧ d ≤ maxLen ∧ Holds .u16 w' b (getN m) (getF f) ∧ Ext w w' := by
  by_cases h : m % 2 = 0
  · have e : getN m = m / 2 := by unfold getN; rw [if_pos h]
    rw [e]
    have em : m = 2 * (m / 2) := by omega
    rw [em] at ha hf
    have K := get_full a (m / 2) c f w ha (by omega) hf
    rw [← em] at K
    exact K.mono fun e w' ⟨b, d, h1, h2, h3, h4, h5⟩ => ⟨b, d, 0, h1, h2, h3, h4, h5⟩
  · have e : getN m = 0 := by unfold getN; rw [if_neg h]
    rw [e]
    exact (get_odd a m c w (by omega) (by omega)).mono fun e w' hh => ⟨none, 0, 12, hh.1, Nat.le_refl _, Nat.zero_le _, .inl rfl, Ext.of_eq hh.2⟩
/-- What is left of the bytes, in a box of the call's own. -/
structure LefS (w0 wr : World) (l n O : Nat) (f : Nat → Int) (A : Option Addr) (C : Nat) : Prop where
  at_ : wr.heap[l]? = some (.cells #[.slice A (n - O) C] 129 (0, 0))
  h : Holds .u8 w0 A (n - O) (fun i => f (O + i))
  c1 : n - O ≤ C
  c2 : C ≤ maxLen
theorem LefS.ext {w0 wr wr' : World} {l n O : Nat} {f : Nat → Int} {A : Option Addr} {C : Nat} (h : LefS w0 wr l n O f A C) (x : Ext wr wr') : LefS w0 wr' l n O f A C := ⟨x.block h.at_, h.h, h.c1, h.c2⟩
theorem Keep.block' {F : Nat → Prop} {w w' : World} (x : Keep F w w') {g : Nat} {o : Obj} (h : w.heap[g]? = some o) (hF : ¬ F g) : w'.heap[g]? = some o := (x.block g (heap_lt h) hF).trans h
theorem LefS.keep {F : Nat → Prop} {w0 wr wr' : World} {l n O : Nat} {f : Nat → Int} {A : Option Addr} {C : Nat} (h : LefS w0 wr l n O f A C) (x : Keep F wr wr') (hF : ¬ F l) : LefS w0 wr' l n O f A C := ⟨x.block' h.at_ hF, h.h, h.c1, h.c2⟩
theorem FieS.keep {F : Nat → Prop} {w0 wr wr' : World} {b off g : Nat} {V : QstV} {k : Int} {T : Qst} (h : FieS w0 wr b off g V k T) (x : Keep F wr wr') (h0 : ∀ i, F i → w0.heap.size ≤ i) (hg : ¬ F g) (hb : ¬ F b) : FieS w0 wr' b off g V k T :=
  ⟨Below.trans h.x (x.below h.x.size h0), h.lo, x.block' h.at_ hg, h.fl.keep x hb, h.ne⟩
theorem holds_shift {w : World} {b off n : Nat} {f : Nat → Int} {O : Nat} (h : Holds .u8 w (some ⟨b, off, none⟩) n (fun i => f (O + i))) (k : Nat) : Holds .u8 w (some ⟨b, off + k, none⟩) (n - k) (fun i => f (O + k + i)) :=
  (HoldsG.drop (mk := Value.int .u8) h (k := k)).congr fun i _ => by rw [Nat.add_assoc]
end Go.Proofs.Ytejiafihiielgaa
