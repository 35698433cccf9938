/-
  CONTRACTS: package ask (layer 15): number, list, fill, fillList.
-/
import Derived.Test.YtokfgdjkafiicaaAskE
import Derived.Test.YtokfgdjkafiicaaAskO
import Derived.Test.YtokfgdjkafiicaaBitsX
import Derived.StillTailTactics
namespace Go.Proofs.Ytokfgdjkafiicaa
open Go.RowKit
set_option linter.unusedVariables false
set_option maxRecDepth 100000

set_option maxHeartbeats 800000 in
theorem get_full (a : Option Addr) (n c : Nat) (f : Nat → Int) (w : World) (ha : Holds .u8 w a (2 * n) f) (hn : n ≤ 1000000) (hf : ∀ i, i < 2 * n → 0 ≤ f i ∧ f i < 256) :
    Calls Try.prog 56 #[.slice a (2 * n) c] w fun e w' => ∃ b d, e = .returned (.tuple #[.slice b n d, .int .i64 0]) ∧ n ≤ d ∧ d ≤ maxLen ∧ Holds .u16 w' b n (getF f) ∧ Below w.heap.size w w' := by
  obtain ⟨i0, hi0, hz0, hz1, hz2⟩ := info_parts Try.info16
  have e2 : ((2 * n : Nat) : Int) = 2 * (n : Int) := by omega
  have e3 : (2 * (n : Int)) % 2 = 0 := by omega
  have e4 : (2 * (n : Int)) / 2 = n := by omega
  go_enter Try.func56, Try.ntmps56
  go_wp2_with (at_make; refine wpList_make_full _ rfl _ _ 23 rfl w.heap.size 53 i0 (.int .u16 0) 1 Try.underlying23 hi0 hz0 hz1 .i64 .i64 n n n rfl rfl rfl rfl (by rw [hz2]; omega) (by unfold maxLen; omega) (Nat.le_refl _) ?_; intro w1 hown1 hgrow1)
  have hb1 : Below w.heap.size w w1 := (Below.refl _ _).grown hgrow1 (Nat.le_refl _) (fun k hk => by cases hk)
  obtain ⟨B, hB⟩ : ∃ B, B = w.heap.size := ⟨_, rfl⟩
  rw [← hB] at hown1 hb1 ⊢
  have HB := Lib.hid hB
  clear hB
  go_loopw [5, 16] (fun _ i wr => ∃ k : Nat, k ≤ n ∧ i = .int .i64 k ∧ ∃ xs, wr.ownsRow B 53 1 (.slice (some ⟨B, 0, none⟩) n n) n xs ∧ (∀ j, j < k → xs[j]? = some (.int .u16 (getF f j))) ∧ Below B w wr) (fun _ i _ => n - (intOf i).toNat)
  case atStart => exact ⟨0, Nat.zero_le _, rfl, _, hown1, fun j hj => absurd hj (by omega), hb1⟩
  case round =>
    obtain ⟨k, hk, rfl, xs, hown, hxs0, hb⟩ := hrel
    have hxs := Lib.hid hxs0
    clear hxs0 hown1 hgrow1 hb1
    by_cases hlt : k < n
    · obtain ⟨p, o, rfl, hp, hc⟩ := ha.resolve_left (by omega)
      have hpB : p < B := by rw [HB.out]; exact hp
      have hpne : p ≠ B := by omega
      have c0 : wr.cell? ⟨p, o + 2 * k, none⟩ = some (.int .u8 (f (2 * k))) := (hb.cell (p := ⟨p, o + 2 * k, none⟩) hpB).trans (hc (2 * k) (by omega))
      have c1 : wr.cell? ⟨p, o + (2 * k + 1), none⟩ = some (.int .u8 (f (2 * k + 1))) := (hb.cell (p := ⟨p, o + (2 * k + 1), none⟩) hpB).trans (hc (2 * k + 1) (by omega))
      obtain ⟨f00, f01⟩ := hf (2 * k) (by omega)
      obtain ⟨f10, f11⟩ := hf (2 * k + 1) (by omega)
      have hfr := hown.frozenAt k
      obtain ⟨v0, hv0⟩ : ∃ v, wr.cell? ⟨B, k, none⟩ = some v := by
        rw [hown.cellAt k (by omega)]; exact ⟨xs[k]'(by have := hown.1; omega), List.getElem?_eq_getElem _⟩
      have hst := (hown.stored k (.int .u16 (getF f k))).1
      clear hc ha hf e2 e3 e4
      have m1 : IntKind.i64.wrap (2 * (k : Int)) = 2 * k := IntWalk.i64_in _ (by omega)
      have m2 : IntKind.i64.wrap (2 * (k : Int) + 1) = 2 * k + 1 := IntWalk.i64_in _ (by omega)
      have m3 : (2 * (k : Int)).toNat = 2 * k := by omega
      have m4 : (2 * (k : Int) + 1).toNat = 2 * k + 1 := by omega
      have m5 : 0 ≤ 2 * (k : Int) := by omega
      have m6 : 0 ≤ 2 * (k : Int) + 1 := by omega
      have m7 : 2 * (k : Int) < 2 * n := by omega
      have m8 : 2 * (k : Int) + 1 < 2 * n := by omega
      have m9 : (k : Int) < n := by omega
      have m0 : 0 ≤ (k : Int) := by omega
      go_wp2_with fail
      refine wp_region_still_tail 15 (by kernel_rfl) (by kernel_rfl) ?_
      simp only [List.take_succ_cons, List.take_zero, List.drop_succ_cons, List.drop_zero]
      iterate 13 still_step
      still_call ((join_any _ _ _ f00 f01 f10 f11).mono fun e w2 h => ⟨h.1, h.2.symm⟩)
      still_step
      refine wpStill_nil ?_
      go_wp2
      go_roundw
      case rel =>
        refine ⟨k + 1, by omega, by go_num, _, hst.drew, fun j hj => ?_, (hb.setCell (Nat.le_refl _) _).drew⟩
        rcases Nat.lt_or_ge j k with h | h
        · rw [List.getElem?_set_ne (by omega)]; exact hxs.out j h
        · obtain rfl : j = k := by omega
          rw [List.getElem?_set_self (by have := hown.1; omega)]
      case measure => simp [intOf]; omega
    · clear ha hf e2 e3 e4
      go_wp2
      go_ret2
      obtain rfl : k = n := by omega
      exact ⟨_, _, rfl, Nat.le_refl _, by unfold maxLen; omega, .inr ⟨B, 0, rfl, (hown.lt B rfl).2, fun i hi => by rw [Nat.zero_add, hown.cellAt i (by omega), hxs.out i hi]⟩, by rw [← HB.out]; exact hb⟩
theorem get_x (a : Option Addr) (m c : Nat) (f : Nat → Int) (w : World) (ha : Holds .u8 w a m f) (hm : m ≤ 100000) (hf : ∀ i, i < m → 0 ≤ f i ∧ f i < 256) :
    Calls Try.prog 56 #[.slice a m c] w fun e w' => ∃ b d E, e = .returned (.tuple #[.slice b (getN m) d, .int .i64 E]) ∧ getN m ≤ d ∧ d ≤ maxLen ∧ Holds .u16 w' b (getN m) (getF f) ∧ Ext w w' := by
  by_cases h : m % 2 = 0
  · have e : getN m = m / 2 := by unfold getN; rw [if_pos h]
    rw [e]
    have em : m = 2 * (m / 2) := by omega
    rw [em] at ha hf
    have K := get_full a (m / 2) c f w ha (by omega) hf
    rw [← em] at K
    exact K.mono fun e w' ⟨b, d, h1, h2, h3, h4, h5⟩ => ⟨b, d, 0, h1, h2, h3, h4, h5⟩
  · have e : getN m = 0 := by unfold getN; rw [if_neg h]
    rw [e]
    exact (get_odd a m c w (by omega) (by omega)).mono fun e w' hh => ⟨none, 0, 12, hh.1, Nat.le_refl _, Nat.zero_le _, .inl rfl, Ext.of_eq hh.2⟩
/-- What is left of the bytes, in a box of the call's own. -/
structure LefS (w0 wr : World) (l n O : Nat) (f : Nat → Int) (A : Option Addr) (C : Nat) : Prop where
  at_ : wr.heap[l]? = some (.cells #[.slice A (n - O) C] 66 (0, 0))
  h : Holds .u8 w0 A (n - O) (fun i => f (O + i))
  c1 : n - O ≤ C
  c2 : C ≤ maxLen
theorem LefS.ext {w0 wr wr' : World} {l n O : Nat} {f : Nat → Int} {A : Option Addr} {C : Nat} (h : LefS w0 wr l n O f A C) (x : Ext wr wr') : LefS w0 wr' l n O f A C := ⟨x.block h.at_, h.h, h.c1, h.c2⟩
theorem Keep.block' {F : Nat → Prop} {w w' : World} (x : Keep F w w') {g : Nat} {o : Obj} (h : w.heap[g]? = some o) (hF : ¬ F g) : w'.heap[g]? = some o := (x.block g (heap_lt h) hF).trans h
theorem LefS.keep {F : Nat → Prop} {w0 wr wr' : World} {l n O : Nat} {f : Nat → Int} {A : Option Addr} {C : Nat} (h : LefS w0 wr l n O f A C) (x : Keep F wr wr') (hF : ¬ F l) : LefS w0 wr' l n O f A C := ⟨x.block' h.at_ hF, h.h, h.c1, h.c2⟩
theorem FieS.keep {F : Nat → Prop} {w0 wr wr' : World} {b off g : Nat} {V : QstV} {k : Int} {T : Qst} (h : FieS w0 wr b off g V k T) (x : Keep F wr wr') (h0 : ∀ i, F i → w0.heap.size ≤ i) (hg : ¬ F g) (hb : ¬ F b) : FieS w0 wr' b off g V k T :=
  ⟨Below.trans h.x (x.below h.x.size h0), h.lo, x.block' h.at_ hg, h.fl.keep x hb, h.ne⟩
theorem holds_shift {w : World} {b off n : Nat} {f : Nat → Int} {O : Nat} (h : Holds .u8 w (some ⟨b, off, none⟩) n (fun i => f (O + i))) (k : Nat) : Holds .u8 w (some ⟨b, off + k, none⟩) (n - k) (fun i => f (O + k + i)) :=
  (HoldsG.drop (mk := Value.int .u8) h (k := k)).congr fun i _ => by rw [Nat.add_assoc]
set_option maxHeartbeats 4000000 in
theorem number_c (w0 w : World) (l n O : Nat) (f : Nat → Int) (A : Option Addr) (C : Nat) (hx : Ext w0 w) (h : LefS w0 w l n O f A C) (hO : O ≤ n) (hn : n ≤ 100000) (hf : ∀ i, i < n → 0 ≤ f i ∧ f i < 256) :
    Calls Try.prog 36 #[.pointer (some ⟨l, 0, none⟩)] w fun e w' => e = .returned (.int .i64 (takA n f O)) ∧ (∃ A' C', LefS w0 w' l n (if O + 2 ≤ n then O + 2 else O) f A' C') ∧ Keep (fun i => i = l) w w' := by
  obtain ⟨hat, hh, hc1, hc2⟩ := h
  have c0 : w.cell? ⟨l, 0, none⟩ = some (.slice A (n - O) C) := cell_of_heap hat rfl
  obtain ⟨L, hL⟩ : ∃ L, L = n - O := ⟨_, rfl⟩
  rw [← hL] at hat hh hc1 c0
  have HA := Lib.hid hat
  have HH := Lib.hid hh
  have hLn : L ≤ 100000 := by omega
  by_cases h2 : O + 2 ≤ n
  · have hv : takA n f O = f O * 256 + f (O + 1) := by unfold takA; rw [if_pos h2]
    have hb0 := hf O (by omega)
    have hb1 := hf (O + 1) (by omega)
    have hL2 : 2 ≤ L := by omega
    have hL2I : (2 : Int) ≤ L := by omega
    have KA := Lib.hid ((at_some A L C 0 (fun i => f (O + i)) w (hh.ext hx) (by omega) (by omega) (fun i hi => hf (O + i) (by omega))).mono fun e w' h => (⟨h.1, Ext.of_drewN h.2⟩ : e = .returned (.tuple #[.int .u16 (f O * 256 + f (O + 1)), .bool true]) ∧ Ext w w'))
    rw [hv, if_pos h2]
    generalize hv' : f O * 256 + f (O + 1) = v at *
    have hw : IntKind.i64.wrap v = v := IntWalk.i64_in _ (by omega)
    have HL := Lib.hid (And.intro hL h2)
    have HV := Lib.hid hv
    have HC := Lib.hid (And.intro hc1 hc2)
    obtain ⟨b, off, hA, -, -⟩ := hh.resolve_left (by omega)
    subst hA
    by_cases hC : C = 2
    · subst hC
      clear hv hv' hb0 hb1 hf hL hh h2 hO hx hat
      go_enter Try.func36, Try.ntmps36
      go_wp2_with fail
      refine KA.out.mono ?_; rintro e w1 ⟨rfl, x1⟩
      have a1 := x1.block HA.out
      have c1 : w1.cell? ⟨l, 0, none⟩ = some (.slice (some ⟨b, off, none⟩) L 2) := cell_of_heap a1 rfl
      have f1 : w1.frozen? ⟨l, 0, none⟩ = false := frozenE a1
      clear c0 KA
      go_wp2
      go_ret
      have hs := heap_setCell_same w1 l 0 _ _ (.slice (some ⟨b, off, none⟩) 0 0) a1
      exact ⟨rfl, ⟨some ⟨b, off, none⟩, 0, by rw [show n - (O + 2) = 0 by have := HL.out.1; have := HC.out.1; omega]; exact hs, .inl (by have := HL.out.1; have := HC.out.1; omega), by have := HL.out.1; have := HC.out.1; omega, Nat.zero_le _⟩, (Keep.of_ext x1).trans (keepCellE w1 l 0 _) (fun i hi => .inl hi)⟩
    · have hC2 : 2 ≤ C := by omega
      clear hv hv' hb0 hb1 hf hL hh h2 hO hx hat
      go_enter Try.func36, Try.ntmps36
      go_wp2_with fail
      refine KA.out.mono ?_; rintro e w1 ⟨rfl, x1⟩
      have a1 := x1.block HA.out
      have c1 : w1.cell? ⟨l, 0, none⟩ = some (.slice (some ⟨b, off, none⟩) L C) := cell_of_heap a1 rfl
      have f1 : w1.frozen? ⟨l, 0, none⟩ = false := frozenE a1
      clear c0 KA
      go_wp2
      go_ret
      have hs := heap_setCell_same w1 l 0 _ _ (.slice (some ⟨b, off + 2, none⟩) (L - 2) (C - 2)) a1
      exact ⟨rfl, ⟨some ⟨b, off + 2, none⟩, C - 2, by rw [show n - (O + 2) = L - 2 by have := HL.out.1; omega]; exact hs, by rw [show n - (O + 2) = L - 2 by have := HL.out.1; omega]; exact holds_shift HH.out 2, by have := HL.out.1; have := HC.out.1; omega, by have := HC.out.2; omega⟩, (Keep.of_ext x1).trans (keepCellE w1 l 0 _) (fun i hi => .inl hi)⟩
  · have hv : takA n f O = -1 := by unfold takA; rw [if_neg h2]
    rw [hv, if_neg h2]
    have KA := Lib.hid (at_none A L C 0 w (by omega) (.inr (by omega)))
    have HR := Lib.hid (show LefS w0 w l n O f A C from ⟨by rw [← hL]; exact hat, by rw [← hL]; exact hh, by rw [← hL]; exact hc1, hc2⟩)
    clear hv hf hL hh h2 hO hx hat HA HH
    go_enter Try.func36, Try.ntmps36
    go_wp2_with fail
    refine KA.out.mono ?_; rintro e w1 ⟨rfl, rfl⟩
    go_wp2
    go_ret
    exact ⟨rfl, ⟨A, C, HR.out⟩, Keep.refl _ _⟩
set_option maxHeartbeats 4000000 in
theorem list_c (w0 w : World) (l n O : Nat) (f : Nat → Int) (A : Option Addr) (C : Nat) (hx : Ext w0 w) (h : LefS w0 w l n O f A C) (hO : O ≤ n) (hn : n ≤ 100000) (hf : ∀ i, i < n → 0 ≤ f i ∧ f i < 256) :
    Calls Try.prog 55 #[.pointer (some ⟨l, 0, none⟩)] w fun e w' => ∃ x d A' C', e = .returned (.slice x (lstN n f O) d) ∧ Holds .u8 w0 x (lstN n f O) (fun i => f (O + 1 + i)) ∧ lstN n f O ≤ d ∧ d ≤ maxLen ∧ w'.heap[l]? = some (.cells #[.slice A' (lefN n f O) C'] 66 (0, 0)) ∧ Keep (fun i => i = l) w w' := by
  obtain ⟨hat, hh, hc1, hc2⟩ := h
  have c0 : w.cell? ⟨l, 0, none⟩ = some (.slice A (n - O) C) := cell_of_heap hat rfl
  obtain ⟨L, hL⟩ : ∃ L, L = n - O := ⟨_, rfl⟩
  unfold lstN lefN
  have HB : Hid (lstB n f O = true ↔ 0 < L ∧ f O = (L : Int) - 1) := Lib.hid (by unfold lstB; rw [decide_eq_true_iff]; omega)
  rw [← hL] at hat hh hc1 c0 ⊢
  generalize lstB n f O = B at HB ⊢
  have HA := Lib.hid hat
  have HH := Lib.hid hh
  have hLn : L ≤ 100000 := by omega
  by_cases h0 : L = 0
  · have hB : B = false := by
      cases B
      · rfl
      · have := (HB.out.1 rfl).1; omega
    subst hB h0
    rw [if_neg (by decide)]
    try rw [if_neg (by decide)]
    clear HB hf hh hO hx hat HH hL
    go_enter Try.func55, Try.ntmps55
    go_wp2
    go_ret
    exact ⟨none, 0, A, C, rfl, .inl rfl, Nat.le_refl _, Nat.zero_le _, HA.out, Keep.refl _ _⟩
  · have hLI : (0 : Int) < L := by omega
    have hL0 : ((L : Int) == 0) = false := by simp; omega
    have hb0 := hf O (by omega)
    obtain ⟨b, off, hA, hlt, hc⟩ := hh.resolve_left (by omega)
    subst hA
    have cf : w.cell? ⟨b, off, none⟩ = some (.int .u8 (f O)) := hx.cell hlt (show w0.cell? ⟨b, off, none⟩ = some (.int .u8 (f O)) from hc 0 (by omega))
    have hw : IntKind.i64.wrap (f O) = f O := IntWalk.i64_in _ (by omega)
    have hwL : IntKind.i64.wrap ((L : Int) - 1) = (L : Int) - 1 := IntWalk.i64_in _ (by omega)
    by_cases he : f O = (L : Int) - 1
    · have hB : B = true := HB.out.2 ⟨by omega, he⟩
      subst hB
      rw [if_pos rfl, if_pos rfl]
      have hne : (f O != (L : Int) - 1) = false := by simp [he]
      have f1 : w.frozen? ⟨l, 0, none⟩ = false := frozenE hat
      have HL := Lib.hid (And.intro hL h0)
      have HC := Lib.hid (And.intro hc1 hc2)
      have hs := Lib.hid (heap_setCell_same w l 0 _ _ (.slice none 0 0) hat)
      have h1L : (1 : Int) ≤ L := by omega
      by_cases hC : C = 1
      · subst hC
        clear HB hf hh hO hx hat hL hlt hc hb0 he h0
        go_enter Try.func55, Try.ntmps55
        go_wp2
        go_ret
        exact ⟨some ⟨b, off, none⟩, 0, none, 0, by rw [show L - 1 = 0 by have := HC.out.1; omega]; rfl, .inl (by have := HC.out.1; omega), by have := HC.out.1; omega, Nat.zero_le _, hs.out, keepCellE w l 0 _⟩
      · have hC1 : 1 ≤ C := by omega
        clear HB hf hh hO hx hat hL hlt hc hb0 he h0
        go_enter Try.func55, Try.ntmps55
        go_wp2
        go_ret
        exact ⟨some ⟨b, off + 1, none⟩, C - 1, none, 0, by rfl, holds_shift HH.out 1, by have := HC.out.1; omega, by have := HC.out.2; omega, hs.out, keepCellE w l 0 _⟩
    · have hB : B = false := by
        cases B
        · rfl
        · exact absurd (HB.out.1 rfl).2 he
      subst hB
      rw [if_neg (by decide), if_neg (by decide)]
      have hne : (f O != (L : Int) - 1) = true := by simp [he]
      clear HB hf hh hO hx hat hL hlt hc hb0 he
      go_enter Try.func55, Try.ntmps55
      go_wp2
      go_ret
      exact ⟨none, 0, some ⟨b, off, none⟩, C, rfl, .inl rfl, Nat.le_refl _, Nat.zero_le _, HA.out, Keep.refl _ _⟩
end Go.Proofs.Ytokfgdjkafiicaa
