/-
  CONTRACTS: bilgeref19 (layer 19): put, Heard, Said, Entered, Restarted, Short, Long.
-/
import Derived.Test.YtjbmmklgpjnbmaaEve
import Derived.Test.YtjbmmklgpjnbmaaMidArr
import Derived.Test.YtjbmmklgpjnbmaaStructs
import Derived.Test.YtjbmmklgpjnbmaaStepAppend
import Derived.Deep.DeepCutAuto
namespace Go.Proofs.Ytjbmmklgpjnbmaa
open Go.RowKit
set_option linter.unusedVariables false
set_option maxRecDepth 100000

/-- What a call tells that tells a log. -/
def REv (E : Eve) (w : World) (e : Ending) (w' : World) : Prop := ∃ a d, e = .returned (.agg (eveC a d E)) ∧ EveAt w' a d E ∧ Ext w w' ∧ Fresh w a
theorem Fresh.from19 {w W : World} {a : Option Addr} (h : Fresh W a) (x : Ext w W) : Fresh w a := fun p hp => Nat.le_trans x.size (h p hp)
/-- Both boxes. -/
structure R19 (w wr : World) (a : Option Addr) (d : Nat) (E : Eve) : Prop where
  x : Ext w wr
  b2 : wr.heap[w.heap.size]? = some (.cells (eveC a d E) 29 (0, 0))
  b4 : wr.heap[w.heap.size + 1]? = some (.cells #[.slice none 0 0, .int .u16 0] 29 (0, 0))
theorem R19.begin (w : World) (a : Option Addr) (d : Nat) (E : Eve) : ∃ W, W = (w.alloc (.cells (eveC a d E) 29)).alloc (.cells #[.slice none 0 0, .int .u16 0] 29) ∧ R19 w W a d E :=
  ⟨_, rfl, (Ext.alloc w _).trans (Ext.alloc _ _), (heap_alloc_old _ _ (by simp)).trans (heap_alloc_new w _), heap_new_at _ _ (by simp)⟩
theorem R19.ext {w wr wr' : World} {a : Option Addr} {d : Nat} {E : Eve} (h : R19 w wr a d E) (x : Ext wr wr') : R19 w wr' a d E := ⟨h.x.trans x, x.block h.b2, x.block h.b4⟩
theorem R19.cell {w wr : World} {a : Option Addr} {d : Nat} {E : Eve} (h : R19 w wr a d E) {a' : Option Addr} {d' : Nat} {E' : Eve} (j : Nat) (v : Value) (hc : (eveC a d E).setIfInBounds j v = eveC a' d' E') : R19 w (wr.setCell ⟨w.heap.size, j, none⟩ v) a' d' E' :=
  ⟨Below.setCell h.x (Nat.le_refl _) _, by rw [← hc]; exact heap_setCell_same _ _ j _ _ v h.b2, (heap_setCell_other _ _ _ _ (by show w.heap.size + 1 ≠ w.heap.size; omega)).trans h.b4⟩
/-- No byte lies in a log's box. -/
theorem byte_keep {W W' : World} {g m : Nat} {b : Option Addr} {h : Nat → Int} {t : TypeId} {a : Option Addr} {d : Nat} {E : Eve} (hg : W.heap[g]? = some (.cells (eveC a d E) t (0, 0))) (hh : Holds .u8 W b m h) (k : Keep (fun q => q = g) W W') : Holds .u8 W' b m h := by
  by_cases hm : m = 0
  · exact .inl hm
  refine hh.keep k ?_
  rintro p rfl e
  obtain ⟨b, off, ha, hlt, hc⟩ := hh.resolve_left hm
  cases ha
  have e : b = g := e
  subst e
  have c0 := hc 0 (by omega)
  rw [cell_of_row _ _ _ _ _ _ hg] at c0
  have hs : off < 2 := (Array.getElem?_eq_some_iff.1 c0).1
  have ho : off = 0 ∨ off = 1 := by omega
  rcases ho with rfl | rfl <;> simp [eveC] at c0
theorem keepRow19 (w : World) (g : Nat) (cs : Array Value) : Keep (fun i => i = g) w (w.setRow g cs) := ⟨rfl, rfl, rfl, by simp, fun k _ hn => setRow_other w _ k _ hn⟩
theorem frozen19 {w : World} {B j : Nat} {cs : Array Value} {t : TypeId} (h : w.heap[B]? = some (.cells cs t (0, 0))) : w.frozen? ⟨B, j, none⟩ = false := by simp [World.frozen?, h]
set_option maxHeartbeats 2000000 in
theorem rput19_v (a : Option Addr) (d : Nat) (E : Eve) (b : Int) (w : World) (h : EveAt w a d E) (hw : EveW E) (h0 : 0 ≤ b) (h1 : b < 256) : Calls Try.prog 27 #[.agg (eveC a d E), .int .u8 b] w (REv (putE E b) w) := by
  have KP := Lib.hid (fun W (x : Ext w W) => rput07_any a d E.L 64 b W (h.h.ext x) (Nat.le_trans hw.l (by decide)) (by decide) (Nat.le_refl _))
  obtain ⟨W2, hW2, RB⟩ := R19.begin w a d E
  have c0 : W2.cell? ⟨w.heap.size, 0, none⟩ = some (.slice a E.L.length d) := cell_of_heap RB.b2 rfl
  clear h hw h0 h1
  go_enter Try.func27, Try.ntmps27
  go_upto_region 1 with fail
  rw [← hW2]
  clear hW2
  go_upto_region 2 with (first
    | (go_at_call 36; refine (KP.out _ RB.x).mono ?_; rintro e w3 ⟨z, q, rfl, q1, q2, hz, x3, fz⟩; have fz := Lib.hid (fz.from19 RB.x); have RB3 := RB.ext x3; have c3 : w3.cell? ⟨w.heap.size, 0, none⟩ = some (.slice a E.L.length d) := cell_of_heap RB3.b2 rfl; have f3 := frozen19 (j := 0) RB3.b2))
  have RBn := RB3.cell (a' := z) (d' := q) (E' := putE E b) 0 (.slice z (putL E.L 64 b).length q) rfl
  have hz2 := byte_keep RB3.b2 hz (keepCellM w3 (w.heap.size) 0 (.slice z (putL E.L 64 b).length q))
  obtain ⟨w4, hw4⟩ : ∃ W, W = w3.setCell ⟨w.heap.size, 0, none⟩ (.slice z (putL E.L 64 b).length q) := ⟨_, rfl⟩
  rw [← hw4] at RBn hz2 ⊢
  clear hw4 RB RB3 c0 c3 f3 hz x3
  have RB := RBn
  clear RBn
  go_wp2_with (first
    | (refine wpList_load_row rfl 29 (.tmp 2) rfl (w.heap.size) rfl 29 _ (0, 0) _ RB.b2 Try.underlying29 rfl (by kernel_rfl) ?_)
    | (refine wpList_store_row rfl 29 (.tmp 4) (.tmp 10) rfl (w.heap.size + 1) _ rfl rfl 29 _ RB.b4 (by kernel_rfl) rfl (by simp [eveC, Value.oneCell']) ?_))
  refine bodyPost_ret (results_cell_row rfl _ _ (w.heap.size + 1) 29 _ (0, 0) _ rfl (setRow_heap _ _ _ _ _ _ RB.b4) Try.underlying29 rfl (by kernel_rfl)) rfl ?_
  exact ⟨z, q, rfl, ⟨byte_keep (a := none) (d := 0) (E := newE) RB.b4 hz2 (keepRow19 _ _ _), q1, q2⟩, below_setRow RB.x (by omega) _, fz.out⟩
set_option maxHeartbeats 8000000 in
theorem rheard19_v (a : Option Addr) (d : Nat) (E : Eve) (s o l al : Bool) (w : World) (h : EveAt w a d E) (hw : EveW E) : Calls Try.prog 8 #[.agg (eveC a d E), .bool s, .bool o, .bool l, .bool al] w (REv (putE E (heardB s o l al)) w) := by
  have KP := Lib.hid (fun W (x : Ext w W) => rput19_v a d E (heardB s o l al) W (h.ext x) hw (by have := heardB_bd s o l al; omega) (heardB_bd s o l al).2)
  unfold heardB fl at KP ⊢
  unfold REv at KP ⊢
  obtain ⟨W2, hW2, RB⟩ := R19.begin w a d E
  clear h hw
  cases s <;> cases o <;> cases l <;> cases al
  all_goals
    simp only [if_true, Bool.false_eq_true, if_false] at KP ⊢
    go_enter Try.func8, Try.ntmps8
    go_upto_region 1 with fail
    rw [← hW2]
    clear hW2
    go_wp2_with (first
      | (refine wpList_load_row rfl 29 (.tmp 5) rfl (w.heap.size) rfl 29 _ (0, 0) _ RB.b2 Try.underlying29 rfl (by kernel_rfl) ?_)
      | (go_at_call 27; refine (KP.out _ RB.x).mono ?_; rintro e w3 ⟨z, q, rfl, hz, x3, fz⟩; have fz := Lib.hid (fz.from19 RB.x); have RB3 := RB.ext x3)
      | (refine wpList_store_row rfl 29 (.tmp 10) (.tmp 26) rfl (w.heap.size + 1) _ rfl rfl 29 _ RB3.b4 (by kernel_rfl) rfl (by simp [eveC, Value.oneCell']) ?_))
    refine bodyPost_ret (results_cell_row rfl _ _ (w.heap.size + 1) 29 _ (0, 0) _ rfl (setRow_heap _ _ _ _ _ _ RB3.b4) Try.underlying29 rfl (by kernel_rfl)) rfl ?_
    exact ⟨z, q, rfl, ⟨byte_keep (a := none) (d := 0) (E := newE) RB3.b4 hz.h (keepRow19 _ _ _), hz.l, hz.m⟩, below_setRow RB3.x (by omega) _, fz.out⟩
set_option maxHeartbeats 8000000 in
theorem rsaid19_v (a : Option Addr) (d : Nat) (E : Eve) (c : Int) (l : Bool) (w : World) (h : EveAt w a d E) (hw : EveW E) : Calls Try.prog 10 #[.agg (eveC a d E), .int .i64 c, .bool l] w (REv (putE E (saidB c l)) w) := by
  have KP := Lib.hid (fun W (x : Ext w W) => rput19_v a d E (saidB c l) W (h.ext x) hw (saidB_bd c l).1 (by have := saidB_bd c l; omega))
  unfold saidB fl at KP ⊢
  unfold REv at KP ⊢
  obtain ⟨W2, hW2, RB⟩ := R19.begin w a d E
  clear h hw
  by_cases h1 : 1 ≤ c
  · have g1 : decide (1 ≤ c) = true := decide_eq_true h1
    by_cases h3 : c ≤ 3
    · have g3 : decide (c ≤ 3) = true := decide_eq_true h3
      have g4 : (c == 4) = false := by simp; omega
      rw [decide_eq_true (show 1 ≤ c ∧ c ≤ 3 from ⟨h1, h3⟩), decide_eq_false (show ¬ c = 4 by omega)] at KP ⊢
      simp only [if_true, Bool.false_eq_true, if_false] at KP ⊢
      clear h1 h3
      cases l
      all_goals
        simp only [if_true, Bool.false_eq_true, if_false] at KP ⊢
        go_enter Try.func10, Try.ntmps10
        go_upto_region 1 with fail
        rw [← hW2]
        clear hW2
        go_wp2_with (first
          | (refine wpList_load_row rfl 29 (.tmp 3) rfl (w.heap.size) rfl 29 _ (0, 0) _ RB.b2 Try.underlying29 rfl (by kernel_rfl) ?_)
          | (go_at_call 27; refine (KP.out _ RB.x).mono ?_; rintro e w3 ⟨z, q, rfl, hz, x3, fz⟩; have fz := Lib.hid (fz.from19 RB.x); have RB3 := RB.ext x3)
          | (refine wpList_store_row rfl 29 (.tmp 6) (.tmp 25) rfl (w.heap.size + 1) _ rfl rfl 29 _ RB3.b4 (by kernel_rfl) rfl (by simp [eveC, Value.oneCell']) ?_))
        refine bodyPost_ret (results_cell_row rfl _ _ (w.heap.size + 1) 29 _ (0, 0) _ rfl (setRow_heap _ _ _ _ _ _ RB3.b4) Try.underlying29 rfl (by kernel_rfl)) rfl ?_
        exact ⟨z, q, rfl, ⟨byte_keep (a := none) (d := 0) (E := newE) RB3.b4 hz.h (keepRow19 _ _ _), hz.l, hz.m⟩, below_setRow RB3.x (by omega) _, fz.out⟩
    · have g3 : decide (c ≤ 3) = false := decide_eq_false h3
      by_cases h4 : c = 4
      · subst h4
        rw [decide_eq_false (show ¬ ((1 : Int) ≤ 4 ∧ (4 : Int) ≤ 3) by omega), decide_eq_true (show (4 : Int) = 4 from rfl)] at KP ⊢
        simp only [if_true, Bool.false_eq_true, if_false] at KP ⊢
        clear h1 h3
        cases l
        all_goals
          simp only [if_true, Bool.false_eq_true, if_false] at KP ⊢
          go_enter Try.func10, Try.ntmps10
          go_upto_region 1 with fail
          rw [← hW2]
          clear hW2
          go_wp2_with (first
            | (refine wpList_load_row rfl 29 (.tmp 3) rfl (w.heap.size) rfl 29 _ (0, 0) _ RB.b2 Try.underlying29 rfl (by kernel_rfl) ?_)
            | (go_at_call 27; refine (KP.out _ RB.x).mono ?_; rintro e w3 ⟨z, q, rfl, hz, x3, fz⟩; have fz := Lib.hid (fz.from19 RB.x); have RB3 := RB.ext x3)
            | (refine wpList_store_row rfl 29 (.tmp 6) (.tmp 25) rfl (w.heap.size + 1) _ rfl rfl 29 _ RB3.b4 (by kernel_rfl) rfl (by simp [eveC, Value.oneCell']) ?_))
          refine bodyPost_ret (results_cell_row rfl _ _ (w.heap.size + 1) 29 _ (0, 0) _ rfl (setRow_heap _ _ _ _ _ _ RB3.b4) Try.underlying29 rfl (by kernel_rfl)) rfl ?_
          exact ⟨z, q, rfl, ⟨byte_keep (a := none) (d := 0) (E := newE) RB3.b4 hz.h (keepRow19 _ _ _), hz.l, hz.m⟩, below_setRow RB3.x (by omega) _, fz.out⟩
      · have g4 : (c == 4) = false := by simp [h4]
        rw [decide_eq_false (show ¬ (1 ≤ c ∧ c ≤ 3) by omega), decide_eq_false h4] at KP ⊢
        simp only [Bool.false_eq_true, if_false] at KP ⊢
        clear h1 h3 h4
        cases l
        all_goals
          simp only [if_true, Bool.false_eq_true, if_false] at KP ⊢
          go_enter Try.func10, Try.ntmps10
          go_upto_region 1 with fail
          rw [← hW2]
          clear hW2
          go_wp2_with (first
            | (refine wpList_load_row rfl 29 (.tmp 3) rfl (w.heap.size) rfl 29 _ (0, 0) _ RB.b2 Try.underlying29 rfl (by kernel_rfl) ?_)
            | (go_at_call 27; refine (KP.out _ RB.x).mono ?_; rintro e w3 ⟨z, q, rfl, hz, x3, fz⟩; have fz := Lib.hid (fz.from19 RB.x); have RB3 := RB.ext x3)
            | (refine wpList_store_row rfl 29 (.tmp 6) (.tmp 25) rfl (w.heap.size + 1) _ rfl rfl 29 _ RB3.b4 (by kernel_rfl) rfl (by simp [eveC, Value.oneCell']) ?_))
          refine bodyPost_ret (results_cell_row rfl _ _ (w.heap.size + 1) 29 _ (0, 0) _ rfl (setRow_heap _ _ _ _ _ _ RB3.b4) Try.underlying29 rfl (by kernel_rfl)) rfl ?_
          exact ⟨z, q, rfl, ⟨byte_keep (a := none) (d := 0) (E := newE) RB3.b4 hz.h (keepRow19 _ _ _), hz.l, hz.m⟩, below_setRow RB3.x (by omega) _, fz.out⟩
  · have g1 : decide (1 ≤ c) = false := decide_eq_false h1
    have g4 : (c == 4) = false := by simp; omega
    rw [decide_eq_false (show ¬ (1 ≤ c ∧ c ≤ 3) by omega), decide_eq_false (show ¬ c = 4 by omega)] at KP ⊢
    simp only [Bool.false_eq_true, if_false] at KP ⊢
    clear h1
    cases l
    all_goals
      simp only [if_true, Bool.false_eq_true, if_false] at KP ⊢
      go_enter Try.func10, Try.ntmps10
      go_upto_region 1 with fail
      rw [← hW2]
      clear hW2
      go_wp2_with (first
        | (refine wpList_load_row rfl 29 (.tmp 3) rfl (w.heap.size) rfl 29 _ (0, 0) _ RB.b2 Try.underlying29 rfl (by kernel_rfl) ?_)
        | (go_at_call 27; refine (KP.out _ RB.x).mono ?_; rintro e w3 ⟨z, q, rfl, hz, x3, fz⟩; have fz := Lib.hid (fz.from19 RB.x); have RB3 := RB.ext x3)
        | (refine wpList_store_row rfl 29 (.tmp 6) (.tmp 25) rfl (w.heap.size + 1) _ rfl rfl 29 _ RB3.b4 (by kernel_rfl) rfl (by simp [eveC, Value.oneCell']) ?_))
      refine bodyPost_ret (results_cell_row rfl _ _ (w.heap.size + 1) 29 _ (0, 0) _ rfl (setRow_heap _ _ _ _ _ _ RB3.b4) Try.underlying29 rfl (by kernel_rfl)) rfl ?_
      exact ⟨z, q, rfl, ⟨byte_keep (a := none) (d := 0) (E := newE) RB3.b4 hz.h (keepRow19 _ _ _), hz.l, hz.m⟩, below_setRow RB3.x (by omega) _, fz.out⟩
set_option maxHeartbeats 2000000 in
theorem rentered19_v (a : Option Addr) (d : Nat) (E : Eve) (w : World) (h : EveAt w a d E) (hw : EveW E) : Calls Try.prog 12 #[.agg (eveC a d E)] w (REv (putE E 4) w) := by
  have KP := Lib.hid (fun W (x : Ext w W) => rput19_v a d E 4 W (h.ext x) hw (by decide) (by decide))
  unfold REv at KP ⊢
  obtain ⟨W2, hW2, RB⟩ := R19.begin w a d E
  clear h hw
  go_enter Try.func12, Try.ntmps12
  go_upto_region 1 with fail
  rw [← hW2]
  clear hW2
  go_wp2_with (first
    | (refine wpList_load_row rfl 29 (.tmp 1) rfl (w.heap.size) rfl 29 _ (0, 0) _ RB.b2 Try.underlying29 rfl (by kernel_rfl) ?_)
    | (go_at_call 27; refine (KP.out _ RB.x).mono ?_; rintro e w3 ⟨z, q, rfl, hz, x3, fz⟩; have fz := Lib.hid (fz.from19 RB.x); have RB3 := RB.ext x3)
    | (refine wpList_store_row rfl 29 (.tmp 2) (.tmp 4) rfl (w.heap.size + 1) _ rfl rfl 29 _ RB3.b4 (by kernel_rfl) rfl (by simp [eveC, Value.oneCell']) ?_))
  refine bodyPost_ret (results_cell_row rfl _ _ (w.heap.size + 1) 29 _ (0, 0) _ rfl (setRow_heap _ _ _ _ _ _ RB3.b4) Try.underlying29 rfl (by kernel_rfl)) rfl ?_
  exact ⟨z, q, rfl, ⟨byte_keep (a := none) (d := 0) (E := newE) RB3.b4 hz.h (keepRow19 _ _ _), hz.l, hz.m⟩, below_setRow RB3.x (by omega) _, fz.out⟩
set_option maxHeartbeats 4000000 in
theorem rrest19_v (a : Option Addr) (d : Nat) (E : Eve) (wipe : Bool) (w : World) (h : EveAt w a d E) (hw : EveW E) : Calls Try.prog 14 #[.agg (eveC a d E), .bool wipe] w (REv (restE E wipe) w) := by
  obtain ⟨W2, hW2, RB⟩ := R19.begin w a d E
  cases wipe with
  | true =>
    have KP := Lib.hid (fun W (x : Ext w W) => rput19_v none 0 ⟨[], 0⟩ 0 W ⟨.inl rfl, Nat.le_refl _, Nat.zero_le _⟩ newE_w (Int.le_refl 0) (by decide))
    have c0 : W2.cell? ⟨w.heap.size, 0, none⟩ = some (.slice a E.L.length d) := cell_of_heap RB.b2 rfl
    have f0 := frozen19 (j := 0) RB.b2
    have RB1 := RB.cell (a' := none) (d' := 0) (E' := ⟨[], E.n⟩) 0 (.slice none 0 0) rfl
    unfold REv at KP ⊢
    clear h hw
    go_enter Try.func14, Try.ntmps14
    go_upto_region 1 with fail
    rw [← hW2]
    clear hW2
    go_upto_region 3 with fail
    obtain ⟨w3, hw3⟩ : ∃ W, W = W2.setCell ⟨w.heap.size, 0, none⟩ (.slice none 0 0) := ⟨_, rfl⟩
    rw [← hw3] at RB1 ⊢
    clear hw3 c0 f0 RB
    have c1 : w3.cell? ⟨w.heap.size, 1, none⟩ = some (.int .u16 E.n) := cell_of_heap RB1.b2 rfl
    have f1 := frozen19 (j := 1) RB1.b2
    have RB2 := RB1.cell (a' := none) (d' := 0) (E' := ⟨[], 0⟩) 1 (.int .u16 0) rfl
    go_upto_region 4 with fail
    obtain ⟨w4, hw4⟩ : ∃ W, W = w3.setCell ⟨w.heap.size, 1, none⟩ (.int .u16 0) := ⟨_, rfl⟩
    rw [← hw4] at RB2 ⊢
    clear hw4 c1 f1 RB1
    go_wp2_with (first
      | (refine wpList_load_row rfl 29 (.tmp 2) rfl (w.heap.size) rfl 29 _ (0, 0) _ RB2.b2 Try.underlying29 rfl (by kernel_rfl) ?_)
      | (go_at_call 27; refine (KP.out _ RB2.x).mono ?_; rintro e w5 ⟨z, q, rfl, hz, x5, fz⟩; have fz := Lib.hid (fz.from19 RB2.x); have RB3 := RB2.ext x5)
      | (refine wpList_store_row rfl 29 (.tmp 4) (.tmp 9) rfl (w.heap.size + 1) _ rfl rfl 29 _ RB3.b4 (by kernel_rfl) rfl (by simp [eveC, Value.oneCell']) ?_))
    refine bodyPost_ret (results_cell_row rfl _ _ (w.heap.size + 1) 29 _ (0, 0) _ rfl (setRow_heap _ _ _ _ _ _ RB3.b4) Try.underlying29 rfl (by kernel_rfl)) rfl ?_
    exact ⟨z, q, rfl, ⟨byte_keep (a := none) (d := 0) (E := newE) RB3.b4 hz.h (keepRow19 _ _ _), hz.l, hz.m⟩, below_setRow RB3.x (by omega) _, fz.out⟩
  | false =>
    have KP := Lib.hid (fun W (x : Ext w W) => rput19_v a d ⟨E.L, 0⟩ 0 W ⟨h.h.ext x, h.l, h.m⟩ ⟨hw.l, hw.b, ⟨Int.le_refl 0, by show (0 : Int) < 65536; decide⟩⟩ (Int.le_refl 0) (by decide))
    have c1 : W2.cell? ⟨w.heap.size, 1, none⟩ = some (.int .u16 E.n) := cell_of_heap RB.b2 rfl
    have f1 := frozen19 (j := 1) RB.b2
    have RB2 := RB.cell (a' := a) (d' := d) (E' := ⟨E.L, 0⟩) 1 (.int .u16 0) rfl
    unfold REv at KP ⊢
    clear h hw
    go_enter Try.func14, Try.ntmps14
    go_upto_region 1 with fail
    rw [← hW2]
    clear hW2
    go_upto_region 4 with fail
    obtain ⟨w4, hw4⟩ : ∃ W, W = W2.setCell ⟨w.heap.size, 1, none⟩ (.int .u16 0) := ⟨_, rfl⟩
    rw [← hw4] at RB2 ⊢
    clear hw4 c1 f1 RB
    go_wp2_with (first
      | (refine wpList_load_row rfl 29 (.tmp 2) rfl (w.heap.size) rfl 29 _ (0, 0) _ RB2.b2 Try.underlying29 rfl (by kernel_rfl) ?_)
      | (go_at_call 27; refine (KP.out _ RB2.x).mono ?_; rintro e w5 ⟨z, q, rfl, hz, x5, fz⟩; have fz := Lib.hid (fz.from19 RB2.x); have RB3 := RB2.ext x5)
      | (refine wpList_store_row rfl 29 (.tmp 4) (.tmp 9) rfl (w.heap.size + 1) _ rfl rfl 29 _ RB3.b4 (by kernel_rfl) rfl (by simp [eveC, Value.oneCell']) ?_))
    refine bodyPost_ret (results_cell_row rfl _ _ (w.heap.size + 1) 29 _ (0, 0) _ rfl (setRow_heap _ _ _ _ _ _ RB3.b4) Try.underlying29 rfl (by kernel_rfl)) rfl ?_
    exact ⟨z, q, rfl, ⟨byte_keep (a := none) (d := 0) (E := newE) RB3.b4 hz.h (keepRow19 _ _ _), hz.l, hz.m⟩, below_setRow RB3.x (by omega) _, fz.out⟩
set_option maxHeartbeats 2000000 in
theorem rshort19_v (a : Option Addr) (d : Nat) (E : Eve) (w : World) (h : EveAt w a d E) (hw : EveW E) : Calls Try.prog 21 #[.agg (eveC a d E)] w fun e w' => ∃ b q, e = .returned (.slice b 4 q) ∧ Holds .u8 w' b 4 (shF E) ∧ Ext w w' := by
  obtain ⟨W2, hW2, e0, g2⟩ : ∃ W2, W2 = w.alloc (.cells (eveC a d E) 29) ∧ Ext w W2 ∧ W2.heap[w.heap.size]? = some (.cells (eveC a d E) 29 (0, 0)) := ⟨_, rfl, Ext.alloc w _, heap_alloc_new w _⟩
  have c1 : W2.cell? ⟨w.heap.size, 1, none⟩ = some (.int .u16 E.n) := cell_of_heap g2 rfl
  have hx := Ext.alloc W2 (.cells #[.int .u16 0, .int .u16 E.n] 23)
  have KP := Lib.hid (rput_any (some ⟨W2.heap.size, 0, none⟩) 2 2 (ofL [0, E.n]) (W2.alloc (.cells #[.int .u16 0, .int .u16 E.n] 23)) (Holds.lit W2 [0, E.n] 23 _ rfl 2 rfl) (by decide) (fun i hi => by
    have hi2 : i = 0 ∨ i = 1 := by omega
    rcases hi2 with rfl | rfl
    · exact ⟨Int.le_refl 0, by show (0 : Int) < 65536; decide⟩
    · exact hw.n))
  clear h hw g2
  go_enter Try.func21, Try.ntmps21
  go_upto_region 1 with fail
  rw [← hW2]
  clear hW2
  go_wp2_with fail
  refine (KP.out).mono ?_; rintro e w3 ⟨b, q, rfl, hb, hx3⟩
  have x3 := e0.trans (hx.trans hx3)
  clear c1
  go_wp2
  go_ret
  exact ⟨b, q, rfl, hb, x3⟩
theorem lst_one19 (x : Int) : [Value.int .u8 x] = lstG (Value.int .u8) (fun _ => x) 1 := rfl
theorem lstG_congr19 {f g : Nat → Int} {n : Nat} (h : ∀ i, i < n → f i = g i) : lstG (Value.int .u8) f n = lstG (Value.int .u8) g n := by
  unfold lstG
  exact List.map_congr_left fun i hi => by rw [h i (List.mem_range.1 hi)]
theorem long_list (E : Eve) (m : Int) : ([Value.int .u8 (6 + (E.L.length : Int))] ++ lstG (Value.int .u8) (putF (ofL [0, E.n, m])) (2 * 3)) ++ lstG (Value.int .u8) (ofL E.L) E.L.length = lstG (Value.int .u8) (lgF E m) (lgN E) := by
  rw [lst_one19, lstG_append, lstG_append]
  refine lstG_congr19 fun i hi => ?_
  unfold lgF
  by_cases h0 : i = 0
  · subst h0; rfl
  · by_cases h7 : i < 7
    · rw [if_pos (show i < 1 + 2 * 3 by omega), if_neg (show ¬ i < 1 by omega), if_neg h0, if_pos h7]
    · rw [if_neg (show ¬ i < 1 + 2 * 3 by omega), if_neg h0, if_neg h7]
set_option maxHeartbeats 4000000 in
theorem rlong19_v (a : Option Addr) (d : Nat) (E : Eve) (m : Int) (w : World) (h : EveAt w a d E) (hw : EveW E) (m0 : 0 ≤ m) (m1 : m < 65536) : Calls Try.prog 23 #[.agg (eveC a d E), .int .u16 m] w fun e w' => ∃ b q, e = .returned (.slice b (lgN E) q) ∧ Holds .u8 w' b (lgN E) (lgF E m) ∧ Ext w w' := by
  obtain ⟨i8, hi8, hz80, hz81, hz82⟩ := info_parts Try.info8
  obtain ⟨W2, hW2, e0, g2⟩ : ∃ W2, W2 = w.alloc (.cells (eveC a d E) 29) ∧ Ext w W2 ∧ W2.heap[w.heap.size]? = some (.cells (eveC a d E) 29 (0, 0)) := ⟨_, rfl, Ext.alloc w _, heap_alloc_new w _⟩
  obtain ⟨n, hn⟩ : ∃ n, n = E.L.length := ⟨_, rfl⟩
  obtain ⟨cn, hcn⟩ : ∃ cn, cn = E.n := ⟨_, rfl⟩
  have hn64 : n ≤ 64 := by rw [hn]; exact hw.l
  have c0 : W2.cell? ⟨w.heap.size, 0, none⟩ = some (.slice a n d) := by rw [hn]; exact cell_of_heap g2 rfl
  have c1 : W2.cell? ⟨w.heap.size, 1, none⟩ = some (.int .u16 cn) := by rw [hcn]; exact cell_of_heap g2 rfl
  have hcb : 0 ≤ cn ∧ cn < 65536 := by rw [hcn]; exact hw.n
  have KP := Lib.hid (fun (W : World) (K : Nat) (hk : W.heap[K]? = some (.cells #[.int .u16 0, .int .u16 cn, .int .u16 m] 23 (0, 0))) => rput_any (some ⟨K, 0, none⟩) 3 3 (ofL [0, cn, m]) W (.inr ⟨K, 0, rfl, heap_lt hk, fun i hi => by
    have hi2 : i = 0 ∨ i = 1 ∨ i = 2 := by omega
    rcases hi2 with rfl | rfl | rfl <;> exact cell_of_heap hk rfl⟩) (by decide) (fun i hi => by
    have hi2 : i = 0 ∨ i = 1 ∨ i = 2 := by omega
    rcases hi2 with rfl | rfl | rfl
    · exact ⟨Int.le_refl 0, by show (0 : Int) < 65536; decide⟩
    · exact hcb
    · exact ⟨m0, m1⟩))
  have HH := Lib.hid h
  have HE0 := Lib.hid e0
  have HN := Lib.hid hn
  have HC := Lib.hid hcn
  have n0 : (0 : Int) ≤ n := by omega
  have n1 : (n : Int) ≤ 64 := by omega
  have hlt : w.heap.size < W2.heap.size := heap_lt g2
  clear h hw g2 e0 hn hcn m0 m1 hcb
  go_enter Try.func23, Try.ntmps23
  go_upto_region 1 with fail
  rw [← hW2]
  clear hW2
  go_cut [5] (fun v wx => Ext W2 wx ∧ wx.ownsRow W2.heap.size 5 1 v (1 + 2 * 3) ([Value.int .u8 (6 + (n : Int))] ++ lstG (Value.int .u8) (putF (ofL [0, cn, m])) (2 * 3)))
  case first =>
    have hd : Ext W2 W2.drew := Ext.drew W2
    have HS := Lib.hid (fun W (hW : Ext W2 W) => And.intro (hW.cell hlt c0) (hW.cell hlt c1))
    have hs : Ext W2 W2.drew := hd
    clear c0 c1 HE0
    have wI : IntKind.i64.wrap (6 + (n : Int)) = 6 + n := IntWalk.i64_in _ (by omega)
    have wU : IntKind.u8.wrap (6 + (n : Int)) = 6 + n := by simp [IntKind.wrap, IntKind.bits, IntKind.signed]; omega
    refine wp_region_held_drew (S := fun W => Ext W2 W) (by kernel_rfl) hs (fun _ => ?_)
    obtain ⟨X0, hX0⟩ : ∃ X, X = W2.drew := ⟨_, rfl⟩
    rw [← hX0] at hs ⊢
    clear hX0 hd
    refine wpAnyH_takeD (i := 0) (d := 6) (v := .pointer (some ⟨w.heap.size, 0, none⟩)) rfl rfl (by kernel_rfl) (by kernel_rfl) (by kernel_rfl) (fun _ _ _ h => h) (Or.inl ⟨by rfl, fun W hW => by go_simp⟩) hs ?_
    simp only [Act.put, List.setIfInBounds_toArray, List.set_cons_succ, List.set_cons_zero]
    refine wpAnyH_takeD (i := 1) (d := 7) (v := .slice a n d) rfl rfl (by kernel_rfl) (by kernel_rfl) (by kernel_rfl) (fun _ _ _ h => h) (Or.inl ⟨by rfl, fun W hW => by obtain ⟨k0, k1⟩ := HS.out W hW; go_simp⟩) hs ?_
    simp only [Act.put, List.setIfInBounds_toArray, List.set_cons_succ, List.set_cons_zero]
    refine wpAnyH_takeD (i := 2) (d := 8) (v := .int .i64 n) rfl rfl (by kernel_rfl) (by kernel_rfl) (by kernel_rfl) (fun _ _ _ h => h) (Or.inl ⟨by rfl, fun W hW => by go_simp⟩) hs ?_
    simp only [Act.put, List.setIfInBounds_toArray, List.set_cons_succ, List.set_cons_zero]
    refine wpAnyH_takeD (i := 3) (d := 9) (v := .int .i64 (6 + n)) rfl rfl (by kernel_rfl) (by kernel_rfl) (by kernel_rfl) (fun _ _ _ h => h) (Or.inl ⟨by rfl, fun W hW => by go_simp⟩) hs ?_
    simp only [Act.put, List.setIfInBounds_toArray, List.set_cons_succ, List.set_cons_zero]
    refine wpAnyH_takeD (i := 4) (d := 10) (v := .int .u8 (6 + n)) rfl rfl (by kernel_rfl) (by kernel_rfl) (by kernel_rfl) (fun _ _ _ h => h) (Or.inl ⟨by rfl, fun W hW => by go_simp⟩) hs ?_
    simp only [Act.put, List.setIfInBounds_toArray, List.set_cons_succ, List.set_cons_zero]
    refine wpAnyH_takeD (i := 6) (d := 12) (v := .pointer (some ⟨w.heap.size, 1, none⟩)) rfl rfl (by kernel_rfl) (by kernel_rfl) (by kernel_rfl) (fun _ _ _ h => h) (Or.inl ⟨by rfl, fun W hW => by go_simp⟩) hs ?_
    simp only [Act.put, List.setIfInBounds_toArray, List.set_cons_succ, List.set_cons_zero]
    refine wpAnyH_takeD (i := 7) (d := 13) (v := .int .u16 cn) rfl rfl (by kernel_rfl) (by kernel_rfl) (by kernel_rfl) (fun _ _ _ h => h) (Or.inl ⟨by rfl, fun W hW => by obtain ⟨k0, k1⟩ := HS.out W hW; go_simp⟩) hs ?_
    simp only [Act.put, List.setIfInBounds_toArray, List.set_cons_succ, List.set_cons_zero]
    refine wpAnyH_takeD (i := 8) (d := 14) (v := .int .u16 m) rfl rfl (by kernel_rfl) (by kernel_rfl) (by kernel_rfl) (fun _ _ _ h => h) (Or.inl ⟨by rfl, fun W hW => by go_simp⟩) hs ?_
    simp only [Act.put, List.setIfInBounds_toArray, List.set_cons_succ, List.set_cons_zero]
    refine wpAnyH_ready (rs := [5, 9]) (by kernel_rfl) (by simp) (AllReadyH.cons rfl (fun K hK => ?_) (AllReadyH.cons rfl (fun K hK => ?_) AllReadyH.nil))
    · go_simp
      have o11 := own_lit1 X0 (6 + (n : Int)) W2.heap.size hs.size
      have xx := Ext.alloc X0 (.cells #[.int .u8 (6 + (n : Int))] 5)
      refine hK.out _ _ (hs.trans xx) (fun hs => ?_)
      clear hK K
      obtain ⟨X1, hY⟩ : ∃ Y, Y = X0.alloc (.cells #[.int .u8 (6 + (n : Int))] 5) := ⟨_, rfl⟩
      rw [← hY] at hs o11 xx ⊢
      clear hY
      refine wpAnyH_ready (rs := [9]) (by kernel_rfl) (by simp) (AllReadyH.cons rfl (fun K hK => ?_) AllReadyH.nil)
      go_simp
      have h15 := heap_alloc_new X1 (.cells #[.int .u16 0, .int .u16 cn, .int .u16 m] 23)
      have xx := Ext.alloc X1 (.cells #[.int .u16 0, .int .u16 cn, .int .u16 m] 23)
      refine hK.out _ _ (hs.trans xx) (fun hs => ?_)
      clear hK K
      obtain ⟨X2, hY⟩ : ∃ Y, Y = X1.alloc (.cells #[.int .u16 0, .int .u16 cn, .int .u16 m] 23) := ⟨_, rfl⟩
      rw [← hY] at hs h15 xx ⊢
      clear hY
      have o11 := own_ext o11 xx
      refine wpAnyH_ready (rs := [10]) (by kernel_rfl) (by simp) (AllReadyH.cons rfl (fun K hK => ?_) AllReadyH.nil)
      go_simp
      refine (KP.out X2 _ h15).mono ?_
      rintro e X3 ⟨b, q, rfl, hb, xx⟩
      go_wp2_with fail
      refine hK.out _ _ (hs.trans xx) (fun hs => ?_)
      clear hK K
      have o11 := own_ext o11 xx
      refine wpAnyH_ready (rs := [11]) (by kernel_rfl) (by simp) (AllReadyH.cons rfl (fun K hK => ?_) AllReadyH.nil)
      refine step_appendM rfl (.tmp 11) (.tmp 16) 27 rfl W2.heap.size 5 i8 (.int .u8 0) 1 Try.underlying27 hi8 hz80 hz81 hz82 rfl _ 1 [.int .u8 (6 + (n : Int))] (by rfl) o11 b (2 * 3) q (putF (ofL [0, cn, m])) (by rfl) hb (fun _ => rfl) (by unfold maxLen; decide) (by decide) hs.size 17 rfl ?_
      intro v7 X4 hown7 hb7
      have xx : Ext W2 X4 := Below.trans hs hb7
      refine hK.out _ _ xx (fun hs => ?_)
      clear hK K
      simp only [Act.put, List.setIfInBounds_toArray, List.set_cons_succ, List.set_cons_zero]
      refine wpAnyH_takeD (i := 12) (d := 5) (v := v7) rfl rfl (by kernel_rfl) (by kernel_rfl) (by kernel_rfl) (fun _ _ _ h => h) (Or.inl ⟨by rfl, fun W hW => by go_simp⟩) hs ?_
      simp only [Act.put, List.setIfInBounds_toArray, List.set_cons_succ, List.set_cons_zero]
      refine wpAnyH_done (by kernel_rfl) ?_ _
      go_wp2_with fail
      go_meet
      exact ⟨xx, hown7⟩
    · go_simp
      have h15 := heap_alloc_new X0 (.cells #[.int .u16 0, .int .u16 cn, .int .u16 m] 23)
      have xx := Ext.alloc X0 (.cells #[.int .u16 0, .int .u16 cn, .int .u16 m] 23)
      refine hK.out _ _ (hs.trans xx) (fun hs => ?_)
      clear hK K
      obtain ⟨X1, hY⟩ : ∃ Y, Y = X0.alloc (.cells #[.int .u16 0, .int .u16 cn, .int .u16 m] 23) := ⟨_, rfl⟩
      rw [← hY] at hs h15 xx ⊢
      clear hY
      refine wpAnyH_ready (rs := [5, 10]) (by kernel_rfl) (by simp) (AllReadyH.cons rfl (fun K hK => ?_) (AllReadyH.cons rfl (fun K hK => ?_) AllReadyH.nil))
      · go_simp
        have o11 := own_lit1 X1 (6 + (n : Int)) W2.heap.size hs.size
        have xx := Ext.alloc X1 (.cells #[.int .u8 (6 + (n : Int))] 5)
        refine hK.out _ _ (hs.trans xx) (fun hs => ?_)
        clear hK K
        obtain ⟨X2, hY⟩ : ∃ Y, Y = X1.alloc (.cells #[.int .u8 (6 + (n : Int))] 5) := ⟨_, rfl⟩
        rw [← hY] at hs o11 xx ⊢
        clear hY
        have h15 := xx.block h15
        refine wpAnyH_ready (rs := [10]) (by kernel_rfl) (by simp) (AllReadyH.cons rfl (fun K hK => ?_) AllReadyH.nil)
        go_simp
        refine (KP.out X2 _ h15).mono ?_
        rintro e X3 ⟨b, q, rfl, hb, xx⟩
        go_wp2_with fail
        refine hK.out _ _ (hs.trans xx) (fun hs => ?_)
        clear hK K
        have o11 := own_ext o11 xx
        refine wpAnyH_ready (rs := [11]) (by kernel_rfl) (by simp) (AllReadyH.cons rfl (fun K hK => ?_) AllReadyH.nil)
        refine step_appendM rfl (.tmp 11) (.tmp 16) 27 rfl W2.heap.size 5 i8 (.int .u8 0) 1 Try.underlying27 hi8 hz80 hz81 hz82 rfl _ 1 [.int .u8 (6 + (n : Int))] (by rfl) o11 b (2 * 3) q (putF (ofL [0, cn, m])) (by rfl) hb (fun _ => rfl) (by unfold maxLen; decide) (by decide) hs.size 17 rfl ?_
        intro v7 X4 hown7 hb7
        have xx : Ext W2 X4 := Below.trans hs hb7
        refine hK.out _ _ xx (fun hs => ?_)
        clear hK K
        simp only [Act.put, List.setIfInBounds_toArray, List.set_cons_succ, List.set_cons_zero]
        refine wpAnyH_takeD (i := 12) (d := 5) (v := v7) rfl rfl (by kernel_rfl) (by kernel_rfl) (by kernel_rfl) (fun _ _ _ h => h) (Or.inl ⟨by rfl, fun W hW => by go_simp⟩) hs ?_
        simp only [Act.put, List.setIfInBounds_toArray, List.set_cons_succ, List.set_cons_zero]
        refine wpAnyH_done (by kernel_rfl) ?_ _
        go_wp2_with fail
        go_meet
        exact ⟨xx, hown7⟩
      · go_simp
        refine (KP.out X1 _ h15).mono ?_
        rintro e X2 ⟨b, q, rfl, hb, xx⟩
        go_wp2_with fail
        refine hK.out _ _ (hs.trans xx) (fun hs => ?_)
        clear hK K
        refine wpAnyH_ready (rs := [5]) (by kernel_rfl) (by simp) (AllReadyH.cons rfl (fun K hK => ?_) AllReadyH.nil)
        go_simp
        have o11 := own_lit1 X2 (6 + (n : Int)) W2.heap.size hs.size
        have xx := Ext.alloc X2 (.cells #[.int .u8 (6 + (n : Int))] 5)
        refine hK.out _ _ (hs.trans xx) (fun hs => ?_)
        clear hK K
        obtain ⟨X3, hY⟩ : ∃ Y, Y = X2.alloc (.cells #[.int .u8 (6 + (n : Int))] 5) := ⟨_, rfl⟩
        rw [← hY] at hs o11 xx ⊢
        clear hY
        have hb := hb.ext xx
        refine wpAnyH_ready (rs := [11]) (by kernel_rfl) (by simp) (AllReadyH.cons rfl (fun K hK => ?_) AllReadyH.nil)
        refine step_appendM rfl (.tmp 11) (.tmp 16) 27 rfl W2.heap.size 5 i8 (.int .u8 0) 1 Try.underlying27 hi8 hz80 hz81 hz82 rfl _ 1 [.int .u8 (6 + (n : Int))] (by rfl) o11 b (2 * 3) q (putF (ofL [0, cn, m])) (by rfl) hb (fun _ => rfl) (by unfold maxLen; decide) (by decide) hs.size 17 rfl ?_
        intro v7 X4 hown7 hb7
        have xx : Ext W2 X4 := Below.trans hs hb7
        refine hK.out _ _ xx (fun hs => ?_)
        clear hK K
        simp only [Act.put, List.setIfInBounds_toArray, List.set_cons_succ, List.set_cons_zero]
        refine wpAnyH_takeD (i := 12) (d := 5) (v := v7) rfl rfl (by kernel_rfl) (by kernel_rfl) (by kernel_rfl) (fun _ _ _ h => h) (Or.inl ⟨by rfl, fun W hW => by go_simp⟩) hs ?_
        simp only [Act.put, List.setIfInBounds_toArray, List.set_cons_succ, List.set_cons_zero]
        refine wpAnyH_done (by kernel_rfl) ?_ _
        go_wp2_with fail
        go_meet
        exact ⟨xx, hown7⟩
  case rest =>
  obtain ⟨xc, hownc⟩ := hcut
  have c0 := xc.cell hlt c0
  have hA : Holds .u8 wc a n (ofL E.L) := by rw [HN.out]; exact HH.out.h.ext (HE0.out.trans xc)
  clear c1
  go_wp2_with (first
    | (at_builtin; refine wpList_append_holds rfl (.tmp 18) (.tmp 20) _ rfl W2.heap.size 5 i8 (.int .u8 0) 1 Try.underlying27 hi8 hz80 hz81 hz82 rfl u5 (1 + 2 * 3) _ rfl hownc a n d (ofL E.L) rfl hA (fun _ => rfl) (by unfold maxLen; omega) (by omega) xc.size ?_; intro v9 w9 hown9 hgr9 hb9))
  have x9 : Ext W2 w9 := Below.trans xc hb9
  have hl := long_list E m
  have e7 : 1 + 2 * 3 + n = lgN E := by unfold lgN; rw [← HN.out]
  rw [← HN.out, ← HC.out] at hl
  rw [hl, e7] at hown9
  obtain ⟨b, q, hv, l9, m9, h9⟩ := HoldsG.of_own (mk := Value.int .u8) hown9
  subst hv
  go_ret
  exact ⟨b, q, rfl, h9, HE0.out.trans x9⟩
end Go.Proofs.Ytjbmmklgpjnbmaa
