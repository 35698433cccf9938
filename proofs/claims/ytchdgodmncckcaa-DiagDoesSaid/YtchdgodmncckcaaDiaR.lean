/-
  CONTRACTS: bilgeref18 (layer 18): Known, New, Do.
-/
import Derived.Test.YtchdgodmncckcaaDia
import Derived.Test.YtchdgodmncckcaaWord
import Derived.Test.YtchdgodmncckcaaAppend
import Derived.Test.YtchdgodmncckcaaStructs
import Derived.Test.YtchdgodmncckcaaStepAppend
import Derived.Test.YtchdgodmncckcaaStepStore
import Derived.Test.YtchdgodmncckcaaMidArr
import Derived.Deep.DeepCutAuto
namespace Go.Proofs.Ytchdgodmncckcaa
open Go.RowKit
set_option linter.unusedVariables false
set_option maxRecDepth 100000

theorem results_row_three {P : Program} {fn : Func} {p u v x : Tmp} {ty : TypeId} (tmps : Array Value) (w : World) (g : Nat) (t : TypeId) (cs : Array Value) (fr : Nat × Nat) (d : TypeDesc) (hr : fn.results = #[.cell p ty, .tmp u, .tmp v, .tmp x])
    (hp : tmps.getD p undef = .pointer (some ⟨g, 0, none⟩)) (hg : w.heap[g]? = some (.cells cs t fr)) (hu : P.underlying ty = some d) (hd : (match d with | .struct _ | .array _ _ => true | _ => false) = true) (hi : (P.info? ty).map (·.size) = some cs.size) :
    (results fn tmps).run P w = .ok (.tuple #[.agg cs, tmps.getD u undef, tmps.getD v undef, tmps.getD x undef]) w := by
  have hp' : tmps[p]?.getD undef = .pointer (some ⟨g, 0, none⟩) := by simpa using hp
  simp [results, hr, hp', asAddr, Result.andThen, run_loadVar_row w g t ty cs fr d hg hu hd hi]
theorem frozen18 {w : World} {B j : Nat} {cs : Array Value} {t : TypeId} (h : w.heap[B]? = some (.cells cs t (0, 0))) : w.frozen? ⟨B, j, none⟩ = false := by simp [World.frozen?, h]
theorem rknown18_v {k : Int} {K : Bool} (h : dgK k = K) (w : World) : Calls Try.prog 28 #[.int .i64 k] w fun e w' => e = .returned (.bool K) ∧ w' = w := by
  unfold dgK at h
  by_cases h1 : k ≤ 4
  · have d1 : decide (k ≤ 4) = true := decide_eq_true h1
    have hK : K = true := by rw [← h]; exact decide_eq_true (.inl h1)
    subst hK
    clear h h1
    go_enter Try.func28, Try.ntmps28
    go_wp2
    go_ret
    exact ⟨rfl, rfl⟩
  · have d1 : decide (k ≤ 4) = false := decide_eq_false h1
    by_cases h2 : 10 ≤ k
    · have d2 : decide (10 ≤ k) = true := decide_eq_true h2
      by_cases h3 : k ≤ 18
      · have d3 : decide (k ≤ 18) = true := decide_eq_true h3
        have hK : K = true := by rw [← h]; exact decide_eq_true (.inr (.inl ⟨h2, h3⟩))
        subst hK
        clear h h1 h2 h3
        go_enter Try.func28, Try.ntmps28
        go_wp2
        go_ret
        exact ⟨rfl, rfl⟩
      · have d3 : decide (k ≤ 18) = false := decide_eq_false h3
        by_cases h4 : k = 20
        · subst h4
          have hK : K = true := by rw [← h]; exact decide_eq_true (.inr (.inr rfl))
          subst hK
          clear h h1 h2 h3
          go_enter Try.func28, Try.ntmps28
          go_wp2
          go_ret
          exact ⟨rfl, rfl⟩
        · have d4 : (k == 20) = false := by simp [h4]
          have hK : K = false := by rw [← h]; exact decide_eq_false (by omega)
          subst hK
          clear h h1 h2 h3 h4
          go_enter Try.func28, Try.ntmps28
          go_wp2
          go_ret
          exact ⟨rfl, rfl⟩
    · have d2 : decide (10 ≤ k) = false := decide_eq_false h2
      have d4 : (k == 20) = false := by simp; omega
      have hK : K = false := by rw [← h]; exact decide_eq_false (by omega)
      subst hK
      clear h h1 h2
      go_enter Try.func28, Try.ntmps28
      go_wp2
      go_ret
      exact ⟨rfl, rfl⟩
theorem rnew18_v (w : World) : Calls Try.prog 7 #[] w fun e w' => e = .returned (.agg (diaC newD)) ∧ Ext w w' := by
  go_enter Try.func7, Try.ntmps7
  go_wp2
  refine bodyPost_ret (results_cell_row rfl _ _ (w.heap.size) 29 _ (0, 0) _ rfl (heap_alloc_new w _) Try.underlying29 rfl (by kernel_rfl)) rfl ?_
  exact ⟨rfl, Ext.alloc _ _⟩
/-- What Do tells. -/
def RDo18 (D : Dia) (n : Nat) (f : Nat → Int) (w : World) (e : Ending) (w' : World) : Prop := ∃ b q, e = .returned (.tuple #[.agg (diaC (dgD D n f)), .slice b (dgM n f) q, .int .i64 (dgW n f), .int .i64 (dgE n f)]) ∧ HoldsG (Value.int .u8) w' b (dgM n f) (dgB D f) ∧ Ext w w'
/-- Both boxes, the state's and the one that is told. -/
structure R18 (w wr : World) (D : Dia) : Prop where
  x : Ext w wr
  b2 : wr.heap[w.heap.size]? = some (.cells (diaC D) 29 (0, 0))
  b4 : wr.heap[w.heap.size + 1]? = some (.cells #[.int .u16 0, .int .u16 0, .int .u16 0, .int .u16 0, .int .u16 0, .int .u16 0, .int .u16 0, .int .u16 0, .int .u16 0, .bool false, .int .u8 0] 29 (0, 0))
theorem R18.ext {w wr wr' : World} {D : Dia} (h : R18 w wr D) (x : Ext wr wr') : R18 w wr' D := ⟨h.x.trans x, x.block h.b2, x.block h.b4⟩
theorem R18.begin (w : World) (D : Dia) : ∃ W, W = (w.alloc (.cells (diaC D) 29)).alloc (.cells #[.int .u16 0, .int .u16 0, .int .u16 0, .int .u16 0, .int .u16 0, .int .u16 0, .int .u16 0, .int .u16 0, .int .u16 0, .bool false, .int .u8 0] 29) ∧ R18 w W D :=
  ⟨_, rfl, (Ext.alloc w _).trans (Ext.alloc _ _), (heap_alloc_old _ _ (by simp)).trans (heap_alloc_new w _), heap_new_at _ _ (by simp)⟩
set_option maxHeartbeats 4000000 in
theorem rdo18_short (D : Dia) (a : Option Addr) (n c : Nat) (f : Nat → Int) (w : World) (ha : Holds .u8 w a n f) (hn : n ≤ 600) (hnc : n ≤ c) (hcm : c ≤ maxLen) (hf : ∀ i, i < n → 0 ≤ f i ∧ f i < 256) (h : n < 2) : Calls Try.prog 9 #[.agg (diaC D), .slice a n c] w (RDo18 D n f w) := by
  have hE : dgE n f = 3 := by unfold dgE; rw [if_pos h]
  have HE := Lib.hid (And.intro (dg_err (D := D) (show dgE n f ≠ 0 by rw [hE]; decide)).1 (And.intro (dg_err (D := D) (show dgE n f ≠ 0 by rw [hE]; decide)).2.2 (And.intro (dg_err (D := D) (show dgE n f ≠ 0 by rw [hE]; decide)).2.1 hE)))
  have h2 : (n : Int) < 2 := by omega
  obtain ⟨W2, hW2, RB⟩ := R18.begin w D
  clear hE h ha hf
  go_enter Try.func9, Try.ntmps9
  go_upto_region 1 with fail
  rw [← hW2]
  clear hW2
  go_wp2_with (first
    | (refine wpList_load_row rfl 29 (.tmp 2) rfl (w.heap.size) rfl 29 _ (0, 0) _ RB.b2 Try.underlying29 rfl (by kernel_rfl) ?_)
    | (refine wpList_store_row rfl 29 (.tmp 4) (.tmp 18) rfl (w.heap.size + 1) _ rfl rfl 29 _ RB.b4 (by kernel_rfl) rfl (by simp [diaC, Value.oneCell']) ?_))
  refine bodyPost_ret (results_row_three _ _ (w.heap.size + 1) 29 _ (0, 0) _ rfl rfl (setRow_heap _ _ _ _ _ _ RB.b4) Try.underlying29 rfl (by kernel_rfl)) rfl ?_
  obtain ⟨e1, e2, e3, e4⟩ := HE.out
  unfold RDo18
  rw [e1, e2, e3, e4]
  exact ⟨none, 0, rfl, .inl rfl, below_setRow RB.x (by omega) _⟩
set_option maxHeartbeats 4000000 in
theorem rdo18_unknown (D : Dia) (a : Option Addr) (n c : Nat) (f : Nat → Int) (w : World) (ha : Holds .u8 w a n f) (hn : n ≤ 600) (hnc : n ≤ c) (hcm : c ≤ maxLen) (hf : ∀ i, i < n → 0 ≤ f i ∧ f i < 256) (hn2 : 2 ≤ n) (hk : dgK (dgN f) = false) : Calls Try.prog 9 #[.agg (diaC D), .slice a n c] w (RDo18 D n f w) := by
  have hE : dgE n f = 1 := by unfold dgE; rw [if_neg (by omega), if_pos hk]
  have HE := Lib.hid (And.intro (dg_err (D := D) (show dgE n f ≠ 0 by rw [hE]; decide)).1 (And.intro (dg_err (D := D) (show dgE n f ≠ 0 by rw [hE]; decide)).2.2 (And.intro (dg_err (D := D) (show dgE n f ≠ 0 by rw [hE]; decide)).2.1 hE)))
  obtain ⟨W2, hW2, RB⟩ := R18.begin w D
  have h0 := hf 0 (by omega)
  have h1 := hf 1 (by omega)
  have hk0 : 0 ≤ f 0 * 256 + f 1 := by omega
  have hk1 : f 0 * 256 + f 1 < 65536 := by omega
  have KA := Lib.hid (fun W (x : Ext w W) => rat_some a n c 0 f W (ha.ext x) (by omega) (by omega) hf)
  have h2 : ¬ (n : Int) < 2 := by omega
  have hcv : IntKind.i64.wrap (f 0 * 256 + f 1) = f 0 * 256 + f 1 := IntWalk.i64_in _ (by omega)
  have KK := Lib.hid (fun W => rknown18_v (k := f 0 * 256 + f 1) hk W)
  generalize f 0 * 256 + f 1 = k at KA KK hcv hk0 hk1
  clear hE hk h0 h1 hn2 ha hf hk0 hk1
  go_enter Try.func9, Try.ntmps9
  go_upto_region 1 with fail
  rw [← hW2]
  clear hW2
  go_upto_region 4 with (first
    | (go_at_call 27; refine (KA.out _ RB.x).mono ?_; rintro e w3 ⟨rfl, q3, e3⟩; have RB := RB.ext (Ext.of_drewN ⟨q3, e3⟩); clear e3))
  go_upto_region 6 with (first
    | (go_at_call 28; refine (KK.out _).mono ?_; rintro e w4 ⟨rfl, e4⟩; rw [e4]; clear e4 w4))
  go_wp2_with (first
    | (refine wpList_load_row rfl 29 (.tmp 2) rfl (w.heap.size) rfl 29 _ (0, 0) _ RB.b2 Try.underlying29 rfl (by kernel_rfl) ?_)
    | (refine wpList_store_row rfl 29 (.tmp 4) (.tmp 29) rfl (w.heap.size + 1) _ rfl rfl 29 _ RB.b4 (by kernel_rfl) rfl (by simp [diaC, Value.oneCell']) ?_))
  refine bodyPost_ret (results_row_three _ _ (w.heap.size + 1) 29 _ (0, 0) _ rfl rfl (setRow_heap _ _ _ _ _ _ RB.b4) Try.underlying29 rfl (by kernel_rfl)) rfl ?_
  obtain ⟨e1, e2, e3, e4⟩ := HE.out
  unfold RDo18
  rw [e1, e2, e3, e4]
  exact ⟨none, 0, rfl, .inl rfl, below_setRow RB.x (by omega) _⟩
theorem R18.cell {w wr : World} {D : Dia} (h : R18 w wr D) {D' : Dia} (j : Nat) (v : Value) (hc : (diaC D).setIfInBounds j v = diaC D') : R18 w (wr.setCell ⟨w.heap.size, j, none⟩ v) D' :=
  ⟨Below.setCell h.x (Nat.le_refl _) _, by rw [← hc]; exact heap_setCell_same _ _ j _ _ v h.b2, (heap_setCell_other _ _ _ _ (by show w.heap.size + 1 ≠ w.heap.size; omega)).trans h.b4⟩
theorem wipe_row (D : Dia) : putRow (diaC D) 0 [.int .u16 0, .int .u16 0, .int .u16 0, .int .u16 0, .int .u16 0, .int .u16 0, .int .u16 0, .int .u16 0] = diaC { D with C := fun _ => 0 } := by simp only [putRow, diaC, List.setIfInBounds_toArray, List.set_cons_succ, List.set_cons_zero]
theorem R18.wipe {w wr : World} {D : Dia} (h : R18 w wr D) : R18 w (wr.setCells (w.heap.size) 0 [.int .u16 0, .int .u16 0, .int .u16 0, .int .u16 0, .int .u16 0, .int .u16 0, .int .u16 0, .int .u16 0]) { D with C := fun _ => 0 } :=
  ⟨below_setCells (Nat.le_refl _) _ _ _ h.x, by rw [← wipe_row]; exact heap_setCells _ _ _ _ _ _ h.b2, (heap_setCells_other _ _ (by omega) _ _ _).trans h.b4⟩
/-- At the end: the state's box is told. -/
theorem R18.done {w wr : World} {D : Dia} (h : R18 w wr D) : (wr.setRow (w.heap.size + 1) (diaC D)).heap[w.heap.size + 1]? = some (.cells (diaC D) 29 (0, 0)) ∧ Ext w (wr.setRow (w.heap.size + 1) (diaC D)) ∧ Keep (fun i => i = w.heap.size + 1) wr (wr.setRow (w.heap.size + 1) (diaC D)) :=
  ⟨setRow_heap _ _ _ _ _ _ h.b4, below_setRow h.x (by omega) _, ⟨rfl, rfl, rfl, by simp, fun k _ hn => setRow_other wr _ k _ hn⟩⟩
theorem told18 {w wr : World} {b : Option Addr} {m : Nat} {g : Nat → Int} (h : HoldsG (Value.int .u8) wr b m g) (hb : ∀ p, b = some p → p.block ≠ w.heap.size + 1) (cs : Array Value) : HoldsG (Value.int .u8) (wr.setRow (w.heap.size + 1) cs) b m g :=
  h.keep (F := fun i => i = w.heap.size + 1) ⟨rfl, rfl, rfl, by simp, fun k _ hn => setRow_other wr _ k _ hn⟩ (fun p hp e => hb p hp e)
theorem own_block {w : World} {base : Nat} {e : TypeId} {v : Value} {n : Nat} {xs : List Value} (h : w.ownsRow base e 1 v n xs) {b : Option Addr} {q : Nat} (hv : v = .slice b n q) (hn : n ≠ 0) : ∀ p, b = some p → base ≤ p.block := fun p hp => by
  obtain ⟨-, h2⟩ := h
  rcases h2 with ⟨h3, h4⟩ | ⟨g, cap, cur, h3, h4, -⟩
  · rw [hv] at h3; cases h3; cases hp
  · rw [hv, hp] at h3; cases h3; exact h4
/-- What a known number's walk has: the number, the bytes behind it. -/
structure Rest18 (a : Option Addr) (n : Nat) (f : Nat → Int) (w : World) (b off : Nat) : Prop where
  eq : a = some ⟨b, off, none⟩
  lt : b < w.heap.size
  holds : Holds .u8 w (some ⟨b, off + 2, none⟩) (n - 2) (fun i => f (2 + i))
theorem rest18 {a : Option Addr} {n : Nat} {f : Nat → Int} {w : World} (ha : Holds .u8 w a n f) (hn : 4 ≤ n) : ∃ b off, Rest18 a n f w b off := by
  obtain ⟨b, off, rfl, hlt, hc⟩ := ha.resolve_left (by omega)
  exact ⟨b, off, rfl, hlt, .inr ⟨b, off + 2, rfl, hlt, fun i hi => by rw [Nat.add_assoc]; exact hc (2 + i) (by omega)⟩⟩
set_option maxHeartbeats 8000000 in
theorem rdo18_few (D : Dia) (a : Option Addr) (n c : Nat) (f : Nat → Int) (w : World) (ha : Holds .u8 w a n f) (hn : n ≤ 600) (hnc : n ≤ c) (hcm : c ≤ maxLen) (hf : ∀ i, i < n → 0 ≤ f i ∧ f i < 256) (hn2 : 2 ≤ n) (hn4 : n < 4) (hk : dgK (dgN f) = true) : Calls Try.prog 9 #[.agg (diaC D), .slice a n c] w (RDo18 D n f w) := by
  have hR : dgR n f = false := by
    unfold dgR
    split
    · exact decide_eq_false (by omega)
    · exact decide_eq_false (by omega)
  have hE : dgE n f = 3 := by unfold dgE; rw [if_neg (by omega), if_neg (by rw [hk]; decide), if_neg (by rw [hR]; decide)]
  have HE := Lib.hid (And.intro (dg_err (D := D) (show dgE n f ≠ 0 by rw [hE]; decide)).1 (And.intro (dg_err (D := D) (show dgE n f ≠ 0 by rw [hE]; decide)).2.2 (And.intro (dg_err (D := D) (show dgE n f ≠ 0 by rw [hE]; decide)).2.1 hE)))
  obtain ⟨W2, hW2, RB⟩ := R18.begin w D
  have h0 := hf 0 (by omega)
  have h1 := hf 1 (by omega)
  have hk0 : 0 ≤ f 0 * 256 + f 1 := by omega
  have hk1 : f 0 * 256 + f 1 < 65536 := by omega
  have KA := Lib.hid (fun W (x : Ext w W) => rat_some a n c 0 f W (ha.ext x) (by omega) (by omega) hf)
  have h2 : ¬ (n : Int) < 2 := by omega
  have hcv : IntKind.i64.wrap (f 0 * 256 + f 1) = f 0 * 256 + f 1 := IntWalk.i64_in _ (by omega)
  have KK := Lib.hid (fun W => rknown18_v (k := f 0 * 256 + f 1) hk W)
  generalize f 0 * 256 + f 1 = k at KA KK hcv hk0 hk1
  obtain ⟨b, off, rfl, hlt, hc⟩ := ha.resolve_left (by omega)
  have KN := Lib.hid (fun a' m' c' W (hm : m' ≤ 1) => rat_none a' m' c' 0 W (by omega) (.inr (by omega)))
  have hcm' : (c : Int) ≤ 9223372036854775807 := by unfold maxLen at hcm; omega
  have hn23 : n = 2 ∨ n = 3 := by omega
  by_cases hk0' : k = 0
  · subst hk0'
    rcases hn23 with rfl | rfl
    · by_cases hc2 : c = 2
      · subst hc2
        clear hE hR hk h0 h1 hn2 hn4 ha hf hk0 hk1 hlt hc hn hnc hcm hcm'
        go_enter Try.func9, Try.ntmps9
        go_upto_region 1 with fail
        rw [← hW2]
        clear hW2
        go_upto_region 4 with (first
          | (go_at_call 27; refine (KA.out _ RB.x).mono ?_; rintro e w3 ⟨rfl, q3, e3⟩; have RB := RB.ext (Ext.of_drewN ⟨q3, e3⟩); clear e3))
        go_upto_region 7 with (first
          | (go_at_call 28; refine (KK.out _).mono ?_; rintro e w4 ⟨rfl, e4⟩; rw [e4]; clear e4 w4))
        go_upto_region 11 with (first
          | (go_at_call 27; refine (KN.out _ _ _ _ (by decide)).mono ?_; rintro e w5 ⟨rfl, e5⟩; rw [← e5]; clear e5 w5))
        go_wp2_with (first
          | (refine wpList_load_row rfl 29 (.tmp 2) rfl (w.heap.size) rfl 29 _ (0, 0) _ RB.b2 Try.underlying29 rfl (by kernel_rfl) ?_)
          | (refine wpList_store_row rfl 29 (.tmp 4) (.tmp 53) rfl (w.heap.size + 1) _ rfl rfl 29 _ RB.b4 (by kernel_rfl) rfl (by simp [diaC, Value.oneCell']) ?_))
        refine bodyPost_ret (results_row_three _ _ (w.heap.size + 1) 29 _ (0, 0) _ rfl rfl (setRow_heap _ _ _ _ _ _ RB.b4) Try.underlying29 rfl (by kernel_rfl)) rfl ?_
        obtain ⟨e1, e2, e3, e4⟩ := HE.out
        unfold RDo18
        rw [e1, e2, e3, e4]
        exact ⟨none, 0, rfl, .inl rfl, below_setRow RB.x (by omega) _⟩
      · clear hE hR hk h0 h1 hn2 hn4 ha hf hk0 hk1 hlt hc hn hcm
        go_enter Try.func9, Try.ntmps9
        go_upto_region 1 with fail
        rw [← hW2]
        clear hW2
        go_upto_region 4 with (first
          | (go_at_call 27; refine (KA.out _ RB.x).mono ?_; rintro e w3 ⟨rfl, q3, e3⟩; have RB := RB.ext (Ext.of_drewN ⟨q3, e3⟩); clear e3))
        go_upto_region 7 with (first
          | (go_at_call 28; refine (KK.out _).mono ?_; rintro e w4 ⟨rfl, e4⟩; rw [e4]; clear e4 w4))
        go_upto_region 11 with (first
          | (go_at_call 27; refine (KN.out _ _ _ _ (by decide)).mono ?_; rintro e w5 ⟨rfl, e5⟩; rw [← e5]; clear e5 w5))
        go_wp2_with (first
          | (refine wpList_load_row rfl 29 (.tmp 2) rfl (w.heap.size) rfl 29 _ (0, 0) _ RB.b2 Try.underlying29 rfl (by kernel_rfl) ?_)
          | (refine wpList_store_row rfl 29 (.tmp 4) (.tmp 53) rfl (w.heap.size + 1) _ rfl rfl 29 _ RB.b4 (by kernel_rfl) rfl (by simp [diaC, Value.oneCell']) ?_))
        refine bodyPost_ret (results_row_three _ _ (w.heap.size + 1) 29 _ (0, 0) _ rfl rfl (setRow_heap _ _ _ _ _ _ RB.b4) Try.underlying29 rfl (by kernel_rfl)) rfl ?_
        obtain ⟨e1, e2, e3, e4⟩ := HE.out
        unfold RDo18
        rw [e1, e2, e3, e4]
        exact ⟨none, 0, rfl, .inl rfl, below_setRow RB.x (by omega) _⟩
    · clear hE hR hk h0 h1 hn2 hn4 ha hf hk0 hk1 hlt hc hn hcm
      go_enter Try.func9, Try.ntmps9
      go_upto_region 1 with fail
      rw [← hW2]
      clear hW2
      go_upto_region 4 with (first
        | (go_at_call 27; refine (KA.out _ RB.x).mono ?_; rintro e w3 ⟨rfl, q3, e3⟩; have RB := RB.ext (Ext.of_drewN ⟨q3, e3⟩); clear e3))
      go_upto_region 7 with (first
        | (go_at_call 28; refine (KK.out _).mono ?_; rintro e w4 ⟨rfl, e4⟩; rw [e4]; clear e4 w4))
      go_upto_region 11 with (first
        | (go_at_call 27; refine (KN.out _ _ _ _ (by decide)).mono ?_; rintro e w5 ⟨rfl, e5⟩; rw [← e5]; clear e5 w5))
      go_wp2_with (first
        | (refine wpList_load_row rfl 29 (.tmp 2) rfl (w.heap.size) rfl 29 _ (0, 0) _ RB.b2 Try.underlying29 rfl (by kernel_rfl) ?_)
        | (refine wpList_store_row rfl 29 (.tmp 4) (.tmp 53) rfl (w.heap.size + 1) _ rfl rfl 29 _ RB.b4 (by kernel_rfl) rfl (by simp [diaC, Value.oneCell']) ?_))
      refine bodyPost_ret (results_row_three _ _ (w.heap.size + 1) 29 _ (0, 0) _ rfl rfl (setRow_heap _ _ _ _ _ _ RB.b4) Try.underlying29 rfl (by kernel_rfl)) rfl ?_
      obtain ⟨e1, e2, e3, e4⟩ := HE.out
      unfold RDo18
      rw [e1, e2, e3, e4]
      exact ⟨none, 0, rfl, .inl rfl, below_setRow RB.x (by omega) _⟩
  · have hkz : (k == 0) = false := by simp [hk0']
    rcases hn23 with rfl | rfl
    · by_cases hc2 : c = 2
      · subst hc2
        clear hE hR hk h0 h1 hn2 hn4 ha hf hk0 hk1 hlt hc hn hnc hcm hcm' hk0'
        go_enter Try.func9, Try.ntmps9
        go_upto_region 1 with fail
        rw [← hW2]
        clear hW2
        go_upto_region 4 with (first
          | (go_at_call 27; refine (KA.out _ RB.x).mono ?_; rintro e w3 ⟨rfl, q3, e3⟩; have RB := RB.ext (Ext.of_drewN ⟨q3, e3⟩); clear e3))
        go_upto_region 7 with (first
          | (go_at_call 28; refine (KK.out _).mono ?_; rintro e w4 ⟨rfl, e4⟩; rw [e4]; clear e4 w4))
        go_upto_region 14 with (first
          | (go_at_call 27; refine (KN.out _ _ _ _ (by decide)).mono ?_; rintro e w5 ⟨rfl, e5⟩; rw [← e5]; clear e5 w5))
        go_wp2_with (first
          | (refine wpList_load_row rfl 29 (.tmp 2) rfl (w.heap.size) rfl 29 _ (0, 0) _ RB.b2 Try.underlying29 rfl (by kernel_rfl) ?_)
          | (refine wpList_store_row rfl 29 (.tmp 4) (.tmp 94) rfl (w.heap.size + 1) _ rfl rfl 29 _ RB.b4 (by kernel_rfl) rfl (by simp [diaC, Value.oneCell']) ?_))
        refine bodyPost_ret (results_row_three _ _ (w.heap.size + 1) 29 _ (0, 0) _ rfl rfl (setRow_heap _ _ _ _ _ _ RB.b4) Try.underlying29 rfl (by kernel_rfl)) rfl ?_
        obtain ⟨e1, e2, e3, e4⟩ := HE.out
        unfold RDo18
        rw [e1, e2, e3, e4]
        exact ⟨none, 0, rfl, .inl rfl, below_setRow RB.x (by omega) _⟩
      · clear hE hR hk h0 h1 hn2 hn4 ha hf hk0 hk1 hlt hc hn hcm hk0'
        go_enter Try.func9, Try.ntmps9
        go_upto_region 1 with fail
        rw [← hW2]
        clear hW2
        go_upto_region 4 with (first
          | (go_at_call 27; refine (KA.out _ RB.x).mono ?_; rintro e w3 ⟨rfl, q3, e3⟩; have RB := RB.ext (Ext.of_drewN ⟨q3, e3⟩); clear e3))
        go_upto_region 7 with (first
          | (go_at_call 28; refine (KK.out _).mono ?_; rintro e w4 ⟨rfl, e4⟩; rw [e4]; clear e4 w4))
        go_upto_region 14 with (first
          | (go_at_call 27; refine (KN.out _ _ _ _ (by decide)).mono ?_; rintro e w5 ⟨rfl, e5⟩; rw [← e5]; clear e5 w5))
        go_wp2_with (first
          | (refine wpList_load_row rfl 29 (.tmp 2) rfl (w.heap.size) rfl 29 _ (0, 0) _ RB.b2 Try.underlying29 rfl (by kernel_rfl) ?_)
          | (refine wpList_store_row rfl 29 (.tmp 4) (.tmp 94) rfl (w.heap.size + 1) _ rfl rfl 29 _ RB.b4 (by kernel_rfl) rfl (by simp [diaC, Value.oneCell']) ?_))
        refine bodyPost_ret (results_row_three _ _ (w.heap.size + 1) 29 _ (0, 0) _ rfl rfl (setRow_heap _ _ _ _ _ _ RB.b4) Try.underlying29 rfl (by kernel_rfl)) rfl ?_
        obtain ⟨e1, e2, e3, e4⟩ := HE.out
        unfold RDo18
        rw [e1, e2, e3, e4]
        exact ⟨none, 0, rfl, .inl rfl, below_setRow RB.x (by omega) _⟩
    · clear hE hR hk h0 h1 hn2 hn4 ha hf hk0 hk1 hlt hc hn hcm hk0'
      go_enter Try.func9, Try.ntmps9
      go_upto_region 1 with fail
      rw [← hW2]
      clear hW2
      go_upto_region 4 with (first
        | (go_at_call 27; refine (KA.out _ RB.x).mono ?_; rintro e w3 ⟨rfl, q3, e3⟩; have RB := RB.ext (Ext.of_drewN ⟨q3, e3⟩); clear e3))
      go_upto_region 7 with (first
        | (go_at_call 28; refine (KK.out _).mono ?_; rintro e w4 ⟨rfl, e4⟩; rw [e4]; clear e4 w4))
      go_upto_region 14 with (first
        | (go_at_call 27; refine (KN.out _ _ _ _ (by decide)).mono ?_; rintro e w5 ⟨rfl, e5⟩; rw [← e5]; clear e5 w5))
      go_wp2_with (first
        | (refine wpList_load_row rfl 29 (.tmp 2) rfl (w.heap.size) rfl 29 _ (0, 0) _ RB.b2 Try.underlying29 rfl (by kernel_rfl) ?_)
        | (refine wpList_store_row rfl 29 (.tmp 4) (.tmp 94) rfl (w.heap.size + 1) _ rfl rfl 29 _ RB.b4 (by kernel_rfl) rfl (by simp [diaC, Value.oneCell']) ?_))
      refine bodyPost_ret (results_row_three _ _ (w.heap.size + 1) 29 _ (0, 0) _ rfl rfl (setRow_heap _ _ _ _ _ _ RB.b4) Try.underlying29 rfl (by kernel_rfl)) rfl ?_
      obtain ⟨e1, e2, e3, e4⟩ := HE.out
      unfold RDo18
      rw [e1, e2, e3, e4]
      exact ⟨none, 0, rfl, .inl rfl, below_setRow RB.x (by omega) _⟩
theorem good18_0 {D : Dia} {n : Nat} {f : Nat → Int} (hE : dgE n f = 0) (hk : dgN f = 0) : dgD D n f = D ∧ dgM n f = n ∧ dgW n f = 0 ∧ dgE n f = 0 ∧ dgB D f = f := by
  refine ⟨?_, ?_, ?_, hE, ?_⟩
  · unfold dgD; rw [if_neg (by rw [hE]; decide), if_neg (by omega), if_neg (by omega), if_neg (by omega), if_neg (by omega), if_neg (by omega)]
  · unfold dgM; rw [if_neg (by rw [hE, hk]; decide)]
  · unfold dgW; rw [if_neg (by rw [hE]; decide), if_neg (by omega), if_neg (by omega)]
  · funext i; unfold dgB; rw [if_neg (by omega)]
set_option maxHeartbeats 8000000 in
theorem rdo18_0 (D : Dia) (a : Option Addr) (n c : Nat) (f : Nat → Int) (w : World) (ha : Holds .u8 w a n f) (hn : n ≤ 600) (hnc : n ≤ c) (hcm : c ≤ maxLen) (hf : ∀ i, i < n → 0 ≤ f i ∧ f i < 256) (hn4 : 4 ≤ n) (hkN : dgN f = 0) : Calls Try.prog 9 #[.agg (diaC D), .slice a n c] w (RDo18 D n f w) := by
  have hk : dgK (dgN f) = true := by rw [hkN]; decide
  have hRR : dgR n f = decide (4 ≤ n ∧ n ≤ 252 ∧ n % 2 = 0) := by unfold dgR; rw [if_pos hkN]
  obtain ⟨W2, hW2, RB⟩ := R18.begin w D
  have h0 := hf 0 (by omega)
  have h1 := hf 1 (by omega)
  have hk0 : 0 ≤ f 0 * 256 + f 1 := by omega
  have hk1 : f 0 * 256 + f 1 < 65536 := by omega
  have KA := Lib.hid (fun W (x : Ext w W) => rat_some a n c 0 f W (ha.ext x) (by omega) (by omega) hf)
  have h2 : ¬ (n : Int) < 2 := by omega
  have hcv : IntKind.i64.wrap (f 0 * 256 + f 1) = f 0 * 256 + f 1 := IntWalk.i64_in _ (by omega)
  have KK := Lib.hid (fun W => rknown18_v (k := f 0 * 256 + f 1) hk W)
  have h4I : (4 : Int) ≤ n := by omega
  have hncI : (n : Int) ≤ c := by omega
  have hcm' : (c : Int) ≤ 9223372036854775807 := by unfold maxLen at hcm; omega
  obtain ⟨b, off, hr⟩ := rest18 ha hn4
  obtain rfl := hr.eq
  have KB := Lib.hid (fun W (x : Ext w W) => rat_some (some ⟨b, off + 2, none⟩) (n - 2) (c - 2) 0 (fun i => f (2 + i)) W (hr.holds.ext x) (by omega) (by omega) (fun i hi => hf (2 + i) (by omega)))
  have hz : f 0 * 256 + f 1 = 0 := hkN
  rw [hz] at KA KK hcv
  obtain ⟨m, hm⟩ : ∃ m, n - 2 = m := ⟨_, rfl⟩
  have hmI : (m : Int) = n - 2 := by omega
  by_cases hbig : 252 < n
  · have hE : dgE n f = 3 := by unfold dgE; rw [if_neg (by omega), if_neg (by rw [hk]; decide), hRR, decide_eq_false (by omega), if_neg (by decide)]
    have HE := Lib.hid (And.intro (dg_err (D := D) (show dgE n f ≠ 0 by rw [hE]; decide)).1 (And.intro (dg_err (D := D) (show dgE n f ≠ 0 by rw [hE]; decide)).2.2 (And.intro (dg_err (D := D) (show dgE n f ≠ 0 by rw [hE]; decide)).2.1 hE)))
    have m1 : ¬ (m : Int) < 2 := by omega
    have m2 : (250 : Int) < m := by omega
    have HM := Lib.hid hm
    clear hE hRR hk hkN hk0 hz hk1 h0 h1 ha hf hr hn hn4 hbig hm hmI hnc hcm
    go_enter Try.func9, Try.ntmps9
    go_upto_region 1 with fail
    rw [← hW2]
    clear hW2
    go_upto_region 4 with (first
      | (go_at_call 27; refine (KA.out _ RB.x).mono ?_; rintro e w3 ⟨rfl, q3, e3⟩; have RB := RB.ext (Ext.of_drewN ⟨q3, e3⟩); clear e3))
    go_upto_region 7 with (first
      | (go_at_call 28; refine (KK.out _).mono ?_; rintro e w4 ⟨rfl, e4⟩; rw [e4]; clear e4 w4))
    go_upto_region 9 with (first
      | (go_at_call 27; refine (KB.out _ RB.x).mono ?_; rintro e w5 ⟨rfl, q5, e5⟩; have RB := RB.ext (Ext.of_drewN ⟨q5, e5⟩); clear e5))
    rw [HM.out]
    go_wp2_with (first
      | (refine wpList_load_row rfl 29 (.tmp 2) rfl (w.heap.size) rfl 29 _ (0, 0) _ RB.b2 Try.underlying29 rfl (by kernel_rfl) ?_)
      | (refine wpList_store_row rfl 29 (.tmp 4) (.tmp 53) rfl (w.heap.size + 1) _ rfl rfl 29 _ RB.b4 (by kernel_rfl) rfl (by simp [diaC, Value.oneCell']) ?_))
    refine bodyPost_ret (results_row_three _ _ (w.heap.size + 1) 29 _ (0, 0) _ rfl rfl (setRow_heap _ _ _ _ _ _ RB.b4) Try.underlying29 rfl (by kernel_rfl)) rfl ?_
    obtain ⟨e1, e2, e3, e4⟩ := HE.out
    unfold RDo18
    rw [e1, e2, e3, e4]
    exact ⟨none, 0, rfl, .inl rfl, below_setRow RB.x (by omega) _⟩
  · by_cases hodd : n % 2 = 0
    · have hE : dgE n f = 0 := by unfold dgE; rw [if_neg (by omega), if_neg (by rw [hk]; decide), hRR, decide_eq_true (by omega), if_pos rfl]
      have HE := Lib.hid (good18_0 (D := D) hE hkN)
      have m1 : ¬ (m : Int) < 2 := by omega
      have m2 : ¬ (250 : Int) < m := by omega
      have m3 : (m : Int).tmod 2 = 0 := by rw [Int.tmod_eq_emod_of_nonneg (by omega)]; omega
      have HM := Lib.hid hm
      have HA := Lib.hid (fun W (x : Ext w W) => ha.ext x)
      have hn600 := hn
      obtain ⟨i8, hi8, hz80, hz81, hz82⟩ := info_parts Try.info8
      have hn1 : n ≠ 0 := by omega
      clear hE hRR hk hkN hk0 hz hk1 h0 h1 ha hf hr hn4 hbig hm hmI hodd hn
      go_enter Try.func9, Try.ntmps9
      go_upto_region 1 with fail
      rw [← hW2]
      clear hW2
      go_upto_region 4 with (first
        | (go_at_call 27; refine (KA.out _ RB.x).mono ?_; rintro e w3 ⟨rfl, q3, e3⟩; have RB := RB.ext (Ext.of_drewN ⟨q3, e3⟩); clear e3))
      go_upto_region 7 with (first
        | (go_at_call 28; refine (KK.out _).mono ?_; rintro e w4 ⟨rfl, e4⟩; rw [e4]; clear e4 w4))
      go_upto_region 9 with (first
        | (go_at_call 27; refine (KB.out _ RB.x).mono ?_; rintro e w5 ⟨rfl, q5, e5⟩; have RB := RB.ext (Ext.of_drewN ⟨q5, e5⟩); clear e5))
      rw [HM.out]
      go_upto_region 12 with fail
      clear m1 m2 m3 h2 h4I hncI hcm' KA KK KB hcv
      have hd : Ext w5 w5.drew := Ext.drew w5
      have HS := Lib.hid (fun W (hW : Keep (fun i => i = w.heap.size + 1) w5 W) => (hW.block _ (heap_lt RB.b2) (by omega)).trans RB.b2)
      have hs : Keep (fun i => i = w.heap.size + 1) w5 w5.drew := Keep.of_ext hd
      refine wp_region_held_drew (S := fun W => Keep (fun i => i = w.heap.size + 1) w5 W) (by kernel_rfl) hs (fun _ => ?_)
      refine wpAnyH_takeD (i := 0) (d := 54) rfl rfl (by kernel_rfl) (by kernel_rfl) (by kernel_rfl) (fun _ _ _ h => h) (yieldsIf_load_row (by rfl) 29 (.tmp 2) rfl (w.heap.size) rfl 29 _ (0, 0) _ (fun w' hw' => HS.out _ hw') Try.underlying29 rfl (by kernel_rfl)) hs ?_
      simp only [Act.put, List.setIfInBounds_toArray, List.set_cons_succ, List.set_cons_zero]
      refine wpAnyH_takeD (i := 2) (d := 56) (v := .slice (some ⟨b, off, none⟩) n c) rfl rfl (by kernel_rfl) (by kernel_rfl) (by kernel_rfl) (fun _ _ _ h => h) (Or.inl ⟨by rfl, fun W hW => by go_simp⟩) hs ?_
      simp only [Act.put, List.setIfInBounds_toArray, List.set_cons_succ, List.set_cons_zero]
      refine wpAnyH_ready (rs := [1]) (by kernel_rfl) (by simp) (AllReadyH.cons rfl (fun K hK => ?_) AllReadyH.nil)
      go_simp
      refine hK.out _ _ (Keep.of_ext (hd.trans (Ext.alloc _ _))) (fun hs => ?_)
      clear hK K
      refine wpAnyH_ready (rs := [3]) (by kernel_rfl) (by simp) (AllReadyH.cons rfl (fun K hK => ?_) AllReadyH.nil)
      refine step_appendM rfl (.tmp 55) (.tmp 56) 31 rfl w5.heap.size 5 i8 (.int .u8 0) 1 Try.underlying31 hi8 hz80 hz81 hz82 rfl _ 0 [] (by rfl) (own_empty (heap_alloc_new w5.drew _) hd.size) (some ⟨b, off, none⟩) n c f (by rfl) (HA.out _ ((RB.x.trans hd).trans (Ext.alloc _ _))) (fun _ => rfl) (by unfold maxLen; omega) (by omega) (Nat.le_trans hd.size (by simp)) 57 rfl ?_
      intro v7 w7 hown7 hb7
      have x7 : Ext w5 w7 := Below.trans (hd.trans (Ext.alloc _ _)) hb7
      rw [Nat.zero_add, List.nil_append] at hown7
      obtain ⟨b7, d7, hv7, l7, m7, h7⟩ := HoldsG.of_own (mk := Value.int .u8) hown7
      have o7 : ∀ p, b7 = some p → p.block ≠ w.heap.size + 1 := fun p hp => by have := own_block hown7 hv7 hn1 p hp; have := heap_lt RB.b4; omega
      subst hv7
      refine hK.out _ _ (Keep.of_ext x7) (fun hs => ?_)
      clear hK K hown7 hb7
      simp only [Act.put, List.setIfInBounds_toArray, List.set_cons_succ, List.set_cons_zero]
      refine wpAnyH_ready (rs := [4]) (by kernel_rfl) (by simp) (AllReadyH.cons rfl (fun K hK => ?_) AllReadyH.nil)
      refine step_store_row rfl 29 (.tmp 4) (.tmp 54) rfl (w.heap.size + 1) _ rfl rfl 29 _ (x7.block RB.b4) (by kernel_rfl) rfl (by simp [diaC, Value.oneCell']) rfl ?_
      refine hK.out _ _ (hs.trans (by exact ⟨rfl, rfl, rfl, by simp, fun k _ hn => setRow_other _ _ k _ hn⟩) (fun i hi => .inl hi)) (fun hs => ?_)
      clear hK K
      simp only [Act.put]
      refine wpAnyH_takeD (i := 5) (d := 5) (v := .slice b7 n d7) rfl rfl (by kernel_rfl) (by kernel_rfl) (by kernel_rfl) (fun _ _ _ h => h) (Or.inl ⟨by rfl, fun W hW => by go_simp⟩) hs ?_
      simp only [Act.put, List.setIfInBounds_toArray, List.set_cons_succ, List.set_cons_zero]
      refine wpAnyH_takeD (i := 6) (d := 6) (v := .int .i64 0) rfl rfl (by kernel_rfl) (by kernel_rfl) (by kernel_rfl) (fun _ _ _ h => h) (Or.inl ⟨by rfl, fun W hW => by go_simp⟩) hs ?_
      simp only [Act.put, List.setIfInBounds_toArray, List.set_cons_succ, List.set_cons_zero]
      refine wpAnyH_takeD (i := 7) (d := 7) (v := .int .i64 0) rfl rfl (by kernel_rfl) (by kernel_rfl) (by kernel_rfl) (fun _ _ _ h => h) (Or.inl ⟨by rfl, fun W hW => by go_simp⟩) hs ?_
      simp only [Act.put, List.setIfInBounds_toArray, List.set_cons_succ, List.set_cons_zero]
      refine wpAnyH_done (by kernel_rfl) ?_ _
      go_wp2_with fail
      refine bodyPost_ret (results_row_three _ _ (w.heap.size + 1) 29 _ (0, 0) _ rfl rfl (setRow_heap _ _ _ _ _ _ (x7.block RB.b4)) Try.underlying29 rfl (by kernel_rfl)) rfl ?_
      obtain ⟨e1, e2, e3, e4, e5⟩ := HE.out
      unfold RDo18
      rw [e1, e2, e3, e4, e5]
      exact ⟨b7, d7, rfl, told18 h7 o7 _, below_setRow (RB.x.trans x7) (by omega) _⟩
    · have hE : dgE n f = 3 := by unfold dgE; rw [if_neg (by omega), if_neg (by rw [hk]; decide), hRR, decide_eq_false (by omega), if_neg (by decide)]
      have HE := Lib.hid (And.intro (dg_err (D := D) (show dgE n f ≠ 0 by rw [hE]; decide)).1 (And.intro (dg_err (D := D) (show dgE n f ≠ 0 by rw [hE]; decide)).2.2 (And.intro (dg_err (D := D) (show dgE n f ≠ 0 by rw [hE]; decide)).2.1 hE)))
      have m1 : ¬ (m : Int) < 2 := by omega
      have m2 : ¬ (250 : Int) < m := by omega
      have m3 : (m : Int).tmod 2 = 1 := by rw [Int.tmod_eq_emod_of_nonneg (by omega)]; omega
      have HM := Lib.hid hm
      clear hE hRR hk hkN hk0 hz hk1 h0 h1 ha hf hr hn hn4 hbig hm hmI hnc hcm hodd
      go_enter Try.func9, Try.ntmps9
      go_upto_region 1 with fail
      rw [← hW2]
      clear hW2
      go_upto_region 4 with (first
        | (go_at_call 27; refine (KA.out _ RB.x).mono ?_; rintro e w3 ⟨rfl, q3, e3⟩; have RB := RB.ext (Ext.of_drewN ⟨q3, e3⟩); clear e3))
      go_upto_region 7 with (first
        | (go_at_call 28; refine (KK.out _).mono ?_; rintro e w4 ⟨rfl, e4⟩; rw [e4]; clear e4 w4))
      go_upto_region 9 with (first
        | (go_at_call 27; refine (KB.out _ RB.x).mono ?_; rintro e w5 ⟨rfl, q5, e5⟩; have RB := RB.ext (Ext.of_drewN ⟨q5, e5⟩); clear e5))
      rw [HM.out]
      go_wp2_with (first
        | (refine wpList_load_row rfl 29 (.tmp 2) rfl (w.heap.size) rfl 29 _ (0, 0) _ RB.b2 Try.underlying29 rfl (by kernel_rfl) ?_)
        | (refine wpList_store_row rfl 29 (.tmp 4) (.tmp 53) rfl (w.heap.size + 1) _ rfl rfl 29 _ RB.b4 (by kernel_rfl) rfl (by simp [diaC, Value.oneCell']) ?_))
      refine bodyPost_ret (results_row_three _ _ (w.heap.size + 1) 29 _ (0, 0) _ rfl rfl (setRow_heap _ _ _ _ _ _ RB.b4) Try.underlying29 rfl (by kernel_rfl)) rfl ?_
      obtain ⟨e1, e2, e3, e4⟩ := HE.out
      unfold RDo18
      rw [e1, e2, e3, e4]
      exact ⟨none, 0, rfl, .inl rfl, below_setRow RB.x (by omega) _⟩
set_option maxHeartbeats 8000000 in
theorem rdo18_many (D : Dia) (a : Option Addr) (n c : Nat) (f : Nat → Int) (w : World) (ha : Holds .u8 w a n f) (hn : n ≤ 600) (hnc : n ≤ c) (hcm : c ≤ maxLen) (hf : ∀ i, i < n → 0 ≤ f i ∧ f i < 256) (hn4 : 5 ≤ n) (hk : dgK (dgN f) = true) (hkN : dgN f ≠ 0) : Calls Try.prog 9 #[.agg (diaC D), .slice a n c] w (RDo18 D n f w) := by
  have hR : dgR n f = false := by unfold dgR; rw [if_neg hkN]; exact decide_eq_false (by omega)
  have hE : dgE n f = 3 := by unfold dgE; rw [if_neg (by omega), if_neg (by rw [hk]; decide), if_neg (by rw [hR]; decide)]
  have HE := Lib.hid (And.intro (dg_err (D := D) (show dgE n f ≠ 0 by rw [hE]; decide)).1 (And.intro (dg_err (D := D) (show dgE n f ≠ 0 by rw [hE]; decide)).2.2 (And.intro (dg_err (D := D) (show dgE n f ≠ 0 by rw [hE]; decide)).2.1 hE)))
  have hn4' := hn4
  have hn4 : 4 ≤ n := by omega
  obtain ⟨W2, hW2, RB⟩ := R18.begin w D
  have h0 := hf 0 (by omega)
  have h1 := hf 1 (by omega)
  have hk0 : 0 ≤ f 0 * 256 + f 1 := by omega
  have hk1 : f 0 * 256 + f 1 < 65536 := by omega
  have KA := Lib.hid (fun W (x : Ext w W) => rat_some a n c 0 f W (ha.ext x) (by omega) (by omega) hf)
  have h2 : ¬ (n : Int) < 2 := by omega
  have hcv : IntKind.i64.wrap (f 0 * 256 + f 1) = f 0 * 256 + f 1 := IntWalk.i64_in _ (by omega)
  have KK := Lib.hid (fun W => rknown18_v (k := f 0 * 256 + f 1) hk W)
  have h4I : (4 : Int) ≤ n := by omega
  have hncI : (n : Int) ≤ c := by omega
  have hcm' : (c : Int) ≤ 9223372036854775807 := by unfold maxLen at hcm; omega
  obtain ⟨b, off, hr⟩ := rest18 ha hn4
  obtain rfl := hr.eq
  have KB := Lib.hid (fun W (x : Ext w W) => rat_some (some ⟨b, off + 2, none⟩) (n - 2) (c - 2) 0 (fun i => f (2 + i)) W (hr.holds.ext x) (by omega) (by omega) (fun i hi => hf (2 + i) (by omega)))
  have hkz : (f 0 * 256 + f 1 == 0) = false := by have h : f 0 * 256 + f 1 ≠ 0 := hkN; simpa using h
  generalize f 0 * 256 + f 1 = k at KA KK hcv hk0 hk1 hkz
  obtain ⟨m, hm⟩ : ∃ m, n - 2 = m := ⟨_, rfl⟩
  have m1 : ((m : Int) != 2) = true := by simp; omega
  have HM := Lib.hid hm
  clear hE hR hk hkN hk0 hk1 h0 h1 ha hf hr hn hn4 hm hnc hcm hn4'
  go_enter Try.func9, Try.ntmps9
  go_upto_region 1 with fail
  rw [← hW2]
  clear hW2
  go_upto_region 4 with (first
    | (go_at_call 27; refine (KA.out _ RB.x).mono ?_; rintro e w3 ⟨rfl, q3, e3⟩; have RB := RB.ext (Ext.of_drewN ⟨q3, e3⟩); clear e3))
  go_upto_region 7 with (first
    | (go_at_call 28; refine (KK.out _).mono ?_; rintro e w4 ⟨rfl, e4⟩; rw [e4]; clear e4 w4))
  go_upto_region 9 with (first
    | (go_at_call 27; refine (KB.out _ RB.x).mono ?_; rintro e w5 ⟨rfl, q5, e5⟩; have RB := RB.ext (Ext.of_drewN ⟨q5, e5⟩); clear e5))
  rw [HM.out]
  go_wp2_with (first
    | (refine wpList_load_row rfl 29 (.tmp 2) rfl (w.heap.size) rfl 29 _ (0, 0) _ RB.b2 Try.underlying29 rfl (by kernel_rfl) ?_)
    | (refine wpList_store_row rfl 29 (.tmp 4) (.tmp 94) rfl (w.heap.size + 1) _ rfl rfl 29 _ RB.b4 (by kernel_rfl) rfl (by simp [diaC, Value.oneCell']) ?_))
  refine bodyPost_ret (results_row_three _ _ (w.heap.size + 1) 29 _ (0, 0) _ rfl rfl (setRow_heap _ _ _ _ _ _ RB.b4) Try.underlying29 rfl (by kernel_rfl)) rfl ?_
  obtain ⟨e1, e2, e3, e4⟩ := HE.out
  unfold RDo18
  rw [e1, e2, e3, e4]
  exact ⟨none, 0, rfl, .inl rfl, below_setRow RB.x (by omega) _⟩
set_option maxHeartbeats 8000000 in
theorem rdo18_bad1 (D : Dia) (a : Option Addr) (c : Nat) (f : Nat → Int) (w : World) (ha : Holds .u8 w a 4 f) (hnc : 4 ≤ c) (hcm : c ≤ maxLen) (hf : ∀ i, i < 4 → 0 ≤ f i ∧ f i < 256) (hk : dgK (dgN f) = true) (hkN : dgN f = 1) (hv0 : dgV f ≠ 0) (hv1 : dgV f ≠ 65280) : Calls Try.prog 9 #[.agg (diaC D), .slice a 4 c] w (RDo18 D 4 f w) := by
  have hkn0 : dgN f ≠ 0 := by omega
  have hR : dgR 4 f = false := by unfold dgR; rw [if_neg hkn0]; exact decide_eq_false (fun h => by obtain ⟨-, h1, -, -⟩ := h; rcases h1 hkN with e | e; exact hv0 e; exact hv1 e)
  have hE : dgE 4 f = 3 := by unfold dgE; rw [if_neg (by omega), if_neg (by rw [hk]; decide), hR]; rfl
  have HE := Lib.hid (And.intro (dg_err (D := D) (show dgE 4 f ≠ 0 by rw [hE]; decide)).1 (And.intro (dg_err (D := D) (show dgE 4 f ≠ 0 by rw [hE]; decide)).2.2 (And.intro (dg_err (D := D) (show dgE 4 f ≠ 0 by rw [hE]; decide)).2.1 hE)))
  obtain ⟨W2, hW2, RB⟩ := R18.begin w D
  have h0 := hf 0 (by omega)
  have h1 := hf 1 (by omega)
  have hk0 : 0 ≤ f 0 * 256 + f 1 := by omega
  have hk1 : f 0 * 256 + f 1 < 65536 := by omega
  have KA := Lib.hid (fun W (x : Ext w W) => rat_some a 4 c 0 f W (ha.ext x) (by omega) (by omega) hf)
  have hcv : IntKind.i64.wrap (f 0 * 256 + f 1) = f 0 * 256 + f 1 := IntWalk.i64_in _ (by omega)
  have KK := Lib.hid (fun W => rknown18_v (k := f 0 * 256 + f 1) hk W)
  have hncI : (4 : Int) ≤ c := by omega
  have hcm' : (c : Int) ≤ 9223372036854775807 := by unfold maxLen at hcm; omega
  obtain ⟨b, off, hr⟩ := rest18 ha (Nat.le_refl 4)
  obtain rfl := hr.eq
  have g2 := hf 2 (by omega)
  have g3 := hf 3 (by omega)
  have KB := Lib.hid (fun W (x : Ext w W) => rat_some (some ⟨b, off + 2, none⟩) 2 (c - 2) 0 (fun i => f (2 + i)) W (hr.holds.ext x) (by omega) (by omega) (fun i hi => hf (2 + i) (by omega)))
  have hv : dgV f = f (2 + 0) * 256 + f (2 + (0 + 1)) := rfl
  have hz : f 0 * 256 + f 1 = 1 := hkN
  rw [hz] at KA KK hcv
  rw [hv] at hv0 hv1
  have q1 : (f (2 + 0) * 256 + f (2 + (0 + 1)) != 0) = true := by simpa using hv0
  have q2 : (f (2 + 0) * 256 + f (2 + (0 + 1)) != 65280) = true := by simpa using hv1
  generalize f (2 + 0) * 256 + f (2 + (0 + 1)) = v at *
  clear hE hR hkn0 hk hk0 hk1 h0 h1 ha hf hr hnc hcm g2 g3 hkN hv0 hv1 hv hz
  go_enter Try.func9, Try.ntmps9
  go_upto_region 1 with fail
  rw [← hW2]
  clear hW2
  go_upto_region 4 with (first
    | (go_at_call 27; refine (KA.out _ RB.x).mono ?_; rintro e w3 ⟨rfl, q3, e3⟩; have RB := RB.ext (Ext.of_drewN ⟨q3, e3⟩); clear e3))
  go_upto_region 7 with (first
    | (go_at_call 28; refine (KK.out _).mono ?_; rintro e w4 ⟨rfl, e4⟩; rw [e4]; clear e4 w4))
  go_upto_region 9 with (first
    | (go_at_call 27; refine (KB.out _ RB.x).mono ?_; rintro e w5 ⟨rfl, q5, e5⟩; have RB := RB.ext (Ext.of_drewN ⟨q5, e5⟩); clear e5))
  go_wp2_with (first
    | (refine wpList_load_row rfl 29 (.tmp 2) rfl (w.heap.size) rfl 29 _ (0, 0) _ RB.b2 Try.underlying29 rfl (by kernel_rfl) ?_)
    | (refine wpList_store_row rfl 29 (.tmp 4) (.tmp 94) rfl (w.heap.size + 1) _ rfl rfl 29 _ RB.b4 (by kernel_rfl) rfl (by simp [diaC, Value.oneCell']) ?_))
  refine bodyPost_ret (results_row_three _ _ (w.heap.size + 1) 29 _ (0, 0) _ rfl rfl (setRow_heap _ _ _ _ _ _ RB.b4) Try.underlying29 rfl (by kernel_rfl)) rfl ?_
  obtain ⟨e1, e2, e3, e4⟩ := HE.out
  unfold RDo18
  rw [e1, e2, e3, e4]
  exact ⟨none, 0, rfl, .inl rfl, below_setRow RB.x (by omega) _⟩
set_option maxHeartbeats 8000000 in
theorem rdo18_bad3 (D : Dia) (a : Option Addr) (c : Nat) (f : Nat → Int) (w : World) (ha : Holds .u8 w a 4 f) (hnc : 4 ≤ c) (hcm : c ≤ maxLen) (hf : ∀ i, i < 4 → 0 ≤ f i ∧ f i < 256) (hk : dgK (dgN f) = true) (hkN : dgN f = 3) (hv0 : f 3 ≠ 0) : Calls Try.prog 9 #[.agg (diaC D), .slice a 4 c] w (RDo18 D 4 f w) := by
  have hkn0 : dgN f ≠ 0 := by omega
  have hR : dgR 4 f = false := by unfold dgR; rw [if_neg hkn0]; exact decide_eq_false (fun h => by obtain ⟨-, -, h2, -⟩ := h; exact hv0 (h2 hkN))
  have hE : dgE 4 f = 3 := by unfold dgE; rw [if_neg (by omega), if_neg (by rw [hk]; decide), hR]; rfl
  have HE := Lib.hid (And.intro (dg_err (D := D) (show dgE 4 f ≠ 0 by rw [hE]; decide)).1 (And.intro (dg_err (D := D) (show dgE 4 f ≠ 0 by rw [hE]; decide)).2.2 (And.intro (dg_err (D := D) (show dgE 4 f ≠ 0 by rw [hE]; decide)).2.1 hE)))
  obtain ⟨W2, hW2, RB⟩ := R18.begin w D
  have h0 := hf 0 (by omega)
  have h1 := hf 1 (by omega)
  have hk0 : 0 ≤ f 0 * 256 + f 1 := by omega
  have hk1 : f 0 * 256 + f 1 < 65536 := by omega
  have KA := Lib.hid (fun W (x : Ext w W) => rat_some a 4 c 0 f W (ha.ext x) (by omega) (by omega) hf)
  have hcv : IntKind.i64.wrap (f 0 * 256 + f 1) = f 0 * 256 + f 1 := IntWalk.i64_in _ (by omega)
  have KK := Lib.hid (fun W => rknown18_v (k := f 0 * 256 + f 1) hk W)
  have hncI : (4 : Int) ≤ c := by omega
  have hcm' : (c : Int) ≤ 9223372036854775807 := by unfold maxLen at hcm; omega
  obtain ⟨b, off, hr⟩ := rest18 ha (Nat.le_refl 4)
  obtain rfl := hr.eq
  have g2 := hf 2 (by omega)
  have g3 := hf 3 (by omega)
  have KB := Lib.hid (fun W (x : Ext w W) => rat_some (some ⟨b, off + 2, none⟩) 2 (c - 2) 0 (fun i => f (2 + i)) W (hr.holds.ext x) (by omega) (by omega) (fun i hi => hf (2 + i) (by omega)))
  have hz : f 0 * 256 + f 1 = 3 := hkN
  rw [hz] at KA KK hcv
  have q1 : (f (2 + 0) * 256 + f (2 + (0 + 1))).tmod 256 = f 3 := by rw [Int.tmod_eq_emod_of_nonneg (by show 0 ≤ f 2 * 256 + f 3; omega)]; show (f 2 * 256 + f 3) % 256 = f 3; omega
  have q2 : IntKind.u16.wrap (f 3) = f 3 := by rw [IntKind.wrap_u16]; omega
  have q3 : (f 3 != 0) = true := by simpa using hv0
  generalize f (2 + 0) * 256 + f (2 + (0 + 1)) = v at *
  clear hE hR hkn0 hk hk0 hk1 h0 h1 ha hf hr hnc hcm g2 g3 hkN hv0 hz
  go_enter Try.func9, Try.ntmps9
  go_upto_region 1 with fail
  rw [← hW2]
  clear hW2
  go_upto_region 4 with (first
    | (go_at_call 27; refine (KA.out _ RB.x).mono ?_; rintro e w3 ⟨rfl, q3, e3⟩; have RB := RB.ext (Ext.of_drewN ⟨q3, e3⟩); clear e3))
  go_upto_region 7 with (first
    | (go_at_call 28; refine (KK.out _).mono ?_; rintro e w4 ⟨rfl, e4⟩; rw [e4]; clear e4 w4))
  go_upto_region 9 with (first
    | (go_at_call 27; refine (KB.out _ RB.x).mono ?_; rintro e w5 ⟨rfl, q5, e5⟩; have RB := RB.ext (Ext.of_drewN ⟨q5, e5⟩); clear e5))
  go_wp2_with (first
    | (refine wpList_load_row rfl 29 (.tmp 2) rfl (w.heap.size) rfl 29 _ (0, 0) _ RB.b2 Try.underlying29 rfl (by kernel_rfl) ?_)
    | (refine wpList_store_row rfl 29 (.tmp 4) (.tmp 94) rfl (w.heap.size + 1) _ rfl rfl 29 _ RB.b4 (by kernel_rfl) rfl (by simp [diaC, Value.oneCell']) ?_))
  refine bodyPost_ret (results_row_three _ _ (w.heap.size + 1) 29 _ (0, 0) _ rfl rfl (setRow_heap _ _ _ _ _ _ RB.b4) Try.underlying29 rfl (by kernel_rfl)) rfl ?_
  obtain ⟨e1, e2, e3, e4⟩ := HE.out
  unfold RDo18
  rw [e1, e2, e3, e4]
  exact ⟨none, 0, rfl, .inl rfl, below_setRow RB.x (by omega) _⟩
set_option maxHeartbeats 8000000 in
theorem rdo18_badx (D : Dia) (a : Option Addr) (c : Nat) (f : Nat → Int) (w : World) (ha : Holds .u8 w a 4 f) (hnc : 4 ≤ c) (hcm : c ≤ maxLen) (hf : ∀ i, i < 4 → 0 ≤ f i ∧ f i < 256) (hk : dgK (dgN f) = true) (hkz' : dgN f ≠ 0) (hk1' : dgN f ≠ 1) (hk3' : dgN f ≠ 3) (hv0 : dgV f ≠ 0) : Calls Try.prog 9 #[.agg (diaC D), .slice a 4 c] w (RDo18 D 4 f w) := by
  have hkn0 : dgN f ≠ 0 := by omega
  have hR : dgR 4 f = false := by unfold dgR; rw [if_neg hkn0]; exact decide_eq_false (fun h => by obtain ⟨-, -, -, h3⟩ := h; exact hv0 (h3 hk1' hk3'))
  have hE : dgE 4 f = 3 := by unfold dgE; rw [if_neg (by omega), if_neg (by rw [hk]; decide), hR]; rfl
  have HE := Lib.hid (And.intro (dg_err (D := D) (show dgE 4 f ≠ 0 by rw [hE]; decide)).1 (And.intro (dg_err (D := D) (show dgE 4 f ≠ 0 by rw [hE]; decide)).2.2 (And.intro (dg_err (D := D) (show dgE 4 f ≠ 0 by rw [hE]; decide)).2.1 hE)))
  obtain ⟨W2, hW2, RB⟩ := R18.begin w D
  have h0 := hf 0 (by omega)
  have h1 := hf 1 (by omega)
  have hk0 : 0 ≤ f 0 * 256 + f 1 := by omega
  have hk1 : f 0 * 256 + f 1 < 65536 := by omega
  have KA := Lib.hid (fun W (x : Ext w W) => rat_some a 4 c 0 f W (ha.ext x) (by omega) (by omega) hf)
  have hcv : IntKind.i64.wrap (f 0 * 256 + f 1) = f 0 * 256 + f 1 := IntWalk.i64_in _ (by omega)
  have KK := Lib.hid (fun W => rknown18_v (k := f 0 * 256 + f 1) hk W)
  have hncI : (4 : Int) ≤ c := by omega
  have hcm' : (c : Int) ≤ 9223372036854775807 := by unfold maxLen at hcm; omega
  obtain ⟨b, off, hr⟩ := rest18 ha (Nat.le_refl 4)
  obtain rfl := hr.eq
  have g2 := hf 2 (by omega)
  have g3 := hf 3 (by omega)
  have KB := Lib.hid (fun W (x : Ext w W) => rat_some (some ⟨b, off + 2, none⟩) 2 (c - 2) 0 (fun i => f (2 + i)) W (hr.holds.ext x) (by omega) (by omega) (fun i hi => hf (2 + i) (by omega)))
  have hv : dgV f = f (2 + 0) * 256 + f (2 + (0 + 1)) := rfl
  rw [hv] at hv0
  have q1 : (f (2 + 0) * 256 + f (2 + (0 + 1)) != 0) = true := by simpa using hv0
  have z0 : (f 0 * 256 + f 1 == 0) = false := by have h : f 0 * 256 + f 1 ≠ 0 := hkz'; simpa using h
  have z1 : (f 0 * 256 + f 1 == 1) = false := by have h : f 0 * 256 + f 1 ≠ 1 := hk1'; simpa using h
  have z3 : (f 0 * 256 + f 1 == 3) = false := by have h : f 0 * 256 + f 1 ≠ 3 := hk3'; simpa using h
  have y1 : (f 0 * 256 + f 1 != 1) = true := by have h : f 0 * 256 + f 1 ≠ 1 := hk1'; simpa using h
  have y3 : (f 0 * 256 + f 1 != 3) = true := by have h : f 0 * 256 + f 1 ≠ 3 := hk3'; simpa using h
  generalize f (2 + 0) * 256 + f (2 + (0 + 1)) = v at *
  generalize f 0 * 256 + f 1 = k at KA KK hcv hk0 hk1 z0 z1 z3 y1 y3
  clear hE hR hkn0 hk hk0 hk1 h0 h1 ha hf hr hnc hcm g2 g3 hkz' hk1' hk3' hv0 hv
  go_enter Try.func9, Try.ntmps9
  go_upto_region 1 with fail
  rw [← hW2]
  clear hW2
  go_upto_region 4 with (first
    | (go_at_call 27; refine (KA.out _ RB.x).mono ?_; rintro e w3 ⟨rfl, q3, e3⟩; have RB := RB.ext (Ext.of_drewN ⟨q3, e3⟩); clear e3))
  go_upto_region 7 with (first
    | (go_at_call 28; refine (KK.out _).mono ?_; rintro e w4 ⟨rfl, e4⟩; rw [e4]; clear e4 w4))
  go_upto_region 9 with (first
    | (go_at_call 27; refine (KB.out _ RB.x).mono ?_; rintro e w5 ⟨rfl, q5, e5⟩; have RB := RB.ext (Ext.of_drewN ⟨q5, e5⟩); clear e5))
  go_wp2_with (first
    | (refine wpList_load_row rfl 29 (.tmp 2) rfl (w.heap.size) rfl 29 _ (0, 0) _ RB.b2 Try.underlying29 rfl (by kernel_rfl) ?_)
    | (refine wpList_store_row rfl 29 (.tmp 4) (.tmp 94) rfl (w.heap.size + 1) _ rfl rfl 29 _ RB.b4 (by kernel_rfl) rfl (by simp [diaC, Value.oneCell']) ?_))
  refine bodyPost_ret (results_row_three _ _ (w.heap.size + 1) 29 _ (0, 0) _ rfl rfl (setRow_heap _ _ _ _ _ _ RB.b4) Try.underlying29 rfl (by kernel_rfl)) rfl ?_
  obtain ⟨e1, e2, e3, e4⟩ := HE.out
  unfold RDo18
  rw [e1, e2, e3, e4]
  exact ⟨none, 0, rfl, .inl rfl, below_setRow RB.x (by omega) _⟩
end Go.Proofs.Ytchdgodmncckcaa
