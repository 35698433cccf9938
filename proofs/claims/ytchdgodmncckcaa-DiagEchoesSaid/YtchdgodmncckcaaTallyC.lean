/-
  CONTRACTS: package tally: 'TY w p F f': the counters at block p are f 0 .. f 7; F: the blocks that it may change.
-/
import Derived.Test.YtchdgodmncckcaaTallyR
import Derived.Laws.Tables
import Derived.Laws.CopyOwn
import Derived.Deep.LoopGhost
import Derived.Deep.MidRow
import Derived.MakeChecks
namespace Go.Proofs.Ytchdgodmncckcaa
open Go.RowKit
set_option linter.unusedVariables false

/-- The cells of the counters: whether they were made, and each. -/
structure SetCells (cs : Array Value) (f : Nat → Int) : Prop where
  size : cs.size = 9
  made : cs[0]? = some (.bool true)
  count : ∀ i, i < 8 → cs[1 + i]? = some (.int .u16 (f i))
def TY (w : World) (p : Nat) (F : Nat → Prop) (f : Nat → Int) : Prop :=
  (∀ i, F i ↔ i = p) ∧ Small8 f ∧ ∃ cs, w.heap[p]? = some (.cells cs 69 (0, 0)) ∧ SetCells cs f
theorem TY.at {F : Nat → Prop} {w : World} {p : Nat} {f : Nat → Int} (h : TY w p F f) : p < w.heap.size := by
  obtain ⟨_, _, cs, hc, _⟩ := h
  rcases Nat.lt_or_ge p w.heap.size with hlt | hge
  · exact hlt
  · rw [Array.getElem?_eq_none hge] at hc; cases hc
theorem TY.keep {G F : Nat → Prop} {w w' : World} {p : Nat} {f : Nat → Int} (h : TY w p F f) (k : Keep G w w') (hG : ∀ i, F i → ¬ G i) : TY w' p F f := by
  have hlt := h.at
  obtain ⟨hF, hs, cs, hc, hl⟩ := h
  exact ⟨hF, hs, cs, (k.block p hlt (hG p ((hF p).2 rfl))).trans hc, hl⟩
theorem TY.lt {F : Nat → Prop} {w : World} {p : Nat} {f : Nat → Int} (h : TY w p F f) : ∀ i, F i → i < w.heap.size := by
  intro i hi; rw [(h.1 i).1 hi]; exact h.at
theorem TY.small {F : Nat → Prop} {w : World} {p : Nat} {f : Nat → Int} (h : TY w p F f) : Small8 f := h.2.1
theorem TY.cell {F : Nat → Prop} {w : World} {p : Nat} {f : Nat → Int} (h : TY w p F f) (i : Nat) (hi : i < 8) : w.cell? ⟨p, 1 + i, none⟩ = some (.int .u16 (f i)) := by
  obtain ⟨_, _, cs, hc, hl⟩ := h
  rw [cell_of_row _ _ _ _ _ _ hc]; exact hl.count i hi
theorem TY.cmade {F : Nat → Prop} {w : World} {p : Nat} {f : Nat → Int} (h : TY w p F f) : w.cell? ⟨p, 0, none⟩ = some (.bool true) := by
  obtain ⟨_, _, cs, hc, hl⟩ := h
  rw [cell_of_row _ _ _ _ _ _ hc]; exact hl.made
theorem TY.frozen {F : Nat → Prop} {w : World} {p : Nat} {f : Nat → Int} (h : TY w p F f) (j : Nat) : w.frozen? ⟨p, j, none⟩ = false := by
  obtain ⟨_, _, cs, hc, hl⟩ := h
  exact frozen_of_row _ _ _ _ _ hc
/-- The counters as they are made. -/
def setZero (b : Bool) : Array Value := #[.bool b, .int .u16 0, .int .u16 0, .int .u16 0, .int .u16 0, .int .u16 0, .int .u16 0, .int .u16 0, .int .u16 0]
theorem setZero_cells : SetCells (setZero true) (fun _ => 0) := ⟨rfl, rfl, fun i hi => by
  rcases (show i = 0 ∨ i = 1 ∨ i = 2 ∨ i = 3 ∨ i = 4 ∨ i = 5 ∨ i = 6 ∨ i = 7 by omega) with rfl | rfl | rfl | rfl | rfl | rfl | rfl | rfl <;> rfl⟩
theorem setZero_one (b : Bool) : (setZero b).all (·.oneCell') = true := by cases b <;> kernel_rfl
theorem small8_zero : Small8 (fun _ => 0) := fun _ _ => ⟨Int.le_refl 0, by show (0 : Int) < 65536; decide⟩
theorem setZero_size (b : Bool) : (setZero b).size = 9 := rfl
theorem set_zero (w : World) : (zeroValue 69).run Try.prog w = .ok (.agg (setZero false)) w := by kernel_rfl
theorem SetCells.put {cs : Array Value} {f : Nat → Int} (h : SetCells cs f) {k : Nat} (hk : k < 8) (v : Int) : SetCells (cs.setIfInBounds (1 + k) (.int .u16 v)) (upd f k v) := by
  refine ⟨by simpa using h.size, ?_, fun j hj => ?_⟩
  · rw [Array.getElem?_setIfInBounds_ne (by omega)]; exact h.made
  · by_cases e : j = k
    · subst e; rw [upd_same, Array.getElem?_setIfInBounds_self, if_pos (by rw [h.size]; omega)]
    · rw [upd_other _ _ _ _ e, Array.getElem?_setIfInBounds_ne (by omega)]; exact h.count j hj
theorem TY.put {F : Nat → Prop} {w : World} {p : Nat} {f : Nat → Int} (h : TY w p F f) {k : Nat} (hk : k < 8) {v : Int} (h0 : 0 ≤ v) (h1 : v < 65536) :
    Keep F w (w.setCell ⟨p, 1 + k, none⟩ (.int .u16 v)) ∧ TY (w.setCell ⟨p, 1 + k, none⟩ (.int .u16 v)) p F (upd f k v) := by
  obtain ⟨hF, hs, cs, hc, hl⟩ := h
  refine ⟨⟨rfl, rfl, rfl, by simp [World.setCell], fun i hi hn => heap_setCell_other _ _ _ _ (fun e => hn ((hF i).2 e))⟩, hF, fun i hi => ?_, _, heap_setCell_same _ _ _ _ _ _ hc, hl.put hk v⟩
  by_cases e : i = k
  · rw [e, upd_same]; exact ⟨h0, h1⟩
  · rw [upd_other _ _ _ _ e]; exact hs i hi
theorem TY.made (w : World) : TY (w.alloc (.cells (setZero true) 69)) w.heap.size (fun i => i = w.heap.size) (fun _ => 0) :=
  ⟨fun i => Iff.rfl, small8_zero, _, heap_alloc_new w _, setZero_cells⟩

section
variable {P : Program}
theorem wpList_built8 {ops : Array Oper} {rest : List Oper} {o : Oper} {a : Act} {w : World} {Q : Exit → Act → World → Prop} (hg : o.guard = none) (t : TypeId) (parts : Array (Nat × Operand)) (ho : o.op = .build t parts) (cells : Array Value)
    (hc : P.built t (parts.map fun (i, x) => (i, a.eval x)).toList = some cells)
    (h : wpList P ops Q rest (a.put o.dst (.agg cells)) w) : wpList P ops Q (o :: rest) a w :=
  wpList_build hg t parts ho (by rw [hc]; rfl) (by rw [hc]; exact h)
theorem wpList_allocd8 {ops : Array Oper} {rest : List Oper} {o : Oper} {a : Act} {w : World} {Q : Exit → Act → World → Prop} (hg : o.guard = none) (t : TypeId) (ho : o.op = .alloc t) (z : Array Value)
    (hz : (zeroValue t).run P w = .ok (.agg z) w)
    (h : wpList P ops Q rest (a.put o.dst (.pointer (some ⟨w.heap.size, 0, none⟩))) (w.alloc (.cells z t))) : wpList P ops Q (o :: rest) a w :=
  wpList_plain hg fun _ hK => by
    unfold Oper.wp execOp
    simp only [ho, Instr.alloc, Sem.run_bind, hz, Result.andThen_ok]
    simp [newVar, newRow]
    exact hK _ _ h
end

theorem tnew_any (w : World) : Calls Try.prog 20 #[] w fun e w' => ∃ p F, e = .returned (.pointer (some ⟨p, 0, none⟩)) ∧ Ext w w' ∧ TY w' p F (fun _ => 0) ∧ Above w F := by
  go_enter Try.func20, Try.ntmps20
  go_wp2_with (refine wpList_built8 rfl 69 #[(0, .const (.bool true))] rfl (setZero true) (by kernel_rfl) ?_)
  go_ret
  exact ⟨_, _, rfl, Ext.alloc _ _, TY.made w, fun i hi => Nat.le_of_eq hi.symm⟩
theorem tnew_eq (w : World) : Calls Try.prog 20 #[] w fun e w' => e = .returned (.pointer (some ⟨w.heap.size, 0, none⟩)) ∧ w' = w.alloc (.cells (setZero true) 69) := by
  go_enter Try.func20, Try.ntmps20
  go_wp2_with (refine wpList_built8 rfl 69 #[(0, .const (.bool true))] rfl (setZero true) (by kernel_rfl) ?_)
  go_ret
  exact ⟨rfl, rfl⟩
theorem tholds_nil (w : World) : Calls Try.prog 47 #[.pointer none] w fun e w' => e = .returned (.bool false) ∧ w' = w := by
  go_enter Try.func47, Try.ntmps47
  go_wp2
  go_ret
  exact ⟨rfl, rfl⟩
theorem tholds_raw (p : Nat) (w : World) (c : w.cell? ⟨p, 0, none⟩ = some (.bool true)) : Calls Try.prog 47 #[.pointer (some ⟨p, 0, none⟩)] w fun e w' => e = .returned (.bool true) ∧ w' = w := by
  go_enter Try.func47, Try.ntmps47
  go_wp2
  go_ret
  exact ⟨rfl, rfl⟩
theorem thas_nil (i : Int) (w : World) : Calls Try.prog 51 #[.pointer none, .int .i64 i] w fun e w' => e = .returned (.bool false) ∧ w' = w := by
  go_enter Try.func51, Try.ntmps51
  go_wp2_with fail
  refine (tholds_nil w).mono ?_; rintro e w' ⟨rfl, rfl⟩
  go_wp2
  go_ret
  exact ⟨rfl, rfl⟩
theorem thas_raw (p : Nat) (i : Int) (w : World) (c : w.cell? ⟨p, 0, none⟩ = some (.bool true)) : Calls Try.prog 51 #[.pointer (some ⟨p, 0, none⟩), .int .i64 i] w fun e w' => e = .returned (.bool (decide (0 ≤ i ∧ i < 8))) ∧ w' = w := by
  rcases (show i < 0 ∨ (0 ≤ i ∧ ¬ i < 8) ∨ (0 ≤ i ∧ i < 8) by omega) with h | ⟨h, h'⟩ | ⟨h, h'⟩
  · rw [show decide (0 ≤ i ∧ i < 8) = false by simp; omega]
    go_enter Try.func51, Try.ntmps51
    go_wp2_with fail
    refine (tholds_raw p w c).mono ?_; rintro e w' ⟨rfl, rfl⟩
    go_wp2
    go_ret
    exact ⟨rfl, rfl⟩
  · rw [show decide (0 ≤ i ∧ i < 8) = false by simp; omega]
    go_enter Try.func51, Try.ntmps51
    go_wp2_with fail
    refine (tholds_raw p w c).mono ?_; rintro e w' ⟨rfl, rfl⟩
    go_wp2
    go_ret
    exact ⟨by simp [h'], rfl⟩
  · rw [show decide (0 ≤ i ∧ i < 8) = true by simp; omega]
    go_enter Try.func51, Try.ntmps51
    go_wp2_with fail
    refine (tholds_raw p w c).mono ?_; rintro e w' ⟨rfl, rfl⟩
    go_wp2
    go_ret
    exact ⟨rfl, rfl⟩
theorem tget_nil (i : Int) (w : World) (hi : (Lit.int .i64 i).wf = true) : Calls Try.prog 49 #[.pointer none, .int .i64 i] w fun e w' => e = .returned (.tuple #[.int .u16 0, .bool false]) ∧ Ext w w' := by
  go_enter Try.func49, Try.ntmps49
  go_wp2_with fail
  refine (thas_nil i w).mono ?_; rintro e w' ⟨rfl, rfl⟩
  go_wp2
  go_returns
  exact ⟨rfl, Ext.refl _⟩
theorem tget_no (p : Nat) (F : Nat → Prop) (f : Nat → Int) (i : Int) (w : World) (h : TY w p F f) (hi : (Lit.int .i64 i).wf = true) (ho : ¬ (0 ≤ i ∧ i ≤ 7)) :
    Calls Try.prog 49 #[.pointer (some ⟨p, 0, none⟩), .int .i64 i] w fun e w' => e = .returned (.tuple #[.int .u16 0, .bool false]) ∧ Ext w w' := by
  have hh := thas_raw p i w h.cmade
  rw [show decide (0 ≤ i ∧ i < 8) = false by simp; omega] at hh
  go_enter Try.func49, Try.ntmps49
  go_wp2_with fail
  refine hh.mono ?_; rintro e w' ⟨rfl, rfl⟩
  go_wp2
  go_returns
  exact ⟨rfl, Ext.refl _⟩
theorem tget_ok (p : Nat) (F : Nat → Prop) (f : Nat → Int) (k : Nat) (w : World) (h : TY w p F f) (hk : k < 8) :
    Calls Try.prog 49 #[.pointer (some ⟨p, 0, none⟩), .int .i64 k] w fun e w' => e = .returned (.tuple #[.int .u16 (f k), .bool true]) ∧ Ext w w' := by
  have hh := thas_raw p k w h.cmade
  rw [show decide (0 ≤ (k : Int) ∧ (k : Int) < 8) = true by simp; omega] at hh
  have c0 := h.cell k hk
  have k1 : (k : Int) < 8 := by omega
  generalize f k = v at *
  clear h hk
  go_enter Try.func49, Try.ntmps49
  go_wp2_with fail
  refine hh.mono ?_; rintro e w' ⟨rfl, rfl⟩
  go_wp2
  go_returns
  exact ⟨rfl, Ext.refl _⟩
theorem cadd_raw (p o : Nat) (v n : Int) (w : World) (c : w.cell? ⟨p, o, none⟩ = some (.int .u16 v)) (hf : w.frozen? ⟨p, o, none⟩ = false) (v0 : 0 ≤ v) (v1 : v < 65536) (h0 : 0 ≤ n) (h1 : n ≤ 65536) :
    Calls Try.prog 46 #[.pointer (some ⟨p, o, none⟩), .int .i64 n] w fun e w' => e = .returned (.tuple #[]) ∧ w' = w.setCell ⟨p, o, none⟩ (.int .u16 ((v + n) % 65536)) := by
  have e1 : IntKind.u16.wrap n = n % 65536 := by rw [IntKind.wrap_u16]
  have e2 : IntKind.u16.wrap (v + n % 65536) = (v + n) % 65536 := by rw [IntKind.wrap_u16]; omega
  generalize (v + n) % 65536 = r at *
  generalize n % 65536 = m at *
  clear v0 v1 h0 h1
  go_enter Try.func46, Try.ntmps46
  go_wp2
  go_returns
  exact ⟨rfl, rfl⟩
theorem cset_raw (p o : Nat) (w : World) (v : Int) (c : w.cell? ⟨p, o, none⟩ = some (.int .u16 v)) (hf : w.frozen? ⟨p, o, none⟩ = false) :
    Calls Try.prog 52 #[.pointer (some ⟨p, o, none⟩), .int .i64 0] w fun e w' => e = .returned (.tuple #[]) ∧ w' = w.setCell ⟨p, o, none⟩ (.int .u16 0) := by
  go_enter Try.func52, Try.ntmps52
  go_wp2
  go_returns
  exact ⟨rfl, rfl⟩
theorem tdo_nil (fn : FuncId) (i n : Int) (w : World) : Calls Try.prog 45 #[.pointer none, .func (.func fn) #[] #[], .int .i64 i, .int .i64 n] w fun e w' => e = .returned (.int .i64 11) ∧ w' = w := by
  go_enter Try.func45, Try.ntmps45
  go_wp2_with fail
  refine (thas_nil i w).mono ?_; rintro e w' ⟨rfl, rfl⟩
  go_wp2
  go_ret
  exact ⟨rfl, rfl⟩
theorem tdo_no (fn : FuncId) (p : Nat) (F : Nat → Prop) (f : Nat → Int) (i n : Int) (w : World) (h : TY w p F f) (ho : ¬ (0 ≤ i ∧ i ≤ 7)) : Calls Try.prog 45 #[.pointer (some ⟨p, 0, none⟩), .func (.func fn) #[] #[], .int .i64 i, .int .i64 n] w fun e w' => e = .returned (.int .i64 11) ∧ w' = w := by
  have hh := thas_raw p i w h.cmade
  rw [show decide (0 ≤ i ∧ i < 8) = false by simp; omega] at hh
  go_enter Try.func45, Try.ntmps45
  go_wp2_with fail
  refine hh.mono ?_; rintro e w' ⟨rfl, rfl⟩
  go_wp2
  go_ret
  exact ⟨rfl, rfl⟩
theorem tdo_add (p : Nat) (F : Nat → Prop) (f : Nat → Int) (k : Nat) (n v : Int) (w : World) (h : TY w p F f) (hk : k < 8)
    (hc : Calls Try.prog 46 #[.pointer (some ⟨p, 1 + k, none⟩), .int .i64 n] w fun e w' => e = .returned (.tuple #[]) ∧ w' = w.setCell ⟨p, 1 + k, none⟩ (.int .u16 v)) :
    Calls Try.prog 45 #[.pointer (some ⟨p, 0, none⟩), .func (.func 46) #[] #[], .int .i64 k, .int .i64 n] w fun e w' => e = .returned (.int .i64 0) ∧ w' = w.setCell ⟨p, 1 + k, none⟩ (.int .u16 v) := by
  have hh := thas_raw p k w h.cmade
  rw [show decide (0 ≤ (k : Int) ∧ (k : Int) < 8) = true by simp; omega] at hh
  have k1 : (k : Int) < 8 := by omega
  clear h hk
  go_enter Try.func45, Try.ntmps45
  go_wp2_with fail
  refine hh.mono ?_; rintro e w' ⟨rfl, rfl⟩
  go_wp2_with fail
  refine hc.mono ?_; rintro e w' ⟨rfl, rfl⟩
  go_wp2
  go_ret
  exact ⟨rfl, rfl⟩
theorem tdo_set (p : Nat) (F : Nat → Prop) (f : Nat → Int) (k : Nat) (n v : Int) (w : World) (h : TY w p F f) (hk : k < 8)
    (hc : Calls Try.prog 52 #[.pointer (some ⟨p, 1 + k, none⟩), .int .i64 n] w fun e w' => e = .returned (.tuple #[]) ∧ w' = w.setCell ⟨p, 1 + k, none⟩ (.int .u16 v)) :
    Calls Try.prog 45 #[.pointer (some ⟨p, 0, none⟩), .func (.func 52) #[] #[], .int .i64 k, .int .i64 n] w fun e w' => e = .returned (.int .i64 0) ∧ w' = w.setCell ⟨p, 1 + k, none⟩ (.int .u16 v) := by
  have hh := thas_raw p k w h.cmade
  rw [show decide (0 ≤ (k : Int) ∧ (k : Int) < 8) = true by simp; omega] at hh
  have k1 : (k : Int) < 8 := by omega
  clear h hk
  go_enter Try.func45, Try.ntmps45
  go_wp2_with fail
  refine hh.mono ?_; rintro e w' ⟨rfl, rfl⟩
  go_wp2_with fail
  refine hc.mono ?_; rintro e w' ⟨rfl, rfl⟩
  go_wp2
  go_ret
  exact ⟨rfl, rfl⟩
theorem tadd_nil (i n : Int) (w : World) (hi : (Lit.int .i64 i).wf = true) (hn : (Lit.int .i64 n).wf = true) : Calls Try.prog 31 #[.pointer none, .int .i64 i, .int .i64 n] w fun e w' => e = .returned (.int .i64 11) ∧ Ext w w' := by
  rcases (show n < 0 ∨ (¬ n < 0 ∧ 65536 < n) ∨ (¬ n < 0 ∧ ¬ 65536 < n) by omega) with h | ⟨h, h'⟩ | ⟨h, h'⟩
  · go_enter Try.func31, Try.ntmps31
    go_wp2
    go_ret
    exact ⟨rfl, Ext.refl _⟩
  · go_enter Try.func31, Try.ntmps31
    go_wp2
    go_ret
    exact ⟨rfl, Ext.refl _⟩
  · go_enter Try.func31, Try.ntmps31
    go_wp2_with fail
    refine (tdo_nil _ i n w).mono ?_; rintro e w' ⟨rfl, rfl⟩
    go_wp2
    go_ret
    exact ⟨rfl, Ext.refl _⟩
theorem tadd_no (p : Nat) (F : Nat → Prop) (f : Nat → Int) (i n : Int) (w : World) (h : TY w p F f) (hi : (Lit.int .i64 i).wf = true) (hn : (Lit.int .i64 n).wf = true) (ho : ¬ (0 ≤ i ∧ i ≤ 7 ∧ 0 ≤ n ∧ n ≤ 65536)) :
    Calls Try.prog 31 #[.pointer (some ⟨p, 0, none⟩), .int .i64 i, .int .i64 n] w fun e w' => e = .returned (.int .i64 11) ∧ Ext w w' := by
  rcases (show n < 0 ∨ (¬ n < 0 ∧ 65536 < n) ∨ (¬ n < 0 ∧ ¬ 65536 < n) by omega) with h1 | ⟨h1, h'⟩ | ⟨h1, h'⟩
  · go_enter Try.func31, Try.ntmps31
    go_wp2
    go_ret
    exact ⟨rfl, Ext.refl _⟩
  · go_enter Try.func31, Try.ntmps31
    go_wp2
    go_ret
    exact ⟨rfl, Ext.refl _⟩
  · have hd := tdo_no 46 p F f i n w h (by omega)
    clear ho
    go_enter Try.func31, Try.ntmps31
    go_wp2_with fail
    refine hd.mono ?_; rintro e w' ⟨rfl, rfl⟩
    go_wp2
    go_ret
    exact ⟨rfl, Ext.refl _⟩
theorem tadd_ok (p : Nat) (F : Nat → Prop) (f : Nat → Int) (k : Nat) (n : Int) (w : World) (h : TY w p F f) (hk : k < 8) (h0 : 0 ≤ n) (h1 : n ≤ 65536) :
    Calls Try.prog 31 #[.pointer (some ⟨p, 0, none⟩), .int .i64 k, .int .i64 n] w fun e w' => ∃ G, e = .returned (.int .i64 0) ∧ Keep F w w' ∧ TY w' p G (upd f k ((f k + n) % 65536)) ∧ Grows F G w := by
  obtain ⟨v0, v1⟩ := h.small k hk
  have hd := tdo_add p F f k n _ w h hk (cadd_raw p (1 + k) (f k) n w (h.cell k hk) (h.frozen _) v0 v1 h0 h1)
  obtain ⟨y1, y2⟩ := h.put hk (v := (f k + n) % 65536) (Int.emod_nonneg _ (by omega)) (Int.emod_lt_of_pos _ (by omega))
  generalize w.setCell ⟨p, 1 + k, none⟩ (.int .u16 ((f k + n) % 65536)) = w2 at *
  have n1 : ¬ n < 0 := by omega
  have n2 : ¬ 65536 < n := by omega
  clear h v0 v1
  go_enter Try.func31, Try.ntmps31
  go_wp2_with fail
  refine hd.mono ?_; rintro e w' ⟨rfl, rfl⟩
  go_wp2
  go_ret
  exact ⟨F, rfl, y1, y2, Grows.refl _ _⟩
theorem tdrop_ok (p : Nat) (F : Nat → Prop) (f : Nat → Int) (k : Nat) (w : World) (h : TY w p F f) (hk : k < 8) :
    Calls Try.prog 50 #[.pointer (some ⟨p, 0, none⟩), .int .i64 k] w fun e w' => ∃ G, e = .returned (.int .i64 0) ∧ Keep F w w' ∧ TY w' p G (upd f k 0) ∧ Grows F G w := by
  have hd := tdo_set p F f k 0 _ w h hk (cset_raw p (1 + k) w (f k) (h.cell k hk) (h.frozen _))
  obtain ⟨y1, y2⟩ := h.put hk (v := 0) (by omega) (by omega)
  generalize w.setCell ⟨p, 1 + k, none⟩ (.int .u16 0) = w2 at *
  clear h
  go_enter Try.func50, Try.ntmps50
  go_wp2_with fail
  refine hd.mono ?_; rintro e w' ⟨rfl, rfl⟩
  go_wp2
  go_ret
  exact ⟨F, rfl, y1, y2, Grows.refl _ _⟩
theorem tdrop_no (p : Nat) (F : Nat → Prop) (f : Nat → Int) (i : Int) (w : World) (h : TY w p F f) (hi : (Lit.int .i64 i).wf = true) (ho : ¬ (0 ≤ i ∧ i ≤ 7)) :
    Calls Try.prog 50 #[.pointer (some ⟨p, 0, none⟩), .int .i64 i] w fun e w' => e = .returned (.int .i64 11) ∧ Ext w w' := by
  have hd := tdo_no 52 p F f i 0 w h ho
  clear ho
  go_enter Try.func50, Try.ntmps50
  go_wp2_with fail
  refine hd.mono ?_; rintro e w' ⟨rfl, rfl⟩
  go_wp2
  go_ret
  exact ⟨rfl, Ext.refl _⟩
theorem tclear_any (p : Nat) (F : Nat → Prop) (f : Nat → Int) (w : World) (h : TY w p F f) :
    Calls Try.prog 48 #[.pointer (some ⟨p, 0, none⟩)] w fun e w' => ∃ G, e = .returned (.tuple #[]) ∧ Keep F w w' ∧ TY w' p G (fun _ => 0) ∧ Grows F G w := by
  have hh := tholds_raw p w h.cmade
  have hlt := h.at
  obtain ⟨hF, hs, cs, hg, hc⟩ := h
  have g0 : (w.alloc (.cells (setZero true) 69)).heap[w.heap.size]? = _ := heap_alloc_new w _
  have g1 : (w.alloc (.cells (setZero true) 69)).heap[p]? = some (.cells cs 69 (0, 0)) := (Below.block (Ext.alloc w _) p hlt).trans hg
  have hz : cs.size = (setZero true).size := by rw [hc.size, setZero_size]
  have hkeep : Keep F w ((w.alloc (.cells (setZero true) 69)).setRow p (setZero true)) :=
    (Keep.of_ext (Ext.alloc w _)).trans (G := F) ⟨rfl, rfl, rfl, by simp, fun k hk hF' => setRow_other _ _ _ _ (fun e => hF' ((hF k).2 e))⟩ (fun i hi => .inl hi)
  have hnew : TY ((w.alloc (.cells (setZero true) 69)).setRow p (setZero true)) p F (fun _ => 0) := ⟨hF, small8_zero, _, setRow_heap _ _ _ _ _ _ g1, setZero_cells⟩
  clear hs hc hg hlt
  go_enter Try.func48, Try.ntmps48
  go_wp2_with fail
  refine hh.mono ?_; rintro e w' ⟨rfl, rfl⟩
  go_wp2_with fail
  refine (tnew_eq _).mono ?_; rintro e w2 ⟨rfl, rfl⟩
  go_wp2_with (first
    | (refine wpList_load_row rfl 69 (.tmp 6) rfl w'.heap.size rfl 69 (setZero true) (0, 0) _ g0 Try.underlying69 rfl (by rw [setZero_size]; kernel_rfl) ?_)
    | (refine wpList_store_row rfl 69 (.tmp 8) (.tmp 7) rfl p (setZero true) rfl rfl 69 cs g1 (by rw [setZero_size]; kernel_rfl) hz (setZero_one _) ?_))
  go_returns
  exact ⟨rfl, hkeep, F, hnew, Grows.refl _ _⟩
theorem tclone_any (p : Nat) (F : Nat → Prop) (f : Nat → Int) (w : World) (h : TY w p F f) :
    Calls Try.prog 32 #[.pointer (some ⟨p, 0, none⟩)] w fun e w' => ∃ r G, e = .returned (.pointer (some ⟨r, 0, none⟩)) ∧ Ext w w' ∧ TY w' r G f ∧ Above w G := by
  obtain ⟨hF, hs, cs, hg, hc⟩ := h
  have hs0 : cs.size = 9 := hc.size
  have hone : cs.all (·.oneCell') = true := by
    rw [Array.all_eq_true]
    intro i hi
    have := Array.getElem?_eq_getElem hi
    rcases (show i = 0 ∨ (1 ≤ i ∧ i < 9) by omega) with rfl | e
    · rw [hc.made] at this; rw [← Option.some.inj this]; rfl
    · have h2 := hc.count (i - 1) (by omega)
      rw [show 1 + (i - 1) = i by omega] at h2
      rw [h2] at this; rw [← Option.some.inj this]; rfl
  have g1 := heap_alloc_new w (.cells (setZero false) 69)
  have hnew : TY ((w.alloc (.cells (setZero false) 69)).setRow w.heap.size cs) w.heap.size (fun i => i = w.heap.size) f :=
    ⟨fun i => Iff.rfl, hs, _, setRow_heap _ _ _ _ _ _ g1, hc⟩
  go_enter Try.func32, Try.ntmps32
  go_wp2_with (first
    | (refine wpList_load_row rfl 69 (.tmp 7) rfl p rfl 69 cs (0, 0) _ hg Try.underlying69 rfl (by rw [hs0]; kernel_rfl) ?_)
    | (refine wpList_allocd8 rfl 69 rfl (setZero false) (set_zero _) ?_)
    | (refine wpList_store_row rfl 69 (.tmp 3) (.tmp 8) rfl w.heap.size cs rfl rfl 69 (setZero false) g1 (by rw [hs0]; kernel_rfl) (by rw [hs0, setZero_size]) hone ?_))
  go_ret
  exact ⟨_, _, rfl, below_setRow (Ext.alloc w _) (Nat.le_refl _) _, hnew, fun i hi => Nat.le_of_eq hi.symm⟩
theorem tall_nil (w : World) : Calls Try.prog 33 #[.pointer none] w fun e w' => ∃ z u, e = .returned (.slice z 0 u) ∧ Ext w w' := by
  go_enter Try.func33, Try.ntmps33
  go_wp2_with fail
  refine (tholds_nil w).mono ?_; rintro e w' ⟨rfl, rfl⟩
  go_wp2
  go_ret
  exact ⟨_, _, rfl, Ext.refl _⟩
theorem lst8 (f : Nat → Int) : lst .u16 f 8 = [.int .u16 (f 0), .int .u16 (f 1), .int .u16 (f 2), .int .u16 (f 3), .int .u16 (f 4), .int .u16 (f 5), .int .u16 (f 6), .int .u16 (f 7)] := rfl
theorem index8 (f : Nat → Int) (k : Nat) (hk : k < 8) (w : World) : (Instr.index 67 (.agg (lst .u16 f 8).toArray) (.int .i64 k)).run Try.prog w = .ok (.int .u16 (f k)) w := by
  rw [lst8]
  rcases (show k = 0 ∨ k = 1 ∨ k = 2 ∨ k = 3 ∨ k = 4 ∨ k = 5 ∨ k = 6 ∨ k = 7 by omega) with rfl | rfl | rfl | rfl | rfl | rfl | rfl | rfl <;> kernel_rfl
theorem Try.info16t : (Try.prog.info? 26).map (fun i => (i.zero, i.size, i.bytes)) = some (some (.int .u16 0), 1, 2) := by kernel_rfl
theorem TY.range {F : Nat → Prop} {w : World} {p : Nat} {f : Nat → Int} (h : TY w p F f) : w.rangeAt p 1 (lst .u16 f 8) := by
  intro j v hv
  by_cases hj : j < 8
  · rw [lst_get _ _ _ _ hj] at hv; cases hv; exact h.cell j hj
  · rw [List.getElem?_eq_none (by rw [lst_length]; omega)] at hv; cases hv
theorem TY.ext0 {F : Nat → Prop} {w w' : World} {p : Nat} {f : Nat → Int} (h : TY w p F f) (x : Ext w w') : TY w' p F f := h.keep (G := fun _ => False) (.of_ext x) (fun _ _ e => e)
set_option maxHeartbeats 1600000 in
theorem tall_any (p : Nat) (F : Nat → Prop) (f : Nat → Int) (w : World) (h : TY w p F f) :
    Calls Try.prog 33 #[.pointer (some ⟨p, 0, none⟩)] w fun e w' => ∃ z u, e = .returned (.slice z 8 u) ∧ 8 ≤ u ∧ u ≤ maxLen ∧ Holds .u16 w' z 8 f ∧ Ext w w' := by
  obtain ⟨i8, hi8, hz80, hz81, hz82⟩ := info_parts Try.info16t
  have hix := fun k hk => index8 f k hk
  have hlen := lst_length .u16 f 8
  have hh := tholds_raw p w h.cmade
  go_enter Try.func33, Try.ntmps33
  go_wp2_with fail
  refine hh.mono ?_; rintro e w' ⟨rfl, rfl⟩
  have hrgs := fun w1 x => (h.ext0 (x : Ext w' w1)).range
  generalize hL : lst .u16 f 8 = L at *
  clear h hL
  go_wp2_with (first
    | (at_make; refine wpList_make_full _ rfl _ _ 45 rfl w'.heap.size 26 i8 (.int .u16 0) 1 Try.underlying45 hi8 hz80 hz81 .i64 .i64 8 8 8 rfl rfl rfl rfl (by rw [hz82]; omega) (by unfold maxLen; omega) (Nat.le_refl _) ?_; intro w1 hown1 hgrow1; have hb1 : Below w'.heap.size w' w1 := (Below.refl _ _).grown hgrow1 (Nat.le_refl _) (fun k hk => by cases hk); have hrg := hrgs w1 hb1)
    | (refine wpList_load_mid rfl 67 (.tmp 12) rfl p 1 rfl L _ hrg Try.underlying67 rfl (by rw [hlen]; kernel_rfl) ?_))
  have hr1 : Row (Value.int .u16) 26 w1 w'.heap.size 8 (fun _ => 0) := Row.made hown1
  obtain ⟨B, hB⟩ : ∃ B, B = w'.heap.size := ⟨_, rfl⟩
  rw [← hB] at hr1 hb1 ⊢
  have HB := Lib.hid hB
  clear hB hown1 hgrow1 hrg hrgs
  go_loopg [14] 8 (fun g i wr => ∃ k : Nat, k + g = 8 ∧ i = .int .i64 k ∧ Row (Value.int .u16) 26 wr B 8 (fun t => if t < k then f t else 0) ∧ Below B w' wr)
  case atStart => exact ⟨0, by omega, rfl, hr1.congr (fun t _ => by simp), hb1⟩
  case round =>
    obtain ⟨k, hk, rfl, hr, hbl⟩ := hrel
    clear hr1 hb1
    cases gk with
    | zero =>
      have hx : Ext w' wr := by rw [Ext, ← HB.out]; exact hbl
      have hkz : ¬ ((k : Int) < 8) := by omega
      clear hix
      go_wp2_with fail
      try rw [Exit.noGoto_ret]
      go_ret
      exact ⟨_, _, rfl, Nat.le_refl _, by unfold maxLen; omega, (hr.congr (fun t ht => by simp; omega)).holds, hx⟩
    | succ g =>
      have hkz : (k : Int) < 8 := by omega
      have hkn : k < 8 := by omega
      have hik := hix k hkn
      have c3 := hr.cell k hkn
      have f3 := hr.frozen k
      have HFin : RowKit.Hid (Row (Value.int .u16) 26 (wr.setCell ⟨B, k, none⟩ (.int .u16 (f k))) B 8 (fun t => if t < k + 1 then f t else 0) ∧ Below B w' (wr.setCell ⟨B, k, none⟩ (.int .u16 (f k)))) := Lib.hid ⟨(hr.set k (f k)).congr (fun t ht => by
        by_cases e : t = k
        · rw [e, upd_same]; simp
        · rw [upd_other _ _ _ _ e]
          by_cases e2 : t < k
          · rw [if_pos e2, if_pos (by omega)]
          · rw [if_neg e2, if_neg (by omega)]), Below.set hbl (Nat.le_refl _) _⟩
      clear hr hbl hix
      generalize f k = v at *
      go_wp2
      go_roundg g
      case rel => exact ⟨k + 1, by omega, by go_num, HFin.out.1, HFin.out.2⟩
      case measure => omega
end Go.Proofs.Ytchdgodmncckcaa
