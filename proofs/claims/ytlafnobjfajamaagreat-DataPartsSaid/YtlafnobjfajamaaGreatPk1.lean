/-
  SLICES OF INTEGERS AS FUNCTIONS: 'Holds k w a n f': the n cells from the address a on hold f 0, f 1 .. of the kind k.
  SLICES OF ONE-CELL VALUES AS FUNCTIONS: 'HoldsG mk w a n f': the n cells from the address a on are mk (f 0), mk (f 1) ..; at bools: 'HoldsG Value.bool'.
  BLOCKS OF THE CALL'S OWN AS FUNCTIONS: 'Row mk t w B m f': block B is just the m cells mk (f 0), mk (f 1) .. of type t, none frozen.
  STRUCTS BY VALUE: what is answered through a cell of the call's own.
-/
import Derived.WalkKit
import Derived.WalkSmall
import Derived.OneCell
import Derived.Deep.Draws
import Derived.Laws.ResultCell
import Derived.Laws.Rows
import Derived.Laws.Tables
namespace Go.Proofs.YtlafnobjfajamaaGreat
open Go.RowKit

def Holds (k : IntKind) (w : World) (a : Option Addr) (n : Nat) (f : Nat → Int) : Prop :=
  n = 0 ∨ ∃ b off, a = some ⟨b, off, none⟩ ∧ b < w.heap.size ∧ ∀ i, i < n → w.cell? ⟨b, off + i, none⟩ = some (.int k (f i))

theorem Holds.below {k : IntKind} {w w' : World} {a : Option Addr} {n : Nat} {f : Nat → Int} (h : Holds k w a n f) (hb : Below w.heap.size w w') : Holds k w' a n f := by
  rcases h with h | ⟨b, off, ha, hlt, hc⟩
  · exact .inl h
  · exact .inr ⟨b, off, ha, Nat.lt_of_lt_of_le hlt hb.size, fun i hi => (hb.cell (p := ⟨b, off + i, none⟩) hlt).trans (hc i hi)⟩

/-- Are they as many, and the same? -/
def eqB (n m : Nat) (f g : Nat → Int) : Bool := decide (n = m) && (List.range n).all (fun i => f i == g i)
theorem eqB_true {n m : Nat} {f g : Nat → Int} (h : n = m) (e : ∀ i, i < n → f i = g i) : eqB n m f g = true := by
  simp only [eqB, h, decide_true, Bool.true_and, List.all_eq_true, List.mem_range, beq_iff_eq]; intro i hi; exact e i (by omega)
theorem eqB_false {n m : Nat} {f g : Nat → Int} (h : n ≠ m ∨ ∃ i, i < n ∧ f i ≠ g i) : eqB n m f g = false := by
  simp only [eqB, Bool.and_eq_false_iff, decide_eq_false_iff_not]
  rcases h with h | ⟨i, hi, e⟩
  · exact .inl h
  · refine .inr ?_
    rw [List.all_eq_false]
    exact ⟨i, List.mem_range.2 hi, by simpa using e⟩
theorem eqB_iff {n m : Nat} {f g : Nat → Int} : eqB n m f g = true ↔ n = m ∧ ∀ i, i < n → f i = g i := by
  simp [eqB]

/-- The n cells as a list of values. -/
def lst (k : IntKind) (f : Nat → Int) (n : Nat) : List Value := (List.range n).map (fun i => Value.int k (f i))
theorem lst_succ (k : IntKind) (f : Nat → Int) (n : Nat) : lst k f n ++ [.int k (f n)] = lst k f (n + 1) := by simp [lst, List.range_succ]
theorem lst_succ2 (k : IntKind) (f : Nat → Int) (n : Nat) : lst k f n ++ [.int k (f n), .int k (f (n + 1))] = lst k f (n + 2) := by
  rw [← lst_succ k f (n + 1), ← lst_succ k f n]; simp
theorem lst_get (k : IntKind) (f : Nat → Int) (n i : Nat) (h : i < n) : (lst k f n)[i]? = some (.int k (f i)) := by simp [lst, h]
/-- What the call owns, as 'Holds'. -/
theorem Holds.of_own {k : IntKind} {w : World} {base : Nat} {e : TypeId} {v : Value} {n : Nat} {f : Nat → Int} (h : w.ownsRow base e 1 v n (lst k f n)) :
    ∃ a cap, v = .slice a n cap ∧ Holds k w a n f := by
  obtain ⟨hlen, h2⟩ := id h
  rcases h2 with ⟨hv, hx⟩ | ⟨g, cap, cur, hv, hg, hh, r⟩
  · subst hx
    exact ⟨none, 0, hv, .inl rfl⟩
  · subst hv
    refine ⟨_, _, rfl, .inr ⟨g, 0, rfl, (h.lt g rfl).2, fun i hi => ?_⟩⟩
    rw [Nat.zero_add, h.cellAt i (by omega), lst_get _ _ _ _ hi]

/-- A literal of cells that has just been laid. -/
theorem Holds.new {k : IntKind} (w : World) (cs : Array Value) (t : TypeId) (n : Nat) (f : Nat → Int) (h : ∀ i, i < n → cs[i]? = some (.int k (f i))) :
    Holds k (w.alloc (.cells cs t)) (some ⟨w.heap.size, 0, none⟩) n f := by
  refine .inr ⟨w.heap.size, 0, rfl, by simp, fun i hi => ?_⟩
  rw [Nat.zero_add, World.cell?_alloc_at (hn := rfl)]
  exact h i hi

/-- A store into another block turns no cell. -/
theorem cell_far {p B : Nat} (h : p ≠ B) (w : World) (o k : Nat) (u : Value) : (w.setCell ⟨B, k, none⟩ u).cell? ⟨p, o, none⟩ = w.cell? ⟨p, o, none⟩ :=
  World.cell?_setCell_other _ _ _ _ (fun e => h (by cases e; rfl))

/-- What was there is as it was. -/
def Ext (w w' : World) : Prop := Below w.heap.size w w'
theorem Ext.refl (w : World) : Ext w w := Below.refl _ _
theorem Ext.trans {a b c : World} (h : Ext a b) (k : Ext b c) : Ext a c := Below.trans h (Below.mono k (Below.size h))
theorem Ext.alloc (w : World) (o : Obj) : Ext w (w.alloc o) := (Below.refl _ _).alloc (Nat.le_refl _) _
theorem Ext.alloc' {w w' : World} (h : Ext w w') (o : Obj) : Ext w (w'.alloc o) := h.trans (Ext.alloc _ _)
theorem Ext.drewN (w : World) (q : Nat) : Ext w (w.drewN q) := below_drewN (Below.refl _ _) q
theorem Ext.drew (w : World) : Ext w w.drew := (Below.refl _ _).drew
theorem Ext.below {w w' : World} (h : Ext w w') : Below w.heap.size w w' := h
theorem Ext.of_drewN {w w' : World} (h : ∃ q, w' = w.drewN q) : Ext w w' := by obtain ⟨q, rfl⟩ := h; exact Ext.drewN _ _
theorem Ext.of_eq {w w' : World} (h : w = w') : Ext w w' := by subst h; exact Ext.refl _
theorem Holds.ext {k : IntKind} {w w' : World} {a : Option Addr} {n : Nat} {f : Nat → Int} (h : Holds k w a n f) (x : Ext w w') : Holds k w' a n f := h.below x

theorem Ext.cell {w w' : World} (x : Ext w w') {p o : Nat} (hp : p < w.heap.size) {v : Value} (h : w.cell? ⟨p, o, none⟩ = some v) : w'.cell? ⟨p, o, none⟩ = some v := (Below.cell x (p := ⟨p, o, none⟩) hp).trans h
theorem Ext.size {w w' : World} (x : Ext w w') : w.heap.size ≤ w'.heap.size := Below.size x

/-- A list as a function. -/
def ofL (l : List Int) : Nat → Int := fun i => l.getD i 0
theorem Holds.lit {k : IntKind} (w : World) (l : List Int) (t : TypeId) (cs : Array Value) (h : cs = (l.map (Value.int k)).toArray) (n : Nat) (hn : n = l.length) : Holds k (w.alloc (.cells cs t)) (some ⟨w.heap.size, 0, none⟩) n (ofL l) :=
  Holds.new _ _ _ _ _ (fun i hi => by subst h; subst hn; simp [ofL, hi])

/-- A slice of integers that came in: nil, or it leads to a row of 'cap' cells, the numbers zs. -/
def IsRow (k : IntKind) (w : World) (a : Option Addr) (len cap : Nat) (zs : List Int) : Prop :=
  (a = none ∧ len = 0 ∧ cap = 0 ∧ zs = []) ∨
  ∃ x, a = some x ∧ len ≤ cap ∧ cap ≤ maxLen ∧ zs.length = cap ∧ (∀ i, i < zs.length → w.cell? (x.add i) = some (.int k (zs.getD i 0))) ∧ ∀ n ∈ zs, (Lit.int k n).wf = true
theorem IsRow.holds {k : IntKind} {w : World} {a : Option Addr} {len cap : Nat} {zs : List Int} (h : IsRow k w a len cap zs) :
    ∃ f, Holds k w a len f ∧ len ≤ maxLen ∧ ∀ i, i < len → (Lit.int k (f i)).wf = true := by
  refine ⟨fun i => zs.getD i 0, ?_⟩
  rcases h with ⟨_, h0, _, _⟩ | ⟨x, ha, hl, hm, hz, hc, hw⟩
  · subst h0; exact ⟨.inl rfl, Nat.zero_le _, fun i hi => absurd hi (by omega)⟩
  · refine ⟨?_, Nat.le_trans hl hm, fun i hi => hw _ ?_⟩
    · by_cases h0 : len = 0
      · exact .inl h0
      · obtain ⟨b, off, spot⟩ := x
        have hc0 := hc 0 (by omega)
        have hspot : spot = none := by simpa [Addr.add] using World.cell?_spot hc0
        subst hspot
        refine .inr ⟨b, off, ha, World.block_lt_of_cell? w _ hc0, fun i hi => ?_⟩
        have e : (⟨b, off, none⟩ : Addr).add i = ⟨b, off + i, none⟩ := by unfold Addr.add; split <;> simp_all
        rw [← e]
        exact hc i (by omega)
    · show zs.getD i 0 ∈ zs
      rw [List.getD_eq_getElem?_getD, List.getElem?_eq_getElem (by omega)]
      exact List.getElem_mem _
end Go.Proofs.YtlafnobjfajamaaGreat
namespace Go.Proofs.YtlafnobjfajamaaGreat
open Go.RowKit

def HoldsG {α : Type} (mk : α → Value) (w : World) (a : Option Addr) (n : Nat) (f : Nat → α) : Prop :=
  n = 0 ∨ ∃ b off, a = some ⟨b, off, none⟩ ∧ b < w.heap.size ∧ ∀ i, i < n → w.cell? ⟨b, off + i, none⟩ = some (mk (f i))

section
variable {α : Type} {mk : α → Value} {w w' : World} {a : Option Addr} {n : Nat} {f : Nat → α}
theorem HoldsG.below (h : HoldsG mk w a n f) (hb : Below w.heap.size w w') : HoldsG mk w' a n f := by
  rcases h with h | ⟨b, off, ha, hlt, hc⟩
  · exact .inl h
  · exact .inr ⟨b, off, ha, Nat.lt_of_lt_of_le hlt hb.size, fun i hi => (hb.cell (p := ⟨b, off + i, none⟩) hlt).trans (hc i hi)⟩
theorem HoldsG.ext (h : HoldsG mk w a n f) (x : Ext w w') : HoldsG mk w' a n f := h.below x
theorem HoldsG.congr {g : Nat → α} (h : HoldsG mk w a n f) (e : ∀ i, i < n → f i = g i) : HoldsG mk w a n g := by
  rcases h with h | ⟨b, off, ha, hlt, hc⟩
  · exact .inl h
  · exact .inr ⟨b, off, ha, hlt, fun i hi => by rw [hc i hi, e i hi]⟩
theorem HoldsG.drop {b off : Nat} (h : HoldsG mk w (some ⟨b, off, none⟩) n f) {k : Nat} : HoldsG mk w (some ⟨b, off + k, none⟩) (n - k) (fun i => f (k + i)) := by
  rcases h with h | ⟨b', off', ha, hlt, hc⟩
  · exact .inl (by omega)
  · cases ha
    exact .inr ⟨b, off + k, rfl, hlt, fun i hi => by rw [Nat.add_assoc]; exact hc (k + i) (by omega)⟩
end

/-- The n cells as a list of values. -/
def lstG {α : Type} (mk : α → Value) (f : Nat → α) (n : Nat) : List Value := (List.range n).map (fun i => mk (f i))
theorem lstG_length {α : Type} (mk : α → Value) (f : Nat → α) (n : Nat) : (lstG mk f n).length = n := by simp [lstG]
theorem lstG_succ {α : Type} (mk : α → Value) (f : Nat → α) (n : Nat) : lstG mk f n ++ [mk (f n)] = lstG mk f (n + 1) := by simp [lstG, List.range_succ]
theorem lstG_get {α : Type} (mk : α → Value) (f : Nat → α) (n i : Nat) (h : i < n) : (lstG mk f n)[i]? = some (mk (f i)) := by simp [lstG, h]
theorem lstG_append {α : Type} (mk : α → Value) (f g : Nat → α) (n m : Nat) : lstG mk f n ++ lstG mk g m = lstG mk (fun i => if i < n then f i else g (i - n)) (n + m) := by
  apply List.ext_getElem?
  intro i
  by_cases h : i < n
  · rw [List.getElem?_append_left (by simp [lstG, h]), lstG_get _ _ _ _ h, lstG_get _ _ _ _ (by omega), if_pos h]
  · rw [List.getElem?_append_right (by simp [lstG]; omega), lstG_length]
    by_cases h2 : i - n < m
    · rw [lstG_get _ _ _ _ h2, lstG_get _ _ _ _ (by omega), if_neg h]
    · rw [List.getElem?_eq_none (by simp [lstG]; omega), List.getElem?_eq_none (by simp [lstG]; omega)]

theorem HoldsG.of_own {α : Type} {mk : α → Value} {w : World} {base : Nat} {e : TypeId} {v : Value} {n : Nat} {f : Nat → α} (h : w.ownsRow base e 1 v n (lstG mk f n)) :
    ∃ a cap, v = .slice a n cap ∧ n ≤ cap ∧ cap ≤ maxLen ∧ HoldsG mk w a n f := by
  obtain ⟨hlen, h2⟩ := id h
  rcases h2 with ⟨hv, hx⟩ | ⟨g, cap, cur, hv, hg, hh, r⟩
  · subst hx
    exact ⟨none, 0, hv, Nat.le_refl _, Nat.zero_le _, .inl rfl⟩
  · subst hv
    refine ⟨_, _, rfl, r.1, r.2.1, .inr ⟨g, 0, rfl, (h.lt g rfl).2, fun i hi => ?_⟩⟩
    rw [Nat.zero_add, h.cellAt i (by omega), lstG_get _ _ _ _ hi]
theorem HoldsG.new {α : Type} {mk : α → Value} (w : World) (cs : Array Value) (t : TypeId) (n : Nat) (f : Nat → α) (h : ∀ i, i < n → cs[i]? = some (mk (f i))) :
    HoldsG mk (w.alloc (.cells cs t)) (some ⟨w.heap.size, 0, none⟩) n f := by
  refine .inr ⟨w.heap.size, 0, rfl, by simp, fun i hi => ?_⟩
  rw [Nat.zero_add, World.cell?_alloc_at (hn := rfl)]
  exact h i hi
theorem made_get (z : Value) (n i : Nat) (hi : i < n) : ((madeCells #[z] (n * 1)).toList)[i]? = some z := by
  simp [madeCells, hi, Nat.mod_one]

/-- Are they as many, and the same? (of any kind) -/
def eqG {α : Type} [BEq α] (n m : Nat) (f g : Nat → α) : Bool := decide (n = m) && (List.range n).all (fun i => f i == g i)
theorem eqG_iff {n m : Nat} {f g : Nat → Bool} : eqG n m f g = true ↔ n = m ∧ ∀ i, i < n → f i = g i := by simp [eqG]
theorem eqG_true {n m : Nat} {f g : Nat → Bool} (h : n = m) (e : ∀ i, i < n → f i = g i) : eqG n m f g = true := eqG_iff.2 ⟨h, e⟩
theorem eqG_false {n m : Nat} {f g : Nat → Bool} (h : n ≠ m ∨ ∃ i, i < n ∧ f i ≠ g i) : eqG n m f g = false := by
  cases e : eqG n m f g with
  | false => rfl
  | true =>
    obtain ⟨h1, h2⟩ := eqG_iff.1 e
    rcases h with h | ⟨i, hi, hne⟩
    · exact absurd h1 h
    · exact absurd (h2 i hi) hne

/-- A slice of bools that came in. -/
theorem bools_in {w : World} {a : Option Addr} {len cap : Nat} (h : (a = none ∧ len = 0 ∧ cap = 0) ∨ ∃ (x : Addr) (B : Nat → Bool), a = some x ∧ len ≤ cap ∧ cap ≤ maxLen ∧ ∀ i, i < cap → w.cell? (x.add i) = some (.bool (B i))) :
    ∃ f, HoldsG Value.bool w a len f ∧ len ≤ maxLen ∧ len ≤ cap := by
  rcases h with ⟨_, h0, hc0⟩ | ⟨x, B, ha, hl, hm, hc⟩
  · subst h0; subst hc0; exact ⟨fun _ => false, .inl rfl, Nat.zero_le _, Nat.le_refl _⟩
  · refine ⟨B, ?_, Nat.le_trans hl hm, hl⟩
    by_cases h0 : len = 0
    · exact .inl h0
    · obtain ⟨b, off, spot⟩ := x
      have hc0 := hc 0 (by omega)
      have hspot : spot = none := by simpa [Addr.add] using World.cell?_spot hc0
      subst hspot
      refine .inr ⟨b, off, ha, World.block_lt_of_cell? w _ hc0, fun i hi => ?_⟩
      have e : (⟨b, off, none⟩ : Addr).add i = ⟨b, off + i, none⟩ := by unfold Addr.add; split <;> simp_all
      rw [← e]
      exact hc i (by omega)
theorem ret_i {k : IntKind} {a b : Int} (h : a = b) : Ending.returned (.int k a) = .returned (.int k b) := by rw [h]
theorem ret_b {a b : Bool} (h : a = b) : Ending.returned (.bool a) = .returned (.bool b) := by rw [h]
theorem dr2 (w : World) (q r : Nat) : ∃ s, (w.drewN q).drewN r = w.drewN s := ⟨q + r, by simp⟩
theorem bools_in2 {w : World} {a : Option Addr} {len cap : Nat} (h : (a = none ∧ len = 0 ∧ cap = 0) ∨ ∃ (x : Addr) (B : Nat → Bool), a = some x ∧ len ≤ cap ∧ cap ≤ maxLen ∧ ∀ i, i < cap → w.cell? (x.add i) = some (.bool (B i))) :
    ∃ f, HoldsG Value.bool w a len f ∧ len ≤ maxLen ∧ len ≤ cap ∧ cap ≤ maxLen := by
  obtain ⟨f, h1, h2, h3⟩ := bools_in h
  refine ⟨f, h1, h2, h3, ?_⟩
  rcases h with ⟨_, _, hc0⟩ | ⟨x, B, ha, hl, hm, hc⟩
  · subst hc0; exact Nat.zero_le _
  · exact hm
end Go.Proofs.YtlafnobjfajamaaGreat
namespace Go.Proofs.YtlafnobjfajamaaGreat
open Go.RowKit

def Row {α : Type} (mk : α → Value) (t : TypeId) (w : World) (B m : Nat) (f : Nat → α) : Prop :=
  ∃ cs : Array Value, w.heap[B]? = some (.cells cs t (0, 0)) ∧ cs.size = m ∧ ∀ i, i < m → cs[i]? = some (mk (f i))
def upd {α : Type} (f : Nat → α) (j : Nat) (v : α) : Nat → α := fun i => if i = j then v else f i
theorem upd_same {α : Type} (f : Nat → α) (j : Nat) (v : α) : upd f j v j = v := if_pos rfl
theorem upd_other {α : Type} (f : Nat → α) (j i : Nat) (v : α) (h : i ≠ j) : upd f j v i = f i := if_neg h

section
variable {α : Type} {mk : α → Value} {t : TypeId} {w w' : World} {B m : Nat} {f : Nat → α}
theorem Row.congr {g : Nat → α} (h : Row mk t w B m f) (e : ∀ i, i < m → f i = g i) : Row mk t w B m g := by
  obtain ⟨cs, h1, h2, h3⟩ := h
  exact ⟨cs, h1, h2, fun i hi => by rw [h3 i hi, e i hi]⟩
theorem Row.lt (h : Row mk t w B m f) : B < w.heap.size := by
  obtain ⟨cs, h1, _⟩ := h
  rcases Nat.lt_or_ge B w.heap.size with hlt | hge
  · exact hlt
  · rw [Array.getElem?_eq_none hge] at h1; cases h1
theorem Row.cell (h : Row mk t w B m f) (i : Nat) (hi : i < m) : w.cell? ⟨B, i, none⟩ = some (mk (f i)) := by
  obtain ⟨cs, h1, h2, h3⟩ := h
  rw [cell_of_row w B i cs t (0, 0) h1, h3 i hi]
theorem Row.frozen (h : Row mk t w B m f) (i : Nat) : w.frozen? ⟨B, i, none⟩ = false := by
  obtain ⟨cs, h1, h2, h3⟩ := h
  simp [World.frozen?, h1]
theorem Row.set (h : Row mk t w B m f) (j : Nat) (v : α) : Row mk t (w.setCell ⟨B, j, none⟩ (mk v)) B m (upd f j v) := by
  obtain ⟨cs, h1, h2, h3⟩ := h
  refine ⟨cs.setIfInBounds j (mk v), ?_, by simpa using h2, fun i hi => ?_⟩
  · simp [World.setCell, Array.getElem?_modify, h1]
  · by_cases e : i = j
    · subst e; rw [upd_same]; simp [h2, hi]
    · rw [upd_other _ _ _ _ e, Array.getElem?_setIfInBounds_ne (Ne.symm e)]; exact h3 i hi
theorem Row.holds (h : Row mk t w B m f) : HoldsG mk w (some ⟨B, 0, none⟩) m f :=
  .inr ⟨B, 0, rfl, h.lt, fun i hi => by rw [Nat.zero_add]; exact h.cell i hi⟩
theorem Row.of_own {base : Nat} {xs : List Value} (h : w.ownsRow base t 1 (.slice (some ⟨B, 0, none⟩) m m) m xs) (hx : ∀ i, i < m → xs[i]? = some (mk (f i))) : Row mk t w B m f := by
  obtain ⟨h1, h2⟩ := h
  rcases h2 with ⟨hv, _⟩ | ⟨g, cap, cur, hv, hg, hh, hn, hm, hs, ht⟩
  · cases hv
  · injection hv with e1 e2 e3
    injection e1 with e1
    injection e1 with e1
    subst e1; subst e3
    refine ⟨cur, hh, by omega, fun i hi => ?_⟩
    have := hx i hi
    rw [← ht, List.getElem?_take, if_pos (by omega)] at this
    simpa using this
theorem Row.made {base : Nat} {z : α} (h : w.ownsRow base t 1 (.slice (some ⟨B, 0, none⟩) m m) m (madeCells #[mk z] (m * 1)).toList) : Row mk t w B m (fun _ => z) :=
  Row.of_own h (fun _ hi => made_get _ _ _ hi)
end
/-- What the call owns stays, where what was there is as it was. -/
theorem own_ext {w w' : World} {base : Nat} {e : TypeId} {size : Nat} {v : Value} {n : Nat} {xs : List Value} (h : w.ownsRow base e size v n xs) (x : Ext w w') : w'.ownsRow base e size v n xs := by
  have hl := h.lt
  refine ⟨h.1, ?_⟩
  rcases h.2 with h | ⟨g, cap, cur, hv, hg, hh, r⟩
  · exact .inl h
  · subst hv
    exact .inr ⟨g, cap, cur, rfl, hg, (Below.block x g (hl g rfl).2).trans hh, r⟩
end Go.Proofs.YtlafnobjfajamaaGreat
namespace Go.Proofs.YtlafnobjfajamaaGreat
open Go.RowKit

/-- Answers: a struct out of its cell, and one value more. -/
theorem results_row_tmp {P : Program} {fn : Func} {p u : Tmp} {ty : TypeId} (h : fn.results = #[.cell p ty, .tmp u]) (tmps : Array Value) (w : World) (g : Nat) (t : TypeId) (cs : Array Value) (fr : Nat × Nat) (d : TypeDesc)
    (hp : tmps.getD p undef = .pointer (some ⟨g, 0, none⟩)) (hg : w.heap[g]? = some (.cells cs t fr))
    (hu : P.underlying ty = some d) (hd : (match d with | .struct _ | .array _ _ => true | _ => false) = true) (hi : (P.info? ty).map (·.size) = some cs.size) :
    (results fn tmps).run P w = .ok (.tuple #[.agg cs, tmps.getD u undef]) w := by
  rw [results_cell_tmp h, hp]
  simp [asAddr, Result.andThen, run_loadVar_row w g t ty cs fr d hg hu hd hi]
/-- What one block holds, later. -/
theorem Ext.block {w w' : World} (x : Ext w w') {g : Nat} {o : Obj} (h : w.heap[g]? = some o) : w'.heap[g]? = some o := by
  have hg : g < w.heap.size := by
    rcases Nat.lt_or_ge g w.heap.size with hlt | hge
    · exact hlt
    · rw [Array.getElem?_eq_none hge] at h; cases h
  exact (Below.block x g hg).trans h
end Go.Proofs.YtlafnobjfajamaaGreat
