/-
  SLICES OF INTEGERS AS FUNCTIONS: 'Holds k w a n f': the n cells from the address a on hold f 0, f 1 .. of the kind k.
-/
import Derived.WalkKit
import Derived.WalkSmall
import Derived.OneCell
namespace Go.Proofs.Ytebhalehgpigoaa
open Go.RowKit

def Holds (k : IntKind) (w : World) (a : Option Addr) (n : Nat) (f : Nat → Int) : Prop :=
  n = 0 ∨ ∃ b off, a = some ⟨b, off, none⟩ ∧ b < w.heap.size ∧ ∀ i, i < n → w.cell? ⟨b, off + i, none⟩ = some (.int k (f i))

theorem Holds.below {k : IntKind} {w w' : World} {a : Option Addr} {n : Nat} {f : Nat → Int} (h : Holds k w a n f) (hb : Below w.heap.size w w') : Holds k w' a n f := by
  rcases h with h | ⟨b, off, ha, hlt, hc⟩
  · exact .inl h
  · exact .inr ⟨b, off, ha, Nat.lt_of_lt_of_le hlt hb.size, fun i hi => (hb.cell (p := ⟨b, off + i, none⟩) hlt).trans (hc i hi)⟩

theorem Holds.drewN {k : IntKind} {w : World} {a : Option Addr} {n : Nat} {f : Nat → Int} (h : Holds k w a n f) (q : Nat) : Holds k (w.drewN q) a n f :=
  h.below (below_drewN (Below.refl _ _) q)

theorem Holds.congr {k : IntKind} {w : World} {a : Option Addr} {n : Nat} {f g : Nat → Int} (h : Holds k w a n f) (e : ∀ i, i < n → f i = g i) : Holds k w a n g := by
  rcases h with h | ⟨b, off, ha, hlt, hc⟩
  · exact .inl h
  · exact .inr ⟨b, off, ha, hlt, fun i hi => by rw [hc i hi, e i hi]⟩

/-- Are they as many, and the same? -/
def eqB (n m : Nat) (f g : Nat → Int) : Bool := decide (n = m) && (List.range n).all (fun i => f i == g i)
theorem eqB_true {n m : Nat} {f g : Nat → Int} (h : n = m) (e : ∀ i, i < n → f i = g i) : eqB n m f g = true := by
  simp only [eqB, h, decide_true, Bool.true_and, List.all_eq_true, List.mem_range, beq_iff_eq]; intro i hi; exact e i (by omega)
theorem eqB_false {n m : Nat} {f g : Nat → Int} (h : n ≠ m ∨ ∃ i, i < n ∧ f i ≠ g i) : eqB n m f g = false := by
  simp only [eqB, Bool.and_eq_false_iff, decide_eq_false_iff_not]
  rcases h with h | ⟨i, hi, e⟩
  · exact .inl h
  · refine .inr ?_
    rw [List.all_eq_false]
    exact ⟨i, List.mem_range.2 hi, by simpa using e⟩
theorem eqB_iff {n m : Nat} {f g : Nat → Int} : eqB n m f g = true ↔ n = m ∧ ∀ i, i < n → f i = g i := by
  simp [eqB]

/-- The n cells as a list of values. -/
def lst (k : IntKind) (f : Nat → Int) (n : Nat) : List Value := (List.range n).map (fun i => Value.int k (f i))
theorem lst_length (k : IntKind) (f : Nat → Int) (n : Nat) : (lst k f n).length = n := by simp [lst]
theorem lst_zero (k : IntKind) (f : Nat → Int) : lst k f 0 = [] := rfl
theorem lst_succ (k : IntKind) (f : Nat → Int) (n : Nat) : lst k f n ++ [.int k (f n)] = lst k f (n + 1) := by simp [lst, List.range_succ]
theorem lst_succ2 (k : IntKind) (f : Nat → Int) (n : Nat) : lst k f n ++ [.int k (f n), .int k (f (n + 1))] = lst k f (n + 2) := by
  rw [← lst_succ k f (n + 1), ← lst_succ k f n]; simp
theorem lst_get (k : IntKind) (f : Nat → Int) (n i : Nat) (h : i < n) : (lst k f n)[i]? = some (.int k (f i)) := by simp [lst, h]
theorem lst_congr {k : IntKind} {f g : Nat → Int} {n : Nat} (h : ∀ i, i < n → f i = g i) : lst k f n = lst k g n := by
  simp only [lst]; exact List.map_congr_left fun i hi => by rw [h i (List.mem_range.1 hi)]

/-- What the call owns, as 'Holds'. -/
theorem Holds.of_own {k : IntKind} {w : World} {base : Nat} {e : TypeId} {v : Value} {n : Nat} {f : Nat → Int} (h : w.ownsRow base e 1 v n (lst k f n)) :
    ∃ a cap, v = .slice a n cap ∧ Holds k w a n f := by
  obtain ⟨hlen, h2⟩ := id h
  rcases h2 with ⟨hv, hx⟩ | ⟨g, cap, cur, hv, hg, hh, r⟩
  · subst hx
    exact ⟨none, 0, hv, .inl rfl⟩
  · subst hv
    refine ⟨_, _, rfl, .inr ⟨g, 0, rfl, (h.lt g rfl).2, fun i hi => ?_⟩⟩
    rw [Nat.zero_add, h.cellAt i (by omega), lst_get _ _ _ _ hi]

/-- A literal of cells that has just been laid. -/
theorem Holds.new {k : IntKind} (w : World) (cs : Array Value) (t : TypeId) (n : Nat) (f : Nat → Int) (h : ∀ i, i < n → cs[i]? = some (.int k (f i))) :
    Holds k (w.alloc (.cells cs t)) (some ⟨w.heap.size, 0, none⟩) n f := by
  refine .inr ⟨w.heap.size, 0, rfl, by simp, fun i hi => ?_⟩
  rw [Nat.zero_add, World.cell?_alloc_at (hn := rfl)]
  exact h i hi

/-- A store into another block turns no cell. -/
theorem cell_far {p B : Nat} (h : p ≠ B) (w : World) (o k : Nat) (u : Value) : (w.setCell ⟨B, k, none⟩ u).cell? ⟨p, o, none⟩ = w.cell? ⟨p, o, none⟩ :=
  World.cell?_setCell_other _ _ _ _ (fun e => h (by cases e; rfl))

/-- What was there is as it was. -/
def Ext (w w' : World) : Prop := Below w.heap.size w w'
theorem Ext.refl (w : World) : Ext w w := Below.refl _ _
theorem Ext.trans {a b c : World} (h : Ext a b) (k : Ext b c) : Ext a c := Below.trans h (Below.mono k (Below.size h))
theorem Ext.alloc (w : World) (o : Obj) : Ext w (w.alloc o) := (Below.refl _ _).alloc (Nat.le_refl _) _
theorem Ext.alloc' {w w' : World} (h : Ext w w') (o : Obj) : Ext w (w'.alloc o) := h.trans (Ext.alloc _ _)
theorem Ext.drewN (w : World) (q : Nat) : Ext w (w.drewN q) := below_drewN (Below.refl _ _) q
theorem Ext.drew (w : World) : Ext w w.drew := (Below.refl _ _).drew
theorem Ext.below {w w' : World} (h : Ext w w') : Below w.heap.size w w' := h
theorem Ext.of_drewN {w w' : World} (h : ∃ q, w' = w.drewN q) : Ext w w' := by obtain ⟨q, rfl⟩ := h; exact Ext.drewN _ _
theorem Ext.of_eq {w w' : World} (h : w = w') : Ext w w' := by subst h; exact Ext.refl _
theorem Holds.ext {k : IntKind} {w w' : World} {a : Option Addr} {n : Nat} {f : Nat → Int} (h : Holds k w a n f) (x : Ext w w') : Holds k w' a n f := h.below x

theorem Ext.cell {w w' : World} (x : Ext w w') {p o : Nat} (hp : p < w.heap.size) {v : Value} (h : w.cell? ⟨p, o, none⟩ = some v) : w'.cell? ⟨p, o, none⟩ = some v := (Below.cell x (p := ⟨p, o, none⟩) hp).trans h
theorem Ext.size {w w' : World} (x : Ext w w') : w.heap.size ≤ w'.heap.size := Below.size x

/-- A list as a function. -/
def ofL (l : List Int) : Nat → Int := fun i => l.getD i 0
theorem Holds.lit {k : IntKind} (w : World) (l : List Int) (t : TypeId) (cs : Array Value) (h : cs = (l.map (Value.int k)).toArray) (n : Nat) (hn : n = l.length) : Holds k (w.alloc (.cells cs t)) (some ⟨w.heap.size, 0, none⟩) n (ofL l) :=
  Holds.new _ _ _ _ _ (fun i hi => by subst h; subst hn; simp [ofL, hi])

/-- A slice of integers that came in: nil, or it leads to a row of 'cap' cells, the numbers zs. -/
def IsRow (k : IntKind) (w : World) (a : Option Addr) (len cap : Nat) (zs : List Int) : Prop :=
  (a = none ∧ len = 0 ∧ cap = 0 ∧ zs = []) ∨
  ∃ x, a = some x ∧ len ≤ cap ∧ cap ≤ maxLen ∧ zs.length = cap ∧ (∀ i, i < zs.length → w.cell? (x.add i) = some (.int k (zs.getD i 0))) ∧ ∀ n ∈ zs, (Lit.int k n).wf = true
theorem IsRow.holds {k : IntKind} {w : World} {a : Option Addr} {len cap : Nat} {zs : List Int} (h : IsRow k w a len cap zs) :
    ∃ f, Holds k w a len f ∧ len ≤ maxLen ∧ ∀ i, i < len → (Lit.int k (f i)).wf = true := by
  refine ⟨fun i => zs.getD i 0, ?_⟩
  rcases h with ⟨_, h0, _, _⟩ | ⟨x, ha, hl, hm, hz, hc, hw⟩
  · subst h0; exact ⟨.inl rfl, Nat.zero_le _, fun i hi => absurd hi (by omega)⟩
  · refine ⟨?_, Nat.le_trans hl hm, fun i hi => hw _ ?_⟩
    · by_cases h0 : len = 0
      · exact .inl h0
      · obtain ⟨b, off, spot⟩ := x
        have hc0 := hc 0 (by omega)
        have hspot : spot = none := by simpa [Addr.add] using World.cell?_spot hc0
        subst hspot
        refine .inr ⟨b, off, ha, World.block_lt_of_cell? w _ hc0, fun i hi => ?_⟩
        have e : (⟨b, off, none⟩ : Addr).add i = ⟨b, off + i, none⟩ := by unfold Addr.add; split <;> simp_all
        rw [← e]
        exact hc i (by omega)
    · show zs.getD i 0 ∈ zs
      rw [List.getD_eq_getElem?_getD, List.getElem?_eq_getElem (by omega)]
      exact List.getElem_mem _
end Go.Proofs.Ytebhalehgpigoaa
