/-
  BLOCKS OF THE CALL'S OWN AS FUNCTIONS: 'Row mk t w B m f': block B is just the m cells mk (f 0), mk (f 1) .. of type t, none frozen.
-/
import Derived.Test.YtebhalehgpigoaaBools
import Derived.Deep.Draws
namespace Go.Proofs.Ytebhalehgpigoaa
open Go.RowKit

def Row {α : Type} (mk : α → Value) (t : TypeId) (w : World) (B m : Nat) (f : Nat → α) : Prop :=
  ∃ cs : Array Value, w.heap[B]? = some (.cells cs t (0, 0)) ∧ cs.size = m ∧ ∀ i, i < m → cs[i]? = some (mk (f i))
def upd {α : Type} (f : Nat → α) (j : Nat) (v : α) : Nat → α := fun i => if i = j then v else f i
theorem upd_same {α : Type} (f : Nat → α) (j : Nat) (v : α) : upd f j v j = v := if_pos rfl
theorem upd_other {α : Type} (f : Nat → α) (j i : Nat) (v : α) (h : i ≠ j) : upd f j v i = f i := if_neg h

section
variable {α : Type} {mk : α → Value} {t : TypeId} {w w' : World} {B m : Nat} {f : Nat → α}
theorem Row.congr {g : Nat → α} (h : Row mk t w B m f) (e : ∀ i, i < m → f i = g i) : Row mk t w B m g := by
  obtain ⟨cs, h1, h2, h3⟩ := h
  exact ⟨cs, h1, h2, fun i hi => by rw [h3 i hi, e i hi]⟩
theorem Row.lt (h : Row mk t w B m f) : B < w.heap.size := by
  obtain ⟨cs, h1, _⟩ := h
  rcases Nat.lt_or_ge B w.heap.size with hlt | hge
  · exact hlt
  · rw [Array.getElem?_eq_none hge] at h1; cases h1
theorem Row.cell (h : Row mk t w B m f) (i : Nat) (hi : i < m) : w.cell? ⟨B, i, none⟩ = some (mk (f i)) := by
  obtain ⟨cs, h1, h2, h3⟩ := h
  rw [cell_of_row w B i cs t (0, 0) h1, h3 i hi]
theorem Row.frozen (h : Row mk t w B m f) (i : Nat) : w.frozen? ⟨B, i, none⟩ = false := by
  obtain ⟨cs, h1, h2, h3⟩ := h
  simp [World.frozen?, h1]
theorem Row.set (h : Row mk t w B m f) (j : Nat) (v : α) : Row mk t (w.setCell ⟨B, j, none⟩ (mk v)) B m (upd f j v) := by
  obtain ⟨cs, h1, h2, h3⟩ := h
  refine ⟨cs.setIfInBounds j (mk v), ?_, by simpa using h2, fun i hi => ?_⟩
  · simp [World.setCell, Array.getElem?_modify, h1]
  · by_cases e : i = j
    · subst e; rw [upd_same]; simp [h2, hi]
    · rw [upd_other _ _ _ _ e, Array.getElem?_setIfInBounds_ne (Ne.symm e)]; exact h3 i hi
theorem Row.drew (h : Row mk t w B m f) : Row mk t w.drew B m f := h
theorem Row.drewN (h : Row mk t w B m f) (q : Nat) : Row mk t (w.drewN q) B m f := h
theorem Row.below {N : Nat} (h : Row mk t w B m f) (hb : Below N w w') (hN : B < N) : Row mk t w' B m f := by
  obtain ⟨cs, h1, h2⟩ := h
  exact ⟨cs, (hb.block B hN).trans h1, h2⟩
theorem Row.ext (h : Row mk t w B m f) (x : Ext w w') : Row mk t w' B m f := h.below x h.lt
theorem Row.alloc (h : Row mk t w B m f) (o : Obj) : Row mk t (w.alloc o) B m f := h.ext (Ext.alloc w o)
theorem Row.far (h : Row mk t w B m f) {p : Addr} (hp : B ≠ p.block) (u : Value) : Row mk t (w.setCell p u) B m f := by
  obtain ⟨cs, h1, h2⟩ := h
  exact ⟨cs, (Below.heap_setCell w p u B hp).trans h1, h2⟩
theorem Row.holds (h : Row mk t w B m f) : HoldsG mk w (some ⟨B, 0, none⟩) m f :=
  .inr ⟨B, 0, rfl, h.lt, fun i hi => by rw [Nat.zero_add]; exact h.cell i hi⟩
theorem Row.of_own {base : Nat} {xs : List Value} (h : w.ownsRow base t 1 (.slice (some ⟨B, 0, none⟩) m m) m xs) (hx : ∀ i, i < m → xs[i]? = some (mk (f i))) : Row mk t w B m f := by
  obtain ⟨h1, h2⟩ := h
  rcases h2 with ⟨hv, _⟩ | ⟨g, cap, cur, hv, hg, hh, hn, hm, hs, ht⟩
  · cases hv
  · injection hv with e1 e2 e3
    injection e1 with e1
    injection e1 with e1
    subst e1; subst e3
    refine ⟨cur, hh, by omega, fun i hi => ?_⟩
    have := hx i hi
    rw [← ht, List.getElem?_take, if_pos (by omega)] at this
    simpa using this
theorem Row.made {base : Nat} {z : α} (h : w.ownsRow base t 1 (.slice (some ⟨B, 0, none⟩) m m) m (madeCells #[mk z] (m * 1)).toList) : Row mk t w B m (fun _ => z) :=
  Row.of_own h (fun _ hi => made_get _ _ _ hi)
theorem Row.new (w : World) (cs : Array Value) (t : TypeId) (m : Nat) (f : Nat → α) (hs : cs.size = m) (h : ∀ i, i < m → cs[i]? = some (mk (f i))) : Row mk t (w.alloc (.cells cs t)) w.heap.size m f :=
  ⟨cs, heap_alloc_new w _, hs, h⟩
/-- What the call owns, read as a block, goes on growing: back to 'ownsRow'. -/
theorem Row.owns {base : Nat} (h : Row mk t w B m f) (hb : base ≤ B) (hm : m ≤ maxLen) : w.ownsRow base t 1 (.slice (some ⟨B, 0, none⟩) m m) m (lstG mk f m) := by
  obtain ⟨cs, h1, h2, h3⟩ := h
  refine ⟨by rw [lstG_length]; omega, .inr ⟨B, m, cs, rfl, hb, h1, Nat.le_refl _, hm, by omega, ?_⟩⟩
  apply List.ext_getElem?
  intro i
  by_cases hi : i < m
  · rw [List.getElem?_take, if_pos (by omega), lstG_get _ _ _ _ hi, Array.getElem?_toList]; exact h3 i hi
  · rw [List.getElem?_eq_none (by simp; omega), List.getElem?_eq_none (by rw [lstG_length]; omega)]
end
/-- What the call owns stays, where what was there is as it was. -/
theorem own_ext {w w' : World} {base : Nat} {e : TypeId} {size : Nat} {v : Value} {n : Nat} {xs : List Value} (h : w.ownsRow base e size v n xs) (x : Ext w w') : w'.ownsRow base e size v n xs := by
  have hl := h.lt
  refine ⟨h.1, ?_⟩
  rcases h.2 with h | ⟨g, cap, cur, hv, hg, hh, r⟩
  · exact .inl h
  · subst hv
    exact .inr ⟨g, cap, cur, rfl, hg, (Below.block x g (hl g rfl).2).trans hh, r⟩
/-- A store into a block that came behind. -/
theorem Below.set {N : Nat} {w w' : World} (h : Below N w w') {p : Addr} (hp : N ≤ p.block) (u : Value) : Below N w (w'.setCell p u) := h.setCell hp u
end Go.Proofs.Ytebhalehgpigoaa
