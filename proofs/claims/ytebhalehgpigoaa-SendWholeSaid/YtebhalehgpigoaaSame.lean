/-
  CONTRACTS of the document's comparisons, where what they compare is the same; small facts on literals.
-/
import Derived.Test.YtebhalehgpigoaaBools
import Derived.Test.YtebhalehgpigoaaRef01
namespace Go.Proofs.Ytebhalehgpigoaa
open Go.RowKit

theorem bytes_eq (a b : Option Addr) (n m c d : Nat) (f g : Nat → Int) (w : World) (ha : Holds .u8 w a n f) (hb : Holds .u8 w b m g) (hn : n ≤ 1000000) (e : n = m ∧ ∀ i, i < n → f i = g i) :
    Calls Try.prog 13 #[.slice a n c, .slice b m d] w fun e w' => e = .returned (.bool true) ∧ Ext w w' := by
  obtain ⟨rfl, e⟩ := e
  exact (bytes_any a b n n c d f g w ha hb hn hn).mono fun _ _ h => ⟨by rw [h.1, eqB_true rfl e], Ext.of_drewN h.2⟩
/-- Any fact below a small number, closed. -/
theorem below_of {P : Nat → Prop} [DecidablePred P] (n : Nat) (h : (List.range n).all (fun i => decide (P i)) = true) : ∀ i, i < n → P i := fun i hi => by
  have := List.all_eq_true.1 h i (List.mem_range.2 hi)
  exact of_decide_eq_true this
/-- Two literals, one behind the other. -/
theorem Holds.lit_first {k : IntKind} (w : World) (l : List Int) (t : TypeId) (cs : Array Value) (o : Obj) (h : cs = (l.map (Value.int k)).toArray) (n : Nat) (hn : n = l.length) : Holds k ((w.alloc (.cells cs t)).alloc o) (some ⟨w.heap.size, 0, none⟩) n (ofL l) :=
  (Holds.lit w l t cs h n hn).ext (Ext.alloc _ _)
theorem Holds.lit_second {k : IntKind} (w : World) (l : List Int) (t : TypeId) (cs : Array Value) (o : Obj) (h : cs = (l.map (Value.int k)).toArray) (n : Nat) (hn : n = l.length) : Holds k ((w.alloc o).alloc (.cells cs t)) (some ⟨w.heap.size + 1, 0, none⟩) n (ofL l) := by
  have h2 := Holds.lit (k := k) (w.alloc o) l t cs h n hn
  have e : (w.alloc o).heap.size = w.heap.size + 1 := by simp
  rw [e] at h2; exact h2
end Go.Proofs.Ytebhalehgpigoaa
