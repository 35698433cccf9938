/-
  A REGION THAT DRAWS ITS ORDER, WHOSE OPERATIONS ONLY READ AND WHOSE CALLEES TELL ONE VALUE AND LEAVE WHAT WAS THERE AS IT WAS (they may make memory): one walk in the text's order, over the worlds that come later than one.
-/
import Derived.Test.YtebhalehgpigoaaSlices
import Derived.BigQuiet
namespace Go.Proofs.Ytebhalehgpigoaa
open Go.RowKit

/-- A world in which what was there is as it was. -/
def Later (w : World) : Type := { u : World // Ext w u }
def Later.at {w : World} (x : Later w) : World := x.1
def Later.of {w u : World} (h : Ext w u) : Later w := ⟨u, h⟩
instance (w : World) : Nonempty (Later w) := ⟨Later.of (Ext.refl w)⟩
theorem Later.ext {w : World} (x : Later w) : Ext w x.at := x.2
theorem Later.at_of {w u : World} (h : Ext w u) : (Later.of h).at = u := rfl
theorem Later.cell {w : World} {p o : Nat} {v : Value} (h : w.cell? ⟨p, o, none⟩ = some v) : ∀ x : Later w, x.at.cell? ⟨p, o, none⟩ = some v :=
  fun x => x.ext.cell (World.block_lt_of_cell? w _ h) h
theorem later_of {P : Program} {f : FuncId} {args : Array Value} {w : World} {v : Value} {x : Later w}
    (h : Calls P f args x.at fun e w' => e = .returned v ∧ Ext x.at w') : Calls P f args x.at fun e w'' => e = .returned v ∧ ∃ y : Later w, w'' = y.at :=
  h.mono fun _ _ ⟨he, hx⟩ => ⟨he, Later.of (x.ext.trans hx), rfl⟩
theorem later_same {P : Program} {f : FuncId} {args : Array Value} {w : World} {v : Value} {x : Later w}
    (h : Calls P f args x.at fun e w' => e = .returned v ∧ x.at = w') : Calls P f args x.at fun e w'' => e = .returned v ∧ ∃ y : Later w, w'' = y.at :=
  h.mono fun _ _ ⟨he, hx⟩ => ⟨he, x, hx.symm⟩
theorem wp_region_later {P : Program} {id : Nat} {Q : Exit → Act → World → Prop} {a : Act} {w : World} {l : List Oper} (hm : P.follows .mixedOrders = true) (hB : Region.lexB .any l.toArray = true)
    (h : wpQuiet P l.toArray (fun w' => ∃ x : Later w, w' = x.at) (fun a' => ∀ w', (∃ x : Later w, w' = x.at) → Q .normal a' w') l a) : (Code.region id l.toArray true).wp P Q a w :=
  wp_region_quiet (C := fun w' => ∃ x : Later w, w' = x.at) hm hB ⟨Later.of (Ext.drewN w 1), rfl⟩ (by simpa using h)
/-- A cell of a block that was made just ahead. -/
theorem Ext.made {w w' : World} {cs : Array Value} {t : TypeId} (x : Ext (w.alloc (.cells cs t)) w') (i : Nat) (v : Value) (h : cs[i]? = some v) : w'.cell? ⟨w.heap.size, i, none⟩ = some v :=
  x.cell (by simp) (by rw [World.cell?_alloc_at (hn := rfl)]; exact h)
theorem b_false {B : Bool} {P : Prop} (h : B = true ↔ P) (hn : ¬ P) : false = B := by cases B; rfl; exact absurd (h.1 rfl) hn
theorem b_true {B : Bool} {P : Prop} (h : B = true ↔ P) (hp : P) : true = B := (h.2 hp).symm
theorem b_dec {B : Bool} {P Q : Prop} [Decidable Q] (h : B = true ↔ P) (hq : P ↔ Q) : decide Q = B := by
  rw [Bool.eq_iff_iff, decide_eq_true_iff]; exact (h.trans hq).symm
end Go.Proofs.Ytebhalehgpigoaa
