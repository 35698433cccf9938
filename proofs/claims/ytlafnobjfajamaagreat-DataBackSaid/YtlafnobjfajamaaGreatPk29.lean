/-
  WHAT COMES IN, OPENED: slices of integers and of bools wherever they lie, arrays of two; with the reach (each slice takes at most 2^47 - 4096 bytes).
  WHAT COMES IN, OPENED: slices of structs of one-cell fields, wherever they lie; with the reach.
-/
import Derived.Test.YtlafnobjfajamaaGreatPk1
import Derived.ProofKit
import Derived.OpenShut
import Derived.SizedLaws
import Derived.Lib.SmallJoins
import Derived.Deep.Grids
import Derived.Test.YtlafnobjfajamaaGreatPk5
import Derived.Deep.Slices
import Derived.Deep.Fields
import Derived.ChangeSame
namespace Go.Proofs.YtlafnobjfajamaaGreat
open Go.RowKit Go.ChangeShapes Go.WideShapes Go.ChangeAt Go.Joins

section
variable {H : Type} {enc : TypeId × Value → H} {P : Program} {w : World}

def Light (P : Program) (t : TypeId) (d : DataW H) : Prop := ∀ n ∈ d.weights P t, n ≤ reachBytes
theorem light_of {ts : List TypeId} {ds : List (DataW H)} {j : Nat} {t : TypeId} {d : DataW H} (h : (DataW.weightsEach P ts ds).all (· ≤ reachBytes) = true) (ht : ts[j]? = some t) (hd : ds[j]? = some d) : Light P t d :=
  fun n hn => of_decide_eq_true (List.all_eq_true.1 h n (DataW.weights_mem_each ht hd n hn))

theorem row_in {t e : TypeId} {k : IntKind} {fuel B : Nat} {a : Option Addr} {len cap : Nat} {y : DataW H × List MemPlace} (ht : P.underlying t = some (.slice e)) (he : P.underlying e = some (.int k)) (hc : P.cellsOf e = 1) (hb : P.bytesOf e = B)
    (h : DataW.trod enc P w 0 (fun _ => true) true fuel t [.slice a len cap] = some y) (hl : Light P t y.1) :
    ∃ f, Holds k w a len f ∧ len ≤ cap ∧ cap * B ≤ 140737488351232 ∧ ∀ i, i < len → (Lit.int k (f i)).wf = true := by
  rcases open_ints ht he hc h with ⟨hcs, hx⟩ | ⟨x, l, c, zs, hcs, _, hle, hm, hz, hx, hcell, hwz⟩
  · simp at hcs
    obtain ⟨rfl, rfl, rfl⟩ := hcs
    exact ⟨fun _ => 0, .inl rfl, Nat.le_refl _, by omega, fun i hi => absurd hi (by omega)⟩
  · simp at hcs
    obtain ⟨rfl, rfl, rfl⟩ := hcs
    have hrow : IsRow k w (some x) len cap zs := .inr ⟨_, rfl, hle, hm, by simpa using hz, hcell, hwz⟩
    obtain ⟨f, hf, _, hw⟩ := hrow.holds
    refine ⟨f, hf, hle, ?_, hw⟩
    have hz' : zs.length = cap := by simpa using hz
    have := hl (cap * P.bytesOf e) (by
      subst hx
      simp only [DataW.weights, ht, List.mem_cons]
      left
      simp [lits]; congr 1; omega)
    rw [hb] at this
    exact this

theorem brow_in {t e : TypeId} {fuel B : Nat} {a : Option Addr} {len cap : Nat} {y : DataW H × List MemPlace} (ht : P.underlying t = some (.slice e)) (he : P.underlying e = some .bool) (hc : P.cellsOf e = 1) (hb : P.bytesOf e = B)
    (h : DataW.trod enc P w 0 (fun _ => true) true fuel t [.slice a len cap] = some y) (hl : Light P t y.1) :
    ∃ f, HoldsG Value.bool w a len f ∧ len ≤ cap ∧ cap * B ≤ 140737488351232 := by
  rcases Deep.open_bools ht he hc h with ⟨hcs, hx⟩ | ⟨x, l, c, Z, hcs, _, hle, hm, hx, hcell⟩
  · simp at hcs
    obtain ⟨rfl, rfl, rfl⟩ := hcs
    exact ⟨fun _ => false, .inl rfl, Nat.le_refl _, by omega⟩
  · simp at hcs
    obtain ⟨rfl, rfl, rfl⟩ := hcs
    obtain ⟨f, hf, _, _, _⟩ := bools_in2 (w := w) (a := some x) (len := len) (cap := cap) (.inr ⟨x, Z, rfl, hle, hm, hcell⟩)
    refine ⟨f, hf, hle, ?_⟩
    have := hl (cap * P.bytesOf e) (by
      subst hx
      simp only [Deep.boolRow, DataW.weights, ht, List.mem_cons]
      left
      simp; congr 1; omega)
    rw [hb] at this
    exact this

end
end Go.Proofs.YtlafnobjfajamaaGreat
namespace Go.Proofs.YtlafnobjfajamaaGreat
open Go.RowKit Go.ChangeShapes Go.WideShapes Go.ChangeAt Go.Joins Go.Deep

section
variable {H : Type} {enc : TypeId × Value → H} {P : Program} {w : World}
end
end Go.Proofs.YtlafnobjfajamaaGreat
