/-
  WHAT COMES IN, OPENED: slices of integers and of bools wherever they lie, arrays of two; with the reach (each slice takes at most 2^47 - 4096 bytes).
-/
import Derived.Test.YtanoakebbfidiaaDoorBools
import Derived.ProofKit
import Derived.OpenShut
import Derived.SizedLaws
import Derived.Lib.SmallJoins
import Derived.Deep.Grids
namespace Go.Proofs.YtanoakebbfidiaaDoor
open Go.RowKit Go.ChangeShapes Go.WideShapes Go.ChangeAt Go.Joins

section
variable {H : Type} {enc : TypeId × Value → H} {P : Program} {w : World}

def Light (P : Program) (t : TypeId) (d : DataW H) : Prop := ∀ n ∈ d.weights P t, n ≤ reachBytes
theorem light_of {ts : List TypeId} {ds : List (DataW H)} {j : Nat} {t : TypeId} {d : DataW H} (h : (DataW.weightsEach P ts ds).all (· ≤ reachBytes) = true) (ht : ts[j]? = some t) (hd : ds[j]? = some d) : Light P t d :=
  fun n hn => of_decide_eq_true (List.all_eq_true.1 h n (DataW.weights_mem_each ht hd n hn))

theorem row_in {t e : TypeId} {k : IntKind} {fuel B : Nat} {a : Option Addr} {len cap : Nat} {y : DataW H × List MemPlace} (ht : P.underlying t = some (.slice e)) (he : P.underlying e = some (.int k)) (hc : P.cellsOf e = 1) (hb : P.bytesOf e = B)
    (h : DataW.trod enc P w 0 (fun _ => true) true fuel t [.slice a len cap] = some y) (hl : Light P t y.1) :
    ∃ f, Holds k w a len f ∧ len ≤ cap ∧ cap * B ≤ 140737488351232 ∧ ∀ i, i < len → (Lit.int k (f i)).wf = true := by
  rcases open_ints ht he hc h with ⟨hcs, hx⟩ | ⟨x, l, c, zs, hcs, _, hle, hm, hz, hx, hcell, hwz⟩
  · simp at hcs
    obtain ⟨rfl, rfl, rfl⟩ := hcs
    exact ⟨fun _ => 0, .inl rfl, Nat.le_refl _, by omega, fun i hi => absurd hi (by omega)⟩
  · simp at hcs
    obtain ⟨rfl, rfl, rfl⟩ := hcs
    have hrow : IsRow k w (some x) len cap zs := .inr ⟨_, rfl, hle, hm, by simpa using hz, hcell, hwz⟩
    obtain ⟨f, hf, _, hw⟩ := hrow.holds
    refine ⟨f, hf, hle, ?_, hw⟩
    have hz' : zs.length = cap := by simpa using hz
    have := hl (cap * P.bytesOf e) (by
      subst hx
      simp only [DataW.weights, ht, List.mem_cons]
      left
      simp [lits]; congr 1; omega)
    rw [hb] at this
    exact this

theorem brow_in {t e : TypeId} {fuel B : Nat} {a : Option Addr} {len cap : Nat} {y : DataW H × List MemPlace} (ht : P.underlying t = some (.slice e)) (he : P.underlying e = some .bool) (hc : P.cellsOf e = 1) (hb : P.bytesOf e = B)
    (h : DataW.trod enc P w 0 (fun _ => true) true fuel t [.slice a len cap] = some y) (hl : Light P t y.1) :
    ∃ f, HoldsG Value.bool w a len f ∧ len ≤ cap ∧ cap * B ≤ 140737488351232 := by
  rcases Deep.open_bools ht he hc h with ⟨hcs, hx⟩ | ⟨x, l, c, Z, hcs, _, hle, hm, hx, hcell⟩
  · simp at hcs
    obtain ⟨rfl, rfl, rfl⟩ := hcs
    exact ⟨fun _ => false, .inl rfl, Nat.le_refl _, by omega⟩
  · simp at hcs
    obtain ⟨rfl, rfl, rfl⟩ := hcs
    obtain ⟨f, hf, _, _, _⟩ := bools_in2 (w := w) (a := some x) (len := len) (cap := cap) (.inr ⟨x, Z, rfl, hle, hm, hcell⟩)
    refine ⟨f, hf, hle, ?_⟩
    have := hl (cap * P.bytesOf e) (by
      subst hx
      simp only [Deep.boolRow, DataW.weights, ht, List.mem_cons]
      left
      simp; congr 1; omega)
    rw [hb] at this
    exact this

/-- An array of two one-cell elements, by value. -/
theorem array2_in {r : Reach} {b0 : Nat} {t e : TypeId} {v : Value} {d : DataW H} {p : List MemPlace} (ht : P.underlying t = some (.array 2 e)) (hce : P.cellsOf e = 1) (hC : P.cellsOf t = 2)
    (hv : Value.okWide P w r b0 t v) (h : DataW.Trod enc P w 0 (fun _ => true) true t v d p) (hl : Light P t d) :
    ∃ v0 v1 y0 y1 m, v = .agg #[v0, v1] ∧ DataW.trod enc P w 0 (fun _ => true) true m e [v0] = some y0 ∧ DataW.trod enc P w 0 (fun _ => true) true m e [v1] = some y1 ∧ Light P e y0.1 ∧ Light P e y1.1 := by
  unfold Value.okWide at hv
  rw [ht] at hv
  obtain ⟨cs, rfl, hsz, _⟩ := hv
  obtain ⟨c0, c1, rfl⟩ := array2 (hsz.trans hC)
  obtain ⟨fuel, hf⟩ := h
  obtain ⟨xs, m, _, hx, _, hlen, hel⟩ := DataW.trod_array ht hf
  obtain ⟨y0, y1, rfl⟩ : ∃ y0 y1, xs = [y0, y1] := by
    match xs, hlen with
    | [y0, y1], _ => exact ⟨y0, y1, rfl⟩
  have e0 := hel 0 (by omega)
  have e1 := hel 1 (by omega)
  simp [hce, Value.cells] at e0 e1
  simp only [Prod.mk.injEq, List.map_cons, List.map_nil] at hx
  refine ⟨c0, c1, y0, y1, m, rfl, e0, e1, fun n hn => hl n ?_, fun n hn => hl n ?_⟩
  · rw [hx.1]; simp only [DataW.weights, ht, DataW.weightsAll, List.mem_append]; exact .inl hn
  · rw [hx.1]; simp only [DataW.weights, ht, DataW.weightsAll, List.mem_append]; exact .inr (.inl hn)
end
end Go.Proofs.YtanoakebbfidiaaDoor
