/-
  WHAT COMES IN, OPENED: slices of integers and of bools wherever they lie, arrays of two; with the reach (each slice takes at most 2^47 - 4096 bytes).
  WHAT COMES IN, OPENED: slices of structs of one-cell fields, wherever they lie; with the reach.
-/
import Derived.Test.YtebhalehgpigoaaBools
import Derived.ProofKit
import Derived.OpenShut
import Derived.SizedLaws
import Derived.Lib.SmallJoins
import Derived.Deep.Grids
import Derived.Test.YtebhalehgpigoaaLists
import Derived.Deep.Slices
import Derived.Deep.Fields
import Derived.ChangeSame
namespace Go.Proofs.Ytebhalehgpigoaa
open Go.RowKit Go.ChangeShapes Go.WideShapes Go.ChangeAt Go.Joins

section
variable {H : Type} {enc : TypeId × Value → H} {P : Program} {w : World}

def Light (P : Program) (t : TypeId) (d : DataW H) : Prop := ∀ n ∈ d.weights P t, n ≤ reachBytes
theorem light_of {ts : List TypeId} {ds : List (DataW H)} {j : Nat} {t : TypeId} {d : DataW H} (h : (DataW.weightsEach P ts ds).all (· ≤ reachBytes) = true) (ht : ts[j]? = some t) (hd : ds[j]? = some d) : Light P t d :=
  fun n hn => of_decide_eq_true (List.all_eq_true.1 h n (DataW.weights_mem_each ht hd n hn))

theorem row_in {t e : TypeId} {k : IntKind} {fuel B : Nat} {a : Option Addr} {len cap : Nat} {y : DataW H × List MemPlace} (ht : P.underlying t = some (.slice e)) (he : P.underlying e = some (.int k)) (hc : P.cellsOf e = 1) (hb : P.bytesOf e = B)
    (h : DataW.trod enc P w 0 (fun _ => true) true fuel t [.slice a len cap] = some y) (hl : Light P t y.1) :
    ∃ f, Holds k w a len f ∧ len ≤ cap ∧ cap * B ≤ 140737488351232 ∧ ∀ i, i < len → (Lit.int k (f i)).wf = true := by
  rcases open_ints ht he hc h with ⟨hcs, hx⟩ | ⟨x, l, c, zs, hcs, _, hle, hm, hz, hx, hcell, hwz⟩
  · simp at hcs
    obtain ⟨rfl, rfl, rfl⟩ := hcs
    exact ⟨fun _ => 0, .inl rfl, Nat.le_refl _, by omega, fun i hi => absurd hi (by omega)⟩
  · simp at hcs
    obtain ⟨rfl, rfl, rfl⟩ := hcs
    have hrow : IsRow k w (some x) len cap zs := .inr ⟨_, rfl, hle, hm, by simpa using hz, hcell, hwz⟩
    obtain ⟨f, hf, _, hw⟩ := hrow.holds
    refine ⟨f, hf, hle, ?_, hw⟩
    have hz' : zs.length = cap := by simpa using hz
    have := hl (cap * P.bytesOf e) (by
      subst hx
      simp only [DataW.weights, ht, List.mem_cons]
      left
      simp [lits]; congr 1; omega)
    rw [hb] at this
    exact this

theorem brow_in {t e : TypeId} {fuel B : Nat} {a : Option Addr} {len cap : Nat} {y : DataW H × List MemPlace} (ht : P.underlying t = some (.slice e)) (he : P.underlying e = some .bool) (hc : P.cellsOf e = 1) (hb : P.bytesOf e = B)
    (h : DataW.trod enc P w 0 (fun _ => true) true fuel t [.slice a len cap] = some y) (hl : Light P t y.1) :
    ∃ f, HoldsG Value.bool w a len f ∧ len ≤ cap ∧ cap * B ≤ 140737488351232 := by
  rcases Deep.open_bools ht he hc h with ⟨hcs, hx⟩ | ⟨x, l, c, Z, hcs, _, hle, hm, hx, hcell⟩
  · simp at hcs
    obtain ⟨rfl, rfl, rfl⟩ := hcs
    exact ⟨fun _ => false, .inl rfl, Nat.le_refl _, by omega⟩
  · simp at hcs
    obtain ⟨rfl, rfl, rfl⟩ := hcs
    obtain ⟨f, hf, _, _, _⟩ := bools_in2 (w := w) (a := some x) (len := len) (cap := cap) (.inr ⟨x, Z, rfl, hle, hm, hcell⟩)
    refine ⟨f, hf, hle, ?_⟩
    have := hl (cap * P.bytesOf e) (by
      subst hx
      simp only [Deep.boolRow, DataW.weights, ht, List.mem_cons]
      left
      simp; congr 1; omega)
    rw [hb] at this
    exact this

/-- An array of two one-cell elements, by value. -/
theorem array2_in {r : Reach} {b0 : Nat} {t e : TypeId} {v : Value} {d : DataW H} {p : List MemPlace} (ht : P.underlying t = some (.array 2 e)) (hce : P.cellsOf e = 1) (hC : P.cellsOf t = 2)
    (hv : Value.okWide P w r b0 t v) (h : DataW.Trod enc P w 0 (fun _ => true) true t v d p) (hl : Light P t d) :
    ∃ v0 v1 y0 y1 m, v = .agg #[v0, v1] ∧ DataW.trod enc P w 0 (fun _ => true) true m e [v0] = some y0 ∧ DataW.trod enc P w 0 (fun _ => true) true m e [v1] = some y1 ∧ Light P e y0.1 ∧ Light P e y1.1 := by
  unfold Value.okWide at hv
  rw [ht] at hv
  obtain ⟨cs, rfl, hsz, _⟩ := hv
  obtain ⟨c0, c1, rfl⟩ := array2 (hsz.trans hC)
  obtain ⟨fuel, hf⟩ := h
  obtain ⟨xs, m, _, hx, _, hlen, hel⟩ := DataW.trod_array ht hf
  obtain ⟨y0, y1, rfl⟩ : ∃ y0 y1, xs = [y0, y1] := by
    match xs, hlen with
    | [y0, y1], _ => exact ⟨y0, y1, rfl⟩
  have e0 := hel 0 (by omega)
  have e1 := hel 1 (by omega)
  simp [hce, Value.cells] at e0 e1
  simp only [Prod.mk.injEq, List.map_cons, List.map_nil] at hx
  refine ⟨c0, c1, y0, y1, m, rfl, e0, e1, fun n hn => hl n ?_, fun n hn => hl n ?_⟩
  · rw [hx.1]; simp only [DataW.weights, ht, DataW.weightsAll, List.mem_append]; exact .inl hn
  · rw [hx.1]; simp only [DataW.weights, ht, DataW.weightsAll, List.mem_append]; exact .inr (.inl hn)
end
end Go.Proofs.Ytebhalehgpigoaa
namespace Go.Proofs.Ytebhalehgpigoaa
open Go.RowKit Go.ChangeShapes Go.WideShapes Go.ChangeAt Go.Joins Go.Deep

section
variable {H : Type} {enc : TypeId × Value → H} {P : Program} {w : World}
/-- The cells of an element, by its fields. -/
def fieldsOf (sz : Nat) (x : Nat → Value) : List Value := (List.range sz).map x
theorem fieldsOf_get {sz : Nat} {x : Nat → Value} {j : Nat} {v : Value} (h : (fieldsOf sz x)[j]? = some v) : j < sz ∧ v = x j := by
  unfold fieldsOf at h
  rw [List.getElem?_map] at h
  by_cases hj : j < sz
  · rw [List.getElem?_range hj] at h; exact ⟨hj, (Option.some.inj h).symm⟩
  · rw [List.getElem?_eq_none (by simp; omega)] at h; cases h
theorem rows_in {t e : TypeId} {fs : Array Field} {fuel sz B : Nat} {a : Option Addr} {len cap : Nat} {y : DataW H × List MemPlace} (ht : P.underlying t = some (.slice e)) (he : P.underlying e = some (.struct fs))
    (hone : oneCellFields P fs = true) (hs : fs.size = sz) (hC : P.cellsOf e = sz) (h0 : 0 < sz) (hb : P.bytesOf e = B) (h : DataW.trod enc P w 0 (fun _ => true) true fuel t [.slice a len cap] = some y) (hl : Light P t y.1) :
    ∃ V : Nat → Nat → Value, HoldsL sz (fieldsOf sz) w a ((List.range len).map V) ∧ len ≤ cap ∧ cap * B ≤ 140737488351232 ∧
      ∀ i, i < len → ∀ j f, fs[j]? = some f → ∃ (n : Nat) (z : DataW H × List MemPlace), DataW.trod enc P w 0 (fun _ => true) true n f.type [V i j] = some z := by
  rcases open_slice ht h with ⟨hcs, hx⟩ | ⟨x, l, c, m, n, D, Pl, hcs, _, hle, hm, hmm, hx, hel⟩
  · simp at hcs
    obtain ⟨rfl, rfl, rfl⟩ := hcs
    exact ⟨fun _ _ => undef, .inl rfl, Nat.le_refl _, by omega, fun i hi => absurd hi (by omega)⟩
  · simp at hcs
    obtain ⟨rfl, rfl, rfl⟩ := hcs
    simp only [if_true] at hmm
    subst m
    have each : ∀ i, i < len → ∃ v : Nat → Value, ∀ j f, fs[j]? = some f → w.cell? (x.add (i * sz + j)) = some (v j) ∧ ∃ (n : Nat) (z : DataW H × List MemPlace), DataW.trod enc P w 0 (fun _ => true) true n f.type [v j] = some z := by
      intro i hi
      obtain ⟨cs', h1, h2⟩ := hel i (by omega)
      rw [hC] at h1
      obtain ⟨_, hcl, hat⟩ := World.cells?_some h1
      obtain ⟨ys, n', _, _, hlen, hyl, hf⟩ := DataW.trod_struct he h2
      refine ⟨fun j => cs'.getD j undef, fun j f hj => ?_⟩
      obtain ⟨ho, hk⟩ := hone_of hone j f hj
      have hjs : j < fs.size := (Array.getElem?_eq_some_iff.1 hj).1
      have hjl : j < cs'.length := by omega
      have hg : cs'.getD j undef = cs'[j] := by rw [List.getD_eq_getElem?_getD, List.getElem?_eq_getElem hjl]; rfl
      have hf1 := hf j f hj
      rw [ho, hk] at hf1
      have hd : (cs'.drop j).take 1 = [cs'[j]] := by rw [List.drop_eq_getElem_cons hjl]; rfl
      rw [hd] at hf1
      have hyj : ys[j]? = some ys[j] := List.getElem?_eq_getElem (by omega)
      refine ⟨?_, n', ys[j], ?_⟩
      · have e := hat j (by omega)
        rw [add_add] at e
        rw [e]; simp only [hg]; exact List.getElem?_eq_getElem hjl
      · simp only [hg]; exact hf1.trans hyj
    obtain ⟨V, hV⟩ := choose_lt (α := Nat → Value) each
    refine ⟨V, ?_, hle, ?_, fun i hi j f hj => (hV i hi j f hj).2⟩
    · by_cases hn : len = 0
      · exact .inl (by subst hn; rfl)
      · have hf0 : fs[0]? = some fs[0] := Array.getElem?_eq_getElem (by omega)
        have c0 := (hV 0 (by omega) 0 _ hf0).1
        obtain ⟨b, off, spot⟩ := x
        have hspot : spot = none := by simpa [Addr.add] using World.cell?_spot c0
        subst hspot
        have hblk : b < w.heap.size := by
          have ea : (⟨b, off, none⟩ : Addr).add (0 * sz + 0) = ⟨b, off + (0 * sz + 0), none⟩ := by unfold Addr.add; split <;> simp_all
          rw [ea] at c0; exact World.block_lt_of_cell? w _ c0
        refine .inr ⟨b, off, rfl, hblk, fun i q hq j v hv => ?_⟩
        rw [List.getElem?_map] at hq
        by_cases hi : i < len
        · rw [List.getElem?_range hi] at hq
          obtain rfl := Option.some.inj hq
          obtain ⟨hj, rfl⟩ := fieldsOf_get hv
          have hfj : fs[j]? = some fs[j] := Array.getElem?_eq_getElem (by omega)
          have := (hV i hi j _ hfj).1
          rw [show off + i * sz + j = off + (i * sz + j) by omega]
          have ea : (⟨b, off, none⟩ : Addr).add (i * sz + j) = ⟨b, off + (i * sz + j), none⟩ := by unfold Addr.add; split <;> simp_all
          rw [← ea]; exact this
        · rw [List.getElem?_eq_none (by simp; omega)] at hq; cases hq
    · have := hl (cap * P.bytesOf e) (by
        subst hx
        simp only [DataW.weights, ht, List.mem_cons]
        left
        simp; congr 1; omega)
      rw [hb] at this
      exact this
/-- The same elements, told otherwise. -/
theorem HoldsL.map {α β : Type} {sz : Nat} {mk : α → List Value} {mk' : β → List Value} {a : Option Addr} {L : List α} (g : α → β) (h : HoldsL sz mk w a L) (e : ∀ x ∈ L, mk x = mk' (g x)) : HoldsL sz mk' w a (L.map g) := by
  rcases h with h | ⟨b, off, ha, hlt, hc⟩
  · exact .inl (by rw [h]; rfl)
  · refine .inr ⟨b, off, ha, hlt, fun i y hy j v hv => ?_⟩
    rw [List.getElem?_map] at hy
    cases hx : L[i]? with
    | none => rw [hx] at hy; cases hy
    | some x =>
      rw [hx] at hy
      obtain rfl := Option.some.inj hy
      exact hc i x hx j v (by rw [e x (List.mem_of_getElem? hx)]; exact hv)
/-- A number behind a value that reads as one. -/
def numOf : Value → Int
  | .int _ n => n
  | _ => 0
theorem num_in {t : TypeId} {k : IntKind} {n : Nat} {v : Value} {z : DataW H × List MemPlace} (ht : P.underlying t = some (.int k)) (h : DataW.trod enc P w 0 (fun _ => true) true n t [v] = some z) : v = .int k (numOf v) ∧ (Lit.int k (numOf v)).wf = true := by
  obtain ⟨a, hc, _, hw⟩ := DataW.trod_int ht h
  simp only [List.cons.injEq, and_true] at hc
  subst hc
  exact ⟨rfl, hw⟩
end
end Go.Proofs.Ytebhalehgpigoaa
