/-
  WHAT COMES IN, OPENED: structs by value whose fields take any number of cells (a struct in a struct).
-/
import Derived.Test.YtkgakeknnfnjdaaChecked
import Derived.Test.YtkgakeknnfnjdaaOpen
namespace Go.Proofs.Ytkgakeknnfnjdaa
open Go.RowKit Go.ChangeShapes Go.WideShapes Go.ChangeAt Go.Joins Go.Deep
set_option linter.unusedVariables false

section
variable {H : Type} {enc : TypeId × Value → H} {P : Program} {w : World}
theorem wide_in {r : Reach} {b0 : Nat} {t : TypeId} {fs : Array Field} {v : Value} {d : DataW H} {p : List MemPlace} (hs : P.underlying t = some (.struct fs)) (hin : fs.all (fun (f : Field) => decide (f.offset + P.cellsOf f.type ≤ P.cellsOf t)) = true)
    (hv : Value.okWide P w r b0 t v) (h : DataW.Trod enc P w 0 (fun _ => true) true t v d p) (hl : Light P t d) :
    ∃ V : Nat → Value, v = .agg ((List.range (P.cellsOf t)).map V).toArray ∧ ∀ (i : Nat) (f : Field), fs[i]? = some f → ∃ (n : Nat) (y : DataW H × List MemPlace), DataW.trod enc P w 0 (fun _ => true) true n f.type ((List.range (P.cellsOf f.type)).map (fun j => V (f.offset + j))) = some y ∧ Light P f.type y.1 := by
  obtain ⟨cs, rfl, hsz⟩ := okWide_struct hs hv
  obtain ⟨fuel, hf⟩ := h
  obtain ⟨xs, n, _, hx, _, hlen, hfld⟩ := DataW.trod_struct hs hf
  simp only [Prod.mk.injEq] at hx
  refine ⟨fun i => cs.getD i undef, ?_, fun i f hi => ?_⟩
  · congr 1
    apply Array.ext_getElem?
    intro i
    by_cases h : i < cs.size
    · simp [h, ← hsz]
    · rw [Array.getElem?_eq_none (by omega), Array.getElem?_eq_none (by simp; omega)]
  · have hif : i < fs.size := (Array.getElem?_eq_some_iff.1 hi).1
    have hoff : f.offset + P.cellsOf f.type ≤ P.cellsOf t := by
      rw [Array.all_eq_true] at hin
      have := hin i hif
      rw [(Array.getElem?_eq_some_iff.1 hi).2] at this
      exact of_decide_eq_true this
    have hix : i < xs.length := by omega
    have h1 := hfld i f hi
    have hd : ((Value.agg cs).cells.toList.drop f.offset).take (P.cellsOf f.type) = (List.range (P.cellsOf f.type)).map (fun j => cs.getD (f.offset + j) undef) := by
      show (cs.toList.drop f.offset).take _ = _
      apply List.ext_getElem?
      intro j
      by_cases hj : j < P.cellsOf f.type
      · have hjc : f.offset + j < cs.size := by omega
        rw [List.getElem?_take, if_pos hj, List.getElem?_drop]
        simp [hj, hjc]
      · rw [List.getElem?_eq_none (by simp; omega), List.getElem?_eq_none (by simp; omega)]
    rw [hd, List.getElem?_eq_getElem hix] at h1
    refine ⟨n, xs[i], h1, fun m hm => hl m ?_⟩
    rw [hx.1]
    simp only [DataW.weights, hs]
    exact DataW.weights_mem_each (j := i) (by simp [hi]) (by simp [hix]) m hm
end
set_option maxRecDepth 100000 in
/-- A window among a struct's cells. -/
theorem win_in {H : Type} {enc : TypeId × Value → H} {w : World} {n : Nat} {u v : Value} {y : DataW H × List MemPlace} (h : DataW.trod enc Try.prog w 0 (fun _ => true) true n 23 [u, v] = some y) :
    ∃ f c : Int, u = .int .i64 f ∧ v = .int .i64 c ∧ (Lit.int .i64 f).wf = true ∧ (Lit.int .i64 c).wf = true := by
  obtain ⟨xs, k, _, hx, _, hlen, hfld⟩ := DataW.trod_struct Try.underlying23 h
  have h0 := hfld 0 _ rfl
  have h1 := hfld 1 _ rfl
  have hl : 1 < xs.length := by simp at hlen; omega
  rw [List.getElem?_eq_getElem (by omega)] at h0 h1
  change DataW.trod enc Try.prog w 0 (fun _ => true) true k 3 [u] = some _ at h0
  change DataW.trod enc Try.prog w 0 (fun _ => true) true k 3 [v] = some _ at h1
  obtain ⟨f, hf, -, wf⟩ := DataW.trod_int Try.underlying3 h0
  obtain ⟨c, hc, -, wc⟩ := DataW.trod_int Try.underlying3 h1
  simp only [List.cons.injEq, and_true] at hf hc
  exact ⟨f, c, hf, hc, wf, wc⟩
end Go.Proofs.Ytkgakeknnfnjdaa
