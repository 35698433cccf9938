/-
  WHAT COMES IN: an array of three words (bilgelaw11).
-/
import Derived.Test.YtbabfhbkckokfaaOpen
import Derived.Test.YtbabfhbkckokfaaSlices
import Derived.Test.YtbabfhbkckokfaaRows
namespace Go.Proofs.Ytbabfhbkckokfaa
open Go.RowKit Go.ChangeShapes Go.WideShapes Go.ChangeAt Go.Joins Go.Deep

section
variable {H : Type} {enc : TypeId × Value → H} {P : Program} {w : World}
theorem arr3 {α : Type} {cs : Array α} (h : cs.size = 3) : ∃ a b c, cs = #[a, b, c] := by
  obtain ⟨l⟩ := cs
  match l, h with
  | [a, b, c], _ => exact ⟨a, b, c, rfl⟩
/-- An array of three one-cell values: its cells, each trodden. -/
theorem array3_in {r : Reach} {b0 : Nat} {t e : TypeId} {v : Value} {d : DataW H} {p : List MemPlace} (ht : P.underlying t = some (.array 3 e)) (hce : P.cellsOf e = 1) (hC : P.cellsOf t = 3)
    (hv : Value.okWide P w r b0 t v) (h : DataW.Trod enc P w 0 (fun _ => true) true t v d p) :
    ∃ v0 v1 v2 y0 y1 y2 m, v = .agg #[v0, v1, v2] ∧ DataW.trod enc P w 0 (fun _ => true) true m e [v0] = some y0 ∧ DataW.trod enc P w 0 (fun _ => true) true m e [v1] = some y1 ∧ DataW.trod enc P w 0 (fun _ => true) true m e [v2] = some y2 := by
  unfold Value.okWide at hv
  rw [ht] at hv
  obtain ⟨cs, rfl, hsz, _⟩ := hv
  obtain ⟨c0, c1, c2, rfl⟩ := arr3 (hsz.trans hC)
  obtain ⟨fuel, hf⟩ := h
  obtain ⟨xs, m, _, hx, _, hlen, hel⟩ := DataW.trod_array ht hf
  obtain ⟨y0, y1, y2, rfl⟩ : ∃ y0 y1 y2, xs = [y0, y1, y2] := by
    match xs, hlen with
    | [y0, y1, y2], _ => exact ⟨y0, y1, y2, rfl⟩
  have e0 := hel 0 (by omega)
  have e1 := hel 1 (by omega)
  have e2 := hel 2 (by omega)
  simp [hce, Value.cells] at e0 e1 e2
  exact ⟨c0, c1, c2, y0, y1, y2, m, rfl, e0, e1, e2⟩
end
theorem words3_in {H : Type} {enc : TypeId × Value → H} {w : World} {r : Reach} {b0 : Nat} {v : Value} {d : DataW H} {p : List MemPlace} (hv : Value.okWide Try.prog w r b0 41 v) (h : DataW.Trod enc Try.prog w 0 (fun _ => true) true 41 v d p) (_ : Light Try.prog 41 d) :
    ∃ x y z : Int, v = .agg #[.int .u16 x, .int .u16 y, .int .u16 z] ∧ (Lit.int .u16 x).wf = true ∧ (Lit.int .u16 y).wf = true ∧ (Lit.int .u16 z).wf = true := by
  obtain ⟨v0, v1, v2, y0, y1, y2, m, rfl, e0, e1, e2⟩ := array3_in Try.underlying41 (by kernel_rfl) (by kernel_rfl) hv h
  obtain ⟨a0, hc0, -, w0⟩ := DataW.trod_int Try.underlying40 e0
  obtain ⟨a1, hc1, -, w1⟩ := DataW.trod_int Try.underlying40 e1
  obtain ⟨a2, hc2, -, w2⟩ := DataW.trod_int Try.underlying40 e2
  simp only [List.cons.injEq, and_true] at hc0 hc1 hc2
  exact ⟨a0, a1, a2, by rw [hc0, hc1, hc2], w0, w1, w2⟩
end Go.Proofs.Ytbabfhbkckokfaa
