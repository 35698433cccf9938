/-
  WHAT COMES IN, OPENED: structs by value whose fields take more than one cell (a struct in a struct); bilgelaw13's Bit and Word.
-/
import Derived.Test.YtbabfhbkckokfaaOpenW
namespace Go.Proofs.Ytbabfhbkckokfaa
open Go.RowKit Go.ChangeShapes Go.WideShapes Go.ChangeAt Go.Joins Go.Deep
set_option linter.unusedVariables false

theorem bit_in {H : Type} {enc : TypeId × Value → H} {w : World} {r : Reach} {b0 : Nat} {v : Value} {d : DataW H} {p : List MemPlace} (hv : Value.okWide Try.prog w r b0 26 v) (h : DataW.Trod enc Try.prog w 0 (fun _ => true) true 26 v d p) (hl : Light Try.prog 26 d) :
    ∃ (f c x k : Int) (a : Option Addr) (n ca : Nat) (l : Nat → Bool) (b : Option Addr) (m cb : Nat) (u : Nat → Bool),
      v = .agg #[.int .i64 f, .int .i64 c, .slice a n ca, .slice b m cb, .int .i64 x, .int .i64 k] ∧ HoldsG Value.bool w a n l ∧ n ≤ ca ∧ ca * 1 ≤ 140737488351232 ∧ HoldsG Value.bool w b m u ∧ m ≤ cb ∧ cb * 1 ≤ 140737488351232 ∧
      (Lit.int .i64 f).wf = true ∧ (Lit.int .i64 c).wf = true ∧ (Lit.int .i64 x).wf = true ∧ (Lit.int .i64 k).wf = true := by
  obtain ⟨V, rfl, hf⟩ := wide_in Try.underlying26 (by kernel_rfl) hv h hl
  obtain ⟨n0, y0, e0, l0⟩ := hf 0 _ rfl
  obtain ⟨n1, y1, e1, l1⟩ := hf 1 _ rfl
  obtain ⟨n2, y2, e2, l2⟩ := hf 2 _ rfl
  obtain ⟨n3, y3, e3, -⟩ := hf 3 _ rfl
  obtain ⟨n4, y4, e4, -⟩ := hf 4 _ rfl
  change DataW.trod enc Try.prog w 0 (fun _ => true) true n0 23 [V 0, V 1] = some y0 at e0
  change DataW.trod enc Try.prog w 0 (fun _ => true) true n1 24 [V 2] = some y1 at e1
  change DataW.trod enc Try.prog w 0 (fun _ => true) true n2 24 [V 3] = some y2 at e2
  change DataW.trod enc Try.prog w 0 (fun _ => true) true n3 3 [V 4] = some y3 at e3
  change DataW.trod enc Try.prog w 0 (fun _ => true) true n4 3 [V 5] = some y4 at e4
  obtain ⟨f, c, hV0, hV1, w0, w1⟩ := win_in e0
  obtain ⟨a, n, ca, hc2⟩ := Joins.slice_form Try.underlying24 e1
  rw [hc2] at e1
  simp only [List.cons.injEq, and_true] at hc2
  obtain ⟨l, hh, hle, hz⟩ := brow_in (B := 1) Try.underlying24 Try.underlying4 (by kernel_rfl) (by kernel_rfl) e1 l1
  obtain ⟨b, m, cb, hc3⟩ := Joins.slice_form Try.underlying24 e2
  rw [hc3] at e2
  simp only [List.cons.injEq, and_true] at hc3
  obtain ⟨u, hh2, hle2, hz2⟩ := brow_in (B := 1) Try.underlying24 Try.underlying4 (by kernel_rfl) (by kernel_rfl) e2 l2
  obtain ⟨x, hc4, -, w4⟩ := DataW.trod_int Try.underlying3 e3
  obtain ⟨k, hc5, -, w5⟩ := DataW.trod_int Try.underlying3 e4
  simp only [List.cons.injEq, and_true] at hc4 hc5
  refine ⟨f, c, x, k, a, n, ca, l, b, m, cb, u, ?_, hh, hle, hz, hh2, hle2, hz2, w0, w1, w4, w5⟩
  show Value.agg #[V 0, V 1, V 2, V 3, V 4, V 5] = _
  rw [hV0, hV1, hc2, hc3, hc4, hc5]
theorem word_in {H : Type} {enc : TypeId × Value → H} {w : World} {r : Reach} {b0 : Nat} {v : Value} {d : DataW H} {p : List MemPlace} (hv : Value.okWide Try.prog w r b0 39 v) (h : DataW.Trod enc Try.prog w 0 (fun _ => true) true 39 v d p) (hl : Light Try.prog 39 d) :
    ∃ (f c x k : Int) (a : Option Addr) (n ca : Nat) (l : Nat → Int) (b : Option Addr) (m cb : Nat) (u : Nat → Int),
      v = .agg #[.int .i64 f, .int .i64 c, .slice a n ca, .slice b m cb, .int .i64 x, .int .i64 k] ∧ Holds .u16 w a n l ∧ n ≤ ca ∧ ca * 2 ≤ 140737488351232 ∧ (∀ i, i < n → (Lit.int .u16 (l i)).wf = true) ∧ Holds .u16 w b m u ∧ m ≤ cb ∧ cb * 2 ≤ 140737488351232 ∧ (∀ i, i < m → (Lit.int .u16 (u i)).wf = true) ∧
      (Lit.int .i64 f).wf = true ∧ (Lit.int .i64 c).wf = true ∧ (Lit.int .i64 x).wf = true ∧ (Lit.int .i64 k).wf = true := by
  obtain ⟨V, rfl, hf⟩ := wide_in Try.underlying39 (by kernel_rfl) hv h hl
  obtain ⟨n0, y0, e0, l0⟩ := hf 0 _ rfl
  obtain ⟨n1, y1, e1, l1⟩ := hf 1 _ rfl
  obtain ⟨n2, y2, e2, l2⟩ := hf 2 _ rfl
  obtain ⟨n3, y3, e3, -⟩ := hf 3 _ rfl
  obtain ⟨n4, y4, e4, -⟩ := hf 4 _ rfl
  change DataW.trod enc Try.prog w 0 (fun _ => true) true n0 23 [V 0, V 1] = some y0 at e0
  change DataW.trod enc Try.prog w 0 (fun _ => true) true n1 37 [V 2] = some y1 at e1
  change DataW.trod enc Try.prog w 0 (fun _ => true) true n2 37 [V 3] = some y2 at e2
  change DataW.trod enc Try.prog w 0 (fun _ => true) true n3 3 [V 4] = some y3 at e3
  change DataW.trod enc Try.prog w 0 (fun _ => true) true n4 3 [V 5] = some y4 at e4
  obtain ⟨f, c, hV0, hV1, w0, w1⟩ := win_in e0
  obtain ⟨a, n, ca, hc2⟩ := Joins.slice_form Try.underlying37 e1
  rw [hc2] at e1
  simp only [List.cons.injEq, and_true] at hc2
  obtain ⟨l, hh, hle, hz, hb⟩ := row_in (k := .u16) (B := 2) Try.underlying37 Try.underlying40 (by kernel_rfl) (by kernel_rfl) e1 l1
  obtain ⟨b, m, cb, hc3⟩ := Joins.slice_form Try.underlying37 e2
  rw [hc3] at e2
  simp only [List.cons.injEq, and_true] at hc3
  obtain ⟨u, hh2, hle2, hz2, hb2⟩ := row_in (k := .u16) (B := 2) Try.underlying37 Try.underlying40 (by kernel_rfl) (by kernel_rfl) e2 l2
  obtain ⟨x, hc4, -, w4⟩ := DataW.trod_int Try.underlying3 e3
  obtain ⟨k, hc5, -, w5⟩ := DataW.trod_int Try.underlying3 e4
  simp only [List.cons.injEq, and_true] at hc4 hc5
  refine ⟨f, c, x, k, a, n, ca, l, b, m, cb, u, ?_, hh, hle, hz, hb, hh2, hle2, hz2, hb2, w0, w1, w4, w5⟩
  show Value.agg #[V 0, V 1, V 2, V 3, V 4, V 5] = _
  rw [hV0, hV1, hc2, hc3, hc4, hc5]
end Go.Proofs.Ytbabfhbkckokfaa
