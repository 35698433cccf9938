/-
  What comes in, opened: a part (ident.Part), by value.
-/
import Derived.Test.YthdkhdbabohohaaObjIn
import Derived.Test.YthdkhdbabohohaaIde
namespace Go.Proofs.Ythdkhdbabohohaa
open Go.RowKit Go.Joins
set_option linter.unusedVariables false
set_option maxRecDepth 100000

theorem prt_in {H : Type} {enc : TypeId × Value → H} {w : World} {r : Reach} {b0 : Nat} {v : Value} {d : DataW H} {p : List MemPlace} (hv : Value.okWide Try.prog w r b0 24 v) (h : DataW.Trod enc Try.prog w 0 (fun _ => true) true 24 v d p) (hl : Light Try.prog 24 d) :
    ∃ (P : Prt) (a : Option Addr) (n c : Nat), v = .agg (prC P a n c) ∧ PrtAt w P a n c ∧ n ≤ 1000000000000000 := by
  obtain ⟨V, rfl, hf⟩ := wide_in Try.underlying24 (by kernel_rfl) hv h hl
  obtain ⟨n0, y0, e0, -⟩ := hf 0 _ rfl
  obtain ⟨n1, y1, e1, -⟩ := hf 1 _ rfl
  obtain ⟨n2, y2, e2, -⟩ := hf 2 _ rfl
  obtain ⟨n3, y3, e3, -⟩ := hf 3 _ rfl
  obtain ⟨n4, y4, e4, l4⟩ := hf 4 _ rfl
  change DataW.trod enc Try.prog w 0 (fun _ => true) true n0 3 [V 0] = some y0 at e0
  change DataW.trod enc Try.prog w 0 (fun _ => true) true n1 3 [V 1] = some y1 at e1
  change DataW.trod enc Try.prog w 0 (fun _ => true) true n2 4 [V 2] = some y2 at e2
  change DataW.trod enc Try.prog w 0 (fun _ => true) true n3 3 [V 3] = some y3 at e3
  change DataW.trod enc Try.prog w 0 (fun _ => true) true n4 22 [V 4] = some y4 at e4
  obtain ⟨x0, h0, -, w0⟩ := DataW.trod_int Try.underlying3 e0
  obtain ⟨x1, h1, -, w1⟩ := DataW.trod_int Try.underlying3 e1
  obtain ⟨x2, h2, -⟩ := DataW.trod_bool Try.underlying4 e2
  obtain ⟨x3, h3, -, w3⟩ := DataW.trod_int Try.underlying3 e3
  obtain ⟨a, m, q, hc⟩ := Joins.slice_form Try.underlying22 e4
  rw [hc] at e4
  obtain ⟨L, hL, hm⟩ := objs_in e4 l4
  simp only [List.cons.injEq, and_true] at h0 h1 h2 h3 hc
  refine ⟨⟨x0, x1, x2, x3, L⟩, a, m, q, ?_, ⟨hL, w0, w1, w3⟩, hm⟩
  show Value.agg #[V 0, V 1, V 2, V 3, V 4] = _
  rw [h0, h1, h2, h3, hc]
  rfl
end Go.Proofs.Ythdkhdbabohohaa
