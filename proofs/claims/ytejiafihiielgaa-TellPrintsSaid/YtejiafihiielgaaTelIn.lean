/-
  What comes in, opened: what is told (api.Tell), by value.
-/
import Derived.Test.YtejiafihiielgaaTel
import Derived.Test.YtejiafihiielgaaAskIn
namespace Go.Proofs.Ytejiafihiielgaa
open Go.RowKit
set_option linter.unusedVariables false
set_option maxRecDepth 100000

theorem tel_in {H : Type} {enc : TypeId × Value → H} {w : World} {r : Reach} {b0 : Nat} {v : Value} {d : DataW H} {p : List MemPlace} (hv : Value.okWide Try.prog w r b0 28 v) (h : DataW.Trod enc Try.prog w 0 (fun _ => true) true 28 v d p) (hl : Light Try.prog 28 d) :
    ∃ (X : QstV) (T : Tel), v = .agg (telC X T) ∧ TelAt w X T ∧ TelW T ∧ T.nb ≤ 1000000000000000 ∧ T.nr ≤ 1000000000000000 := by
  obtain ⟨V, rfl, hf⟩ := wide_in Try.underlying28 (by kernel_rfl) hv h hl
  obtain ⟨n0, y0, e0, -⟩ := hf 0 _ rfl
  obtain ⟨n1, y1, e1, -⟩ := hf 1 _ rfl
  obtain ⟨n2, y2, e2, -⟩ := hf 2 _ rfl
  obtain ⟨n3, y3, e3, -⟩ := hf 3 _ rfl
  obtain ⟨n4, y4, e4, -⟩ := hf 4 _ rfl
  obtain ⟨n5, y5, e5, -⟩ := hf 5 _ rfl
  obtain ⟨n6, y6, e6, -⟩ := hf 6 _ rfl
  obtain ⟨n7, y7, e7, l7⟩ := hf 7 _ rfl
  obtain ⟨n8, y8, e8, l8⟩ := hf 8 _ rfl
  change DataW.trod enc Try.prog w 0 (fun _ => true) true n0 3 [V 0] = some y0 at e0
  change DataW.trod enc Try.prog w 0 (fun _ => true) true n1 26 [V 1] = some y1 at e1
  change DataW.trod enc Try.prog w 0 (fun _ => true) true n2 3 [V 2] = some y2 at e2
  change DataW.trod enc Try.prog w 0 (fun _ => true) true n3 3 [V 3] = some y3 at e3
  change DataW.trod enc Try.prog w 0 (fun _ => true) true n4 3 [V 4] = some y4 at e4
  change DataW.trod enc Try.prog w 0 (fun _ => true) true n5 3 [V 5] = some y5 at e5
  change DataW.trod enc Try.prog w 0 (fun _ => true) true n6 3 [V 6] = some y6 at e6
  change DataW.trod enc Try.prog w 0 (fun _ => true) true n7 22 [V 7] = some y7 at e7
  change DataW.trod enc Try.prog w 0 (fun _ => true) true n8 23 [V 8] = some y8 at e8
  obtain ⟨x0, h0, -, w0⟩ := DataW.trod_int Try.underlying3 e0
  obtain ⟨x1, h1, -, w1⟩ := DataW.trod_int Try.underlying26 e1
  obtain ⟨x2, h2, -, w2⟩ := DataW.trod_int Try.underlying3 e2
  obtain ⟨x3, h3, -, w3⟩ := DataW.trod_int Try.underlying3 e3
  obtain ⟨x4, h4, -, w4⟩ := DataW.trod_int Try.underlying3 e4
  obtain ⟨x5, h5, -, w5⟩ := DataW.trod_int Try.underlying3 e5
  obtain ⟨x6, h6, -, w6⟩ := DataW.trod_int Try.underlying3 e6
  simp only [List.cons.injEq, and_true] at h0 h1 h2 h3 h4 h5 h6
  obtain ⟨a1, m1, d1, f1, r1, s1, t1, v1, z1⟩ := bools15_cell e7 l7
  obtain ⟨a2, m2, d2, f2, r2, s2, t2, v2, z2, hw⟩ := words15_cell e8 l8
  refine ⟨⟨a1, d1, a2, d2⟩, ⟨x0, x1, x2, x3, x4, x5, x6, m1, f1, m2, f2⟩, ?_, ⟨s1, t1, v1, s2, t2, v2⟩, ⟨w0, w1, w2, w3, w4, w5, w6, fun i hi => by have := bounds_u16 (hw i hi); show 0 ≤ f2 i ∧ f2 i < 65536; omega⟩, z1, z2⟩
  show Value.agg #[V 0, V 1, V 2, V 3, V 4, V 5, V 6, V 7, V 8] = _
  rw [h0, h1, h2, h3, h4, h5, h6, r1, r2]
  rfl
end Go.Proofs.Ytejiafihiielgaa
