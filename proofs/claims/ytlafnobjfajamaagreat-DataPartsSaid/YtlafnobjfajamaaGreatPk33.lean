/-
  WHAT COMES IN, OPENED: a file (api.File) by value, its words bounded.
-/
import Derived.Test.YtlafnobjfajamaaGreatPk31
import Derived.Test.YtlafnobjfajamaaGreatPk32
import Derived.Test.YtlafnobjfajamaaGreatPk15
namespace Go.Proofs.YtlafnobjfajamaaGreat
open Go.RowKit Go.ChangeShapes Go.WideShapes Go.ChangeAt Go.Joins Go.Deep
set_option linter.unusedVariables false
set_option maxRecDepth 100000

theorem filw_in {H : Type} {enc : TypeId × Value → H} {w : World} {r : Reach} {b0 : Nat} {v : Value} {d : DataW H} {p : List MemPlace} (hv : Value.okWide Tryz.prog w r b0 29 v) (h : DataW.Trod enc Tryz.prog w 0 (fun _ => true) true 29 v d p) (hl : Light Tryz.prog 29 d) :
    ∃ (V : FilV) (F : Fil), v = .agg (filC V F) ∧ FilAt w V F ∧ FilW F ∧ F.nC ≤ 1000000000000000 ∧ F.nI ≤ 1000000000000000 ∧ F.nH ≤ 1000000000000000 ∧ F.nR ≤ 1000000000000000 := by
  obtain ⟨V, rfl, hf⟩ := wide_in Tryz.underlying29 (by kernel_rfl) hv h hl
  obtain ⟨n0, y0, e0, l0⟩ := hf 0 _ rfl
  obtain ⟨n1, y1, e1, l1⟩ := hf 1 _ rfl
  obtain ⟨n2, y2, e2, l2⟩ := hf 2 _ rfl
  obtain ⟨n3, y3, e3, l3⟩ := hf 3 _ rfl
  obtain ⟨n4, y4, e4, l4⟩ := hf 4 _ rfl
  change DataW.trod enc Tryz.prog w 0 (fun _ => true) true n0 25 [V 0, V 1, V 2, V 3, V 4, V 5, V 6, V 7, V 8, V 9] = some y0 at e0
  change DataW.trod enc Tryz.prog w 0 (fun _ => true) true n1 26 [V 10] = some y1 at e1
  change DataW.trod enc Tryz.prog w 0 (fun _ => true) true n2 26 [V 11] = some y2 at e2
  change DataW.trod enc Tryz.prog w 0 (fun _ => true) true n3 27 [V 12] = some y3 at e3
  change DataW.trod enc Tryz.prog w 0 (fun _ => true) true n4 27 [V 13] = some y4 at e4
  obtain ⟨cf, cc, jf, jc, hf, hc, rf, rc, bf, bc, q0, q1, q2, q3, q4, q5, q6, q7, q8, q9⟩ := bank_in e0
  obtain ⟨a1, m1, d1, f1, r1, s1, t1, v1, z1⟩ := bools_cell e1 l1
  obtain ⟨a2, m2, d2, f2, r2, s2, t2, v2, z2⟩ := bools_cell e2 l2
  obtain ⟨a3, m3, d3, f3, r3, s3, t3, v3, z3, u3⟩ := words15_cell e3 l3
  obtain ⟨a4, m4, d4, f4, r4, s4, t4, v4, z4, u4⟩ := words15_cell e4 l4
  refine ⟨⟨a1, d1, a2, d2, a3, d3, a4, d4⟩, ⟨cf, cc, jf, jc, hf, hc, rf, rc, bf, bc, m1, f1, m2, f2, m3, f3, m4, f4⟩, ?_, ⟨s1, t1, v1, s2, t2, v2, s3, t3, v3, s4, t4, v4⟩, ⟨fun i hi => by have := bounds_u16 (u3 i hi); show 0 ≤ f3 i ∧ f3 i < 65536; omega, fun i hi => by have := bounds_u16 (u4 i hi); show 0 ≤ f4 i ∧ f4 i < 65536; omega⟩, z1, z2, z3, z4⟩
  show Value.agg #[V 0, V 1, V 2, V 3, V 4, V 5, V 6, V 7, V 8, V 9, V 10, V 11, V 12, V 13] = _
  rw [q0, q1, q2, q3, q4, q5, q6, q7, q8, q9, r1, r2, r3, r4]
  rfl
end Go.Proofs.YtlafnobjfajamaaGreat
