/-
  WHAT COMES IN, OPENED: an ask (api.Ask) by value.
-/
import Derived.Test.YtlafnobjfajamaaGreatPk30
import Derived.Test.YtlafnobjfajamaaGreatPk13
namespace Go.Proofs.YtlafnobjfajamaaGreat
open Go.RowKit Go.ChangeShapes Go.WideShapes Go.ChangeAt Go.Joins Go.Deep
set_option linter.unusedVariables false
set_option maxRecDepth 100000

theorem bools15_cell {H : Type} {enc : TypeId × Value → H} {w : World} {n : Nat} {u : Value} {y : DataW H × List MemPlace} (e : DataW.trod enc Tryz.prog w 0 (fun _ => true) true n 26 [u] = some y) (l : Light Tryz.prog 26 y.1) :
    ∃ (a : Option Addr) (m d : Nat) (f : Nat → Bool), u = .slice a m d ∧ HoldsG Value.bool w a m f ∧ m ≤ d ∧ d ≤ maxLen ∧ m ≤ 1000000000000000 := by
  obtain ⟨a, m, d, hc⟩ := Joins.slice_form Tryz.underlying26 e
  rw [hc] at e
  simp only [List.cons.injEq, and_true] at hc
  obtain ⟨f, hh, hle, hz⟩ := brow_in (B := 1) Tryz.underlying26 Tryz.underlying4 (by kernel_rfl) (by kernel_rfl) e l
  exact ⟨a, m, d, f, hc, hh, hle, by unfold maxLen; omega, by omega⟩
theorem words15_cell {H : Type} {enc : TypeId × Value → H} {w : World} {n : Nat} {u : Value} {y : DataW H × List MemPlace} (e : DataW.trod enc Tryz.prog w 0 (fun _ => true) true n 27 [u] = some y) (l : Light Tryz.prog 27 y.1) :
    ∃ (a : Option Addr) (m d : Nat) (f : Nat → Int), u = .slice a m d ∧ HoldsG (Value.int .u16) w a m f ∧ m ≤ d ∧ d ≤ maxLen ∧ m ≤ 1000000000000000 ∧ ∀ i, i < m → (Lit.int .u16 (f i)).wf = true := by
  obtain ⟨a, m, d, hc⟩ := Joins.slice_form Tryz.underlying27 e
  rw [hc] at e
  simp only [List.cons.injEq, and_true] at hc
  obtain ⟨f, hh, hle, hz, hw⟩ := row_in (k := .u16) (B := 2) Tryz.underlying27 Tryz.underlying59 (by kernel_rfl) (by kernel_rfl) e l
  exact ⟨a, m, d, f, hc, hh, hle, by unfold maxLen; omega, by omega, hw⟩
theorem qst_in {H : Type} {enc : TypeId × Value → H} {w : World} {r : Reach} {b0 : Nat} {v : Value} {d : DataW H} {p : List MemPlace} (hv : Value.okWide Tryz.prog w r b0 31 v) (h : DataW.Trod enc Tryz.prog w 0 (fun _ => true) true 31 v d p) (hl : Light Tryz.prog 31 d) :
    ∃ (X : QstV) (Q : Qst), v = .agg (qstC X Q) ∧ QstAt w X Q ∧ QstW Q ∧ Q.nb ≤ 1000000000000000 ∧ Q.nr ≤ 1000000000000000 := by
  obtain ⟨V, rfl, hf⟩ := wide_in Tryz.underlying31 (by kernel_rfl) hv h hl
  obtain ⟨n0, y0, e0, -⟩ := hf 0 _ rfl
  obtain ⟨n1, y1, e1, -⟩ := hf 1 _ rfl
  obtain ⟨n2, y2, e2, -⟩ := hf 2 _ rfl
  obtain ⟨n3, y3, e3, -⟩ := hf 3 _ rfl
  obtain ⟨n4, y4, e4, -⟩ := hf 4 _ rfl
  obtain ⟨n5, y5, e5, -⟩ := hf 5 _ rfl
  obtain ⟨n6, y6, e6, -⟩ := hf 6 _ rfl
  obtain ⟨n7, y7, e7, -⟩ := hf 7 _ rfl
  obtain ⟨n8, y8, e8, l8⟩ := hf 8 _ rfl
  obtain ⟨n9, y9, e9, l9⟩ := hf 9 _ rfl
  change DataW.trod enc Tryz.prog w 0 (fun _ => true) true n0 3 [V 0] = some y0 at e0
  change DataW.trod enc Tryz.prog w 0 (fun _ => true) true n1 3 [V 1] = some y1 at e1
  change DataW.trod enc Tryz.prog w 0 (fun _ => true) true n2 3 [V 2] = some y2 at e2
  change DataW.trod enc Tryz.prog w 0 (fun _ => true) true n3 3 [V 3] = some y3 at e3
  change DataW.trod enc Tryz.prog w 0 (fun _ => true) true n4 3 [V 4] = some y4 at e4
  change DataW.trod enc Tryz.prog w 0 (fun _ => true) true n5 3 [V 5] = some y5 at e5
  change DataW.trod enc Tryz.prog w 0 (fun _ => true) true n6 3 [V 6] = some y6 at e6
  change DataW.trod enc Tryz.prog w 0 (fun _ => true) true n7 3 [V 7] = some y7 at e7
  change DataW.trod enc Tryz.prog w 0 (fun _ => true) true n8 26 [V 8] = some y8 at e8
  change DataW.trod enc Tryz.prog w 0 (fun _ => true) true n9 27 [V 9] = some y9 at e9
  obtain ⟨x0, h0, -, w0⟩ := DataW.trod_int Tryz.underlying3 e0
  obtain ⟨x1, h1, -, w1⟩ := DataW.trod_int Tryz.underlying3 e1
  obtain ⟨x2, h2, -, w2⟩ := DataW.trod_int Tryz.underlying3 e2
  obtain ⟨x3, h3, -, w3⟩ := DataW.trod_int Tryz.underlying3 e3
  obtain ⟨x4, h4, -, w4⟩ := DataW.trod_int Tryz.underlying3 e4
  obtain ⟨x5, h5, -, w5⟩ := DataW.trod_int Tryz.underlying3 e5
  obtain ⟨x6, h6, -, w6⟩ := DataW.trod_int Tryz.underlying3 e6
  obtain ⟨x7, h7, -, w7⟩ := DataW.trod_int Tryz.underlying3 e7
  simp only [List.cons.injEq, and_true] at h0 h1 h2 h3 h4 h5 h6 h7
  obtain ⟨a1, m1, d1, f1, r1, s1, t1, v1, z1⟩ := bools15_cell e8 l8
  obtain ⟨a2, m2, d2, f2, r2, s2, t2, v2, z2, hw⟩ := words15_cell e9 l9
  refine ⟨⟨a1, d1, a2, d2⟩, ⟨x0, x1, x2, x3, x4, x5, x6, x7, m1, f1, m2, f2⟩, ?_, ⟨s1, t1, v1, s2, t2, v2⟩, ⟨w0, w1, w2, w3, w4, w5, w6, w7, fun i hi => by have := bounds_u16 (hw i hi); show 0 ≤ f2 i ∧ f2 i < 65536; omega⟩, z1, z2⟩
  show Value.agg #[V 0, V 1, V 2, V 3, V 4, V 5, V 6, V 7, V 8, V 9] = _
  rw [h0, h1, h2, h3, h4, h5, h6, h7, r1, r2]
  rfl
end Go.Proofs.YtlafnobjfajamaaGreat
