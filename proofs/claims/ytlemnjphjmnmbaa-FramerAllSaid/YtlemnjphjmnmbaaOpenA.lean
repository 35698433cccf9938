/-
  WHAT COMES IN, OPENED: structs by value whose fields are one cell each (integers, bools, slices ..); segments.
  WHAT COMES IN, OPENED: bytes in their times.
-/
import Derived.Test.YtlemnjphjmnmbaaOpen
import Derived.Test.YtlemnjphjmnmbaaSegR
import Derived.Test.YtlemnjphjmnmbaaBytesT
namespace Go.Proofs.Ytlemnjphjmnmbaa
open Go.RowKit Go.ChangeShapes Go.WideShapes Go.ChangeAt Go.Joins Go.Deep

section
variable {H : Type} {enc : TypeId × Value → H} {P : Program} {w : World}
theorem agg_in {r : Reach} {b0 : Nat} {t : TypeId} {fs : Array Field} {v : Value} {d : DataW H} {p : List MemPlace} (hs : P.underlying t = some (.struct fs)) (hone : oneCellFields P fs = true) (hC : P.cellsOf t = fs.size)
    (hv : Value.okWide P w r b0 t v) (h : DataW.Trod enc P w 0 (fun _ => true) true t v d p) (hl : Light P t d) :
    ∃ V : Nat → Value, v = .agg ((List.range fs.size).map V).toArray ∧ ∀ i f, fs[i]? = some f → ∃ (n : Nat) (y : DataW H × List MemPlace), DataW.trod enc P w 0 (fun _ => true) true n f.type [V i] = some y ∧ Light P f.type y.1 := by
  obtain ⟨cs, rfl, hsz⟩ := okWide_struct hs hv
  obtain ⟨fuel, hf⟩ := h
  obtain ⟨xs, n, _, hx, _, hlen, hfld⟩ := DataW.trod_struct hs hf
  simp only [Prod.mk.injEq] at hx
  have hcz : cs.size = fs.size := hsz.trans hC
  refine ⟨fun i => cs.getD i undef, ?_, fun i f hi => ?_⟩
  · congr 1
    apply Array.ext_getElem?
    intro i
    by_cases h : i < cs.size
    · simp [h, ← hcz]
    · rw [Array.getElem?_eq_none (by omega), Array.getElem?_eq_none (by simp; omega)]
  · obtain ⟨ho, hk⟩ := hone_of hone i f hi
    have hif : i < fs.size := (Array.getElem?_eq_some_iff.1 hi).1
    have hic : i < cs.toList.length := by simp; omega
    have hix : i < xs.length := by omega
    have h1 := hfld i f hi
    rw [ho, hk] at h1
    have hd : ((Value.agg cs).cells.toList.drop i).take 1 = [cs.getD i undef] := by
      show (cs.toList.drop i).take 1 = _
      rw [List.drop_eq_getElem_cons hic]
      simp [hcz, hif]
    rw [hd, List.getElem?_eq_getElem hix] at h1
    refine ⟨n, xs[i], h1, fun m hm => hl m ?_⟩
    rw [hx.1]
    simp only [DataW.weights, hs]
    exact DataW.weights_mem_each (j := i) (by simp [hi]) (by simp [hix]) m hm
end
theorem seg_in {H : Type} {enc : TypeId × Value → H} {w : World} {r : Reach} {b0 : Nat} {v : Value} {d : DataW H} {p : List MemPlace} (hv : Value.okWide Try.prog w r b0 48 v) (h : DataW.Trod enc Try.prog w 0 (fun _ => true) true 48 v d p) (hl : Light Try.prog 48 d) :
    ∃ (A : Option Addr) (c : Nat) (s : Seg), v = .agg (segC A c s) ∧ Holds .u8 w A s.n s.f ∧ s.n ≤ c ∧ c ≤ 140737488351232 ∧ SegB s ∧ (Lit.int .i64 s.first).wf = true ∧ (Lit.int .i64 s.last).wf = true ∧ (Lit.int .i64 s.count).wf = true := by
  obtain ⟨V, rfl, hf⟩ := agg_in Try.underlying48 (by kernel_rfl) (by kernel_rfl) hv h hl
  obtain ⟨n0, y0, e0, l0⟩ := hf 0 _ rfl
  obtain ⟨n1, y1, e1, -⟩ := hf 1 _ rfl
  obtain ⟨n2, y2, e2, -⟩ := hf 2 _ rfl
  obtain ⟨n3, y3, e3, -⟩ := hf 3 _ rfl
  obtain ⟨n4, y4, e4, -⟩ := hf 4 _ rfl
  obtain ⟨n5, y5, e5, -⟩ := hf 5 _ rfl
  obtain ⟨A, len, cap, hc0⟩ := Joins.slice_form Try.underlying42 e0
  rw [hc0] at e0
  simp only [List.cons.injEq, and_true] at hc0
  obtain ⟨f, hh, hle, hz, hb⟩ := row_in (k := .u8) (B := 1) Try.underlying42 Try.underlying5 (by kernel_rfl) (by kernel_rfl) e0 l0
  obtain ⟨a1, hc1, -, w1⟩ := DataW.trod_int Try.underlying3 e1
  obtain ⟨a2, hc2, -, w2⟩ := DataW.trod_int Try.underlying3 e2
  obtain ⟨a3, hc3, -, w3⟩ := DataW.trod_int Try.underlying3 e3
  obtain ⟨a4, hc4, -⟩ := DataW.trod_bool Try.underlying4 e4
  obtain ⟨a5, hc5, -⟩ := DataW.trod_bool Try.underlying4 e5
  simp only [List.cons.injEq, and_true] at hc1 hc2 hc3 hc4 hc5
  refine ⟨A, cap, ⟨len, f, a1, a2, a3, a4, a5⟩, ?_, hh, hle, by omega, fun i (hi : i < len) => show 0 ≤ f i ∧ f i < 256 by have := bounds_u8 (hb i hi); omega, w1, w2, w3⟩
  show Value.agg #[V 0, V 1, V 2, V 3, V 4, V 5] = _
  rw [hc0, hc1, hc2, hc3, hc4, hc5]; rfl
end Go.Proofs.Ytlemnjphjmnmbaa
namespace Go.Proofs.Ytlemnjphjmnmbaa
open Go.RowKit Go.ChangeShapes Go.WideShapes Go.ChangeAt Go.Joins Go.Deep

def boolOf : Value → Bool
  | .bool b => b
  | _ => false
theorem byts_in {H : Type} {enc : TypeId × Value → H} {w : World} {fuel : Nat} {a : Option Addr} {len cap : Nat} {y : DataW H × List MemPlace} (h : DataW.trod enc Try.prog w 0 (fun _ => true) true fuel 29 [.slice a len cap] = some y) (hl : Light Try.prog 29 y.1) :
    ∃ O : List (Int × Int × Bool), HoldsL 3 byt w a O ∧ O.length = len ∧ len ≤ cap ∧ cap ≤ 8796093021952 ∧ WfB O := by
  obtain ⟨V, hV, hle, hr, hf⟩ := rows_in (sz := 3) (B := 16) Try.underlying29 Try.underlying46 (by kernel_rfl) rfl (by kernel_rfl) (by omega) (by kernel_rfl) h hl
  have h0 : ∀ i, i < len → V i 0 = .int .i64 (numOf (V i 0)) ∧ (Lit.int .i64 (numOf (V i 0))).wf = true := fun i hi => by
    obtain ⟨n, z, e⟩ := hf i hi 0 _ rfl; exact num_in Try.underlying3 e
  have h1 : ∀ i, i < len → V i 1 = .int .u8 (numOf (V i 1)) ∧ (Lit.int .u8 (numOf (V i 1))).wf = true := fun i hi => by
    obtain ⟨n, z, e⟩ := hf i hi 1 _ rfl; exact num_in Try.underlying5 e
  have h2 : ∀ i, i < len → V i 2 = .bool (boolOf (V i 2)) := fun i hi => by
    obtain ⟨n, z, e⟩ := hf i hi 2 _ rfl
    obtain ⟨b, hb, -⟩ := DataW.trod_bool Try.underlying4 e
    simp only [List.cons.injEq, and_true] at hb
    rw [hb]; rfl
  refine ⟨((List.range len).map V).map (fun x => (numOf (x 0), numOf (x 1), boolOf (x 2))), hV.map _ ?_, by simp, hle, by omega, ?_⟩
  · intro x hx
    obtain ⟨i, hi, rfl⟩ := List.mem_map.1 hx
    have hi := List.mem_range.1 hi
    show [V i 0, V i 1, V i 2] = _
    unfold byt
    rw [← (h0 i hi).1, ← (h1 i hi).1, ← h2 i hi]
  · intro x hx
    obtain ⟨v, hv, rfl⟩ := List.mem_map.1 hx
    obtain ⟨i, hi, rfl⟩ := List.mem_map.1 hv
    have hi := List.mem_range.1 hi
    exact ⟨(h0 i hi).2, (h1 i hi).2⟩
end Go.Proofs.Ytlemnjphjmnmbaa
