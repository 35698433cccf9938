/-
  WHAT COMES IN, OPENED: banks, files, operations (bilgelaw14.Op) by value; slices of operations.
-/
import Derived.Test.YtkgakeknnfnjdaaOpenW
import Derived.Test.YtkgakeknnfnjdaaFilC
namespace Go.Proofs.Ytkgakeknnfnjdaa
open Go.RowKit Go.ChangeShapes Go.WideShapes Go.ChangeAt Go.Joins Go.Deep
set_option linter.unusedVariables false
set_option maxRecDepth 100000

/-- A bank among a struct's cells. -/
theorem bank_in {H : Type} {enc : TypeId × Value → H} {w : World} {n : Nat} {u0 u1 u2 u3 u4 u5 u6 u7 u8 u9 : Value} {y : DataW H × List MemPlace} (h : DataW.trod enc Try.prog w 0 (fun _ => true) true n 25 [u0, u1, u2, u3, u4, u5, u6, u7, u8, u9] = some y) :
    ∃ cf cc jf jc hf hc rf rc bf bc : Int, u0 = .int .i64 cf ∧ u1 = .int .i64 cc ∧ u2 = .int .i64 jf ∧ u3 = .int .i64 jc ∧ u4 = .int .i64 hf ∧ u5 = .int .i64 hc ∧ u6 = .int .i64 rf ∧ u7 = .int .i64 rc ∧ u8 = .int .i64 bf ∧ u9 = .int .i64 bc := by
  obtain ⟨xs, k, _, hx, _, hlen, hfld⟩ := DataW.trod_struct Try.underlying25 h
  have h0 := hfld 0 _ rfl
  have h1 := hfld 1 _ rfl
  have h2 := hfld 2 _ rfl
  have h3 := hfld 3 _ rfl
  have h4 := hfld 4 _ rfl
  have hl : 4 < xs.length := by simp at hlen; omega
  rw [List.getElem?_eq_getElem (by omega)] at h0 h1 h2 h3 h4
  change DataW.trod enc Try.prog w 0 (fun _ => true) true k 23 [u0, u1] = some _ at h0
  change DataW.trod enc Try.prog w 0 (fun _ => true) true k 23 [u2, u3] = some _ at h1
  change DataW.trod enc Try.prog w 0 (fun _ => true) true k 23 [u4, u5] = some _ at h2
  change DataW.trod enc Try.prog w 0 (fun _ => true) true k 23 [u6, u7] = some _ at h3
  change DataW.trod enc Try.prog w 0 (fun _ => true) true k 23 [u8, u9] = some _ at h4
  obtain ⟨a0, b0, e0, f0, _, _⟩ := win_in h0
  obtain ⟨a1, b1, e1, f1, _, _⟩ := win_in h1
  obtain ⟨a2, b2, e2, f2, _, _⟩ := win_in h2
  obtain ⟨a3, b3, e3, f3, _, _⟩ := win_in h3
  obtain ⟨a4, b4, e4, f4, _, _⟩ := win_in h4
  exact ⟨a0, b0, a1, b1, a2, b2, a3, b3, a4, b4, e0, f0, e1, f1, e2, f2, e3, f3, e4, f4⟩
/-- A slice of bools, of words, among a struct's cells. -/
theorem bools_cell {H : Type} {enc : TypeId × Value → H} {w : World} {n : Nat} {u : Value} {y : DataW H × List MemPlace} (e : DataW.trod enc Try.prog w 0 (fun _ => true) true n 26 [u] = some y) (l : Light Try.prog 26 y.1) :
    ∃ (a : Option Addr) (m d : Nat) (f : Nat → Bool), u = .slice a m d ∧ HoldsG Value.bool w a m f ∧ m ≤ d ∧ d ≤ maxLen ∧ m ≤ 1000000000000000 := by
  obtain ⟨a, m, d, hc⟩ := Joins.slice_form Try.underlying26 e
  rw [hc] at e
  simp only [List.cons.injEq, and_true] at hc
  obtain ⟨f, hh, hle, hz⟩ := brow_in (B := 1) Try.underlying26 Try.underlying4 (by kernel_rfl) (by kernel_rfl) e l
  exact ⟨a, m, d, f, hc, hh, hle, by unfold maxLen; omega, by omega⟩
theorem words_cell {H : Type} {enc : TypeId × Value → H} {w : World} {n : Nat} {u : Value} {y : DataW H × List MemPlace} (e : DataW.trod enc Try.prog w 0 (fun _ => true) true n 27 [u] = some y) (l : Light Try.prog 27 y.1) :
    ∃ (a : Option Addr) (m d : Nat) (f : Nat → Int), u = .slice a m d ∧ HoldsG (Value.int .u16) w a m f ∧ m ≤ d ∧ d ≤ maxLen ∧ m ≤ 1000000000000000 := by
  obtain ⟨a, m, d, hc⟩ := Joins.slice_form Try.underlying27 e
  rw [hc] at e
  simp only [List.cons.injEq, and_true] at hc
  obtain ⟨f, hh, hle, hz, _⟩ := row_in (k := .u16) (B := 2) Try.underlying27 Try.underlying89 (by kernel_rfl) (by kernel_rfl) e l
  exact ⟨a, m, d, f, hc, hh, hle, by unfold maxLen; omega, by omega⟩
theorem fil_in {H : Type} {enc : TypeId × Value → H} {w : World} {r : Reach} {b0 : Nat} {v : Value} {d : DataW H} {p : List MemPlace} (hv : Value.okWide Try.prog w r b0 29 v) (h : DataW.Trod enc Try.prog w 0 (fun _ => true) true 29 v d p) (hl : Light Try.prog 29 d) :
    ∃ (V : FilV) (F : Fil), v = .agg (filC V F) ∧ FilAt w V F ∧ F.nC ≤ 1000000000000000 ∧ F.nI ≤ 1000000000000000 ∧ F.nH ≤ 1000000000000000 ∧ F.nR ≤ 1000000000000000 := by
  obtain ⟨V, rfl, hf⟩ := wide_in Try.underlying29 (by kernel_rfl) hv h hl
  obtain ⟨n0, y0, e0, l0⟩ := hf 0 _ rfl
  obtain ⟨n1, y1, e1, l1⟩ := hf 1 _ rfl
  obtain ⟨n2, y2, e2, l2⟩ := hf 2 _ rfl
  obtain ⟨n3, y3, e3, l3⟩ := hf 3 _ rfl
  obtain ⟨n4, y4, e4, l4⟩ := hf 4 _ rfl
  change DataW.trod enc Try.prog w 0 (fun _ => true) true n0 25 [V 0, V 1, V 2, V 3, V 4, V 5, V 6, V 7, V 8, V 9] = some y0 at e0
  change DataW.trod enc Try.prog w 0 (fun _ => true) true n1 26 [V 10] = some y1 at e1
  change DataW.trod enc Try.prog w 0 (fun _ => true) true n2 26 [V 11] = some y2 at e2
  change DataW.trod enc Try.prog w 0 (fun _ => true) true n3 27 [V 12] = some y3 at e3
  change DataW.trod enc Try.prog w 0 (fun _ => true) true n4 27 [V 13] = some y4 at e4
  obtain ⟨cf, cc, jf, jc, hf, hc, rf, rc, bf, bc, q0, q1, q2, q3, q4, q5, q6, q7, q8, q9⟩ := bank_in e0
  obtain ⟨a1, m1, d1, f1, r1, s1, t1, v1, z1⟩ := bools_cell e1 l1
  obtain ⟨a2, m2, d2, f2, r2, s2, t2, v2, z2⟩ := bools_cell e2 l2
  obtain ⟨a3, m3, d3, f3, r3, s3, t3, v3, z3⟩ := words_cell e3 l3
  obtain ⟨a4, m4, d4, f4, r4, s4, t4, v4, z4⟩ := words_cell e4 l4
  refine ⟨⟨a1, d1, a2, d2, a3, d3, a4, d4⟩, ⟨cf, cc, jf, jc, hf, hc, rf, rc, bf, bc, m1, f1, m2, f2, m3, f3, m4, f4⟩, ?_, ⟨s1, t1, v1, s2, t2, v2, s3, t3, v3, s4, t4, v4⟩, z1, z2, z3, z4⟩
  show Value.agg #[V 0, V 1, V 2, V 3, V 4, V 5, V 6, V 7, V 8, V 9, V 10, V 11, V 12, V 13] = _
  rw [q0, q1, q2, q3, q4, q5, q6, q7, q8, q9, r1, r2, r3, r4]
  rfl
theorem bnk_in {H : Type} {enc : TypeId × Value → H} {w : World} {r : Reach} {b0 : Nat} {v : Value} {d : DataW H} {p : List MemPlace} (hv : Value.okWide Try.prog w r b0 25 v) (h : DataW.Trod enc Try.prog w 0 (fun _ => true) true 25 v d p) (hl : Light Try.prog 25 d) :
    ∃ F : Fil, v = .agg (bnkC F) := by
  obtain ⟨cs, rfl, hsz⟩ := okWide_struct Try.underlying25 hv
  have hs : cs.size = 10 := hsz.trans (by kernel_rfl)
  obtain ⟨fuel, hf⟩ := h
  have hcs : cs = #[cs[0], cs[1], cs[2], cs[3], cs[4], cs[5], cs[6], cs[7], cs[8], cs[9]] := by
    apply Array.ext
    · exact hs
    · intro i h1 h2
      have : i = 0 ∨ i = 1 ∨ i = 2 ∨ i = 3 ∨ i = 4 ∨ i = 5 ∨ i = 6 ∨ i = 7 ∨ i = 8 ∨ i = 9 := by omega
      rcases this with rfl | rfl | rfl | rfl | rfl | rfl | rfl | rfl | rfl | rfl <;> rfl
  have hl2 : (Value.agg cs).cells.toList = [cs[0], cs[1], cs[2], cs[3], cs[4], cs[5], cs[6], cs[7], cs[8], cs[9]] := congrArg Array.toList hcs
  rw [hl2] at hf
  obtain ⟨cf, cc, jf, jc, hf', hc, rf, rc, bf, bc, q0, q1, q2, q3, q4, q5, q6, q7, q8, q9⟩ := bank_in hf
  refine ⟨⟨cf, cc, jf, jc, hf', hc, rf, rc, bf, bc, 0, fun _ => false, 0, fun _ => false, 0, fun _ => 0, 0, fun _ => 0⟩, ?_⟩
  rw [hcs, q0, q1, q2, q3, q4, q5, q6, q7, q8, q9]
  rfl
set_option maxRecDepth 100000 in
/-- A slice of operations. -/
def opeL (z : OpeV × Ope) : List Value := (opeC z.1 z.2).toList
theorem weightsAll_mem {H : Type} {P : Program} {e : TypeId} {n : Nat} {d : DataW H} : ∀ {l : List (DataW H)}, d ∈ l → n ∈ d.weights P e → n ∈ DataW.weightsAll P e l
  | x :: l, hd, hn => by
    simp only [DataW.weightsAll, List.mem_append]
    rcases List.mem_cons.1 hd with rfl | h
    · exact .inl hn
    · exact .inr (weightsAll_mem h hn)
end Go.Proofs.Ytkgakeknnfnjdaa
