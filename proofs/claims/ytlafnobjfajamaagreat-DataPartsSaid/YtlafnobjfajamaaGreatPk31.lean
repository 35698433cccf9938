/-
  WHAT COMES IN, OPENED: banks, files, operations (bilgelaw14.Op) by value; slices of operations.
-/
import Derived.Test.YtlafnobjfajamaaGreatPk30
import Derived.Test.YtlafnobjfajamaaGreatPk7
namespace Go.Proofs.YtlafnobjfajamaaGreat
open Go.RowKit Go.ChangeShapes Go.WideShapes Go.ChangeAt Go.Joins Go.Deep
set_option linter.unusedVariables false
set_option maxRecDepth 100000

/-- A bank among a struct's cells. -/
theorem bank_in {H : Type} {enc : TypeId × Value → H} {w : World} {n : Nat} {u0 u1 u2 u3 u4 u5 u6 u7 u8 u9 : Value} {y : DataW H × List MemPlace} (h : DataW.trod enc Tryz.prog w 0 (fun _ => true) true n 25 [u0, u1, u2, u3, u4, u5, u6, u7, u8, u9] = some y) :
    ∃ cf cc jf jc hf hc rf rc bf bc : Int, u0 = .int .i64 cf ∧ u1 = .int .i64 cc ∧ u2 = .int .i64 jf ∧ u3 = .int .i64 jc ∧ u4 = .int .i64 hf ∧ u5 = .int .i64 hc ∧ u6 = .int .i64 rf ∧ u7 = .int .i64 rc ∧ u8 = .int .i64 bf ∧ u9 = .int .i64 bc := by
  obtain ⟨xs, k, _, hx, _, hlen, hfld⟩ := DataW.trod_struct Tryz.underlying25 h
  have h0 := hfld 0 _ rfl
  have h1 := hfld 1 _ rfl
  have h2 := hfld 2 _ rfl
  have h3 := hfld 3 _ rfl
  have h4 := hfld 4 _ rfl
  have hl : 4 < xs.length := by simp at hlen; omega
  rw [List.getElem?_eq_getElem (by omega)] at h0 h1 h2 h3 h4
  change DataW.trod enc Tryz.prog w 0 (fun _ => true) true k 23 [u0, u1] = some _ at h0
  change DataW.trod enc Tryz.prog w 0 (fun _ => true) true k 23 [u2, u3] = some _ at h1
  change DataW.trod enc Tryz.prog w 0 (fun _ => true) true k 23 [u4, u5] = some _ at h2
  change DataW.trod enc Tryz.prog w 0 (fun _ => true) true k 23 [u6, u7] = some _ at h3
  change DataW.trod enc Tryz.prog w 0 (fun _ => true) true k 23 [u8, u9] = some _ at h4
  obtain ⟨a0, b0, e0, f0, _, _⟩ := win_in h0
  obtain ⟨a1, b1, e1, f1, _, _⟩ := win_in h1
  obtain ⟨a2, b2, e2, f2, _, _⟩ := win_in h2
  obtain ⟨a3, b3, e3, f3, _, _⟩ := win_in h3
  obtain ⟨a4, b4, e4, f4, _, _⟩ := win_in h4
  exact ⟨a0, b0, a1, b1, a2, b2, a3, b3, a4, b4, e0, f0, e1, f1, e2, f2, e3, f3, e4, f4⟩
/-- A slice of bools, of words, among a struct's cells. -/
theorem bools_cell {H : Type} {enc : TypeId × Value → H} {w : World} {n : Nat} {u : Value} {y : DataW H × List MemPlace} (e : DataW.trod enc Tryz.prog w 0 (fun _ => true) true n 26 [u] = some y) (l : Light Tryz.prog 26 y.1) :
    ∃ (a : Option Addr) (m d : Nat) (f : Nat → Bool), u = .slice a m d ∧ HoldsG Value.bool w a m f ∧ m ≤ d ∧ d ≤ maxLen ∧ m ≤ 1000000000000000 := by
  obtain ⟨a, m, d, hc⟩ := Joins.slice_form Tryz.underlying26 e
  rw [hc] at e
  simp only [List.cons.injEq, and_true] at hc
  obtain ⟨f, hh, hle, hz⟩ := brow_in (B := 1) Tryz.underlying26 Tryz.underlying4 (by kernel_rfl) (by kernel_rfl) e l
  exact ⟨a, m, d, f, hc, hh, hle, by unfold maxLen; omega, by omega⟩
end Go.Proofs.YtlafnobjfajamaaGreat
