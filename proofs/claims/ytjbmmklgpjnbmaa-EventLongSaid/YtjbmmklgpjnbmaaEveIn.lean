/-
  WHAT COMES IN, OPENED: what happens to a log (a slice of bilgelaw19.Op).
-/
import Derived.Test.YtjbmmklgpjnbmaaOpenW
namespace Go.Proofs.Ytjbmmklgpjnbmaa
open Go.RowKit Go.ChangeShapes Go.WideShapes Go.ChangeAt Go.Joins Go.Deep
set_option linter.unusedVariables false
set_option maxRecDepth 100000

/-- What happens: which, its code, its flags. -/
structure Eop where
  k : Int
  x : Int
  f0 : Bool
  f1 : Bool
  f2 : Bool
  f3 : Bool
def eopL (z : Eop) : List Value := [.int .i64 z.k, .int .i64 z.x, .bool z.f0, .bool z.f1, .bool z.f2, .bool z.f3]
structure EopW (z : Eop) : Prop where
  wk : (Lit.int .i64 z.k).wf = true
  wx : (Lit.int .i64 z.x).wf = true
theorem eop_cells_in {H : Type} {enc : TypeId × Value → H} {w : World} {n : Nat} {cs : List Value} {y : DataW H × List MemPlace} (h : DataW.trod enc Try.prog w 0 (fun _ => true) true n 32 cs = some y) (hlen6 : cs.length = 6) :
    ∃ z : Eop, cs = eopL z ∧ EopW z := by
  obtain ⟨u0, u1, u2, u3, u4, u5, rfl⟩ : ∃ u0 u1 u2 u3 u4 u5, cs = [u0, u1, u2, u3, u4, u5] := by
    match cs, hlen6 with
    | [a, b, c, d, e, f], _ => exact ⟨a, b, c, d, e, f, rfl⟩
  obtain ⟨xs, k, _, hx, _, hlen, hfld⟩ := DataW.trod_struct Try.underlying32 h
  have e0 := hfld 0 _ rfl
  have e1 := hfld 1 _ rfl
  have e2 := hfld 2 _ rfl
  have hxl : 2 < xs.length := by simp at hlen; omega
  rw [List.getElem?_eq_getElem (by omega)] at e0 e1 e2
  change DataW.trod enc Try.prog w 0 (fun _ => true) true k 3 [u0] = some _ at e0
  change DataW.trod enc Try.prog w 0 (fun _ => true) true k 3 [u1] = some _ at e1
  change DataW.trod enc Try.prog w 0 (fun _ => true) true k 30 [u2, u3, u4, u5] = some _ at e2
  obtain ⟨kk, hk, -, wk⟩ := DataW.trod_int Try.underlying3 e0
  obtain ⟨x, hx', -, wx⟩ := DataW.trod_int Try.underlying3 e1
  obtain ⟨ys, q, _, _, _, hl4, hel⟩ := DataW.trod_array Try.underlying30 e2
  have a0 := hel 0 (by omega)
  have a1 := hel 1 (by omega)
  have a2 := hel 2 (by omega)
  have a3 := hel 3 (by omega)
  rw [List.getElem?_eq_getElem (by omega)] at a0 a1 a2 a3
  change DataW.trod enc Try.prog w 0 (fun _ => true) true q 4 [u2] = some _ at a0
  change DataW.trod enc Try.prog w 0 (fun _ => true) true q 4 [u3] = some _ at a1
  change DataW.trod enc Try.prog w 0 (fun _ => true) true q 4 [u4] = some _ at a2
  change DataW.trod enc Try.prog w 0 (fun _ => true) true q 4 [u5] = some _ at a3
  obtain ⟨b0, h0, -⟩ := DataW.trod_bool Try.underlying4 a0
  obtain ⟨b1, h1, -⟩ := DataW.trod_bool Try.underlying4 a1
  obtain ⟨b2, h2, -⟩ := DataW.trod_bool Try.underlying4 a2
  obtain ⟨b3, h3, -⟩ := DataW.trod_bool Try.underlying4 a3
  simp only [List.cons.injEq, and_true] at hk hx' h0 h1 h2 h3
  refine ⟨⟨kk, x, b0, b1, b2, b3⟩, ?_, ⟨wk, wx⟩⟩
  rw [hk, hx', h0, h1, h2, h3]
  rfl
theorem eops_in {H : Type} {enc : TypeId × Value → H} {w : World} {fuel : Nat} {a : Option Addr} {len cap : Nat} {y : DataW H × List MemPlace} (h : DataW.trod enc Try.prog w 0 (fun _ => true) true fuel 22 [.slice a len cap] = some y) (hl : Light Try.prog 22 y.1) :
    ∃ L : List Eop, L.length = len ∧ HoldsL 6 eopL w a L ∧ len ≤ cap ∧ len ≤ 1000000000000000 ∧ ∀ z ∈ L, EopW z := by
  rcases open_slice Try.underlying22 h with ⟨hcs, hx⟩ | ⟨x, l, c, m, n, D, Pl, hcs, _, hle, hm, hmm, hx, hel⟩
  · simp at hcs
    obtain ⟨rfl, rfl, rfl⟩ := hcs
    exact ⟨[], rfl, .inl rfl, Nat.le_refl _, by omega, fun z hz => by cases hz⟩
  · simp at hcs
    obtain ⟨rfl, rfl, rfl⟩ := hcs
    simp only [if_true] at hmm
    subst m
    have hC : Try.prog.cellsOf 32 = 6 := by kernel_rfl
    have hB : Try.prog.bytesOf 32 = 24 := by kernel_rfl
    have each : ∀ i, i < len → ∃ z : Eop, (∀ j v, (eopL z)[j]? = some v → w.cell? (x.add (i * 6 + j)) = some v) ∧ EopW z := by
      intro i hi
      obtain ⟨cs', h1, h2⟩ := hel i (by omega)
      rw [hC] at h1
      obtain ⟨_, hcl, hat⟩ := World.cells?_some h1
      obtain ⟨z, hc, hz⟩ := eop_cells_in h2 (by omega)
      refine ⟨z, fun j v hj => ?_, hz⟩
      have hj3 : j < 6 := by
        rcases Nat.lt_or_ge j 6 with hlt | hge
        · exact hlt
        · rw [List.getElem?_eq_none (by exact hge)] at hj; cases hj
      have e := hat j (by omega)
      rw [add_add] at e
      rw [e, hc]; exact hj
    have inh : Inhabited Eop := ⟨⟨0, 0, false, false, false, false⟩⟩
    obtain ⟨Z, hZ⟩ := choose_lt (α := Eop) each
    refine ⟨(List.range len).map Z, by simp, ?_, hle, ?_, fun z hz => ?_⟩
    · by_cases hn : len = 0
      · exact .inl (by subst hn; rfl)
      · have c0 := (hZ 0 (by omega)).1 0 _ rfl
        obtain ⟨b, off, spot⟩ := x
        have hspot : spot = none := by simpa [Addr.add] using World.cell?_spot c0
        subst hspot
        have ea : ∀ k, (⟨b, off, none⟩ : Addr).add k = ⟨b, off + k, none⟩ := fun k => by unfold Addr.add; split <;> simp_all
        have hblk : b < w.heap.size := by rw [ea] at c0; exact World.block_lt_of_cell? w _ c0
        refine .inr ⟨b, off, rfl, hblk, fun i q hq j v hv => ?_⟩
        rw [List.getElem?_map] at hq
        by_cases hi : i < len
        · rw [List.getElem?_range hi] at hq
          obtain rfl := Option.some.inj hq
          have := (hZ i hi).1 j v hv
          rw [ea] at this
          rw [Nat.add_assoc]; exact this
        · rw [List.getElem?_eq_none (by simp; omega)] at hq; cases hq
    · have := hl (cap * 24) (by
        subst hx
        simp only [DataW.weights, Try.underlying22, List.mem_cons]
        left
        rw [hB]
        simp; omega)
      have h9 : cap * 24 ≤ 140737488351232 := this
      omega
    · obtain ⟨i, hi, rfl⟩ := List.mem_map.1 hz
      exact (hZ i (List.mem_range.1 hi)).2
end Go.Proofs.Ytjbmmklgpjnbmaa
