/-
  WHAT COMES IN, OPENED: banks, files, operations (bilgelaw14.Op) by value; slices of operations.
-/
import Derived.Test.YtkfpnijacfeogaaOpenW
import Derived.Test.YtkfpnijacfeogaaFilC
namespace Go.Proofs.Ytkfpnijacfeogaa
open Go.RowKit Go.ChangeShapes Go.WideShapes Go.ChangeAt Go.Joins Go.Deep
set_option linter.unusedVariables false
set_option maxRecDepth 100000

/-- A bank among a struct's cells. -/
theorem bank_in {H : Type} {enc : TypeId × Value → H} {w : World} {n : Nat} {u0 u1 u2 u3 u4 u5 u6 u7 u8 u9 : Value} {y : DataW H × List MemPlace} (h : DataW.trod enc Try.prog w 0 (fun _ => true) true n 25 [u0, u1, u2, u3, u4, u5, u6, u7, u8, u9] = some y) :
    ∃ cf cc jf jc hf hc rf rc bf bc : Int, u0 = .int .i64 cf ∧ u1 = .int .i64 cc ∧ u2 = .int .i64 jf ∧ u3 = .int .i64 jc ∧ u4 = .int .i64 hf ∧ u5 = .int .i64 hc ∧ u6 = .int .i64 rf ∧ u7 = .int .i64 rc ∧ u8 = .int .i64 bf ∧ u9 = .int .i64 bc := by
  obtain ⟨xs, k, _, hx, _, hlen, hfld⟩ := DataW.trod_struct Try.underlying25 h
  have h0 := hfld 0 _ rfl
  have h1 := hfld 1 _ rfl
  have h2 := hfld 2 _ rfl
  have h3 := hfld 3 _ rfl
  have h4 := hfld 4 _ rfl
  have hl : 4 < xs.length := by simp at hlen; omega
  rw [List.getElem?_eq_getElem (by omega)] at h0 h1 h2 h3 h4
  change DataW.trod enc Try.prog w 0 (fun _ => true) true k 23 [u0, u1] = some _ at h0
  change DataW.trod enc Try.prog w 0 (fun _ => true) true k 23 [u2, u3] = some _ at h1
  change DataW.trod enc Try.prog w 0 (fun _ => true) true k 23 [u4, u5] = some _ at h2
  change DataW.trod enc Try.prog w 0 (fun _ => true) true k 23 [u6, u7] = some _ at h3
  change DataW.trod enc Try.prog w 0 (fun _ => true) true k 23 [u8, u9] = some _ at h4
  obtain ⟨a0, b0, e0, f0, _, _⟩ := win_in h0
  obtain ⟨a1, b1, e1, f1, _, _⟩ := win_in h1
  obtain ⟨a2, b2, e2, f2, _, _⟩ := win_in h2
  obtain ⟨a3, b3, e3, f3, _, _⟩ := win_in h3
  obtain ⟨a4, b4, e4, f4, _, _⟩ := win_in h4
  exact ⟨a0, b0, a1, b1, a2, b2, a3, b3, a4, b4, e0, f0, e1, f1, e2, f2, e3, f3, e4, f4⟩
/-- A slice of bools, of words, among a struct's cells. -/
theorem bools_cell {H : Type} {enc : TypeId × Value → H} {w : World} {n : Nat} {u : Value} {y : DataW H × List MemPlace} (e : DataW.trod enc Try.prog w 0 (fun _ => true) true n 28 [u] = some y) (l : Light Try.prog 28 y.1) :
    ∃ (a : Option Addr) (m d : Nat) (f : Nat → Bool), u = .slice a m d ∧ HoldsG Value.bool w a m f ∧ m ≤ d ∧ d ≤ maxLen ∧ m ≤ 1000000000000000 := by
  obtain ⟨a, m, d, hc⟩ := Joins.slice_form Try.underlying28 e
  rw [hc] at e
  simp only [List.cons.injEq, and_true] at hc
  obtain ⟨f, hh, hle, hz⟩ := brow_in (B := 1) Try.underlying28 Try.underlying4 (by kernel_rfl) (by kernel_rfl) e l
  exact ⟨a, m, d, f, hc, hh, hle, by unfold maxLen; omega, by omega⟩
theorem words_cell {H : Type} {enc : TypeId × Value → H} {w : World} {n : Nat} {u : Value} {y : DataW H × List MemPlace} (e : DataW.trod enc Try.prog w 0 (fun _ => true) true n 29 [u] = some y) (l : Light Try.prog 29 y.1) :
    ∃ (a : Option Addr) (m d : Nat) (f : Nat → Int), u = .slice a m d ∧ HoldsG (Value.int .u16) w a m f ∧ m ≤ d ∧ d ≤ maxLen ∧ m ≤ 1000000000000000 := by
  obtain ⟨a, m, d, hc⟩ := Joins.slice_form Try.underlying29 e
  rw [hc] at e
  simp only [List.cons.injEq, and_true] at hc
  obtain ⟨f, hh, hle, hz, _⟩ := row_in (k := .u16) (B := 2) Try.underlying29 Try.underlying61 (by kernel_rfl) (by kernel_rfl) e l
  exact ⟨a, m, d, f, hc, hh, hle, by unfold maxLen; omega, by omega⟩
theorem fil_in {H : Type} {enc : TypeId × Value → H} {w : World} {r : Reach} {b0 : Nat} {v : Value} {d : DataW H} {p : List MemPlace} (hv : Value.okWide Try.prog w r b0 31 v) (h : DataW.Trod enc Try.prog w 0 (fun _ => true) true 31 v d p) (hl : Light Try.prog 31 d) :
    ∃ (V : FilV) (F : Fil), v = .agg (filC V F) ∧ FilAt w V F ∧ F.nC ≤ 1000000000000000 ∧ F.nI ≤ 1000000000000000 ∧ F.nH ≤ 1000000000000000 ∧ F.nR ≤ 1000000000000000 := by
  obtain ⟨V, rfl, hf⟩ := wide_in Try.underlying31 (by kernel_rfl) hv h hl
  obtain ⟨n0, y0, e0, l0⟩ := hf 0 _ rfl
  obtain ⟨n1, y1, e1, l1⟩ := hf 1 _ rfl
  obtain ⟨n2, y2, e2, l2⟩ := hf 2 _ rfl
  obtain ⟨n3, y3, e3, l3⟩ := hf 3 _ rfl
  obtain ⟨n4, y4, e4, l4⟩ := hf 4 _ rfl
  change DataW.trod enc Try.prog w 0 (fun _ => true) true n0 25 [V 0, V 1, V 2, V 3, V 4, V 5, V 6, V 7, V 8, V 9] = some y0 at e0
  change DataW.trod enc Try.prog w 0 (fun _ => true) true n1 28 [V 10] = some y1 at e1
  change DataW.trod enc Try.prog w 0 (fun _ => true) true n2 28 [V 11] = some y2 at e2
  change DataW.trod enc Try.prog w 0 (fun _ => true) true n3 29 [V 12] = some y3 at e3
  change DataW.trod enc Try.prog w 0 (fun _ => true) true n4 29 [V 13] = some y4 at e4
  obtain ⟨cf, cc, jf, jc, hf, hc, rf, rc, bf, bc, q0, q1, q2, q3, q4, q5, q6, q7, q8, q9⟩ := bank_in e0
  obtain ⟨a1, m1, d1, f1, r1, s1, t1, v1, z1⟩ := bools_cell e1 l1
  obtain ⟨a2, m2, d2, f2, r2, s2, t2, v2, z2⟩ := bools_cell e2 l2
  obtain ⟨a3, m3, d3, f3, r3, s3, t3, v3, z3⟩ := words_cell e3 l3
  obtain ⟨a4, m4, d4, f4, r4, s4, t4, v4, z4⟩ := words_cell e4 l4
  refine ⟨⟨a1, d1, a2, d2, a3, d3, a4, d4⟩, ⟨cf, cc, jf, jc, hf, hc, rf, rc, bf, bc, m1, f1, m2, f2, m3, f3, m4, f4⟩, ?_, ⟨s1, t1, v1, s2, t2, v2, s3, t3, v3, s4, t4, v4⟩, z1, z2, z3, z4⟩
  show Value.agg #[V 0, V 1, V 2, V 3, V 4, V 5, V 6, V 7, V 8, V 9, V 10, V 11, V 12, V 13] = _
  rw [q0, q1, q2, q3, q4, q5, q6, q7, q8, q9, r1, r2, r3, r4]
  rfl
theorem bnk_in {H : Type} {enc : TypeId × Value → H} {w : World} {r : Reach} {b0 : Nat} {v : Value} {d : DataW H} {p : List MemPlace} (hv : Value.okWide Try.prog w r b0 25 v) (h : DataW.Trod enc Try.prog w 0 (fun _ => true) true 25 v d p) (hl : Light Try.prog 25 d) :
    ∃ F : Fil, v = .agg (bnkC F) := by
  obtain ⟨cs, rfl, hsz⟩ := okWide_struct Try.underlying25 hv
  have hs : cs.size = 10 := hsz.trans (by kernel_rfl)
  obtain ⟨fuel, hf⟩ := h
  have hcs : cs = #[cs[0], cs[1], cs[2], cs[3], cs[4], cs[5], cs[6], cs[7], cs[8], cs[9]] := by
    apply Array.ext
    · exact hs
    · intro i h1 h2
      have : i = 0 ∨ i = 1 ∨ i = 2 ∨ i = 3 ∨ i = 4 ∨ i = 5 ∨ i = 6 ∨ i = 7 ∨ i = 8 ∨ i = 9 := by omega
      rcases this with rfl | rfl | rfl | rfl | rfl | rfl | rfl | rfl | rfl | rfl <;> rfl
  have hl2 : (Value.agg cs).cells.toList = [cs[0], cs[1], cs[2], cs[3], cs[4], cs[5], cs[6], cs[7], cs[8], cs[9]] := congrArg Array.toList hcs
  rw [hl2] at hf
  obtain ⟨cf, cc, jf, jc, hf', hc, rf, rc, bf, bc, q0, q1, q2, q3, q4, q5, q6, q7, q8, q9⟩ := bank_in hf
  refine ⟨⟨cf, cc, jf, jc, hf', hc, rf, rc, bf, bc, 0, fun _ => false, 0, fun _ => false, 0, fun _ => 0, 0, fun _ => 0⟩, ?_⟩
  rw [hcs, q0, q1, q2, q3, q4, q5, q6, q7, q8, q9]
  rfl
theorem ope_in {H : Type} {enc : TypeId × Value → H} {w : World} {r : Reach} {b0 : Nat} {v : Value} {d : DataW H} {p : List MemPlace} (hv : Value.okWide Try.prog w r b0 40 v) (h : DataW.Trod enc Try.prog w 0 (fun _ => true) true 40 v d p) (hl : Light Try.prog 40 d) :
    ∃ (X : OpeV) (o : Ope), v = .agg (opeC X o) ∧ OpeAt w X o ∧ OpeW o ∧ o.nb ≤ 1000000000000000 ∧ o.nr ≤ 1000000000000000 := by
  obtain ⟨V, rfl, hf⟩ := wide_in Try.underlying40 (by kernel_rfl) hv h hl
  obtain ⟨n0, y0, e0, -⟩ := hf 0 _ rfl
  obtain ⟨n1, y1, e1, -⟩ := hf 1 _ rfl
  obtain ⟨n2, y2, e2, -⟩ := hf 2 _ rfl
  obtain ⟨n3, y3, e3, -⟩ := hf 3 _ rfl
  obtain ⟨n4, y4, e4, l4⟩ := hf 4 _ rfl
  obtain ⟨n5, y5, e5, l5⟩ := hf 5 _ rfl
  change DataW.trod enc Try.prog w 0 (fun _ => true) true n0 3 [V 0] = some y0 at e0
  change DataW.trod enc Try.prog w 0 (fun _ => true) true n1 3 [V 1] = some y1 at e1
  change DataW.trod enc Try.prog w 0 (fun _ => true) true n2 3 [V 2] = some y2 at e2
  change DataW.trod enc Try.prog w 0 (fun _ => true) true n3 3 [V 3] = some y3 at e3
  change DataW.trod enc Try.prog w 0 (fun _ => true) true n4 28 [V 4] = some y4 at e4
  change DataW.trod enc Try.prog w 0 (fun _ => true) true n5 29 [V 5] = some y5 at e5
  obtain ⟨k, hk, -, wk⟩ := DataW.trod_int Try.underlying3 e0
  obtain ⟨x, hx, -, wx⟩ := DataW.trod_int Try.underlying3 e1
  obtain ⟨c, hc, -, wc⟩ := DataW.trod_int Try.underlying3 e2
  obtain ⟨u, hu, -, wu⟩ := DataW.trod_int Try.underlying3 e3
  simp only [List.cons.injEq, and_true] at hk hx hc hu
  obtain ⟨a1, m1, d1, f1, r1, s1, t1, v1, z1⟩ := bools_cell e4 l4
  obtain ⟨a2, m2, d2, f2, r2, s2, t2, v2, z2⟩ := words_cell e5 l5
  refine ⟨⟨a1, d1, a2, d2⟩, ⟨k, x, c, u, m1, f1, m2, f2⟩, ?_, ⟨s1, t1, v1, s2, t2, v2⟩, ⟨wk, wx, wc, wu⟩, z1, z2⟩
  show Value.agg #[V 0, V 1, V 2, V 3, V 4, V 5] = _
  rw [hk, hx, hc, hu, r1, r2]
  rfl
/-- An operation's six cells, opened. -/
theorem ope_cells_in {H : Type} {enc : TypeId × Value → H} {w : World} {n : Nat} {cs : List Value} {y : DataW H × List MemPlace} (h : DataW.trod enc Try.prog w 0 (fun _ => true) true n 40 cs = some y) (hlen6 : cs.length = 6) (hl : Light Try.prog 40 y.1) :
    ∃ (X : OpeV) (o : Ope), cs = (opeC X o).toList ∧ OpeAt w X o ∧ OpeW o ∧ o.nb ≤ 1000000000000000 ∧ o.nr ≤ 1000000000000000 := by
  obtain ⟨u0, u1, u2, u3, u4, u5, rfl⟩ : ∃ u0 u1 u2 u3 u4 u5, cs = [u0, u1, u2, u3, u4, u5] := by
    match cs, hlen6 with
    | [a, b, c, d, e, f], _ => exact ⟨a, b, c, d, e, f, rfl⟩
  obtain ⟨xs, k, _, hx, _, hlen, hfld⟩ := DataW.trod_struct Try.underlying40 h
  have e0 := hfld 0 _ rfl
  have e1 := hfld 1 _ rfl
  have e2 := hfld 2 _ rfl
  have e3 := hfld 3 _ rfl
  have e4 := hfld 4 _ rfl
  have e5 := hfld 5 _ rfl
  have hxl : 5 < xs.length := by simp at hlen; omega
  rw [List.getElem?_eq_getElem (by omega)] at e0 e1 e2 e3 e4 e5
  have light : ∀ (j : Nat) (t : TypeId) (hj : j < xs.length), ((#[3, 3, 3, 3, 28, 29] : Array TypeId).toList)[j]? = some t → Light Try.prog t xs[j].1 := by
    intro j t hj ht m hm
    refine hl m ?_
    rw [show y.1 = _ from congrArg Prod.fst hx]
    simp only [DataW.weights, Try.underlying40]
    exact DataW.weights_mem_each (j := j) (t := t) ht (by simp [hj]) m hm
  change DataW.trod enc Try.prog w 0 (fun _ => true) true k 3 [u0] = some _ at e0
  change DataW.trod enc Try.prog w 0 (fun _ => true) true k 3 [u1] = some _ at e1
  change DataW.trod enc Try.prog w 0 (fun _ => true) true k 3 [u2] = some _ at e2
  change DataW.trod enc Try.prog w 0 (fun _ => true) true k 3 [u3] = some _ at e3
  change DataW.trod enc Try.prog w 0 (fun _ => true) true k 28 [u4] = some _ at e4
  change DataW.trod enc Try.prog w 0 (fun _ => true) true k 29 [u5] = some _ at e5
  obtain ⟨k, hk, -, wk⟩ := DataW.trod_int Try.underlying3 e0
  obtain ⟨x, hx', -, wx⟩ := DataW.trod_int Try.underlying3 e1
  obtain ⟨c, hc, -, wc⟩ := DataW.trod_int Try.underlying3 e2
  obtain ⟨u, hu, -, wu⟩ := DataW.trod_int Try.underlying3 e3
  simp only [List.cons.injEq, and_true] at hk hx' hc hu
  obtain ⟨a1, m1, d1, f1, r1, s1, t1, v1, z1⟩ := bools_cell e4 (light 4 _ (by omega) rfl)
  obtain ⟨a2, m2, d2, f2, r2, s2, t2, v2, z2⟩ := words_cell e5 (light 5 _ (by omega) rfl)
  refine ⟨⟨a1, d1, a2, d2⟩, ⟨k, x, c, u, m1, f1, m2, f2⟩, ?_, ⟨s1, t1, v1, s2, t2, v2⟩, ⟨wk, wx, wc, wu⟩, z1, z2⟩
  rw [hk, hx', hc, hu, r1, r2]
  rfl
set_option maxRecDepth 100000 in
/-- A slice of operations. -/
def opeL (z : OpeV × Ope) : List Value := (opeC z.1 z.2).toList
theorem weightsAll_mem {H : Type} {P : Program} {e : TypeId} {n : Nat} {d : DataW H} : ∀ {l : List (DataW H)}, d ∈ l → n ∈ d.weights P e → n ∈ DataW.weightsAll P e l
  | x :: l, hd, hn => by
    simp only [DataW.weightsAll, List.mem_append]
    rcases List.mem_cons.1 hd with rfl | h
    · exact .inl hn
    · exact .inr (weightsAll_mem h hn)
theorem opes_in {H : Type} {enc : TypeId × Value → H} {w : World} {fuel : Nat} {a : Option Addr} {len cap : Nat} {y : DataW H × List MemPlace} (h : DataW.trod enc Try.prog w 0 (fun _ => true) true fuel 26 [.slice a len cap] = some y) (hl : Light Try.prog 26 y.1) :
    ∃ L : List (OpeV × Ope), L.length = len ∧ HoldsL 6 opeL w a L ∧ len ≤ cap ∧ len ≤ 1000000000000000 ∧ ∀ z ∈ L, OpeAt w z.1 z.2 ∧ OpeW z.2 ∧ z.2.nb ≤ 1000000000000000 ∧ z.2.nr ≤ 1000000000000000 := by
  rcases open_slice Try.underlying26 h with ⟨hcs, hx⟩ | ⟨x, l, c, m, n, D, Pl, hcs, _, hle, hm, hmm, hx, hel⟩
  · simp at hcs
    obtain ⟨rfl, rfl, rfl⟩ := hcs
    exact ⟨[], rfl, .inl rfl, Nat.le_refl _, by omega, fun z hz => by cases hz⟩
  · simp at hcs
    obtain ⟨rfl, rfl, rfl⟩ := hcs
    simp only [if_true] at hmm
    subst m
    have hC : Try.prog.cellsOf 40 = 6 := by kernel_rfl
    have hB : Try.prog.bytesOf 40 = 80 := by kernel_rfl
    have each : ∀ i, i < len → ∃ z : OpeV × Ope, (∀ j v, (opeL z)[j]? = some v → w.cell? (x.add (i * 6 + j)) = some v) ∧ OpeAt w z.1 z.2 ∧ OpeW z.2 ∧ z.2.nb ≤ 1000000000000000 ∧ z.2.nr ≤ 1000000000000000 := by
      intro i hi
      obtain ⟨cs', h1, h2⟩ := hel i (by omega)
      rw [hC] at h1
      obtain ⟨_, hcl, hat⟩ := World.cells?_some h1
      have hlight : Light Try.prog 40 (D i) := by
        intro q hq
        refine hl q ?_
        subst hx
        simp only [DataW.weights, Try.underlying26, List.mem_cons, List.mem_append]
        exact .inr (.inl (weightsAll_mem (List.mem_map.2 ⟨i, List.mem_range.2 hi, rfl⟩) hq))
      obtain ⟨X, o, hc, ho, hw, z1, z2⟩ := ope_cells_in h2 (by omega) hlight
      refine ⟨(X, o), fun j v hj => ?_, ho, hw, z1, z2⟩
      have hj6 : j < 6 := by
        rcases Nat.lt_or_ge j 6 with hlt | hge
        · exact hlt
        · rw [List.getElem?_eq_none (by exact hge)] at hj; cases hj
      have e := hat j (by omega)
      rw [add_add] at e
      rw [e, hc]; exact hj
    have inh : Inhabited (OpeV × Ope) := ⟨(⟨none, 0, none, 0⟩, ⟨0, 0, 0, 0, 0, fun _ => false, 0, fun _ => 0⟩)⟩
    obtain ⟨Z, hZ⟩ := choose_lt (α := OpeV × Ope) each
    refine ⟨(List.range len).map Z, by simp, ?_, hle, ?_, fun z hz => ?_⟩
    · by_cases hn : len = 0
      · exact .inl (by subst hn; rfl)
      · have c0 := (hZ 0 (by omega)).1 0 _ rfl
        obtain ⟨b, off, spot⟩ := x
        have hspot : spot = none := by simpa [Addr.add] using World.cell?_spot c0
        subst hspot
        have ea : ∀ k, (⟨b, off, none⟩ : Addr).add k = ⟨b, off + k, none⟩ := fun k => by unfold Addr.add; split <;> simp_all
        have hblk : b < w.heap.size := by rw [ea] at c0; exact World.block_lt_of_cell? w _ c0
        refine .inr ⟨b, off, rfl, hblk, fun i q hq j v hv => ?_⟩
        rw [List.getElem?_map] at hq
        by_cases hi : i < len
        · rw [List.getElem?_range hi] at hq
          obtain rfl := Option.some.inj hq
          have := (hZ i hi).1 j v hv
          rw [ea] at this
          rw [Nat.add_assoc]; exact this
        · rw [List.getElem?_eq_none (by simp; omega)] at hq; cases hq
    · have := hl (cap * 80) (by
        subst hx
        simp only [DataW.weights, Try.underlying26, List.mem_cons]
        left
        rw [hB]
        simp; omega)
      have h9 : cap * 80 ≤ 140737488351232 := this
      omega
    · obtain ⟨i, hi, rfl⟩ := List.mem_map.1 hz
      exact (hZ i (List.mem_range.1 hi)).2
end Go.Proofs.Ytkfpnijacfeogaa
