/-
  WHAT COMES IN, OPENED: calls of a state (a slice of bilgelaw18.Op).
-/
import Derived.Test.YtchdgodmncckcaaOpenW
namespace Go.Proofs.Ytchdgodmncckcaa
open Go.RowKit Go.ChangeShapes Go.WideShapes Go.ChangeAt Go.Joins Go.Deep
set_option linter.unusedVariables false
set_option maxRecDepth 100000

/-- A call: which, its number, its bytes, and where they lie. -/
structure Dop where
  k : Int
  x : Int
  a : Option Addr
  m : Nat
  d : Nat
  f : Nat → Int
def dopL (z : Dop) : List Value := [.int .i64 z.k, .int .i64 z.x, .slice z.a z.m z.d]
structure DopAt (w : World) (z : Dop) : Prop where
  h : Holds .u8 w z.a z.m z.f
  l : z.m ≤ z.d
  m : z.d ≤ maxLen
  s : z.m ≤ 1000000000000000
  b : ∀ i, i < z.m → 0 ≤ z.f i ∧ z.f i < 256
  wk : (Lit.int .i64 z.k).wf = true
  wx : (Lit.int .i64 z.x).wf = true
theorem bytes18_cell {H : Type} {enc : TypeId × Value → H} {w : World} {n : Nat} {u : Value} {y : DataW H × List MemPlace} (e : DataW.trod enc Try.prog w 0 (fun _ => true) true n 31 [u] = some y) (l : Light Try.prog 31 y.1) :
    ∃ (a : Option Addr) (m d : Nat) (f : Nat → Int), u = .slice a m d ∧ HoldsG (Value.int .u8) w a m f ∧ m ≤ d ∧ d ≤ maxLen ∧ m ≤ 1000000000000000 ∧ ∀ i, i < m → 0 ≤ f i ∧ f i < 256 := by
  obtain ⟨a, m, d, hc⟩ := Joins.slice_form Try.underlying31 e
  rw [hc] at e
  simp only [List.cons.injEq, and_true] at hc
  obtain ⟨f, hh, hle, hz, hw⟩ := row_in (k := .u8) (B := 1) Try.underlying31 Try.underlying5 (by kernel_rfl) (by kernel_rfl) e l
  exact ⟨a, m, d, f, hc, hh, hle, by unfold maxLen; omega, by omega, fun i hi => by have := hw i hi; simp [Lit.wf, IntKind.min, IntKind.max, IntKind.signed, IntKind.bits] at this; omega⟩
theorem dop_cells_in {H : Type} {enc : TypeId × Value → H} {w : World} {n : Nat} {cs : List Value} {y : DataW H × List MemPlace} (h : DataW.trod enc Try.prog w 0 (fun _ => true) true n 33 cs = some y) (hlen3 : cs.length = 3) (hl : Light Try.prog 33 y.1) :
    ∃ z : Dop, cs = dopL z ∧ DopAt w z := by
  obtain ⟨u0, u1, u2, rfl⟩ : ∃ u0 u1 u2, cs = [u0, u1, u2] := by
    match cs, hlen3 with
    | [a, b, c], _ => exact ⟨a, b, c, rfl⟩
  obtain ⟨xs, k, _, hx, _, hlen, hfld⟩ := DataW.trod_struct Try.underlying33 h
  have e0 := hfld 0 _ rfl
  have e1 := hfld 1 _ rfl
  have e2 := hfld 2 _ rfl
  have hxl : 2 < xs.length := by simp at hlen; omega
  rw [List.getElem?_eq_getElem (by omega)] at e0 e1 e2
  have light : ∀ (j : Nat) (t : TypeId) (hj : j < xs.length), ((#[3, 3, 31] : Array TypeId).toList)[j]? = some t → Light Try.prog t xs[j].1 := by
    intro j t hj ht m hm
    refine hl m ?_
    rw [show y.1 = _ from congrArg Prod.fst hx]
    simp only [DataW.weights, Try.underlying33]
    exact DataW.weights_mem_each (j := j) (t := t) ht (by simp [hj]) m hm
  change DataW.trod enc Try.prog w 0 (fun _ => true) true k 3 [u0] = some _ at e0
  change DataW.trod enc Try.prog w 0 (fun _ => true) true k 3 [u1] = some _ at e1
  change DataW.trod enc Try.prog w 0 (fun _ => true) true k 31 [u2] = some _ at e2
  obtain ⟨k, hk, -, wk⟩ := DataW.trod_int Try.underlying3 e0
  obtain ⟨x, hx', -, wx⟩ := DataW.trod_int Try.underlying3 e1
  simp only [List.cons.injEq, and_true] at hk hx'
  obtain ⟨a1, m1, d1, f1, r1, s1, t1, v1, z1, b1⟩ := bytes18_cell e2 (light 2 _ (by omega) rfl)
  refine ⟨⟨k, x, a1, m1, d1, f1⟩, ?_, ⟨s1, t1, v1, z1, b1, wk, wx⟩⟩
  rw [hk, hx', r1]
  rfl
theorem weights18_mem {H : Type} {P : Program} {e : TypeId} {n : Nat} {d : DataW H} : ∀ {l : List (DataW H)}, d ∈ l → n ∈ d.weights P e → n ∈ DataW.weightsAll P e l
  | x :: l, hd, hn => by
    simp only [DataW.weightsAll, List.mem_append]
    rcases List.mem_cons.1 hd with rfl | h
    · exact .inl hn
    · exact .inr (weights18_mem h hn)
theorem dops_in {H : Type} {enc : TypeId × Value → H} {w : World} {fuel : Nat} {a : Option Addr} {len cap : Nat} {y : DataW H × List MemPlace} (h : DataW.trod enc Try.prog w 0 (fun _ => true) true fuel 22 [.slice a len cap] = some y) (hl : Light Try.prog 22 y.1) :
    ∃ L : List Dop, L.length = len ∧ HoldsL 3 dopL w a L ∧ len ≤ cap ∧ len ≤ 1000000000000000 ∧ ∀ z ∈ L, DopAt w z := by
  rcases open_slice Try.underlying22 h with ⟨hcs, hx⟩ | ⟨x, l, c, m, n, D, Pl, hcs, _, hle, hm, hmm, hx, hel⟩
  · simp at hcs
    obtain ⟨rfl, rfl, rfl⟩ := hcs
    exact ⟨[], rfl, .inl rfl, Nat.le_refl _, by omega, fun z hz => by cases hz⟩
  · simp at hcs
    obtain ⟨rfl, rfl, rfl⟩ := hcs
    simp only [if_true] at hmm
    subst m
    have hC : Try.prog.cellsOf 33 = 3 := by kernel_rfl
    have hB : Try.prog.bytesOf 33 = 40 := by kernel_rfl
    have each : ∀ i, i < len → ∃ z : Dop, (∀ j v, (dopL z)[j]? = some v → w.cell? (x.add (i * 3 + j)) = some v) ∧ DopAt w z := by
      intro i hi
      obtain ⟨cs', h1, h2⟩ := hel i (by omega)
      rw [hC] at h1
      obtain ⟨_, hcl, hat⟩ := World.cells?_some h1
      have hlight : Light Try.prog 33 (D i) := by
        intro q hq
        refine hl q ?_
        subst hx
        simp only [DataW.weights, Try.underlying22, List.mem_cons, List.mem_append]
        exact .inr (.inl (weights18_mem (List.mem_map.2 ⟨i, List.mem_range.2 hi, rfl⟩) hq))
      obtain ⟨z, hc, hz⟩ := dop_cells_in h2 (by omega) hlight
      refine ⟨z, fun j v hj => ?_, hz⟩
      have hj3 : j < 3 := by
        rcases Nat.lt_or_ge j 3 with hlt | hge
        · exact hlt
        · rw [List.getElem?_eq_none (by exact hge)] at hj; cases hj
      have e := hat j (by omega)
      rw [add_add] at e
      rw [e, hc]; exact hj
    have inh : Inhabited Dop := ⟨⟨0, 0, none, 0, 0, fun _ => 0⟩⟩
    obtain ⟨Z, hZ⟩ := choose_lt (α := Dop) each
    refine ⟨(List.range len).map Z, by simp, ?_, hle, ?_, fun z hz => ?_⟩
    · by_cases hn : len = 0
      · exact .inl (by subst hn; rfl)
      · have c0 := (hZ 0 (by omega)).1 0 _ rfl
        obtain ⟨b, off, spot⟩ := x
        have hspot : spot = none := by simpa [Addr.add] using World.cell?_spot c0
        subst hspot
        have ea : ∀ k, (⟨b, off, none⟩ : Addr).add k = ⟨b, off + k, none⟩ := fun k => by unfold Addr.add; split <;> simp_all
        have hblk : b < w.heap.size := by rw [ea] at c0; exact World.block_lt_of_cell? w _ c0
        refine .inr ⟨b, off, rfl, hblk, fun i q hq j v hv => ?_⟩
        rw [List.getElem?_map] at hq
        by_cases hi : i < len
        · rw [List.getElem?_range hi] at hq
          obtain rfl := Option.some.inj hq
          have := (hZ i hi).1 j v hv
          rw [ea] at this
          rw [Nat.add_assoc]; exact this
        · rw [List.getElem?_eq_none (by simp; omega)] at hq; cases hq
    · have := hl (cap * 40) (by
        subst hx
        simp only [DataW.weights, Try.underlying22, List.mem_cons]
        left
        rw [hB]
        simp; omega)
      have h9 : cap * 40 ≤ 140737488351232 := this
      omega
    · obtain ⟨i, hi, rfl⟩ := List.mem_map.1 hz
      exact (hZ i (List.mem_range.1 hi)).2
end Go.Proofs.Ytchdgodmncckcaa
