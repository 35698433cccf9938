/-
  WHAT COMES IN, OPENED: a slice of objects.
-/
import Derived.Test.YthdkhdbabohohaaOpenW
import Derived.Test.YthdkhdbabohohaaObj
namespace Go.Proofs.Ythdkhdbabohohaa
open Go.RowKit Go.ChangeShapes Go.WideShapes Go.ChangeAt Go.Joins Go.Deep
set_option linter.unusedVariables false
set_option maxRecDepth 100000

theorem bytes20_cell {H : Type} {enc : TypeId × Value → H} {w : World} {n : Nat} {u : Value} {y : DataW H × List MemPlace} (e : DataW.trod enc Try.prog w 0 (fun _ => true) true n 25 [u] = some y) (l : Light Try.prog 25 y.1) :
    ∃ (a : Option Addr) (m d : Nat) (f : Nat → Int), u = .slice a m d ∧ HoldsG (Value.int .u8) w a m f ∧ m ≤ d ∧ d ≤ maxLen ∧ m ≤ 1000000000000000 ∧ ∀ i, i < m → 0 ≤ f i ∧ f i < 256 := by
  obtain ⟨a, m, d, hc⟩ := Joins.slice_form Try.underlying25 e
  rw [hc] at e
  simp only [List.cons.injEq, and_true] at hc
  obtain ⟨f, hh, hle, hz, hw⟩ := row_in (k := .u8) (B := 1) Try.underlying25 Try.underlying5 (by kernel_rfl) (by kernel_rfl) e l
  exact ⟨a, m, d, f, hc, hh, hle, by unfold maxLen; omega, by omega, fun i hi => by have := hw i hi; simp [Lit.wf, IntKind.min, IntKind.max, IntKind.signed, IntKind.bits] at this; omega⟩
theorem ob_cells_in {H : Type} {enc : TypeId × Value → H} {w : World} {n : Nat} {cs : List Value} {y : DataW H × List MemPlace} (h : DataW.trod enc Try.prog w 0 (fun _ => true) true n 49 cs = some y) (hlen2 : cs.length = 2) (hl : Light Try.prog 49 y.1) :
    ∃ z : Ob, cs = obL z ∧ ObjAt w z := by
  obtain ⟨u0, u1, rfl⟩ : ∃ u0 u1, cs = [u0, u1] := by
    match cs, hlen2 with
    | [a, b], _ => exact ⟨a, b, rfl⟩
  obtain ⟨xs, k, _, hx, _, hlen, hfld⟩ := DataW.trod_struct Try.underlying49 h
  have e0 := hfld 0 _ rfl
  have e1 := hfld 1 _ rfl
  have hxl : 1 < xs.length := by simp at hlen; omega
  rw [List.getElem?_eq_getElem (by omega)] at e0 e1
  have light : ∀ (j : Nat) (t : TypeId) (hj : j < xs.length), ((#[3, 25] : Array TypeId).toList)[j]? = some t → Light Try.prog t xs[j].1 := by
    intro j t hj ht m hm
    refine hl m ?_
    rw [show y.1 = _ from congrArg Prod.fst hx]
    simp only [DataW.weights, Try.underlying49]
    exact DataW.weights_mem_each (j := j) (t := t) ht (by simp [hj]) m hm
  change DataW.trod enc Try.prog w 0 (fun _ => true) true k 3 [u0] = some _ at e0
  change DataW.trod enc Try.prog w 0 (fun _ => true) true k 25 [u1] = some _ at e1
  obtain ⟨k, hk, -, wk⟩ := DataW.trod_int Try.underlying3 e0
  simp only [List.cons.injEq, and_true] at hk
  obtain ⟨a1, m1, d1, f1, r1, s1, t1, v1, z1, b1⟩ := bytes20_cell e1 (light 1 _ (by omega) rfl)
  refine ⟨⟨k, a1, m1, d1, f1⟩, ?_, ⟨s1, t1, v1, z1, b1, wk⟩⟩
  rw [hk, r1]
  rfl
theorem weights20_mem {H : Type} {P : Program} {e : TypeId} {n : Nat} {d : DataW H} : ∀ {l : List (DataW H)}, d ∈ l → n ∈ d.weights P e → n ∈ DataW.weightsAll P e l
  | x :: l, hd, hn => by
    simp only [DataW.weightsAll, List.mem_append]
    rcases List.mem_cons.1 hd with rfl | h
    · exact .inl hn
    · exact .inr (weights20_mem h hn)
theorem objs_in0 {H : Type} {enc : TypeId × Value → H} {w : World} {fuel : Nat} {a : Option Addr} {len cap : Nat} {y : DataW H × List MemPlace} (h : DataW.trod enc Try.prog w 0 (fun _ => true) true fuel 22 [.slice a len cap] = some y) (hl : Light Try.prog 22 y.1) :
    ∃ L : List Ob, L.length = len ∧ HoldsL 2 obL w a L ∧ len ≤ cap ∧ cap ≤ maxLen ∧ len ≤ 1000000000000000 ∧ ∀ z ∈ L, ObjAt w z := by
  rcases open_slice Try.underlying22 h with ⟨hcs, hx⟩ | ⟨x, l, c, m, n, D, Pl, hcs, _, hle, hm, hmm, hx, hel⟩
  · simp at hcs
    obtain ⟨rfl, rfl, rfl⟩ := hcs
    exact ⟨[], rfl, .inl rfl, Nat.le_refl _, Nat.zero_le _, by omega, fun z hz => by cases hz⟩
  · simp at hcs
    obtain ⟨rfl, rfl, rfl⟩ := hcs
    simp only [if_true] at hmm
    subst m
    have hC : Try.prog.cellsOf 49 = 2 := by kernel_rfl
    have hB : Try.prog.bytesOf 49 = 32 := by kernel_rfl
    have each : ∀ i, i < len → ∃ z : Ob, (∀ j v, (obL z)[j]? = some v → w.cell? (x.add (i * 2 + j)) = some v) ∧ ObjAt w z := by
      intro i hi
      obtain ⟨cs', h1, h2⟩ := hel i (by omega)
      rw [hC] at h1
      obtain ⟨_, hcl, hat⟩ := World.cells?_some h1
      have hlight : Light Try.prog 49 (D i) := by
        intro q hq
        refine hl q ?_
        subst hx
        simp only [DataW.weights, Try.underlying22, List.mem_cons, List.mem_append]
        exact .inr (.inl (weights20_mem (List.mem_map.2 ⟨i, List.mem_range.2 hi, rfl⟩) hq))
      obtain ⟨z, hc, hz⟩ := ob_cells_in h2 (by omega) hlight
      refine ⟨z, fun j v hj => ?_, hz⟩
      have hj3 : j < 2 := by
        rcases Nat.lt_or_ge j 2 with hlt | hge
        · exact hlt
        · rw [List.getElem?_eq_none (by exact hge)] at hj; cases hj
      have e := hat j (by omega)
      rw [add_add] at e
      rw [e, hc]; exact hj
    have inh : Inhabited Ob := ⟨⟨0, none, 0, 0, fun _ => 0⟩⟩
    obtain ⟨Z, hZ⟩ := choose_lt (α := Ob) each
    have h9 : cap * 32 ≤ 140737488351232 := hl (cap * 32) (by
        subst hx
        simp only [DataW.weights, Try.underlying22, List.mem_cons]
        left
        rw [hB]
        simp; omega)
    refine ⟨(List.range len).map Z, by simp, ?_, hle, by unfold maxLen; omega, by omega, fun z hz => ?_⟩
    · by_cases hn : len = 0
      · exact .inl (by subst hn; rfl)
      · have c0 := (hZ 0 (by omega)).1 0 _ rfl
        obtain ⟨b, off, spot⟩ := x
        have hspot : spot = none := by simpa [Addr.add] using World.cell?_spot c0
        subst hspot
        have ea : ∀ k, (⟨b, off, none⟩ : Addr).add k = ⟨b, off + k, none⟩ := fun k => by unfold Addr.add; split <;> simp_all
        have hblk : b < w.heap.size := by rw [ea] at c0; exact World.block_lt_of_cell? w _ c0
        refine .inr ⟨b, off, rfl, hblk, fun i q hq j v hv => ?_⟩
        rw [List.getElem?_map] at hq
        by_cases hi : i < len
        · rw [List.getElem?_range hi] at hq
          obtain rfl := Option.some.inj hq
          have := (hZ i hi).1 j v hv
          rw [ea] at this
          rw [Nat.add_assoc]; exact this
        · rw [List.getElem?_eq_none (by simp; omega)] at hq; cases hq
    · obtain ⟨i, hi, rfl⟩ := List.mem_map.1 hz
      exact (hZ i (List.mem_range.1 hi)).2
theorem objs_in {H : Type} {enc : TypeId × Value → H} {w : World} {fuel : Nat} {a : Option Addr} {len cap : Nat} {y : DataW H × List MemPlace} (h : DataW.trod enc Try.prog w 0 (fun _ => true) true fuel 22 [.slice a len cap] = some y) (hl : Light Try.prog 22 y.1) :
    ∃ L : List Ob, ObjsAt w a len cap L ∧ len ≤ 1000000000000000 := by
  obtain ⟨L, h1, h2, h3, h4, h5, h6⟩ := objs_in0 h hl
  exact ⟨L, ⟨h1, h2, h3, h4, h6⟩, h5⟩
end Go.Proofs.Ythdkhdbabohohaa
