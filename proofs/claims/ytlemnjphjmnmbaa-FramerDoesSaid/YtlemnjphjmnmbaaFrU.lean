/-
  CONTRACTS: bilgeref10: Byte.
-/
import Derived.Test.YtlemnjphjmnmbaaFrT
import Derived.Test.YtlemnjphjmnmbaaAppendL
namespace Go.Proofs.Ytlemnjphjmnmbaa
open Go.RowKit
set_option linter.unusedVariables false

theorem lit_byt {w : World} {g : Nat} {t : TypeId} {b : Byt} (h : w.heap[g]? = some (.cells #[.int .i64 b.1, .int .u8 b.2.1, .bool b.2.2] t (0, 0))) : HoldsL 3 byt w (some ⟨g, 0, none⟩) [b] := by
  refine .inr ⟨g, 0, rfl, heap_lt h, fun i x hx j v hv => ?_⟩
  have hi : i = 0 := by
    rcases Nat.eq_zero_or_pos i with e | e
    · exact e
    · rw [List.getElem?_eq_none (by simp; omega)] at hx; cases hx
  subst hi
  obtain rfl : b = x := by simpa using hx
  rw [Nat.zero_mul, Nat.add_zero, Nat.zero_add, cell_of_row _ _ _ _ _ _ h]
  simpa [byt] using hv
theorem blockD {w w' : World} {r : Option Nat} (h : w.drew.grownBy w' r) (g : Nat) {o : Obj} (hg : w.heap[g]? = some o) (hn : r ≠ some g) : w'.heap[g]? = some o := (h.block g (heap_lt hg) (fun e => hn e.symm)).trans hg
section
variable {P : Program} {w : World} {α : Type} {sz : Nat} {mk : α → List Value}
theorem step_append_list2 {ops : Array Oper} {o : Oper} {a : Act} {K : Act → World → Prop} {Q : Exit → Act → World → Prop} {E : Prop} (hgd : o.guard = none) (s x : Operand) (t : TypeId)
    (ho : o.op = .call { callee := .builtin .append, args := #[s, x], argTypes := #[t, t] })
    (base : Nat) (e : TypeId) (i : TypeInfo) (z : Value) (bytes : Nat) (ht : P.underlying t = some (.slice e)) (hi : P.info? e = some i) (hz : i.zero = some z)
    (hsize : i.size = sz) (hby : i.bytes = bytes) (hzs : z.cells.size = sz) (hsz : 0 < sz) (hmk : ∀ x, (mk x).length = sz) (h1 : ∀ x, ∀ u ∈ mk x, u.oneCell' = true)
    (v : Value) (n : Nat) (L : List α) (hs : a.eval s = v) (hown : w.ownsRow base e sz v n (L.flatMap mk))
    (A : Option Addr) (c : Nat) (M : List α) (m : Nat) (hMm : M.length = m) (hx : a.eval x = .slice A m c) (hh : HoldsL sz mk w A M)
    (h63 : n + m ≤ maxLen) (hbytes : (n + m) * bytes ≤ 140737488355328) (hbase : base ≤ w.heap.size)
    (h : ∀ v' w', w'.ownsRow base e sz v' (n + m) ((L ++ M).flatMap mk) → w.grownBy w' v.ownBlock → Below base w w' → K (a.put o.dst v') w') :
    if Region.wanted o (yielded ops a.tmps) = true then Oper.wp P o a w K Q else E := by
  subst hMm
  have zero : ∀ A' : Option Addr, a.eval x = .slice A' 0 c → M = [] → if Region.wanted o (yielded ops a.tmps) = true then Oper.wp P o a w K Q else E := fun A' hx0 hm => by
    subst hm
    clear hx
    have hw : Region.wanted o (yielded ops a.tmps) = true := by simp [Region.wanted, hgd]
    rw [if_pos hw]
    have hrun := run_append_zero (P := P) (w := w) base t o.type e i sz ht hi v n _ hown A' c
    have hK := h v w (by simpa using hown) (World.grownBy.refl w _) (Below.refl _ _)
    unfold Oper.wp
    simp [execOp, ho, resolve, invoke, builtin, hs, hx0, hrun, Result.andThen]
    exact hK
  by_cases hm : M = []
  · exact zero A (by rw [hx, hm]; rfl) hm
  · obtain ⟨b, off, rfl, hlt, hc⟩ := hh.resolve_left hm
    refine step_append_lies w hgd s x t ho base e i z sz bytes ht hi hz hsize hby hzs hsz v n _ hs hown ⟨b, off, none⟩ M.length c (M.flatMap mk) hx (flat_length hmk M) (list_news hmk hsz hc) (list_one h1 M) (List.length_pos_iff.2 hm) h63 hbytes hbase w.heap.size rfl ?_
    intro g cap w' h2 h3 _ _
    exact h _ _ (by rw [List.flatMap_append]; exact h2) h3 ((Below.refl base w).grown h3 hbase (fun q hq => (hown.lt q hq).1))
end
set_option maxRecDepth 100000 in
set_option maxHeartbeats 4000000 in
theorem rbyte_err (x : Fr) (a : Option Addr) (n cp told : Nat) (b : Byt) (w : World) (he : errB x b.1 = true) :
    Calls Try.prog 21 #[.agg (refC x a n cp told), .agg (byt b).toArray] w fun e w' => e = .returned (.tuple #[.agg (refC x a n cp told), .agg (segC none 0 zeroS), .bool false, .bool false]) ∧ Ext w w' := by
  have hg := fun w => ridle_err x a n cp told b.1 w he
  obtain ⟨y0, y1, y2⟩ := b
  rw [show (byt (y0, y1, y2)).toArray = #[.int .i64 y0, .int .u8 y1, .bool y2] from rfl]
  obtain ⟨c, s, l, u, f, t', sg⟩ := x
  unfold refC at hg ⊢
  simp only at hg ⊢
  rw [seg_zero] at hg ⊢
  have HG := Lib.hid hg
  clear hg he
  go_enter Try.func21, Try.ntmps21
  go_wp2_with fail
  refine (HG.out _).mono ?_; rintro e w1 ⟨rfl, x1⟩
  clear HG
  have gB : w1.heap[w.heap.size]? = some (.cells #[.int .i64 c, .int .i64 s, .int .i64 l, .int .i64 u, .int .i64 f, .int .i64 t', .slice a n cp, .int .i64 told] 31 (0, 0)) :=
    x1.block ((heap_alloc_old _ _ (by simp; omega)).trans ((heap_alloc_old _ _ (by simp; omega)).trans ((heap_alloc_old _ _ (by simp)).trans (heap_new_at _ _ rfl))))
  have g1 : w1.heap[w.heap.size + 1 + 1]? = some (.cells refZ 31 (0, 0)) := x1.block ((heap_alloc_old _ _ (by simp)).trans (heap_new_at _ _ (by simp)))
  have g2 : w1.heap[w.heap.size + 1 + 1 + 1]? = some (.cells #[.slice none 0 0, .int .i64 0, .int .i64 0, .int .i64 0, .bool false, .bool false] 48 (0, 0)) := x1.block (heap_new_at _ _ (by simp))
  have z1 : Ext w w1 := ((((Ext.alloc _ _).alloc' _).alloc' _).alloc' _).trans x1
  obtain ⟨S, hS⟩ : ∃ S, S = w.heap.size := ⟨_, rfl⟩
  rw [← hS] at gB g1 g2 ⊢
  have HS := Lib.hid (Nat.le_of_eq hS.symm)
  clear hS x1
  go_upto_if 22 with fail
  obtain ⟨W2, hW2⟩ : ∃ W2, W2 = (w1.alloc (.cells #[.int .i64 c, .int .i64 s, .int .i64 l, .int .i64 u, .int .i64 f, .int .i64 t', .slice a n cp, .int .i64 told] 31)).alloc (.cells #[.slice none 0 0, .int .i64 0, .int .i64 0, .int .i64 0, .bool false, .bool false] 48) := ⟨_, rfl⟩
  have x2 : Ext w1 W2 := by rw [hW2]; exact (Ext.alloc _ _).alloc' _
  rw [← hW2]
  have gB2 := x2.block gB
  have g12 := x2.block g1
  have g22 := (setRow_other W2 (S + 1 + 1) (S + 1 + 1 + 1) #[.int .i64 c, .int .i64 s, .int .i64 l, .int .i64 u, .int .i64 f, .int .i64 t', .slice a n cp, .int .i64 told] (by omega)).trans (x2.block g2)
  have hend : Ext w ((W2.setRow (S + 1 + 1) #[.int .i64 c, .int .i64 s, .int .i64 l, .int .i64 u, .int .i64 f, .int .i64 t', .slice a n cp, .int .i64 told]).setRow (S + 1 + 1 + 1) #[.slice none 0 0, .int .i64 0, .int .i64 0, .int .i64 0, .bool false, .bool false]) :=
    below_setRow (below_setRow (z1.trans x2) (by have := HS.out; omega) _) (by have := HS.out; omega) _
  have h1r : ((W2.setRow (S + 1 + 1) #[.int .i64 c, .int .i64 s, .int .i64 l, .int .i64 u, .int .i64 f, .int .i64 t', .slice a n cp, .int .i64 told]).setRow (S + 1 + 1 + 1) #[.slice none 0 0, .int .i64 0, .int .i64 0, .int .i64 0, .bool false, .bool false]).heap[S + 1 + 1]? = some (.cells #[.int .i64 c, .int .i64 s, .int .i64 l, .int .i64 u, .int .i64 f, .int .i64 t', .slice a n cp, .int .i64 told] 31 (0, 0)) :=
    (setRow_other _ _ _ _ (by omega)).trans (setRow_heap _ _ _ _ _ _ g12)
  have HEnd := Lib.hid hend
  have H1r := Lib.hid h1r
  clear hW2 x2 gB g1 g2 z1 hend h1r
  go_wp2_with (first
    | (refine wpList_load_row rfl 31 (.tmp 2) rfl S rfl 31 _ (0, 0) _ gB2 Try.underlying31 rfl (by kernel_rfl) ?_)
    | (refine wpList_store_row rfl 31 (.tmp 4) (.tmp 23) rfl (S + 1 + 1) _ rfl rfl 31 _ g12 (by kernel_rfl) (by rfl) (by simp [Value.oneCell']) ?_)
    | (refine wpList_store_row rfl 48 (.tmp 5) (.tmp 24) rfl (S + 1 + 1 + 1) _ rfl rfl 48 _ g22 (by kernel_rfl) (by rfl) (by simp [Value.oneCell']) ?_))
  refine bodyPost_ret (results_row_row_tmp2 rfl _ _ (S + 1 + 1) (S + 1 + 1 + 1) 31 48 _ _ (0, 0) (0, 0) _ _ rfl H1r.out Try.underlying31 rfl (by kernel_rfl) rfl (setRow_heap _ _ _ _ _ _ g22) Try.underlying48 rfl (by kernel_rfl)) rfl ?_
  exact ⟨rfl, HEnd.out⟩
def byteL (x : Fr) (b : Byt) (L : List Byt) : List Byt := if errB x b.1 = true then L else L ++ [b]
end Go.Proofs.Ytlemnjphjmnmbaa
