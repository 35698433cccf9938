/-
  CONTRACTS: bilgeref10: Idle, where a segment is told.
-/
import Derived.Test.YtlemnjphjmnmbaaFrS
namespace Go.Proofs.Ytlemnjphjmnmbaa
open Go.RowKit
set_option linter.unusedVariables false

set_option maxRecDepth 100000 in
set_option maxHeartbeats 8000000 in
theorem ridle_yes (x : Fr) (a : Option Addr) (n cp : Nat) (L : List Byt) (T : List Seg) (t : Int) (w : World) (hx : FrOk x) (hr : RefR x L T) (hm : RefM w a cp L) (hn : L.length = n) (he : errB x t = false) (ho : overB x t = true) :
    Calls Try.prog 23 #[.agg (refC x a n cp T.length), .int .i64 t] w fun e w' => ∃ A cA, e = .returned (.tuple #[.agg (refC { x with now := t, sg := zeroS } a n cp (T.length + 1)), .agg (segC A cA x.sg), .bool true, .bool true]) ∧ Ext w w' ∧ SegT w' (fun _ => False) A cA x.sg ∧ (x.sg.n ≠ 0 → Fresh w A) := by
  obtain ⟨hv, hle⟩ := err_yes hx he
  have hl := fun w' (y : Ext w w') => rlast_any { x with now := t } a n cp L T w' (hx.wait hle hv.2) (hr.wait hle) (hm.ext y) hn
  have hlast := hx.last
  have hs0 := hx.since0
  have hn1 := hx.now1
  have hlong := hx.long
  have htold : T.length ≤ 1000001 := by
    have h1 := cutL_len x L
    have h2 := hm.few
    by_cases hk : 0 < x.sg.count
    · have := (hr.open.2 hk).1; omega
    · have := hr.open.1 (by have := hx.count; omega); omega
  obtain ⟨c, s, l, u, f, t', sg⟩ := x
  unfold overB at ho
  unfold refC at hl ⊢
  simp only at hl ho hv hle hlast hs0 hn1 hlong ⊢
  generalize T.length = told at hl htold ⊢
  have ho2 : 0 < sg.count ∧ l ≤ t - sg.last := by simpa using ho
  rw [decide_eq_true ho2.1] at hl
  have hd1 : ¬ t < t' := by omega
  have hd2 : ¬ 1099511627776 < t := by omega
  have hw : IntKind.i64.wrap (sg.last + l) = sg.last + l := by have := hlast ho2.1; exact IntWalk.i64_in _ (by omega)
  have hyes : sg.last + l ≤ t := by omega
  have hwt : IntKind.i64.wrap ((told : Int) + 1) = (told : Int) + 1 := IntWalk.i64_in _ (by omega)
  have HL := Lib.hid hl
  clear hx hr hm hn he ho hl hv hle hlast hs0 hn1 hlong ho2 htold
  go_enter Try.func23, Try.ntmps23
  go_wp2_with fail
  refine (HL.out _ (((Ext.alloc _ _).alloc' _).alloc' _)).mono ?_; rintro e w1 ⟨A, cA, rfl, x1, hsg, hfr⟩
  clear HL
  have gB : w1.heap[w.heap.size]? = some (.cells #[.int .i64 c, .int .i64 s, .int .i64 l, .int .i64 u, .int .i64 f, .int .i64 t, .slice a n cp, .int .i64 told] 31 (0, 0)) :=
    x1.block ((heap_alloc_old _ _ (by simp; omega)).trans ((heap_alloc_old _ _ (by simp)).trans (heap_new_at _ _ rfl)))
  have g1 : w1.heap[w.heap.size + 1]? = some (.cells refZ 31 (0, 0)) := x1.block ((heap_alloc_old _ _ (by simp)).trans (heap_new_at _ _ (by simp)))
  have g2 : w1.heap[w.heap.size + 1 + 1]? = some (.cells (segC none 0 zeroS) 48 (0, 0)) := x1.block (heap_new_at _ _ (by simp))
  have y1 : Ext w w1 := (((Ext.alloc _ _).alloc' _).alloc' _).trans x1
  obtain ⟨S, hS⟩ : ∃ S, S = w.heap.size := ⟨_, rfl⟩
  rw [← hS] at gB g1 g2 ⊢
  have hSlt := heap_lt gB
  have c2 := cell_of_heap (j := 2) gB rfl
  have c7 := cell_of_heap (j := 7) gB rfl
  have f7 := frozen_of_row _ _ 7 _ _ gB
  have hfr2 : sg.n ≠ 0 → ∀ q, A = some q → S + 3 ≤ q.block := fun h q hq => by have := hfr h q hq; simp at this; omega
  have HS := Lib.hid (Nat.le_of_eq hS.symm)
  clear hS x1 hfr
  obtain ⟨n1, q1, t0, t1, k1, gp, bd⟩ := sg
  unfold segC
  simp only at hw hyes hsg hfr2 ⊢
  obtain ⟨W2, hW2⟩ : ∃ W2, W2 = w1.alloc (.cells #[.slice A n1 cA, .int .i64 t0, .int .i64 t1, .int .i64 k1, .bool gp, .bool bd] 48) := ⟨_, rfl⟩
  obtain ⟨B, hB⟩ : ∃ B, B = w1.heap.size := ⟨_, rfl⟩
  have x2 : Ext w1 W2 := by rw [hW2]; exact Ext.alloc _ _
  have gT : W2.heap[B]? = some (.cells #[.slice A n1 cA, .int .i64 t0, .int .i64 t1, .int .i64 k1, .bool gp, .bool bd] 48 (0, 0)) := by rw [hW2, hB]; exact heap_alloc_new _ _
  have e7 := cell_of_heap (j := 7) (x2.block gB) rfl
  have h7 := frozen_of_row _ _ 7 _ _ (x2.block gB)
  obtain ⟨W3, hW3⟩ : ∃ W3, W3 = W2.setCell ⟨S, 7, none⟩ (.int .i64 ((told : Int) + 1)) := ⟨_, rfl⟩
  have hk3 : Keep (fun i => i = S) W2 W3 := by rw [hW3]; exact Keep.set _ _ _ _
  have hg1 := heap_lt g1
  have hg2 := heap_lt g2
  have b3 : W3.heap[S]? = some (.cells #[.int .i64 c, .int .i64 s, .int .i64 l, .int .i64 u, .int .i64 f, .int .i64 t, .slice a n cp, .int .i64 ((told : Int) + 1)] 31 (0, 0)) := by rw [hW3]; exact (heap_setCell_same _ _ 7 _ _ _ (x2.block gB)).trans rfl
  have t3 := (hk3.block B (heap_lt gT) (by omega)).trans gT
  have a3 := (hk3.block (S + 1) (heap_lt (x2.block g1)) (by omega)).trans (x2.block g1)
  have d3 := (hk3.block (S + 1 + 1) (heap_lt (x2.block g2)) (by omega)).trans (x2.block g2)
  have hfin : ∀ W4, (∀ q, q ≠ S + 1 → q ≠ S + 1 + 1 → W4.heap[q]? = W3.heap[q]?) → Ext w W4 → Ext w W4 ∧ SegT W4 (fun _ => False) A cA ⟨n1, q1, t0, t1, k1, gp, bd⟩ ∧ (n1 ≠ 0 → Fresh w A) := fun W4 h4 x4 => by
    refine ⟨x4, ⟨(hsg.holds.blocks fun q o hq hne hlt => ?_), hsg.le, hsg.max, hsg.small, hsg.few, fun q _ h => h⟩, fun hne q hq => by have := hfr2 hne q hq; have := HS.out; omega⟩
    have h5 := hfr2 hne _ hq
    simp only at h5
    rw [h4 q (by omega) (by omega), hk3.block q (Nat.lt_of_lt_of_le hlt x2.size) (by omega)]
    exact Below.block x2 q hlt
  have hx3 : Ext w W3 := by rw [hW3]; exact Below.set (y1.trans x2) HS.out _
  have HFin := Lib.hid hfin
  have HX3 := Lib.hid hx3
  have HW2 := Lib.hid hW2
  have HW3 := Lib.hid hW3
  have HB := Lib.hid hB
  have hBS : B ≠ S ∧ B ≠ S + 1 ∧ B ≠ S + 1 + 1 := by omega
  have HBS := Lib.hid hBS
  have HB3 := Lib.hid b3
  have HT3 := Lib.hid t3
  have HA3 := Lib.hid a3
  have HD3 := Lib.hid d3
  clear gB g1 g2 gT x2 hsg hfr2 hk3 hg1 hg2 hfin hx3 hW2 hW3 hB hBS y1 b3 t3 a3 d3
  go_upto_if 37 with fail
  rw [← HW2.out, ← HB.out]
  clear HW2 c2 hSlt hw c7 f7
  go_wp2_with fail
  rw [← HW3.out]
  clear HW3 e7 h7 hyes hwt
  have x0 := cell_of_heap (j := 0) HB3.out rfl
  have x1 := cell_of_heap (j := 1) HB3.out rfl
  have x2 := cell_of_heap (j := 2) HB3.out rfl
  have x3 := cell_of_heap (j := 3) HB3.out rfl
  have x4 := cell_of_heap (j := 4) HB3.out rfl
  have x5 := cell_of_heap (j := 5) HB3.out rfl
  have x6 := cell_of_heap (j := 6) HB3.out rfl
  have x7 := cell_of_heap (j := 7) HB3.out rfl
  have y0 := cell_of_heap (j := 0) HT3.out rfl
  have y1 := cell_of_heap (j := 1) HT3.out rfl
  have y2 := cell_of_heap (j := 2) HT3.out rfl
  have y3 := cell_of_heap (j := 3) HT3.out rfl
  have y4 := cell_of_heap (j := 4) HT3.out rfl
  have y5 := cell_of_heap (j := 5) HT3.out rfl
  have u0 := cell_of_heap (j := 0) HA3.out rfl
  have u1 := cell_of_heap (j := 1) HA3.out rfl
  have u2 := cell_of_heap (j := 2) HA3.out rfl
  have u3 := cell_of_heap (j := 3) HA3.out rfl
  have u4 := cell_of_heap (j := 4) HA3.out rfl
  have u5 := cell_of_heap (j := 5) HA3.out rfl
  have u6 := cell_of_heap (j := 6) HA3.out rfl
  have u7 := cell_of_heap (j := 7) HA3.out rfl
  have v0 := cell_of_heap (j := 0) HD3.out rfl
  have v1 := cell_of_heap (j := 1) HD3.out rfl
  have v2 := cell_of_heap (j := 2) HD3.out rfl
  have v3 := cell_of_heap (j := 3) HD3.out rfl
  have v4 := cell_of_heap (j := 4) HD3.out rfl
  have v5 := cell_of_heap (j := 5) HD3.out rfl
  have fu0 := frozen_of_row _ _ 0 _ _ HA3.out
  have fu1 := frozen_of_row _ _ 1 _ _ HA3.out
  have fu2 := frozen_of_row _ _ 2 _ _ HA3.out
  have fu3 := frozen_of_row _ _ 3 _ _ HA3.out
  have fu4 := frozen_of_row _ _ 4 _ _ HA3.out
  have fu5 := frozen_of_row _ _ 5 _ _ HA3.out
  have fu6 := frozen_of_row _ _ 6 _ _ HA3.out
  have fu7 := frozen_of_row _ _ 7 _ _ HA3.out
  have fv0 := frozen_of_row _ _ 0 _ _ HD3.out
  have fv1 := frozen_of_row _ _ 1 _ _ HD3.out
  have fv2 := frozen_of_row _ _ 2 _ _ HD3.out
  have fv3 := frozen_of_row _ _ 3 _ _ HD3.out
  have fv4 := frozen_of_row _ _ 4 _ _ HD3.out
  have fv5 := frozen_of_row _ _ 5 _ _ HD3.out
  obtain ⟨r0, r1, r2⟩ := HBS.out
  obtain ⟨W4, hW4⟩ : ∃ W4, W4 = ((((((((((((((W3.setCell ⟨S + 1, 0, none⟩ (.int .i64 c)).setCell ⟨S + 1, 1, none⟩ (.int .i64 s)).setCell ⟨S + 1, 2, none⟩ (.int .i64 l)).setCell ⟨S + 1, 3, none⟩ (.int .i64 u)).setCell ⟨S + 1, 4, none⟩ (.int .i64 f)).setCell ⟨S + 1, 5, none⟩ (.int .i64 t)).setCell ⟨S + 1, 6, none⟩ (.slice a n cp)).setCell ⟨S + 1, 7, none⟩ (.int .i64 ((told : Int) + 1))).setCell ⟨S + 1 + 1, 0, none⟩ (.slice A n1 cA)).setCell ⟨S + 1 + 1, 1, none⟩ (.int .i64 t0)).setCell ⟨S + 1 + 1, 2, none⟩ (.int .i64 t1)).setCell ⟨S + 1 + 1, 3, none⟩ (.int .i64 k1)).setCell ⟨S + 1 + 1, 4, none⟩ (.bool gp)).setCell ⟨S + 1 + 1, 5, none⟩ (.bool bd)).drew := ⟨_, rfl⟩
  have hs4 : W4 = ((W3.setCells (S + 1) 0 [.int .i64 c, .int .i64 s, .int .i64 l, .int .i64 u, .int .i64 f, .int .i64 t, .slice a n cp, .int .i64 ((told : Int) + 1)]).setCells (S + 1 + 1) 0 [.slice A n1 cA, .int .i64 t0, .int .i64 t1, .int .i64 k1, .bool gp, .bool bd]).drew := hW4
  have hk4 : Keep (fun i => i = S + 1 ∨ i = S + 1 + 1) W3 W4 := by
    rw [hs4]
    exact ((keep_cells _ _ _ _).mono (fun i hi => .inl hi)).same (((keep_cells _ _ _ _).mono (fun i hi => .inr hi)).trans_ext (Ext.drew _))
  have hx4 : Ext w W4 := Ext.keep HX3.out hk4 (fun i hi => by have := HS.out; rcases hi with e | e <;> omega)
  have hend := HFin.out W4 (fun q h1 h2 => by
    rw [hs4, heap_drew]
    exact (cells_other _ _ _ _ h2).trans (cells_other _ _ _ _ h1)) hx4
  have h1r : W4.heap[S + 1]? = some (.cells #[.int .i64 c, .int .i64 s, .int .i64 l, .int .i64 u, .int .i64 f, .int .i64 t, .slice a n cp, .int .i64 ((told : Int) + 1)] 31 (0, 0)) := by
    rw [hs4, heap_drew]
    exact (cells_other _ _ _ _ (by omega)).trans (cells8 _ _ _ _ _ _ _ _ HA3.out)
  have h2r : W4.heap[S + 1 + 1]? = some (.cells #[.slice A n1 cA, .int .i64 t0, .int .i64 t1, .int .i64 k1, .bool gp, .bool bd] 48 (0, 0)) := by
    rw [hs4, heap_drew]
    exact cells6 _ _ _ _ _ _ ((cells_other _ _ _ _ (by omega)).trans HD3.out)
  have HEnd := Lib.hid hend
  have H1r := Lib.hid h1r
  have H2r := Lib.hid h2r
  have HW4 := Lib.hid hW4
  clear hk4 hx4 hend h1r h2r hs4 hW4
  go_region
  rw [← HW4.out]
  clear HW4
  clear x0 x1 x2 x3 x4 x5 x6 x7 y0 y1 y2 y3 y4 y5 u0 u1 u2 u3 u4 u5 u6 u7 v0 v1 v2 v3 v4 v5 fu0 fu1 fu2 fu3 fu4 fu5 fu6 fu7 fv0 fv1 fv2 fv3 fv4 fv5
  go_wp2_with fail
  refine bodyPost_ret (results_row_row_tmp2 rfl _ _ (S + 1) (S + 1 + 1) 31 48 _ _ (0, 0) (0, 0) _ _ rfl H1r.out Try.underlying31 rfl (by kernel_rfl) rfl H2r.out Try.underlying48 rfl (by kernel_rfl)) rfl ?_
  exact ⟨A, cA, rfl, HEnd.out⟩
/-- Time goes on. -/
theorem ridle_any10 (x : Fr) (a : Option Addr) (n cp : Nat) (L : List Byt) (T : List Seg) (t : Int) (w : World) (hx : FrOk x) (hr : RefR x L T) (hm : RefM w a cp L) (hn : L.length = n) :
    Calls Try.prog 23 #[.agg (refC x a n cp T.length), .int .i64 t] w fun e w' => ∃ A cA, e = .returned (.tuple #[.agg (refC (idleF x t) a n cp (tellT x t T).length), .agg (segC A cA (idleS x t)), .bool (idleB x t), .bool (!errB x t)]) ∧ Ext w w' ∧ SegT w' (fun _ => False) A cA (idleS x t) ∧ ((idleS x t).n ≠ 0 → Fresh w A) := by
  unfold idleS idleB idleF tellT
  cases he : errB x t
  · cases ho : overB x t
    · exact (ridle_no x a n cp L T t w hx hr hm hn he ho).mono fun e w' ⟨h1, h2⟩ => ⟨none, 0, h1, h2, SegT.nil _ _, fun _ => Fresh.nil _⟩
    · have h := ridle_yes x a n cp L T t w hx hr hm hn he ho
      rw [show T.length + 1 = (T ++ [x.sg]).length by simp] at h
      exact h
  · exact (ridle_err x a n cp T.length t w he).mono fun e w' ⟨h1, h2⟩ => ⟨none, 0, h1, h2, SegT.nil _ _, fun _ => Fresh.nil _⟩
end Go.Proofs.Ytlemnjphjmnmbaa
