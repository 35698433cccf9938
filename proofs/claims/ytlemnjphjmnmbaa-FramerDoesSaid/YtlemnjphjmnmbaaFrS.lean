/-
  CONTRACTS: bilgeref10: Idle.
-/
import Derived.Test.YtlemnjphjmnmbaaFrR
namespace Go.Proofs.Ytlemnjphjmnmbaa
open Go.RowKit
set_option linter.unusedVariables false

/-- Answers: two structs out of their cells, and two values more. -/
theorem results_row_row_tmp2 {P : Program} {fn : Func} {p q u v : Tmp} {ty ty' : TypeId} (h : fn.results = #[.cell p ty, .cell q ty', .tmp u, .tmp v]) (tmps : Array Value) (w : World) (g g' : Nat) (t t' : TypeId) (cs cs' : Array Value) (fr fr' : Nat × Nat) (d d' : TypeDesc)
    (hp : tmps.getD p undef = .pointer (some ⟨g, 0, none⟩)) (hg : w.heap[g]? = some (.cells cs t fr))
    (hu : P.underlying ty = some d) (hd : (match d with | .struct _ | .array _ _ => true | _ => false) = true) (hi : (P.info? ty).map (·.size) = some cs.size)
    (hp' : tmps.getD q undef = .pointer (some ⟨g', 0, none⟩)) (hg' : w.heap[g']? = some (.cells cs' t' fr'))
    (hu' : P.underlying ty' = some d') (hd' : (match d' with | .struct _ | .array _ _ => true | _ => false) = true) (hi' : (P.info? ty').map (·.size) = some cs'.size) :
    (results fn tmps).run P w = .ok (.tuple #[.agg cs, .agg cs', tmps.getD u undef, tmps.getD v undef]) w := by
  have hp2 : tmps[p]?.getD undef = .pointer (some ⟨g, 0, none⟩) := by simpa using hp
  have hp3 : tmps[q]?.getD undef = .pointer (some ⟨g', 0, none⟩) := by simpa using hp'
  simp [results, h, hp2, hp3, asAddr, run_loadVar_row w g t ty cs fr d hg hu hd hi, run_loadVar_row w g' t' ty' cs' fr' d' hg' hu' hd' hi']
theorem keep_cells (p : Nat) : ∀ (vs : List Value) (k : Nat) (w : World), Keep (fun i => i = p) w (w.setCells p k vs)
  | [], _, w => Keep.refl _ _
  | v :: r, k, w => by
    show Keep _ w (World.setCells (w.setCell ⟨p, k, none⟩ v) p (k + 1) r)
    exact (Keep.set w p k v).same (keep_cells p r (k + 1) _)
theorem cells_other (w : World) (p k : Nat) (vs : List Value) {q : Nat} (h : q ≠ p) : (w.setCells p k vs).heap[q]? = w.heap[q]? := by
  rcases Nat.lt_or_ge q w.heap.size with hl | hl
  · exact (keep_cells p vs k w).block q hl h
  · have hs : ∀ (vs : List Value) (k : Nat) (w : World), (w.setCells p k vs).heap.size = w.heap.size := by
      intro vs
      induction vs with
      | nil => intro k w; rfl
      | cons v r ih => intro k w; show (World.setCells (w.setCell ⟨p, k, none⟩ v) p (k + 1) r).heap.size = _; rw [ih]; simp [World.setCell]
    rw [Array.getElem?_eq_none (by rw [hs]; exact hl), Array.getElem?_eq_none hl]
theorem cells6 {w : World} {p : Nat} {t : TypeId} {o0 o1 o2 o3 o4 o5 : Value} (v0 v1 v2 v3 v4 v5 : Value) (h : w.heap[p]? = some (.cells #[o0, o1, o2, o3, o4, o5] t (0, 0))) :
    (w.setCells p 0 [v0, v1, v2, v3, v4, v5]).heap[p]? = some (.cells #[v0, v1, v2, v3, v4, v5] t (0, 0)) := by
  have e := heap_setCell_same _ _ 5 _ _ v5 (heap_setCell_same _ _ 4 _ _ v4 (heap_setCell_same _ _ 3 _ _ v3 (heap_setCell_same _ _ 2 _ _ v2 (heap_setCell_same _ _ 1 _ _ v1 (heap_setCell_same _ _ 0 _ _ v0 h)))))
  refine Eq.trans e ?_
  simp
theorem cells8 {w : World} {p : Nat} {t : TypeId} {o0 o1 o2 o3 o4 o5 o6 o7 : Value} (v0 v1 v2 v3 v4 v5 v6 v7 : Value) (h : w.heap[p]? = some (.cells #[o0, o1, o2, o3, o4, o5, o6, o7] t (0, 0))) :
    (w.setCells p 0 [v0, v1, v2, v3, v4, v5, v6, v7]).heap[p]? = some (.cells #[v0, v1, v2, v3, v4, v5, v6, v7] t (0, 0)) := by
  have e := heap_setCell_same _ _ 7 _ _ v7 (heap_setCell_same _ _ 6 _ _ v6 (heap_setCell_same _ _ 5 _ _ v5 (heap_setCell_same _ _ 4 _ _ v4 (heap_setCell_same _ _ 3 _ _ v3 (heap_setCell_same _ _ 2 _ _ v2 (heap_setCell_same _ _ 1 _ _ v1 (heap_setCell_same _ _ 0 _ _ v0 h)))))))
  refine Eq.trans e ?_
  simp
/-- How many were told then. -/
def tellT (x : Fr) (t : Int) (T : List Seg) : List Seg := if errB x t = true then T else if overB x t = true then T ++ [x.sg] else T
def refZ : Array Value := #[.int .i64 0, .int .i64 0, .int .i64 0, .int .i64 0, .int .i64 0, .int .i64 0, .slice none 0 0, .int .i64 0]
theorem RefR.wait {x : Fr} {L : List Byt} {T : List Seg} {t : Int} (h : RefR x L T) (h1 : x.now ≤ t) : RefR { x with now := t } L T := by
  refine ⟨h.right, Int.le_trans h.last h1, ?_⟩
  rcases h.told with ⟨e, e2, e3⟩ | ⟨e0, e, e2, e3⟩
  · exact .inl ⟨e, e2, fun k => by have := e3 k; show x.l ≤ t - lastT x.since L; omega⟩
  · exact .inr ⟨e0, e, e2, e3⟩
set_option maxRecDepth 100000 in
set_option maxHeartbeats 4000000 in
theorem ridle_err (x : Fr) (a : Option Addr) (n cp told : Nat) (t : Int) (w : World) (he : errB x t = true) :
    Calls Try.prog 23 #[.agg (refC x a n cp told), .int .i64 t] w fun e w' => e = .returned (.tuple #[.agg (refC x a n cp told), .agg (segC none 0 zeroS), .bool false, .bool false]) ∧ Ext w w' := by
  obtain ⟨c, s, l, u, f, t', sg⟩ := x
  unfold errB at he
  unfold refC
  simp only at he ⊢
  have hcase : t < t' ∨ (¬ t < t' ∧ 1099511627776 < t) := by simp at he; omega
  clear he
  rcases hcase with h1 | ⟨h1, h2⟩
  all_goals
    go_enter Try.func23, Try.ntmps23
    go_wp2_with fail
    refine bodyPost_ret (results_row_row_tmp2 rfl _ _ (w.heap.size + 1) (w.heap.size + 1 + 1) 31 48 _ _ (0, 0) (0, 0) _ _ rfl ((heap_alloc_old _ _ (by simp)).trans (heap_new_at _ _ (by simp))) Try.underlying31 rfl (by kernel_rfl) rfl (heap_new_at _ _ (by simp)) Try.underlying48 rfl (by kernel_rfl)) rfl ?_
    exact ⟨rfl, ((Ext.alloc _ _).alloc' _).alloc' _⟩
set_option maxRecDepth 100000 in
set_option maxHeartbeats 4000000 in
theorem ridle_no (x : Fr) (a : Option Addr) (n cp : Nat) (L : List Byt) (T : List Seg) (t : Int) (w : World) (hx : FrOk x) (hr : RefR x L T) (hm : RefM w a cp L) (hn : L.length = n) (he : errB x t = false) (ho : overB x t = false) :
    Calls Try.prog 23 #[.agg (refC x a n cp T.length), .int .i64 t] w fun e w' => e = .returned (.tuple #[.agg (refC { x with now := t } a n cp T.length), .agg (segC none 0 zeroS), .bool false, .bool true]) ∧ Ext w w' := by
  obtain ⟨hv, hle⟩ := err_yes hx he
  have hl := fun w' (y : Ext w w') => rlast_any { x with now := t } a n cp L T w' (hx.wait hle hv.2) (hr.wait hle) (hm.ext y) hn
  have hlast := hx.last
  have hs0 := hx.since0
  have hn1 := hx.now1
  have hlong := hx.long
  obtain ⟨c, s, l, u, f, t', sg⟩ := x
  unfold overB at ho
  unfold refC at hl ⊢
  simp only at hl ho hv hle hlast hs0 hn1 hlong ⊢
  generalize T.length = told at hl ⊢
  obtain ⟨ob, hob⟩ : ∃ ob, ob = decide (0 < sg.count) := ⟨_, rfl⟩
  rw [← hob] at hl
  have hd1 : ¬ t < t' := by omega
  have hd2 : ¬ 1099511627776 < t := by omega
  have hw : 0 < sg.count → IntKind.i64.wrap (sg.last + l) = sg.last + l := fun h => by have := hlast h; exact IntWalk.i64_in _ (by omega)
  have hno : 0 < sg.count → ¬ sg.last + l ≤ t := fun h => by simp at ho; have := ho h; omega
  have HL := Lib.hid hl
  have HW := Lib.hid (And.intro hw hno)
  have HOb := Lib.hid hob
  clear hx hr hm hn he ho hl hob hv hle hlast hs0 hn1 hlong hw hno
  go_enter Try.func23, Try.ntmps23
  go_wp2_with fail
  refine (HL.out _ (((Ext.alloc _ _).alloc' _).alloc' _)).mono ?_; rintro e w1 ⟨A, cA, rfl, x1, -⟩
  clear HL
  have gB : w1.heap[w.heap.size]? = some (.cells #[.int .i64 c, .int .i64 s, .int .i64 l, .int .i64 u, .int .i64 f, .int .i64 t, .slice a n cp, .int .i64 told] 31 (0, 0)) :=
    x1.block ((heap_alloc_old _ _ (by simp; omega)).trans ((heap_alloc_old _ _ (by simp)).trans (heap_new_at _ _ rfl)))
  have g1 : w1.heap[w.heap.size + 1]? = some (.cells refZ 31 (0, 0)) := x1.block ((heap_alloc_old _ _ (by simp)).trans (heap_new_at _ _ (by simp)))
  have g2 : w1.heap[w.heap.size + 1 + 1]? = some (.cells (segC none 0 zeroS) 48 (0, 0)) := x1.block (heap_new_at _ _ (by simp))
  have y1 : Ext w w1 := (((Ext.alloc _ _).alloc' _).alloc' _).trans x1
  obtain ⟨S, hS⟩ : ∃ S, S = w.heap.size := ⟨_, rfl⟩
  rw [← hS] at gB g1 g2 ⊢
  have hSlt := heap_lt gB
  have c2 := cell_of_heap (j := 2) gB rfl
  have HS := Lib.hid (Nat.le_of_eq hS.symm)
  clear hS x1
  obtain ⟨n1, q1, t0, t1, k1, gp, bd⟩ := sg
  unfold segC
  simp only at HW HOb ⊢
  obtain ⟨W2, hW2⟩ : ∃ W2, W2 = w1.alloc (.cells #[.slice A n1 cA, .int .i64 t0, .int .i64 t1, .int .i64 k1, .bool gp, .bool bd] 48) := ⟨_, rfl⟩
  have x2 : Ext w1 W2 := by rw [hW2]; exact Ext.alloc _ _
  have gB2 := x2.block gB
  have g12 := x2.block g1
  have g22 := (setRow_other W2 (S + 1) (S + 1 + 1) #[.int .i64 c, .int .i64 s, .int .i64 l, .int .i64 u, .int .i64 f, .int .i64 t, .slice a n cp, .int .i64 told] (by omega)).trans (x2.block g2)
  have hend : Ext w ((W2.setRow (S + 1) #[.int .i64 c, .int .i64 s, .int .i64 l, .int .i64 u, .int .i64 f, .int .i64 t, .slice a n cp, .int .i64 told]).setRow (S + 1 + 1) (segC none 0 zeroS)) :=
    below_setRow (below_setRow (y1.trans x2) (Nat.le_succ_of_le HS.out) _) (Nat.le_succ_of_le (Nat.le_succ_of_le HS.out)) _
  have h1r : ((W2.setRow (S + 1) #[.int .i64 c, .int .i64 s, .int .i64 l, .int .i64 u, .int .i64 f, .int .i64 t, .slice a n cp, .int .i64 told]).setRow (S + 1 + 1) (segC none 0 zeroS)).heap[S + 1]? = some (.cells #[.int .i64 c, .int .i64 s, .int .i64 l, .int .i64 u, .int .i64 f, .int .i64 t, .slice a n cp, .int .i64 told] 31 (0, 0)) :=
    (setRow_other _ _ _ _ (by omega)).trans (setRow_heap _ _ _ _ _ _ g12)
  have HEnd := Lib.hid hend
  have H1r := Lib.hid h1r
  have HW2 := Lib.hid hW2
  clear hW2 x2 gB g1 g2 y1 hend h1r
  cases ob
  · go_upto_if 37 with fail
    rw [← HW2.out]
    clear HW2 c2 hSlt
    go_wp2_with (first
      | (refine wpList_load_row rfl 31 (.tmp 2) rfl S rfl 31 _ (0, 0) _ gB2 Try.underlying31 rfl (by kernel_rfl) ?_)
      | (refine wpList_store_row rfl 31 (.tmp 4) (.tmp 44) rfl (S + 1) _ rfl rfl 31 _ g12 (by kernel_rfl) (by rfl) (by simp [Value.oneCell']) ?_)
      | (refine wpList_store_row rfl 48 (.tmp 5) (.tmp 45) rfl (S + 1 + 1) _ rfl rfl 48 _ g22 (by kernel_rfl) (by rfl) (by simp [Value.oneCell']) ?_))
    refine bodyPost_ret (results_row_row_tmp2 rfl _ _ (S + 1) (S + 1 + 1) 31 48 _ _ (0, 0) (0, 0) _ _ rfl H1r.out Try.underlying31 rfl (by kernel_rfl) rfl (setRow_heap _ _ _ _ _ _ g22) Try.underlying48 rfl (by kernel_rfl)) rfl ?_
    exact ⟨rfl, HEnd.out⟩
  · have hk : 0 < k1 := by simpa using HOb.out
    have hw := HW.out.1 hk
    have hno := HW.out.2 hk
    clear hk HW
    go_upto_if 37 with fail
    rw [← HW2.out]
    clear HW2 c2 hSlt hw
    go_wp2_with (first
      | (refine wpList_load_row rfl 31 (.tmp 2) rfl S rfl 31 _ (0, 0) _ gB2 Try.underlying31 rfl (by kernel_rfl) ?_)
      | (refine wpList_store_row rfl 31 (.tmp 4) (.tmp 44) rfl (S + 1) _ rfl rfl 31 _ g12 (by kernel_rfl) (by rfl) (by simp [Value.oneCell']) ?_)
      | (refine wpList_store_row rfl 48 (.tmp 5) (.tmp 45) rfl (S + 1 + 1) _ rfl rfl 48 _ g22 (by kernel_rfl) (by rfl) (by simp [Value.oneCell']) ?_))
    refine bodyPost_ret (results_row_row_tmp2 rfl _ _ (S + 1) (S + 1 + 1) 31 48 _ _ (0, 0) (0, 0) _ _ rfl H1r.out Try.underlying31 rfl (by kernel_rfl) rfl (setRow_heap _ _ _ _ _ _ g22) Try.underlying48 rfl (by kernel_rfl)) rfl ?_
    exact ⟨rfl, HEnd.out⟩
end Go.Proofs.Ytlemnjphjmnmbaa
