/-
  CONTRACTS: package framer: a byte in the open segment, or that opens one.
-/
import Derived.Test.YtlemnjphjmnmbaaFrD
import Derived.Deep.RegionWith
import Derived.StillTailTactics
namespace Go.Proofs.Ytlemnjphjmnmbaa
open Go.RowKit
set_option linter.unusedVariables false

set_option maxRecDepth 100000 in
set_option maxHeartbeats 8000000 in
/-- A byte in the open segment. -/
theorem ffollow_any (p : Nat) (A : Option Addr) (cp : Nat) (x : Fr) (b : Byt) (w : World) (h : FrM w p A cp x) (hx : FrOk x) (hnow : x.now = b.1) (hk : x.sg.count ≤ 1000000) (hpos : 0 < x.sg.count) :
    Calls Try.prog 45 #[.pointer (some ⟨p, 0, none⟩), .agg (byt b).toArray] w fun e w' => ∃ A' cp', e = .returned (.tuple #[]) ∧ Keep (FrF p A x.sg.n cp) w w' ∧ FrM w' p A' cp' (takeF x b) ∧ Grows (FrF p A x.sg.n cp) (FrF p A' (takeS x b).n cp') w := by
  have hgo : takeF x b = { x with sg := oneS (gapS x.sg (x.sg.gap || decide (x.s < b.1 - x.sg.last))) b } := by unfold takeF takeS; rw [if_pos hpos]
  have hgo2 : takeS x b = oneS (gapS x.sg (x.sg.gap || decide (x.s < b.1 - x.sg.last))) b := by unfold takeS; rw [if_pos hpos]
  rw [hgo, hgo2]
  clear hgo hgo2
  have hN := hx.n
  have hl := hx.last hpos
  have h0 := hx.since0
  have h1 := hx.now1
  have hc := hx.count
  obtain ⟨c, s, l, u, f, t, ⟨n, g, t0, t1, k, gp, bd⟩⟩ := x
  obtain ⟨y0, y1, y2⟩ := b
  obtain ⟨hrow, hown, hnp⟩ := h
  unfold FrRow frC at hrow
  simp only at hrow hown hnp hN hl h0 h1 hc hk hpos hnow ⊢
  obtain ⟨D, hD⟩ : ∃ D, y0 - t1 = D := ⟨_, rfl⟩
  rw [hD]
  have HS := Lib.hid (fun w => since_v (a := t1) (d := y0) w (by omega) (by omega) (by omega) hD)
  obtain ⟨gx, hgx⟩ : ∃ gx, gx = (gp || decide (s < D)) := ⟨_, rfl⟩
  rw [← hgx]
  obtain ⟨W, hW⟩ : ∃ W, W = w.alloc (.cells #[.int .i64 y0, .int .u8 y1, .bool y2] 46) := ⟨_, rfl⟩
  have xW : Ext w W := by rw [hW]; exact Ext.alloc _ _
  have hSp : w.heap.size ≠ p := by have := heap_lt hrow; omega
  obtain ⟨S, hS⟩ : ∃ S, S = w.heap.size := ⟨_, rfl⟩
  have gS : W.heap[S]? = some (.cells #[.int .i64 y0, .int .u8 y1, .bool y2] 46 (0, 0)) := by rw [hW, hS]; exact heap_alloc_new _ _
  have hrow' := xW.block hrow
  obtain ⟨W1, hW1⟩ : ∃ W1, W1 = (W.setCell ⟨p, 10, none⟩ (.bool gx)).drew := ⟨_, rfl⟩
  have hk1 : Keep (fun i => i = p) w W1 := by rw [hW1]; exact ((Keep.of_ext xW).same (Keep.set _ _ _ _)).same (.of_ext (Ext.drew _))
  have hm1 : FrM W1 p A cp ⟨c, s, l, u, f, t, gapS ⟨n, g, t0, t1, k, gp, bd⟩ gx⟩ := by
    rw [hW1]
    refine ⟨(heap_setCell_same _ _ 10 _ _ (.bool gx) hrow').trans rfl, own_same (own_ext hown xW) fun q hq => ?_, hnp⟩
    exact heap_setCell_other _ _ _ _ (fun e => hnp (by simp only at e; rw [← e]; exact hq))
  have hput := fput_any p A cp _ (y0, y1, y2) W1 hm1 hN hc hk (fun e => by simp only [gapS] at e; omega)
  rw [show (byt (y0, y1, y2)).toArray = #[.int .i64 y0, .int .u8 y1, .bool y2] from rfl] at hput ⊢
  have c1 := cell_of_heap (j := 1) hrow' rfl
  have c8 := cell_of_heap (j := 8) hrow' rfl
  have c10 := cell_of_heap (j := 10) hrow' rfl
  have f10 := frozen_of_row _ _ 10 _ _ hrow'
  have b0 := cell_of_heap (j := 0) gS rfl
  have b1 := cell_of_heap (j := 1) gS rfl
  have b2 := cell_of_heap (j := 2) gS rfl
  have hpS : ¬ p = S := by omega
  have hSp' : ¬ S = p := by omega
  have HW1 := Lib.hid hW1
  have HK1 := Lib.hid hk1
  have HPut := Lib.hid hput
  have HSS := Lib.hid hS
  have HGX := Lib.hid hgx
  clear hrow hown hnp hN hl h0 h1 hc hk hpos hnow hD xW hSp gS hrow' hk1 hm1 hput hW1 hS hgx
  go_enter Try.func45, Try.ntmps45
  go_wp2_with fail
  rw [← hW, ← HSS.out]
  clear hW
  cases gp
  · obtain rfl : gx = decide (s < D) := HGX.out
    refine wp_region_still_tail 25 (by kernel_rfl) (by kernel_rfl) ?_
    simp only [List.take_succ_cons, List.take_zero, List.drop_succ_cons, List.drop_zero]
    iterate 14 still_step
    still_call ((HS.out _).mono fun e w2 h => ⟨h.1, h.2.symm⟩)
    repeat still_step
    refine wpStill_nil ?_
    go_wp2_with fail
    rw [← HW1.out]
    clear HW1 HS hx HGX c1 c8 c10 f10 b0 b1 b2
    refine HPut.out.mono ?_; rintro e w2 ⟨A', cp', rfl, k2, m2, g2⟩
    have hend := And.intro ((HK1.out.mono fun i hi => .inl hi).same k2) (And.intro m2 (fun i hi => (g2 i hi).elim .inl (fun h => .inr (Nat.le_trans HK1.out.size h)) : Grows _ _ w))
    have HEnd := Lib.hid hend
    clear hend k2 m2 g2 HPut HK1
    go_wp2
    go_end0
    exact ⟨A', cp', rfl, HEnd.out⟩
  · obtain rfl : gx = true := HGX.out
    go_region
    go_wp2_with fail
    rw [← HW1.out]
    clear HW1 HS hx HGX c1 c8 c10 f10 b0 b1 b2
    refine HPut.out.mono ?_; rintro e w2 ⟨A', cp', rfl, k2, m2, g2⟩
    have hend := And.intro ((HK1.out.mono fun i hi => .inl hi).same k2) (And.intro m2 (fun i hi => (g2 i hi).elim .inl (fun h => .inr (Nat.le_trans HK1.out.size h)) : Grows _ _ w))
    have HEnd := Lib.hid hend
    clear hend k2 m2 g2 HPut HK1
    go_wp2
    go_end0
    exact ⟨A', cp', rfl, HEnd.out⟩
theorem set6_at {w : World} {p : Nat} {t : TypeId} {a0 a1 a2 a3 a4 a5 o0 o1 o2 o3 o4 o5 : Value} (v0 v1 v2 v3 v4 v5 : Value) (h : w.heap[p]? = some (.cells #[a0, a1, a2, a3, a4, a5, o0, o1, o2, o3, o4, o5] t (0, 0))) :
    ((((((w.setCell ⟨p, 6, none⟩ v0).setCell ⟨p, 7, none⟩ v1).setCell ⟨p, 8, none⟩ v2).setCell ⟨p, 9, none⟩ v3).setCell ⟨p, 10, none⟩ v4).setCell ⟨p, 11, none⟩ v5).heap[p]? = some (.cells #[a0, a1, a2, a3, a4, a5, v0, v1, v2, v3, v4, v5] t (0, 0)) := by
  have e := heap_setCell_same _ _ 11 _ _ v5 (heap_setCell_same _ _ 10 _ _ v4 (heap_setCell_same _ _ 9 _ _ v3 (heap_setCell_same _ _ 8 _ _ v2 (heap_setCell_same _ _ 7 _ _ v1 (heap_setCell_same _ _ 6 _ _ v0 h)))))
  rw [e]
  simp
theorem set6_keep (w : World) (p : Nat) (v0 v1 v2 v3 v4 v5 : Value) :
    Keep (fun i => i = p) w ((((((w.setCell ⟨p, 6, none⟩ v0).setCell ⟨p, 7, none⟩ v1).setCell ⟨p, 8, none⟩ v2).setCell ⟨p, 9, none⟩ v3).setCell ⟨p, 10, none⟩ v4).setCell ⟨p, 11, none⟩ v5) :=
  (((((Keep.set _ _ _ _).same (Keep.set _ _ _ _)).same (Keep.set _ _ _ _)).same (Keep.set _ _ _ _)).same (Keep.set _ _ _ _)).same (Keep.set _ _ _ _)
theorem own_nil8 (w : World) : w.ownsRow 0 5 1 (.slice none 0 0) 0 (lst .u8 (fun _ => 0) 0) := by rw [lst_zero]; exact World.ownsRow_nil _ _ _ _
set_option maxRecDepth 100000 in
set_option maxHeartbeats 8000000 in
/-- A byte opens a segment. -/
theorem fbegin_any (p : Nat) (A : Option Addr) (cp : Nat) (x : Fr) (b : Byt) (w : World) (h : FrM w p A cp x) (hx : FrOk x) (hnow : x.now = b.1) (hpos : ¬ 0 < x.sg.count) :
    Calls Try.prog 46 #[.pointer (some ⟨p, 0, none⟩), .agg (byt b).toArray] w fun e w' => ∃ A' cp', e = .returned (.tuple #[]) ∧ Keep (FrF p A x.sg.n cp) w w' ∧ FrM w' p A' cp' (takeF x b) ∧ Grows (FrF p A x.sg.n cp) (FrF p A' (takeS x b).n cp') w := by
  have h0 := hx.since0
  have h1 := hx.now1
  have h2 := hx.since1
  obtain ⟨c, s, l, u, f, t, ⟨n, g, t0, t1, k, gp, bd⟩⟩ := x
  obtain ⟨y0, y1, y2⟩ := b
  obtain ⟨gx, hgx⟩ : ∃ gx, gx = decide (y0 - f < l) := ⟨_, rfl⟩
  have hgo2 : takeS ⟨c, s, l, u, f, t, ⟨n, g, t0, t1, k, gp, bd⟩⟩ (y0, y1, y2) = oneS ⟨0, fun _ => 0, y0, 0, 0, gx, false⟩ (y0, y1, y2) := by unfold takeS; rw [if_neg hpos, hgx]; rfl
  have hgo : takeF ⟨c, s, l, u, f, t, ⟨n, g, t0, t1, k, gp, bd⟩⟩ (y0, y1, y2) = ⟨c, s, l, u, f, t, oneS ⟨0, fun _ => 0, y0, 0, 0, gx, false⟩ (y0, y1, y2)⟩ := by unfold takeF; rw [hgo2]
  rw [hgo, hgo2]
  clear hgo hgo2
  obtain ⟨hrow, hown, hnp⟩ := h
  unfold FrRow frC at hrow
  simp only at hrow hown hnp h0 h1 h2 hpos hnow ⊢
  obtain ⟨D, hD⟩ : ∃ D, y0 - f = D := ⟨_, rfl⟩
  have HS := Lib.hid (fun w => since_v (a := f) (d := y0) w (by omega) (by omega) (by omega) hD)
  rw [hD] at hgx
  obtain ⟨W, hW⟩ : ∃ W, W = w.alloc (.cells #[.int .i64 y0, .int .u8 y1, .bool y2] 46) := ⟨_, rfl⟩
  have xW : Ext w W := by rw [hW]; exact Ext.alloc _ _
  have hSp : w.heap.size ≠ p := by have := heap_lt hrow; omega
  obtain ⟨S, hS⟩ : ∃ S, S = w.heap.size := ⟨_, rfl⟩
  have gS : W.heap[S]? = some (.cells #[.int .i64 y0, .int .u8 y1, .bool y2] 46 (0, 0)) := by rw [hW, hS]; exact heap_alloc_new _ _
  have hrow' := xW.block hrow
  obtain ⟨W1, hW1⟩ : ∃ W1, W1 = ((((((W.setCell ⟨p, 6, none⟩ (.slice none 0 0)).setCell ⟨p, 7, none⟩ (.int .i64 y0)).setCell ⟨p, 8, none⟩ (.int .i64 0)).setCell ⟨p, 9, none⟩ (.int .i64 0)).setCell ⟨p, 10, none⟩ (.bool gx)).setCell ⟨p, 11, none⟩ (.bool false)).drew := ⟨_, rfl⟩
  have hk1 : Keep (fun i => i = p) w W1 := by rw [hW1]; exact ((Keep.of_ext xW).same (set6_keep _ _ _ _ _ _ _ _)).same (.of_ext (Ext.drew _))
  have hm1 : FrM W1 p none 0 ⟨c, s, l, u, f, t, ⟨0, fun _ => 0, y0, 0, 0, gx, false⟩⟩ := by
    rw [hW1]
    refine ⟨?_, own_nil8 _, by simp [Value.ownBlock]⟩
    unfold FrRow frC
    rw [heap_drew]
    exact set6_at _ _ _ _ _ _ hrow'
  have hput := fput_any p none 0 _ (y0, y1, y2) W1 hm1 (by simp) (by simp) (by simp) (fun _ => rfl)
  rw [show (byt (y0, y1, y2)).toArray = #[.int .i64 y0, .int .u8 y1, .bool y2] from rfl] at hput ⊢
  have c2 := cell_of_heap (j := 2) hrow' rfl
  have c4 := cell_of_heap (j := 4) hrow' rfl
  have c6 := cell_of_heap (j := 6) hrow' rfl
  have c7 := cell_of_heap (j := 7) hrow' rfl
  have c8 := cell_of_heap (j := 8) hrow' rfl
  have c9 := cell_of_heap (j := 9) hrow' rfl
  have c10 := cell_of_heap (j := 10) hrow' rfl
  have c11 := cell_of_heap (j := 11) hrow' rfl
  have f6 := frozen_of_row _ _ 6 _ _ hrow'
  have f7 := frozen_of_row _ _ 7 _ _ hrow'
  have f8 := frozen_of_row _ _ 8 _ _ hrow'
  have f9 := frozen_of_row _ _ 9 _ _ hrow'
  have f10 := frozen_of_row _ _ 10 _ _ hrow'
  have f11 := frozen_of_row _ _ 11 _ _ hrow'
  have b0 := cell_of_heap (j := 0) gS rfl
  have b1 := cell_of_heap (j := 1) gS rfl
  have b2 := cell_of_heap (j := 2) gS rfl
  have hpS : ¬ p = S := by omega
  have hSp' : ¬ S = p := by omega
  have HW1 := Lib.hid hW1
  have HK1 := Lib.hid hk1
  have HPut := Lib.hid hput
  have HSS := Lib.hid hS
  subst hgx
  clear hrow hown hnp h0 h1 h2 hpos hnow hD xW hSp gS hrow' hk1 hm1 hput hW1 hS
  go_enter Try.func46, Try.ntmps46
  go_wp2_with fail
  rw [← hW, ← HSS.out]
  clear hW
  refine wp_region_still_tail 19 (by kernel_rfl) (by kernel_rfl) ?_
  simp only [List.take_succ_cons, List.take_zero, List.drop_succ_cons, List.drop_zero]
  iterate 9 still_step
  still_call ((HS.out _).mono fun e w2 h => ⟨h.1, h.2.symm⟩)
  repeat still_step
  refine wpStill_nil ?_
  go_wp2_with fail
  rw [← HW1.out]
  clear HW1 HS hx c2 c4 c6 c7 c8 c9 c10 c11 f6 f7 f8 f9 f10 f11 b0 b1 b2
  refine HPut.out.mono ?_; rintro e w2 ⟨A', cp', rfl, k2, m2, g2⟩
  have hend := And.intro ((HK1.out.mono fun i hi => (.inl hi : FrF p A n cp i)).trans k2 (fun i hi => hi.elim (fun h => .inl (.inl h)) (fun h => by cases h))) (And.intro m2 (fun i hi => (g2 i hi).elim (fun h => h.elim (fun h => .inl (.inl h)) (fun h => by cases h)) (fun h => .inr (Nat.le_trans HK1.out.size h)) : Grows (FrF p A n cp) _ w))
  have HEnd := Lib.hid hend
  clear hend k2 m2 g2 HPut HK1
  go_wp2
  go_end0
  exact ⟨A', cp', rfl, HEnd.out⟩
end Go.Proofs.Ytlemnjphjmnmbaa
