/-
  CONTRACTS: package framer: Idle.
-/
import Derived.Test.YtlemnjphjmnmbaaFrF
namespace Go.Proofs.Ytlemnjphjmnmbaa
open Go.RowKit
set_option linter.unusedVariables false

theorem there_mid {w : World} {p : Nat} {cs : Array Value} {t : TypeId} (h : w.heap[p]? = some (.cells cs t (0, 0))) (o n : Nat) (hn : o + n ≤ cs.size) : w.there p o n := fun j hj => by
  refine ⟨?_, frozen_of_row _ _ _ _ _ h⟩
  rw [cell_of_row _ _ _ _ _ _ h, Array.getElem?_eq_getElem (by omega)]; rfl
theorem FrOk.wait {x : Fr} (h : FrOk x) {t : Int} (h1 : x.now ≤ t) (h2 : t ≤ 1099511627776) : FrOk { x with now := t } :=
  ⟨h.right, h.since0, Int.le_trans h.since1 h1, h2, h.count, h.none, fun k => ⟨(h.last k).1, Int.le_trans (h.last k).2 h1⟩, h.n, h.small⟩
set_option maxRecDepth 100000 in
set_option maxHeartbeats 4000000 in
theorem fidle_err (p : Nat) (F : Nat → Prop) (x : Fr) (t : Int) (w : World) (h : FR w p F x) (he : errB x t = true) :
    Calls Try.prog 14 #[.pointer (some ⟨p, 0, none⟩), .int .i64 t] w fun e w' => e = .returned (.tuple #[.agg (segC none 0 zeroS), .bool false, .int .i64 11]) ∧ Ext w w' := by
  obtain ⟨ok, A, cp, hm, hF⟩ := h
  obtain ⟨W, hW⟩ : ∃ W, W = w.alloc (.cells (segC none 0 zeroS) 48) := ⟨_, rfl⟩
  have xW : Ext w W := by rw [hW]; exact Ext.alloc _ _
  obtain ⟨R, hR⟩ : ∃ R, R = w.heap.size := ⟨_, rfl⟩
  have gR : W.heap[R]? = some (.cells (segC none 0 zeroS) 48 (0, 0)) := by rw [hW, hR]; exact heap_alloc_new _ _
  have hg := fgo_no p A cp x t (.func (.func 30) #[.pointer (some ⟨p, 0, none⟩)] #[]) W (hm.ext xW).row (err_no ok he)
  have HW := Lib.hid hW
  have HR := Lib.hid hR
  have HX := Lib.hid xW
  have HG := Lib.hid gR
  clear ok hm hF he hW xW hR gR
  go_enter Try.func14, Try.ntmps14
  go_wp2_with fail
  rw [show #[Value.slice none 0 0, .int .i64 0, .int .i64 0, .int .i64 0, .bool false, .bool false] = segC none 0 zeroS from rfl, ← HW.out, ← HR.out]
  clear HW
  refine hg.mono ?_; rintro e w1 ⟨rfl, x1⟩
  have g1 := x1.block HG.out
  have hend := below_setRow (HX.out.trans x1) (Nat.le_of_eq HR.out.symm) (segC none 0 zeroS)
  have HEnd := Lib.hid hend
  clear hg HG HX x1 hend
  go_wp2_with (refine wpList_store_row rfl 48 (.tmp 4) (.tmp 16) rfl R _ rfl rfl 48 _ g1 (by kernel_rfl) (by rfl) (by simp [Value.oneCell']) ?_)
  refine bodyPost_ret (results_row_tmp2 rfl _ _ R 48 _ (0, 0) _ rfl (setRow_heap _ _ _ _ _ _ g1) Try.underlying48 rfl (by kernel_rfl)) rfl ?_
  exact ⟨rfl, HEnd.out⟩
set_option maxRecDepth 100000 in
set_option maxHeartbeats 4000000 in
theorem fidle_no (p : Nat) (F : Nat → Prop) (x : Fr) (t : Int) (w : World) (h : FR w p F x) (he : errB x t = false) (ho : overB x t = false) :
    Calls Try.prog 14 #[.pointer (some ⟨p, 0, none⟩), .int .i64 t] w fun e w' => e = .returned (.tuple #[.agg (segC none 0 zeroS), .bool false, .int .i64 0]) ∧ Keep F w w' ∧ FR w' p F { x with now := t } := by
  obtain ⟨ok, A, cp, hm, hF⟩ := h
  obtain ⟨W, hW⟩ : ∃ W, W = w.alloc (.cells (segC none 0 zeroS) 48) := ⟨_, rfl⟩
  have xW : Ext w W := by rw [hW]; exact Ext.alloc _ _
  obtain ⟨R, hR⟩ : ∃ R, R = w.heap.size := ⟨_, rfl⟩
  have gR : W.heap[R]? = some (.cells (segC none 0 zeroS) 48 (0, 0)) := by rw [hW, hR]; exact heap_alloc_new _ _
  obtain ⟨hv, hle⟩ := err_yes ok he
  have hpR : p ≠ R := by have := hm.row.lt; omega
  have hg := fgo_wait p A cp x t W (hm.ext xW).row ok.right hv hle
  have ok' := ok.wait hle hv.2
  have HOv := Lib.hid (fun w' (h : FrRow w' p A cp { x with now := t }) => fover_any p A cp _ w' h ok')
  rw [show overB ({ x with now := t } : Fr) ({ x with now := t } : Fr).now = overB x t from rfl, ho] at HOv
  have HF := Lib.hid hF
  have HOwn := Lib.hid (hm.ext xW)
  have HOk := Lib.hid ok'
  have HW := Lib.hid hW
  have HR := Lib.hid hR
  have HX := Lib.hid xW
  have HG := Lib.hid gR
  have HLt := Lib.hid hm.lt
  have HPR := Lib.hid hpR
  clear ok hm hF he hW xW hR gR ho ok' hv hle hpR
  go_enter Try.func14, Try.ntmps14
  go_wp2_with fail
  rw [show #[Value.slice none 0 0, .int .i64 0, .int .i64 0, .int .i64 0, .bool false, .bool false] = segC none 0 zeroS from rfl, ← HW.out, ← HR.out]
  clear HW
  refine hg.mono ?_; rintro e w1 ⟨rfl, k1, r1⟩
  clear hg
  go_wp2_with fail
  refine (HOv.out _ r1).mono ?_; rintro e w2 ⟨rfl, x2⟩
  have g2 := x2.block ((k1.block R (heap_lt HG.out) HPR.out.symm).trans HG.out)
  have k2 : Keep F w (w2.setRow R (segC none 0 zeroS)) := by
    have h1 : Keep F w w2 := ((Keep.of_ext HX.out).same (k1.mono fun i hi => by rw [hi]; exact (HF.out p).2 (.inl rfl))).trans_ext x2
    exact h1.trans (Keep.row w2 R (segC none 0 zeroS)) fun i hi => .inr (by rw [hi, HR.out]; exact Nat.le_refl _)
  have m2 : FR (w2.setRow R (segC none 0 zeroS)) p F { x with now := t } := by
    have hn : ∀ i, FrF p A x.sg.n cp i → i ≠ R := fun i hi => by have := HLt.out i hi; have := HR.out; omega
    have ho : ∀ q, (Value.slice A x.sg.n cp).ownBlock = some q → (w2.setRow R (segC none 0 zeroS)).heap[q]? = W.heap[q]? := fun q hq => by
      have h1 := hn q (.inr hq)
      have h2 : q < W.heap.size := HOwn.out.lt q (.inr hq)
      rw [setRow_other _ _ _ _ h1, Below.block x2 q (Nat.lt_of_lt_of_le h2 k1.size), k1.block q h2 (fun e => HOwn.out.np (by rw [← e]; exact hq))]
    refine ⟨HOk.out, A, cp, ⟨?_, own_same HOwn.out.own ho, HOwn.out.np⟩, HF.out⟩
    exact (setRow_other _ _ _ _ HPR.out).trans (x2.block r1)
  have HEnd := Lib.hid (And.intro k2 m2)
  clear HOv HF HOwn HOk HX HG HLt HPR k1 r1 x2 k2 m2
  go_wp2_with (refine wpList_store_row rfl 48 (.tmp 4) (.tmp 21) rfl R _ rfl rfl 48 _ g2 (by kernel_rfl) (by rfl) (by simp [Value.oneCell']) ?_)
  refine bodyPost_ret (results_row_tmp2 rfl _ _ R 48 _ (0, 0) _ rfl (setRow_heap _ _ _ _ _ _ g2) Try.underlying48 rfl (by kernel_rfl)) rfl ?_
  exact ⟨rfl, HEnd.out⟩
set_option maxRecDepth 100000 in
set_option maxHeartbeats 8000000 in
theorem fidle_yes (p : Nat) (F : Nat → Prop) (x : Fr) (t : Int) (w : World) (h : FR w p F x) (he : errB x t = false) (ho : overB x t = true) :
    Calls Try.prog 14 #[.pointer (some ⟨p, 0, none⟩), .int .i64 t] w fun e w' => ∃ A cp G, e = .returned (.tuple #[.agg (segC A cp x.sg), .bool true, .int .i64 0]) ∧ Keep F w w' ∧ FR w' p G { x with now := t, sg := zeroS } ∧ Grows F G w ∧ SegT w' G A cp x.sg ∧ (∀ q, A = some q → F q.block) := by
  obtain ⟨ok, A, cp, hm, hF⟩ := h
  obtain ⟨W, hW⟩ : ∃ W, W = w.alloc (.cells (segC none 0 zeroS) 48) := ⟨_, rfl⟩
  have xW : Ext w W := by rw [hW]; exact Ext.alloc _ _
  obtain ⟨R, hR⟩ : ∃ R, R = w.heap.size := ⟨_, rfl⟩
  have gR : W.heap[R]? = some (.cells (segC none 0 zeroS) 48 (0, 0)) := by rw [hW, hR]; exact heap_alloc_new _ _
  obtain ⟨hv, hle⟩ := err_yes ok he
  have hpR : p ≠ R := by have := hm.row.lt; omega
  have hg := fgo_wait p A cp x t W (hm.ext xW).row ok.right hv hle
  have ok' := ok.wait hle hv.2
  have HOv := Lib.hid (fun w' (h : FrRow w' p A cp { x with now := t }) => fover_any p A cp _ w' h ok')
  rw [show overB ({ x with now := t } : Fr) ({ x with now := t } : Fr).now = overB x t from rfl, ho] at HOv
  have HF := Lib.hid hF
  have HOwn := Lib.hid (hm.ext xW)
  have HOk := Lib.hid ok
  have HOk2 := Lib.hid (show FrOk { x with now := t, sg := zeroS } from ⟨ok.right, ok.since0, Int.le_trans ok.since1 hle, hv.2, Int.le_refl _, fun _ => rfl, fun h => absurd h (show ¬ (0 : Int) < 0 by decide), by unfold zeroS; simp, zeroS_small⟩)
  have HW := Lib.hid hW
  have HR := Lib.hid hR
  have HX := Lib.hid xW
  have HG := Lib.hid gR
  have HLt := Lib.hid hm.lt
  have HPR := Lib.hid hpR
  clear ok hm hF he hW xW hR gR ho ok' hv hle hpR
  go_enter Try.func14, Try.ntmps14
  go_wp2_with fail
  rw [show #[Value.slice none 0 0, .int .i64 0, .int .i64 0, .int .i64 0, .bool false, .bool false] = segC none 0 zeroS from rfl, ← HW.out, ← HR.out]
  clear HW
  refine hg.mono ?_; rintro e w1 ⟨rfl, k1, r1⟩
  clear hg
  go_wp2_with fail
  refine (HOv.out _ r1).mono ?_; rintro e w2 ⟨rfl, x2⟩
  have g2 := x2.block ((k1.block R (heap_lt HG.out) HPR.out.symm).trans HG.out)
  have r2 := r1.ext x2
  obtain ⟨c, s, l, u, f, t', ⟨n, g, t0, t1, k, gp, bd⟩⟩ := x
  unfold FrRow frC at r2
  simp only at r2
  have c6 := cell_of_heap (j := 6) r2 rfl
  have c7 := cell_of_heap (j := 7) r2 rfl
  have c8 := cell_of_heap (j := 8) r2 rfl
  have c9 := cell_of_heap (j := 9) r2 rfl
  have c10 := cell_of_heap (j := 10) r2 rfl
  have c11 := cell_of_heap (j := 11) r2 rfl
  have hp2 := heap_lt r2
  have HR2 := Lib.hid r2
  have HG2 := Lib.hid g2
  clear HOv r2 g2
  go_upto_region 7 with fail
  clear c6 c7 c8 c9 c10 c11 hp2
  obtain ⟨S, hS⟩ : ∃ S, S = w2.heap.size := ⟨_, rfl⟩
  obtain ⟨W3, hW3⟩ : ∃ W3, W3 = w2.alloc (.cells #[.slice A n cp, .int .i64 t0, .int .i64 t1, .int .i64 k, .bool gp, .bool bd] 48) := ⟨_, rfl⟩
  have x3 : Ext w2 W3 := by rw [hW3]; exact Ext.alloc _ _
  have s3 : W3.heap[S]? = some (.cells #[.slice A n cp, .int .i64 t0, .int .i64 t1, .int .i64 k, .bool gp, .bool bd] 48 (0, 0)) := by rw [hW3, hS]; exact heap_alloc_new _ _
  rw [← hW3, ← hS]
  have r3 := x3.block HR2.out
  have hpS : S ≠ p := by have := heap_lt HR2.out; omega
  have hRS : S ≠ R := by have := heap_lt HG2.out; omega
  have ht := there_mid r3 6 6 (by simp)
  obtain ⟨W4, hW4⟩ : ∃ W4, W4 = W3.setCells p 6 [.slice none 0 0, .int .i64 0, .int .i64 0, .int .i64 0, .bool false, .bool false] := ⟨_, rfl⟩
  have hW4' : W4 = (((((W3.setCell ⟨p, 6, none⟩ (.slice none 0 0)).setCell ⟨p, 7, none⟩ (.int .i64 0)).setCell ⟨p, 8, none⟩ (.int .i64 0)).setCell ⟨p, 9, none⟩ (.int .i64 0)).setCell ⟨p, 10, none⟩ (.bool false)).setCell ⟨p, 11, none⟩ (.bool false) := hW4
  have k4 : Keep (fun i => i = p) W3 W4 := by rw [hW4']; exact set6_keep _ _ _ _ _ _ _ _
  have r4 : FrRow W4 p none 0 ⟨c, s, l, u, f, t, zeroS⟩ := by rw [hW4']; exact set6_at _ _ _ _ _ _ r3
  have s4 := (k4.block S (heap_lt s3) hpS).trans s3
  have g4 := (k4.block R (heap_lt (x3.block HG2.out)) HPR.out.symm).trans (x3.block HG2.out)
  have hall : Keep F w (W4.setRow R #[.slice A n cp, .int .i64 t0, .int .i64 t1, .int .i64 k, .bool gp, .bool bd]) := by
    have hFp := (HF.out p).2 (.inl rfl)
    have h1 : Keep F w w2 := ((Keep.of_ext HX.out).same (k1.mono fun i hi => by rw [hi]; exact hFp)).trans_ext x2
    have h2 : Keep F w W4 := (h1.trans_ext x3).same (k4.mono fun i hi => by rw [hi]; exact hFp)
    exact h2.trans (Keep.row W4 R _) fun i hi => .inr (by rw [hi, HR.out]; exact Nat.le_refl _)
  have hfr : FR (W4.setRow R #[.slice A n cp, .int .i64 t0, .int .i64 t1, .int .i64 k, .bool gp, .bool bd]) p (FrF p none 0 0) ⟨c, s, l, u, f, t, zeroS⟩ :=
    ⟨HOk2.out, none, 0, ⟨(setRow_other _ _ _ _ HPR.out).trans r4, own_nil8 _, by simp [Value.ownBlock]⟩, fun i => Iff.rfl⟩
  have hgr : Grows F (FrF p none 0 0) w := by
    rintro i (e | e)
    · rw [e]; exact .inl ((HF.out p).2 (.inl rfl))
    · cases e
  have hseg : SegT (W4.setRow R #[.slice A n cp, .int .i64 t0, .int .i64 t1, .int .i64 k, .bool gp, .bool bd]) (FrF p none 0 0) A cp ⟨n, g, t0, t1, k, gp, bd⟩ ∧ (∀ q, A = some q → F q.block) := by
    have hown := HOwn.out.own
    simp only at hown
    have ho : ∀ q, (Value.slice A n cp).ownBlock = some q → (W4.setRow R #[.slice A n cp, .int .i64 t0, .int .i64 t1, .int .i64 k, .bool gp, .bool bd]).heap[q]? = W.heap[q]? := fun q hq => by
      have h0 : q < w.heap.size := HLt.out q (.inr hq)
      have h1 : q ≠ R := by have := HR.out; omega
      have h2 : q < W.heap.size := HOwn.out.lt q (.inr hq)
      have hqp : q ≠ p := fun e => HOwn.out.np (by rw [← e]; exact hq)
      have h3 : q < w2.heap.size := Nat.lt_of_lt_of_le (Nat.lt_of_lt_of_le h2 k1.size) x2.size
      rw [setRow_other _ _ _ _ h1, k4.block q (Nat.lt_of_lt_of_le h3 x3.size) hqp, Below.block x3 q h3, Below.block x2 q (Nat.lt_of_lt_of_le h2 k1.size), k1.block q h2 hqp]
    obtain ⟨A2, c2, hv, h1, h2, h3, h4⟩ := Holds.of_own_at (own_same hown ho)
    injection hv with e1 e2 e3
    subst e1; subst e3
    have hblk : ∀ q, A = some q → (Value.slice A n cp).ownBlock = some q.block := fun q hq => by rw [hq]; rfl
    refine ⟨⟨h3, h1, h2, HOk.out.small, HOk.out.few, ?_⟩, fun q hq => (HF.out q.block).2 (.inr (hblk q hq))⟩
    rintro q hq (e | e)
    · exact HOwn.out.np (by rw [← e]; exact hblk q hq)
    · cases e
  have HEnd := Lib.hid (And.intro hall (And.intro hfr (And.intro hgr hseg)))
  have HW4 := Lib.hid hW4
  clear HOwn HOk HOk2 HF HX HG HLt k1 r1 x2 HR2 HG2 hS hW3 x3 s3 r3 hW4 hW4' k4 r4 hall hfr hgr hseg
  go_wp2_with (first
    | (refine wpList_store_mid rfl 48 (.tmp 29) (.tmp 27) rfl p 6 _ rfl rfl ht (by kernel_rfl) (by simp [Value.oneCell']) ?_; rw [show (#[Value.slice none 0 0, .int .i64 0, .int .i64 0, .int .i64 0, .bool false, .bool false] : Array Value).toList = [Value.slice none 0 0, .int .i64 0, .int .i64 0, .int .i64 0, .bool false, .bool false] from rfl, ← HW4.out])
    | (refine wpList_load_row rfl 48 (.tmp 8) rfl S rfl 48 _ (0, 0) _ s4 Try.underlying48 rfl (by kernel_rfl) ?_)
    | (refine wpList_store_row rfl 48 (.tmp 4) (.tmp 30) rfl R _ rfl rfl 48 _ g4 (by kernel_rfl) (by rfl) (by simp [Value.oneCell']) ?_))
  refine bodyPost_ret (results_row_tmp2 rfl _ _ R 48 _ (0, 0) _ rfl (setRow_heap _ _ _ _ _ _ g4) Try.underlying48 rfl (by kernel_rfl)) rfl ?_
  exact ⟨A, cp, rfl, HEnd.out.1, FrF p none 0 0, HEnd.out.2⟩
/-- Time goes on. -/
theorem fidle_any (p : Nat) (F : Nat → Prop) (x : Fr) (t : Int) (w : World) (h : FR w p F x) :
    Calls Try.prog 14 #[.pointer (some ⟨p, 0, none⟩), .int .i64 t] w fun e w' => ∃ A cp G, e = .returned (.tuple #[.agg (segC A cp (idleS x t)), .bool (idleB x t), .int .i64 (idleN x t)]) ∧ Keep F w w' ∧ FR w' p G (idleF x t) ∧ Grows F G w ∧ SegT w' G A cp (idleS x t) ∧ (∀ q, A = some q → F q.block) := by
  unfold idleS idleB idleN idleF
  cases he : errB x t
  · cases ho : overB x t
    · exact (fidle_no p F x t w h he ho).mono fun e w' ⟨h1, h2, h3⟩ => ⟨none, 0, F, h1, h2, h3, Grows.refl _ _, SegT.nil _ _, fun q hq => by cases hq⟩
    · exact fidle_yes p F x t w h he ho
  · exact (fidle_err p F x t w h he).mono fun e w' ⟨h1, h2⟩ => ⟨none, 0, F, h1, .of_ext h2, h.ext h2, Grows.refl _ _, SegT.nil _ _, fun q hq => by cases hq⟩
end Go.Proofs.Ytlemnjphjmnmbaa
