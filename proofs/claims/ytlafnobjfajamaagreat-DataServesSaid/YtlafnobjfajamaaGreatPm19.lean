/-
  CONTRACTS: bilgeref17 (layer 17): Do, 23, 22.
  CONTRACTS: bilgeref16 (layer 16): Same, whole, Few.
  CONTRACTS: package tell (layer 16): replyTo.
-/
import Derived.Test.YtlafnobjfajamaaGreatPm18
import Derived.Test.YtlafnobjfajamaaGreatPm14
import Derived.Test.YtlafnobjfajamaaGreatPm13
import Derived.Test.YtlafnobjfajamaaGreatPm20
import Derived.Test.YtlafnobjfajamaaGreatPm6
import Derived.Deep.DeepCutAuto
import Derived.Test.YtlafnobjfajamaaGreatPm1
import Derived.Test.YtlafnobjfajamaaGreatPm16
import Derived.Laws.CopyOwn
import Derived.Laws.Rows
namespace Go.Proofs.YtlafnobjfajamaaGreat
open Go.RowKit
set_option linter.unusedVariables false
set_option maxRecDepth 100000

set_option maxHeartbeats 4000000 in
theorem rdo17_23 (V : FilV) (F : Fil) (U : QstV) (Q : Qst) (w : World) (hF : FilAt w V F) (hQ : QstAt w U Q) (hW : QstW Q) (hFW : FilW F) (hq : rightQ Q = true) (hr : rightB F = true) (h0 : datE F Q = 0) (hk : Q.k = 23) : Calls Tryz.prog 19 #[.agg (filC V F), .agg (qstC U Q)] w (Do17P F Q w) := by
  have hne : ¬ datE F Q ≠ 0 := fun h => h h0
  have af := ask_facts hq
  have hE : True := trivial
  have HD : Hid (datF F Q = (swF F Q.ad Q.nr Q.R) ∧ datT F Q = { zeroT with k := Q.k, nr := (wrdN (swF F Q.ad Q.nr Q.R) false Q.fr Q.mn), R := (wrdL (swF F Q.ad Q.nr Q.R) false Q.fr) }) := Lib.hid (by
    have e1 : datF F Q = (swF F Q.ad Q.nr Q.R) := by unfold datF; rw [if_neg hne]; simp (config := { decide := true }) only [hk, if_true, if_false]
    refine ⟨e1, ?_⟩
    unfold datT; rw [if_neg hne]; rw [e1]; simp (config := { decide := true }) only [hk, if_true, if_false] <;> rfl)
  obtain ⟨W5, hW5, k5, k3, D0⟩ := do_begin V F U Q w hF
  have KC := Lib.hid (fun W (x : Ext w W) => rcode17_any V F U Q W (hF.ext x) hW ((rightQ_iff Q).1 hq).1)
  have c0 : W5.cell? ⟨w.heap.size + 1, 0, none⟩ = some (.int .i64 Q.k) := cell_of_heap k3 rfl
  have KB := Lib.hid (fun W (x : Ext w W) => rsetwords14_any V F Q.ad U.a2 Q.nr U.d2 Q.R W (hF.ext x) (hQ.h2.ext x) (by have := af.wd (.inr hk); omega) hW.wad)
  have KR := Lib.hid (fun W V8 (h : FilAt W V8 (swF F Q.ad Q.nr Q.R)) => rwords14_any V8 (swF F Q.ad Q.nr Q.R) false Q.fr Q.mn W h hW.wfr hW.wmn)
  rw [h0] at KC
  have HK := Lib.hid hk
  clear h0 hne af hq hr hW hFW hF hQ hE hk
  go_enter Tryz.func19, Tryz.ntmps19
  go_upto_region 1 with fail
  rw [← hW5]
  clear hW5
  go_upto_region 2 with fail
  obtain ⟨W6, hW6⟩ : ∃ W6, W6 = W5.alloc (.cells #[.int .i64 Q.k, .int .i64 0, .int .i64 0, .int .i64 0, .int .i64 0, .int .i64 0, .int .i64 0, .slice none 0 0, .slice none 0 0] 37) := ⟨_, rfl⟩
  rw [← hW6] at D0 ⊢
  clear hW6 c0 k3 k5
  have c2 := D0.b2
  have c3 := D0.b3
  have xw := D0.x
  go_upto_region 6 with (first
    | (refine wpList_load_row rfl 29 (.tmp 2) rfl (w.heap.size) rfl 29 _ (0, 0) _ c2 Tryz.underlying29 rfl (by kernel_rfl) ?_)
    | (refine wpList_load_row rfl 31 (.tmp 3) rfl (w.heap.size + 1) rfl 31 _ (0, 0) _ c3 Tryz.underlying31 rfl (by kernel_rfl) ?_)
    | (go_at_call 20; refine (KC.out _ xw).mono ?_; rintro e w7 ⟨rfl, x7⟩))
  have D1 := D0.ext x7
  have x1 := xw.trans x7
  clear D0 c2 c3 xw KC x7
  have c2 := D1.b2
  have c0 : w7.cell? ⟨w.heap.size + 1, 0, none⟩ = some (.int .i64 23) := num_cell HK.out (cell_of_heap D1.b3 rfl)
  have c1 : w7.cell? ⟨w.heap.size + 1, 1, none⟩ = some (.int .i64 Q.ad) := cell_of_heap D1.b3 rfl
  have cl : w7.cell? ⟨w.heap.size + 1, 9, none⟩ = some (.slice U.a2 Q.nr U.d2) := cell_of_heap D1.b3 rfl
  go_upto_region 37 with (first
    | (refine wpList_load_row rfl 29 (.tmp 2) rfl w.heap.size rfl 29 _ (0, 0) _ c2 Tryz.underlying29 rfl (by kernel_rfl) ?_)
    | (go_at_call 42; refine (KB.out _ x1).mono ?_; rintro e w8 ⟨V8, rfl, hf8, x8, -⟩; have D2 := D1.ext x8; have b2 := D2.b2; clear c2 c0 c1 cl)
    | (refine wpList_store_row rfl 29 (.tmp 2) (.tmp 173) rfl w.heap.size _ rfl rfl 29 _ b2 (by kernel_rfl) rfl (by simp [filC, Value.oneCell']) ?_))
  have D3 := D2.setF hf8
  obtain ⟨w9, hw9⟩ : ∃ W, W = w8.setRow w.heap.size (filC V8 (swF F Q.ad Q.nr Q.R)) := ⟨_, rfl⟩
  rw [← hw9] at D3 ⊢
  clear hw9 b2 D2 hf8 D1 x8
  have f2 := D3.b2
  have hf9 := D3.f
  have c6 : w9.cell? ⟨w.heap.size + 1, 6, none⟩ = some (.int .i64 Q.fr) := cell_of_heap D3.b3 rfl
  have c7 : w9.cell? ⟨w.heap.size + 1, 7, none⟩ = some (.int .i64 Q.mn) := cell_of_heap D3.b3 rfl
  go_upto_region 38 with (first
    | (refine wpList_load_row rfl 29 (.tmp 2) rfl w.heap.size rfl 29 _ (0, 0) _ f2 Tryz.underlying29 rfl (by kernel_rfl) ?_)
    | (go_at_call 40; refine (KR.out _ _ hf9).mono ?_; rintro e wA ⟨bb, qq, rfl, lb, mb, hb, xA, -⟩; have D4 := D3.ext xA; have p7 : wA.cell? ⟨w.heap.size + 1 + 1 + 1 + 1, 8, none⟩ = some (.slice none 0 0) := cell_of_heap D4.b6 rfl; have q7 : wA.frozen? ⟨w.heap.size + 1 + 1 + 1 + 1, 8, none⟩ = false := frozen0 D4.b6; clear c6 c7 f2 hf9 D3))
  have D5 := D4.setT (X' := ⟨none, 0, bb, qq⟩) (T' := { zeroT with k := Q.k, nr := (wrdN (swF F Q.ad Q.nr Q.R) false Q.fr Q.mn), R := (wrdL (swF F Q.ad Q.nr Q.R) false Q.fr) }) 8 (.slice bb (wrdN (swF F Q.ad Q.nr Q.R) false Q.fr Q.mn) qq) rfl ⟨.inl rfl, Nat.le_refl _, Nat.zero_le _, hb, lb, mb⟩
  obtain ⟨WN, hWN⟩ : ∃ WN, WN = wA.setCell ⟨w.heap.size + 1 + 1 + 1 + 1, 8, none⟩ (.slice bb (wrdN (swF F Q.ad Q.nr Q.R) false Q.fr Q.mn) qq) := ⟨_, rfl⟩
  rw [← hWN] at D5 ⊢
  clear hWN p7 q7 D4 xA
  go_wp2_with fail
  have hd5 : Ext WN WN.drew := Ext.drew _
  have HL := Lib.hid (fun W (hx : Keep (fun i => i = w.heap.size + 1 + 1 ∨ i = w.heap.size + 1 + 1 + 1) WN W) => (⟨(hx.block _ (heap_lt D5.b2) (by omega)).trans D5.b2, (hx.block _ (heap_lt D5.b6) (by omega)).trans D5.b6⟩ : W.heap[w.heap.size]? = some (.cells (filC V8 (swF F Q.ad Q.nr Q.R)) 29 (0, 0)) ∧ W.heap[w.heap.size + 1 + 1 + 1 + 1]? = some (.cells (telC ⟨none, 0, bb, qq⟩ { zeroT with k := Q.k, nr := (wrdN (swF F Q.ad Q.nr Q.R) false Q.fr Q.mn), R := (wrdL (swF F Q.ad Q.nr Q.R) false Q.fr) }) 37 (0, 0))))
  have hs : Keep (fun i => i = w.heap.size + 1 + 1 ∨ i = w.heap.size + 1 + 1 + 1) WN WN.drew := Keep.of_ext hd5
  refine wp_region_held_drew (S := fun W => Keep (fun i => i = w.heap.size + 1 + 1 ∨ i = w.heap.size + 1 + 1 + 1) WN W) (by kernel_rfl) hs (fun _ => ?_)
  refine wpAnyH_takeD (i := 0) (d := 185) rfl rfl (by kernel_rfl) (by kernel_rfl) (by kernel_rfl) (fun _ _ _ h => h) (yieldsIf_load_row (by rfl) 29 (.tmp 2) rfl (w.heap.size) rfl 29 _ (0, 0) _ (fun w' hw' => (HL.out _ hw').1) Tryz.underlying29 rfl (by kernel_rfl)) hs ?_
  simp only [Act.put, tkA, tkB, tkC]
  refine wpAnyH_takeD (i := 1) (d := 186) rfl rfl (by kernel_rfl) (by kernel_rfl) (by kernel_rfl) (fun _ _ _ h => h) (yieldsIf_load_row (by rfl) 37 (.tmp 6) rfl (w.heap.size + 1 + 1 + 1 + 1) rfl 37 _ (0, 0) _ (fun w' hw' => (HL.out _ hw').2) Tryz.underlying37 rfl (by kernel_rfl)) hs ?_
  simp only [Act.put, tkA, tkB, tkC]
  refine wpAnyH_ready (rs := [2]) (by kernel_rfl) (by simp) (AllReadyH.cons rfl (fun K hK => ?_) AllReadyH.nil)
  refine step_store_row rfl 29 (.tmp 4) (.tmp 185) rfl (w.heap.size + 1 + 1) _ rfl rfl 29 _ (hd5.block D5.b4) (by kernel_rfl) rfl (by simp [filC, Value.oneCell']) rfl ?_
  refine hK.out _ _ ((Keep.of_ext hd5).trans (keep_row _ _ _) (fun i hi => .inl (.inl hi))) (fun hs => ?_)
  clear hK K
  simp only [Act.put]
  refine wpAnyH_ready (rs := [3]) (by kernel_rfl) (by simp) (AllReadyH.cons rfl (fun K hK => ?_) AllReadyH.nil)
  refine step_store_row rfl 37 (.tmp 5) (.tmp 186) rfl (w.heap.size + 1 + 1 + 1) _ rfl rfl 37 _ ((setRow_other _ _ _ _ (by omega)).trans (hd5.block D5.b5)) (by kernel_rfl) rfl (by simp [telC, Value.oneCell']) rfl ?_
  refine hK.out _ _ (hs.trans (keep_row _ _ _) (fun i hi => .inl (.inr hi))) (fun hs => ?_)
  clear hK K
  simp only [Act.put]
  refine wpAnyH_done (by kernel_rfl) ?_ _
  go_wp2_with fail
  have DE := D5.ext hd5
  obtain ⟨q1, q2, q3, q4, q5⟩ := do_told DE
  refine bodyPost_ret (results_rows _ _ (w.heap.size + 1 + 1) (w.heap.size + 1 + 1 + 1) 29 37 _ _ (0, 0) (0, 0) _ _ rfl rfl q4 Tryz.underlying29 rfl (by kernel_rfl) rfl q5 Tryz.underlying37 rfl (by kernel_rfl)) rfl ?_
  unfold Do17P
  rw [HD.out.1, HD.out.2]
  exact ⟨V8, ⟨none, 0, bb, qq⟩, rfl, q1, q2, q3⟩

set_option maxHeartbeats 4000000 in
theorem rdo17_22 (V : FilV) (F : Fil) (U : QstV) (Q : Qst) (w : World) (hF : FilAt w V F) (hQ : QstAt w U Q) (hW : QstW Q) (hFW : FilW F) (hq : rightQ Q = true) (hr : rightB F = true) (h0 : datE F Q = 0) (hk : Q.k = 22) : Calls Tryz.prog 19 #[.agg (filC V F), .agg (qstC U Q)] w (Do17P F Q w) := by
  have hne : ¬ datE F Q ≠ 0 := fun h => h h0
  have af := ask_facts hq
  have hE : True := trivial
  have HD : Hid (datF F Q = (swF F Q.ad 1 (fun _ => mskQ (wrdL F false Q.ad 0) Q.an Q.oo)) ∧ datT F Q = { zeroT with k := Q.k, ad := Q.ad, an := Q.an, oo := Q.oo }) := Lib.hid (by
    have e1 : datF F Q = (swF F Q.ad 1 (fun _ => mskQ (wrdL F false Q.ad 0) Q.an Q.oo)) := by unfold datF; rw [if_neg hne]; simp (config := { decide := true }) only [hk, if_true, if_false]
    refine ⟨e1, ?_⟩
    unfold datT; rw [if_neg hne]; simp (config := { decide := true }) only [hk, if_true, if_false] <;> rfl)
  obtain ⟨W5, hW5, k5, k3, D0⟩ := do_begin V F U Q w hF
  have KC := Lib.hid (fun W (x : Ext w W) => rcode17_any V F U Q W (hF.ext x) hW ((rightQ_iff Q).1 hq).1)
  have c0 : W5.cell? ⟨w.heap.size + 1, 0, none⟩ = some (.int .i64 Q.k) := cell_of_heap k3 rfl
  have h00 := h0
  have hN : wrdN F false Q.ad 1 = 1 := by
    have e : wrdE F false Q.ad 1 = 0 := by unfold datE at h00; simp (config := { decide := true }) only [hk, if_true, if_false] at h00; exact h00
    unfold wrdN; rw [if_pos e]; rfl
  have hbx := wrd_bd hFW false Q.ad 1 (by omega) 0 (by omega)
  have hms := af.ms hk
  have KW : Hid (∀ W, Ext w W → Calls Tryz.prog 40 #[.agg (filC V F), .bool false, .int .i64 Q.ad, .int .i64 1] W (SlP (Value.int .u16) (wrdE F false Q.ad 1) 1 (wrdL F false Q.ad) W)) := Lib.hid (fun W x => by have h := rwords14_any V F false Q.ad 1 W (hF.ext x) hW.wad (by decide); rw [hN] at h; exact h)
  have KM := Lib.hid (fun W => rmask_v (wrdL F false Q.ad 0) Q.an Q.oo W hbx ⟨hms.1, by omega⟩ ⟨hms.2.2.1, by omega⟩)
  have KS := Lib.hid (fun W (g : Nat) (x : Ext w W) (h : HoldsG (Value.int .u16) W (some ⟨g, 0, none⟩) 1 (fun _ => mskQ (wrdL F false Q.ad 0) Q.an Q.oo)) => rsetwords14_any V F Q.ad (some ⟨g, 0, none⟩) 1 1 (fun _ => mskQ (wrdL F false Q.ad 0) Q.an Q.oo) W (hF.ext x) h (by omega) hW.wad)
  have hw1 : IntKind.u16.wrap Q.an = Q.an := by rw [IntKind.wrap_u16]; omega
  have hw2 : IntKind.u16.wrap Q.oo = Q.oo := by rw [IntKind.wrap_u16]; omega
  clear h00 hN hbx hms
  rw [h0] at KC
  have HK := Lib.hid hk
  clear h0 hne af hq hr hW hFW hF hQ hE hk
  go_enter Tryz.func19, Tryz.ntmps19
  go_upto_region 1 with fail
  rw [← hW5]
  clear hW5
  go_upto_region 2 with fail
  obtain ⟨W6, hW6⟩ : ∃ W6, W6 = W5.alloc (.cells #[.int .i64 Q.k, .int .i64 0, .int .i64 0, .int .i64 0, .int .i64 0, .int .i64 0, .int .i64 0, .slice none 0 0, .slice none 0 0] 37) := ⟨_, rfl⟩
  rw [← hW6] at D0 ⊢
  clear hW6 c0 k3 k5
  have c2 := D0.b2
  have c3 := D0.b3
  have xw := D0.x
  go_upto_region 6 with (first
    | (refine wpList_load_row rfl 29 (.tmp 2) rfl (w.heap.size) rfl 29 _ (0, 0) _ c2 Tryz.underlying29 rfl (by kernel_rfl) ?_)
    | (refine wpList_load_row rfl 31 (.tmp 3) rfl (w.heap.size + 1) rfl 31 _ (0, 0) _ c3 Tryz.underlying31 rfl (by kernel_rfl) ?_)
    | (go_at_call 20; refine (KC.out _ xw).mono ?_; rintro e w7 ⟨rfl, x7⟩))
  have D1 := D0.ext x7
  have x1 := xw.trans x7
  clear D0 c2 c3 xw KC x7
  have c2 := D1.b2
  have c0 : w7.cell? ⟨w.heap.size + 1, 0, none⟩ = some (.int .i64 22) := num_cell HK.out (cell_of_heap D1.b3 rfl)
  have c1 : w7.cell? ⟨w.heap.size + 1, 1, none⟩ = some (.int .i64 Q.ad) := cell_of_heap D1.b3 rfl
  go_upto_region 31 with (first
    | (refine wpList_load_row rfl 29 (.tmp 2) rfl w.heap.size rfl 29 _ (0, 0) _ c2 Tryz.underlying29 rfl (by kernel_rfl) ?_)
    | (go_at_call 40; refine (KW.out _ x1).mono ?_; rintro e w8 ⟨bb, qq, rfl, lb, mb, hb, x8, -⟩; have D2 := D1.ext x8; clear c2 c0 c1))
  have x8w := x1.trans x8
  obtain ⟨bb, ob, rfl, hbl, hbc⟩ := hb.resolve_left (by omega)
  have cx : w8.cell? ⟨bb, ob, none⟩ = some (.int .u16 (wrdL F false Q.ad 0)) := hbc 0 (by omega)
  have hbg : bb ≠ w.heap.size := by
    rintro rfl
    rw [cell_of_row _ _ _ _ _ _ D2.b2] at cx
    have := Array.mem_of_getElem? cx
    simp [filC] at this
  have he : Ext w8 w8.drew := Ext.drew _
  have hs : Keep (fun i => i = w.heap.size) w8 w8.drew := Keep.of_ext he
  have HC := Lib.hid (fun W (hx : Keep (fun i => i = w.heap.size) w8 W) => (by
    have hr := (hx.block _ (heap_lt D2.b3) (by omega)).trans D2.b3
    exact ⟨cell_of_heap hr rfl, cell_of_heap hr rfl, cell_of_heap hr rfl, hx.cell hbg cx⟩ : W.cell? ⟨w.heap.size + 1, 1, none⟩ = some (.int .i64 Q.ad) ∧ W.cell? ⟨w.heap.size + 1, 4, none⟩ = some (.int .i64 Q.an) ∧ W.cell? ⟨w.heap.size + 1, 5, none⟩ = some (.int .i64 Q.oo) ∧ W.cell? ⟨bb, ob, none⟩ = some (.int .u16 (wrdL F false Q.ad 0))))
  clear hbc cx hbl lb mb hb D1 x8
  refine wp_region_held_drew (S := fun W => Keep (fun i => i = w.heap.size) w8 W) (by kernel_rfl) hs (fun _ => ?_)
  refine tkG 1 139 (.pointer (some ⟨w.heap.size + 1, 1, none⟩)) hs ?_
  simp only [Act.put, tkA, tkB, tkC]
  refine tkY 2 140 (.int .i64 Q.ad) hs ?_ (y := fun W hW => by obtain ⟨a1, a4, a5, a9⟩ := HC.out W hW; go_simp)
  simp only [Act.put, tkA, tkB, tkC]
  refine tkG 3 141 (.slice (some ⟨bb, ob, none⟩) 1 qq) hs ?_
  simp only [Act.put, tkA, tkB, tkC]
  refine tkY 4 142 (.pointer (some ⟨bb, ob, none⟩)) hs ?_ (y := fun W hW => by obtain ⟨a1, a4, a5, a9⟩ := HC.out W hW; go_simp)
  simp only [Act.put, tkA, tkB, tkC]
  refine tkY 5 143 (.int .u16 (wrdL F false Q.ad 0)) hs ?_ (y := fun W hW => by obtain ⟨a1, a4, a5, a9⟩ := HC.out W hW; go_simp)
  simp only [Act.put, tkA, tkB, tkC]
  refine tkG 6 144 (.pointer (some ⟨w.heap.size + 1, 4, none⟩)) hs ?_
  simp only [Act.put, tkA, tkB, tkC]
  refine tkY 7 145 (.int .i64 Q.an) hs ?_ (y := fun W hW => by obtain ⟨a1, a4, a5, a9⟩ := HC.out W hW; go_simp)
  simp only [Act.put, tkA, tkB, tkC]
  refine tkG 8 146 (.int .u16 Q.an) hs ?_
  simp only [Act.put, tkA, tkB, tkC]
  refine tkG 9 147 (.pointer (some ⟨w.heap.size + 1, 5, none⟩)) hs ?_
  simp only [Act.put, tkA, tkB, tkC]
  refine tkY 10 148 (.int .i64 Q.oo) hs ?_ (y := fun W hW => by obtain ⟨a1, a4, a5, a9⟩ := HC.out W hW; go_simp)
  simp only [Act.put, tkA, tkB, tkC]
  refine tkG 11 149 (.int .u16 Q.oo) hs ?_
  simp only [Act.put, tkA, tkB, tkC]
  refine wpAnyH_ready (rs := [0, 12]) (by kernel_rfl) (by simp) (AllReadyH.cons rfl (fun K hK => ?_) (AllReadyH.cons rfl (fun K hK => ?_) AllReadyH.nil))
  · refine wp_load_row 29 (.tmp 2) rfl w.heap.size rfl 29 _ (0, 0) _ (he.block D2.b2) Tryz.underlying29 rfl (by kernel_rfl) ?_
    refine hK.out _ _ hs (fun hs => ?_)
    clear hK K
    simp only [Act.put, List.setIfInBounds_toArray]
    refine wpAnyH_ready (rs := [12]) (by kernel_rfl) (by simp) (AllReadyH.cons rfl (fun K hK => ?_) AllReadyH.nil)
    go_simp
    go_at_call 43
    refine (KM.out _).mono ?_; rintro e Wm ⟨rfl, rfl⟩
    go_wp2_with fail
    refine hK.out _ _ hs (fun hs => ?_)
    clear hK K
    refine wpAnyH_ready (rs := [13]) (by kernel_rfl) (by simp) (AllReadyH.cons rfl (fun K hK => ?_) AllReadyH.nil)
    go_simp
    have he := he.trans (Ext.alloc _ (.cells #[.int .u16 (mskQ (wrdL F false Q.ad 0) Q.an Q.oo)] 59))
    have h1 := one_cell (mk := Value.int .u16) w8.drew (mskQ (wrdL F false Q.ad 0) Q.an Q.oo) 59
    refine hK.out _ _ (Keep.of_ext he) (fun hs => ?_)
    clear hK K
    refine wpAnyH_ready (rs := [14]) (by kernel_rfl) (by simp) (AllReadyH.cons rfl (fun K hK => ?_) AllReadyH.nil)
    go_simp
    go_at_call 42
    refine (KS.out _ _ (x8w.trans he) h1).mono ?_; rintro e W9 ⟨V9, rfl, hf9, x9, -⟩
    go_wp2_with fail
    have he := he.trans x9
    refine hK.out _ _ (Keep.of_ext he) (fun hs => ?_)
    clear hK K
    refine tkG 15 137 (.tuple #[.agg (filC V9 (swF F Q.ad 1 (fun _ => mskQ (wrdL F false Q.ad 0) Q.an Q.oo))), .int .i64 (swE F Q.ad 1)]) hs ?_
    simp only [Act.put, tkA, tkB, tkC]
    refine tkG 16 153 (.agg (filC V9 (swF F Q.ad 1 (fun _ => mskQ (wrdL F false Q.ad 0) Q.an Q.oo)))) hs ?_
    simp only [Act.put, tkA, tkB, tkC]
    refine tkG 17 154 (.int .i64 (swE F Q.ad 1)) hs ?_
    simp only [Act.put, tkA, tkB, tkC]
    refine wpAnyH_ready (rs := [18]) (by kernel_rfl) (by simp) (AllReadyH.cons rfl (fun K hK => ?_) AllReadyH.nil)
    refine step_store_row rfl 29 (.tmp 2) (.tmp 153) rfl w.heap.size _ rfl rfl 29 _ (he.block D2.b2) (by kernel_rfl) rfl (by simp [filC, Value.oneCell']) rfl ?_
    refine hK.out _ _ ((Keep.of_ext he).trans (keep_row _ _ _) (fun i hi => .inl hi)) (fun hs => ?_)
    clear hK K
    simp only [Act.put]
    refine wpAnyH_done (by kernel_rfl) ?_ _
    have D3 := (D2.ext he).setF hf9
    obtain ⟨w9, hw9⟩ : ∃ W, W = W9.setRow w.heap.size (filC V9 (swF F Q.ad 1 (fun _ => mskQ (wrdL F false Q.ad 0) Q.an Q.oo))) := ⟨_, rfl⟩
    rw [← hw9] at D3 ⊢
    clear hw9 D2 hf9 x9 he h1 hs
    go_upto_region 32 with fail
    have a0 : w9.cell? ⟨w.heap.size + 1, 1, none⟩ = some (.int .i64 Q.ad) := cell_of_heap D3.b3 rfl
    have p0 : w9.cell? ⟨w.heap.size + 1 + 1 + 1 + 1, 2, none⟩ = some (.int .i64 0) := cell_of_heap D3.b6 rfl
    have q0 : w9.frozen? ⟨w.heap.size + 1 + 1 + 1 + 1, 2, none⟩ = false := frozen0 D3.b6
    have Df0 := D3.setT (X' := zeroQV) (T' := { zeroT with k := Q.k, ad := Q.ad }) 2 (.int .i64 Q.ad) rfl (telnone_at _ rfl rfl)
    go_upto_region 33 with fail
    obtain ⟨wf0, hwf0⟩ : ∃ W, W = w9.setCell ⟨w.heap.size + 1 + 1 + 1 + 1, 2, none⟩ (.int .i64 Q.ad) := ⟨_, rfl⟩
    rw [← hwf0] at Df0 ⊢
    clear hwf0 a0 p0 q0 D3
    have a1 : wf0.cell? ⟨w.heap.size + 1, 4, none⟩ = some (.int .i64 Q.an) := cell_of_heap Df0.b3 rfl
    have p1 : wf0.cell? ⟨w.heap.size + 1 + 1 + 1 + 1, 5, none⟩ = some (.int .i64 0) := cell_of_heap Df0.b6 rfl
    have q1 : wf0.frozen? ⟨w.heap.size + 1 + 1 + 1 + 1, 5, none⟩ = false := frozen0 Df0.b6
    have Df1 := Df0.setT (X' := zeroQV) (T' := { zeroT with k := Q.k, ad := Q.ad, an := Q.an }) 5 (.int .i64 Q.an) rfl (telnone_at _ rfl rfl)
    go_upto_region 34 with fail
    obtain ⟨wf1, hwf1⟩ : ∃ W, W = wf0.setCell ⟨w.heap.size + 1 + 1 + 1 + 1, 5, none⟩ (.int .i64 Q.an) := ⟨_, rfl⟩
    rw [← hwf1] at Df1 ⊢
    clear hwf1 a1 p1 q1 Df0
    have a2 : wf1.cell? ⟨w.heap.size + 1, 5, none⟩ = some (.int .i64 Q.oo) := cell_of_heap Df1.b3 rfl
    have p2 : wf1.cell? ⟨w.heap.size + 1 + 1 + 1 + 1, 6, none⟩ = some (.int .i64 0) := cell_of_heap Df1.b6 rfl
    have q2 : wf1.frozen? ⟨w.heap.size + 1 + 1 + 1 + 1, 6, none⟩ = false := frozen0 Df1.b6
    have Df2 := Df1.setT (X' := zeroQV) (T' := { zeroT with k := Q.k, ad := Q.ad, an := Q.an, oo := Q.oo }) 6 (.int .i64 Q.oo) rfl (telnone_at _ rfl rfl)
    go_upto_region 38 with fail
    obtain ⟨wf2, hwf2⟩ : ∃ W, W = wf1.setCell ⟨w.heap.size + 1 + 1 + 1 + 1, 6, none⟩ (.int .i64 Q.oo) := ⟨_, rfl⟩
    rw [← hwf2] at Df2 ⊢
    clear hwf2 a2 p2 q2 Df1
    go_wp2_with fail
    have hd5 : Ext wf2 wf2.drew := Ext.drew _
    have HL := Lib.hid (fun W (hx : Keep (fun i => i = w.heap.size + 1 + 1 ∨ i = w.heap.size + 1 + 1 + 1) wf2 W) => (⟨(hx.block _ (heap_lt Df2.b2) (by omega)).trans Df2.b2, (hx.block _ (heap_lt Df2.b6) (by omega)).trans Df2.b6⟩ : W.heap[w.heap.size]? = some (.cells (filC V9 (swF F Q.ad 1 (fun _ => mskQ (wrdL F false Q.ad 0) Q.an Q.oo))) 29 (0, 0)) ∧ W.heap[w.heap.size + 1 + 1 + 1 + 1]? = some (.cells (telC zeroQV { zeroT with k := Q.k, ad := Q.ad, an := Q.an, oo := Q.oo }) 37 (0, 0))))
    have hs : Keep (fun i => i = w.heap.size + 1 + 1 ∨ i = w.heap.size + 1 + 1 + 1) wf2 wf2.drew := Keep.of_ext hd5
    refine wp_region_held_drew (S := fun W => Keep (fun i => i = w.heap.size + 1 + 1 ∨ i = w.heap.size + 1 + 1 + 1) wf2 W) (by kernel_rfl) hs (fun _ => ?_)
    refine wpAnyH_takeD (i := 0) (d := 185) rfl rfl (by kernel_rfl) (by kernel_rfl) (by kernel_rfl) (fun _ _ _ h => h) (yieldsIf_load_row (by rfl) 29 (.tmp 2) rfl (w.heap.size) rfl 29 _ (0, 0) _ (fun w' hw' => (HL.out _ hw').1) Tryz.underlying29 rfl (by kernel_rfl)) hs ?_
    simp only [Act.put, tkA, tkB, tkC]
    refine wpAnyH_takeD (i := 1) (d := 186) rfl rfl (by kernel_rfl) (by kernel_rfl) (by kernel_rfl) (fun _ _ _ h => h) (yieldsIf_load_row (by rfl) 37 (.tmp 6) rfl (w.heap.size + 1 + 1 + 1 + 1) rfl 37 _ (0, 0) _ (fun w' hw' => (HL.out _ hw').2) Tryz.underlying37 rfl (by kernel_rfl)) hs ?_
    simp only [Act.put, tkA, tkB, tkC]
    refine wpAnyH_ready (rs := [2]) (by kernel_rfl) (by simp) (AllReadyH.cons rfl (fun K hK => ?_) AllReadyH.nil)
    refine step_store_row rfl 29 (.tmp 4) (.tmp 185) rfl (w.heap.size + 1 + 1) _ rfl rfl 29 _ (hd5.block Df2.b4) (by kernel_rfl) rfl (by simp [filC, Value.oneCell']) rfl ?_
    refine hK.out _ _ ((Keep.of_ext hd5).trans (keep_row _ _ _) (fun i hi => .inl (.inl hi))) (fun hs => ?_)
    clear hK K
    simp only [Act.put]
    refine wpAnyH_ready (rs := [3]) (by kernel_rfl) (by simp) (AllReadyH.cons rfl (fun K hK => ?_) AllReadyH.nil)
    refine step_store_row rfl 37 (.tmp 5) (.tmp 186) rfl (w.heap.size + 1 + 1 + 1) _ rfl rfl 37 _ ((setRow_other _ _ _ _ (by omega)).trans (hd5.block Df2.b5)) (by kernel_rfl) rfl (by simp [telC, Value.oneCell']) rfl ?_
    refine hK.out _ _ (hs.trans (keep_row _ _ _) (fun i hi => .inl (.inr hi))) (fun hs => ?_)
    clear hK K
    simp only [Act.put]
    refine wpAnyH_done (by kernel_rfl) ?_ _
    go_wp2_with fail
    have DE := Df2.ext hd5
    obtain ⟨q1, q2, q3, q4, q5⟩ := do_told DE
    refine bodyPost_ret (results_rows _ _ (w.heap.size + 1 + 1) (w.heap.size + 1 + 1 + 1) 29 37 _ _ (0, 0) (0, 0) _ _ rfl rfl q4 Tryz.underlying29 rfl (by kernel_rfl) rfl q5 Tryz.underlying37 rfl (by kernel_rfl)) rfl ?_
    unfold Do17P
    rw [HD.out.1, HD.out.2]
    exact ⟨V9, zeroQV, rfl, q1, q2, q3⟩
  · go_simp
    go_at_call 43
    refine (KM.out _).mono ?_; rintro e Wm ⟨rfl, rfl⟩
    go_wp2_with fail
    refine hK.out _ _ hs (fun hs => ?_)
    clear hK K
    refine wpAnyH_ready (rs := [0, 13]) (by kernel_rfl) (by simp) (AllReadyH.cons rfl (fun K hK => ?_) (AllReadyH.cons rfl (fun K hK => ?_) AllReadyH.nil))
    · refine wp_load_row 29 (.tmp 2) rfl w.heap.size rfl 29 _ (0, 0) _ (he.block D2.b2) Tryz.underlying29 rfl (by kernel_rfl) ?_
      refine hK.out _ _ hs (fun hs => ?_)
      clear hK K
      simp only [Act.put, List.setIfInBounds_toArray]
      refine wpAnyH_ready (rs := [13]) (by kernel_rfl) (by simp) (AllReadyH.cons rfl (fun K hK => ?_) AllReadyH.nil)
      go_simp
      have he := he.trans (Ext.alloc _ (.cells #[.int .u16 (mskQ (wrdL F false Q.ad 0) Q.an Q.oo)] 59))
      have h1 := one_cell (mk := Value.int .u16) w8.drew (mskQ (wrdL F false Q.ad 0) Q.an Q.oo) 59
      refine hK.out _ _ (Keep.of_ext he) (fun hs => ?_)
      clear hK K
      refine wpAnyH_ready (rs := [14]) (by kernel_rfl) (by simp) (AllReadyH.cons rfl (fun K hK => ?_) AllReadyH.nil)
      go_simp
      go_at_call 42
      refine (KS.out _ _ (x8w.trans he) h1).mono ?_; rintro e W9 ⟨V9, rfl, hf9, x9, -⟩
      go_wp2_with fail
      have he := he.trans x9
      refine hK.out _ _ (Keep.of_ext he) (fun hs => ?_)
      clear hK K
      refine tkG 15 137 (.tuple #[.agg (filC V9 (swF F Q.ad 1 (fun _ => mskQ (wrdL F false Q.ad 0) Q.an Q.oo))), .int .i64 (swE F Q.ad 1)]) hs ?_
      simp only [Act.put, tkA, tkB, tkC]
      refine tkG 16 153 (.agg (filC V9 (swF F Q.ad 1 (fun _ => mskQ (wrdL F false Q.ad 0) Q.an Q.oo)))) hs ?_
      simp only [Act.put, tkA, tkB, tkC]
      refine tkG 17 154 (.int .i64 (swE F Q.ad 1)) hs ?_
      simp only [Act.put, tkA, tkB, tkC]
      refine wpAnyH_ready (rs := [18]) (by kernel_rfl) (by simp) (AllReadyH.cons rfl (fun K hK => ?_) AllReadyH.nil)
      refine step_store_row rfl 29 (.tmp 2) (.tmp 153) rfl w.heap.size _ rfl rfl 29 _ (he.block D2.b2) (by kernel_rfl) rfl (by simp [filC, Value.oneCell']) rfl ?_
      refine hK.out _ _ ((Keep.of_ext he).trans (keep_row _ _ _) (fun i hi => .inl hi)) (fun hs => ?_)
      clear hK K
      simp only [Act.put]
      refine wpAnyH_done (by kernel_rfl) ?_ _
      have D3 := (D2.ext he).setF hf9
      obtain ⟨w9, hw9⟩ : ∃ W, W = W9.setRow w.heap.size (filC V9 (swF F Q.ad 1 (fun _ => mskQ (wrdL F false Q.ad 0) Q.an Q.oo))) := ⟨_, rfl⟩
      rw [← hw9] at D3 ⊢
      clear hw9 D2 hf9 x9 he h1 hs
      go_upto_region 32 with fail
      have a0 : w9.cell? ⟨w.heap.size + 1, 1, none⟩ = some (.int .i64 Q.ad) := cell_of_heap D3.b3 rfl
      have p0 : w9.cell? ⟨w.heap.size + 1 + 1 + 1 + 1, 2, none⟩ = some (.int .i64 0) := cell_of_heap D3.b6 rfl
      have q0 : w9.frozen? ⟨w.heap.size + 1 + 1 + 1 + 1, 2, none⟩ = false := frozen0 D3.b6
      have Df0 := D3.setT (X' := zeroQV) (T' := { zeroT with k := Q.k, ad := Q.ad }) 2 (.int .i64 Q.ad) rfl (telnone_at _ rfl rfl)
      go_upto_region 33 with fail
      obtain ⟨wf0, hwf0⟩ : ∃ W, W = w9.setCell ⟨w.heap.size + 1 + 1 + 1 + 1, 2, none⟩ (.int .i64 Q.ad) := ⟨_, rfl⟩
      rw [← hwf0] at Df0 ⊢
      clear hwf0 a0 p0 q0 D3
      have a1 : wf0.cell? ⟨w.heap.size + 1, 4, none⟩ = some (.int .i64 Q.an) := cell_of_heap Df0.b3 rfl
      have p1 : wf0.cell? ⟨w.heap.size + 1 + 1 + 1 + 1, 5, none⟩ = some (.int .i64 0) := cell_of_heap Df0.b6 rfl
      have q1 : wf0.frozen? ⟨w.heap.size + 1 + 1 + 1 + 1, 5, none⟩ = false := frozen0 Df0.b6
      have Df1 := Df0.setT (X' := zeroQV) (T' := { zeroT with k := Q.k, ad := Q.ad, an := Q.an }) 5 (.int .i64 Q.an) rfl (telnone_at _ rfl rfl)
      go_upto_region 34 with fail
      obtain ⟨wf1, hwf1⟩ : ∃ W, W = wf0.setCell ⟨w.heap.size + 1 + 1 + 1 + 1, 5, none⟩ (.int .i64 Q.an) := ⟨_, rfl⟩
      rw [← hwf1] at Df1 ⊢
      clear hwf1 a1 p1 q1 Df0
      have a2 : wf1.cell? ⟨w.heap.size + 1, 5, none⟩ = some (.int .i64 Q.oo) := cell_of_heap Df1.b3 rfl
      have p2 : wf1.cell? ⟨w.heap.size + 1 + 1 + 1 + 1, 6, none⟩ = some (.int .i64 0) := cell_of_heap Df1.b6 rfl
      have q2 : wf1.frozen? ⟨w.heap.size + 1 + 1 + 1 + 1, 6, none⟩ = false := frozen0 Df1.b6
      have Df2 := Df1.setT (X' := zeroQV) (T' := { zeroT with k := Q.k, ad := Q.ad, an := Q.an, oo := Q.oo }) 6 (.int .i64 Q.oo) rfl (telnone_at _ rfl rfl)
      go_upto_region 38 with fail
      obtain ⟨wf2, hwf2⟩ : ∃ W, W = wf1.setCell ⟨w.heap.size + 1 + 1 + 1 + 1, 6, none⟩ (.int .i64 Q.oo) := ⟨_, rfl⟩
      rw [← hwf2] at Df2 ⊢
      clear hwf2 a2 p2 q2 Df1
      go_wp2_with fail
      have hd5 : Ext wf2 wf2.drew := Ext.drew _
      have HL := Lib.hid (fun W (hx : Keep (fun i => i = w.heap.size + 1 + 1 ∨ i = w.heap.size + 1 + 1 + 1) wf2 W) => (⟨(hx.block _ (heap_lt Df2.b2) (by omega)).trans Df2.b2, (hx.block _ (heap_lt Df2.b6) (by omega)).trans Df2.b6⟩ : W.heap[w.heap.size]? = some (.cells (filC V9 (swF F Q.ad 1 (fun _ => mskQ (wrdL F false Q.ad 0) Q.an Q.oo))) 29 (0, 0)) ∧ W.heap[w.heap.size + 1 + 1 + 1 + 1]? = some (.cells (telC zeroQV { zeroT with k := Q.k, ad := Q.ad, an := Q.an, oo := Q.oo }) 37 (0, 0))))
      have hs : Keep (fun i => i = w.heap.size + 1 + 1 ∨ i = w.heap.size + 1 + 1 + 1) wf2 wf2.drew := Keep.of_ext hd5
      refine wp_region_held_drew (S := fun W => Keep (fun i => i = w.heap.size + 1 + 1 ∨ i = w.heap.size + 1 + 1 + 1) wf2 W) (by kernel_rfl) hs (fun _ => ?_)
      refine wpAnyH_takeD (i := 0) (d := 185) rfl rfl (by kernel_rfl) (by kernel_rfl) (by kernel_rfl) (fun _ _ _ h => h) (yieldsIf_load_row (by rfl) 29 (.tmp 2) rfl (w.heap.size) rfl 29 _ (0, 0) _ (fun w' hw' => (HL.out _ hw').1) Tryz.underlying29 rfl (by kernel_rfl)) hs ?_
      simp only [Act.put, tkA, tkB, tkC]
      refine wpAnyH_takeD (i := 1) (d := 186) rfl rfl (by kernel_rfl) (by kernel_rfl) (by kernel_rfl) (fun _ _ _ h => h) (yieldsIf_load_row (by rfl) 37 (.tmp 6) rfl (w.heap.size + 1 + 1 + 1 + 1) rfl 37 _ (0, 0) _ (fun w' hw' => (HL.out _ hw').2) Tryz.underlying37 rfl (by kernel_rfl)) hs ?_
      simp only [Act.put, tkA, tkB, tkC]
      refine wpAnyH_ready (rs := [2]) (by kernel_rfl) (by simp) (AllReadyH.cons rfl (fun K hK => ?_) AllReadyH.nil)
      refine step_store_row rfl 29 (.tmp 4) (.tmp 185) rfl (w.heap.size + 1 + 1) _ rfl rfl 29 _ (hd5.block Df2.b4) (by kernel_rfl) rfl (by simp [filC, Value.oneCell']) rfl ?_
      refine hK.out _ _ ((Keep.of_ext hd5).trans (keep_row _ _ _) (fun i hi => .inl (.inl hi))) (fun hs => ?_)
      clear hK K
      simp only [Act.put]
      refine wpAnyH_ready (rs := [3]) (by kernel_rfl) (by simp) (AllReadyH.cons rfl (fun K hK => ?_) AllReadyH.nil)
      refine step_store_row rfl 37 (.tmp 5) (.tmp 186) rfl (w.heap.size + 1 + 1 + 1) _ rfl rfl 37 _ ((setRow_other _ _ _ _ (by omega)).trans (hd5.block Df2.b5)) (by kernel_rfl) rfl (by simp [telC, Value.oneCell']) rfl ?_
      refine hK.out _ _ (hs.trans (keep_row _ _ _) (fun i hi => .inl (.inr hi))) (fun hs => ?_)
      clear hK K
      simp only [Act.put]
      refine wpAnyH_done (by kernel_rfl) ?_ _
      go_wp2_with fail
      have DE := Df2.ext hd5
      obtain ⟨q1, q2, q3, q4, q5⟩ := do_told DE
      refine bodyPost_ret (results_rows _ _ (w.heap.size + 1 + 1) (w.heap.size + 1 + 1 + 1) 29 37 _ _ (0, 0) (0, 0) _ _ rfl rfl q4 Tryz.underlying29 rfl (by kernel_rfl) rfl q5 Tryz.underlying37 rfl (by kernel_rfl)) rfl ?_
      unfold Do17P
      rw [HD.out.1, HD.out.2]
      exact ⟨V9, zeroQV, rfl, q1, q2, q3⟩
    · go_simp
      have he := he.trans (Ext.alloc _ (.cells #[.int .u16 (mskQ (wrdL F false Q.ad 0) Q.an Q.oo)] 59))
      have h1 := one_cell (mk := Value.int .u16) w8.drew (mskQ (wrdL F false Q.ad 0) Q.an Q.oo) 59
      refine hK.out _ _ (Keep.of_ext he) (fun hs => ?_)
      clear hK K
      refine wpAnyH_ready (rs := [0]) (by kernel_rfl) (by simp) (AllReadyH.cons rfl (fun K hK => ?_) AllReadyH.nil)
      refine wp_load_row 29 (.tmp 2) rfl w.heap.size rfl 29 _ (0, 0) _ (he.block D2.b2) Tryz.underlying29 rfl (by kernel_rfl) ?_
      refine hK.out _ _ hs (fun hs => ?_)
      clear hK K
      simp only [Act.put, List.setIfInBounds_toArray]
      refine wpAnyH_ready (rs := [14]) (by kernel_rfl) (by simp) (AllReadyH.cons rfl (fun K hK => ?_) AllReadyH.nil)
      go_simp
      go_at_call 42
      refine (KS.out _ _ (x8w.trans he) h1).mono ?_; rintro e W9 ⟨V9, rfl, hf9, x9, -⟩
      go_wp2_with fail
      have he := he.trans x9
      refine hK.out _ _ (Keep.of_ext he) (fun hs => ?_)
      clear hK K
      refine tkG 15 137 (.tuple #[.agg (filC V9 (swF F Q.ad 1 (fun _ => mskQ (wrdL F false Q.ad 0) Q.an Q.oo))), .int .i64 (swE F Q.ad 1)]) hs ?_
      simp only [Act.put, tkA, tkB, tkC]
      refine tkG 16 153 (.agg (filC V9 (swF F Q.ad 1 (fun _ => mskQ (wrdL F false Q.ad 0) Q.an Q.oo)))) hs ?_
      simp only [Act.put, tkA, tkB, tkC]
      refine tkG 17 154 (.int .i64 (swE F Q.ad 1)) hs ?_
      simp only [Act.put, tkA, tkB, tkC]
      refine wpAnyH_ready (rs := [18]) (by kernel_rfl) (by simp) (AllReadyH.cons rfl (fun K hK => ?_) AllReadyH.nil)
      refine step_store_row rfl 29 (.tmp 2) (.tmp 153) rfl w.heap.size _ rfl rfl 29 _ (he.block D2.b2) (by kernel_rfl) rfl (by simp [filC, Value.oneCell']) rfl ?_
      refine hK.out _ _ ((Keep.of_ext he).trans (keep_row _ _ _) (fun i hi => .inl hi)) (fun hs => ?_)
      clear hK K
      simp only [Act.put]
      refine wpAnyH_done (by kernel_rfl) ?_ _
      have D3 := (D2.ext he).setF hf9
      obtain ⟨w9, hw9⟩ : ∃ W, W = W9.setRow w.heap.size (filC V9 (swF F Q.ad 1 (fun _ => mskQ (wrdL F false Q.ad 0) Q.an Q.oo))) := ⟨_, rfl⟩
      rw [← hw9] at D3 ⊢
      clear hw9 D2 hf9 x9 he h1 hs
      go_upto_region 32 with fail
      have a0 : w9.cell? ⟨w.heap.size + 1, 1, none⟩ = some (.int .i64 Q.ad) := cell_of_heap D3.b3 rfl
      have p0 : w9.cell? ⟨w.heap.size + 1 + 1 + 1 + 1, 2, none⟩ = some (.int .i64 0) := cell_of_heap D3.b6 rfl
      have q0 : w9.frozen? ⟨w.heap.size + 1 + 1 + 1 + 1, 2, none⟩ = false := frozen0 D3.b6
      have Df0 := D3.setT (X' := zeroQV) (T' := { zeroT with k := Q.k, ad := Q.ad }) 2 (.int .i64 Q.ad) rfl (telnone_at _ rfl rfl)
      go_upto_region 33 with fail
      obtain ⟨wf0, hwf0⟩ : ∃ W, W = w9.setCell ⟨w.heap.size + 1 + 1 + 1 + 1, 2, none⟩ (.int .i64 Q.ad) := ⟨_, rfl⟩
      rw [← hwf0] at Df0 ⊢
      clear hwf0 a0 p0 q0 D3
      have a1 : wf0.cell? ⟨w.heap.size + 1, 4, none⟩ = some (.int .i64 Q.an) := cell_of_heap Df0.b3 rfl
      have p1 : wf0.cell? ⟨w.heap.size + 1 + 1 + 1 + 1, 5, none⟩ = some (.int .i64 0) := cell_of_heap Df0.b6 rfl
      have q1 : wf0.frozen? ⟨w.heap.size + 1 + 1 + 1 + 1, 5, none⟩ = false := frozen0 Df0.b6
      have Df1 := Df0.setT (X' := zeroQV) (T' := { zeroT with k := Q.k, ad := Q.ad, an := Q.an }) 5 (.int .i64 Q.an) rfl (telnone_at _ rfl rfl)
      go_upto_region 34 with fail
      obtain ⟨wf1, hwf1⟩ : ∃ W, W = wf0.setCell ⟨w.heap.size + 1 + 1 + 1 + 1, 5, none⟩ (.int .i64 Q.an) := ⟨_, rfl⟩
      rw [← hwf1] at Df1 ⊢
      clear hwf1 a1 p1 q1 Df0
      have a2 : wf1.cell? ⟨w.heap.size + 1, 5, none⟩ = some (.int .i64 Q.oo) := cell_of_heap Df1.b3 rfl
      have p2 : wf1.cell? ⟨w.heap.size + 1 + 1 + 1 + 1, 6, none⟩ = some (.int .i64 0) := cell_of_heap Df1.b6 rfl
      have q2 : wf1.frozen? ⟨w.heap.size + 1 + 1 + 1 + 1, 6, none⟩ = false := frozen0 Df1.b6
      have Df2 := Df1.setT (X' := zeroQV) (T' := { zeroT with k := Q.k, ad := Q.ad, an := Q.an, oo := Q.oo }) 6 (.int .i64 Q.oo) rfl (telnone_at _ rfl rfl)
      go_upto_region 38 with fail
      obtain ⟨wf2, hwf2⟩ : ∃ W, W = wf1.setCell ⟨w.heap.size + 1 + 1 + 1 + 1, 6, none⟩ (.int .i64 Q.oo) := ⟨_, rfl⟩
      rw [← hwf2] at Df2 ⊢
      clear hwf2 a2 p2 q2 Df1
      go_wp2_with fail
      have hd5 : Ext wf2 wf2.drew := Ext.drew _
      have HL := Lib.hid (fun W (hx : Keep (fun i => i = w.heap.size + 1 + 1 ∨ i = w.heap.size + 1 + 1 + 1) wf2 W) => (⟨(hx.block _ (heap_lt Df2.b2) (by omega)).trans Df2.b2, (hx.block _ (heap_lt Df2.b6) (by omega)).trans Df2.b6⟩ : W.heap[w.heap.size]? = some (.cells (filC V9 (swF F Q.ad 1 (fun _ => mskQ (wrdL F false Q.ad 0) Q.an Q.oo))) 29 (0, 0)) ∧ W.heap[w.heap.size + 1 + 1 + 1 + 1]? = some (.cells (telC zeroQV { zeroT with k := Q.k, ad := Q.ad, an := Q.an, oo := Q.oo }) 37 (0, 0))))
      have hs : Keep (fun i => i = w.heap.size + 1 + 1 ∨ i = w.heap.size + 1 + 1 + 1) wf2 wf2.drew := Keep.of_ext hd5
      refine wp_region_held_drew (S := fun W => Keep (fun i => i = w.heap.size + 1 + 1 ∨ i = w.heap.size + 1 + 1 + 1) wf2 W) (by kernel_rfl) hs (fun _ => ?_)
      refine wpAnyH_takeD (i := 0) (d := 185) rfl rfl (by kernel_rfl) (by kernel_rfl) (by kernel_rfl) (fun _ _ _ h => h) (yieldsIf_load_row (by rfl) 29 (.tmp 2) rfl (w.heap.size) rfl 29 _ (0, 0) _ (fun w' hw' => (HL.out _ hw').1) Tryz.underlying29 rfl (by kernel_rfl)) hs ?_
      simp only [Act.put, tkA, tkB, tkC]
      refine wpAnyH_takeD (i := 1) (d := 186) rfl rfl (by kernel_rfl) (by kernel_rfl) (by kernel_rfl) (fun _ _ _ h => h) (yieldsIf_load_row (by rfl) 37 (.tmp 6) rfl (w.heap.size + 1 + 1 + 1 + 1) rfl 37 _ (0, 0) _ (fun w' hw' => (HL.out _ hw').2) Tryz.underlying37 rfl (by kernel_rfl)) hs ?_
      simp only [Act.put, tkA, tkB, tkC]
      refine wpAnyH_ready (rs := [2]) (by kernel_rfl) (by simp) (AllReadyH.cons rfl (fun K hK => ?_) AllReadyH.nil)
      refine step_store_row rfl 29 (.tmp 4) (.tmp 185) rfl (w.heap.size + 1 + 1) _ rfl rfl 29 _ (hd5.block Df2.b4) (by kernel_rfl) rfl (by simp [filC, Value.oneCell']) rfl ?_
      refine hK.out _ _ ((Keep.of_ext hd5).trans (keep_row _ _ _) (fun i hi => .inl (.inl hi))) (fun hs => ?_)
      clear hK K
      simp only [Act.put]
      refine wpAnyH_ready (rs := [3]) (by kernel_rfl) (by simp) (AllReadyH.cons rfl (fun K hK => ?_) AllReadyH.nil)
      refine step_store_row rfl 37 (.tmp 5) (.tmp 186) rfl (w.heap.size + 1 + 1 + 1) _ rfl rfl 37 _ ((setRow_other _ _ _ _ (by omega)).trans (hd5.block Df2.b5)) (by kernel_rfl) rfl (by simp [telC, Value.oneCell']) rfl ?_
      refine hK.out _ _ (hs.trans (keep_row _ _ _) (fun i hi => .inl (.inr hi))) (fun hs => ?_)
      clear hK K
      simp only [Act.put]
      refine wpAnyH_done (by kernel_rfl) ?_ _
      go_wp2_with fail
      have DE := Df2.ext hd5
      obtain ⟨q1, q2, q3, q4, q5⟩ := do_told DE
      refine bodyPost_ret (results_rows _ _ (w.heap.size + 1 + 1) (w.heap.size + 1 + 1 + 1) 29 37 _ _ (0, 0) (0, 0) _ _ rfl rfl q4 Tryz.underlying29 rfl (by kernel_rfl) rfl q5 Tryz.underlying37 rfl (by kernel_rfl)) rfl ?_
      unfold Do17P
      rw [HD.out.1, HD.out.2]
      exact ⟨V9, zeroQV, rfl, q1, q2, q3⟩

theorem rdo17_any (V : FilV) (F : Fil) (U : QstV) (Q : Qst) (w : World) (hF : FilAt w V F) (hQ : QstAt w U Q) (hW : QstW Q) (hFW : FilW F) (hq : rightQ Q = true) (hr : rightB F = true) : Calls Tryz.prog 19 #[.agg (filC V F), .agg (qstC U Q)] w (Do17P F Q w) := by
  by_cases h0 : datE F Q = 0
  · rcases (ask_facts hq).kn with h | h | h | h | h | h | h | h | h | h
    · exact rdo17_1 V F U Q w hF hQ hW hFW hq hr h0 h
    · exact rdo17_2 V F U Q w hF hQ hW hFW hq hr h0 h
    · exact rdo17_3 V F U Q w hF hQ hW hFW hq hr h0 h
    · exact rdo17_4 V F U Q w hF hQ hW hFW hq hr h0 h
    · exact rdo17_5 V F U Q w hF hQ hW hFW hq hr h0 h
    · exact rdo17_6 V F U Q w hF hQ hW hFW hq hr h0 h
    · exact rdo17_15 V F U Q w hF hQ hW hFW hq hr h0 h
    · exact rdo17_16 V F U Q w hF hQ hW hFW hq hr h0 h
    · exact rdo17_22 V F U Q w hF hQ hW hFW hq hr h0 h
    · exact rdo17_23 V F U Q w hF hQ hW hFW hq hr h0 h
  · exact rdo17_no V F U Q w hF hQ hW hFW hq hr h0
end Go.Proofs.YtlafnobjfajamaaGreat
namespace Go.Proofs.YtlafnobjfajamaaGreat
open Go.RowKit
set_option linter.unusedVariables false
set_option maxRecDepth 100000

set_option maxHeartbeats 4000000 in
theorem rsame16_any (V : QstV) (F : Tel) (U : QstV) (G : Tel) (w : World) (h : TelAt w V F) (k : TelAt w U G) (f1 : F.nb ≤ 1000000) (f2 : F.nr ≤ 1000000) (g1 : G.nb ≤ 1000000) (g2 : G.nr ≤ 1000000) :
    Calls Tryz.prog 18 #[.agg (telC V F), .agg (telC U G)] w fun e w' => e = .returned (.bool (sameT F G)) ∧ Ext w w' := by
  have e0 := (Ext.alloc w (.cells (telC V F) 37)).trans (Ext.alloc _ (.cells (telC U G) 37))
  have K1 := Lib.hid (fun w' (hx : Ext w w') => (same_any V.a1 U.a1 F.nb G.nb V.d1 U.d1 F.B G.B w' (h.h1.ext hx) (k.h1.ext hx) f1 g1).mono fun _ _ h => (⟨h.1, Ext.of_drewN h.2⟩ : _ ∧ Ext w' _))
  have K2 := Lib.hid (fun w' (hx : Ext w w') => (words_any V.a2 U.a2 F.nr G.nr V.d2 U.d2 F.R G.R w' (h.h2.ext hx) (k.h2.ext hx) f2 g2).mono fun _ _ h => (⟨h.1, Ext.of_drewN h.2⟩ : _ ∧ Ext w' _))
  have HX := Lib.hid (fun w1 (x1 : Ext ((w.alloc (.cells (telC V F) 37)).alloc (.cells (telC U G) 37)) w1) => (⟨x1.block ((heap_alloc_old _ _ (by simp)).trans (heap_alloc_new w _)), x1.block (heap_new_at _ _ (by simp))⟩ : w1.heap[w.heap.size]? = some (.cells (telC V F) 37 (0, 0)) ∧ w1.heap[w.heap.size + 1]? = some (.cells (telC U G) 37 (0, 0))))
  have HN := Lib.hid (numsT_iff F G)
  unfold sameT
  generalize eqG F.nb G.nb F.B G.B = B1 at K1 ⊢
  generalize eqB F.nr G.nr F.R G.R = B2 at K2 ⊢
  generalize numsT F G = D at HN ⊢
  clear h k f1 f2 g1 g2
  obtain ⟨fk, fcd, fad, fct, fva, fan, foo, fnb, fB, fnr, fR⟩ := F
  obtain ⟨gk, gcd, gad, gct, gva, gan, goo, gnb, gB, gnr, gR⟩ := G
  obtain ⟨a1, d1, a2, d2⟩ := V
  obtain ⟨b1, c1, b2, c2⟩ := U
  unfold telC at e0 HX ⊢
  simp only at e0 HX HN K1 K2 ⊢
  cases hD : D with
  | false =>
    rw [hD] at HN
    clear K1 K2 HX
    have hno : ¬ (fk = gk ∧ fcd = gcd ∧ fad = gad ∧ fct = gct ∧ fva = gva ∧ fan = gan ∧ foo = goo) := fun h => by have := HN.out.2 h; cases this
    have HNo := Lib.hid hno
    clear hno HN hD
    rw [Bool.false_and, Bool.false_and]
    go_enter Tryz.func18, Tryz.ntmps18
    by_cases h0 : fk = gk
    · subst h0
      by_cases h1 : fcd = gcd
      · subst h1
        by_cases h2 : fad = gad
        · subst h2
          by_cases h3 : fct = gct
          · subst h3
            by_cases h4 : fva = gva
            · subst h4
              by_cases h5 : fan = gan
              · subst h5
                by_cases h6 : foo = goo
                · subst h6
                  exact absurd ⟨rfl, rfl, rfl, rfl, rfl, rfl, rfl⟩ HNo.out
                · have hb6 : (foo == goo) = false := by simp [h6]
                  clear HNo
                  go_wp2
                  go_ret
                  exact ⟨rfl, e0⟩
              · have hb5 : (fan == gan) = false := by simp [h5]
                clear HNo
                go_wp2
                go_ret
                exact ⟨rfl, e0⟩
            · have hb4 : (fva == gva) = false := by simp [h4]
              clear HNo
              go_wp2
              go_ret
              exact ⟨rfl, e0⟩
          · have hb3 : (fct == gct) = false := by simp [h3]
            clear HNo
            go_wp2
            go_ret
            exact ⟨rfl, e0⟩
        · have hb2 : (fad == gad) = false := by simp [h2]
          clear HNo
          go_wp2
          go_ret
          exact ⟨rfl, e0⟩
      · have hb1 : (fcd == gcd) = false := by simp [h1]
        clear HNo
        go_wp2
        go_ret
        exact ⟨rfl, e0⟩
    · have hb0 : (fk == gk) = false := by simp [h0]
      clear HNo
      go_wp2
      go_ret
      exact ⟨rfl, e0⟩
  | true =>
    rw [hD] at HN
    obtain ⟨rfl, rfl, rfl, rfl, rfl, rfl, rfl⟩ := HN.out.1 rfl
    clear HN hD
    rw [Bool.true_and]
    cases B1 with
    | false =>
      rw [Bool.false_and]
      go_enter Tryz.func18, Tryz.ntmps18
      go_wp2_with fail
      refine (K1.out _ e0).mono ?_; rintro e w1 ⟨rfl, x1⟩
      have e1 := e0.trans x1
      clear e0 x1
      go_wp2
      go_ret
      exact ⟨rfl, e1⟩
    | true =>
      rw [Bool.true_and]
      go_enter Tryz.func18, Tryz.ntmps18
      go_wp2_with fail
      refine (K1.out _ e0).mono ?_; rintro e w1 ⟨rfl, x1⟩
      have e1 := e0.trans x1
      obtain ⟨gF, gG⟩ := HX.out _ x1
      have p1 := cell_of_heap (j := 8) gF rfl; have q1 := cell_of_heap (j := 8) gG rfl
      clear e0 x1 gF gG
      go_wp2_with fail
      refine (K2.out _ e1).mono ?_; rintro e w2 ⟨rfl, x2⟩
      have e2 := e1.trans x2
      clear e1 x2 p1 q1
      go_wp2
      go_ret
      exact ⟨rfl, e2⟩

set_option maxHeartbeats 8000000 in
theorem rwhole16_any (V : QstV) (Q : Qst) (X : QstV) (nb : Nat) (B : Nat → Bool) (nr : Nat) (R : Nat → Int) (w : World) : Calls Tryz.prog 52 #[.agg (qstC V Q), .slice X.a1 nb X.d1, .slice X.a2 nr X.d2] w fun e w' => e = .returned (.agg (telC (wholeV Q X) (wholeT Q nb B nr R))) ∧ Ext w w' := by
  unfold wholeV wholeT
  obtain ⟨k, ad, ct, va, an, oo, fr, mn, qb, qB, qr, qR⟩ := Q
  obtain ⟨a1, d1, a2, d2⟩ := V
  obtain ⟨x1, e1, x2, e2⟩ := X
  simp only
  by_cases h1 : k = 1
  · subst h1
    simp (config := { decide := true }) only [if_true, if_false]
    unfold qstC telC
    dsimp only [zeroT, zeroQV]
    go_enter Tryz.func52, Tryz.ntmps52
    go_wp2
    refine bodyPost_ret (results_cell_row rfl _ _ (w.heap.size + 1) 37 _ (0, 0) _ rfl ((heap_alloc_old _ _ (by simp)).trans (heap_new_at _ _ (by simp))) Tryz.underlying37 rfl (by kernel_rfl)) rfl ⟨by rfl, ((Ext.alloc w _).trans (Ext.alloc _ _)).trans (Ext.alloc _ _)⟩
  by_cases h2 : k = 2
  · subst h2
    simp (config := { decide := true }) only [if_true, if_false]
    unfold qstC telC
    dsimp only [zeroT, zeroQV]
    go_enter Tryz.func52, Tryz.ntmps52
    go_wp2
    refine bodyPost_ret (results_cell_row rfl _ _ (w.heap.size + 1) 37 _ (0, 0) _ rfl ((heap_alloc_old _ _ (by simp)).trans (heap_new_at _ _ (by simp))) Tryz.underlying37 rfl (by kernel_rfl)) rfl ⟨by rfl, ((Ext.alloc w _).trans (Ext.alloc _ _)).trans (Ext.alloc _ _)⟩
  by_cases h3 : k = 3
  · subst h3
    simp (config := { decide := true }) only [if_true, if_false]
    unfold qstC telC
    dsimp only [zeroT, zeroQV]
    go_enter Tryz.func52, Tryz.ntmps52
    go_wp2
    refine bodyPost_ret (results_cell_row rfl _ _ (w.heap.size + 1) 37 _ (0, 0) _ rfl ((heap_alloc_old _ _ (by simp)).trans (heap_new_at _ _ (by simp))) Tryz.underlying37 rfl (by kernel_rfl)) rfl ⟨by rfl, ((Ext.alloc w _).trans (Ext.alloc _ _)).trans (Ext.alloc _ _)⟩
  by_cases h4 : k = 4
  · subst h4
    simp (config := { decide := true }) only [if_true, if_false]
    unfold qstC telC
    dsimp only [zeroT, zeroQV]
    go_enter Tryz.func52, Tryz.ntmps52
    go_wp2
    refine bodyPost_ret (results_cell_row rfl _ _ (w.heap.size + 1) 37 _ (0, 0) _ rfl ((heap_alloc_old _ _ (by simp)).trans (heap_new_at _ _ (by simp))) Tryz.underlying37 rfl (by kernel_rfl)) rfl ⟨by rfl, ((Ext.alloc w _).trans (Ext.alloc _ _)).trans (Ext.alloc _ _)⟩
  by_cases h5 : k = 5
  · subst h5
    simp (config := { decide := true }) only [if_true, if_false]
    unfold qstC telC
    dsimp only [zeroT, zeroQV]
    go_enter Tryz.func52, Tryz.ntmps52
    go_wp2
    refine bodyPost_ret (results_cell_row rfl _ _ (w.heap.size + 1) 37 _ (0, 0) _ rfl ((heap_alloc_old _ _ (by simp)).trans (heap_new_at _ _ (by simp))) Tryz.underlying37 rfl (by kernel_rfl)) rfl ⟨by rfl, ((Ext.alloc w _).trans (Ext.alloc _ _)).trans (Ext.alloc _ _)⟩
  by_cases h6 : k = 6
  · subst h6
    simp (config := { decide := true }) only [if_true, if_false]
    unfold qstC telC
    dsimp only [zeroT, zeroQV]
    go_enter Tryz.func52, Tryz.ntmps52
    go_wp2
    refine bodyPost_ret (results_cell_row rfl _ _ (w.heap.size + 1) 37 _ (0, 0) _ rfl ((heap_alloc_old _ _ (by simp)).trans (heap_new_at _ _ (by simp))) Tryz.underlying37 rfl (by kernel_rfl)) rfl ⟨by rfl, ((Ext.alloc w _).trans (Ext.alloc _ _)).trans (Ext.alloc _ _)⟩
  by_cases h15 : k = 15
  · subst h15
    simp (config := { decide := true }) only [if_true, if_false]
    unfold qstC telC
    dsimp only [zeroT, zeroQV]
    go_enter Tryz.func52, Tryz.ntmps52
    go_wp2
    refine bodyPost_ret (results_cell_row rfl _ _ (w.heap.size + 1) 37 _ (0, 0) _ rfl ((heap_alloc_old _ _ (by simp)).trans (heap_new_at _ _ (by simp))) Tryz.underlying37 rfl (by kernel_rfl)) rfl ⟨by rfl, ((Ext.alloc w _).trans (Ext.alloc _ _)).trans (Ext.alloc _ _)⟩
  by_cases h16 : k = 16
  · subst h16
    simp (config := { decide := true }) only [if_true, if_false]
    unfold qstC telC
    dsimp only [zeroT, zeroQV]
    go_enter Tryz.func52, Tryz.ntmps52
    go_wp2
    refine bodyPost_ret (results_cell_row rfl _ _ (w.heap.size + 1) 37 _ (0, 0) _ rfl ((heap_alloc_old _ _ (by simp)).trans (heap_new_at _ _ (by simp))) Tryz.underlying37 rfl (by kernel_rfl)) rfl ⟨by rfl, ((Ext.alloc w _).trans (Ext.alloc _ _)).trans (Ext.alloc _ _)⟩
  by_cases h22 : k = 22
  · subst h22
    simp (config := { decide := true }) only [if_true, if_false]
    unfold qstC telC
    dsimp only [zeroT, zeroQV]
    go_enter Tryz.func52, Tryz.ntmps52
    go_wp2
    refine bodyPost_ret (results_cell_row rfl _ _ (w.heap.size + 1) 37 _ (0, 0) _ rfl ((heap_alloc_old _ _ (by simp)).trans (heap_new_at _ _ (by simp))) Tryz.underlying37 rfl (by kernel_rfl)) rfl ⟨by rfl, ((Ext.alloc w _).trans (Ext.alloc _ _)).trans (Ext.alloc _ _)⟩
  by_cases h23 : k = 23
  · subst h23
    simp (config := { decide := true }) only [if_true, if_false]
    unfold qstC telC
    dsimp only [zeroT, zeroQV]
    go_enter Tryz.func52, Tryz.ntmps52
    go_wp2
    refine bodyPost_ret (results_cell_row rfl _ _ (w.heap.size + 1) 37 _ (0, 0) _ rfl ((heap_alloc_old _ _ (by simp)).trans (heap_new_at _ _ (by simp))) Tryz.underlying37 rfl (by kernel_rfl)) rfl ⟨by rfl, ((Ext.alloc w _).trans (Ext.alloc _ _)).trans (Ext.alloc _ _)⟩
  rw [if_neg (by omega), if_neg (by omega), if_neg (by omega), if_neg (by omega), if_neg (by omega), if_neg (by omega), if_neg (by omega)]
  unfold qstC telC
  dsimp only [zeroT, zeroQV]
  go_enter Tryz.func52, Tryz.ntmps52
  go_wp2
  refine bodyPost_ret (results_cell_row rfl _ _ (w.heap.size + 1) 37 _ (0, 0) _ rfl ((heap_alloc_old _ _ (by simp)).trans (heap_new_at _ _ (by simp))) Tryz.underlying37 rfl (by kernel_rfl)) rfl ⟨by rfl, ((Ext.alloc w _).trans (Ext.alloc _ _)).trans (Ext.alloc _ _)⟩

end Go.Proofs.YtlafnobjfajamaaGreat
namespace Go.Proofs.YtlafnobjfajamaaGreat
open Go.RowKit
set_option linter.unusedVariables false
set_option maxRecDepth 100000

/-- What answers an ask that is not refused, each cell 0; the numbers that it says again. -/
def replT (Q : Qst) : Tel := wholeT Q Q.ct.toNat (fun _ => false) (if Q.k = 23 then Q.mn.toNat else Q.ct.toNat) (fun _ => 0)
def agN (Q : Qst) : Nat := if Q.k = 5 ∨ Q.k = 6 ∨ Q.k = 15 ∨ Q.k = 16 then 2 else if Q.k = 22 then 3 else 0
def agF (Q : Qst) : Nat → Int := tnumF (replT Q)
def repC (V : QstV) (T : Tel) (a : Option Addr) (n c : Nat) : Array Value := #[.int .i64 T.k, .int .i64 T.cd, .int .i64 T.ad, .int .i64 T.ct, .int .i64 T.va, .int .i64 T.an, .int .i64 T.oo, .slice V.a1 T.nb V.d1, .slice V.a2 T.nr V.d2, .slice a n c]
structure RepP (Q : Qst) (w : World) (e : Ending) (w' : World) : Prop where
  go : ∃ X b q, e = .returned (.agg (repC X (replT Q) b (agN Q) q)) ∧ TelAt w' X (replT Q) ∧ HoldsG (Value.int .i64) w' b (agN Q) (agF Q) ∧ agN Q ≤ q ∧ q ≤ maxLen ∧ Fresh w b
  x : Ext w w'
theorem frozenT {w : World} {B j : Nat} {cs : Array Value} {t : TypeId} (h : w.heap[B]? = some (.cells cs t (0, 0))) : w.frozen? ⟨B, j, none⟩ = false := by simp [World.frozen?, h]
theorem row_held {W : World} {g m : Nat} {cs : Array Value} {t : TypeId} {f : Nat → Int} (hg : W.heap[g]? = some (.cells cs t (0, 0))) (h : ∀ i, i < m → cs[i]? = some (.int .i64 (f i))) : HoldsG (Value.int .i64) W (some ⟨g, 0, none⟩) m f :=
  .inr ⟨g, 0, rfl, heap_lt hg, fun i hi => by rw [Nat.zero_add]; exact cell_of_heap hg (h i hi)⟩

set_option maxHeartbeats 2000000 in
theorem reply_5 (V : QstV) (Q : Qst) (w : World) (hk : Q.k = 5) : Calls Tryz.prog 87 #[.agg (qstC V Q)] w (RepP Q w) := by
  obtain ⟨k, ad, ct, va, an, oo, fr, mn, qb, qB, qr, qR⟩ := Q
  obtain ⟨a1, d1, a2, d2⟩ := V
  simp only at hk
  subst hk
  have hT : replT ⟨5, ad, ct, va, an, oo, fr, mn, qb, qB, qr, qR⟩ = { zeroT with k := 5, ad := ad, va := va } := by unfold replT wholeT; simp (config := { decide := true })
  have hN : agN ⟨5, ad, ct, va, an, oo, fr, mn, qb, qB, qr, qR⟩ = 2 := by unfold agN; simp (config := { decide := true })
  have hF : agF ⟨5, ad, ct, va, an, oo, fr, mn, qb, qB, qr, qR⟩ = (fun i => if i = 0 then ad else va : Nat → Int) := by unfold agF; rw [hT]; unfold tnumF zeroT; funext i; simp (config := { decide := true })
  have H := Lib.hid (And.intro hT (And.intro hN hF))
  clear hT hN hF
  unfold qstC
  dsimp only
  go_enter Tryz.func87, Tryz.ntmps87
  go_upto_region 17 with fail
  go_region
  go_wp2
  refine bodyPost_ret (results_cell_row rfl _ _ (w.heap.size + 1) 131 _ (0, 0) _ rfl ((heap_alloc_old _ _ (by simp)).trans ((heap_alloc_old _ _ (by simp)).trans (heap_new_at _ _ (by simp)))) Tryz.underlying131 rfl (by kernel_rfl)) rfl ?_
  obtain ⟨hT, hN, hF⟩ := H.out
  refine ⟨⟨zeroQV, some ⟨w.heap.size + 1 + 1 + 1, 0, none⟩, 2, ?_, ?_, ?_, ?_, ?_, ?_⟩, ?_⟩
  · rw [hT, hN]; rfl
  · rw [hT]; exact telnone_at _ rfl rfl
  · rw [hN, hF]
    refine row_held (t := 3) (cs := #[.int .i64 ad, .int .i64 va]) (heap_new_at _ _ (by simp)) (fun i hi => ?_)
    have h : i = 0 ∨ i = 1 := by omega
    rcases h with rfl | rfl <;> rfl
  · rw [hN]; exact Nat.le_refl _
  · unfold maxLen; omega
  · intro p hp; cases hp; exact Nat.le_trans (Nat.le_succ _) (Nat.le_trans (Nat.le_succ _) (Nat.le_succ _))
  · exact ((((Ext.alloc w _).trans (Ext.alloc _ _)).trans (Ext.alloc _ _)).trans (Ext.alloc _ _)).trans (Ext.drew _)
set_option maxHeartbeats 2000000 in
theorem reply_6 (V : QstV) (Q : Qst) (w : World) (hk : Q.k = 6) : Calls Tryz.prog 87 #[.agg (qstC V Q)] w (RepP Q w) := by
  obtain ⟨k, ad, ct, va, an, oo, fr, mn, qb, qB, qr, qR⟩ := Q
  obtain ⟨a1, d1, a2, d2⟩ := V
  simp only at hk
  subst hk
  have hT : replT ⟨6, ad, ct, va, an, oo, fr, mn, qb, qB, qr, qR⟩ = { zeroT with k := 6, ad := ad, va := va } := by unfold replT wholeT; simp (config := { decide := true })
  have hN : agN ⟨6, ad, ct, va, an, oo, fr, mn, qb, qB, qr, qR⟩ = 2 := by unfold agN; simp (config := { decide := true })
  have hF : agF ⟨6, ad, ct, va, an, oo, fr, mn, qb, qB, qr, qR⟩ = (fun i => if i = 0 then ad else va : Nat → Int) := by unfold agF; rw [hT]; unfold tnumF zeroT; funext i; simp (config := { decide := true })
  have H := Lib.hid (And.intro hT (And.intro hN hF))
  clear hT hN hF
  unfold qstC
  dsimp only
  go_enter Tryz.func87, Tryz.ntmps87
  go_upto_region 17 with fail
  go_region
  go_wp2
  refine bodyPost_ret (results_cell_row rfl _ _ (w.heap.size + 1) 131 _ (0, 0) _ rfl ((heap_alloc_old _ _ (by simp)).trans ((heap_alloc_old _ _ (by simp)).trans (heap_new_at _ _ (by simp)))) Tryz.underlying131 rfl (by kernel_rfl)) rfl ?_
  obtain ⟨hT, hN, hF⟩ := H.out
  refine ⟨⟨zeroQV, some ⟨w.heap.size + 1 + 1 + 1, 0, none⟩, 2, ?_, ?_, ?_, ?_, ?_, ?_⟩, ?_⟩
  · rw [hT, hN]; rfl
  · rw [hT]; exact telnone_at _ rfl rfl
  · rw [hN, hF]
    refine row_held (t := 3) (cs := #[.int .i64 ad, .int .i64 va]) (heap_new_at _ _ (by simp)) (fun i hi => ?_)
    have h : i = 0 ∨ i = 1 := by omega
    rcases h with rfl | rfl <;> rfl
  · rw [hN]; exact Nat.le_refl _
  · unfold maxLen; omega
  · intro p hp; cases hp; exact Nat.le_trans (Nat.le_succ _) (Nat.le_trans (Nat.le_succ _) (Nat.le_succ _))
  · exact ((((Ext.alloc w _).trans (Ext.alloc _ _)).trans (Ext.alloc _ _)).trans (Ext.alloc _ _)).trans (Ext.drew _)
set_option maxHeartbeats 2000000 in
theorem reply_15 (V : QstV) (Q : Qst) (w : World) (hk : Q.k = 15) : Calls Tryz.prog 87 #[.agg (qstC V Q)] w (RepP Q w) := by
  obtain ⟨k, ad, ct, va, an, oo, fr, mn, qb, qB, qr, qR⟩ := Q
  obtain ⟨a1, d1, a2, d2⟩ := V
  simp only at hk
  subst hk
  have hT : replT ⟨15, ad, ct, va, an, oo, fr, mn, qb, qB, qr, qR⟩ = { zeroT with k := 15, ad := ad, ct := ct } := by unfold replT wholeT; simp (config := { decide := true })
  have hN : agN ⟨15, ad, ct, va, an, oo, fr, mn, qb, qB, qr, qR⟩ = 2 := by unfold agN; simp (config := { decide := true })
  have hF : agF ⟨15, ad, ct, va, an, oo, fr, mn, qb, qB, qr, qR⟩ = (fun i => if i = 0 then ad else ct : Nat → Int) := by unfold agF; rw [hT]; unfold tnumF zeroT; funext i; simp (config := { decide := true })
  have H := Lib.hid (And.intro hT (And.intro hN hF))
  clear hT hN hF
  unfold qstC
  dsimp only
  go_enter Tryz.func87, Tryz.ntmps87
  go_upto_region 19 with fail
  go_region
  go_wp2
  refine bodyPost_ret (results_cell_row rfl _ _ (w.heap.size + 1) 131 _ (0, 0) _ rfl ((heap_alloc_old _ _ (by simp)).trans ((heap_alloc_old _ _ (by simp)).trans (heap_new_at _ _ (by simp)))) Tryz.underlying131 rfl (by kernel_rfl)) rfl ?_
  obtain ⟨hT, hN, hF⟩ := H.out
  refine ⟨⟨zeroQV, some ⟨w.heap.size + 1 + 1 + 1, 0, none⟩, 2, ?_, ?_, ?_, ?_, ?_, ?_⟩, ?_⟩
  · rw [hT, hN]; rfl
  · rw [hT]; exact telnone_at _ rfl rfl
  · rw [hN, hF]
    refine row_held (t := 3) (cs := #[.int .i64 ad, .int .i64 ct]) (heap_new_at _ _ (by simp)) (fun i hi => ?_)
    have h : i = 0 ∨ i = 1 := by omega
    rcases h with rfl | rfl <;> rfl
  · rw [hN]; exact Nat.le_refl _
  · unfold maxLen; omega
  · intro p hp; cases hp; exact Nat.le_trans (Nat.le_succ _) (Nat.le_trans (Nat.le_succ _) (Nat.le_succ _))
  · exact ((((Ext.alloc w _).trans (Ext.alloc _ _)).trans (Ext.alloc _ _)).trans (Ext.alloc _ _)).trans (Ext.drew _)
set_option maxHeartbeats 2000000 in
theorem reply_16 (V : QstV) (Q : Qst) (w : World) (hk : Q.k = 16) : Calls Tryz.prog 87 #[.agg (qstC V Q)] w (RepP Q w) := by
  obtain ⟨k, ad, ct, va, an, oo, fr, mn, qb, qB, qr, qR⟩ := Q
  obtain ⟨a1, d1, a2, d2⟩ := V
  simp only at hk
  subst hk
  have hT : replT ⟨16, ad, ct, va, an, oo, fr, mn, qb, qB, qr, qR⟩ = { zeroT with k := 16, ad := ad, ct := ct } := by unfold replT wholeT; simp (config := { decide := true })
  have hN : agN ⟨16, ad, ct, va, an, oo, fr, mn, qb, qB, qr, qR⟩ = 2 := by unfold agN; simp (config := { decide := true })
  have hF : agF ⟨16, ad, ct, va, an, oo, fr, mn, qb, qB, qr, qR⟩ = (fun i => if i = 0 then ad else ct : Nat → Int) := by unfold agF; rw [hT]; unfold tnumF zeroT; funext i; simp (config := { decide := true })
  have H := Lib.hid (And.intro hT (And.intro hN hF))
  clear hT hN hF
  unfold qstC
  dsimp only
  go_enter Tryz.func87, Tryz.ntmps87
  go_upto_region 19 with fail
  go_region
  go_wp2
  refine bodyPost_ret (results_cell_row rfl _ _ (w.heap.size + 1) 131 _ (0, 0) _ rfl ((heap_alloc_old _ _ (by simp)).trans ((heap_alloc_old _ _ (by simp)).trans (heap_new_at _ _ (by simp)))) Tryz.underlying131 rfl (by kernel_rfl)) rfl ?_
  obtain ⟨hT, hN, hF⟩ := H.out
  refine ⟨⟨zeroQV, some ⟨w.heap.size + 1 + 1 + 1, 0, none⟩, 2, ?_, ?_, ?_, ?_, ?_, ?_⟩, ?_⟩
  · rw [hT, hN]; rfl
  · rw [hT]; exact telnone_at _ rfl rfl
  · rw [hN, hF]
    refine row_held (t := 3) (cs := #[.int .i64 ad, .int .i64 ct]) (heap_new_at _ _ (by simp)) (fun i hi => ?_)
    have h : i = 0 ∨ i = 1 := by omega
    rcases h with rfl | rfl <;> rfl
  · rw [hN]; exact Nat.le_refl _
  · unfold maxLen; omega
  · intro p hp; cases hp; exact Nat.le_trans (Nat.le_succ _) (Nat.le_trans (Nat.le_succ _) (Nat.le_succ _))
  · exact ((((Ext.alloc w _).trans (Ext.alloc _ _)).trans (Ext.alloc _ _)).trans (Ext.alloc _ _)).trans (Ext.drew _)
set_option maxHeartbeats 2000000 in
theorem reply_22 (V : QstV) (Q : Qst) (w : World) (hk : Q.k = 22) : Calls Tryz.prog 87 #[.agg (qstC V Q)] w (RepP Q w) := by
  obtain ⟨k, ad, ct, va, an, oo, fr, mn, qb, qB, qr, qR⟩ := Q
  obtain ⟨a1, d1, a2, d2⟩ := V
  simp only at hk
  subst hk
  have hT : replT ⟨22, ad, ct, va, an, oo, fr, mn, qb, qB, qr, qR⟩ = { zeroT with k := 22, ad := ad, an := an, oo := oo } := by unfold replT wholeT; simp (config := { decide := true })
  have hN : agN ⟨22, ad, ct, va, an, oo, fr, mn, qb, qB, qr, qR⟩ = 3 := by unfold agN; simp (config := { decide := true })
  have hF : agF ⟨22, ad, ct, va, an, oo, fr, mn, qb, qB, qr, qR⟩ = (fun i => if i = 0 then ad else if i = 1 then an else oo : Nat → Int) := by unfold agF; rw [hT]; unfold tnumF zeroT; funext i; simp (config := { decide := true })
  have H := Lib.hid (And.intro hT (And.intro hN hF))
  clear hT hN hF
  unfold qstC
  dsimp only
  go_enter Tryz.func87, Tryz.ntmps87
  go_upto_region 21 with fail
  go_region
  go_wp2
  refine bodyPost_ret (results_cell_row rfl _ _ (w.heap.size + 1) 131 _ (0, 0) _ rfl ((heap_alloc_old _ _ (by simp)).trans ((heap_alloc_old _ _ (by simp)).trans (heap_new_at _ _ (by simp)))) Tryz.underlying131 rfl (by kernel_rfl)) rfl ?_
  obtain ⟨hT, hN, hF⟩ := H.out
  refine ⟨⟨zeroQV, some ⟨w.heap.size + 1 + 1 + 1, 0, none⟩, 3, ?_, ?_, ?_, ?_, ?_, ?_⟩, ?_⟩
  · rw [hT, hN]; rfl
  · rw [hT]; exact telnone_at _ rfl rfl
  · rw [hN, hF]
    refine row_held (t := 3) (cs := #[.int .i64 ad, .int .i64 an, .int .i64 oo]) (heap_new_at _ _ (by simp)) (fun i hi => ?_)
    have h : i = 0 ∨ i = 1 ∨ i = 2 := by omega
    rcases h with rfl | rfl | rfl <;> rfl
  · rw [hN]; exact Nat.le_refl _
  · unfold maxLen; omega
  · intro p hp; cases hp; exact Nat.le_trans (Nat.le_succ _) (Nat.le_trans (Nat.le_succ _) (Nat.le_succ _))
  · exact ((((Ext.alloc w _).trans (Ext.alloc _ _)).trans (Ext.alloc _ _)).trans (Ext.alloc _ _)).trans (Ext.drew _)
set_option maxHeartbeats 2000000 in
theorem reply_1 (V : QstV) (Q : Qst) (w : World) (hk : Q.k = 1) (hn : 0 ≤ Q.ct ∧ Q.ct ≤ 2000) : Calls Tryz.prog 87 #[.agg (qstC V Q)] w (RepP Q w) := by
  obtain ⟨i0, hi0, hz0, hz1, hz2⟩ := info_parts Tryz.infoB
  obtain ⟨k, ad, ct, va, an, oo, fr, mn, qb, qB, qr, qR⟩ := Q
  obtain ⟨a1, d1, a2, d2⟩ := V
  simp only at hk
  subst hk
  simp only at hn
  obtain ⟨N, rfl⟩ : ∃ N : Nat, ct = N := ⟨ct.toNat, by omega⟩
  have hN2 : N ≤ 2000 := by omega
  have hm : N ≤ maxLen := by unfold maxLen; omega
  have hT : replT ⟨1, ad, (N : Int), va, an, oo, fr, mn, qb, qB, qr, qR⟩ = { zeroT with k := 1, nb := N, B := fun _ => false } := by unfold replT wholeT; simp (config := { decide := true })
  have hA : agN ⟨1, ad, (N : Int), va, an, oo, fr, mn, qb, qB, qr, qR⟩ = 0 := by unfold agN; simp (config := { decide := true })
  have H := Lib.hid (And.intro hT hA)
  clear hT hA hn
  unfold qstC
  dsimp only
  obtain ⟨W3, hW3, e3, H3⟩ : ∃ W3, W3 = ((w.alloc (.cells #[.int .i64 1, .int .i64 ad, .int .i64 N, .int .i64 va, .int .i64 an, .int .i64 oo, .int .i64 fr, .int .i64 mn, .slice a1 qb d1, .slice a2 qr d2] 31)).alloc (.cells #[.int .i64 0, .int .i64 0, .int .i64 0, .int .i64 0, .int .i64 0, .int .i64 0, .int .i64 0, .slice none 0 0, .slice none 0 0, .slice none 0 0] 131)).alloc (.cells #[.int .i64 1, .int .i64 0, .int .i64 0, .int .i64 0, .int .i64 0, .int .i64 0, .int .i64 0, .slice none 0 0, .slice none 0 0, .slice none 0 0] 131) ∧ Ext w W3 ∧ Hid (W3.heap[w.heap.size]? = some (.cells #[.int .i64 1, .int .i64 ad, .int .i64 N, .int .i64 va, .int .i64 an, .int .i64 oo, .int .i64 fr, .int .i64 mn, .slice a1 qb d1, .slice a2 qr d2] 31 (0, 0)) ∧ W3.heap[w.heap.size + 1]? = some (.cells #[.int .i64 0, .int .i64 0, .int .i64 0, .int .i64 0, .int .i64 0, .int .i64 0, .int .i64 0, .slice none 0 0, .slice none 0 0, .slice none 0 0] 131 (0, 0)) ∧ W3.heap[w.heap.size + 1 + 1]? = some (.cells #[.int .i64 1, .int .i64 0, .int .i64 0, .int .i64 0, .int .i64 0, .int .i64 0, .int .i64 0, .slice none 0 0, .slice none 0 0, .slice none 0 0] 131 (0, 0)) ∧ w.heap.size + 1 + 1 < W3.heap.size) :=
    ⟨_, rfl, ((Ext.alloc w _).trans (Ext.alloc _ _)).trans (Ext.alloc _ _), Lib.hid ⟨(heap_alloc_old _ _ (by simp; omega)).trans ((heap_alloc_old _ _ (by simp)).trans (heap_new_at _ _ (by simp))), (heap_alloc_old _ _ (by simp)).trans (heap_new_at _ _ (by simp)), heap_new_at _ _ (by simp), by simp⟩⟩
  have c3 : W3.cell? ⟨w.heap.size, 2, none⟩ = some (.int .i64 N) := cell_of_heap H3.out.1 rfl
  go_enter Tryz.func87, Tryz.ntmps87
  go_upto_region 14 with fail
  rw [← hW3]
  clear hW3
  go_wp2_with (first
    | (at_make; refine wpList_make_full _ rfl _ _ 26 rfl W3.heap.size 4 i0 (.bool false) 1 Tryz.underlying26 hi0 hz0 hz1 .i64 .i64 N N N rfl rfl rfl rfl (by rw [hz2]; omega) hm (Nat.le_refl _) ?_; intro w5 hown5 hgrow5; have r5 : Row Value.bool 4 w5 W3.heap.size N (fun _ => false) := Row.made hown5; have x5 : Ext W3 w5 := (Below.refl _ _).grown hgrow5 (Nat.le_refl _) (fun k hk => by cases hk); have gR := x5.block H3.out.2.2.1; have gZ := x5.block H3.out.2.1; have hlt := H3.out.2.2.2; have p7 : w5.cell? ⟨w.heap.size + 1 + 1, 7, none⟩ = some (.slice none 0 0) := cell_of_heap gR rfl; have q7 : w5.frozen? ⟨w.heap.size + 1 + 1, 7, none⟩ = false := frozenT gR)
    | (refine wpList_load_row rfl 131 (.tmp 3) rfl (w.heap.size + 1 + 1) rfl 131 #[.int .i64 1, .int .i64 0, .int .i64 0, .int .i64 0, .int .i64 0, .int .i64 0, .int .i64 0, .slice (some ⟨W3.heap.size, 0, none⟩) N N, .slice none 0 0, .slice none 0 0] (0, 0) _ ((heap_setCell_same w5 (w.heap.size + 1 + 1) 7 _ _ _ gR).trans (by rfl)) Tryz.underlying131 rfl (by kernel_rfl) ?_)
    | (refine wpList_store_row rfl 131 (.tmp 2) (.tmp 98) rfl (w.heap.size + 1) _ rfl rfl 131 #[.int .i64 0, .int .i64 0, .int .i64 0, .int .i64 0, .int .i64 0, .int .i64 0, .int .i64 0, .slice none 0 0, .slice none 0 0, .slice none 0 0] ((heap_setCell_other _ _ _ _ (by simp)).trans gZ) (by kernel_rfl) rfl (by simp [Value.oneCell']) ?_))
  refine bodyPost_ret (results_cell_row rfl _ _ (w.heap.size + 1) 131 _ (0, 0) _ rfl (setRow_heap _ _ _ _ _ _ ((heap_setCell_other _ _ _ _ (by simp)).trans gZ)) Tryz.underlying131 rfl (by kernel_rfl)) rfl ?_
  obtain ⟨hT, hA⟩ := H.out
  have hh : HoldsG Value.bool ((w5.setCell ⟨w.heap.size + 1 + 1, 7, none⟩ (.slice (some ⟨W3.heap.size, 0, none⟩) N N)).setRow (w.heap.size + 1) #[.int .i64 1, .int .i64 0, .int .i64 0, .int .i64 0, .int .i64 0, .int .i64 0, .int .i64 0, .slice (some ⟨W3.heap.size, 0, none⟩) N N, .slice none 0 0, .slice none 0 0]) (some ⟨W3.heap.size, 0, none⟩) N (fun _ => false) :=
    .inr ⟨W3.heap.size, 0, rfl, by rw [setRow_size]; simpa [World.setCell] using r5.lt, fun i hi => (cell_setRow_other _ _ _ _ (show W3.heap.size ≠ w.heap.size + 1 from by have := H3.out.2.2.2; omega)).trans ((cell_far (show W3.heap.size ≠ w.heap.size + 1 + 1 from by have := H3.out.2.2.2; omega) _ _ _ _).trans (by rw [Nat.zero_add]; exact r5.cell i hi))⟩
  refine ⟨⟨{ zeroQV with a1 := some ⟨W3.heap.size, 0, none⟩, d1 := N }, none, 0, ?_, ?_, ?_, ?_, ?_, ?_⟩, ?_⟩
  · rw [hT, hA]; rfl
  · rw [hT]; exact ⟨hh, Nat.le_refl _, hm, .inl rfl, Nat.le_refl _, Nat.zero_le _⟩
  · rw [hA]; exact .inl rfl
  · rw [hA]; exact Nat.le_refl _
  · exact Nat.zero_le _
  · exact Fresh.nil _
  · exact below_setRow (Below.setCell (e3.trans x5) (by simp; omega) _) (by simp) _
set_option maxHeartbeats 2000000 in
theorem reply_2 (V : QstV) (Q : Qst) (w : World) (hk : Q.k = 2) (hn : 0 ≤ Q.ct ∧ Q.ct ≤ 2000) : Calls Tryz.prog 87 #[.agg (qstC V Q)] w (RepP Q w) := by
  obtain ⟨i0, hi0, hz0, hz1, hz2⟩ := info_parts Tryz.infoB
  obtain ⟨k, ad, ct, va, an, oo, fr, mn, qb, qB, qr, qR⟩ := Q
  obtain ⟨a1, d1, a2, d2⟩ := V
  simp only at hk
  subst hk
  simp only at hn
  obtain ⟨N, rfl⟩ : ∃ N : Nat, ct = N := ⟨ct.toNat, by omega⟩
  have hN2 : N ≤ 2000 := by omega
  have hm : N ≤ maxLen := by unfold maxLen; omega
  have hT : replT ⟨2, ad, (N : Int), va, an, oo, fr, mn, qb, qB, qr, qR⟩ = { zeroT with k := 2, nb := N, B := fun _ => false } := by unfold replT wholeT; simp (config := { decide := true })
  have hA : agN ⟨2, ad, (N : Int), va, an, oo, fr, mn, qb, qB, qr, qR⟩ = 0 := by unfold agN; simp (config := { decide := true })
  have H := Lib.hid (And.intro hT hA)
  clear hT hA hn
  unfold qstC
  dsimp only
  obtain ⟨W3, hW3, e3, H3⟩ : ∃ W3, W3 = ((w.alloc (.cells #[.int .i64 2, .int .i64 ad, .int .i64 N, .int .i64 va, .int .i64 an, .int .i64 oo, .int .i64 fr, .int .i64 mn, .slice a1 qb d1, .slice a2 qr d2] 31)).alloc (.cells #[.int .i64 0, .int .i64 0, .int .i64 0, .int .i64 0, .int .i64 0, .int .i64 0, .int .i64 0, .slice none 0 0, .slice none 0 0, .slice none 0 0] 131)).alloc (.cells #[.int .i64 2, .int .i64 0, .int .i64 0, .int .i64 0, .int .i64 0, .int .i64 0, .int .i64 0, .slice none 0 0, .slice none 0 0, .slice none 0 0] 131) ∧ Ext w W3 ∧ Hid (W3.heap[w.heap.size]? = some (.cells #[.int .i64 2, .int .i64 ad, .int .i64 N, .int .i64 va, .int .i64 an, .int .i64 oo, .int .i64 fr, .int .i64 mn, .slice a1 qb d1, .slice a2 qr d2] 31 (0, 0)) ∧ W3.heap[w.heap.size + 1]? = some (.cells #[.int .i64 0, .int .i64 0, .int .i64 0, .int .i64 0, .int .i64 0, .int .i64 0, .int .i64 0, .slice none 0 0, .slice none 0 0, .slice none 0 0] 131 (0, 0)) ∧ W3.heap[w.heap.size + 1 + 1]? = some (.cells #[.int .i64 2, .int .i64 0, .int .i64 0, .int .i64 0, .int .i64 0, .int .i64 0, .int .i64 0, .slice none 0 0, .slice none 0 0, .slice none 0 0] 131 (0, 0)) ∧ w.heap.size + 1 + 1 < W3.heap.size) :=
    ⟨_, rfl, ((Ext.alloc w _).trans (Ext.alloc _ _)).trans (Ext.alloc _ _), Lib.hid ⟨(heap_alloc_old _ _ (by simp; omega)).trans ((heap_alloc_old _ _ (by simp)).trans (heap_new_at _ _ (by simp))), (heap_alloc_old _ _ (by simp)).trans (heap_new_at _ _ (by simp)), heap_new_at _ _ (by simp), by simp⟩⟩
  have c3 : W3.cell? ⟨w.heap.size, 2, none⟩ = some (.int .i64 N) := cell_of_heap H3.out.1 rfl
  go_enter Tryz.func87, Tryz.ntmps87
  go_upto_region 14 with fail
  rw [← hW3]
  clear hW3
  go_wp2_with (first
    | (at_make; refine wpList_make_full _ rfl _ _ 26 rfl W3.heap.size 4 i0 (.bool false) 1 Tryz.underlying26 hi0 hz0 hz1 .i64 .i64 N N N rfl rfl rfl rfl (by rw [hz2]; omega) hm (Nat.le_refl _) ?_; intro w5 hown5 hgrow5; have r5 : Row Value.bool 4 w5 W3.heap.size N (fun _ => false) := Row.made hown5; have x5 : Ext W3 w5 := (Below.refl _ _).grown hgrow5 (Nat.le_refl _) (fun k hk => by cases hk); have gR := x5.block H3.out.2.2.1; have gZ := x5.block H3.out.2.1; have hlt := H3.out.2.2.2; have p7 : w5.cell? ⟨w.heap.size + 1 + 1, 7, none⟩ = some (.slice none 0 0) := cell_of_heap gR rfl; have q7 : w5.frozen? ⟨w.heap.size + 1 + 1, 7, none⟩ = false := frozenT gR)
    | (refine wpList_load_row rfl 131 (.tmp 3) rfl (w.heap.size + 1 + 1) rfl 131 #[.int .i64 2, .int .i64 0, .int .i64 0, .int .i64 0, .int .i64 0, .int .i64 0, .int .i64 0, .slice (some ⟨W3.heap.size, 0, none⟩) N N, .slice none 0 0, .slice none 0 0] (0, 0) _ ((heap_setCell_same w5 (w.heap.size + 1 + 1) 7 _ _ _ gR).trans (by rfl)) Tryz.underlying131 rfl (by kernel_rfl) ?_)
    | (refine wpList_store_row rfl 131 (.tmp 2) (.tmp 98) rfl (w.heap.size + 1) _ rfl rfl 131 #[.int .i64 0, .int .i64 0, .int .i64 0, .int .i64 0, .int .i64 0, .int .i64 0, .int .i64 0, .slice none 0 0, .slice none 0 0, .slice none 0 0] ((heap_setCell_other _ _ _ _ (by simp)).trans gZ) (by kernel_rfl) rfl (by simp [Value.oneCell']) ?_))
  refine bodyPost_ret (results_cell_row rfl _ _ (w.heap.size + 1) 131 _ (0, 0) _ rfl (setRow_heap _ _ _ _ _ _ ((heap_setCell_other _ _ _ _ (by simp)).trans gZ)) Tryz.underlying131 rfl (by kernel_rfl)) rfl ?_
  obtain ⟨hT, hA⟩ := H.out
  have hh : HoldsG Value.bool ((w5.setCell ⟨w.heap.size + 1 + 1, 7, none⟩ (.slice (some ⟨W3.heap.size, 0, none⟩) N N)).setRow (w.heap.size + 1) #[.int .i64 2, .int .i64 0, .int .i64 0, .int .i64 0, .int .i64 0, .int .i64 0, .int .i64 0, .slice (some ⟨W3.heap.size, 0, none⟩) N N, .slice none 0 0, .slice none 0 0]) (some ⟨W3.heap.size, 0, none⟩) N (fun _ => false) :=
    .inr ⟨W3.heap.size, 0, rfl, by rw [setRow_size]; simpa [World.setCell] using r5.lt, fun i hi => (cell_setRow_other _ _ _ _ (show W3.heap.size ≠ w.heap.size + 1 from by have := H3.out.2.2.2; omega)).trans ((cell_far (show W3.heap.size ≠ w.heap.size + 1 + 1 from by have := H3.out.2.2.2; omega) _ _ _ _).trans (by rw [Nat.zero_add]; exact r5.cell i hi))⟩
  refine ⟨⟨{ zeroQV with a1 := some ⟨W3.heap.size, 0, none⟩, d1 := N }, none, 0, ?_, ?_, ?_, ?_, ?_, ?_⟩, ?_⟩
  · rw [hT, hA]; rfl
  · rw [hT]; exact ⟨hh, Nat.le_refl _, hm, .inl rfl, Nat.le_refl _, Nat.zero_le _⟩
  · rw [hA]; exact .inl rfl
  · rw [hA]; exact Nat.le_refl _
  · exact Nat.zero_le _
  · exact Fresh.nil _
  · exact below_setRow (Below.setCell (e3.trans x5) (by simp; omega) _) (by simp) _
set_option maxHeartbeats 2000000 in
theorem reply_3 (V : QstV) (Q : Qst) (w : World) (hk : Q.k = 3) (hn : 0 ≤ Q.ct ∧ Q.ct ≤ 2000) : Calls Tryz.prog 87 #[.agg (qstC V Q)] w (RepP Q w) := by
  obtain ⟨i0, hi0, hz0, hz1, hz2⟩ := info_parts Tryz.info16
  obtain ⟨k, ad, ct, va, an, oo, fr, mn, qb, qB, qr, qR⟩ := Q
  obtain ⟨a1, d1, a2, d2⟩ := V
  simp only at hk
  subst hk
  simp only at hn
  obtain ⟨N, rfl⟩ : ∃ N : Nat, ct = N := ⟨ct.toNat, by omega⟩
  have hN2 : N ≤ 2000 := by omega
  have hm : N ≤ maxLen := by unfold maxLen; omega
  have hT : replT ⟨3, ad, (N : Int), va, an, oo, fr, mn, qb, qB, qr, qR⟩ = { zeroT with k := 3, nr := N, R := fun _ => 0 } := by unfold replT wholeT; simp (config := { decide := true })
  have hA : agN ⟨3, ad, (N : Int), va, an, oo, fr, mn, qb, qB, qr, qR⟩ = 0 := by unfold agN; simp (config := { decide := true })
  have H := Lib.hid (And.intro hT hA)
  clear hT hA hn
  unfold qstC
  dsimp only
  obtain ⟨W3, hW3, e3, H3⟩ : ∃ W3, W3 = ((w.alloc (.cells #[.int .i64 3, .int .i64 ad, .int .i64 N, .int .i64 va, .int .i64 an, .int .i64 oo, .int .i64 fr, .int .i64 mn, .slice a1 qb d1, .slice a2 qr d2] 31)).alloc (.cells #[.int .i64 0, .int .i64 0, .int .i64 0, .int .i64 0, .int .i64 0, .int .i64 0, .int .i64 0, .slice none 0 0, .slice none 0 0, .slice none 0 0] 131)).alloc (.cells #[.int .i64 3, .int .i64 0, .int .i64 0, .int .i64 0, .int .i64 0, .int .i64 0, .int .i64 0, .slice none 0 0, .slice none 0 0, .slice none 0 0] 131) ∧ Ext w W3 ∧ Hid (W3.heap[w.heap.size]? = some (.cells #[.int .i64 3, .int .i64 ad, .int .i64 N, .int .i64 va, .int .i64 an, .int .i64 oo, .int .i64 fr, .int .i64 mn, .slice a1 qb d1, .slice a2 qr d2] 31 (0, 0)) ∧ W3.heap[w.heap.size + 1]? = some (.cells #[.int .i64 0, .int .i64 0, .int .i64 0, .int .i64 0, .int .i64 0, .int .i64 0, .int .i64 0, .slice none 0 0, .slice none 0 0, .slice none 0 0] 131 (0, 0)) ∧ W3.heap[w.heap.size + 1 + 1]? = some (.cells #[.int .i64 3, .int .i64 0, .int .i64 0, .int .i64 0, .int .i64 0, .int .i64 0, .int .i64 0, .slice none 0 0, .slice none 0 0, .slice none 0 0] 131 (0, 0)) ∧ w.heap.size + 1 + 1 < W3.heap.size) :=
    ⟨_, rfl, ((Ext.alloc w _).trans (Ext.alloc _ _)).trans (Ext.alloc _ _), Lib.hid ⟨(heap_alloc_old _ _ (by simp; omega)).trans ((heap_alloc_old _ _ (by simp)).trans (heap_new_at _ _ (by simp))), (heap_alloc_old _ _ (by simp)).trans (heap_new_at _ _ (by simp)), heap_new_at _ _ (by simp), by simp⟩⟩
  have c3 : W3.cell? ⟨w.heap.size, 2, none⟩ = some (.int .i64 N) := cell_of_heap H3.out.1 rfl
  go_enter Tryz.func87, Tryz.ntmps87
  go_upto_region 16 with fail
  rw [← hW3]
  clear hW3
  go_wp2_with (first
    | (at_make; refine wpList_make_full _ rfl _ _ 27 rfl W3.heap.size 59 i0 (.int .u16 0) 1 Tryz.underlying27 hi0 hz0 hz1 .i64 .i64 N N N rfl rfl rfl rfl (by rw [hz2]; omega) hm (Nat.le_refl _) ?_; intro w5 hown5 hgrow5; have r5 : Row (Value.int .u16) 59 w5 W3.heap.size N (fun _ => 0) := Row.made hown5; have x5 : Ext W3 w5 := (Below.refl _ _).grown hgrow5 (Nat.le_refl _) (fun k hk => by cases hk); have gR := x5.block H3.out.2.2.1; have gZ := x5.block H3.out.2.1; have hlt := H3.out.2.2.2; have p7 : w5.cell? ⟨w.heap.size + 1 + 1, 8, none⟩ = some (.slice none 0 0) := cell_of_heap gR rfl; have q7 : w5.frozen? ⟨w.heap.size + 1 + 1, 8, none⟩ = false := frozenT gR)
    | (refine wpList_load_row rfl 131 (.tmp 3) rfl (w.heap.size + 1 + 1) rfl 131 #[.int .i64 3, .int .i64 0, .int .i64 0, .int .i64 0, .int .i64 0, .int .i64 0, .int .i64 0, .slice none 0 0, .slice (some ⟨W3.heap.size, 0, none⟩) N N, .slice none 0 0] (0, 0) _ ((heap_setCell_same w5 (w.heap.size + 1 + 1) 8 _ _ _ gR).trans (by rfl)) Tryz.underlying131 rfl (by kernel_rfl) ?_)
    | (refine wpList_store_row rfl 131 (.tmp 2) (.tmp 98) rfl (w.heap.size + 1) _ rfl rfl 131 #[.int .i64 0, .int .i64 0, .int .i64 0, .int .i64 0, .int .i64 0, .int .i64 0, .int .i64 0, .slice none 0 0, .slice none 0 0, .slice none 0 0] ((heap_setCell_other _ _ _ _ (by simp)).trans gZ) (by kernel_rfl) rfl (by simp [Value.oneCell']) ?_))
  refine bodyPost_ret (results_cell_row rfl _ _ (w.heap.size + 1) 131 _ (0, 0) _ rfl (setRow_heap _ _ _ _ _ _ ((heap_setCell_other _ _ _ _ (by simp)).trans gZ)) Tryz.underlying131 rfl (by kernel_rfl)) rfl ?_
  obtain ⟨hT, hA⟩ := H.out
  have hh : HoldsG (Value.int .u16) ((w5.setCell ⟨w.heap.size + 1 + 1, 8, none⟩ (.slice (some ⟨W3.heap.size, 0, none⟩) N N)).setRow (w.heap.size + 1) #[.int .i64 3, .int .i64 0, .int .i64 0, .int .i64 0, .int .i64 0, .int .i64 0, .int .i64 0, .slice none 0 0, .slice (some ⟨W3.heap.size, 0, none⟩) N N, .slice none 0 0]) (some ⟨W3.heap.size, 0, none⟩) N (fun _ => 0) :=
    .inr ⟨W3.heap.size, 0, rfl, by rw [setRow_size]; simpa [World.setCell] using r5.lt, fun i hi => (cell_setRow_other _ _ _ _ (show W3.heap.size ≠ w.heap.size + 1 from by have := H3.out.2.2.2; omega)).trans ((cell_far (show W3.heap.size ≠ w.heap.size + 1 + 1 from by have := H3.out.2.2.2; omega) _ _ _ _).trans (by rw [Nat.zero_add]; exact r5.cell i hi))⟩
  refine ⟨⟨{ zeroQV with a2 := some ⟨W3.heap.size, 0, none⟩, d2 := N }, none, 0, ?_, ?_, ?_, ?_, ?_, ?_⟩, ?_⟩
  · rw [hT, hA]; rfl
  · rw [hT]; exact ⟨.inl rfl, Nat.le_refl _, Nat.zero_le _, hh, Nat.le_refl _, hm⟩
  · rw [hA]; exact .inl rfl
  · rw [hA]; exact Nat.le_refl _
  · exact Nat.zero_le _
  · exact Fresh.nil _
  · exact below_setRow (Below.setCell (e3.trans x5) (by simp; omega) _) (by simp) _
set_option maxHeartbeats 2000000 in
theorem reply_4 (V : QstV) (Q : Qst) (w : World) (hk : Q.k = 4) (hn : 0 ≤ Q.ct ∧ Q.ct ≤ 2000) : Calls Tryz.prog 87 #[.agg (qstC V Q)] w (RepP Q w) := by
  obtain ⟨i0, hi0, hz0, hz1, hz2⟩ := info_parts Tryz.info16
  obtain ⟨k, ad, ct, va, an, oo, fr, mn, qb, qB, qr, qR⟩ := Q
  obtain ⟨a1, d1, a2, d2⟩ := V
  simp only at hk
  subst hk
  simp only at hn
  obtain ⟨N, rfl⟩ : ∃ N : Nat, ct = N := ⟨ct.toNat, by omega⟩
  have hN2 : N ≤ 2000 := by omega
  have hm : N ≤ maxLen := by unfold maxLen; omega
  have hT : replT ⟨4, ad, (N : Int), va, an, oo, fr, mn, qb, qB, qr, qR⟩ = { zeroT with k := 4, nr := N, R := fun _ => 0 } := by unfold replT wholeT; simp (config := { decide := true })
  have hA : agN ⟨4, ad, (N : Int), va, an, oo, fr, mn, qb, qB, qr, qR⟩ = 0 := by unfold agN; simp (config := { decide := true })
  have H := Lib.hid (And.intro hT hA)
  clear hT hA hn
  unfold qstC
  dsimp only
  obtain ⟨W3, hW3, e3, H3⟩ : ∃ W3, W3 = ((w.alloc (.cells #[.int .i64 4, .int .i64 ad, .int .i64 N, .int .i64 va, .int .i64 an, .int .i64 oo, .int .i64 fr, .int .i64 mn, .slice a1 qb d1, .slice a2 qr d2] 31)).alloc (.cells #[.int .i64 0, .int .i64 0, .int .i64 0, .int .i64 0, .int .i64 0, .int .i64 0, .int .i64 0, .slice none 0 0, .slice none 0 0, .slice none 0 0] 131)).alloc (.cells #[.int .i64 4, .int .i64 0, .int .i64 0, .int .i64 0, .int .i64 0, .int .i64 0, .int .i64 0, .slice none 0 0, .slice none 0 0, .slice none 0 0] 131) ∧ Ext w W3 ∧ Hid (W3.heap[w.heap.size]? = some (.cells #[.int .i64 4, .int .i64 ad, .int .i64 N, .int .i64 va, .int .i64 an, .int .i64 oo, .int .i64 fr, .int .i64 mn, .slice a1 qb d1, .slice a2 qr d2] 31 (0, 0)) ∧ W3.heap[w.heap.size + 1]? = some (.cells #[.int .i64 0, .int .i64 0, .int .i64 0, .int .i64 0, .int .i64 0, .int .i64 0, .int .i64 0, .slice none 0 0, .slice none 0 0, .slice none 0 0] 131 (0, 0)) ∧ W3.heap[w.heap.size + 1 + 1]? = some (.cells #[.int .i64 4, .int .i64 0, .int .i64 0, .int .i64 0, .int .i64 0, .int .i64 0, .int .i64 0, .slice none 0 0, .slice none 0 0, .slice none 0 0] 131 (0, 0)) ∧ w.heap.size + 1 + 1 < W3.heap.size) :=
    ⟨_, rfl, ((Ext.alloc w _).trans (Ext.alloc _ _)).trans (Ext.alloc _ _), Lib.hid ⟨(heap_alloc_old _ _ (by simp; omega)).trans ((heap_alloc_old _ _ (by simp)).trans (heap_new_at _ _ (by simp))), (heap_alloc_old _ _ (by simp)).trans (heap_new_at _ _ (by simp)), heap_new_at _ _ (by simp), by simp⟩⟩
  have c3 : W3.cell? ⟨w.heap.size, 2, none⟩ = some (.int .i64 N) := cell_of_heap H3.out.1 rfl
  go_enter Tryz.func87, Tryz.ntmps87
  go_upto_region 16 with fail
  rw [← hW3]
  clear hW3
  go_wp2_with (first
    | (at_make; refine wpList_make_full _ rfl _ _ 27 rfl W3.heap.size 59 i0 (.int .u16 0) 1 Tryz.underlying27 hi0 hz0 hz1 .i64 .i64 N N N rfl rfl rfl rfl (by rw [hz2]; omega) hm (Nat.le_refl _) ?_; intro w5 hown5 hgrow5; have r5 : Row (Value.int .u16) 59 w5 W3.heap.size N (fun _ => 0) := Row.made hown5; have x5 : Ext W3 w5 := (Below.refl _ _).grown hgrow5 (Nat.le_refl _) (fun k hk => by cases hk); have gR := x5.block H3.out.2.2.1; have gZ := x5.block H3.out.2.1; have hlt := H3.out.2.2.2; have p7 : w5.cell? ⟨w.heap.size + 1 + 1, 8, none⟩ = some (.slice none 0 0) := cell_of_heap gR rfl; have q7 : w5.frozen? ⟨w.heap.size + 1 + 1, 8, none⟩ = false := frozenT gR)
    | (refine wpList_load_row rfl 131 (.tmp 3) rfl (w.heap.size + 1 + 1) rfl 131 #[.int .i64 4, .int .i64 0, .int .i64 0, .int .i64 0, .int .i64 0, .int .i64 0, .int .i64 0, .slice none 0 0, .slice (some ⟨W3.heap.size, 0, none⟩) N N, .slice none 0 0] (0, 0) _ ((heap_setCell_same w5 (w.heap.size + 1 + 1) 8 _ _ _ gR).trans (by rfl)) Tryz.underlying131 rfl (by kernel_rfl) ?_)
    | (refine wpList_store_row rfl 131 (.tmp 2) (.tmp 98) rfl (w.heap.size + 1) _ rfl rfl 131 #[.int .i64 0, .int .i64 0, .int .i64 0, .int .i64 0, .int .i64 0, .int .i64 0, .int .i64 0, .slice none 0 0, .slice none 0 0, .slice none 0 0] ((heap_setCell_other _ _ _ _ (by simp)).trans gZ) (by kernel_rfl) rfl (by simp [Value.oneCell']) ?_))
  refine bodyPost_ret (results_cell_row rfl _ _ (w.heap.size + 1) 131 _ (0, 0) _ rfl (setRow_heap _ _ _ _ _ _ ((heap_setCell_other _ _ _ _ (by simp)).trans gZ)) Tryz.underlying131 rfl (by kernel_rfl)) rfl ?_
  obtain ⟨hT, hA⟩ := H.out
  have hh : HoldsG (Value.int .u16) ((w5.setCell ⟨w.heap.size + 1 + 1, 8, none⟩ (.slice (some ⟨W3.heap.size, 0, none⟩) N N)).setRow (w.heap.size + 1) #[.int .i64 4, .int .i64 0, .int .i64 0, .int .i64 0, .int .i64 0, .int .i64 0, .int .i64 0, .slice none 0 0, .slice (some ⟨W3.heap.size, 0, none⟩) N N, .slice none 0 0]) (some ⟨W3.heap.size, 0, none⟩) N (fun _ => 0) :=
    .inr ⟨W3.heap.size, 0, rfl, by rw [setRow_size]; simpa [World.setCell] using r5.lt, fun i hi => (cell_setRow_other _ _ _ _ (show W3.heap.size ≠ w.heap.size + 1 from by have := H3.out.2.2.2; omega)).trans ((cell_far (show W3.heap.size ≠ w.heap.size + 1 + 1 from by have := H3.out.2.2.2; omega) _ _ _ _).trans (by rw [Nat.zero_add]; exact r5.cell i hi))⟩
  refine ⟨⟨{ zeroQV with a2 := some ⟨W3.heap.size, 0, none⟩, d2 := N }, none, 0, ?_, ?_, ?_, ?_, ?_, ?_⟩, ?_⟩
  · rw [hT, hA]; rfl
  · rw [hT]; exact ⟨.inl rfl, Nat.le_refl _, Nat.zero_le _, hh, Nat.le_refl _, hm⟩
  · rw [hA]; exact .inl rfl
  · rw [hA]; exact Nat.le_refl _
  · exact Nat.zero_le _
  · exact Fresh.nil _
  · exact below_setRow (Below.setCell (e3.trans x5) (by simp; omega) _) (by simp) _
set_option maxHeartbeats 2000000 in
theorem reply_23 (V : QstV) (Q : Qst) (w : World) (hk : Q.k = 23) (hn : 0 ≤ Q.mn ∧ Q.mn ≤ 2000) : Calls Tryz.prog 87 #[.agg (qstC V Q)] w (RepP Q w) := by
  obtain ⟨i0, hi0, hz0, hz1, hz2⟩ := info_parts Tryz.info16
  obtain ⟨k, ad, ct, va, an, oo, fr, mn, qb, qB, qr, qR⟩ := Q
  obtain ⟨a1, d1, a2, d2⟩ := V
  simp only at hk
  subst hk
  simp only at hn
  obtain ⟨N, rfl⟩ : ∃ N : Nat, mn = N := ⟨mn.toNat, by omega⟩
  have hN2 : N ≤ 2000 := by omega
  have hm : N ≤ maxLen := by unfold maxLen; omega
  have hT : replT ⟨23, ad, ct, va, an, oo, fr, (N : Int), qb, qB, qr, qR⟩ = { zeroT with k := 23, nr := N, R := fun _ => 0 } := by unfold replT wholeT; simp (config := { decide := true })
  have hA : agN ⟨23, ad, ct, va, an, oo, fr, (N : Int), qb, qB, qr, qR⟩ = 0 := by unfold agN; simp (config := { decide := true })
  have H := Lib.hid (And.intro hT hA)
  clear hT hA hn
  unfold qstC
  dsimp only
  obtain ⟨W3, hW3, e3, H3⟩ : ∃ W3, W3 = ((w.alloc (.cells #[.int .i64 23, .int .i64 ad, .int .i64 N, .int .i64 va, .int .i64 an, .int .i64 oo, .int .i64 fr, .int .i64 N, .slice a1 qb d1, .slice a2 qr d2] 31)).alloc (.cells #[.int .i64 0, .int .i64 0, .int .i64 0, .int .i64 0, .int .i64 0, .int .i64 0, .int .i64 0, .slice none 0 0, .slice none 0 0, .slice none 0 0] 131)).alloc (.cells #[.int .i64 23, .int .i64 0, .int .i64 0, .int .i64 0, .int .i64 0, .int .i64 0, .int .i64 0, .slice none 0 0, .slice none 0 0, .slice none 0 0] 131) ∧ Ext w W3 ∧ Hid (W3.heap[w.heap.size]? = some (.cells #[.int .i64 23, .int .i64 ad, .int .i64 N, .int .i64 va, .int .i64 an, .int .i64 oo, .int .i64 fr, .int .i64 N, .slice a1 qb d1, .slice a2 qr d2] 31 (0, 0)) ∧ W3.heap[w.heap.size + 1]? = some (.cells #[.int .i64 0, .int .i64 0, .int .i64 0, .int .i64 0, .int .i64 0, .int .i64 0, .int .i64 0, .slice none 0 0, .slice none 0 0, .slice none 0 0] 131 (0, 0)) ∧ W3.heap[w.heap.size + 1 + 1]? = some (.cells #[.int .i64 23, .int .i64 0, .int .i64 0, .int .i64 0, .int .i64 0, .int .i64 0, .int .i64 0, .slice none 0 0, .slice none 0 0, .slice none 0 0] 131 (0, 0)) ∧ w.heap.size + 1 + 1 < W3.heap.size) :=
    ⟨_, rfl, ((Ext.alloc w _).trans (Ext.alloc _ _)).trans (Ext.alloc _ _), Lib.hid ⟨(heap_alloc_old _ _ (by simp; omega)).trans ((heap_alloc_old _ _ (by simp)).trans (heap_new_at _ _ (by simp))), (heap_alloc_old _ _ (by simp)).trans (heap_new_at _ _ (by simp)), heap_new_at _ _ (by simp), by simp⟩⟩
  have c3 : W3.cell? ⟨w.heap.size, 2, none⟩ = some (.int .i64 N) := cell_of_heap H3.out.1 rfl
  go_enter Tryz.func87, Tryz.ntmps87
  go_upto_region 16 with fail
  rw [← hW3]
  clear hW3
  go_wp2_with (first
    | (at_make; refine wpList_make_full _ rfl _ _ 27 rfl W3.heap.size 59 i0 (.int .u16 0) 1 Tryz.underlying27 hi0 hz0 hz1 .i64 .i64 N N N rfl rfl rfl rfl (by rw [hz2]; omega) hm (Nat.le_refl _) ?_; intro w5 hown5 hgrow5; have r5 : Row (Value.int .u16) 59 w5 W3.heap.size N (fun _ => 0) := Row.made hown5; have x5 : Ext W3 w5 := (Below.refl _ _).grown hgrow5 (Nat.le_refl _) (fun k hk => by cases hk); have gR := x5.block H3.out.2.2.1; have gZ := x5.block H3.out.2.1; have hlt := H3.out.2.2.2; have p7 : w5.cell? ⟨w.heap.size + 1 + 1, 8, none⟩ = some (.slice none 0 0) := cell_of_heap gR rfl; have q7 : w5.frozen? ⟨w.heap.size + 1 + 1, 8, none⟩ = false := frozenT gR)
    | (refine wpList_load_row rfl 131 (.tmp 3) rfl (w.heap.size + 1 + 1) rfl 131 #[.int .i64 23, .int .i64 0, .int .i64 0, .int .i64 0, .int .i64 0, .int .i64 0, .int .i64 0, .slice none 0 0, .slice (some ⟨W3.heap.size, 0, none⟩) N N, .slice none 0 0] (0, 0) _ ((heap_setCell_same w5 (w.heap.size + 1 + 1) 8 _ _ _ gR).trans (by rfl)) Tryz.underlying131 rfl (by kernel_rfl) ?_)
    | (refine wpList_store_row rfl 131 (.tmp 2) (.tmp 98) rfl (w.heap.size + 1) _ rfl rfl 131 #[.int .i64 0, .int .i64 0, .int .i64 0, .int .i64 0, .int .i64 0, .int .i64 0, .int .i64 0, .slice none 0 0, .slice none 0 0, .slice none 0 0] ((heap_setCell_other _ _ _ _ (by simp)).trans gZ) (by kernel_rfl) rfl (by simp [Value.oneCell']) ?_))
  refine bodyPost_ret (results_cell_row rfl _ _ (w.heap.size + 1) 131 _ (0, 0) _ rfl (setRow_heap _ _ _ _ _ _ ((heap_setCell_other _ _ _ _ (by simp)).trans gZ)) Tryz.underlying131 rfl (by kernel_rfl)) rfl ?_
  obtain ⟨hT, hA⟩ := H.out
  have hh : HoldsG (Value.int .u16) ((w5.setCell ⟨w.heap.size + 1 + 1, 8, none⟩ (.slice (some ⟨W3.heap.size, 0, none⟩) N N)).setRow (w.heap.size + 1) #[.int .i64 23, .int .i64 0, .int .i64 0, .int .i64 0, .int .i64 0, .int .i64 0, .int .i64 0, .slice none 0 0, .slice (some ⟨W3.heap.size, 0, none⟩) N N, .slice none 0 0]) (some ⟨W3.heap.size, 0, none⟩) N (fun _ => 0) :=
    .inr ⟨W3.heap.size, 0, rfl, by rw [setRow_size]; simpa [World.setCell] using r5.lt, fun i hi => (cell_setRow_other _ _ _ _ (show W3.heap.size ≠ w.heap.size + 1 from by have := H3.out.2.2.2; omega)).trans ((cell_far (show W3.heap.size ≠ w.heap.size + 1 + 1 from by have := H3.out.2.2.2; omega) _ _ _ _).trans (by rw [Nat.zero_add]; exact r5.cell i hi))⟩
  refine ⟨⟨{ zeroQV with a2 := some ⟨W3.heap.size, 0, none⟩, d2 := N }, none, 0, ?_, ?_, ?_, ?_, ?_, ?_⟩, ?_⟩
  · rw [hT, hA]; rfl
  · rw [hT]; exact ⟨.inl rfl, Nat.le_refl _, Nat.zero_le _, hh, Nat.le_refl _, hm⟩
  · rw [hA]; exact .inl rfl
  · rw [hA]; exact Nat.le_refl _
  · exact Nat.zero_le _
  · exact Fresh.nil _
  · exact below_setRow (Below.setCell (e3.trans x5) (by simp; omega) _) (by simp) _
theorem reply_any (V : QstV) (Q : Qst) (w : World) (h : rightQ Q = true) : Calls Tryz.prog 87 #[.agg (qstC V Q)] w (RepP Q w) := by
  obtain ⟨hkn, ho, -, hf⟩ := (rightQ_iff Q).1 h
  have hk := (known_iff Q.k).1 hkn
  have hc1 : Q.k = 1 ∨ Q.k = 2 → 0 ≤ Q.ct ∧ Q.ct ≤ 2000 := fun h => by
    unfold fitsB at hf; rw [if_pos h] at hf; unfold inB at hf; have := of_decide_eq_true hf; omega
  have hc3 : Q.k = 3 ∨ Q.k = 4 → 0 ≤ Q.ct ∧ Q.ct ≤ 2000 := fun h => by
    unfold fitsB at hf; rw [if_neg (by omega), if_pos h] at hf; unfold inB at hf; have := of_decide_eq_true hf; omega
  have hc23 : Q.k = 23 → 0 ≤ Q.mn ∧ Q.mn ≤ 2000 := fun h => by
    unfold fitsB at hf; rw [if_neg (by omega), if_neg (by omega), if_neg (by omega), if_neg (by omega), if_neg (by omega), if_neg (by omega), if_neg (by omega)] at hf; simp only [Bool.and_eq_true, inB, decide_eq_true_iff] at hf; omega
  rcases hk with h | h | h | h | h | h | h | h | h | h
  · exact reply_1 V Q w h (hc1 (.inl h))
  · exact reply_2 V Q w h (hc1 (.inr h))
  · exact reply_3 V Q w h (hc3 (.inl h))
  · exact reply_4 V Q w h (hc3 (.inr h))
  · exact reply_5 V Q w h
  · exact reply_6 V Q w h
  · exact reply_15 V Q w h
  · exact reply_16 V Q w h
  · exact reply_22 V Q w h
  · exact reply_23 V Q w h (hc23 h)
end Go.Proofs.YtlafnobjfajamaaGreat
