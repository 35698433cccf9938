/-
  CONTRACTS: bilgeref17 (layer 17): Do.
  CONTRACTS: bilgeref17 (layer 17): Do, what writes.
-/
import Derived.Test.YtlafnobjfajamaaGreatPm15
import Derived.Test.YtlafnobjfajamaaGreatPm14
import Derived.Test.YtlafnobjfajamaaGreatPm6
import Derived.Laws.CopyOwn
import Derived.Laws.Rows
namespace Go.Proofs.YtlafnobjfajamaaGreat
open Go.RowKit
set_option linter.unusedVariables false
set_option maxRecDepth 100000

/-- What Do's boxes hold. -/
structure Do17 (w wr : World) (V : FilV) (F : Fil) (U : QstV) (Q : Qst) (X : QstV) (T : Tel) : Prop where
  x : Ext w wr
  b2 : wr.heap[w.heap.size]? = some (.cells (filC V F) 29 (0, 0))
  b3 : wr.heap[w.heap.size + 1]? = some (.cells (qstC U Q) 31 (0, 0))
  b4 : wr.heap[w.heap.size + 1 + 1]? = some (.cells (filC zeroV zeroF) 29 (0, 0))
  b5 : wr.heap[w.heap.size + 1 + 1 + 1]? = some (.cells (telC zeroQV zeroT) 37 (0, 0))
  b6 : wr.heap[w.heap.size + 1 + 1 + 1 + 1]? = some (.cells (telC X T) 37 (0, 0))
  f : FilAt wr V F
  t : TelAt wr X T
section
variable {w wr : World} {V : FilV} {F : Fil} {U : QstV} {Q : Qst} {X : QstV} {T : Tel}
theorem Do17.ext {wr' : World} (h : Do17 w wr V F U Q X T) (x : Ext wr wr') : Do17 w wr' V F U Q X T := ⟨h.x.trans x, x.block h.b2, x.block h.b3, x.block h.b4, x.block h.b5, x.block h.b6, h.f.ext x, h.t.ext x⟩
theorem Do17.setF {V' : FilV} {F' : Fil} (h : Do17 w wr V F U Q X T) (hf : FilAt wr V' F') : Do17 w (wr.setRow (w.heap.size) (filC V' F')) V' F' U Q X T :=
  ⟨below_setRow h.x (Nat.le_refl _) _, setRow_heap _ _ _ _ _ _ h.b2, (setRow_other _ _ _ _ (by omega)).trans h.b3, (setRow_other _ _ _ _ (by omega)).trans h.b4, (setRow_other _ _ _ _ (by omega)).trans h.b5, (setRow_other _ _ _ _ (by omega)).trans h.b6, hf.row h.b2 (plain_fil _ _) _, h.t.row h.b2 (plain_fil _ _) _⟩
theorem Do17.setT {X' : QstV} {T' : Tel} (h : Do17 w wr V F U Q X T) (j : Nat) (v : Value) (hc : (telC X T).setIfInBounds j v = telC X' T') (ht : TelAt wr X' T') : Do17 w (wr.setCell ⟨w.heap.size + 1 + 1 + 1 + 1, j, none⟩ v) V F U Q X' T' :=
  ⟨Below.setCell h.x (by show w.heap.size ≤ w.heap.size + 1 + 1 + 1 + 1; omega) _, (heap_setCell_other _ _ _ _ (by show w.heap.size ≠ w.heap.size + 1 + 1 + 1 + 1; omega)).trans h.b2, (heap_setCell_other _ _ _ _ (by show w.heap.size + 1 ≠ w.heap.size + 1 + 1 + 1 + 1; omega)).trans h.b3, (heap_setCell_other _ _ _ _ (by show w.heap.size + 1 + 1 ≠ w.heap.size + 1 + 1 + 1 + 1; omega)).trans h.b4, (heap_setCell_other _ _ _ _ (by show w.heap.size + 1 + 1 + 1 ≠ w.heap.size + 1 + 1 + 1 + 1; omega)).trans h.b5, by rw [← hc]; exact heap_setCell_same _ _ j _ _ v h.b6, h.f.cell h.b6 (plain_tel _ _) j v, ht.cell h.b6 (plain_tel _ _) j v⟩
theorem do_begin (V : FilV) (F : Fil) (U : QstV) (Q : Qst) (w : World) (hf : FilAt w V F) : ∃ W5, W5 = ((((w.alloc (.cells (filC V F) 29)).alloc (.cells (qstC U Q) 31)).alloc (.cells #[.int .i64 0, .int .i64 0, .int .i64 0, .int .i64 0, .int .i64 0, .int .i64 0, .int .i64 0, .int .i64 0, .int .i64 0, .int .i64 0, .slice none 0 0, .slice none 0 0, .slice none 0 0, .slice none 0 0] 29)).alloc (.cells #[.int .i64 0, .int .i64 0, .int .i64 0, .int .i64 0, .int .i64 0, .int .i64 0, .int .i64 0, .slice none 0 0, .slice none 0 0] 37)) ∧ W5.heap.size = w.heap.size + 1 + 1 + 1 + 1 ∧ W5.heap[w.heap.size + 1]? = some (.cells (qstC U Q) 31 (0, 0)) ∧ Do17 w (W5.alloc (.cells #[.int .i64 Q.k, .int .i64 0, .int .i64 0, .int .i64 0, .int .i64 0, .int .i64 0, .int .i64 0, .slice none 0 0, .slice none 0 0] 37)) V F U Q zeroQV { zeroT with k := Q.k } := by
  refine ⟨_, rfl, ?_⟩
  have x1 := Ext.alloc w (.cells (filC V F) 29)
  have h1 := heap_alloc_new w (.cells (filC V F) 29)
  have s1 : (w.alloc (.cells (filC V F) 29)).heap.size = w.heap.size + 1 := by simp
  generalize w.alloc (.cells (filC V F) 29) = wa at *
  have x2 := Ext.alloc wa (.cells (qstC U Q) 31)
  have h2 := heap_alloc_new wa (.cells (qstC U Q) 31)
  have s2 : (wa.alloc (.cells (qstC U Q) 31)).heap.size = wa.heap.size + 1 := by simp
  generalize wa.alloc (.cells (qstC U Q) 31) = wb at *
  have x3 := Ext.alloc wb (.cells #[.int .i64 0, .int .i64 0, .int .i64 0, .int .i64 0, .int .i64 0, .int .i64 0, .int .i64 0, .int .i64 0, .int .i64 0, .int .i64 0, .slice none 0 0, .slice none 0 0, .slice none 0 0, .slice none 0 0] 29)
  have h3 := heap_alloc_new wb (.cells #[.int .i64 0, .int .i64 0, .int .i64 0, .int .i64 0, .int .i64 0, .int .i64 0, .int .i64 0, .int .i64 0, .int .i64 0, .int .i64 0, .slice none 0 0, .slice none 0 0, .slice none 0 0, .slice none 0 0] 29)
  have s3 : (wb.alloc (.cells #[.int .i64 0, .int .i64 0, .int .i64 0, .int .i64 0, .int .i64 0, .int .i64 0, .int .i64 0, .int .i64 0, .int .i64 0, .int .i64 0, .slice none 0 0, .slice none 0 0, .slice none 0 0, .slice none 0 0] 29)).heap.size = wb.heap.size + 1 := by simp
  generalize wb.alloc (.cells #[.int .i64 0, .int .i64 0, .int .i64 0, .int .i64 0, .int .i64 0, .int .i64 0, .int .i64 0, .int .i64 0, .int .i64 0, .int .i64 0, .slice none 0 0, .slice none 0 0, .slice none 0 0, .slice none 0 0] 29) = wc at *
  have x4 := Ext.alloc wc (.cells #[.int .i64 0, .int .i64 0, .int .i64 0, .int .i64 0, .int .i64 0, .int .i64 0, .int .i64 0, .slice none 0 0, .slice none 0 0] 37)
  have h4 := heap_alloc_new wc (.cells #[.int .i64 0, .int .i64 0, .int .i64 0, .int .i64 0, .int .i64 0, .int .i64 0, .int .i64 0, .slice none 0 0, .slice none 0 0] 37)
  have s4 : (wc.alloc (.cells #[.int .i64 0, .int .i64 0, .int .i64 0, .int .i64 0, .int .i64 0, .int .i64 0, .int .i64 0, .slice none 0 0, .slice none 0 0] 37)).heap.size = wc.heap.size + 1 := by simp
  generalize wc.alloc (.cells #[.int .i64 0, .int .i64 0, .int .i64 0, .int .i64 0, .int .i64 0, .int .i64 0, .int .i64 0, .slice none 0 0, .slice none 0 0] 37) = wd at *
  have x5 := Ext.alloc wd (.cells #[.int .i64 Q.k, .int .i64 0, .int .i64 0, .int .i64 0, .int .i64 0, .int .i64 0, .int .i64 0, .slice none 0 0, .slice none 0 0] 37)
  have h5 := heap_alloc_new wd (.cells #[.int .i64 Q.k, .int .i64 0, .int .i64 0, .int .i64 0, .int .i64 0, .int .i64 0, .int .i64 0, .slice none 0 0, .slice none 0 0] 37)
  rw [s1] at h2 s2
  rw [s2] at h3 s3
  rw [s3] at h4 s4
  rw [s4] at h5
  exact ⟨s4, x4.block (x3.block h2), (((x1.trans x2).trans x3).trans x4).trans x5, x5.block (x4.block (x3.block (x2.block h1))), x5.block (x4.block (x3.block h2)), x5.block (x4.block h3), x5.block h4, h5, hf.ext ((((x1.trans x2).trans x3).trans x4).trans x5), telnone_at _ rfl rfl⟩
end
/-- What Do tells. -/
def Do17P (F : Fil) (Q : Qst) (w : World) (e : Ending) (w' : World) : Prop := ∃ V X, e = .returned (.tuple #[.agg (filC V (datF F Q)), .agg (telC X (datT F Q))]) ∧ FilAt w' V (datF F Q) ∧ TelAt w' X (datT F Q) ∧ Ext w w'
theorem do_told {w wr : World} {V : FilV} {F : Fil} {U : QstV} {Q : Qst} {X : QstV} {T : Tel} (h : Do17 w wr V F U Q X T) : FilAt ((wr.setRow (w.heap.size + 1 + 1) (filC V F)).setRow (w.heap.size + 1 + 1 + 1) (telC X T)) V F ∧ TelAt ((wr.setRow (w.heap.size + 1 + 1) (filC V F)).setRow (w.heap.size + 1 + 1 + 1) (telC X T)) X T ∧ Ext w ((wr.setRow (w.heap.size + 1 + 1) (filC V F)).setRow (w.heap.size + 1 + 1 + 1) (telC X T)) ∧
    ((wr.setRow (w.heap.size + 1 + 1) (filC V F)).setRow (w.heap.size + 1 + 1 + 1) (telC X T)).heap[w.heap.size + 1 + 1]? = some (.cells (filC V F) 29 (0, 0)) ∧ ((wr.setRow (w.heap.size + 1 + 1) (filC V F)).setRow (w.heap.size + 1 + 1 + 1) (telC X T)).heap[w.heap.size + 1 + 1 + 1]? = some (.cells (telC X T) 37 (0, 0)) := by
  have b5 : (wr.setRow (w.heap.size + 1 + 1) (filC V F)).heap[w.heap.size + 1 + 1 + 1]? = some (.cells (telC zeroQV zeroT) 37 (0, 0)) := (setRow_other _ _ _ _ (by omega)).trans h.b5
  refine ⟨(h.f.row h.b4 (plain_fil _ _) _).row b5 (plain_tel _ _) _, (h.t.row h.b4 (plain_fil _ _) _).row b5 (plain_tel _ _) _, below_setRow (below_setRow h.x (by omega) _) (by omega) _, ?_, setRow_heap _ _ _ _ _ _ b5⟩
  exact (setRow_other _ _ _ _ (by omega)).trans (setRow_heap _ _ _ _ _ _ h.b4)

theorem keep_row (w : World) (g : Nat) (cs : Array Value) : Keep (fun i => i = g) w (w.setRow g cs) := ⟨rfl, rfl, rfl, by simp, fun k _ hn => setRow_other w _ k _ hn⟩
set_option maxHeartbeats 4000000 in
theorem rdo17_no (V : FilV) (F : Fil) (U : QstV) (Q : Qst) (w : World) (hF : FilAt w V F) (hQ : QstAt w U Q) (hW : QstW Q) (hFW : FilW F) (hq : rightQ Q = true) (hr : rightB F = true) (h0 : datE F Q ≠ 0) : Calls Tryz.prog 19 #[.agg (filC V F), .agg (qstC U Q)] w (Do17P F Q w) := by
  obtain ⟨W5, hW5, k5, k3, D0⟩ := do_begin V F U Q w hF
  have KC := Lib.hid (fun W (x : Ext w W) => rcode17_any V F U Q W (hF.ext x) hW ((rightQ_iff Q).1 hq).1)
  have c0 : W5.cell? ⟨w.heap.size + 1, 0, none⟩ = some (.int .i64 Q.k) := cell_of_heap k3 rfl
  obtain ⟨E, hE⟩ : ∃ E, datE F Q = E := ⟨_, rfl⟩
  have hne : (E != 0) = true := by rw [← hE]; simp [h0]
  have HD := Lib.hid (datF_no h0)
  rw [hE] at KC HD
  clear h0 hE hq hr hW hFW hF hQ
  go_enter Tryz.func19, Tryz.ntmps19
  go_upto_region 1 with fail
  rw [← hW5]
  clear hW5
  go_upto_region 2 with fail
  obtain ⟨W6, hW6⟩ : ∃ W6, W6 = W5.alloc (.cells #[.int .i64 Q.k, .int .i64 0, .int .i64 0, .int .i64 0, .int .i64 0, .int .i64 0, .int .i64 0, .slice none 0 0, .slice none 0 0] 37) := ⟨_, rfl⟩
  rw [← hW6] at D0 ⊢
  clear hW6 c0 k3 k5
  have c2 := D0.b2
  have c3 := D0.b3
  have xw := D0.x
  go_upto_region 4 with (first
    | (refine wpList_load_row rfl 29 (.tmp 2) rfl (w.heap.size) rfl 29 _ (0, 0) _ c2 Tryz.underlying29 rfl (by kernel_rfl) ?_)
    | (refine wpList_load_row rfl 31 (.tmp 3) rfl (w.heap.size + 1) rfl 31 _ (0, 0) _ c3 Tryz.underlying31 rfl (by kernel_rfl) ?_)
    | (go_at_call 20; refine (KC.out _ xw).mono ?_; rintro e w7 ⟨rfl, x7⟩))
  have D1 := D0.ext x7
  clear D0 c2 c3 xw
  have p1 : w7.cell? ⟨w.heap.size + 1 + 1 + 1 + 1, 1, none⟩ = some (.int .i64 0) := cell_of_heap D1.b6 rfl
  have q1 : w7.frozen? ⟨w.heap.size + 1 + 1 + 1 + 1, 1, none⟩ = false := frozen0 D1.b6
  have D2 := D1.setT (X' := zeroQV) (T' := { zeroT with k := Q.k, cd := E }) 1 (.int .i64 E) rfl (telnone_at _ rfl rfl)
  go_upto_region 5 with fail
  obtain ⟨WN, hWN⟩ : ∃ WN, WN = w7.setCell ⟨w.heap.size + 1 + 1 + 1 + 1, 1, none⟩ (.int .i64 E) := ⟨_, rfl⟩
  rw [← hWN] at D2 ⊢
  clear hWN p1 q1 D1 x7
  go_wp2_with fail
  have hd5 : Ext WN WN.drew := Ext.drew _
  have HL := Lib.hid (fun W (hx : Keep (fun i => i = w.heap.size + 1 + 1 ∨ i = w.heap.size + 1 + 1 + 1) WN W) => (⟨(hx.block _ (heap_lt D2.b2) (by omega)).trans D2.b2, (hx.block _ (heap_lt D2.b6) (by omega)).trans D2.b6⟩ : W.heap[w.heap.size]? = some (.cells (filC V F) 29 (0, 0)) ∧ W.heap[w.heap.size + 1 + 1 + 1 + 1]? = some (.cells (telC zeroQV { zeroT with k := Q.k, cd := E }) 37 (0, 0))))
  have hs : Keep (fun i => i = w.heap.size + 1 + 1 ∨ i = w.heap.size + 1 + 1 + 1) WN WN.drew := Keep.of_ext hd5
  refine wp_region_held_drew (S := fun W => Keep (fun i => i = w.heap.size + 1 + 1 ∨ i = w.heap.size + 1 + 1 + 1) WN W) (by kernel_rfl) hs (fun _ => ?_)
  refine wpAnyH_takeD (i := 0) (d := 20) rfl rfl (by kernel_rfl) (by kernel_rfl) (by kernel_rfl) (fun _ _ _ h => h) (yieldsIf_load_row (by rfl) 29 (.tmp 2) rfl (w.heap.size) rfl 29 _ (0, 0) _ (fun w' hw' => (HL.out _ hw').1) Tryz.underlying29 rfl (by kernel_rfl)) hs ?_
  simp only [Act.put, tkA, tkB, tkC]
  refine wpAnyH_takeD (i := 1) (d := 21) rfl rfl (by kernel_rfl) (by kernel_rfl) (by kernel_rfl) (fun _ _ _ h => h) (yieldsIf_load_row (by rfl) 37 (.tmp 6) rfl (w.heap.size + 1 + 1 + 1 + 1) rfl 37 _ (0, 0) _ (fun w' hw' => (HL.out _ hw').2) Tryz.underlying37 rfl (by kernel_rfl)) hs ?_
  simp only [Act.put, tkA, tkB, tkC]
  refine wpAnyH_ready (rs := [2]) (by kernel_rfl) (by simp) (AllReadyH.cons rfl (fun K hK => ?_) AllReadyH.nil)
  refine step_store_row rfl 29 (.tmp 4) (.tmp 20) rfl (w.heap.size + 1 + 1) _ rfl rfl 29 _ (hd5.block D2.b4) (by kernel_rfl) rfl (by simp [filC, Value.oneCell']) rfl ?_
  refine hK.out _ _ ((Keep.of_ext hd5).trans (keep_row _ _ _) (fun i hi => .inl (.inl hi))) (fun hs => ?_)
  clear hK K
  simp only [Act.put]
  refine wpAnyH_ready (rs := [3]) (by kernel_rfl) (by simp) (AllReadyH.cons rfl (fun K hK => ?_) AllReadyH.nil)
  refine step_store_row rfl 37 (.tmp 5) (.tmp 21) rfl (w.heap.size + 1 + 1 + 1) _ rfl rfl 37 _ ((setRow_other _ _ _ _ (by omega)).trans (hd5.block D2.b5)) (by kernel_rfl) rfl (by simp [telC, Value.oneCell']) rfl ?_
  refine hK.out _ _ (hs.trans (keep_row _ _ _) (fun i hi => .inl (.inr hi))) (fun hs => ?_)
  clear hK K
  simp only [Act.put]
  refine wpAnyH_done (by kernel_rfl) ?_ _
  go_wp2_with fail
  have DE := D2.ext hd5
  obtain ⟨q1, q2, q3, q4, q5⟩ := do_told DE
  refine bodyPost_ret (results_rows _ _ (w.heap.size + 1 + 1) (w.heap.size + 1 + 1 + 1) 29 37 _ _ (0, 0) (0, 0) _ _ rfl rfl q4 Tryz.underlying29 rfl (by kernel_rfl) rfl q5 Tryz.underlying37 rfl (by kernel_rfl)) rfl ?_
  unfold Do17P
  rw [HD.out.1, HD.out.2]
  exact ⟨V, zeroQV, rfl, q1, q2, q3⟩

theorem rmask_v (x a o : Int) (w : World) (hx : 0 ≤ x ∧ x < 65536) (ha : 0 ≤ a ∧ a < 65536) (ho : 0 ≤ o ∧ o < 65536) : Calls Tryz.prog 43 #[.int .u16 x, .int .u16 a, .int .u16 o] w fun e w' => e = .returned (.int .u16 (mskQ x a o)) ∧ w' = w := by
  obtain ⟨X, rfl⟩ := vM_of hx.1 hx.2
  obtain ⟨A, rfl⟩ := vM_of ha.1 ha.2
  obtain ⟨O, rfl⟩ := vM_of ho.1 ho.2
  refine (r13mask_any X A O w).mono fun e w' h => ⟨?_, h.2.symm⟩
  rw [h.1]
  unfold mskQ
  rw [ofInt_vM, ofInt_vM, ofInt_vM]

set_option maxHeartbeats 4000000 in
theorem rdo17_1 (V : FilV) (F : Fil) (U : QstV) (Q : Qst) (w : World) (hF : FilAt w V F) (hQ : QstAt w U Q) (hW : QstW Q) (hFW : FilW F) (hq : rightQ Q = true) (hr : rightB F = true) (h0 : datE F Q = 0) (hk : Q.k = 1) : Calls Tryz.prog 19 #[.agg (filC V F), .agg (qstC U Q)] w (Do17P F Q w) := by
  have hne : ¬ datE F Q ≠ 0 := fun h => h h0
  have af := ask_facts hq
  have hE : True := trivial
  have HD : Hid (datF F Q = F ∧ datT F Q = { zeroT with k := Q.k, nb := (bitN F false Q.ad Q.ct), B := (bitL F false Q.ad) }) := Lib.hid (by
    have e1 : datF F Q = F := by unfold datF; rw [if_neg hne]; simp (config := { decide := true }) only [hk, if_false]
    refine ⟨e1, ?_⟩
    unfold datT; rw [if_neg hne]; simp (config := { decide := true }) only [hk, if_true, if_false] <;> rfl)
  obtain ⟨W5, hW5, k5, k3, D0⟩ := do_begin V F U Q w hF
  have KC := Lib.hid (fun W (x : Ext w W) => rcode17_any V F U Q W (hF.ext x) hW ((rightQ_iff Q).1 hq).1)
  have c0 : W5.cell? ⟨w.heap.size + 1, 0, none⟩ = some (.int .i64 Q.k) := cell_of_heap k3 rfl
  have KB := Lib.hid (fun W (x : Ext w W) => rbits14_any V F false Q.ad Q.ct W (hF.ext x))
  rw [h0] at KC
  have HK := Lib.hid hk
  clear h0 hne af hq hr hW hFW hF hQ hE hk
  go_enter Tryz.func19, Tryz.ntmps19
  go_upto_region 1 with fail
  rw [← hW5]
  clear hW5
  go_upto_region 2 with fail
  obtain ⟨W6, hW6⟩ : ∃ W6, W6 = W5.alloc (.cells #[.int .i64 Q.k, .int .i64 0, .int .i64 0, .int .i64 0, .int .i64 0, .int .i64 0, .int .i64 0, .slice none 0 0, .slice none 0 0] 37) := ⟨_, rfl⟩
  rw [← hW6] at D0 ⊢
  clear hW6 c0 k3 k5
  have c2 := D0.b2
  have c3 := D0.b3
  have xw := D0.x
  go_upto_region 6 with (first
    | (refine wpList_load_row rfl 29 (.tmp 2) rfl (w.heap.size) rfl 29 _ (0, 0) _ c2 Tryz.underlying29 rfl (by kernel_rfl) ?_)
    | (refine wpList_load_row rfl 31 (.tmp 3) rfl (w.heap.size + 1) rfl 31 _ (0, 0) _ c3 Tryz.underlying31 rfl (by kernel_rfl) ?_)
    | (go_at_call 20; refine (KC.out _ xw).mono ?_; rintro e w7 ⟨rfl, x7⟩))
  have D1 := D0.ext x7
  have x1 := xw.trans x7
  clear D0 c2 c3 xw KC x7
  have c2 := D1.b2
  have c0 : w7.cell? ⟨w.heap.size + 1, 0, none⟩ = some (.int .i64 1) := num_cell HK.out (cell_of_heap D1.b3 rfl)
  have c1 : w7.cell? ⟨w.heap.size + 1, 1, none⟩ = some (.int .i64 Q.ad) := cell_of_heap D1.b3 rfl
  have cc : w7.cell? ⟨w.heap.size + 1, 2, none⟩ = some (.int .i64 Q.ct) := cell_of_heap D1.b3 rfl
  go_upto_region 38 with (first
    | (refine wpList_load_row rfl 29 (.tmp 2) rfl w.heap.size rfl 29 _ (0, 0) _ c2 Tryz.underlying29 rfl (by kernel_rfl) ?_)
    | (go_at_call 39; refine (KB.out _ x1).mono ?_; rintro e w8 ⟨bb, qq, rfl, lb, mb, hb, x8, -⟩; have D2 := D1.ext x8; have p7 : w8.cell? ⟨w.heap.size + 1 + 1 + 1 + 1, 7, none⟩ = some (.slice none 0 0) := cell_of_heap D2.b6 rfl; have q7 : w8.frozen? ⟨w.heap.size + 1 + 1 + 1 + 1, 7, none⟩ = false := frozen0 D2.b6; clear c1 cc c0 c2 D1))
  have D3 := D2.setT (X' := ⟨bb, qq, none, 0⟩) (T' := { zeroT with k := Q.k, nb := (bitN F false Q.ad Q.ct), B := (bitL F false Q.ad) }) 7 (.slice bb (bitN F false Q.ad Q.ct) qq) rfl ⟨hb, lb, mb, .inl rfl, Nat.le_refl _, Nat.zero_le _⟩
  obtain ⟨WN, hWN⟩ : ∃ WN, WN = w8.setCell ⟨w.heap.size + 1 + 1 + 1 + 1, 7, none⟩ (.slice bb (bitN F false Q.ad Q.ct) qq) := ⟨_, rfl⟩
  rw [← hWN] at D3 ⊢
  clear hWN p7 q7 D2 x8
  go_wp2_with fail
  have hd5 : Ext WN WN.drew := Ext.drew _
  have HL := Lib.hid (fun W (hx : Keep (fun i => i = w.heap.size + 1 + 1 ∨ i = w.heap.size + 1 + 1 + 1) WN W) => (⟨(hx.block _ (heap_lt D3.b2) (by omega)).trans D3.b2, (hx.block _ (heap_lt D3.b6) (by omega)).trans D3.b6⟩ : W.heap[w.heap.size]? = some (.cells (filC V (F)) 29 (0, 0)) ∧ W.heap[w.heap.size + 1 + 1 + 1 + 1]? = some (.cells (telC ⟨bb, qq, none, 0⟩ { zeroT with k := Q.k, nb := (bitN F false Q.ad Q.ct), B := (bitL F false Q.ad) }) 37 (0, 0))))
  have hs : Keep (fun i => i = w.heap.size + 1 + 1 ∨ i = w.heap.size + 1 + 1 + 1) WN WN.drew := Keep.of_ext hd5
  refine wp_region_held_drew (S := fun W => Keep (fun i => i = w.heap.size + 1 + 1 ∨ i = w.heap.size + 1 + 1 + 1) WN W) (by kernel_rfl) hs (fun _ => ?_)
  refine wpAnyH_takeD (i := 0) (d := 185) rfl rfl (by kernel_rfl) (by kernel_rfl) (by kernel_rfl) (fun _ _ _ h => h) (yieldsIf_load_row (by rfl) 29 (.tmp 2) rfl (w.heap.size) rfl 29 _ (0, 0) _ (fun w' hw' => (HL.out _ hw').1) Tryz.underlying29 rfl (by kernel_rfl)) hs ?_
  simp only [Act.put, tkA, tkB, tkC]
  refine wpAnyH_takeD (i := 1) (d := 186) rfl rfl (by kernel_rfl) (by kernel_rfl) (by kernel_rfl) (fun _ _ _ h => h) (yieldsIf_load_row (by rfl) 37 (.tmp 6) rfl (w.heap.size + 1 + 1 + 1 + 1) rfl 37 _ (0, 0) _ (fun w' hw' => (HL.out _ hw').2) Tryz.underlying37 rfl (by kernel_rfl)) hs ?_
  simp only [Act.put, tkA, tkB, tkC]
  refine wpAnyH_ready (rs := [2]) (by kernel_rfl) (by simp) (AllReadyH.cons rfl (fun K hK => ?_) AllReadyH.nil)
  refine step_store_row rfl 29 (.tmp 4) (.tmp 185) rfl (w.heap.size + 1 + 1) _ rfl rfl 29 _ (hd5.block D3.b4) (by kernel_rfl) rfl (by simp [filC, Value.oneCell']) rfl ?_
  refine hK.out _ _ ((Keep.of_ext hd5).trans (keep_row _ _ _) (fun i hi => .inl (.inl hi))) (fun hs => ?_)
  clear hK K
  simp only [Act.put]
  refine wpAnyH_ready (rs := [3]) (by kernel_rfl) (by simp) (AllReadyH.cons rfl (fun K hK => ?_) AllReadyH.nil)
  refine step_store_row rfl 37 (.tmp 5) (.tmp 186) rfl (w.heap.size + 1 + 1 + 1) _ rfl rfl 37 _ ((setRow_other _ _ _ _ (by omega)).trans (hd5.block D3.b5)) (by kernel_rfl) rfl (by simp [telC, Value.oneCell']) rfl ?_
  refine hK.out _ _ (hs.trans (keep_row _ _ _) (fun i hi => .inl (.inr hi))) (fun hs => ?_)
  clear hK K
  simp only [Act.put]
  refine wpAnyH_done (by kernel_rfl) ?_ _
  go_wp2_with fail
  have DE := D3.ext hd5
  obtain ⟨q1, q2, q3, q4, q5⟩ := do_told DE
  refine bodyPost_ret (results_rows _ _ (w.heap.size + 1 + 1) (w.heap.size + 1 + 1 + 1) 29 37 _ _ (0, 0) (0, 0) _ _ rfl rfl q4 Tryz.underlying29 rfl (by kernel_rfl) rfl q5 Tryz.underlying37 rfl (by kernel_rfl)) rfl ?_
  unfold Do17P
  rw [HD.out.1, HD.out.2]
  exact ⟨V, ⟨bb, qq, none, 0⟩, rfl, q1, q2, q3⟩

set_option maxHeartbeats 4000000 in
theorem rdo17_2 (V : FilV) (F : Fil) (U : QstV) (Q : Qst) (w : World) (hF : FilAt w V F) (hQ : QstAt w U Q) (hW : QstW Q) (hFW : FilW F) (hq : rightQ Q = true) (hr : rightB F = true) (h0 : datE F Q = 0) (hk : Q.k = 2) : Calls Tryz.prog 19 #[.agg (filC V F), .agg (qstC U Q)] w (Do17P F Q w) := by
  have hne : ¬ datE F Q ≠ 0 := fun h => h h0
  have af := ask_facts hq
  have hE : True := trivial
  have HD : Hid (datF F Q = F ∧ datT F Q = { zeroT with k := Q.k, nb := (bitN F true Q.ad Q.ct), B := (bitL F true Q.ad) }) := Lib.hid (by
    have e1 : datF F Q = F := by unfold datF; rw [if_neg hne]; simp (config := { decide := true }) only [hk, if_false]
    refine ⟨e1, ?_⟩
    unfold datT; rw [if_neg hne]; simp (config := { decide := true }) only [hk, if_true, if_false] <;> rfl)
  obtain ⟨W5, hW5, k5, k3, D0⟩ := do_begin V F U Q w hF
  have KC := Lib.hid (fun W (x : Ext w W) => rcode17_any V F U Q W (hF.ext x) hW ((rightQ_iff Q).1 hq).1)
  have c0 : W5.cell? ⟨w.heap.size + 1, 0, none⟩ = some (.int .i64 Q.k) := cell_of_heap k3 rfl
  have KB := Lib.hid (fun W (x : Ext w W) => rbits14_any V F true Q.ad Q.ct W (hF.ext x))
  rw [h0] at KC
  have HK := Lib.hid hk
  clear h0 hne af hq hr hW hFW hF hQ hE hk
  go_enter Tryz.func19, Tryz.ntmps19
  go_upto_region 1 with fail
  rw [← hW5]
  clear hW5
  go_upto_region 2 with fail
  obtain ⟨W6, hW6⟩ : ∃ W6, W6 = W5.alloc (.cells #[.int .i64 Q.k, .int .i64 0, .int .i64 0, .int .i64 0, .int .i64 0, .int .i64 0, .int .i64 0, .slice none 0 0, .slice none 0 0] 37) := ⟨_, rfl⟩
  rw [← hW6] at D0 ⊢
  clear hW6 c0 k3 k5
  have c2 := D0.b2
  have c3 := D0.b3
  have xw := D0.x
  go_upto_region 6 with (first
    | (refine wpList_load_row rfl 29 (.tmp 2) rfl (w.heap.size) rfl 29 _ (0, 0) _ c2 Tryz.underlying29 rfl (by kernel_rfl) ?_)
    | (refine wpList_load_row rfl 31 (.tmp 3) rfl (w.heap.size + 1) rfl 31 _ (0, 0) _ c3 Tryz.underlying31 rfl (by kernel_rfl) ?_)
    | (go_at_call 20; refine (KC.out _ xw).mono ?_; rintro e w7 ⟨rfl, x7⟩))
  have D1 := D0.ext x7
  have x1 := xw.trans x7
  clear D0 c2 c3 xw KC x7
  have c2 := D1.b2
  have c0 : w7.cell? ⟨w.heap.size + 1, 0, none⟩ = some (.int .i64 2) := num_cell HK.out (cell_of_heap D1.b3 rfl)
  have c1 : w7.cell? ⟨w.heap.size + 1, 1, none⟩ = some (.int .i64 Q.ad) := cell_of_heap D1.b3 rfl
  have cc : w7.cell? ⟨w.heap.size + 1, 2, none⟩ = some (.int .i64 Q.ct) := cell_of_heap D1.b3 rfl
  go_upto_region 38 with (first
    | (refine wpList_load_row rfl 29 (.tmp 2) rfl w.heap.size rfl 29 _ (0, 0) _ c2 Tryz.underlying29 rfl (by kernel_rfl) ?_)
    | (go_at_call 39; refine (KB.out _ x1).mono ?_; rintro e w8 ⟨bb, qq, rfl, lb, mb, hb, x8, -⟩; have D2 := D1.ext x8; have p7 : w8.cell? ⟨w.heap.size + 1 + 1 + 1 + 1, 7, none⟩ = some (.slice none 0 0) := cell_of_heap D2.b6 rfl; have q7 : w8.frozen? ⟨w.heap.size + 1 + 1 + 1 + 1, 7, none⟩ = false := frozen0 D2.b6; clear c1 cc c0 c2 D1))
  have D3 := D2.setT (X' := ⟨bb, qq, none, 0⟩) (T' := { zeroT with k := Q.k, nb := (bitN F true Q.ad Q.ct), B := (bitL F true Q.ad) }) 7 (.slice bb (bitN F true Q.ad Q.ct) qq) rfl ⟨hb, lb, mb, .inl rfl, Nat.le_refl _, Nat.zero_le _⟩
  obtain ⟨WN, hWN⟩ : ∃ WN, WN = w8.setCell ⟨w.heap.size + 1 + 1 + 1 + 1, 7, none⟩ (.slice bb (bitN F true Q.ad Q.ct) qq) := ⟨_, rfl⟩
  rw [← hWN] at D3 ⊢
  clear hWN p7 q7 D2 x8
  go_wp2_with fail
  have hd5 : Ext WN WN.drew := Ext.drew _
  have HL := Lib.hid (fun W (hx : Keep (fun i => i = w.heap.size + 1 + 1 ∨ i = w.heap.size + 1 + 1 + 1) WN W) => (⟨(hx.block _ (heap_lt D3.b2) (by omega)).trans D3.b2, (hx.block _ (heap_lt D3.b6) (by omega)).trans D3.b6⟩ : W.heap[w.heap.size]? = some (.cells (filC V (F)) 29 (0, 0)) ∧ W.heap[w.heap.size + 1 + 1 + 1 + 1]? = some (.cells (telC ⟨bb, qq, none, 0⟩ { zeroT with k := Q.k, nb := (bitN F true Q.ad Q.ct), B := (bitL F true Q.ad) }) 37 (0, 0))))
  have hs : Keep (fun i => i = w.heap.size + 1 + 1 ∨ i = w.heap.size + 1 + 1 + 1) WN WN.drew := Keep.of_ext hd5
  refine wp_region_held_drew (S := fun W => Keep (fun i => i = w.heap.size + 1 + 1 ∨ i = w.heap.size + 1 + 1 + 1) WN W) (by kernel_rfl) hs (fun _ => ?_)
  refine wpAnyH_takeD (i := 0) (d := 185) rfl rfl (by kernel_rfl) (by kernel_rfl) (by kernel_rfl) (fun _ _ _ h => h) (yieldsIf_load_row (by rfl) 29 (.tmp 2) rfl (w.heap.size) rfl 29 _ (0, 0) _ (fun w' hw' => (HL.out _ hw').1) Tryz.underlying29 rfl (by kernel_rfl)) hs ?_
  simp only [Act.put, tkA, tkB, tkC]
  refine wpAnyH_takeD (i := 1) (d := 186) rfl rfl (by kernel_rfl) (by kernel_rfl) (by kernel_rfl) (fun _ _ _ h => h) (yieldsIf_load_row (by rfl) 37 (.tmp 6) rfl (w.heap.size + 1 + 1 + 1 + 1) rfl 37 _ (0, 0) _ (fun w' hw' => (HL.out _ hw').2) Tryz.underlying37 rfl (by kernel_rfl)) hs ?_
  simp only [Act.put, tkA, tkB, tkC]
  refine wpAnyH_ready (rs := [2]) (by kernel_rfl) (by simp) (AllReadyH.cons rfl (fun K hK => ?_) AllReadyH.nil)
  refine step_store_row rfl 29 (.tmp 4) (.tmp 185) rfl (w.heap.size + 1 + 1) _ rfl rfl 29 _ (hd5.block D3.b4) (by kernel_rfl) rfl (by simp [filC, Value.oneCell']) rfl ?_
  refine hK.out _ _ ((Keep.of_ext hd5).trans (keep_row _ _ _) (fun i hi => .inl (.inl hi))) (fun hs => ?_)
  clear hK K
  simp only [Act.put]
  refine wpAnyH_ready (rs := [3]) (by kernel_rfl) (by simp) (AllReadyH.cons rfl (fun K hK => ?_) AllReadyH.nil)
  refine step_store_row rfl 37 (.tmp 5) (.tmp 186) rfl (w.heap.size + 1 + 1 + 1) _ rfl rfl 37 _ ((setRow_other _ _ _ _ (by omega)).trans (hd5.block D3.b5)) (by kernel_rfl) rfl (by simp [telC, Value.oneCell']) rfl ?_
  refine hK.out _ _ (hs.trans (keep_row _ _ _) (fun i hi => .inl (.inr hi))) (fun hs => ?_)
  clear hK K
  simp only [Act.put]
  refine wpAnyH_done (by kernel_rfl) ?_ _
  go_wp2_with fail
  have DE := D3.ext hd5
  obtain ⟨q1, q2, q3, q4, q5⟩ := do_told DE
  refine bodyPost_ret (results_rows _ _ (w.heap.size + 1 + 1) (w.heap.size + 1 + 1 + 1) 29 37 _ _ (0, 0) (0, 0) _ _ rfl rfl q4 Tryz.underlying29 rfl (by kernel_rfl) rfl q5 Tryz.underlying37 rfl (by kernel_rfl)) rfl ?_
  unfold Do17P
  rw [HD.out.1, HD.out.2]
  exact ⟨V, ⟨bb, qq, none, 0⟩, rfl, q1, q2, q3⟩

set_option maxHeartbeats 4000000 in
theorem rdo17_3 (V : FilV) (F : Fil) (U : QstV) (Q : Qst) (w : World) (hF : FilAt w V F) (hQ : QstAt w U Q) (hW : QstW Q) (hFW : FilW F) (hq : rightQ Q = true) (hr : rightB F = true) (h0 : datE F Q = 0) (hk : Q.k = 3) : Calls Tryz.prog 19 #[.agg (filC V F), .agg (qstC U Q)] w (Do17P F Q w) := by
  have hne : ¬ datE F Q ≠ 0 := fun h => h h0
  have af := ask_facts hq
  have hE : True := trivial
  have HD : Hid (datF F Q = F ∧ datT F Q = { zeroT with k := Q.k, nr := (wrdN F false Q.ad Q.ct), R := (wrdL F false Q.ad) }) := Lib.hid (by
    have e1 : datF F Q = F := by unfold datF; rw [if_neg hne]; simp (config := { decide := true }) only [hk, if_false]
    refine ⟨e1, ?_⟩
    unfold datT; rw [if_neg hne]; simp (config := { decide := true }) only [hk, if_true, if_false] <;> rfl)
  obtain ⟨W5, hW5, k5, k3, D0⟩ := do_begin V F U Q w hF
  have KC := Lib.hid (fun W (x : Ext w W) => rcode17_any V F U Q W (hF.ext x) hW ((rightQ_iff Q).1 hq).1)
  have c0 : W5.cell? ⟨w.heap.size + 1, 0, none⟩ = some (.int .i64 Q.k) := cell_of_heap k3 rfl
  have KB := Lib.hid (fun W (x : Ext w W) => rwords14_any V F false Q.ad Q.ct W (hF.ext x) hW.wad hW.wct)
  rw [h0] at KC
  have HK := Lib.hid hk
  clear h0 hne af hq hr hW hFW hF hQ hE hk
  go_enter Tryz.func19, Tryz.ntmps19
  go_upto_region 1 with fail
  rw [← hW5]
  clear hW5
  go_upto_region 2 with fail
  obtain ⟨W6, hW6⟩ : ∃ W6, W6 = W5.alloc (.cells #[.int .i64 Q.k, .int .i64 0, .int .i64 0, .int .i64 0, .int .i64 0, .int .i64 0, .int .i64 0, .slice none 0 0, .slice none 0 0] 37) := ⟨_, rfl⟩
  rw [← hW6] at D0 ⊢
  clear hW6 c0 k3 k5
  have c2 := D0.b2
  have c3 := D0.b3
  have xw := D0.x
  go_upto_region 6 with (first
    | (refine wpList_load_row rfl 29 (.tmp 2) rfl (w.heap.size) rfl 29 _ (0, 0) _ c2 Tryz.underlying29 rfl (by kernel_rfl) ?_)
    | (refine wpList_load_row rfl 31 (.tmp 3) rfl (w.heap.size + 1) rfl 31 _ (0, 0) _ c3 Tryz.underlying31 rfl (by kernel_rfl) ?_)
    | (go_at_call 20; refine (KC.out _ xw).mono ?_; rintro e w7 ⟨rfl, x7⟩))
  have D1 := D0.ext x7
  have x1 := xw.trans x7
  clear D0 c2 c3 xw KC x7
  have c2 := D1.b2
  have c0 : w7.cell? ⟨w.heap.size + 1, 0, none⟩ = some (.int .i64 3) := num_cell HK.out (cell_of_heap D1.b3 rfl)
  have c1 : w7.cell? ⟨w.heap.size + 1, 1, none⟩ = some (.int .i64 Q.ad) := cell_of_heap D1.b3 rfl
  have cc : w7.cell? ⟨w.heap.size + 1, 2, none⟩ = some (.int .i64 Q.ct) := cell_of_heap D1.b3 rfl
  go_upto_region 38 with (first
    | (refine wpList_load_row rfl 29 (.tmp 2) rfl w.heap.size rfl 29 _ (0, 0) _ c2 Tryz.underlying29 rfl (by kernel_rfl) ?_)
    | (go_at_call 40; refine (KB.out _ x1).mono ?_; rintro e w8 ⟨bb, qq, rfl, lb, mb, hb, x8, -⟩; have D2 := D1.ext x8; have p7 : w8.cell? ⟨w.heap.size + 1 + 1 + 1 + 1, 8, none⟩ = some (.slice none 0 0) := cell_of_heap D2.b6 rfl; have q7 : w8.frozen? ⟨w.heap.size + 1 + 1 + 1 + 1, 8, none⟩ = false := frozen0 D2.b6; clear c1 cc c0 c2 D1))
  have D3 := D2.setT (X' := ⟨none, 0, bb, qq⟩) (T' := { zeroT with k := Q.k, nr := (wrdN F false Q.ad Q.ct), R := (wrdL F false Q.ad) }) 8 (.slice bb (wrdN F false Q.ad Q.ct) qq) rfl ⟨.inl rfl, Nat.le_refl _, Nat.zero_le _, hb, lb, mb⟩
  obtain ⟨WN, hWN⟩ : ∃ WN, WN = w8.setCell ⟨w.heap.size + 1 + 1 + 1 + 1, 8, none⟩ (.slice bb (wrdN F false Q.ad Q.ct) qq) := ⟨_, rfl⟩
  rw [← hWN] at D3 ⊢
  clear hWN p7 q7 D2 x8
  go_wp2_with fail
  have hd5 : Ext WN WN.drew := Ext.drew _
  have HL := Lib.hid (fun W (hx : Keep (fun i => i = w.heap.size + 1 + 1 ∨ i = w.heap.size + 1 + 1 + 1) WN W) => (⟨(hx.block _ (heap_lt D3.b2) (by omega)).trans D3.b2, (hx.block _ (heap_lt D3.b6) (by omega)).trans D3.b6⟩ : W.heap[w.heap.size]? = some (.cells (filC V (F)) 29 (0, 0)) ∧ W.heap[w.heap.size + 1 + 1 + 1 + 1]? = some (.cells (telC ⟨none, 0, bb, qq⟩ { zeroT with k := Q.k, nr := (wrdN F false Q.ad Q.ct), R := (wrdL F false Q.ad) }) 37 (0, 0))))
  have hs : Keep (fun i => i = w.heap.size + 1 + 1 ∨ i = w.heap.size + 1 + 1 + 1) WN WN.drew := Keep.of_ext hd5
  refine wp_region_held_drew (S := fun W => Keep (fun i => i = w.heap.size + 1 + 1 ∨ i = w.heap.size + 1 + 1 + 1) WN W) (by kernel_rfl) hs (fun _ => ?_)
  refine wpAnyH_takeD (i := 0) (d := 185) rfl rfl (by kernel_rfl) (by kernel_rfl) (by kernel_rfl) (fun _ _ _ h => h) (yieldsIf_load_row (by rfl) 29 (.tmp 2) rfl (w.heap.size) rfl 29 _ (0, 0) _ (fun w' hw' => (HL.out _ hw').1) Tryz.underlying29 rfl (by kernel_rfl)) hs ?_
  simp only [Act.put, tkA, tkB, tkC]
  refine wpAnyH_takeD (i := 1) (d := 186) rfl rfl (by kernel_rfl) (by kernel_rfl) (by kernel_rfl) (fun _ _ _ h => h) (yieldsIf_load_row (by rfl) 37 (.tmp 6) rfl (w.heap.size + 1 + 1 + 1 + 1) rfl 37 _ (0, 0) _ (fun w' hw' => (HL.out _ hw').2) Tryz.underlying37 rfl (by kernel_rfl)) hs ?_
  simp only [Act.put, tkA, tkB, tkC]
  refine wpAnyH_ready (rs := [2]) (by kernel_rfl) (by simp) (AllReadyH.cons rfl (fun K hK => ?_) AllReadyH.nil)
  refine step_store_row rfl 29 (.tmp 4) (.tmp 185) rfl (w.heap.size + 1 + 1) _ rfl rfl 29 _ (hd5.block D3.b4) (by kernel_rfl) rfl (by simp [filC, Value.oneCell']) rfl ?_
  refine hK.out _ _ ((Keep.of_ext hd5).trans (keep_row _ _ _) (fun i hi => .inl (.inl hi))) (fun hs => ?_)
  clear hK K
  simp only [Act.put]
  refine wpAnyH_ready (rs := [3]) (by kernel_rfl) (by simp) (AllReadyH.cons rfl (fun K hK => ?_) AllReadyH.nil)
  refine step_store_row rfl 37 (.tmp 5) (.tmp 186) rfl (w.heap.size + 1 + 1 + 1) _ rfl rfl 37 _ ((setRow_other _ _ _ _ (by omega)).trans (hd5.block D3.b5)) (by kernel_rfl) rfl (by simp [telC, Value.oneCell']) rfl ?_
  refine hK.out _ _ (hs.trans (keep_row _ _ _) (fun i hi => .inl (.inr hi))) (fun hs => ?_)
  clear hK K
  simp only [Act.put]
  refine wpAnyH_done (by kernel_rfl) ?_ _
  go_wp2_with fail
  have DE := D3.ext hd5
  obtain ⟨q1, q2, q3, q4, q5⟩ := do_told DE
  refine bodyPost_ret (results_rows _ _ (w.heap.size + 1 + 1) (w.heap.size + 1 + 1 + 1) 29 37 _ _ (0, 0) (0, 0) _ _ rfl rfl q4 Tryz.underlying29 rfl (by kernel_rfl) rfl q5 Tryz.underlying37 rfl (by kernel_rfl)) rfl ?_
  unfold Do17P
  rw [HD.out.1, HD.out.2]
  exact ⟨V, ⟨none, 0, bb, qq⟩, rfl, q1, q2, q3⟩

set_option maxHeartbeats 4000000 in
theorem rdo17_4 (V : FilV) (F : Fil) (U : QstV) (Q : Qst) (w : World) (hF : FilAt w V F) (hQ : QstAt w U Q) (hW : QstW Q) (hFW : FilW F) (hq : rightQ Q = true) (hr : rightB F = true) (h0 : datE F Q = 0) (hk : Q.k = 4) : Calls Tryz.prog 19 #[.agg (filC V F), .agg (qstC U Q)] w (Do17P F Q w) := by
  have hne : ¬ datE F Q ≠ 0 := fun h => h h0
  have af := ask_facts hq
  have hE : True := trivial
  have HD : Hid (datF F Q = F ∧ datT F Q = { zeroT with k := Q.k, nr := (wrdN F true Q.ad Q.ct), R := (wrdL F true Q.ad) }) := Lib.hid (by
    have e1 : datF F Q = F := by unfold datF; rw [if_neg hne]; simp (config := { decide := true }) only [hk, if_false]
    refine ⟨e1, ?_⟩
    unfold datT; rw [if_neg hne]; simp (config := { decide := true }) only [hk, if_true, if_false] <;> rfl)
  obtain ⟨W5, hW5, k5, k3, D0⟩ := do_begin V F U Q w hF
  have KC := Lib.hid (fun W (x : Ext w W) => rcode17_any V F U Q W (hF.ext x) hW ((rightQ_iff Q).1 hq).1)
  have c0 : W5.cell? ⟨w.heap.size + 1, 0, none⟩ = some (.int .i64 Q.k) := cell_of_heap k3 rfl
  have KB := Lib.hid (fun W (x : Ext w W) => rwords14_any V F true Q.ad Q.ct W (hF.ext x) hW.wad hW.wct)
  rw [h0] at KC
  have HK := Lib.hid hk
  clear h0 hne af hq hr hW hFW hF hQ hE hk
  go_enter Tryz.func19, Tryz.ntmps19
  go_upto_region 1 with fail
  rw [← hW5]
  clear hW5
  go_upto_region 2 with fail
  obtain ⟨W6, hW6⟩ : ∃ W6, W6 = W5.alloc (.cells #[.int .i64 Q.k, .int .i64 0, .int .i64 0, .int .i64 0, .int .i64 0, .int .i64 0, .int .i64 0, .slice none 0 0, .slice none 0 0] 37) := ⟨_, rfl⟩
  rw [← hW6] at D0 ⊢
  clear hW6 c0 k3 k5
  have c2 := D0.b2
  have c3 := D0.b3
  have xw := D0.x
  go_upto_region 6 with (first
    | (refine wpList_load_row rfl 29 (.tmp 2) rfl (w.heap.size) rfl 29 _ (0, 0) _ c2 Tryz.underlying29 rfl (by kernel_rfl) ?_)
    | (refine wpList_load_row rfl 31 (.tmp 3) rfl (w.heap.size + 1) rfl 31 _ (0, 0) _ c3 Tryz.underlying31 rfl (by kernel_rfl) ?_)
    | (go_at_call 20; refine (KC.out _ xw).mono ?_; rintro e w7 ⟨rfl, x7⟩))
  have D1 := D0.ext x7
  have x1 := xw.trans x7
  clear D0 c2 c3 xw KC x7
  have c2 := D1.b2
  have c0 : w7.cell? ⟨w.heap.size + 1, 0, none⟩ = some (.int .i64 4) := num_cell HK.out (cell_of_heap D1.b3 rfl)
  have c1 : w7.cell? ⟨w.heap.size + 1, 1, none⟩ = some (.int .i64 Q.ad) := cell_of_heap D1.b3 rfl
  have cc : w7.cell? ⟨w.heap.size + 1, 2, none⟩ = some (.int .i64 Q.ct) := cell_of_heap D1.b3 rfl
  go_upto_region 38 with (first
    | (refine wpList_load_row rfl 29 (.tmp 2) rfl w.heap.size rfl 29 _ (0, 0) _ c2 Tryz.underlying29 rfl (by kernel_rfl) ?_)
    | (go_at_call 40; refine (KB.out _ x1).mono ?_; rintro e w8 ⟨bb, qq, rfl, lb, mb, hb, x8, -⟩; have D2 := D1.ext x8; have p7 : w8.cell? ⟨w.heap.size + 1 + 1 + 1 + 1, 8, none⟩ = some (.slice none 0 0) := cell_of_heap D2.b6 rfl; have q7 : w8.frozen? ⟨w.heap.size + 1 + 1 + 1 + 1, 8, none⟩ = false := frozen0 D2.b6; clear c1 cc c0 c2 D1))
  have D3 := D2.setT (X' := ⟨none, 0, bb, qq⟩) (T' := { zeroT with k := Q.k, nr := (wrdN F true Q.ad Q.ct), R := (wrdL F true Q.ad) }) 8 (.slice bb (wrdN F true Q.ad Q.ct) qq) rfl ⟨.inl rfl, Nat.le_refl _, Nat.zero_le _, hb, lb, mb⟩
  obtain ⟨WN, hWN⟩ : ∃ WN, WN = w8.setCell ⟨w.heap.size + 1 + 1 + 1 + 1, 8, none⟩ (.slice bb (wrdN F true Q.ad Q.ct) qq) := ⟨_, rfl⟩
  rw [← hWN] at D3 ⊢
  clear hWN p7 q7 D2 x8
  go_wp2_with fail
  have hd5 : Ext WN WN.drew := Ext.drew _
  have HL := Lib.hid (fun W (hx : Keep (fun i => i = w.heap.size + 1 + 1 ∨ i = w.heap.size + 1 + 1 + 1) WN W) => (⟨(hx.block _ (heap_lt D3.b2) (by omega)).trans D3.b2, (hx.block _ (heap_lt D3.b6) (by omega)).trans D3.b6⟩ : W.heap[w.heap.size]? = some (.cells (filC V (F)) 29 (0, 0)) ∧ W.heap[w.heap.size + 1 + 1 + 1 + 1]? = some (.cells (telC ⟨none, 0, bb, qq⟩ { zeroT with k := Q.k, nr := (wrdN F true Q.ad Q.ct), R := (wrdL F true Q.ad) }) 37 (0, 0))))
  have hs : Keep (fun i => i = w.heap.size + 1 + 1 ∨ i = w.heap.size + 1 + 1 + 1) WN WN.drew := Keep.of_ext hd5
  refine wp_region_held_drew (S := fun W => Keep (fun i => i = w.heap.size + 1 + 1 ∨ i = w.heap.size + 1 + 1 + 1) WN W) (by kernel_rfl) hs (fun _ => ?_)
  refine wpAnyH_takeD (i := 0) (d := 185) rfl rfl (by kernel_rfl) (by kernel_rfl) (by kernel_rfl) (fun _ _ _ h => h) (yieldsIf_load_row (by rfl) 29 (.tmp 2) rfl (w.heap.size) rfl 29 _ (0, 0) _ (fun w' hw' => (HL.out _ hw').1) Tryz.underlying29 rfl (by kernel_rfl)) hs ?_
  simp only [Act.put, tkA, tkB, tkC]
  refine wpAnyH_takeD (i := 1) (d := 186) rfl rfl (by kernel_rfl) (by kernel_rfl) (by kernel_rfl) (fun _ _ _ h => h) (yieldsIf_load_row (by rfl) 37 (.tmp 6) rfl (w.heap.size + 1 + 1 + 1 + 1) rfl 37 _ (0, 0) _ (fun w' hw' => (HL.out _ hw').2) Tryz.underlying37 rfl (by kernel_rfl)) hs ?_
  simp only [Act.put, tkA, tkB, tkC]
  refine wpAnyH_ready (rs := [2]) (by kernel_rfl) (by simp) (AllReadyH.cons rfl (fun K hK => ?_) AllReadyH.nil)
  refine step_store_row rfl 29 (.tmp 4) (.tmp 185) rfl (w.heap.size + 1 + 1) _ rfl rfl 29 _ (hd5.block D3.b4) (by kernel_rfl) rfl (by simp [filC, Value.oneCell']) rfl ?_
  refine hK.out _ _ ((Keep.of_ext hd5).trans (keep_row _ _ _) (fun i hi => .inl (.inl hi))) (fun hs => ?_)
  clear hK K
  simp only [Act.put]
  refine wpAnyH_ready (rs := [3]) (by kernel_rfl) (by simp) (AllReadyH.cons rfl (fun K hK => ?_) AllReadyH.nil)
  refine step_store_row rfl 37 (.tmp 5) (.tmp 186) rfl (w.heap.size + 1 + 1 + 1) _ rfl rfl 37 _ ((setRow_other _ _ _ _ (by omega)).trans (hd5.block D3.b5)) (by kernel_rfl) rfl (by simp [telC, Value.oneCell']) rfl ?_
  refine hK.out _ _ (hs.trans (keep_row _ _ _) (fun i hi => .inl (.inr hi))) (fun hs => ?_)
  clear hK K
  simp only [Act.put]
  refine wpAnyH_done (by kernel_rfl) ?_ _
  go_wp2_with fail
  have DE := D3.ext hd5
  obtain ⟨q1, q2, q3, q4, q5⟩ := do_told DE
  refine bodyPost_ret (results_rows _ _ (w.heap.size + 1 + 1) (w.heap.size + 1 + 1 + 1) 29 37 _ _ (0, 0) (0, 0) _ _ rfl rfl q4 Tryz.underlying29 rfl (by kernel_rfl) rfl q5 Tryz.underlying37 rfl (by kernel_rfl)) rfl ?_
  unfold Do17P
  rw [HD.out.1, HD.out.2]
  exact ⟨V, ⟨none, 0, bb, qq⟩, rfl, q1, q2, q3⟩
end Go.Proofs.YtlafnobjfajamaaGreat
namespace Go.Proofs.YtlafnobjfajamaaGreat
open Go.RowKit
set_option linter.unusedVariables false
set_option maxRecDepth 100000

set_option maxHeartbeats 4000000 in
theorem rdo17_5 (V : FilV) (F : Fil) (U : QstV) (Q : Qst) (w : World) (hF : FilAt w V F) (hQ : QstAt w U Q) (hW : QstW Q) (hFW : FilW F) (hq : rightQ Q = true) (hr : rightB F = true) (h0 : datE F Q = 0) (hk : Q.k = 5) : Calls Tryz.prog 19 #[.agg (filC V F), .agg (qstC U Q)] w (Do17P F Q w) := by
  have hne : ¬ datE F Q ≠ 0 := fun h => h h0
  have af := ask_facts hq
  have hE : True := trivial
  have HD : Hid (datF F Q = (sbF F Q.ad 1 (fun _ => decide (Q.va = 65280))) ∧ datT F Q = { zeroT with k := Q.k, ad := Q.ad, va := Q.va }) := Lib.hid (by
    have e1 : datF F Q = (sbF F Q.ad 1 (fun _ => decide (Q.va = 65280))) := by unfold datF; rw [if_neg hne]; simp (config := { decide := true }) only [hk, if_true, if_false]
    refine ⟨e1, ?_⟩
    unfold datT; rw [if_neg hne]; simp (config := { decide := true }) only [hk, if_true, if_false] <;> rfl)
  obtain ⟨W5, hW5, k5, k3, D0⟩ := do_begin V F U Q w hF
  have KC := Lib.hid (fun W (x : Ext w W) => rcode17_any V F U Q W (hF.ext x) hW ((rightQ_iff Q).1 hq).1)
  have c0 : W5.cell? ⟨w.heap.size + 1, 0, none⟩ = some (.int .i64 Q.k) := cell_of_heap k3 rfl
  obtain ⟨B, hB⟩ : ∃ B, decide (Q.va = 65280) = B := ⟨_, rfl⟩
  have hB' : (Q.va == 65280) = B := hB
  rw [hB] at HD
  clear hB
  have KB := Lib.hid (fun W (x : Ext w W) (g : Nat) (h : HoldsG Value.bool W (some ⟨g, 0, none⟩) 1 (fun _ => B)) => rsetbits14_any V F Q.ad (some ⟨g, 0, none⟩) 1 1 (fun _ => B) W (hF.ext x) h (by omega))
  rw [h0] at KC
  have HK := Lib.hid hk
  clear h0 hne af hq hr hW hFW hF hQ hE hk
  go_enter Tryz.func19, Tryz.ntmps19
  go_upto_region 1 with fail
  rw [← hW5]
  clear hW5
  go_upto_region 2 with fail
  obtain ⟨W6, hW6⟩ : ∃ W6, W6 = W5.alloc (.cells #[.int .i64 Q.k, .int .i64 0, .int .i64 0, .int .i64 0, .int .i64 0, .int .i64 0, .int .i64 0, .slice none 0 0, .slice none 0 0] 37) := ⟨_, rfl⟩
  rw [← hW6] at D0 ⊢
  clear hW6 c0 k3 k5
  have c2 := D0.b2
  have c3 := D0.b3
  have xw := D0.x
  go_upto_region 6 with (first
    | (refine wpList_load_row rfl 29 (.tmp 2) rfl (w.heap.size) rfl 29 _ (0, 0) _ c2 Tryz.underlying29 rfl (by kernel_rfl) ?_)
    | (refine wpList_load_row rfl 31 (.tmp 3) rfl (w.heap.size + 1) rfl 31 _ (0, 0) _ c3 Tryz.underlying31 rfl (by kernel_rfl) ?_)
    | (go_at_call 20; refine (KC.out _ xw).mono ?_; rintro e w7 ⟨rfl, x7⟩))
  have D1 := D0.ext x7
  have x1 := xw.trans x7
  clear D0 c2 c3 xw KC x7
  have c2 := D1.b2
  have c0 : w7.cell? ⟨w.heap.size + 1, 0, none⟩ = some (.int .i64 5) := num_cell HK.out (cell_of_heap D1.b3 rfl)
  have c1 : w7.cell? ⟨w.heap.size + 1, 1, none⟩ = some (.int .i64 Q.ad) := cell_of_heap D1.b3 rfl
  have cv : w7.cell? ⟨w.heap.size + 1, 3, none⟩ = some (.int .i64 Q.va) := cell_of_heap D1.b3 rfl
  go_upto_region 15 with (first
    | (refine wpList_load_row rfl 29 (.tmp 2) rfl w.heap.size rfl 29 _ (0, 0) _ c2 Tryz.underlying29 rfl (by kernel_rfl) ?_)
    | (go_at_call 41; refine (KB.out _ (x1.trans (Ext.alloc _ _)) _ (one_cell (mk := Value.bool) w7 B _)).mono ?_; rintro e w8 ⟨V8, rfl, hf8, x8, -⟩; have D2 := D1.ext ((Ext.alloc _ _).trans x8); have b2 := D2.b2; clear c2 c0 c1)
    | (refine wpList_store_row rfl 29 (.tmp 2) (.tmp 67) rfl w.heap.size _ rfl rfl 29 _ b2 (by kernel_rfl) rfl (by simp [filC, Value.oneCell']) ?_))
  have D3 := D2.setF hf8
  obtain ⟨w9, hw9⟩ : ∃ W, W = w8.setRow w.heap.size (filC V8 (sbF F Q.ad 1 (fun _ => B))) := ⟨_, rfl⟩
  rw [← hw9] at D3 ⊢
  clear hw9 b2 D2 hf8 D1 x8
  have a0 : w9.cell? ⟨w.heap.size + 1, 1, none⟩ = some (.int .i64 Q.ad) := cell_of_heap D3.b3 rfl
  have p0 : w9.cell? ⟨w.heap.size + 1 + 1 + 1 + 1, 2, none⟩ = some (.int .i64 0) := cell_of_heap D3.b6 rfl
  have q0 : w9.frozen? ⟨w.heap.size + 1 + 1 + 1 + 1, 2, none⟩ = false := frozen0 D3.b6
  have Df0 := D3.setT (X' := zeroQV) (T' := { zeroT with k := Q.k, ad := Q.ad }) 2 (.int .i64 Q.ad) rfl (telnone_at _ rfl rfl)
  go_upto_region 16 with fail
  obtain ⟨wf0, hwf0⟩ : ∃ W, W = w9.setCell ⟨w.heap.size + 1 + 1 + 1 + 1, 2, none⟩ (.int .i64 Q.ad) := ⟨_, rfl⟩
  rw [← hwf0] at Df0 ⊢
  clear hwf0 a0 p0 q0 D3
  have a1 : wf0.cell? ⟨w.heap.size + 1, 3, none⟩ = some (.int .i64 Q.va) := cell_of_heap Df0.b3 rfl
  have p1 : wf0.cell? ⟨w.heap.size + 1 + 1 + 1 + 1, 4, none⟩ = some (.int .i64 0) := cell_of_heap Df0.b6 rfl
  have q1 : wf0.frozen? ⟨w.heap.size + 1 + 1 + 1 + 1, 4, none⟩ = false := frozen0 Df0.b6
  have Df1 := Df0.setT (X' := zeroQV) (T' := { zeroT with k := Q.k, ad := Q.ad, va := Q.va }) 4 (.int .i64 Q.va) rfl (telnone_at _ rfl rfl)
  go_upto_region 38 with fail
  obtain ⟨wf1, hwf1⟩ : ∃ W, W = wf0.setCell ⟨w.heap.size + 1 + 1 + 1 + 1, 4, none⟩ (.int .i64 Q.va) := ⟨_, rfl⟩
  rw [← hwf1] at Df1 ⊢
  clear hwf1 a1 p1 q1 Df0
  go_wp2_with fail
  have hd5 : Ext wf1 wf1.drew := Ext.drew _
  have HL := Lib.hid (fun W (hx : Keep (fun i => i = w.heap.size + 1 + 1 ∨ i = w.heap.size + 1 + 1 + 1) wf1 W) => (⟨(hx.block _ (heap_lt Df1.b2) (by omega)).trans Df1.b2, (hx.block _ (heap_lt Df1.b6) (by omega)).trans Df1.b6⟩ : W.heap[w.heap.size]? = some (.cells (filC V8 (sbF F Q.ad 1 (fun _ => B))) 29 (0, 0)) ∧ W.heap[w.heap.size + 1 + 1 + 1 + 1]? = some (.cells (telC zeroQV { zeroT with k := Q.k, ad := Q.ad, va := Q.va }) 37 (0, 0))))
  have hs : Keep (fun i => i = w.heap.size + 1 + 1 ∨ i = w.heap.size + 1 + 1 + 1) wf1 wf1.drew := Keep.of_ext hd5
  refine wp_region_held_drew (S := fun W => Keep (fun i => i = w.heap.size + 1 + 1 ∨ i = w.heap.size + 1 + 1 + 1) wf1 W) (by kernel_rfl) hs (fun _ => ?_)
  refine wpAnyH_takeD (i := 0) (d := 185) rfl rfl (by kernel_rfl) (by kernel_rfl) (by kernel_rfl) (fun _ _ _ h => h) (yieldsIf_load_row (by rfl) 29 (.tmp 2) rfl (w.heap.size) rfl 29 _ (0, 0) _ (fun w' hw' => (HL.out _ hw').1) Tryz.underlying29 rfl (by kernel_rfl)) hs ?_
  simp only [Act.put, tkA, tkB, tkC]
  refine wpAnyH_takeD (i := 1) (d := 186) rfl rfl (by kernel_rfl) (by kernel_rfl) (by kernel_rfl) (fun _ _ _ h => h) (yieldsIf_load_row (by rfl) 37 (.tmp 6) rfl (w.heap.size + 1 + 1 + 1 + 1) rfl 37 _ (0, 0) _ (fun w' hw' => (HL.out _ hw').2) Tryz.underlying37 rfl (by kernel_rfl)) hs ?_
  simp only [Act.put, tkA, tkB, tkC]
  refine wpAnyH_ready (rs := [2]) (by kernel_rfl) (by simp) (AllReadyH.cons rfl (fun K hK => ?_) AllReadyH.nil)
  refine step_store_row rfl 29 (.tmp 4) (.tmp 185) rfl (w.heap.size + 1 + 1) _ rfl rfl 29 _ (hd5.block Df1.b4) (by kernel_rfl) rfl (by simp [filC, Value.oneCell']) rfl ?_
  refine hK.out _ _ ((Keep.of_ext hd5).trans (keep_row _ _ _) (fun i hi => .inl (.inl hi))) (fun hs => ?_)
  clear hK K
  simp only [Act.put]
  refine wpAnyH_ready (rs := [3]) (by kernel_rfl) (by simp) (AllReadyH.cons rfl (fun K hK => ?_) AllReadyH.nil)
  refine step_store_row rfl 37 (.tmp 5) (.tmp 186) rfl (w.heap.size + 1 + 1 + 1) _ rfl rfl 37 _ ((setRow_other _ _ _ _ (by omega)).trans (hd5.block Df1.b5)) (by kernel_rfl) rfl (by simp [telC, Value.oneCell']) rfl ?_
  refine hK.out _ _ (hs.trans (keep_row _ _ _) (fun i hi => .inl (.inr hi))) (fun hs => ?_)
  clear hK K
  simp only [Act.put]
  refine wpAnyH_done (by kernel_rfl) ?_ _
  go_wp2_with fail
  have DE := Df1.ext hd5
  obtain ⟨q1, q2, q3, q4, q5⟩ := do_told DE
  refine bodyPost_ret (results_rows _ _ (w.heap.size + 1 + 1) (w.heap.size + 1 + 1 + 1) 29 37 _ _ (0, 0) (0, 0) _ _ rfl rfl q4 Tryz.underlying29 rfl (by kernel_rfl) rfl q5 Tryz.underlying37 rfl (by kernel_rfl)) rfl ?_
  unfold Do17P
  rw [HD.out.1, HD.out.2]
  exact ⟨V8, zeroQV, rfl, q1, q2, q3⟩

set_option maxHeartbeats 4000000 in
theorem rdo17_6 (V : FilV) (F : Fil) (U : QstV) (Q : Qst) (w : World) (hF : FilAt w V F) (hQ : QstAt w U Q) (hW : QstW Q) (hFW : FilW F) (hq : rightQ Q = true) (hr : rightB F = true) (h0 : datE F Q = 0) (hk : Q.k = 6) : Calls Tryz.prog 19 #[.agg (filC V F), .agg (qstC U Q)] w (Do17P F Q w) := by
  have hne : ¬ datE F Q ≠ 0 := fun h => h h0
  have af := ask_facts hq
  have hE : True := trivial
  have HD : Hid (datF F Q = (swF F Q.ad 1 (fun _ => Q.va)) ∧ datT F Q = { zeroT with k := Q.k, ad := Q.ad, va := Q.va }) := Lib.hid (by
    have e1 : datF F Q = (swF F Q.ad 1 (fun _ => Q.va)) := by unfold datF; rw [if_neg hne]; simp (config := { decide := true }) only [hk, if_true, if_false]
    refine ⟨e1, ?_⟩
    unfold datT; rw [if_neg hne]; simp (config := { decide := true }) only [hk, if_true, if_false] <;> rfl)
  obtain ⟨W5, hW5, k5, k3, D0⟩ := do_begin V F U Q w hF
  have KC := Lib.hid (fun W (x : Ext w W) => rcode17_any V F U Q W (hF.ext x) hW ((rightQ_iff Q).1 hq).1)
  have c0 : W5.cell? ⟨w.heap.size + 1, 0, none⟩ = some (.int .i64 Q.k) := cell_of_heap k3 rfl
  have hv16 : IntKind.u16.wrap Q.va = Q.va := by have := af.v6 hk; rw [IntKind.wrap_u16]; omega
  have KB := Lib.hid (fun W (x : Ext w W) (g : Nat) (h : HoldsG (Value.int .u16) W (some ⟨g, 0, none⟩) 1 (fun _ => Q.va)) => rsetwords14_any V F Q.ad (some ⟨g, 0, none⟩) 1 1 (fun _ => Q.va) W (hF.ext x) h (by omega) hW.wad)
  rw [h0] at KC
  have HK := Lib.hid hk
  clear h0 hne af hq hr hW hFW hF hQ hE hk
  go_enter Tryz.func19, Tryz.ntmps19
  go_upto_region 1 with fail
  rw [← hW5]
  clear hW5
  go_upto_region 2 with fail
  obtain ⟨W6, hW6⟩ : ∃ W6, W6 = W5.alloc (.cells #[.int .i64 Q.k, .int .i64 0, .int .i64 0, .int .i64 0, .int .i64 0, .int .i64 0, .int .i64 0, .slice none 0 0, .slice none 0 0] 37) := ⟨_, rfl⟩
  rw [← hW6] at D0 ⊢
  clear hW6 c0 k3 k5
  have c2 := D0.b2
  have c3 := D0.b3
  have xw := D0.x
  go_upto_region 6 with (first
    | (refine wpList_load_row rfl 29 (.tmp 2) rfl (w.heap.size) rfl 29 _ (0, 0) _ c2 Tryz.underlying29 rfl (by kernel_rfl) ?_)
    | (refine wpList_load_row rfl 31 (.tmp 3) rfl (w.heap.size + 1) rfl 31 _ (0, 0) _ c3 Tryz.underlying31 rfl (by kernel_rfl) ?_)
    | (go_at_call 20; refine (KC.out _ xw).mono ?_; rintro e w7 ⟨rfl, x7⟩))
  have D1 := D0.ext x7
  have x1 := xw.trans x7
  clear D0 c2 c3 xw KC x7
  have c2 := D1.b2
  have c0 : w7.cell? ⟨w.heap.size + 1, 0, none⟩ = some (.int .i64 6) := num_cell HK.out (cell_of_heap D1.b3 rfl)
  have c1 : w7.cell? ⟨w.heap.size + 1, 1, none⟩ = some (.int .i64 Q.ad) := cell_of_heap D1.b3 rfl
  have cv : w7.cell? ⟨w.heap.size + 1, 3, none⟩ = some (.int .i64 Q.va) := cell_of_heap D1.b3 rfl
  go_upto_region 19 with (first
    | (refine wpList_load_row rfl 29 (.tmp 2) rfl w.heap.size rfl 29 _ (0, 0) _ c2 Tryz.underlying29 rfl (by kernel_rfl) ?_)
    | (go_at_call 42; refine (KB.out _ (x1.trans (Ext.alloc _ _)) _ (one_cell (mk := Value.int .u16) w7 Q.va _)).mono ?_; rintro e w8 ⟨V8, rfl, hf8, x8, -⟩; have D2 := D1.ext ((Ext.alloc _ _).trans x8); have b2 := D2.b2; clear c2 c0 c1)
    | (refine wpList_store_row rfl 29 (.tmp 2) (.tmp 86) rfl w.heap.size _ rfl rfl 29 _ b2 (by kernel_rfl) rfl (by simp [filC, Value.oneCell']) ?_))
  have D3 := D2.setF hf8
  obtain ⟨w9, hw9⟩ : ∃ W, W = w8.setRow w.heap.size (filC V8 (swF F Q.ad 1 (fun _ => Q.va))) := ⟨_, rfl⟩
  rw [← hw9] at D3 ⊢
  clear hw9 b2 D2 hf8 D1 x8
  have a0 : w9.cell? ⟨w.heap.size + 1, 1, none⟩ = some (.int .i64 Q.ad) := cell_of_heap D3.b3 rfl
  have p0 : w9.cell? ⟨w.heap.size + 1 + 1 + 1 + 1, 2, none⟩ = some (.int .i64 0) := cell_of_heap D3.b6 rfl
  have q0 : w9.frozen? ⟨w.heap.size + 1 + 1 + 1 + 1, 2, none⟩ = false := frozen0 D3.b6
  have Df0 := D3.setT (X' := zeroQV) (T' := { zeroT with k := Q.k, ad := Q.ad }) 2 (.int .i64 Q.ad) rfl (telnone_at _ rfl rfl)
  go_upto_region 20 with fail
  obtain ⟨wf0, hwf0⟩ : ∃ W, W = w9.setCell ⟨w.heap.size + 1 + 1 + 1 + 1, 2, none⟩ (.int .i64 Q.ad) := ⟨_, rfl⟩
  rw [← hwf0] at Df0 ⊢
  clear hwf0 a0 p0 q0 D3
  have a1 : wf0.cell? ⟨w.heap.size + 1, 3, none⟩ = some (.int .i64 Q.va) := cell_of_heap Df0.b3 rfl
  have p1 : wf0.cell? ⟨w.heap.size + 1 + 1 + 1 + 1, 4, none⟩ = some (.int .i64 0) := cell_of_heap Df0.b6 rfl
  have q1 : wf0.frozen? ⟨w.heap.size + 1 + 1 + 1 + 1, 4, none⟩ = false := frozen0 Df0.b6
  have Df1 := Df0.setT (X' := zeroQV) (T' := { zeroT with k := Q.k, ad := Q.ad, va := Q.va }) 4 (.int .i64 Q.va) rfl (telnone_at _ rfl rfl)
  go_upto_region 38 with fail
  obtain ⟨wf1, hwf1⟩ : ∃ W, W = wf0.setCell ⟨w.heap.size + 1 + 1 + 1 + 1, 4, none⟩ (.int .i64 Q.va) := ⟨_, rfl⟩
  rw [← hwf1] at Df1 ⊢
  clear hwf1 a1 p1 q1 Df0
  go_wp2_with fail
  have hd5 : Ext wf1 wf1.drew := Ext.drew _
  have HL := Lib.hid (fun W (hx : Keep (fun i => i = w.heap.size + 1 + 1 ∨ i = w.heap.size + 1 + 1 + 1) wf1 W) => (⟨(hx.block _ (heap_lt Df1.b2) (by omega)).trans Df1.b2, (hx.block _ (heap_lt Df1.b6) (by omega)).trans Df1.b6⟩ : W.heap[w.heap.size]? = some (.cells (filC V8 (swF F Q.ad 1 (fun _ => Q.va))) 29 (0, 0)) ∧ W.heap[w.heap.size + 1 + 1 + 1 + 1]? = some (.cells (telC zeroQV { zeroT with k := Q.k, ad := Q.ad, va := Q.va }) 37 (0, 0))))
  have hs : Keep (fun i => i = w.heap.size + 1 + 1 ∨ i = w.heap.size + 1 + 1 + 1) wf1 wf1.drew := Keep.of_ext hd5
  refine wp_region_held_drew (S := fun W => Keep (fun i => i = w.heap.size + 1 + 1 ∨ i = w.heap.size + 1 + 1 + 1) wf1 W) (by kernel_rfl) hs (fun _ => ?_)
  refine wpAnyH_takeD (i := 0) (d := 185) rfl rfl (by kernel_rfl) (by kernel_rfl) (by kernel_rfl) (fun _ _ _ h => h) (yieldsIf_load_row (by rfl) 29 (.tmp 2) rfl (w.heap.size) rfl 29 _ (0, 0) _ (fun w' hw' => (HL.out _ hw').1) Tryz.underlying29 rfl (by kernel_rfl)) hs ?_
  simp only [Act.put, tkA, tkB, tkC]
  refine wpAnyH_takeD (i := 1) (d := 186) rfl rfl (by kernel_rfl) (by kernel_rfl) (by kernel_rfl) (fun _ _ _ h => h) (yieldsIf_load_row (by rfl) 37 (.tmp 6) rfl (w.heap.size + 1 + 1 + 1 + 1) rfl 37 _ (0, 0) _ (fun w' hw' => (HL.out _ hw').2) Tryz.underlying37 rfl (by kernel_rfl)) hs ?_
  simp only [Act.put, tkA, tkB, tkC]
  refine wpAnyH_ready (rs := [2]) (by kernel_rfl) (by simp) (AllReadyH.cons rfl (fun K hK => ?_) AllReadyH.nil)
  refine step_store_row rfl 29 (.tmp 4) (.tmp 185) rfl (w.heap.size + 1 + 1) _ rfl rfl 29 _ (hd5.block Df1.b4) (by kernel_rfl) rfl (by simp [filC, Value.oneCell']) rfl ?_
  refine hK.out _ _ ((Keep.of_ext hd5).trans (keep_row _ _ _) (fun i hi => .inl (.inl hi))) (fun hs => ?_)
  clear hK K
  simp only [Act.put]
  refine wpAnyH_ready (rs := [3]) (by kernel_rfl) (by simp) (AllReadyH.cons rfl (fun K hK => ?_) AllReadyH.nil)
  refine step_store_row rfl 37 (.tmp 5) (.tmp 186) rfl (w.heap.size + 1 + 1 + 1) _ rfl rfl 37 _ ((setRow_other _ _ _ _ (by omega)).trans (hd5.block Df1.b5)) (by kernel_rfl) rfl (by simp [telC, Value.oneCell']) rfl ?_
  refine hK.out _ _ (hs.trans (keep_row _ _ _) (fun i hi => .inl (.inr hi))) (fun hs => ?_)
  clear hK K
  simp only [Act.put]
  refine wpAnyH_done (by kernel_rfl) ?_ _
  go_wp2_with fail
  have DE := Df1.ext hd5
  obtain ⟨q1, q2, q3, q4, q5⟩ := do_told DE
  refine bodyPost_ret (results_rows _ _ (w.heap.size + 1 + 1) (w.heap.size + 1 + 1 + 1) 29 37 _ _ (0, 0) (0, 0) _ _ rfl rfl q4 Tryz.underlying29 rfl (by kernel_rfl) rfl q5 Tryz.underlying37 rfl (by kernel_rfl)) rfl ?_
  unfold Do17P
  rw [HD.out.1, HD.out.2]
  exact ⟨V8, zeroQV, rfl, q1, q2, q3⟩

set_option maxHeartbeats 4000000 in
theorem rdo17_15 (V : FilV) (F : Fil) (U : QstV) (Q : Qst) (w : World) (hF : FilAt w V F) (hQ : QstAt w U Q) (hW : QstW Q) (hFW : FilW F) (hq : rightQ Q = true) (hr : rightB F = true) (h0 : datE F Q = 0) (hk : Q.k = 15) : Calls Tryz.prog 19 #[.agg (filC V F), .agg (qstC U Q)] w (Do17P F Q w) := by
  have hne : ¬ datE F Q ≠ 0 := fun h => h h0
  have af := ask_facts hq
  have hE : True := trivial
  have HD : Hid (datF F Q = (sbF F Q.ad Q.nb Q.B) ∧ datT F Q = { zeroT with k := Q.k, ad := Q.ad, ct := Q.ct }) := Lib.hid (by
    have e1 : datF F Q = (sbF F Q.ad Q.nb Q.B) := by unfold datF; rw [if_neg hne]; simp (config := { decide := true }) only [hk, if_true, if_false]
    refine ⟨e1, ?_⟩
    unfold datT; rw [if_neg hne]; simp (config := { decide := true }) only [hk, if_true, if_false] <;> rfl)
  obtain ⟨W5, hW5, k5, k3, D0⟩ := do_begin V F U Q w hF
  have KC := Lib.hid (fun W (x : Ext w W) => rcode17_any V F U Q W (hF.ext x) hW ((rightQ_iff Q).1 hq).1)
  have c0 : W5.cell? ⟨w.heap.size + 1, 0, none⟩ = some (.int .i64 Q.k) := cell_of_heap k3 rfl
  have KB := Lib.hid (fun W (x : Ext w W) => rsetbits14_any V F Q.ad U.a1 Q.nb U.d1 Q.B W (hF.ext x) (hQ.h1.ext x) (by have := af.bt hk; omega))
  rw [h0] at KC
  have HK := Lib.hid hk
  clear h0 hne af hq hr hW hFW hF hQ hE hk
  go_enter Tryz.func19, Tryz.ntmps19
  go_upto_region 1 with fail
  rw [← hW5]
  clear hW5
  go_upto_region 2 with fail
  obtain ⟨W6, hW6⟩ : ∃ W6, W6 = W5.alloc (.cells #[.int .i64 Q.k, .int .i64 0, .int .i64 0, .int .i64 0, .int .i64 0, .int .i64 0, .int .i64 0, .slice none 0 0, .slice none 0 0] 37) := ⟨_, rfl⟩
  rw [← hW6] at D0 ⊢
  clear hW6 c0 k3 k5
  have c2 := D0.b2
  have c3 := D0.b3
  have xw := D0.x
  go_upto_region 6 with (first
    | (refine wpList_load_row rfl 29 (.tmp 2) rfl (w.heap.size) rfl 29 _ (0, 0) _ c2 Tryz.underlying29 rfl (by kernel_rfl) ?_)
    | (refine wpList_load_row rfl 31 (.tmp 3) rfl (w.heap.size + 1) rfl 31 _ (0, 0) _ c3 Tryz.underlying31 rfl (by kernel_rfl) ?_)
    | (go_at_call 20; refine (KC.out _ xw).mono ?_; rintro e w7 ⟨rfl, x7⟩))
  have D1 := D0.ext x7
  have x1 := xw.trans x7
  clear D0 c2 c3 xw KC x7
  have c2 := D1.b2
  have c0 : w7.cell? ⟨w.heap.size + 1, 0, none⟩ = some (.int .i64 15) := num_cell HK.out (cell_of_heap D1.b3 rfl)
  have c1 : w7.cell? ⟨w.heap.size + 1, 1, none⟩ = some (.int .i64 Q.ad) := cell_of_heap D1.b3 rfl
  have cl : w7.cell? ⟨w.heap.size + 1, 8, none⟩ = some (.slice U.a1 Q.nb U.d1) := cell_of_heap D1.b3 rfl
  go_upto_region 23 with (first
    | (refine wpList_load_row rfl 29 (.tmp 2) rfl w.heap.size rfl 29 _ (0, 0) _ c2 Tryz.underlying29 rfl (by kernel_rfl) ?_)
    | (go_at_call 41; refine (KB.out _ x1).mono ?_; rintro e w8 ⟨V8, rfl, hf8, x8, -⟩; have D2 := D1.ext x8; have b2 := D2.b2; clear c2 c0 c1)
    | (refine wpList_store_row rfl 29 (.tmp 2) (.tmp 103) rfl w.heap.size _ rfl rfl 29 _ b2 (by kernel_rfl) rfl (by simp [filC, Value.oneCell']) ?_))
  have D3 := D2.setF hf8
  obtain ⟨w9, hw9⟩ : ∃ W, W = w8.setRow w.heap.size (filC V8 (sbF F Q.ad Q.nb Q.B)) := ⟨_, rfl⟩
  rw [← hw9] at D3 ⊢
  clear hw9 b2 D2 hf8 D1 x8
  have a0 : w9.cell? ⟨w.heap.size + 1, 1, none⟩ = some (.int .i64 Q.ad) := cell_of_heap D3.b3 rfl
  have p0 : w9.cell? ⟨w.heap.size + 1 + 1 + 1 + 1, 2, none⟩ = some (.int .i64 0) := cell_of_heap D3.b6 rfl
  have q0 : w9.frozen? ⟨w.heap.size + 1 + 1 + 1 + 1, 2, none⟩ = false := frozen0 D3.b6
  have Df0 := D3.setT (X' := zeroQV) (T' := { zeroT with k := Q.k, ad := Q.ad }) 2 (.int .i64 Q.ad) rfl (telnone_at _ rfl rfl)
  go_upto_region 24 with fail
  obtain ⟨wf0, hwf0⟩ : ∃ W, W = w9.setCell ⟨w.heap.size + 1 + 1 + 1 + 1, 2, none⟩ (.int .i64 Q.ad) := ⟨_, rfl⟩
  rw [← hwf0] at Df0 ⊢
  clear hwf0 a0 p0 q0 D3
  have a1 : wf0.cell? ⟨w.heap.size + 1, 2, none⟩ = some (.int .i64 Q.ct) := cell_of_heap Df0.b3 rfl
  have p1 : wf0.cell? ⟨w.heap.size + 1 + 1 + 1 + 1, 3, none⟩ = some (.int .i64 0) := cell_of_heap Df0.b6 rfl
  have q1 : wf0.frozen? ⟨w.heap.size + 1 + 1 + 1 + 1, 3, none⟩ = false := frozen0 Df0.b6
  have Df1 := Df0.setT (X' := zeroQV) (T' := { zeroT with k := Q.k, ad := Q.ad, ct := Q.ct }) 3 (.int .i64 Q.ct) rfl (telnone_at _ rfl rfl)
  go_upto_region 38 with fail
  obtain ⟨wf1, hwf1⟩ : ∃ W, W = wf0.setCell ⟨w.heap.size + 1 + 1 + 1 + 1, 3, none⟩ (.int .i64 Q.ct) := ⟨_, rfl⟩
  rw [← hwf1] at Df1 ⊢
  clear hwf1 a1 p1 q1 Df0
  go_wp2_with fail
  have hd5 : Ext wf1 wf1.drew := Ext.drew _
  have HL := Lib.hid (fun W (hx : Keep (fun i => i = w.heap.size + 1 + 1 ∨ i = w.heap.size + 1 + 1 + 1) wf1 W) => (⟨(hx.block _ (heap_lt Df1.b2) (by omega)).trans Df1.b2, (hx.block _ (heap_lt Df1.b6) (by omega)).trans Df1.b6⟩ : W.heap[w.heap.size]? = some (.cells (filC V8 (sbF F Q.ad Q.nb Q.B)) 29 (0, 0)) ∧ W.heap[w.heap.size + 1 + 1 + 1 + 1]? = some (.cells (telC zeroQV { zeroT with k := Q.k, ad := Q.ad, ct := Q.ct }) 37 (0, 0))))
  have hs : Keep (fun i => i = w.heap.size + 1 + 1 ∨ i = w.heap.size + 1 + 1 + 1) wf1 wf1.drew := Keep.of_ext hd5
  refine wp_region_held_drew (S := fun W => Keep (fun i => i = w.heap.size + 1 + 1 ∨ i = w.heap.size + 1 + 1 + 1) wf1 W) (by kernel_rfl) hs (fun _ => ?_)
  refine wpAnyH_takeD (i := 0) (d := 185) rfl rfl (by kernel_rfl) (by kernel_rfl) (by kernel_rfl) (fun _ _ _ h => h) (yieldsIf_load_row (by rfl) 29 (.tmp 2) rfl (w.heap.size) rfl 29 _ (0, 0) _ (fun w' hw' => (HL.out _ hw').1) Tryz.underlying29 rfl (by kernel_rfl)) hs ?_
  simp only [Act.put, tkA, tkB, tkC]
  refine wpAnyH_takeD (i := 1) (d := 186) rfl rfl (by kernel_rfl) (by kernel_rfl) (by kernel_rfl) (fun _ _ _ h => h) (yieldsIf_load_row (by rfl) 37 (.tmp 6) rfl (w.heap.size + 1 + 1 + 1 + 1) rfl 37 _ (0, 0) _ (fun w' hw' => (HL.out _ hw').2) Tryz.underlying37 rfl (by kernel_rfl)) hs ?_
  simp only [Act.put, tkA, tkB, tkC]
  refine wpAnyH_ready (rs := [2]) (by kernel_rfl) (by simp) (AllReadyH.cons rfl (fun K hK => ?_) AllReadyH.nil)
  refine step_store_row rfl 29 (.tmp 4) (.tmp 185) rfl (w.heap.size + 1 + 1) _ rfl rfl 29 _ (hd5.block Df1.b4) (by kernel_rfl) rfl (by simp [filC, Value.oneCell']) rfl ?_
  refine hK.out _ _ ((Keep.of_ext hd5).trans (keep_row _ _ _) (fun i hi => .inl (.inl hi))) (fun hs => ?_)
  clear hK K
  simp only [Act.put]
  refine wpAnyH_ready (rs := [3]) (by kernel_rfl) (by simp) (AllReadyH.cons rfl (fun K hK => ?_) AllReadyH.nil)
  refine step_store_row rfl 37 (.tmp 5) (.tmp 186) rfl (w.heap.size + 1 + 1 + 1) _ rfl rfl 37 _ ((setRow_other _ _ _ _ (by omega)).trans (hd5.block Df1.b5)) (by kernel_rfl) rfl (by simp [telC, Value.oneCell']) rfl ?_
  refine hK.out _ _ (hs.trans (keep_row _ _ _) (fun i hi => .inl (.inr hi))) (fun hs => ?_)
  clear hK K
  simp only [Act.put]
  refine wpAnyH_done (by kernel_rfl) ?_ _
  go_wp2_with fail
  have DE := Df1.ext hd5
  obtain ⟨q1, q2, q3, q4, q5⟩ := do_told DE
  refine bodyPost_ret (results_rows _ _ (w.heap.size + 1 + 1) (w.heap.size + 1 + 1 + 1) 29 37 _ _ (0, 0) (0, 0) _ _ rfl rfl q4 Tryz.underlying29 rfl (by kernel_rfl) rfl q5 Tryz.underlying37 rfl (by kernel_rfl)) rfl ?_
  unfold Do17P
  rw [HD.out.1, HD.out.2]
  exact ⟨V8, zeroQV, rfl, q1, q2, q3⟩

set_option maxHeartbeats 4000000 in
theorem rdo17_16 (V : FilV) (F : Fil) (U : QstV) (Q : Qst) (w : World) (hF : FilAt w V F) (hQ : QstAt w U Q) (hW : QstW Q) (hFW : FilW F) (hq : rightQ Q = true) (hr : rightB F = true) (h0 : datE F Q = 0) (hk : Q.k = 16) : Calls Tryz.prog 19 #[.agg (filC V F), .agg (qstC U Q)] w (Do17P F Q w) := by
  have hne : ¬ datE F Q ≠ 0 := fun h => h h0
  have af := ask_facts hq
  have hE : True := trivial
  have HD : Hid (datF F Q = (swF F Q.ad Q.nr Q.R) ∧ datT F Q = { zeroT with k := Q.k, ad := Q.ad, ct := Q.ct }) := Lib.hid (by
    have e1 : datF F Q = (swF F Q.ad Q.nr Q.R) := by unfold datF; rw [if_neg hne]; simp (config := { decide := true }) only [hk, if_true, if_false]
    refine ⟨e1, ?_⟩
    unfold datT; rw [if_neg hne]; simp (config := { decide := true }) only [hk, if_true, if_false] <;> rfl)
  obtain ⟨W5, hW5, k5, k3, D0⟩ := do_begin V F U Q w hF
  have KC := Lib.hid (fun W (x : Ext w W) => rcode17_any V F U Q W (hF.ext x) hW ((rightQ_iff Q).1 hq).1)
  have c0 : W5.cell? ⟨w.heap.size + 1, 0, none⟩ = some (.int .i64 Q.k) := cell_of_heap k3 rfl
  have KB := Lib.hid (fun W (x : Ext w W) => rsetwords14_any V F Q.ad U.a2 Q.nr U.d2 Q.R W (hF.ext x) (hQ.h2.ext x) (by have := af.wd (.inl hk); omega) hW.wad)
  rw [h0] at KC
  have HK := Lib.hid hk
  clear h0 hne af hq hr hW hFW hF hQ hE hk
  go_enter Tryz.func19, Tryz.ntmps19
  go_upto_region 1 with fail
  rw [← hW5]
  clear hW5
  go_upto_region 2 with fail
  obtain ⟨W6, hW6⟩ : ∃ W6, W6 = W5.alloc (.cells #[.int .i64 Q.k, .int .i64 0, .int .i64 0, .int .i64 0, .int .i64 0, .int .i64 0, .int .i64 0, .slice none 0 0, .slice none 0 0] 37) := ⟨_, rfl⟩
  rw [← hW6] at D0 ⊢
  clear hW6 c0 k3 k5
  have c2 := D0.b2
  have c3 := D0.b3
  have xw := D0.x
  go_upto_region 6 with (first
    | (refine wpList_load_row rfl 29 (.tmp 2) rfl (w.heap.size) rfl 29 _ (0, 0) _ c2 Tryz.underlying29 rfl (by kernel_rfl) ?_)
    | (refine wpList_load_row rfl 31 (.tmp 3) rfl (w.heap.size + 1) rfl 31 _ (0, 0) _ c3 Tryz.underlying31 rfl (by kernel_rfl) ?_)
    | (go_at_call 20; refine (KC.out _ xw).mono ?_; rintro e w7 ⟨rfl, x7⟩))
  have D1 := D0.ext x7
  have x1 := xw.trans x7
  clear D0 c2 c3 xw KC x7
  have c2 := D1.b2
  have c0 : w7.cell? ⟨w.heap.size + 1, 0, none⟩ = some (.int .i64 16) := num_cell HK.out (cell_of_heap D1.b3 rfl)
  have c1 : w7.cell? ⟨w.heap.size + 1, 1, none⟩ = some (.int .i64 Q.ad) := cell_of_heap D1.b3 rfl
  have cl : w7.cell? ⟨w.heap.size + 1, 9, none⟩ = some (.slice U.a2 Q.nr U.d2) := cell_of_heap D1.b3 rfl
  go_upto_region 27 with (first
    | (refine wpList_load_row rfl 29 (.tmp 2) rfl w.heap.size rfl 29 _ (0, 0) _ c2 Tryz.underlying29 rfl (by kernel_rfl) ?_)
    | (go_at_call 42; refine (KB.out _ x1).mono ?_; rintro e w8 ⟨V8, rfl, hf8, x8, -⟩; have D2 := D1.ext x8; have b2 := D2.b2; clear c2 c0 c1)
    | (refine wpList_store_row rfl 29 (.tmp 2) (.tmp 120) rfl w.heap.size _ rfl rfl 29 _ b2 (by kernel_rfl) rfl (by simp [filC, Value.oneCell']) ?_))
  have D3 := D2.setF hf8
  obtain ⟨w9, hw9⟩ : ∃ W, W = w8.setRow w.heap.size (filC V8 (swF F Q.ad Q.nr Q.R)) := ⟨_, rfl⟩
  rw [← hw9] at D3 ⊢
  clear hw9 b2 D2 hf8 D1 x8
  have a0 : w9.cell? ⟨w.heap.size + 1, 1, none⟩ = some (.int .i64 Q.ad) := cell_of_heap D3.b3 rfl
  have p0 : w9.cell? ⟨w.heap.size + 1 + 1 + 1 + 1, 2, none⟩ = some (.int .i64 0) := cell_of_heap D3.b6 rfl
  have q0 : w9.frozen? ⟨w.heap.size + 1 + 1 + 1 + 1, 2, none⟩ = false := frozen0 D3.b6
  have Df0 := D3.setT (X' := zeroQV) (T' := { zeroT with k := Q.k, ad := Q.ad }) 2 (.int .i64 Q.ad) rfl (telnone_at _ rfl rfl)
  go_upto_region 28 with fail
  obtain ⟨wf0, hwf0⟩ : ∃ W, W = w9.setCell ⟨w.heap.size + 1 + 1 + 1 + 1, 2, none⟩ (.int .i64 Q.ad) := ⟨_, rfl⟩
  rw [← hwf0] at Df0 ⊢
  clear hwf0 a0 p0 q0 D3
  have a1 : wf0.cell? ⟨w.heap.size + 1, 2, none⟩ = some (.int .i64 Q.ct) := cell_of_heap Df0.b3 rfl
  have p1 : wf0.cell? ⟨w.heap.size + 1 + 1 + 1 + 1, 3, none⟩ = some (.int .i64 0) := cell_of_heap Df0.b6 rfl
  have q1 : wf0.frozen? ⟨w.heap.size + 1 + 1 + 1 + 1, 3, none⟩ = false := frozen0 Df0.b6
  have Df1 := Df0.setT (X' := zeroQV) (T' := { zeroT with k := Q.k, ad := Q.ad, ct := Q.ct }) 3 (.int .i64 Q.ct) rfl (telnone_at _ rfl rfl)
  go_upto_region 38 with fail
  obtain ⟨wf1, hwf1⟩ : ∃ W, W = wf0.setCell ⟨w.heap.size + 1 + 1 + 1 + 1, 3, none⟩ (.int .i64 Q.ct) := ⟨_, rfl⟩
  rw [← hwf1] at Df1 ⊢
  clear hwf1 a1 p1 q1 Df0
  go_wp2_with fail
  have hd5 : Ext wf1 wf1.drew := Ext.drew _
  have HL := Lib.hid (fun W (hx : Keep (fun i => i = w.heap.size + 1 + 1 ∨ i = w.heap.size + 1 + 1 + 1) wf1 W) => (⟨(hx.block _ (heap_lt Df1.b2) (by omega)).trans Df1.b2, (hx.block _ (heap_lt Df1.b6) (by omega)).trans Df1.b6⟩ : W.heap[w.heap.size]? = some (.cells (filC V8 (swF F Q.ad Q.nr Q.R)) 29 (0, 0)) ∧ W.heap[w.heap.size + 1 + 1 + 1 + 1]? = some (.cells (telC zeroQV { zeroT with k := Q.k, ad := Q.ad, ct := Q.ct }) 37 (0, 0))))
  have hs : Keep (fun i => i = w.heap.size + 1 + 1 ∨ i = w.heap.size + 1 + 1 + 1) wf1 wf1.drew := Keep.of_ext hd5
  refine wp_region_held_drew (S := fun W => Keep (fun i => i = w.heap.size + 1 + 1 ∨ i = w.heap.size + 1 + 1 + 1) wf1 W) (by kernel_rfl) hs (fun _ => ?_)
  refine wpAnyH_takeD (i := 0) (d := 185) rfl rfl (by kernel_rfl) (by kernel_rfl) (by kernel_rfl) (fun _ _ _ h => h) (yieldsIf_load_row (by rfl) 29 (.tmp 2) rfl (w.heap.size) rfl 29 _ (0, 0) _ (fun w' hw' => (HL.out _ hw').1) Tryz.underlying29 rfl (by kernel_rfl)) hs ?_
  simp only [Act.put, tkA, tkB, tkC]
  refine wpAnyH_takeD (i := 1) (d := 186) rfl rfl (by kernel_rfl) (by kernel_rfl) (by kernel_rfl) (fun _ _ _ h => h) (yieldsIf_load_row (by rfl) 37 (.tmp 6) rfl (w.heap.size + 1 + 1 + 1 + 1) rfl 37 _ (0, 0) _ (fun w' hw' => (HL.out _ hw').2) Tryz.underlying37 rfl (by kernel_rfl)) hs ?_
  simp only [Act.put, tkA, tkB, tkC]
  refine wpAnyH_ready (rs := [2]) (by kernel_rfl) (by simp) (AllReadyH.cons rfl (fun K hK => ?_) AllReadyH.nil)
  refine step_store_row rfl 29 (.tmp 4) (.tmp 185) rfl (w.heap.size + 1 + 1) _ rfl rfl 29 _ (hd5.block Df1.b4) (by kernel_rfl) rfl (by simp [filC, Value.oneCell']) rfl ?_
  refine hK.out _ _ ((Keep.of_ext hd5).trans (keep_row _ _ _) (fun i hi => .inl (.inl hi))) (fun hs => ?_)
  clear hK K
  simp only [Act.put]
  refine wpAnyH_ready (rs := [3]) (by kernel_rfl) (by simp) (AllReadyH.cons rfl (fun K hK => ?_) AllReadyH.nil)
  refine step_store_row rfl 37 (.tmp 5) (.tmp 186) rfl (w.heap.size + 1 + 1 + 1) _ rfl rfl 37 _ ((setRow_other _ _ _ _ (by omega)).trans (hd5.block Df1.b5)) (by kernel_rfl) rfl (by simp [telC, Value.oneCell']) rfl ?_
  refine hK.out _ _ (hs.trans (keep_row _ _ _) (fun i hi => .inl (.inr hi))) (fun hs => ?_)
  clear hK K
  simp only [Act.put]
  refine wpAnyH_done (by kernel_rfl) ?_ _
  go_wp2_with fail
  have DE := Df1.ext hd5
  obtain ⟨q1, q2, q3, q4, q5⟩ := do_told DE
  refine bodyPost_ret (results_rows _ _ (w.heap.size + 1 + 1) (w.heap.size + 1 + 1 + 1) 29 37 _ _ (0, 0) (0, 0) _ _ rfl rfl q4 Tryz.underlying29 rfl (by kernel_rfl) rfl q5 Tryz.underlying37 rfl (by kernel_rfl)) rfl ?_
  unfold Do17P
  rw [HD.out.1, HD.out.2]
  exact ⟨V8, zeroQV, rfl, q1, q2, q3⟩
end Go.Proofs.YtlafnobjfajamaaGreat
