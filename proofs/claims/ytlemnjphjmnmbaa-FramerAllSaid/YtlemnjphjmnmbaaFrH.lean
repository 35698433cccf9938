/-
  CONTRACTS: package framer: Byte.
-/
import Derived.Test.YtlemnjphjmnmbaaFrG
namespace Go.Proofs.Ytlemnjphjmnmbaa
open Go.RowKit
set_option linter.unusedVariables false

theorem ffollow_fr (p : Nat) (F : Nat → Prop) (x : Fr) (b : Byt) (w : World) (h : FR w p F x) (hnow : x.now = b.1) (hk : x.sg.count ≤ 1000000) (h0 : 0 ≤ b.2.1) (h1 : b.2.1 < 256) (hpos : 0 < x.sg.count) :
    Calls Try.prog 45 #[.pointer (some ⟨p, 0, none⟩), .agg (byt b).toArray] w fun e w' => ∃ G, e = .returned (.tuple #[]) ∧ Keep F w w' ∧ FR w' p G (takeF x b) ∧ Grows F G w := by
  obtain ⟨ok, A, cp, hm, hF⟩ := h
  exact (ffollow_any p A cp x b w hm ok hnow hk hpos).mono fun e w' ⟨A', cp', he, k, m, g⟩ =>
    ⟨FrF p A' (takeS x b).n cp', he, k.mono fun i hi => (hF i).2 hi, ⟨takeS_ok ok hnow h0 h1, A', cp', m, fun i => Iff.rfl⟩, fun i hi => (g i hi).imp (hF i).2 id⟩
theorem fbegin_fr (p : Nat) (F : Nat → Prop) (x : Fr) (b : Byt) (w : World) (h : FR w p F x) (hnow : x.now = b.1) (h0 : 0 ≤ b.2.1) (h1 : b.2.1 < 256) (hpos : ¬ 0 < x.sg.count) :
    Calls Try.prog 46 #[.pointer (some ⟨p, 0, none⟩), .agg (byt b).toArray] w fun e w' => ∃ G, e = .returned (.tuple #[]) ∧ Keep F w w' ∧ FR w' p G (takeF x b) ∧ Grows F G w := by
  obtain ⟨ok, A, cp, hm, hF⟩ := h
  exact (fbegin_any p A cp x b w hm ok hnow hpos).mono fun e w' ⟨A', cp', he, k, m, g⟩ =>
    ⟨FrF p A' (takeS x b).n cp', he, k.mono fun i hi => (hF i).2 hi, ⟨takeS_ok ok hnow h0 h1, A', cp', m, fun i => Iff.rfl⟩, fun i hi => (g i hi).imp (hF i).2 id⟩
theorem FR.taking {w : World} {p : Nat} {F : Nat → Prop} {x : Fr} (h : FR w p F x) : ∃ A cp, FrRow w p A cp x := by
  obtain ⟨ok, A, cp, hm, hF⟩ := h
  exact ⟨A, cp, hm.row⟩
set_option maxRecDepth 100000 in
set_option maxHeartbeats 4000000 in
theorem fbyte_err (p : Nat) (F : Nat → Prop) (x : Fr) (b : Byt) (w : World) (h : FR w p F x) (he : errB x b.1 = true) :
    Calls Try.prog 15 #[.pointer (some ⟨p, 0, none⟩), .agg (byt b).toArray] w fun e w' => e = .returned (.tuple #[.agg (segC none 0 zeroS), .bool false, .int .i64 11]) ∧ Ext w w' := by
  obtain ⟨y0, y1, y2⟩ := b
  rw [show (byt (y0, y1, y2)).toArray = #[.int .i64 y0, .int .u8 y1, .bool y2] from rfl]
  obtain ⟨W, hW⟩ : ∃ W, W = (w.alloc (.cells #[.int .i64 y0, .int .u8 y1, .bool y2] 46)).alloc (.cells (segC none 0 zeroS) 48) := ⟨_, rfl⟩
  have xW : Ext w W := by rw [hW]; exact (Ext.alloc _ _).alloc' _
  obtain ⟨S, hS⟩ : ∃ S, S = w.heap.size := ⟨_, rfl⟩
  have gR : W.heap[S + 1]? = some (.cells (segC none 0 zeroS) 48 (0, 0)) := by rw [hW, hS]; exact heap_new_at _ _ (by simp)
  have hg := fidle_err p F x y0 W (h.ext xW) he
  have HW := Lib.hid hW
  have HS := Lib.hid hS
  have HX := Lib.hid xW
  have HG := Lib.hid gR
  clear h he hW xW hS gR
  go_enter Try.func15, Try.ntmps15
  go_wp2_with fail
  rw [show #[Value.slice none 0 0, .int .i64 0, .int .i64 0, .int .i64 0, .bool false, .bool false] = segC none 0 zeroS from rfl, ← HW.out, ← HS.out]
  clear HW
  refine hg.mono ?_; rintro e w1 ⟨rfl, x1⟩
  have x2 := x1.trans (Ext.alloc w1 (.cells (segC none 0 zeroS) 48))
  have g1 := x2.block HG.out
  have hend := below_setRow (g := S + 1) (HX.out.trans x2) (by have := HS.out; omega) (segC none 0 zeroS)
  have HEnd := Lib.hid hend
  clear hg HG HX x1 x2 hend
  unfold segC at HEnd g1 ⊢
  go_wp2_with (refine wpList_store_row rfl 48 (.tmp 4) (.tmp 21) rfl (S + 1) _ rfl rfl 48 _ g1 (by kernel_rfl) (by rfl) (by simp [Value.oneCell']) ?_)
  refine bodyPost_ret (results_row_tmp2 rfl _ _ (S + 1) 48 _ (0, 0) _ rfl (setRow_heap _ _ _ _ _ _ g1) Try.underlying48 rfl (by kernel_rfl)) rfl ?_
  exact ⟨rfl, HEnd.out⟩
set_option maxRecDepth 100000 in
set_option maxHeartbeats 8000000 in
theorem fbyte_yes (p : Nat) (F : Nat → Prop) (x : Fr) (b : Byt) (w : World) (h : FR w p F x) (he : errB x b.1 = false) (hk : x.sg.count ≤ 1000000) (h0 : 0 ≤ b.2.1) (h1 : b.2.1 < 256) :
    Calls Try.prog 15 #[.pointer (some ⟨p, 0, none⟩), .agg (byt b).toArray] w fun e w' => ∃ A cp G, e = .returned (.tuple #[.agg (segC A cp (idleS x b.1)), .bool (idleB x b.1), .int .i64 0]) ∧ Keep F w w' ∧ FR w' p G (byteF x b) ∧ Grows F G w ∧ SegT w' G A cp (idleS x b.1) ∧ (∀ q, A = some q → F q.block) := by
  have hb : byteF x b = takeF (idleF x b.1) b := by unfold byteF; rw [if_neg (by simp [he])]
  have hnow := (idle_now he).1
  have hc := Int.le_trans (idle_count h.ok b.1) hk
  have hN : idleN x b.1 = 0 := by unfold idleN; rw [if_neg (by simp [he])]
  rw [hb]
  obtain ⟨y0, y1, y2⟩ := b
  simp only at hnow hc hN h0 h1 ⊢
  rw [show (byt (y0, y1, y2)).toArray = #[.int .i64 y0, .int .u8 y1, .bool y2] from rfl]
  obtain ⟨W, hW⟩ : ∃ W, W = (w.alloc (.cells #[.int .i64 y0, .int .u8 y1, .bool y2] 46)).alloc (.cells (segC none 0 zeroS) 48) := ⟨_, rfl⟩
  have xW : Ext w W := by rw [hW]; exact (Ext.alloc _ _).alloc' _
  obtain ⟨S, hS⟩ : ∃ S, S = w.heap.size := ⟨_, rfl⟩
  have gR : W.heap[S + 1]? = some (.cells (segC none 0 zeroS) 48 (0, 0)) := by rw [hW, hS]; exact heap_new_at _ _ (by simp)
  have gB : W.heap[S]? = some (.cells #[.int .i64 y0, .int .u8 y1, .bool y2] 46 (0, 0)) := by rw [hW, hS, heap_alloc_old _ _ (by simp)]; exact heap_new_at _ _ rfl
  have hg := fidle_any p F x y0 W (h.ext xW)
  rw [hN] at hg
  have hFlt := h.lt
  generalize idleS x y0 = z at hg ⊢
  generalize idleB x y0 = zb at hg ⊢
  generalize idleF x y0 = X at hg hnow hc ⊢
  have HW := Lib.hid hW
  have HS := Lib.hid hS
  have HX := Lib.hid xW
  have HG := Lib.hid gR
  have HB := Lib.hid gB
  have HNow := Lib.hid hnow
  have HC := Lib.hid hc
  have H01 := Lib.hid (And.intro h0 h1)
  have HFlt := Lib.hid hFlt
  clear h he hk hb hN hW xW hS gR gB hnow hc h0 h1 hFlt
  go_enter Try.func15, Try.ntmps15
  go_wp2_with fail
  rw [show #[Value.slice none 0 0, .int .i64 0, .int .i64 0, .int .i64 0, .bool false, .bool false] = segC none 0 zeroS from rfl, ← HW.out, ← HS.out]
  clear HW
  refine hg.mono ?_; rintro e w1 ⟨A, cp, G, rfl, k1, r1, g1, s1, hin⟩
  clear hg
  obtain ⟨W2, hW2⟩ : ∃ W2, W2 = w1.alloc (.cells (segC A cp z) 48) := ⟨_, rfl⟩
  obtain ⟨T, hT⟩ : ∃ T, T = w1.heap.size := ⟨_, rfl⟩
  have x2 : Ext w1 W2 := by rw [hW2]; exact Ext.alloc _ _
  have gT : W2.heap[T]? = some (.cells (segC A cp z) 48 (0, 0)) := by rw [hW2, hT]; exact heap_alloc_new _ _
  have hSW : S + 1 < W.heap.size := heap_lt HG.out
  have hSw1 : S + 1 < w1.heap.size := Nat.lt_of_lt_of_le hSW k1.size
  have hFS : ∀ i, S ≤ i → ¬ F i := fun i hi hf => by have := HFlt.out i hf; have := HS.out; omega
  have hGS : ∀ i, S ≤ i → i < W.heap.size → ¬ G i := fun i hi hlt hf => (g1 i hf).elim (hFS i hi) (fun e => by omega)
  have hGT : ¬ G T := fun hf => by have := r1.lt T hf; omega
  have hB2 := x2.block ((k1.block S (by omega) (hFS S (Nat.le_refl _))).trans HB.out)
  have hR2 := x2.block ((k1.block (S + 1) hSW (hFS (S + 1) (by omega))).trans HG.out)
  have r2 := r1.ext x2
  have hall : ∀ w3 H, Keep G W2 w3 → FR w3 p H (takeF X (y0, y1, y2)) → Grows G H W2 →
      (w3.heap[T]? = some (.cells (segC A cp z) 48 (0, 0)) ∧ w3.heap[S + 1]? = some (.cells (segC none 0 zeroS) 48 (0, 0))) ∧
      Keep F w (w3.setRow (S + 1) (segC A cp z)) ∧ FR (w3.setRow (S + 1) (segC A cp z)) p H (takeF X (y0, y1, y2)) ∧ Grows F H w ∧ SegT (w3.setRow (S + 1) (segC A cp z)) H A cp z ∧ (∀ q, A = some q → F q.block) := by
    intro w3 H k3 r3 g3
    have hT2 := heap_lt gT
    have hR3 := heap_lt hR2
    have hHR : ¬ H (S + 1) := fun hf => (g3 _ hf).elim (hGS _ (by omega) hSW) (fun e => by omega)
    have hone : Keep (fun i => i = S + 1) w3 (w3.setRow (S + 1) (segC A cp z)) := Keep.row _ _ _
    refine ⟨⟨(k3.block T hT2 hGT).trans gT, (k3.block (S + 1) hR3 (hGS _ (by omega) hSW)).trans hR2⟩, ?_, r3.keep hone fun i hi e => hHR (by rw [← e]; exact hi), ?_, ?_, hin⟩
    · have h1 : Keep F w w1 := (Keep.of_ext HX.out).same k1
      have h2 : Keep F w W2 := h1.trans_ext x2
      have hsz := HX.out.size
      have h3 : Keep F w w3 := h2.trans k3 fun i hi => (g1 i hi).imp id (fun e => by omega)
      exact h3.trans hone fun i hi => .inr (by have := HS.out; omega)
    · intro i hi
      have hsz := HX.out.size
      rcases g3 i hi with e | e
      · exact (g1 i e).imp id (fun e => by omega)
      · have := k1.size; have := x2.size; exact .inr (by omega)
    · have hA : ∀ q, A = some q → q.block < w.heap.size := fun q hq => HFlt.out _ (hin q hq)
      have hsz := HX.out.size
      have hbig : w.heap.size ≤ W2.heap.size := by have := k1.size; have := x2.size; omega
      refine ⟨((s1.holds.ext x2).keep k3 s1.off).keep hone fun q hq e => ?_, s1.le, s1.max, s1.small, s1.few, fun q hq hf => (g3 _ hf).elim (s1.off q hq) (fun e => ?_)⟩
      · have := hA q hq; have := HS.out; omega
      · have := hA q hq; omega
  have b0 := cell_of_heap (j := 0) hB2 rfl
  have b1 := cell_of_heap (j := 1) hB2 rfl
  have b2 := cell_of_heap (j := 2) hB2 rfl
  have c0 := cell_of_heap (j := 0) ((k1.block S (by omega) (hFS S (Nat.le_refl _))).trans HB.out) rfl
  have HAll := Lib.hid hall
  have HW2 := Lib.hid hW2
  have HT := Lib.hid hT
  have HR2 := Lib.hid r2
  clear k1 r1 g1 s1 hin hW2 hT x2 gT hSW hSw1 hFS hGS hGT hB2 hR2 r2 hall HX HG HB HFlt
  obtain ⟨n, g, t0, t1, k, gp, bd⟩ := z
  unfold segC at HAll HW2 ⊢
  simp only at HAll HW2 ⊢
  have hy := H01.out
  have hnow := HNow.out
  have hc := HC.out
  obtain ⟨A0, cp0, r0⟩ := HR2.out.taking
  by_cases hpos : 0 < X.sg.count
  · have HTk := Lib.hid (ftake_yes p A0 cp0 X W2 r0 hpos)
    have HDo := Lib.hid (ffollow_fr p G X (y0, y1, y2) W2 HR2.out hnow hc hy.1 hy.2 hpos)
    rw [show (byt (y0, y1, y2)).toArray = #[.int .i64 y0, .int .u8 y1, .bool y2] from rfl] at HDo
    clear r0 hpos hy hnow hc
    go_wp2_with fail
    rw [← HW2.out, ← HT.out]
    clear HW2
    refine HTk.out.mono ?_; rintro e w3 ⟨rfl, rfl⟩
    clear HTk
    go_wp2_with fail
    refine HDo.out.mono ?_; rintro e w3 ⟨H, rfl, k3, r3, g3⟩
    obtain ⟨⟨t3, s3⟩, hend⟩ := HAll.out w3 H k3 r3 g3
    have HEnd := Lib.hid hend
    clear HDo HAll b0 b1 b2 c0 k3 r3 g3 hend
    go_wp2_with (first
      | (refine wpList_load_row rfl 48 (.tmp 7) rfl T rfl 48 _ (0, 0) _ t3 Try.underlying48 rfl (by kernel_rfl) ?_)
      | (refine wpList_store_row rfl 48 (.tmp 4) (.tmp 29) rfl (S + 1) _ rfl rfl 48 _ s3 (by kernel_rfl) (by rfl) (by simp [Value.oneCell']) ?_))
    refine bodyPost_ret (results_row_tmp2 rfl _ _ (S + 1) 48 _ (0, 0) _ rfl (setRow_heap _ _ _ _ _ _ s3) Try.underlying48 rfl (by kernel_rfl)) rfl ?_
    first
      | exact ⟨A, cp, H, rfl, HEnd.out⟩
      | exact ⟨A, cp, rfl, HEnd.out.1, H, HEnd.out.2⟩
  · have HTk := Lib.hid (ftake_no p A0 cp0 X W2 r0 hpos)
    have HDo := Lib.hid (fbegin_fr p G X (y0, y1, y2) W2 HR2.out hnow hy.1 hy.2 hpos)
    rw [show (byt (y0, y1, y2)).toArray = #[.int .i64 y0, .int .u8 y1, .bool y2] from rfl] at HDo
    clear r0 hpos hy hnow hc
    go_wp2_with fail
    rw [← HW2.out, ← HT.out]
    clear HW2
    refine HTk.out.mono ?_; rintro e w3 ⟨rfl, rfl⟩
    clear HTk
    go_wp2_with fail
    refine HDo.out.mono ?_; rintro e w3 ⟨H, rfl, k3, r3, g3⟩
    obtain ⟨⟨t3, s3⟩, hend⟩ := HAll.out w3 H k3 r3 g3
    have HEnd := Lib.hid hend
    clear HDo HAll b0 b1 b2 c0 k3 r3 g3 hend
    go_wp2_with (first
      | (refine wpList_load_row rfl 48 (.tmp 7) rfl T rfl 48 _ (0, 0) _ t3 Try.underlying48 rfl (by kernel_rfl) ?_)
      | (refine wpList_store_row rfl 48 (.tmp 4) (.tmp 29) rfl (S + 1) _ rfl rfl 48 _ s3 (by kernel_rfl) (by rfl) (by simp [Value.oneCell']) ?_))
    refine bodyPost_ret (results_row_tmp2 rfl _ _ (S + 1) 48 _ (0, 0) _ rfl (setRow_heap _ _ _ _ _ _ s3) Try.underlying48 rfl (by kernel_rfl)) rfl ?_
    first
      | exact ⟨A, cp, H, rfl, HEnd.out⟩
      | exact ⟨A, cp, rfl, HEnd.out.1, H, HEnd.out.2⟩
/-- A byte comes. -/
theorem fbyte_any (p : Nat) (F : Nat → Prop) (x : Fr) (b : Byt) (w : World) (h : FR w p F x) (hk : x.sg.count ≤ 1000000) (h0 : 0 ≤ b.2.1) (h1 : b.2.1 < 256) :
    Calls Try.prog 15 #[.pointer (some ⟨p, 0, none⟩), .agg (byt b).toArray] w fun e w' => ∃ A cp G, e = .returned (.tuple #[.agg (segC A cp (idleS x b.1)), .bool (idleB x b.1), .int .i64 (idleN x b.1)]) ∧ Keep F w w' ∧ FR w' p G (byteF x b) ∧ Grows F G w ∧ SegT w' G A cp (idleS x b.1) ∧ (∀ q, A = some q → F q.block) := by
  cases he : errB x b.1
  · have hN : idleN x b.1 = 0 := by unfold idleN; rw [if_neg (by simp [he])]
    rw [hN]
    exact fbyte_yes p F x b w h he hk h0 h1
  · have e1 : idleS x b.1 = zeroS := by unfold idleS; rw [if_pos he]
    have e2 : idleB x b.1 = false := by unfold idleB; rw [he]; rfl
    have e3 : idleN x b.1 = 11 := by unfold idleN; rw [if_pos he]
    have e4 : byteF x b = x := by unfold byteF; rw [if_pos he]
    rw [e1, e2, e3, e4]
    exact (fbyte_err p F x b w h he).mono fun e w' ⟨h1, h2⟩ => ⟨none, 0, F, h1, .of_ext h2, h.ext h2, Grows.refl _ _, SegT.nil _ _, fun q hq => by cases hq⟩
end Go.Proofs.Ytlemnjphjmnmbaa
