/-
  CONTRACTS: bilgeref10: Byte, where it is taken.
-/
import Derived.Test.YtlemnjphjmnmbaaFrU
namespace Go.Proofs.Ytlemnjphjmnmbaa
open Go.RowKit
set_option linter.unusedVariables false

set_option maxRecDepth 100000 in
set_option maxHeartbeats 16000000 in
theorem rbyte_yes (x : Fr) (a : Option Addr) (n cp : Nat) (L : List Byt) (T : List Seg) (b : Byt) (w : World) (hx : FrOk x) (hr : RefR x L T) (hm : RefM w a cp L) (hn : L.length = n) (hn2 : n ≤ 999999) (he : errB x b.1 = false) (h0 : 0 ≤ b.2.1) (h1 : b.2.1 < 256) :
    Calls Try.prog 21 #[.agg (refC x a n cp T.length), .agg (byt b).toArray] w fun e w' => ∃ A cA a' cp', e = .returned (.tuple #[.agg (refC (idleF x b.1) a' (n + 1) cp' (tellT x b.1 T).length), .agg (segC A cA (idleS x b.1)), .bool (idleB x b.1), .bool true]) ∧ Ext w w' ∧ SegT w' (fun _ => False) A cA (idleS x b.1) ∧ RefM w' a' cp' (L ++ [b]) ∧ Fresh w a' := by
  obtain ⟨iB, hiB, hzB0, hzB1, hzB2⟩ := info_parts Try.infoByte
  have hg := fun w' (y : Ext w w') => ridle_any10 x a n cp L T b.1 w' hx hr (hm.ext y) hn
  rw [he] at hg
  obtain ⟨y0, y1, y2⟩ := b
  rw [show (byt (y0, y1, y2)).toArray = #[.int .i64 y0, .int .u8 y1, .bool y2] from rfl]
  simp only at hg h0 h1 ⊢
  generalize idleS x y0 = z at hg ⊢
  generalize idleB x y0 = zb at hg ⊢
  generalize (tellT x y0 T).length = told2 at hg ⊢
  generalize T.length = told at hg ⊢
  generalize idleF x y0 = X at hg ⊢
  obtain ⟨c, s, l, u, f, t', sg⟩ := x
  obtain ⟨C, S', L', U, F', T', sg'⟩ := X
  unfold refC at hg ⊢
  simp only [Bool.not_false] at hg ⊢
  have HG := Lib.hid hg
  have HM := Lib.hid hm
  have HN := Lib.hid hn
  have HY := Lib.hid (And.intro h0 h1)
  have HN2 := Lib.hid hn2
  clear hg he hx hr hm hn h0 h1 hn2
  go_enter Try.func21, Try.ntmps21
  go_wp2_with fail
  refine (HG.out _ ((((Ext.alloc _ _).alloc' _).alloc' _).alloc' _)).mono ?_; rintro e w1 ⟨A, cA, rfl, x1, hsg, hfr⟩
  clear HG
  have gB : w1.heap[w.heap.size + 1]? = some (.cells #[.int .i64 y0, .int .u8 y1, .bool y2] 46 (0, 0)) :=
    x1.block ((heap_alloc_old _ _ (by simp)).trans ((heap_alloc_old _ _ (by simp)).trans (heap_new_at _ _ (by simp))))
  have g1 : w1.heap[w.heap.size + 1 + 1]? = some (.cells refZ 31 (0, 0)) := x1.block ((heap_alloc_old _ _ (by simp)).trans (heap_new_at _ _ (by simp)))
  have g2 : w1.heap[w.heap.size + 1 + 1 + 1]? = some (.cells (segC none 0 zeroS) 48 (0, 0)) := x1.block (heap_new_at _ _ (by simp))
  have z1 : Ext w w1 := ((((Ext.alloc _ _).alloc' _).alloc' _).alloc' _).trans x1
  have hfr2 : z.n ≠ 0 → ∀ q, A = some q → w.heap.size + 4 ≤ q.block := fun h q hq => by have := hfr h q hq; simp at this; omega
  obtain ⟨S, hS⟩ : ∃ S, S = w.heap.size := ⟨_, rfl⟩
  rw [← hS] at gB g1 g2 hfr2 ⊢
  have HS := Lib.hid (Nat.le_of_eq hS.symm)
  clear hS x1 hfr
  obtain ⟨n1, q1, t0, t1, k1, gp, bd⟩ := z
  unfold segC
  obtain ⟨W2, hW2⟩ : ∃ W2, W2 = (w1.alloc (.cells #[.int .i64 C, .int .i64 S', .int .i64 L', .int .i64 U, .int .i64 F', .int .i64 T', .slice a n cp, .int .i64 told2] 31)).alloc (.cells #[.slice A n1 cA, .int .i64 t0, .int .i64 t1, .int .i64 k1, .bool gp, .bool bd] 48) := ⟨_, rfl⟩
  obtain ⟨B, hB⟩ : ∃ B, B = w1.heap.size := ⟨_, rfl⟩
  have x2 : Ext w1 W2 := by rw [hW2]; exact (Ext.alloc _ _).alloc' _
  have gF : W2.heap[B]? = some (.cells #[.int .i64 C, .int .i64 S', .int .i64 L', .int .i64 U, .int .i64 F', .int .i64 T', .slice a n cp, .int .i64 told2] 31 (0, 0)) := by rw [hW2, hB, heap_alloc_old _ _ (by simp)]; exact heap_new_at _ _ rfl
  have gT : W2.heap[B + 1]? = some (.cells #[.slice A n1 cA, .int .i64 t0, .int .i64 t1, .int .i64 k1, .bool gp, .bool bd] 48 (0, 0)) := by rw [hW2, hB]; exact heap_new_at _ _ (by simp)
  have gB2 := x2.block gB
  have hB2 := heap_lt gB2
  have hSB : S + 3 < B := by rw [hB]; exact heap_lt g2
  have hF2 := heap_lt gF
  have hL2 := HM.out.holds.ext (z1.trans x2)
  have hW2s : w.heap.size ≤ W2.heap.size := (z1.trans x2).size
  have HB := Lib.hid hB
  have HW2 := Lib.hid hW2
  have HGF := Lib.hid gF
  have HGT := Lib.hid gT
  have HGB := Lib.hid gB2
  have HG1 := Lib.hid (x2.block g1)
  have HG2 := Lib.hid (x2.block g2)
  have HL2 := Lib.hid hL2
  have HZ := Lib.hid (z1.trans x2)
  have HSeg := Lib.hid (And.intro (hsg.holds.ext x2) (And.intro hsg.le (And.intro hsg.max (And.intro hsg.small (And.intro hsg.few (And.intro hfr2 (fun (hne : n1 ≠ 0) (q : Addr) (hq : A = some q) => (by rw [hB]; exact hsg.holds.lt hne hq : q.block < B))))))))
  clear hB hW2 gF gT gB2 g1 g2 gB x2 z1 hL2 hsg hfr2
  go_upto_region 4 with fail
  rw [← HW2.out, ← HB.out]
  clear HW2
  go_cut [] (fun wx => ∃ a' cp', Keep (fun i => i = B) W2 wx ∧ wx.heap[B]? = some (.cells #[.int .i64 C, .int .i64 S', .int .i64 L', .int .i64 U, .int .i64 F', .int .i64 T', .slice a' (n + 1 : Nat) cp', .int .i64 told2] 31 (0, 0)) ∧
    HoldsL 3 byt wx a' (L ++ [(y0, y1, y2)]) ∧ n + 1 ≤ cp' ∧ cp' ≤ maxLen ∧ (∀ p, a' = some p → W2.heap.size ≤ p.block))
  case first =>
    have c6 := cell_of_heap (j := 6) HGF.out rfl
    have f6 := frozen_of_row _ _ 6 _ _ HGF.out
    have b0 := cell_of_heap (j := 0) HGB.out rfl
    have b1 := cell_of_heap (j := 1) HGB.out rfl
    have b2 := cell_of_heap (j := 2) HGB.out rfl
    go_region_law (first
      | (refine step_append_list2 rfl (.tmp 25) (.tmp 27) 29 rfl W2.heap.size 46 iB _ 16 Try.underlying29 hiB hzB0 hzB1 hzB2 rfl (by decide) byt_length byt_one _ 0 [] (by rfl)
            (own_empty_sz (by first | exact heap_new_at _ _ (by simp) | exact (heap_alloc_old _ _ (by simp)).trans (heap_new_at _ _ (by simp))) (by simp)) a cp L n HN.out (by rfl)
            (HL2.out.ext (by first | exact ext_drew (Ext.alloc _ _) | exact ext_drew ((Ext.alloc _ _).alloc' _))) (by unfold maxLen; have := HN2.out; omega) (by have := HN2.out; omega) (by simp; try omega) ?_
         intro v28 w28 hown28 hgr28 hb28
         have x28 : Ext W2 w28 := Below.trans (by first | exact ext_drew (Ext.alloc _ _) | exact ext_drew ((Ext.alloc _ _).alloc' _)) hb28
         have c28 := cell_of_heap (j := 6) (x28.block HGF.out) rfl
         have f28 := frozen_of_row _ _ 6 _ _ (x28.block HGF.out)
         have b28 := cell_of_heap (j := 0) (x28.block HGB.out) rfl
         have d28 := cell_of_heap (j := 1) (x28.block HGB.out) rfl
         have e28 := cell_of_heap (j := 2) (x28.block HGB.out) rfl
         have s28 := x28.size
         have l28 : S + 1 < w28.heap.size := Nat.lt_of_lt_of_le hB2 s28
         have m28 : B < w28.heap.size := Nat.lt_of_lt_of_le hF2 s28
         first
           | (have h30 := lit_byt (b := (y0, y1, y2)) (blockD hgr28 (W2.heap.size + 1) (heap_new_at _ _ (by simp)) (by simp [Value.ownBlock])))
           | (have h30 := lit_byt (b := (y0, y1, y2)) (blockD hgr28 W2.heap.size ((heap_alloc_old _ _ (by simp)).trans (heap_new_at _ _ (by simp))) (by simp [Value.ownBlock])))
           | skip
         clear hgr28 hb28)
      | (refine step_append_list2 rfl (.tmp 28) (.tmp 30) 29 rfl W2.heap.size 46 iB _ 16 Try.underlying29 hiB hzB0 hzB1 hzB2 rfl (by decide) byt_length byt_one _ (0 + n) ([] ++ L) (by rfl)
            (by first | exact hown28 | exact own_ext hown28 (Ext.alloc _ _)) _ 1 [(y0, y1, y2)] 1 rfl (by rfl) (by first | exact h30 | exact lit_byt (heap_new_at _ _ rfl)) (by unfold maxLen; have := HN2.out; omega) (by have := HN2.out; omega) (by first | exact s28 | (simp; omega)) ?_
         intro v31 w31 hown31 hgr31 hb31
         have x31 : Ext W2 w31 := Below.trans (by first | exact x28 | exact x28.alloc' _) hb31
         have c31 := cell_of_heap (j := 6) (x31.block HGF.out) rfl
         have f31 := frozen_of_row _ _ 6 _ _ (x31.block HGF.out)
         rw [show 0 + n + 1 = n + 1 by omega] at hown31
         obtain ⟨a31, cp31, hv31, le31, mx31, h31, o31⟩ := HoldsL.of_own byt_length hown31 (by rw [List.nil_append, List.length_append, HN.out]; rfl)
         rw [List.nil_append] at h31
         clear hown31 hown28 hb31 hgr31
         subst hv31))
    all_goals
      have hend : Keep (fun i => i = B) W2 (w31.setCell ⟨B, 6, none⟩ (.slice a31 (n + 1 : Nat) cp31)) ∧ (w31.setCell ⟨B, 6, none⟩ (.slice a31 (n + 1 : Nat) cp31)).heap[B]? = some (.cells #[.int .i64 C, .int .i64 S', .int .i64 L', .int .i64 U, .int .i64 F', .int .i64 T', .slice a31 (n + 1 : Nat) cp31, .int .i64 told2] 31 (0, 0)) ∧
          HoldsL 3 byt (w31.setCell ⟨B, 6, none⟩ (.slice a31 (n + 1 : Nat) cp31)) a31 (L ++ [(y0, y1, y2)]) := by
        refine ⟨(Keep.of_ext x31).same (Keep.set _ _ _ _), (heap_setCell_same _ _ 6 _ _ _ (x31.block HGF.out)).trans rfl, h31.keep (Keep.set _ _ _ _) fun q hq e => ?_⟩
        have := o31 q hq
        omega
      have HEnd := Lib.hid hend
      clear hend x31 c31 f31 h31 s28 l28 m28 b28 d28 e28 f28 c28 x28
      go_wp2_with fail
      go_meet
      exact ⟨a31, cp31, HEnd.out.1, HEnd.out.2.1, HEnd.out.2.2, le31, mx31, o31⟩
  case rest =>
    obtain ⟨a', cp', k3, r3, h3, l3, m3, o3⟩ := hcut
    have hlt3 := heap_lt HG2.out
    have hlt4 := heap_lt HGT.out
    have t3 := (k3.block (B + 1) hlt4 (by omega)).trans HGT.out
    have a3 := (k3.block (S + 1 + 1) (by omega) (by omega)).trans HG1.out
    have d3 := (k3.block (S + 1 + 1 + 1) hlt3 (by omega)).trans HG2.out
    obtain ⟨W4, hW4⟩ : ∃ W4, W4 = ((((((((((((((wc.setCell ⟨S + 1 + 1, 0, none⟩ (.int .i64 C)).setCell ⟨S + 1 + 1, 1, none⟩ (.int .i64 S')).setCell ⟨S + 1 + 1, 2, none⟩ (.int .i64 L')).setCell ⟨S + 1 + 1, 3, none⟩ (.int .i64 U)).setCell ⟨S + 1 + 1, 4, none⟩ (.int .i64 F')).setCell ⟨S + 1 + 1, 5, none⟩ (.int .i64 T')).setCell ⟨S + 1 + 1, 6, none⟩ (.slice a' (n + 1 : Nat) cp')).setCell ⟨S + 1 + 1, 7, none⟩ (.int .i64 told2)).setCell ⟨S + 1 + 1 + 1, 0, none⟩ (.slice A n1 cA)).setCell ⟨S + 1 + 1 + 1, 1, none⟩ (.int .i64 t0)).setCell ⟨S + 1 + 1 + 1, 2, none⟩ (.int .i64 t1)).setCell ⟨S + 1 + 1 + 1, 3, none⟩ (.int .i64 k1)).setCell ⟨S + 1 + 1 + 1, 4, none⟩ (.bool gp)).setCell ⟨S + 1 + 1 + 1, 5, none⟩ (.bool bd)).drew := ⟨_, rfl⟩
    have hs4 : W4 = ((wc.setCells (S + 1 + 1) 0 [.int .i64 C, .int .i64 S', .int .i64 L', .int .i64 U, .int .i64 F', .int .i64 T', .slice a' (n + 1 : Nat) cp', .int .i64 told2]).setCells (S + 1 + 1 + 1) 0 [.slice A n1 cA, .int .i64 t0, .int .i64 t1, .int .i64 k1, .bool gp, .bool bd]).drew := hW4
    have hk4 : Keep (fun i => i = S + 1 + 1 ∨ i = S + 1 + 1 + 1) wc W4 := by
      rw [hs4]
      exact ((keep_cells _ _ _ _).mono (fun i hi => .inl hi)).same (((keep_cells _ _ _ _).mono (fun i hi => .inr hi)).trans_ext (Ext.drew _))
    have hw1 := HB.out
    have hS0 := HS.out
    have hx3 : Keep (fun i => w.heap.size ≤ i) w wc := (Keep.of_ext HZ.out).same (k3.mono fun i hi => by omega)
    have hx4 : Ext w W4 := Ext.keep (Ext.refl w) (hx3.same (hk4.mono fun i hi => by omega)) (fun i hi => hi)
    obtain ⟨q0, q2, q3, q4, q5, q6, q7⟩ := HSeg.out
    have hoth : ∀ q, q ≠ B → q ≠ S + 1 + 1 → q ≠ S + 1 + 1 + 1 → q < W2.heap.size → W4.heap[q]? = W2.heap[q]? := fun q e1 e2 e3 hlt =>
      (hk4.block q (Nat.lt_of_lt_of_le hlt k3.size) (by omega)).trans (k3.block q hlt e1)
    have hseg4 : SegT W4 (fun _ => False) A cA ⟨n1, q1, t0, t1, k1, gp, bd⟩ := by
      refine ⟨q0.blocks fun q o hq hne hlt => ?_, q2, q3, q4, q5, fun q _ h => h⟩
      have h5 := q6 hne _ hq
      simp only at h5
      have h6 := q7 hne _ hq
      simp only at h6
      exact hoth q (by omega) (by omega) (by omega) hlt
    have href4 : RefM W4 a' cp' (L ++ [(y0, y1, y2)]) := by
      refine ⟨h3.keep hk4 fun q hq e => ?_, by rw [List.length_append, HN.out]; exact l3, m3, by rw [List.length_append, HN.out]; have := HN2.out; simp; omega, fun x hx => ?_⟩
      · have := o3 q hq; omega
      · rcases List.mem_append.1 hx with h | h
        · exact HM.out.small x h
        · rw [List.mem_singleton.1 h]; exact HY.out
    have hfr4 : Fresh w a' := fun q hq => by have := o3 q hq; omega
    have h1r : W4.heap[S + 1 + 1]? = some (.cells #[.int .i64 C, .int .i64 S', .int .i64 L', .int .i64 U, .int .i64 F', .int .i64 T', .slice a' (n + 1 : Nat) cp', .int .i64 told2] 31 (0, 0)) := by
      rw [hs4, heap_drew]
      exact (cells_other _ _ _ _ (by omega)).trans (cells8 _ _ _ _ _ _ _ _ a3)
    have h2r : W4.heap[S + 1 + 1 + 1]? = some (.cells #[.slice A n1 cA, .int .i64 t0, .int .i64 t1, .int .i64 k1, .bool gp, .bool bd] 48 (0, 0)) := by
      rw [hs4, heap_drew]
      exact cells6 _ _ _ _ _ _ ((cells_other _ _ _ _ (by omega)).trans d3)
    have HEnd := Lib.hid (And.intro hx4 (And.intro hseg4 (And.intro href4 hfr4)))
    have H1r := Lib.hid h1r
    have H2r := Lib.hid h2r
    have HW4 := Lib.hid hW4
    have e1 : ¬ B = S + 1 + 1 := by omega
    have e2 : ¬ B = S + 1 + 1 + 1 := by omega
    have e3 : ¬ B + 1 = S + 1 + 1 := by omega
    have e4 : ¬ B + 1 = S + 1 + 1 + 1 := by omega
    have x0 := cell_of_heap (j := 0) r3 rfl
    have x1 := cell_of_heap (j := 1) r3 rfl
    have x2 := cell_of_heap (j := 2) r3 rfl
    have x3 := cell_of_heap (j := 3) r3 rfl
    have x4 := cell_of_heap (j := 4) r3 rfl
    have x5 := cell_of_heap (j := 5) r3 rfl
    have x6 := cell_of_heap (j := 6) r3 rfl
    have x7 := cell_of_heap (j := 7) r3 rfl
    have y0 := cell_of_heap (j := 0) t3 rfl
    have y1 := cell_of_heap (j := 1) t3 rfl
    have y2 := cell_of_heap (j := 2) t3 rfl
    have y3 := cell_of_heap (j := 3) t3 rfl
    have y4 := cell_of_heap (j := 4) t3 rfl
    have y5 := cell_of_heap (j := 5) t3 rfl
    have u0 := cell_of_heap (j := 0) a3 rfl
    have u1 := cell_of_heap (j := 1) a3 rfl
    have u2 := cell_of_heap (j := 2) a3 rfl
    have u3 := cell_of_heap (j := 3) a3 rfl
    have u4 := cell_of_heap (j := 4) a3 rfl
    have u5 := cell_of_heap (j := 5) a3 rfl
    have u6 := cell_of_heap (j := 6) a3 rfl
    have u7 := cell_of_heap (j := 7) a3 rfl
    have v0 := cell_of_heap (j := 0) d3 rfl
    have v1 := cell_of_heap (j := 1) d3 rfl
    have v2 := cell_of_heap (j := 2) d3 rfl
    have v3 := cell_of_heap (j := 3) d3 rfl
    have v4 := cell_of_heap (j := 4) d3 rfl
    have v5 := cell_of_heap (j := 5) d3 rfl
    have fu0 := frozen_of_row _ _ 0 _ _ a3
    have fu1 := frozen_of_row _ _ 1 _ _ a3
    have fu2 := frozen_of_row _ _ 2 _ _ a3
    have fu3 := frozen_of_row _ _ 3 _ _ a3
    have fu4 := frozen_of_row _ _ 4 _ _ a3
    have fu5 := frozen_of_row _ _ 5 _ _ a3
    have fu6 := frozen_of_row _ _ 6 _ _ a3
    have fu7 := frozen_of_row _ _ 7 _ _ a3
    have fv0 := frozen_of_row _ _ 0 _ _ d3
    have fv1 := frozen_of_row _ _ 1 _ _ d3
    have fv2 := frozen_of_row _ _ 2 _ _ d3
    have fv3 := frozen_of_row _ _ 3 _ _ d3
    have fv4 := frozen_of_row _ _ 4 _ _ d3
    have fv5 := frozen_of_row _ _ 5 _ _ d3
    clear k3 r3 h3 l3 m3 o3 hlt3 hlt4 t3 a3 d3 hs4 hW4 hk4 hw1 hS0 hx3 hx4 q0 q2 q3 q4 q5 q6 q7 hoth hseg4 href4 hfr4 h1r h2r HSeg HG1 HG2 HGB HGF HGT HL2 HZ hB2 hSB hF2 hW2s
    go_wp2_with fail
    go_region
    rw [← HW4.out]
    clear HW4 x0 x1 x2 x3 x4 x5 x6 x7 y0 y1 y2 y3 y4 y5 u0 u1 u2 u3 u4 u5 u6 u7 v0 v1 v2 v3 v4 v5 fu0 fu1 fu2 fu3 fu4 fu5 fu6 fu7 fv0 fv1 fv2 fv3 fv4 fv5
    go_wp2_with fail
    refine bodyPost_ret (results_row_row_tmp2 rfl _ _ (S + 1 + 1) (S + 1 + 1 + 1) 31 48 _ _ (0, 0) (0, 0) _ _ rfl H1r.out Try.underlying31 rfl (by kernel_rfl) rfl H2r.out Try.underlying48 rfl (by kernel_rfl)) rfl ?_
    exact ⟨A, cA, a', cp', rfl, HEnd.out⟩
/-- A byte comes. -/
theorem rbyte_any10 (x : Fr) (a : Option Addr) (n cp : Nat) (L : List Byt) (T : List Seg) (b : Byt) (w : World) (hx : FrOk x) (hr : RefR x L T) (hm : RefM w a cp L) (hn : L.length = n) (hn2 : n ≤ 999999) (h0 : 0 ≤ b.2.1) (h1 : b.2.1 < 256) :
    Calls Try.prog 21 #[.agg (refC x a n cp T.length), .agg (byt b).toArray] w fun e w' => ∃ A cA a' n' cp', e = .returned (.tuple #[.agg (refC (byteF x b) a' n' cp' (tellT x b.1 T).length), .agg (segC A cA (idleS x b.1)), .bool (idleB x b.1), .bool (!errB x b.1)]) ∧ Ext w w' ∧ SegT w' (fun _ => False) A cA (idleS x b.1) ∧ RefM w' a' cp' (byteL x b L) ∧ (byteL x b L).length = n' ∧ (a' = a ∧ byteL x b L = L ∨ Fresh w a') := by
  cases he : errB x b.1
  · have e1 : byteL x b L = L ++ [b] := by unfold byteL; rw [if_neg (by simp [he])]
    have e2 : ∀ a' n' cp' q, refC (byteF x b) a' n' cp' q = refC (idleF x b.1) a' n' cp' q := fun a' n' cp' q => by unfold byteF; rw [if_neg (by simp [he])]; rfl
    rw [e1]
    exact (rbyte_yes x a n cp L T b w hx hr hm hn hn2 he h0 h1).mono fun e w' ⟨A, cA, a', cp', h1, h2, h3, h4, h5⟩ => ⟨A, cA, a', n + 1, cp', by rw [e2]; exact h1, h2, h3, h4, by simp [hn], .inr h5⟩
  · have e1 : byteL x b L = L := by unfold byteL; rw [if_pos he]
    have e2 : byteF x b = x := by unfold byteF; rw [if_pos he]
    have e3 : idleS x b.1 = zeroS := by unfold idleS; rw [if_pos he]
    have e4 : idleB x b.1 = false := by unfold idleB; rw [he]; rfl
    have e5 : tellT x b.1 T = T := by unfold tellT; rw [if_pos he]
    rw [e1, e2, e3, e4, e5]
    exact (rbyte_err x a n cp T.length b w he).mono fun e w' ⟨h1, h2⟩ => ⟨none, 0, a, n, cp, h1, h2, SegT.nil _ _, hm.ext h2, hn, .inl ⟨rfl, rfl⟩⟩
end Go.Proofs.Ytlemnjphjmnmbaa
