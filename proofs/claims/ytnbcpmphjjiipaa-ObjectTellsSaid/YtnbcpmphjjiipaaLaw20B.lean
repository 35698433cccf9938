/-
  THE LAWS OF LAYER 20: ObjectTells (package object's contracts as premises).
-/
import Derived.Test.YtnbcpmphjjiipaaLaw20A
namespace Go.Proofs.Ytnbcpmphjjiipaa
open Go.RowKit
set_option linter.unusedVariables false
set_option maxRecDepth 100000

set_option maxHeartbeats 16000000 in
theorem objectTells.small (K : ObjC) (a b : Option Addr) (n m c d : Nat) (L M : List Ob) (s id : Int) (w : World) (hL : ObjsAt w a n c L) (hM : ObjsAt w b m d M) (hLf : fewO L = true) (hMf : fewO M = true) (ws : (Lit.int .i64 s).wf = true) (wi : (Lit.int .i64 id).wf = true) :
    Calls Try.prog 3 #[.slice a n c, .slice b m d, .agg #[.int .i64 s, .int .i64 id]] w fun e w' => e = .returned (.bool true) ∧ Ext w w' := by
  have fL := fewO_f hLf
  have fM := fewO_f hMf
  have hn : n ≤ 1000000 := by have := fL.n; rw [hL.len] at this; omega
  have hm : m ≤ 1000000 := by have := fM.n; rw [hM.len] at this; omega
  obtain ⟨W0, hW0, x0, HB⟩ : ∃ W0, W0 = w.alloc (.cells #[.int .i64 s, .int .i64 id] 23) ∧ Ext w W0 ∧ Hid (W0.heap[w.heap.size]? = some (.cells #[.int .i64 s, .int .i64 id] 23 (0, 0))) := ⟨_, rfl, Ext.alloc _ _, Lib.hid (heap_alloc_new _ _)⟩
  have c0 : W0.cell? ⟨w.heap.size, 0, none⟩ = some (.int .i64 s) := cell_of_heap HB.out rfl
  have c1 : W0.cell? ⟨w.heap.size, 1, none⟩ = some (.int .i64 id) := cell_of_heap HB.out rfl
  have HL := Lib.hid (And.intro (hL.ext x0) fL)
  have HM := Lib.hid (And.intro (hM.ext x0) fM)
  have HK := Lib.hid K
  have HX := Lib.hid x0
  have HI := Lib.hid (And.intro ws wi)
  have HN := Lib.hid (And.intro hn hm)
  have KFl := Lib.hid (fun W (x : Ext W0 W) => rfew20_any a n c L W (HL.out.1.ext x) (by omega))
  have KFm := Lib.hid (fun W (x : Ext W0 W) => rfew20_any b m d M W (HM.out.1.ext x) (by omega))
  rw [hLf] at KFl
  rw [hMf] at KFm
  clear K hL hM fL fM x0 ws wi hLf hMf hn hm
  go_enter Try.func3, Try.ntmps3
  go_upto_region 1 with fail
  rw [← hW0]
  clear hW0
  go_wp2_with fail
  go_quiet (fail)
  obtain ⟨W1, hW1, x1⟩ : ∃ W1, W1 = W0.drewN nq ∧ Ext W0 W1 := ⟨_, rfl, below_drewN (Below.refl _ _) nq⟩
  rw [← hW1]
  clear hW1 c0 c1
  go_wp2_with fail
  refine (KFl.out _ x1).mono ?_; rintro e w2 ⟨rfl, hw2⟩
  rw [hw2]; clear hw2
  go_wp2_with fail
  refine (KFm.out _ x1).mono ?_; rintro e w2 ⟨rfl, hw2⟩
  rw [hw2]; clear hw2
  go_wp2_with fail
  refine (HK.out.find a n c L id W1 (HL.out.1.ext x1) HL.out.2 HI.out.2).mono ?_; rintro e w2 ⟨z, rfl, hz, sz, x2⟩
  obtain ⟨Bk, hBk⟩ : ∃ Bk, (findO id L).isSome = Bk := ⟨_, rfl⟩
  rw [hBk]
  obtain ⟨G1, hG1⟩ : ∃ G1, G1 = w2.heap.size := ⟨_, rfl⟩
  obtain ⟨W3, hW3, y3, HZ⟩ : ∃ W3, W3 = w2.alloc (.cells (obC z) 28) ∧ Ext w2 W3 ∧ Hid (W3.heap[G1]? = some (.cells (obC z) 28 (0, 0))) := ⟨_, rfl, Ext.alloc _ _, Lib.hid (by rw [hG1]; exact heap_alloc_new _ _)⟩
  have x3 : Ext W0 W3 := x1.trans (x2.trans y3)
  have Hz := Lib.hid (And.intro (hz.ext y3) sz)
  clear hz sz x2 y3
  simp only [obC]
  go_upto_region 5 with fail
  rw [show (w2.alloc (.cells #[.int .i64 z.id, .slice z.a z.n z.c] 28)) = W3 from hW3.symm, ← hG1]
  clear hW3 hG1
  go_wp2_with fail
  refine (rfind20_any a n c L id W3 (HL.out.1.ext x3) HN.out.1).mono ?_; rintro e w4 ⟨rfl, x4⟩
  rw [hBk]
  obtain ⟨y, hy⟩ : ∃ y, (findO id L).getD zeroOb = y := ⟨_, rfl⟩
  have fat := findO_at (HL.out.1.ext x3) HL.out.2 id
  rw [hy] at fat
  have szy := Hz.out.2
  rw [hy] at szy ⊢
  obtain ⟨G2, hG2⟩ : ∃ G2, G2 = w4.heap.size := ⟨_, rfl⟩
  obtain ⟨W5, hW5, y5, HY⟩ : ∃ W5, W5 = w4.alloc (.cells (obC y) 28) ∧ Ext w4 W5 ∧ Hid (W5.heap[G2]? = some (.cells (obC y) 28 (0, 0))) := ⟨_, rfl, Ext.alloc _ _, Lib.hid (by rw [hG2]; exact heap_alloc_new _ _)⟩
  have x5 : Ext W3 W5 := x4.trans y5
  have hzn : z.n = y.n := (sameZ_iff.1 szy).2.1
  have HG := Lib.hid (fun W (x : Ext W5 W) => (⟨(x5.trans x).block HZ.out, x.block HY.out⟩ : W.heap[G1]? = some (.cells #[.int .i64 z.id, .slice z.a z.n z.c] 28 (0, 0)) ∧ W.heap[G2]? = some (.cells #[.int .i64 y.id, .slice y.a y.n y.c] 28 (0, 0))))
  have HC1 := Lib.hid (fun W (x : Ext W5 W) => (cell_of_heap ((x5.trans x).block HZ.out) rfl : W.cell? ⟨G1, 1, none⟩ = some (.slice z.a z.n z.c)))
  have KZ := Lib.hid (fun W (x : Ext W5 W) => HK.out.size z W (Hz.out.1.ext (x5.trans x)) (by rw [hzn]; exact fat.2))
  have KS := Lib.hid (fun W g1 g2 (x : Ext W5 W) (q1 : W.heap[g1]? = some (.cells (obC z) 28 (0, 0))) (q2 : W.heap[g2]? = some (.cells (obC y) 28 (0, 0))) => (rsame20_any (some ⟨g1, 0, none⟩) (some ⟨g2, 0, none⟩) 1 1 1 1 [z] [y] W (one_at q1 (Hz.out.1.ext (x5.trans x))) (one_at q2 (fat.1.ext (x5.trans x))) (oneF (by rw [hzn]; exact fat.2)) (oneF fat.2)).mono (fun e w' hh => (⟨by rw [hh.1, sameO_one szy], by obtain ⟨q, hq⟩ := hh.2; rw [hq]; exact below_drewN (Below.refl _ _) q⟩ : e = .returned (.bool true) ∧ Ext W w')))
  have e2 : IntKind.i64.wrap (2 + (z.n : Int)) = 2 + z.n := IntWalk.i64_in _ (by have := fat.2; omega)
  simp only [obC]
  go_upto_region 6 with fail
  rw [show (w4.alloc (.cells #[.int .i64 y.id, .slice y.a y.n y.c] 28)) = W5 from hW5.symm, ← hG2]
  have x05 : Ext W0 W5 := x3.trans x5
  clear hW5 hG2 fat hzn szy x4 y5 hBk hy x3 x5 x1
  have hs : Ext W5 W5.drew := Ext.drew W5
  go_cut [60] (fun v wr => v = .bool false ∧ Ext W5 wr)
  case first =>
    as_aux_lemma =>
    cases Bk
    · refine wp_region_held_drew (S := fun W => Ext W5 W) (by kernel_rfl) hs (fun _ => ?_)
      refine wpAnyH_takeD (i := 0) (d := 38) (v := .bool false) rfl rfl (by kernel_rfl) (by kernel_rfl) (by kernel_rfl) (fun _ _ _ h => h) (Or.inl ⟨by rfl, fun W hW => by go_simp⟩) hs ?_
      simp only [Act.put, List.setIfInBounds_toArray, List.set_cons_succ, List.set_cons_zero]
      refine wpAnyH_takeD (i := 1) (d := 39) (v := .bool false) rfl rfl (by kernel_rfl) (by kernel_rfl) (by kernel_rfl) (fun _ _ _ h => h) (Or.inl ⟨by rfl, fun W hW => by go_simp⟩) hs ?_
      simp only [Act.put, List.setIfInBounds_toArray, List.set_cons_succ, List.set_cons_zero]
      refine wpAnyH_takeD (i := 2) (d := 40) (v := .bool false) rfl rfl (by kernel_rfl) (by kernel_rfl) (by kernel_rfl) (fun _ _ _ h => h) (Or.inl ⟨by rfl, fun W hW => by go_simp⟩) hs ?_
      simp only [Act.put, List.setIfInBounds_toArray, List.set_cons_succ, List.set_cons_zero]
      refine wpAnyH_takeD (i := 3) (d := 41) (v := .bool false) rfl rfl (by kernel_rfl) (by kernel_rfl) (by kernel_rfl) (fun _ _ _ h => h) (Or.inl ⟨by rfl, fun W hW => by go_simp⟩) hs ?_
      simp only [Act.put, List.setIfInBounds_toArray, List.set_cons_succ, List.set_cons_zero]
      refine wpAnyH_takeD (i := 4) (d := 42) rfl rfl (by kernel_rfl) (by kernel_rfl) (by kernel_rfl) (fun _ _ _ h => h) (yieldsIf_load_row (by rfl) 28 (.tmp 9) rfl (G1) rfl 28 _ (0, 0) _ (fun w' hw' => (HG.out _ hw').1) Try.underlying28 rfl (by kernel_rfl)) hs ?_
      simp only [Act.put, List.setIfInBounds_toArray, List.set_cons_succ, List.set_cons_zero]
      refine wpAnyH_takeD (i := 6) (d := 44) rfl rfl (by kernel_rfl) (by kernel_rfl) (by kernel_rfl) (fun _ _ _ h => h) (yieldsIf_load_row (by rfl) 28 (.tmp 11) rfl (G2) rfl 28 _ (0, 0) _ (fun w' hw' => (HG.out _ hw').2) Try.underlying28 rfl (by kernel_rfl)) hs ?_
      simp only [Act.put, List.setIfInBounds_toArray, List.set_cons_succ, List.set_cons_zero]
      refine wpAnyH_ready (rs := [5, 7]) (by kernel_rfl) (by simp) (AllReadyH.cons rfl (fun K hK => ?_) (AllReadyH.cons rfl (fun K hK => ?_) AllReadyH.nil))
      · go_simp
        refine hK.out _ _ (hs.trans (Ext.alloc _ _)) (fun hs => ?_)
        clear hK K
        refine wpAnyH_ready (rs := [7]) (by kernel_rfl) (by simp) (AllReadyH.cons rfl (fun K hK => ?_) AllReadyH.nil)
        go_simp
        refine hK.out _ _ (hs.trans (Ext.alloc _ _)) (fun hs => ?_)
        clear hK K
        refine wpAnyH_ready (rs := [8]) (by kernel_rfl) (by simp) (AllReadyH.cons rfl (fun K hK => ?_) AllReadyH.nil)
        go_simp
        refine (KS.out _ _ _ hs (by first | exact heap_new_at _ _ (by simp) | exact (heap_alloc_old _ _ (by simp)).trans (heap_new_at _ _ (by simp))) (by first | exact heap_new_at _ _ (by simp) | exact (heap_alloc_old _ _ (by simp)).trans (heap_new_at _ _ (by simp)))).mono ?_; rintro e w8 ⟨rfl, x8⟩
        go_wp2_with fail
        refine hK.out _ _ (hs.trans x8) (fun hs => ?_)
        clear hK K
        refine wpAnyH_takeD (i := 9) (d := 47) (v := .bool false) rfl rfl (by kernel_rfl) (by kernel_rfl) (by kernel_rfl) (fun _ _ _ h => h) (Or.inl ⟨by rfl, fun W hW => by go_simp⟩) hs ?_
        simp only [Act.put, List.setIfInBounds_toArray, List.set_cons_succ, List.set_cons_zero]
        refine wpAnyH_takeD (i := 10) (d := 48) (v := .bool false) rfl rfl (by kernel_rfl) (by kernel_rfl) (by kernel_rfl) (fun _ _ _ h => h) (Or.inl ⟨by rfl, fun W hW => by go_simp⟩) hs ?_
        simp only [Act.put, List.setIfInBounds_toArray, List.set_cons_succ, List.set_cons_zero]
        refine wpAnyH_takeD (i := 11) (d := 49) (v := .bool false) rfl rfl (by kernel_rfl) (by kernel_rfl) (by kernel_rfl) (fun _ _ _ h => h) (Or.inl ⟨by rfl, fun W hW => by go_simp⟩) hs ?_
        simp only [Act.put, List.setIfInBounds_toArray, List.set_cons_succ, List.set_cons_zero]
        refine wpAnyH_takeD (i := 12) (d := 50) (v := .bool false) rfl rfl (by kernel_rfl) (by kernel_rfl) (by kernel_rfl) (fun _ _ _ h => h) (Or.inl ⟨by rfl, fun W hW => by go_simp⟩) hs ?_
        simp only [Act.put, List.setIfInBounds_toArray, List.set_cons_succ, List.set_cons_zero]
        refine wpAnyH_takeD (i := 13) (d := 51) (v := .bool false) rfl rfl (by kernel_rfl) (by kernel_rfl) (by kernel_rfl) (fun _ _ _ h => h) (Or.inl ⟨by rfl, fun W hW => by go_simp⟩) hs ?_
        simp only [Act.put, List.setIfInBounds_toArray, List.set_cons_succ, List.set_cons_zero]
        refine wpAnyH_takeD (i := 14) (d := 52) (v := undef) rfl rfl (by kernel_rfl) (by kernel_rfl) (by kernel_rfl) (fun _ _ _ h => h) (Or.inr ⟨by rfl, rfl⟩) hs ?_
        simp only [Act.put, List.setIfInBounds_toArray, List.set_cons_succ, List.set_cons_zero]
        refine wpAnyH_takeD (i := 15) (d := 53) (v := undef) rfl rfl (by kernel_rfl) (by kernel_rfl) (by kernel_rfl) (fun _ _ _ h => h) (Or.inr ⟨by rfl, rfl⟩) hs ?_
        simp only [Act.put, List.setIfInBounds_toArray, List.set_cons_succ, List.set_cons_zero]
        refine wpAnyH_takeD (i := 16) (d := 54) (v := undef) rfl rfl (by kernel_rfl) (by kernel_rfl) (by kernel_rfl) (fun _ _ _ h => h) (Or.inr ⟨by rfl, rfl⟩) hs ?_
        simp only [Act.put, List.setIfInBounds_toArray, List.set_cons_succ, List.set_cons_zero]
        refine wpAnyH_takeD (i := 17) (d := 55) (v := undef) rfl rfl (by kernel_rfl) (by kernel_rfl) (by kernel_rfl) (fun _ _ _ h => h) (Or.inr ⟨by rfl, rfl⟩) hs ?_
        simp only [Act.put, List.setIfInBounds_toArray, List.set_cons_succ, List.set_cons_zero]
        refine wpAnyH_takeD (i := 18) (d := 56) (v := undef) rfl rfl (by kernel_rfl) (by kernel_rfl) (by kernel_rfl) (fun _ _ _ h => h) (Or.inr ⟨by rfl, rfl⟩) hs ?_
        simp only [Act.put, List.setIfInBounds_toArray, List.set_cons_succ, List.set_cons_zero]
        refine wpAnyH_takeD (i := 19) (d := 57) (v := undef) rfl rfl (by kernel_rfl) (by kernel_rfl) (by kernel_rfl) (fun _ _ _ h => h) (Or.inr ⟨by rfl, rfl⟩) hs ?_
        simp only [Act.put, List.setIfInBounds_toArray, List.set_cons_succ, List.set_cons_zero]
        refine wpAnyH_takeD (i := 20) (d := 58) (v := undef) rfl rfl (by kernel_rfl) (by kernel_rfl) (by kernel_rfl) (fun _ _ _ h => h) (Or.inr ⟨by rfl, rfl⟩) hs ?_
        simp only [Act.put, List.setIfInBounds_toArray, List.set_cons_succ, List.set_cons_zero]
        refine wpAnyH_takeD (i := 21) (d := 59) (v := .bool false) rfl rfl (by kernel_rfl) (by kernel_rfl) (by kernel_rfl) (fun _ _ _ h => h) (Or.inl ⟨by rfl, fun W hW => by go_simp⟩) hs ?_
        simp only [Act.put, List.setIfInBounds_toArray, List.set_cons_succ, List.set_cons_zero]
        refine wpAnyH_takeD (i := 22) (d := 60) (v := .bool false) rfl rfl (by kernel_rfl) (by kernel_rfl) (by kernel_rfl) (fun _ _ _ h => h) (Or.inl ⟨by rfl, fun W hW => by go_simp⟩) hs ?_
        simp only [Act.put, List.setIfInBounds_toArray, List.set_cons_succ, List.set_cons_zero]
        refine wpAnyH_done (by kernel_rfl) ?_ _
        go_wp2_with fail
        go_meet
        exact ⟨rfl, hs⟩
      · go_simp
        refine hK.out _ _ (hs.trans (Ext.alloc _ _)) (fun hs => ?_)
        clear hK K
        refine wpAnyH_ready (rs := [5]) (by kernel_rfl) (by simp) (AllReadyH.cons rfl (fun K hK => ?_) AllReadyH.nil)
        go_simp
        refine hK.out _ _ (hs.trans (Ext.alloc _ _)) (fun hs => ?_)
        clear hK K
        refine wpAnyH_ready (rs := [8]) (by kernel_rfl) (by simp) (AllReadyH.cons rfl (fun K hK => ?_) AllReadyH.nil)
        go_simp
        refine (KS.out _ _ _ hs (by first | exact heap_new_at _ _ (by simp) | exact (heap_alloc_old _ _ (by simp)).trans (heap_new_at _ _ (by simp))) (by first | exact heap_new_at _ _ (by simp) | exact (heap_alloc_old _ _ (by simp)).trans (heap_new_at _ _ (by simp)))).mono ?_; rintro e w8 ⟨rfl, x8⟩
        go_wp2_with fail
        refine hK.out _ _ (hs.trans x8) (fun hs => ?_)
        clear hK K
        refine wpAnyH_takeD (i := 9) (d := 47) (v := .bool false) rfl rfl (by kernel_rfl) (by kernel_rfl) (by kernel_rfl) (fun _ _ _ h => h) (Or.inl ⟨by rfl, fun W hW => by go_simp⟩) hs ?_
        simp only [Act.put, List.setIfInBounds_toArray, List.set_cons_succ, List.set_cons_zero]
        refine wpAnyH_takeD (i := 10) (d := 48) (v := .bool false) rfl rfl (by kernel_rfl) (by kernel_rfl) (by kernel_rfl) (fun _ _ _ h => h) (Or.inl ⟨by rfl, fun W hW => by go_simp⟩) hs ?_
        simp only [Act.put, List.setIfInBounds_toArray, List.set_cons_succ, List.set_cons_zero]
        refine wpAnyH_takeD (i := 11) (d := 49) (v := .bool false) rfl rfl (by kernel_rfl) (by kernel_rfl) (by kernel_rfl) (fun _ _ _ h => h) (Or.inl ⟨by rfl, fun W hW => by go_simp⟩) hs ?_
        simp only [Act.put, List.setIfInBounds_toArray, List.set_cons_succ, List.set_cons_zero]
        refine wpAnyH_takeD (i := 12) (d := 50) (v := .bool false) rfl rfl (by kernel_rfl) (by kernel_rfl) (by kernel_rfl) (fun _ _ _ h => h) (Or.inl ⟨by rfl, fun W hW => by go_simp⟩) hs ?_
        simp only [Act.put, List.setIfInBounds_toArray, List.set_cons_succ, List.set_cons_zero]
        refine wpAnyH_takeD (i := 13) (d := 51) (v := .bool false) rfl rfl (by kernel_rfl) (by kernel_rfl) (by kernel_rfl) (fun _ _ _ h => h) (Or.inl ⟨by rfl, fun W hW => by go_simp⟩) hs ?_
        simp only [Act.put, List.setIfInBounds_toArray, List.set_cons_succ, List.set_cons_zero]
        refine wpAnyH_takeD (i := 14) (d := 52) (v := undef) rfl rfl (by kernel_rfl) (by kernel_rfl) (by kernel_rfl) (fun _ _ _ h => h) (Or.inr ⟨by rfl, rfl⟩) hs ?_
        simp only [Act.put, List.setIfInBounds_toArray, List.set_cons_succ, List.set_cons_zero]
        refine wpAnyH_takeD (i := 15) (d := 53) (v := undef) rfl rfl (by kernel_rfl) (by kernel_rfl) (by kernel_rfl) (fun _ _ _ h => h) (Or.inr ⟨by rfl, rfl⟩) hs ?_
        simp only [Act.put, List.setIfInBounds_toArray, List.set_cons_succ, List.set_cons_zero]
        refine wpAnyH_takeD (i := 16) (d := 54) (v := undef) rfl rfl (by kernel_rfl) (by kernel_rfl) (by kernel_rfl) (fun _ _ _ h => h) (Or.inr ⟨by rfl, rfl⟩) hs ?_
        simp only [Act.put, List.setIfInBounds_toArray, List.set_cons_succ, List.set_cons_zero]
        refine wpAnyH_takeD (i := 17) (d := 55) (v := undef) rfl rfl (by kernel_rfl) (by kernel_rfl) (by kernel_rfl) (fun _ _ _ h => h) (Or.inr ⟨by rfl, rfl⟩) hs ?_
        simp only [Act.put, List.setIfInBounds_toArray, List.set_cons_succ, List.set_cons_zero]
        refine wpAnyH_takeD (i := 18) (d := 56) (v := undef) rfl rfl (by kernel_rfl) (by kernel_rfl) (by kernel_rfl) (fun _ _ _ h => h) (Or.inr ⟨by rfl, rfl⟩) hs ?_
        simp only [Act.put, List.setIfInBounds_toArray, List.set_cons_succ, List.set_cons_zero]
        refine wpAnyH_takeD (i := 19) (d := 57) (v := undef) rfl rfl (by kernel_rfl) (by kernel_rfl) (by kernel_rfl) (fun _ _ _ h => h) (Or.inr ⟨by rfl, rfl⟩) hs ?_
        simp only [Act.put, List.setIfInBounds_toArray, List.set_cons_succ, List.set_cons_zero]
        refine wpAnyH_takeD (i := 20) (d := 58) (v := undef) rfl rfl (by kernel_rfl) (by kernel_rfl) (by kernel_rfl) (fun _ _ _ h => h) (Or.inr ⟨by rfl, rfl⟩) hs ?_
        simp only [Act.put, List.setIfInBounds_toArray, List.set_cons_succ, List.set_cons_zero]
        refine wpAnyH_takeD (i := 21) (d := 59) (v := .bool false) rfl rfl (by kernel_rfl) (by kernel_rfl) (by kernel_rfl) (fun _ _ _ h => h) (Or.inl ⟨by rfl, fun W hW => by go_simp⟩) hs ?_
        simp only [Act.put, List.setIfInBounds_toArray, List.set_cons_succ, List.set_cons_zero]
        refine wpAnyH_takeD (i := 22) (d := 60) (v := .bool false) rfl rfl (by kernel_rfl) (by kernel_rfl) (by kernel_rfl) (fun _ _ _ h => h) (Or.inl ⟨by rfl, fun W hW => by go_simp⟩) hs ?_
        simp only [Act.put, List.setIfInBounds_toArray, List.set_cons_succ, List.set_cons_zero]
        refine wpAnyH_done (by kernel_rfl) ?_ _
        go_wp2_with fail
        go_meet
        exact ⟨rfl, hs⟩
    · refine wp_region_held_drew (S := fun W => Ext W5 W) (by kernel_rfl) hs (fun _ => ?_)
      refine wpAnyH_takeD (i := 0) (d := 38) (v := .bool true) rfl rfl (by kernel_rfl) (by kernel_rfl) (by kernel_rfl) (fun _ _ _ h => h) (Or.inl ⟨by rfl, fun W hW => by go_simp⟩) hs ?_
      simp only [Act.put, List.setIfInBounds_toArray, List.set_cons_succ, List.set_cons_zero]
      refine wpAnyH_takeD (i := 1) (d := 39) (v := .bool true) rfl rfl (by kernel_rfl) (by kernel_rfl) (by kernel_rfl) (fun _ _ _ h => h) (Or.inl ⟨by rfl, fun W hW => by go_simp⟩) hs ?_
      simp only [Act.put, List.setIfInBounds_toArray, List.set_cons_succ, List.set_cons_zero]
      refine wpAnyH_takeD (i := 2) (d := 40) (v := .bool false) rfl rfl (by kernel_rfl) (by kernel_rfl) (by kernel_rfl) (fun _ _ _ h => h) (Or.inl ⟨by rfl, fun W hW => by go_simp⟩) hs ?_
      simp only [Act.put, List.setIfInBounds_toArray, List.set_cons_succ, List.set_cons_zero]
      refine wpAnyH_takeD (i := 3) (d := 41) (v := .bool false) rfl rfl (by kernel_rfl) (by kernel_rfl) (by kernel_rfl) (fun _ _ _ h => h) (Or.inl ⟨by rfl, fun W hW => by go_simp⟩) hs ?_
      simp only [Act.put, List.setIfInBounds_toArray, List.set_cons_succ, List.set_cons_zero]
      refine wpAnyH_takeD (i := 4) (d := 42) rfl rfl (by kernel_rfl) (by kernel_rfl) (by kernel_rfl) (fun _ _ _ h => h) (yieldsIf_load_row (by rfl) 28 (.tmp 9) rfl (G1) rfl 28 _ (0, 0) _ (fun w' hw' => (HG.out _ hw').1) Try.underlying28 rfl (by kernel_rfl)) hs ?_
      simp only [Act.put, List.setIfInBounds_toArray, List.set_cons_succ, List.set_cons_zero]
      refine wpAnyH_takeD (i := 6) (d := 44) rfl rfl (by kernel_rfl) (by kernel_rfl) (by kernel_rfl) (fun _ _ _ h => h) (yieldsIf_load_row (by rfl) 28 (.tmp 11) rfl (G2) rfl 28 _ (0, 0) _ (fun w' hw' => (HG.out _ hw').2) Try.underlying28 rfl (by kernel_rfl)) hs ?_
      simp only [Act.put, List.setIfInBounds_toArray, List.set_cons_succ, List.set_cons_zero]
      refine wpAnyH_ready (rs := [5, 7]) (by kernel_rfl) (by simp) (AllReadyH.cons rfl (fun K hK => ?_) (AllReadyH.cons rfl (fun K hK => ?_) AllReadyH.nil))
      · go_simp
        refine hK.out _ _ (hs.trans (Ext.alloc _ _)) (fun hs => ?_)
        clear hK K
        refine wpAnyH_ready (rs := [7]) (by kernel_rfl) (by simp) (AllReadyH.cons rfl (fun K hK => ?_) AllReadyH.nil)
        go_simp
        refine hK.out _ _ (hs.trans (Ext.alloc _ _)) (fun hs => ?_)
        clear hK K
        refine wpAnyH_ready (rs := [8]) (by kernel_rfl) (by simp) (AllReadyH.cons rfl (fun K hK => ?_) AllReadyH.nil)
        go_simp
        refine (KS.out _ _ _ hs (by first | exact heap_new_at _ _ (by simp) | exact (heap_alloc_old _ _ (by simp)).trans (heap_new_at _ _ (by simp))) (by first | exact heap_new_at _ _ (by simp) | exact (heap_alloc_old _ _ (by simp)).trans (heap_new_at _ _ (by simp)))).mono ?_; rintro e w8 ⟨rfl, x8⟩
        go_wp2_with fail
        refine hK.out _ _ (hs.trans x8) (fun hs => ?_)
        clear hK K
        refine wpAnyH_takeD (i := 9) (d := 47) (v := .bool false) rfl rfl (by kernel_rfl) (by kernel_rfl) (by kernel_rfl) (fun _ _ _ h => h) (Or.inl ⟨by rfl, fun W hW => by go_simp⟩) hs ?_
        simp only [Act.put, List.setIfInBounds_toArray, List.set_cons_succ, List.set_cons_zero]
        refine wpAnyH_takeD (i := 10) (d := 48) (v := .bool false) rfl rfl (by kernel_rfl) (by kernel_rfl) (by kernel_rfl) (fun _ _ _ h => h) (Or.inl ⟨by rfl, fun W hW => by go_simp⟩) hs ?_
        simp only [Act.put, List.setIfInBounds_toArray, List.set_cons_succ, List.set_cons_zero]
        refine wpAnyH_takeD (i := 11) (d := 49) (v := .bool false) rfl rfl (by kernel_rfl) (by kernel_rfl) (by kernel_rfl) (fun _ _ _ h => h) (Or.inl ⟨by rfl, fun W hW => by go_simp⟩) hs ?_
        simp only [Act.put, List.setIfInBounds_toArray, List.set_cons_succ, List.set_cons_zero]
        refine wpAnyH_takeD (i := 12) (d := 50) (v := .bool true) rfl rfl (by kernel_rfl) (by kernel_rfl) (by kernel_rfl) (fun _ _ _ h => h) (Or.inl ⟨by rfl, fun W hW => by go_simp⟩) hs ?_
        simp only [Act.put, List.setIfInBounds_toArray, List.set_cons_succ, List.set_cons_zero]
        refine wpAnyH_takeD (i := 13) (d := 51) (v := .bool true) rfl rfl (by kernel_rfl) (by kernel_rfl) (by kernel_rfl) (fun _ _ _ h => h) (Or.inl ⟨by rfl, fun W hW => by go_simp⟩) hs ?_
        simp only [Act.put, List.setIfInBounds_toArray, List.set_cons_succ, List.set_cons_zero]
        refine wpAnyH_takeD (i := 14) (d := 52) rfl rfl (by kernel_rfl) (by kernel_rfl) (by kernel_rfl) (fun _ _ _ h => h) (yieldsIf_load_row (by rfl) 28 (.tmp 9) rfl (G1) rfl 28 _ (0, 0) _ (fun w' hw' => (HG.out _ hw').1) Try.underlying28 rfl (by kernel_rfl)) hs ?_
        simp only [Act.put, List.setIfInBounds_toArray, List.set_cons_succ, List.set_cons_zero]
        refine wpAnyH_takeD (i := 16) (d := 54) (v := .pointer (some ⟨G1, 1, none⟩)) rfl rfl (by kernel_rfl) (by kernel_rfl) (by kernel_rfl) (fun _ _ _ h => h) (Or.inl ⟨by rfl, fun W hW => by go_simp⟩) hs ?_
        simp only [Act.put, List.setIfInBounds_toArray, List.set_cons_succ, List.set_cons_zero]
        refine wpAnyH_takeD (i := 17) (d := 55) (v := .slice z.a z.n z.c) rfl rfl (by kernel_rfl) (by kernel_rfl) (by kernel_rfl) (fun _ _ _ h => h) (Or.inl ⟨by rfl, fun W hW => by have c1 := HC1.out W hW; go_simp⟩) hs ?_
        simp only [Act.put, List.setIfInBounds_toArray, List.set_cons_succ, List.set_cons_zero]
        refine wpAnyH_takeD (i := 18) (d := 56) (v := .int .i64 z.n) rfl rfl (by kernel_rfl) (by kernel_rfl) (by kernel_rfl) (fun _ _ _ h => h) (Or.inl ⟨by rfl, fun W hW => by go_simp⟩) hs ?_
        simp only [Act.put, List.setIfInBounds_toArray, List.set_cons_succ, List.set_cons_zero]
        refine wpAnyH_takeD (i := 19) (d := 57) (v := .int .i64 (2 + (z.n : Int))) rfl rfl (by kernel_rfl) (by kernel_rfl) (by kernel_rfl) (fun _ _ _ h => h) (Or.inl ⟨by rfl, fun W hW => by go_simp⟩) hs ?_
        simp only [Act.put, List.setIfInBounds_toArray, List.set_cons_succ, List.set_cons_zero]
        refine wpAnyH_ready (rs := [15]) (by kernel_rfl) (by simp) (AllReadyH.cons rfl (fun K hK => ?_) AllReadyH.nil)
        go_simp
        refine (KZ.out _ hs).mono ?_; rintro e w9 ⟨rfl, x9⟩
        go_wp2_with fail
        refine hK.out _ _ (hs.trans x9) (fun hs => ?_)
        clear hK K
        refine wpAnyH_takeD (i := 20) (d := 58) (v := .bool false) rfl rfl (by kernel_rfl) (by kernel_rfl) (by kernel_rfl) (fun _ _ _ h => h) (Or.inl ⟨by rfl, fun W hW => by go_simp⟩) hs ?_
        simp only [Act.put, List.setIfInBounds_toArray, List.set_cons_succ, List.set_cons_zero]
        refine wpAnyH_takeD (i := 21) (d := 59) (v := .bool false) rfl rfl (by kernel_rfl) (by kernel_rfl) (by kernel_rfl) (fun _ _ _ h => h) (Or.inl ⟨by rfl, fun W hW => by go_simp⟩) hs ?_
        simp only [Act.put, List.setIfInBounds_toArray, List.set_cons_succ, List.set_cons_zero]
        refine wpAnyH_takeD (i := 22) (d := 60) (v := .bool false) rfl rfl (by kernel_rfl) (by kernel_rfl) (by kernel_rfl) (fun _ _ _ h => h) (Or.inl ⟨by rfl, fun W hW => by go_simp⟩) hs ?_
        simp only [Act.put, List.setIfInBounds_toArray, List.set_cons_succ, List.set_cons_zero]
        refine wpAnyH_done (by kernel_rfl) ?_ _
        go_wp2_with fail
        go_meet
        exact ⟨rfl, hs⟩
      · go_simp
        refine hK.out _ _ (hs.trans (Ext.alloc _ _)) (fun hs => ?_)
        clear hK K
        refine wpAnyH_ready (rs := [5]) (by kernel_rfl) (by simp) (AllReadyH.cons rfl (fun K hK => ?_) AllReadyH.nil)
        go_simp
        refine hK.out _ _ (hs.trans (Ext.alloc _ _)) (fun hs => ?_)
        clear hK K
        refine wpAnyH_ready (rs := [8]) (by kernel_rfl) (by simp) (AllReadyH.cons rfl (fun K hK => ?_) AllReadyH.nil)
        go_simp
        refine (KS.out _ _ _ hs (by first | exact heap_new_at _ _ (by simp) | exact (heap_alloc_old _ _ (by simp)).trans (heap_new_at _ _ (by simp))) (by first | exact heap_new_at _ _ (by simp) | exact (heap_alloc_old _ _ (by simp)).trans (heap_new_at _ _ (by simp)))).mono ?_; rintro e w8 ⟨rfl, x8⟩
        go_wp2_with fail
        refine hK.out _ _ (hs.trans x8) (fun hs => ?_)
        clear hK K
        refine wpAnyH_takeD (i := 9) (d := 47) (v := .bool false) rfl rfl (by kernel_rfl) (by kernel_rfl) (by kernel_rfl) (fun _ _ _ h => h) (Or.inl ⟨by rfl, fun W hW => by go_simp⟩) hs ?_
        simp only [Act.put, List.setIfInBounds_toArray, List.set_cons_succ, List.set_cons_zero]
        refine wpAnyH_takeD (i := 10) (d := 48) (v := .bool false) rfl rfl (by kernel_rfl) (by kernel_rfl) (by kernel_rfl) (fun _ _ _ h => h) (Or.inl ⟨by rfl, fun W hW => by go_simp⟩) hs ?_
        simp only [Act.put, List.setIfInBounds_toArray, List.set_cons_succ, List.set_cons_zero]
        refine wpAnyH_takeD (i := 11) (d := 49) (v := .bool false) rfl rfl (by kernel_rfl) (by kernel_rfl) (by kernel_rfl) (fun _ _ _ h => h) (Or.inl ⟨by rfl, fun W hW => by go_simp⟩) hs ?_
        simp only [Act.put, List.setIfInBounds_toArray, List.set_cons_succ, List.set_cons_zero]
        refine wpAnyH_takeD (i := 12) (d := 50) (v := .bool true) rfl rfl (by kernel_rfl) (by kernel_rfl) (by kernel_rfl) (fun _ _ _ h => h) (Or.inl ⟨by rfl, fun W hW => by go_simp⟩) hs ?_
        simp only [Act.put, List.setIfInBounds_toArray, List.set_cons_succ, List.set_cons_zero]
        refine wpAnyH_takeD (i := 13) (d := 51) (v := .bool true) rfl rfl (by kernel_rfl) (by kernel_rfl) (by kernel_rfl) (fun _ _ _ h => h) (Or.inl ⟨by rfl, fun W hW => by go_simp⟩) hs ?_
        simp only [Act.put, List.setIfInBounds_toArray, List.set_cons_succ, List.set_cons_zero]
        refine wpAnyH_takeD (i := 14) (d := 52) rfl rfl (by kernel_rfl) (by kernel_rfl) (by kernel_rfl) (fun _ _ _ h => h) (yieldsIf_load_row (by rfl) 28 (.tmp 9) rfl (G1) rfl 28 _ (0, 0) _ (fun w' hw' => (HG.out _ hw').1) Try.underlying28 rfl (by kernel_rfl)) hs ?_
        simp only [Act.put, List.setIfInBounds_toArray, List.set_cons_succ, List.set_cons_zero]
        refine wpAnyH_takeD (i := 16) (d := 54) (v := .pointer (some ⟨G1, 1, none⟩)) rfl rfl (by kernel_rfl) (by kernel_rfl) (by kernel_rfl) (fun _ _ _ h => h) (Or.inl ⟨by rfl, fun W hW => by go_simp⟩) hs ?_
        simp only [Act.put, List.setIfInBounds_toArray, List.set_cons_succ, List.set_cons_zero]
        refine wpAnyH_takeD (i := 17) (d := 55) (v := .slice z.a z.n z.c) rfl rfl (by kernel_rfl) (by kernel_rfl) (by kernel_rfl) (fun _ _ _ h => h) (Or.inl ⟨by rfl, fun W hW => by have c1 := HC1.out W hW; go_simp⟩) hs ?_
        simp only [Act.put, List.setIfInBounds_toArray, List.set_cons_succ, List.set_cons_zero]
        refine wpAnyH_takeD (i := 18) (d := 56) (v := .int .i64 z.n) rfl rfl (by kernel_rfl) (by kernel_rfl) (by kernel_rfl) (fun _ _ _ h => h) (Or.inl ⟨by rfl, fun W hW => by go_simp⟩) hs ?_
        simp only [Act.put, List.setIfInBounds_toArray, List.set_cons_succ, List.set_cons_zero]
        refine wpAnyH_takeD (i := 19) (d := 57) (v := .int .i64 (2 + (z.n : Int))) rfl rfl (by kernel_rfl) (by kernel_rfl) (by kernel_rfl) (fun _ _ _ h => h) (Or.inl ⟨by rfl, fun W hW => by go_simp⟩) hs ?_
        simp only [Act.put, List.setIfInBounds_toArray, List.set_cons_succ, List.set_cons_zero]
        refine wpAnyH_ready (rs := [15]) (by kernel_rfl) (by simp) (AllReadyH.cons rfl (fun K hK => ?_) AllReadyH.nil)
        go_simp
        refine (KZ.out _ hs).mono ?_; rintro e w9 ⟨rfl, x9⟩
        go_wp2_with fail
        refine hK.out _ _ (hs.trans x9) (fun hs => ?_)
        clear hK K
        refine wpAnyH_takeD (i := 20) (d := 58) (v := .bool false) rfl rfl (by kernel_rfl) (by kernel_rfl) (by kernel_rfl) (fun _ _ _ h => h) (Or.inl ⟨by rfl, fun W hW => by go_simp⟩) hs ?_
        simp only [Act.put, List.setIfInBounds_toArray, List.set_cons_succ, List.set_cons_zero]
        refine wpAnyH_takeD (i := 21) (d := 59) (v := .bool false) rfl rfl (by kernel_rfl) (by kernel_rfl) (by kernel_rfl) (fun _ _ _ h => h) (Or.inl ⟨by rfl, fun W hW => by go_simp⟩) hs ?_
        simp only [Act.put, List.setIfInBounds_toArray, List.set_cons_succ, List.set_cons_zero]
        refine wpAnyH_takeD (i := 22) (d := 60) (v := .bool false) rfl rfl (by kernel_rfl) (by kernel_rfl) (by kernel_rfl) (fun _ _ _ h => h) (Or.inl ⟨by rfl, fun W hW => by go_simp⟩) hs ?_
        simp only [Act.put, List.setIfInBounds_toArray, List.set_cons_succ, List.set_cons_zero]
        refine wpAnyH_done (by kernel_rfl) ?_ _
        go_wp2_with fail
        go_meet
        exact ⟨rfl, hs⟩
  case rest =>
    obtain ⟨rfl, x6⟩ := hcut
    have x06 := x05.trans x6
    obtain ⟨r, hr⟩ : ∃ r, rightO L = r := ⟨_, rfl⟩
    obtain ⟨v, hv⟩ : ∃ v, levelO L = v := ⟨_, rfl⟩
    obtain ⟨T, hT⟩ : ∃ T, sameO L M = T := ⟨_, rfl⟩
    go_upto_region 8 with fail
    have KA := Lib.hid (fun W (x : Ext wc W) => HK.out.right a n c L W (HL.out.1.ext (x06.trans x)) HL.out.2)
    have KB := Lib.hid (fun W (x : Ext wc W) => (rright20_any a n c L W (HL.out.1.ext (x06.trans x)) HN.out.1).mono (fun e w' hh => (⟨hh.1, Ext.of_eq hh.2.symm⟩ : e = .returned (.bool (rightO L)) ∧ Ext W w')))
    have KC := Lib.hid (fun W (x : Ext wc W) => HK.out.level a n c L W (HL.out.1.ext (x06.trans x)) HL.out.2)
    have KD := Lib.hid (fun W (x : Ext wc W) => (rlevel20_any a n c L W (HL.out.1.ext (x06.trans x)) HN.out.1).mono (fun e w' hh => (⟨hh.1, Ext.of_eq hh.2.symm⟩ : e = .returned (.int .i64 (levelO L)) ∧ Ext W w')))
    have KE := Lib.hid (fun W (x : Ext wc W) => HK.out.of a n c L s W (HL.out.1.ext (x06.trans x)) HL.out.2 HI.out.1)
    have KF := Lib.hid (fun W (x : Ext wc W) => rof20_any a n c L s W (HL.out.1.ext (x06.trans x)) HN.out.1)
    have KG := Lib.hid (fun W (x : Ext wc W) => HK.out.from_ a n c L s id W (HL.out.1.ext (x06.trans x)) HL.out.2 HI.out.1 HI.out.2)
    have KH := Lib.hid (fun W (x : Ext wc W) => rfrom20_any a n c L s id W (HL.out.1.ext (x06.trans x)) HN.out.1)
    have KS := Lib.hid (fun (b1 b2 : Option Addr) (m1 q1 m2 q2 : Nat) (M1 : List Ob) (W : World) (u : Unit) (h1 : ObjsAt W b1 m1 q1 M1) (h2 : ObjsAt W b2 m2 q2 (ofO s L)) (hs : sameO M1 (ofO s L) = true) (hF : ObjF L) => (rsame20_any b1 b2 m1 m2 q1 q2 M1 (ofO s L) W h1 h2 (ObjF.same hs (hF.ofO s)) (hF.ofO s)).mono (fun e w' hh => (⟨by rw [hh.1, hs], by obtain ⟨q, hq⟩ := hh.2; rw [hq]; exact below_drewN (Below.refl _ _) q⟩ : e = .returned (.bool true) ∧ Ext W w')))
    have KT := Lib.hid (fun (b1 b2 : Option Addr) (m1 q1 m2 q2 : Nat) (M1 : List Ob) (W : World) (u : Unit) (h1 : ObjsAt W b1 m1 q1 M1) (h2 : ObjsAt W b2 m2 q2 (fromO s id L)) (hs : sameO M1 (fromO s id L) = true) (hF : ObjF L) => (rsame20_any b1 b2 m1 m2 q1 q2 M1 (fromO s id L) W h1 h2 (ObjF.same hs (hF.fromO s id)) (hF.fromO s id)).mono (fun e w' hh => (⟨by rw [hh.1, hs], by obtain ⟨q, hq⟩ := hh.2; rw [hq]; exact below_drewN (Below.refl _ _) q⟩ : e = .returned (.bool true) ∧ Ext W w')))
    have KI := Lib.hid (fun W (x : Ext wc W) => HK.out.same a b n m c d L M W (HL.out.1.ext (x06.trans x)) (HM.out.1.ext (x06.trans x)) HL.out.2 HM.out.2)
    have KJ := Lib.hid (fun W (x : Ext wc W) => (rsame20_any a b n m c d L M W (HL.out.1.ext (x06.trans x)) (HM.out.1.ext (x06.trans x)) HL.out.2 HM.out.2).mono (fun e w' hh => (⟨hh.1, by obtain ⟨q, hq⟩ := hh.2; rw [hq]; exact below_drewN (Below.refl _ _) q⟩ : e = .returned (.bool (sameO L M)) ∧ Ext W w')))
    have KU := Lib.hid (fun W => sure20 HK.out W)
    rw [hr] at KA KB
    rw [hv] at KC KD
    rw [hT] at KI KJ
    have HXX := Lib.hid (HX.out.trans x06)
    clear hr hv hT x05 x6 x06 HG HC1 KZ HZ HY Hz KFl KFm HB
    go_wp2_with fail
    refine (KA.out _ (Ext.refl _)).mono ?_; rintro e wa ⟨rfl, xa⟩
    have ya := Ext.trans (Ext.refl _) xa
    go_wp2_with fail
    refine (KB.out _ ya).mono ?_; rintro e wb ⟨rfl, xb⟩
    have yb := Ext.trans ya xb
    go_wp2_with fail
    refine (KC.out _ yb).mono ?_; rintro e wc ⟨rfl, xc⟩
    have yc := Ext.trans yb xc
    go_wp2_with fail
    refine (KD.out _ yc).mono ?_; rintro e wd ⟨rfl, xd⟩
    have yd := Ext.trans yc xd
    go_wp2_with fail
    refine (KE.out _ yd).mono ?_; rintro e we ⟨b1, m1, q1, M1, rfl, o1, s1, xe⟩
    have ye := Ext.trans yd xe
    go_wp2_with fail
    refine (KF.out _ ye).mono ?_; rintro e wf ⟨b2, q2, rfl, o2, -, xf⟩
    have yf := Ext.trans ye xf
    go_wp2_with fail
    refine (KS.out _ _ _ _ _ _ _ _ () (o1.ext xf) o2 s1 HL.out.2).mono ?_; rintro e wg ⟨rfl, xg⟩
    clear o1 o2 s1
    have yg := Ext.trans yf xg
    go_wp2_with fail
    refine (KG.out _ yg).mono ?_; rintro e wh ⟨b3, m3, q3, M3, rfl, o3, s3, xh⟩
    have yh := Ext.trans yg xh
    go_wp2_with fail
    refine (KH.out _ yh).mono ?_; rintro e wi ⟨b4, q4, rfl, o4, xi⟩
    have yi := Ext.trans yh xi
    go_wp2_with fail
    refine (KT.out _ _ _ _ _ _ _ _ () (o3.ext xi) o4 s3 HL.out.2).mono ?_; rintro e wj ⟨rfl, xj⟩
    clear o3 o4 s3
    have yj := Ext.trans yi xj
    go_wp2_with fail
    refine (KI.out _ yj).mono ?_; rintro e wk ⟨rfl, xk⟩
    have yk := Ext.trans yj xk
    go_wp2_with fail
    refine (KJ.out _ yk).mono ?_; rintro e wl ⟨rfl, xl⟩
    have yl := Ext.trans yk xl
    go_wp2_with fail
    refine (KU.out _).mono ?_; rintro e wm ⟨rfl, xm⟩
    have ym := Ext.trans yl xm
    go_wp2
    go_ret
    exact ⟨rfl, HXX.out.trans ym⟩
end Go.Proofs.Ytnbcpmphjjiipaa
