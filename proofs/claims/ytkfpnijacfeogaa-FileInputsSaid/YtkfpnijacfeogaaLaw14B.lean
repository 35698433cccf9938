/-
  THE LAWS OF LAYER 14: the walk of FileInputs (package file's contracts and 'sure' as premises).
-/
import Derived.Test.YtkfpnijacfeogaaLaw14P
import Derived.Test.YtkfpnijacfeogaaLaw14A
import Derived.Test.YtkfpnijacfeogaaLaw14K
import Derived.BigQuiet
import Derived.Deep.DeepCutAuto
namespace Go.Proofs.Ytkfpnijacfeogaa
open Go.RowKit
set_option linter.unusedVariables false

theorem heap_lit3 {w : World} {g : Nat} {cs : Array Value} {t : TypeId} (a b : Obj) (h : w.heap[g]? = some (.cells cs t (0, 0))) : ((w.alloc a).alloc b).heap[g]? = some (.cells cs t (0, 0)) :=
  (heap_alloc_old _ _ (by have := heap_lt h; simp; omega)).trans ((heap_alloc_old _ _ (heap_lt h)).trans h)
theorem lit_two (w : World) (a b : Int) (t : TypeId) : HoldsG (Value.int .u16) (w.alloc (.cells #[.int .u16 a, .int .u16 b] t)) (some ⟨w.heap.size, 0, none⟩) 2 (fun i => if i = 0 then a else b) :=
  HoldsG.new _ _ _ 2 _ (fun i hi => by
    have h : i = 0 ∨ i = 1 := by omega
    rcases h with rfl | rfl <;> rfl)
set_option maxRecDepth 100000 in
set_option maxHeartbeats 16000000 in
theorem fileInputs.walk0 (F : Fil) (p q u v : Int) (w : World) (hp : 0 ≤ p ∧ p ≤ 255) (hq : 0 ≤ q ∧ q ≤ 255) (wu : (Lit.int .i64 u).wf = true) (wv : (Lit.int .i64 v).wf = true)
    (hN : FNewC 8) (hSe : FSenseC 22) (hSW : FSetWordsC 21) (hS : FSameC 24) (hW : FWordsC 17) (hB : FBitsC 15)
    (sure : ∀ w, Calls Try.prog 7 #[] w fun e w' => e = .returned (.bool true) ∧ Ext w w') :
    Calls Try.prog 6 #[.agg (bnkC F), .agg #[.int .u8 p, .int .u8 q], .agg #[.int .i64 u, .int .i64 v]] w fun e w' => e = .returned (.bool true) ∧ Ext w w' := by
  have HS := Lib.hid sure
  have K0 := Lib.hid (fun w' => hN F w')
  unfold FP at K0
  obtain ⟨hp0, hp1⟩ := hp
  obtain ⟨hq0, hq1⟩ := hq
  cases hb : bankB F with
  | false =>
    simp only [hb, Bool.false_eq_true, if_false] at K0
    generalize zeroF = M at K0
    clear hN hSe hSW hS hW hB sure hb
    go_enter Try.func6, Try.ntmps6
    go_upto_region 1 with fail
    obtain ⟨W0, hW0, HX, He⟩ : ∃ W0, W0 = (((w.alloc (.cells (bnkC F) 25)).alloc (.cells #[.int .u8 p, .int .u8 q] 59)).alloc (.cells #[.int .i64 u, .int .i64 v] 60)) ∧ Hid (∀ W, Ext W0 W → W.heap[w.heap.size]? = some (.cells (bnkC F) 25 (0, 0)) ∧ W.heap[w.heap.size + 1]? = some (.cells #[.int .u8 p, .int .u8 q] 59 (0, 0)) ∧ W.heap[w.heap.size + 1 + 1]? = some (.cells #[.int .i64 u, .int .i64 v] 60 (0, 0))) ∧ Hid (Ext w W0) :=
      ⟨_, rfl, Lib.hid (fun W hx => any_boxes w _ _ _ _ _ _ hx), Lib.hid ((((Ext.alloc w _).alloc' _).alloc' _))⟩
    rw [← hW0]
    clear hW0
    have gA := (HX.out W0 (Ext.refl _)).1
    go_wp2_with (first
      | (refine wpList_load_row rfl 25 (.tmp 3) rfl (w.heap.size) rfl 25 _ (0, 0) _ gA Try.underlying25 rfl (by kernel_rfl) ?_))
    refine (K0.out _).mono ?_; rintro e w1 ⟨V, rfl, f1, x1, -⟩
    obtain ⟨W1, hW1, y1, b1⟩ : ∃ W, W = ((w1.alloc (.cells #[.int .i64 0, .int .i64 0, .int .i64 0, .int .i64 0, .int .i64 0, .int .i64 0, .int .i64 0, .int .i64 0, .int .i64 0, .int .i64 0, .slice none 0 0, .slice none 0 0, .slice none 0 0, .slice none 0 0] 31)).setRow w1.heap.size (filC V M)) ∧ Ext w1 W ∧ W.heap[w1.heap.size]? = some (.cells (filC V M) 31 (0, 0)) := ⟨_, rfl, boxed_row _ _ _ _⟩
    have x1 := x1.trans y1
    have f1 := f1.ext y1
    clear y1 gA
    rw [hW1] at x1
    have a0 := cell_of_heap (j := 0) (HX.out _ x1).2.1 rfl
    have a1 := cell_of_heap (j := 1) (HX.out _ x1).2.1 rfl
    rw [← hW1] at x1
    go_wp2_with (first
      | (refine wpList_store_row rfl 31 (.tmp 7) (.tmp 31) rfl _ _ rfl rfl 31 _ (heap_new_at _ _ (by first | rfl | simp)) (by kernel_rfl) rfl (by simp [filC, Value.oneCell']) ?_))
    refine (HS.out _).mono ?_; rintro e w9 ⟨rfl, y9⟩
    go_wp2
    go_ret
    exact ⟨rfl, He.out.trans (x1.trans (by rw [hW1]; exact ((Ext.alloc _ _).alloc' _).trans y9))⟩
  | true =>
    simp only [hb, if_true] at K0
    have hsm := small_new hb
    generalize newF F = M at K0 hsm
    have KF := Lib.hid (fun V w' => rfew14_any V M w' (Nat.le_trans hsm.s1 (by decide)) (Nat.le_trans hsm.s2 (by decide)) (Nat.le_trans hsm.s3 (by decide)) (Nat.le_trans hsm.s4 (by decide)))
    by_cases h1 : M.nC + M.nI + M.nH + M.nR ≤ 4000
    · rw [decide_eq_true h1] at KF
      clear hb h1
      go_enter Try.func6, Try.ntmps6
      go_upto_region 1 with fail
      obtain ⟨W0, hW0, HX, He⟩ : ∃ W0, W0 = (((w.alloc (.cells (bnkC F) 25)).alloc (.cells #[.int .u8 p, .int .u8 q] 59)).alloc (.cells #[.int .i64 u, .int .i64 v] 60)) ∧ Hid (∀ W, Ext W0 W → W.heap[w.heap.size]? = some (.cells (bnkC F) 25 (0, 0)) ∧ W.heap[w.heap.size + 1]? = some (.cells #[.int .u8 p, .int .u8 q] 59 (0, 0)) ∧ W.heap[w.heap.size + 1 + 1]? = some (.cells #[.int .i64 u, .int .i64 v] 60 (0, 0))) ∧ Hid (Ext w W0) :=
        ⟨_, rfl, Lib.hid (fun W hx => any_boxes w _ _ _ _ _ _ hx), Lib.hid ((((Ext.alloc w _).alloc' _).alloc' _))⟩
      rw [← hW0]
      clear hW0
      have gA := (HX.out W0 (Ext.refl _)).1
      go_wp2_with (first
        | (refine wpList_load_row rfl 25 (.tmp 3) rfl (w.heap.size) rfl 25 _ (0, 0) _ gA Try.underlying25 rfl (by kernel_rfl) ?_))
      refine (K0.out _).mono ?_; rintro e w1 ⟨V, rfl, f1, x1, -⟩
      obtain ⟨W1, hW1, y1, b1⟩ : ∃ W, W = ((w1.alloc (.cells #[.int .i64 0, .int .i64 0, .int .i64 0, .int .i64 0, .int .i64 0, .int .i64 0, .int .i64 0, .int .i64 0, .int .i64 0, .int .i64 0, .slice none 0 0, .slice none 0 0, .slice none 0 0, .slice none 0 0] 31)).setRow w1.heap.size (filC V M)) ∧ Ext w1 W ∧ W.heap[w1.heap.size]? = some (.cells (filC V M) 31 (0, 0)) := ⟨_, rfl, boxed_row _ _ _ _⟩
      have x1 := x1.trans y1
      have f1 := f1.ext y1
      clear y1 gA
      rw [hW1] at x1
      have a0 := cell_of_heap (j := 0) (HX.out _ x1).2.1 rfl
      have a1 := cell_of_heap (j := 1) (HX.out _ x1).2.1 rfl
      rw [← hW1] at x1
      go_wp2_with (first
        | (refine wpList_store_row rfl 31 (.tmp 7) (.tmp 31) rfl _ _ rfl rfl 31 _ (heap_new_at _ _ (by first | rfl | simp)) (by kernel_rfl) rfl (by simp [filC, Value.oneCell']) ?_)
        | (refine wpList_load_row_g (by rfl) 31 (.tmp 7) rfl (w1.heap.size) rfl 31 _ (0, 0) _ (by rw [← hW1]; exact heap_lit3 _ _ b1) Try.underlying31 rfl (by kernel_rfl) ?_))
      refine (KF.out V _).mono ?_; rintro e w3 ⟨rfl, x3⟩
      have y3 : Ext W1 w3 := by rw [hW1]; exact ((Ext.alloc _ _).alloc' _).trans x3
      rw [← hW1] at x3
      have hz : W1.heap.size = w1.heap.size + 1 := by rw [hW1]; simp
      have b7 := x3.block (heap_lit3 _ _ b1)
      have hop : w3.heap[w1.heap.size + 1 + 1]? = some (.cells #[.int .i64 0, .int .i64 q, .int .i64 0, .int .i64 0, .slice none 0 0, .slice (some ⟨w1.heap.size + 1, 0, none⟩) 2 2] 40 (0, 0)) := x3.block (heap_new_at _ _ (by simp [hz]))
      have hlt := (lit_two W1 7 p 61).ext ((Ext.alloc _ (.cells #[.int .i64 0, .int .i64 q, .int .i64 0, .int .i64 0, .slice none 0 0, .slice (some ⟨w1.heap.size + 1, 0, none⟩) 2 2] 40)).trans x3)
      rw [hz] at hlt
      have f3 := f1.ext y3
      have xw := x1.trans y3
      have a0 := cell_of_heap (j := 0) (HX.out _ xw).2.1 rfl
      have a1 := cell_of_heap (j := 1) (HX.out _ xw).2.1 rfl
      have hval := (HX.out _ xw).2.2
      have HY := Lib.hid (fun W (hx : Ext w3 W) => (⟨hx.block b7, cell_of_heap (hx.block hop) rfl, cell_of_heap (hx.block hop) rfl, cell_of_heap (hx.block hval) rfl, cell_of_heap (hx.block hval) rfl⟩ : W.heap[w1.heap.size]? = some (.cells (filC V M) 31 (0, 0)) ∧ W.cell? ⟨w1.heap.size + 1 + 1, 1, none⟩ = some (.int .i64 q) ∧ W.cell? ⟨w1.heap.size + 1 + 1, 5, none⟩ = some (.slice (some ⟨w1.heap.size + 1, 0, none⟩) 2 2) ∧ W.cell? ⟨w.heap.size + 1 + 1, 0, none⟩ = some (.int .i64 u) ∧ W.cell? ⟨w.heap.size + 1 + 1, 1, none⟩ = some (.int .i64 v)))
      have HL := Lib.hid hlt
      have wp : (Lit.int .i64 p).wf = true := by simp [Lit.wf, IntKind.min, IntKind.max, IntKind.signed, IntKind.bits]; omega
      have wq : (Lit.int .i64 q).wf = true := by simp [Lit.wf, IntKind.min, IntKind.max, IntKind.signed, IntKind.bits]; omega
      have HXw := Lib.hid xw
      clear x1 f1 b1 hW1 x3 y3 hz b7 hop hlt hval xw K0 KF HX
      go_wp2_with fail
      go_region
      go_wp2_with fail
      go_loopw [12] (fun iv wr => ∃ k : Nat, k ≤ 2 ∧ iv = .int .i64 k ∧ Ext w3 wr) (fun iv _ => 2 - (intOf iv).toNat)
      case atStart => exact ⟨0, by omega, rfl, Ext.drew _⟩
      case round =>
        clear a0 a1
        obtain ⟨k, hk, rfl, xr⟩ := hrel
        by_cases hk2 : k < 2
        · obtain ⟨I, hI⟩ : ∃ I : Bool, ((k : Int) == 1) = I := ⟨_, rfl⟩
          have hkI : (k : Int) < 2 := by omega
          have hk8 : decide ((k : Int) < 2) = true := decide_eq_true hkI
          have KX := Lib.hid (fun W (hx : Ext w3 W) => hSe V M I p u W (f3.ext hx) wp wu)
          have KY := Lib.hid (fun W (hx : Ext w3 W) => hSe V M I q v W (f3.ext hx) wq wv)
          unfold FP at KX KY
          obtain ⟨c7, c1, c5, d0, d1⟩ := HY.out _ xr
          go_wp2_with (first
            | (refine wpList_load_row rfl 31 (.tmp 7) rfl (w1.heap.size) rfl 31 _ (0, 0) _ c7 Try.underlying31 rfl (by kernel_rfl) ?_))
          refine (KX.out _ xr).mono ?_; rintro e w11 ⟨VX, rfl, fX, z, -⟩
          obtain ⟨W11, hW11, z', b11⟩ : ∃ W, W = ((w11.alloc (.cells #[.int .i64 0, .int .i64 0, .int .i64 0, .int .i64 0, .int .i64 0, .int .i64 0, .int .i64 0, .int .i64 0, .int .i64 0, .int .i64 0, .slice none 0 0, .slice none 0 0, .slice none 0 0, .slice none 0 0] 31)).setRow w11.heap.size (filC VX (seF M I p u))) ∧ Ext w11 W ∧ W.heap[w11.heap.size]? = some (.cells (filC VX (seF M I p u)) 31 (0, 0)) := ⟨_, rfl, boxed_row _ _ _ _⟩
          have fX := fX.ext z'
          have xr1 := xr.trans (z.trans z')
          clear z z' c7 c1 c5 d0 d1 xr KX
          rw [hW11] at xr1
          obtain ⟨c7, c1, c5, d0, d1⟩ := HY.out _ xr1
          go_wp2_with (first
            | (refine wpList_store_row rfl 31 (.tmp 14) (.tmp 68) rfl _ _ rfl rfl 31 _ (heap_new_at _ _ (by first | rfl | simp)) (by kernel_rfl) rfl (by simp [filC, Value.oneCell']) ?_)
            | (refine wpList_load_row rfl 31 (.tmp 7) rfl (w1.heap.size) rfl 31 _ (0, 0) _ c7 Try.underlying31 rfl (by kernel_rfl) ?_))
          rw [← hW11] at xr1 ⊢
          clear hW11 c7 c1 c5 d0 d1
          generalize w11.heap.size = G14 at b11 ⊢
          refine (KY.out _ xr1).mono ?_; rintro e w12 ⟨VY, rfl, fY, z, -⟩
          obtain ⟨W12, hW12, z', b12⟩ : ∃ W, W = ((w12.alloc (.cells #[.int .i64 0, .int .i64 0, .int .i64 0, .int .i64 0, .int .i64 0, .int .i64 0, .int .i64 0, .int .i64 0, .int .i64 0, .int .i64 0, .slice none 0 0, .slice none 0 0, .slice none 0 0, .slice none 0 0] 31)).setRow w12.heap.size (filC VY (seF M I q v))) ∧ Ext w12 W ∧ W.heap[w12.heap.size]? = some (.cells (filC VY (seF M I q v)) 31 (0, 0)) := ⟨_, rfl, boxed_row _ _ _ _⟩
          have fY := fY.ext z'
          have z := z.trans z'
          have xr2 := xr1.trans z
          have fX := fX.ext z
          have b11 := z.block b11
          clear z z' xr1 KY
          rw [hW12] at b11 xr2
          go_upto_region 12 with (first
            | (refine wpList_store_row rfl 31 (.tmp 16) (.tmp 77) rfl _ _ rfl rfl 31 _ (heap_new_at _ _ (by first | rfl | simp)) (by kernel_rfl) rfl (by simp [filC, Value.oneCell']) ?_))
          rw [← hW12] at b11 xr2 ⊢
          clear hW12
          generalize w12.heap.size = G16 at b12 ⊢
          by_cases e1 : seE M I p = 0
          · by_cases e2 : seE M I q = 0
            · have H1 := Lib.hid e1
              have H2 := Lib.hid e2
              have e3 := (seE_seF (v := u) e1 q).trans e2
              have e4 := (seE_seF (v := v) e2 p).trans e1
              have H3 := Lib.hid e3
              rw [e1, e2]
              have KXY := Lib.hid (fun W VX (h : FilAt W VX (seF M I p u)) => hSe VX _ I q v W h wq wv)
              rw [e3] at KXY
              have KYX := Lib.hid (fun W VY (h : FilAt W VY (seF M I q v)) => hSe VY _ I p u W h wp wu)
              rw [e4] at KYX
              have KS := Lib.hid (fun W V1 V2 (h : FilAt W V1 (seF (seF M I p u) I q v)) (k : FilAt W V2 (seF (seF M I p u) I q v)) => hS V1 _ V2 _ W h k (small_se (small_se hsm _ _ _) _ _ _) (small_se (small_se hsm _ _ _) _ _ _))
              rw [sameF_self] at KS
              have KU := Lib.hid (fun W V1 a (h : FilAt W V1 (seF (seF M I p u) I q v)) (l : HoldsG (Value.int .u16) W a 2 (fun i => if i = 0 then 7 else p)) => hSW V1 _ q a 2 2 _ W h l (by decide) (by decide) (by decide) wq)
              unfold FP at KXY KYX KU
              have hsx : Small (seF (seF M I p u) I q v) := small_se (small_se hsm _ _ _) _ _ _
              clear e1 e2 e3 e4
              obtain ⟨c7, c1, c5, d0, d1⟩ := HY.out _ xr2
              go_wp2_with (first
                | (refine wpList_load_row rfl 31 (.tmp 14) rfl (G14) rfl 31 _ (0, 0) _ b11 Try.underlying31 rfl (by kernel_rfl) ?_))
              refine (KXY.out _ VX fX).mono ?_; rintro e w13 ⟨V13, rfl, f13, z, -⟩
              obtain ⟨W13, hW13, z', b13⟩ : ∃ W, W = ((w13.alloc (.cells #[.int .i64 0, .int .i64 0, .int .i64 0, .int .i64 0, .int .i64 0, .int .i64 0, .int .i64 0, .int .i64 0, .int .i64 0, .int .i64 0, .slice none 0 0, .slice none 0 0, .slice none 0 0, .slice none 0 0] 31)).setRow w13.heap.size (filC V13 (seF (seF M I p u) I q v))) ∧ Ext w13 W ∧ W.heap[w13.heap.size]? = some (.cells (filC V13 (seF (seF M I p u) I q v)) 31 (0, 0)) := ⟨_, rfl, boxed_row _ _ _ _⟩
              have f13 := f13.ext z'
              have z := z.trans z'
              have xr3 := xr2.trans z
              have fY := fY.ext z
              have b12 := z.block b12
              clear z z' xr2 KXY b11 fX c7 c1 c5 d0 d1
              rw [hW13] at b12 xr3
              obtain ⟨c7, c1, c5, d0, d1⟩ := HY.out _ xr3
              go_wp2_with (first
                | (refine wpList_store_row rfl 31 (.tmp 18) (.tmp 92) rfl _ _ rfl rfl 31 _ (heap_new_at _ _ (by first | rfl | simp)) (by kernel_rfl) rfl (by simp [filC, Value.oneCell']) ?_)
                | (refine wpList_load_row rfl 31 (.tmp 16) rfl (G16) rfl 31 _ (0, 0) _ b12 Try.underlying31 rfl (by kernel_rfl) ?_))
              rw [← hW13] at b12 xr3 ⊢
              clear hW13 c7 c1 c5 d0 d1
              generalize w13.heap.size = G18 at b13 ⊢
              refine (KYX.out _ VY fY).mono ?_; rintro e w14 ⟨V14, rfl, f14, z, -⟩
              obtain ⟨W14, hW14, z', b14⟩ : ∃ W, W = ((w14.alloc (.cells #[.int .i64 0, .int .i64 0, .int .i64 0, .int .i64 0, .int .i64 0, .int .i64 0, .int .i64 0, .int .i64 0, .int .i64 0, .int .i64 0, .slice none 0 0, .slice none 0 0, .slice none 0 0, .slice none 0 0] 31)).setRow w14.heap.size (filC V14 (seF (seF M I q v) I p u))) ∧ Ext w14 W ∧ W.heap[w14.heap.size]? = some (.cells (filC V14 (seF (seF M I q v) I p u)) 31 (0, 0)) := ⟨_, rfl, boxed_row _ _ _ _⟩
              have f14 := f14.ext z'
              have z := z.trans z'
              have xr4 := xr3.trans z
              have f13 := f13.ext z
              have b13 := z.block b13
              clear z z' xr3 KYX b12 fY
              rw [hW14] at b13 xr4
              go_upto_region 15 with (first
                | (refine wpList_store_row rfl 31 (.tmp 20) (.tmp 101) rfl _ _ rfl rfl 31 _ (heap_new_at _ _ (by first | rfl | simp)) (by kernel_rfl) rfl (by simp [filC, Value.oneCell']) ?_))
              rw [← hW14] at b13 xr4 ⊢
              clear hW14
              generalize w14.heap.size = G20 at b14 ⊢
              go_cut [119] from 55 to 194 (fun v wx => v = .bool false ∧ Ext W14 wx)
              case first => as_aux_lemma =>
                by_cases hpq : p = q
                · have hpb : (p != q) = false := by simp [hpq]
                  have hpb' : decide (p ≠ q) = false := by simp [hpq]
                  have HPQ := Lib.hid hpq
                  clear hpq
                  go_wp2_with fail
                  go_meet
                  exact ⟨rfl, Ext.refl _⟩
                · have hsw := se_swap (u := u) (v := v) H1.out H2.out hpq
                  rw [← hsw] at b14 f14
                  have hpb : (p != q) = true := by simp [hpq]
                  have hpb' : decide (p ≠ q) = true := by simp [hpq]
                  have HPQ := Lib.hid hpq
                  clear hpq hsw
                  go_wp2_with (first
                    | (refine wpList_load_row_g (by rfl) 31 (.tmp 18) rfl (G18) rfl 31 _ (0, 0) _ b13 Try.underlying31 rfl (by kernel_rfl) ?_)
                    | (refine wpList_load_row_g (by rfl) 31 (.tmp 20) rfl (G20) rfl 31 _ (0, 0) _ b14 Try.underlying31 rfl (by kernel_rfl) ?_))
                  refine (KS.out _ V13 V14 f13 f14).mono ?_; rintro e w15 ⟨rfl, x15⟩
                  go_wp2_with fail
                  go_meet
                  exact ⟨rfl, x15⟩
              case rest =>
                obtain ⟨rfl, xc⟩ := hcut
                have xq := xr4.trans xc
                have bq := xc.block b13
                have fq := f13.ext xc
                clear xr4 b13 f13 xc b14 f14 KS H1 H2
                obtain ⟨c7, c1, c5, d0, d1⟩ := HY.out _ xq
                go_wp2_with (first
                  | (refine wpList_load_row rfl 31 (.tmp 18) rfl (G18) rfl 31 _ (0, 0) _ bq Try.underlying31 rfl (by kernel_rfl) ?_))
                refine (KU.out _ V13 _ fq (HL.out.ext xq)).mono ?_; rintro e w16 ⟨V16, rfl, f16, z, -⟩
                obtain ⟨W16, hW16, z', b16⟩ : ∃ W, W = ((w16.alloc (.cells #[.int .i64 0, .int .i64 0, .int .i64 0, .int .i64 0, .int .i64 0, .int .i64 0, .int .i64 0, .int .i64 0, .int .i64 0, .int .i64 0, .slice none 0 0, .slice none 0 0, .slice none 0 0, .slice none 0 0] 31)).setRow w16.heap.size (filC V16 (swF (seF (seF M I p u) I q v) q 2 (fun i => if i = 0 then 7 else p)))) ∧ Ext w16 W ∧ W.heap[w16.heap.size]? = some (.cells (filC V16 (swF (seF (seF M I p u) I q v) q 2 (fun i => if i = 0 then 7 else p))) 31 (0, 0)) := ⟨_, rfl, boxed_row _ _ _ _⟩
                have f16 := f16.ext z'
                have z := z.trans z'
                have xr5 := xq.trans z
                have fq := fq.ext z
                have bq := z.block bq
                clear z z' xq KU c7 c1 c5 d0 d1
                rw [hW16] at bq xr5
                go_upto_region 18 with (first
                  | (refine wpList_store_row rfl 31 (.tmp 22) (.tmp 127) rfl _ _ rfl rfl 31 _ (heap_new_at _ _ (by first | rfl | simp)) (by kernel_rfl) rfl (by simp [filC, Value.oneCell']) ?_))
                rw [← hW16] at bq xr5 ⊢
                clear hW16
                generalize w16.heap.size = G22 at b16 ⊢
                obtain ⟨E5, hE5⟩ : ∃ E, swE (seF (seF M I p u) I q v) q 2 = E := ⟨_, rfl⟩
                rw [hE5]
                have HE5 := Lib.hid hE5
                clear hE5
                go_cut [146] from 55 to 194 (fun v wx => v = .bool false ∧ Ext W16 wx)
                case first => as_aux_lemma =>
                  by_cases e5 : E5 = 0
                  · have hZ := swF_yes (v := fun i => if i = 0 then 7 else p) (HE5.out.trans e5)
                    rw [hZ] at b16 f16
                    have hb5 : (E5 == 0) = true := by simp [e5]
                    have HB := Lib.hid (fun W (h : Ext W16 W) => (⟨cell_of_heap (h.block b16) rfl, cell_of_heap (h.block b16) rfl, cell_of_heap (h.block bq) rfl, cell_of_heap (h.block bq) rfl⟩ : W.cell? ⟨G22, 11, none⟩ = some (.slice V16.a2 ((seF (seF M I p u) I q v)).nI V16.d2) ∧ W.cell? ⟨G22, 13, none⟩ = some (.slice V16.a4 ((seF (seF M I p u) I q v)).nR V16.d4) ∧ W.cell? ⟨G18, 11, none⟩ = some (.slice V13.a2 ((seF (seF M I p u) I q v)).nI V13.d2) ∧ W.cell? ⟨G18, 13, none⟩ = some (.slice V13.a4 ((seF (seF M I p u) I q v)).nR V13.d4)))
                    have KI := Lib.hid (same_self V16.a2 V13.a2 ((seF (seF M I p u) I q v)).nI V16.d2 V13.d2 ((seF (seF M I p u) I q v)).I ((seF (seF M I p u) I q v)).I W16 f16.h2 fq.h2 hsx.s2 (fun _ _ => rfl))
                    have KR := Lib.hid (fun W (hx : Ext W16 W) => words_self V16.a4 V13.a4 ((seF (seF M I p u) I q v)).nR V16.d4 V13.d4 ((seF (seF M I p u) I q v)).R ((seF (seF M I p u) I q v)).R W (f16.h4.ext hx) (fq.h4.ext hx) hsx.s4 (fun _ _ => rfl))
                    clear hZ e5
                    obtain ⟨i1, i2, j1, j2⟩ := HB.out W16 (Ext.refl _)
                    go_wp2_with fail
                    refine KI.out.mono ?_; rintro e w17 ⟨rfl, x17⟩
                    clear i1 i2 j1 j2 KI
                    obtain ⟨i1, i2, j1, j2⟩ := HB.out w17 x17
                    go_wp2_with fail
                    refine (KR.out _ x17).mono ?_; rintro e w18 ⟨rfl, x18⟩
                    have x18 := x17.trans x18
                    clear i1 i2 j1 j2
                    go_wp2_with fail
                    go_meet
                    exact ⟨rfl, x18⟩
                  · have hb5 : (E5 == 0) = false := by simp [e5]
                    clear e5
                    go_wp2_with fail
                    go_meet
                    exact ⟨rfl, Ext.refl _⟩
                case rest =>
                  obtain ⟨rfl, xc⟩ := hcut
                  have xr6 := xr5.trans xc
                  have bq := xc.block bq
                  have fq := fq.ext xc
                  rename_i w17
                  clear xr5 xc b16 f16
                  cases I with
                  | true =>
                    obtain ⟨r1, r2, r3⟩ := se_words (F := seF M true p u) (v := v) H3.out
                    have KW := Lib.hid (hW V13 (seF (seF M true p u) true q v) true q 1 _ fq wq (by decide))
                    rw [r1, r2] at KW
                    unfold SlP at KW
                    go_wp2_with (first
                  | (refine wpList_load_row rfl 31 (.tmp 18) rfl (G18) rfl 31 _ (0, 0) _ bq Try.underlying31 rfl (by kernel_rfl) ?_))
                    refine KW.out.mono ?_; rintro e w19 ⟨b, qq, rfl, -, -, hh, x19, -⟩
                    obtain ⟨bb, oo, rfl, _, hc⟩ := hh.resolve_left (by decide)
                    have cc := hc 0 (by decide)
                    rw [r3, Nat.add_zero] at cc
                    have xr9 := xr6.trans x19
                    obtain ⟨-, -, -, -, d1⟩ := HY.out _ xr9
                    clear hh hc x19 KW r1 r2 r3
                    have m0 : 0 ≤ v % 65536 := by omega
                    have m1 : v % 65536 < 65536 := by omega
                    have hw1 : IntKind.i64.wrap (v % 65536) = v % 65536 := IntWalk.i64_in _ (by omega)
                    have hw2 : (IntKind.u64.wrap v).tmod 65536 = v % 65536 := by
                      have hp : 0 ≤ IntKind.u64.wrap v := by simp [IntKind.wrap, IntKind.bits, IntKind.signed]; omega
                      rw [Int.tmod_eq_emod_of_nonneg hp]
                      simp [IntKind.wrap, IntKind.bits, IntKind.signed]
                      try omega
                    generalize v % 65536 = m at *
                    go_wp2_with fail
                    go_quiet (fail)
                    go_wp2_with fail
                    go_roundw
                    case rel => exact ⟨k + 1, by omega, by go_num, (xr9.trans (Ext.drewN _ _))⟩
                    case measure => simp [intOf]; omega
                  | false =>
                    obtain ⟨r1, r2, r3⟩ := se_bits (F := seF M false p u) (v := v) H3.out
                    have KW := Lib.hid (hB V13 (seF (seF M false p u) false q v) true q 1 _ fq wq (by decide))
                    rw [r1, r2] at KW
                    unfold SlP at KW
                    go_wp2_with (first
                  | (refine wpList_load_row rfl 31 (.tmp 18) rfl (G18) rfl 31 _ (0, 0) _ bq Try.underlying31 rfl (by kernel_rfl) ?_))
                    refine KW.out.mono ?_; rintro e w19 ⟨b, qq, rfl, -, -, hh, x19, -⟩
                    obtain ⟨bb, oo, rfl, _, hc⟩ := hh.resolve_left (by decide)
                    have cc := hc 0 (by decide)
                    rw [r3, Nat.add_zero, show decide (v ≠ 0) = (v != 0) from by by_cases h : v = 0 <;> simp [h]] at cc
                    have xr9 := xr6.trans x19
                    obtain ⟨-, -, -, -, d1⟩ := HY.out _ xr9
                    clear hh hc x19 KW r1 r2 r3
                    go_wp2_with fail
                    go_quiet (fail)
                    go_wp2_with fail
                    go_roundw
                    case rel => exact ⟨k + 1, by omega, by go_num, (xr9.trans (Ext.drewN _ _))⟩
                    case measure => simp [intOf]; omega
            · have E2 := Lib.hid e2
              rw [e1]
              go_wp2_with fail
              go_roundw
              case rel => exact ⟨k + 1, by omega, by go_num, xr2⟩
              case measure => simp [intOf]; omega
          · have E1 := Lib.hid e1
            go_wp2_with fail
            go_roundw
            case rel => exact ⟨k + 1, by omega, by go_num, xr2⟩
            case measure => simp [intOf]; omega
        · have hk' : k = 2 := by omega
          subst hk'
          go_wp2_with fail
          refine (HS.out _).mono ?_; rintro e w9 ⟨rfl, y9⟩
          go_wp2
          go_ret
          exact ⟨rfl, He.out.trans (HXw.out.trans (xr.trans y9))⟩
    · rw [decide_eq_false h1] at KF
      clear hN hSe hSW hS hW hB sure hb h1 hsm
      go_enter Try.func6, Try.ntmps6
      go_upto_region 1 with fail
      obtain ⟨W0, hW0, HX, He⟩ : ∃ W0, W0 = (((w.alloc (.cells (bnkC F) 25)).alloc (.cells #[.int .u8 p, .int .u8 q] 59)).alloc (.cells #[.int .i64 u, .int .i64 v] 60)) ∧ Hid (∀ W, Ext W0 W → W.heap[w.heap.size]? = some (.cells (bnkC F) 25 (0, 0)) ∧ W.heap[w.heap.size + 1]? = some (.cells #[.int .u8 p, .int .u8 q] 59 (0, 0)) ∧ W.heap[w.heap.size + 1 + 1]? = some (.cells #[.int .i64 u, .int .i64 v] 60 (0, 0))) ∧ Hid (Ext w W0) :=
        ⟨_, rfl, Lib.hid (fun W hx => any_boxes w _ _ _ _ _ _ hx), Lib.hid ((((Ext.alloc w _).alloc' _).alloc' _))⟩
      rw [← hW0]
      clear hW0
      have gA := (HX.out W0 (Ext.refl _)).1
      go_wp2_with (first
        | (refine wpList_load_row rfl 25 (.tmp 3) rfl (w.heap.size) rfl 25 _ (0, 0) _ gA Try.underlying25 rfl (by kernel_rfl) ?_))
      refine (K0.out _).mono ?_; rintro e w1 ⟨V, rfl, f1, x1, -⟩
      obtain ⟨W1, hW1, y1, b1⟩ : ∃ W, W = ((w1.alloc (.cells #[.int .i64 0, .int .i64 0, .int .i64 0, .int .i64 0, .int .i64 0, .int .i64 0, .int .i64 0, .int .i64 0, .int .i64 0, .int .i64 0, .slice none 0 0, .slice none 0 0, .slice none 0 0, .slice none 0 0] 31)).setRow w1.heap.size (filC V M)) ∧ Ext w1 W ∧ W.heap[w1.heap.size]? = some (.cells (filC V M) 31 (0, 0)) := ⟨_, rfl, boxed_row _ _ _ _⟩
      have x1 := x1.trans y1
      have f1 := f1.ext y1
      clear y1 gA
      rw [hW1] at x1
      have a0 := cell_of_heap (j := 0) (HX.out _ x1).2.1 rfl
      have a1 := cell_of_heap (j := 1) (HX.out _ x1).2.1 rfl
      rw [← hW1] at x1
      go_wp2_with (first
        | (refine wpList_store_row rfl 31 (.tmp 7) (.tmp 31) rfl _ _ rfl rfl 31 _ (heap_new_at _ _ (by first | rfl | simp)) (by kernel_rfl) rfl (by simp [filC, Value.oneCell']) ?_)
        | (refine wpList_load_row_g (by rfl) 31 (.tmp 7) rfl (w1.heap.size) rfl 31 _ (0, 0) _ (by rw [← hW1]; exact heap_lit3 _ _ b1) Try.underlying31 rfl (by kernel_rfl) ?_))
      refine (KF.out V _).mono ?_; rintro e w3 ⟨rfl, x3⟩
      go_wp2_with fail
      refine (HS.out _).mono ?_; rintro e w9 ⟨rfl, y9⟩
      go_wp2
      go_ret
      exact ⟨rfl, He.out.trans (x1.trans (by rw [hW1]; exact (((Ext.alloc _ _).alloc' _).trans x3).trans y9))⟩
end Go.Proofs.Ytkfpnijacfeogaa
