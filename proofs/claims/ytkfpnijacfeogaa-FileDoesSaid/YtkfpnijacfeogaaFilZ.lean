/-
  CONTRACTS: package file (layer 14): SetBits, SetWords, Sense.
-/
import Derived.Test.YtkfpnijacfeogaaFilV
import Derived.Test.YtkfpnijacfeogaaFilQ
import Derived.Test.YtkfpnijacfeogaaStepStore
namespace Go.Proofs.Ytkfpnijacfeogaa
open Go.RowKit
set_option linter.unusedVariables false

theorem two_size (w : World) (a b : Array Value) (t u : TypeId) : w.heap.size + 2 ≤ ((w.alloc (.cells a t)).alloc (.cells b u)).heap.size := by simp
theorem wrap_u16 (y : Int) : IntKind.u16.wrap y = y % 65536 := by simp [IntKind.wrap, IntKind.bits, IntKind.signed]
/-- What a callee told is laid into the result's box. -/
theorem box_told {w w2 w3 : World} {V U : FilV} {F G : Fil} (h : FilAt w V F) (y : Ext w w2) (hz : w.heap.size + 2 ≤ w2.heap.size) (x : Ext w2 w3) (k : FilAt w3 U G) (f : From w2 V F U G) :
    (∀ cs, FilAt (w3.setRow (w.heap.size + 1) cs) U G) ∧ (∀ cs, Ext w (w3.setRow (w.heap.size + 1) cs)) ∧ From w V F U G :=
  ⟨fun cs => k.keep (keepRow _ _ _) (f.off (h.off (Φ := fun i => i = w.heap.size + 1) (w := w) (fun i hi => by omega) (Nat.le_refl _)) (fun i hi => by omega)), fun cs => below_setRow (y.trans x) (Nat.le_succ _) _, (From.refl w V F).trans f y⟩
set_option maxRecDepth 100000 in
set_option maxHeartbeats 4000000 in
theorem fsetbits_c : FSetBitsC 26 := by
  intro V F x b m e v w h hv hme hem hm wx
  unfold FP
  obtain ⟨W2, hW2, e0, gA, gR, hz⟩ : ∃ W2, W2 = ((w.alloc (.cells (filC V F) 31)).alloc (.cells #[.int .i64 0, .int .i64 0, .int .i64 0, .int .i64 0, .int .i64 0, .int .i64 0, .int .i64 0, .int .i64 0, .int .i64 0, .int .i64 0, .slice none 0 0, .slice none 0 0, .slice none 0 0, .slice none 0 0] 31)) ∧ Ext w W2 ∧ W2.heap[w.heap.size]? = some (.cells (filC V F) 31 (0, 0)) ∧ W2.heap[w.heap.size + 1]? = some (.cells #[.int .i64 0, .int .i64 0, .int .i64 0, .int .i64 0, .int .i64 0, .int .i64 0, .int .i64 0, .int .i64 0, .int .i64 0, .int .i64 0, .slice none 0 0, .slice none 0 0, .slice none 0 0, .slice none 0 0] 31 (0, 0)) ∧ w.heap.size + 2 ≤ W2.heap.size :=
    ⟨_, rfl, (Ext.alloc w _).trans (Ext.alloc _ _), (two_boxes w _ _ _ _).1, (two_boxes w _ _ _ _).2, two_size _ _ _ _ _⟩
  have K : Hid (∀ w', Ext w w' → Calls Try.prog 46 #[.agg (filC V F), .func (Fn.func 32) #[] #[], .func (Fn.func 47) #[] #[], .int .i64 x, .slice b m e] w' (FP (sbE F x m) (sbF F x m v) V F w')) := Lib.hid fun w' hx => by
    cases hr : rightB F with
    | false => rw [sbF_no (sbE_wrong hr) (by decide), sbE_wrong hr]; exact fwritebool_no V F _ _ x b m e w' hr
    | true => unfold sbF; rw [sbE_right hr]; exact fwrite_coils V F x b m e v w' (h.ext hx) (hv.ext hx) hme hem hm wx hr
  unfold FP at K
  generalize sbE F x m = E at K ⊢
  generalize sbF F x m v = G at K ⊢
  have HH := Lib.hid h
  clear h hv hme hem hm wx
  go_enter Try.func26, Try.ntmps26
  go_upto_region 1 with fail
  rw [← hW2]
  clear hW2
  go_wp2_with (first | (refine wpList_load_row rfl 31 (.tmp 3) rfl (w.heap.size) rfl 31 _ (0, 0) _ gA Try.underlying31 rfl (by kernel_rfl) ?_))
  refine (K.out _ e0).mono ?_; rintro e w3 ⟨U, rfl, h3, x3, f3⟩
  have gR3 := x3.block gR
  have HT := Lib.hid (box_told HH.out e0 hz x3 h3 f3)
  clear gA gR x3 f3 h3 e0 hz
  go_wp2_with (first | (refine wpList_store_row rfl 31 (.tmp 6) (.tmp 12) rfl (w.heap.size + 1) _ rfl rfl 31 _ gR3 (by kernel_rfl) rfl (by simp [filC, Value.oneCell']) ?_))
  refine bodyPost_ret (results_row_tmp rfl _ _ (w.heap.size + 1) 31 _ (0, 0) _ rfl (setRow_heap _ _ _ _ _ _ gR3) Try.underlying31 rfl (by kernel_rfl)) rfl ⟨U, by rfl, HT.out.1 _, HT.out.2.1 _, HT.out.2.2⟩
set_option maxRecDepth 100000 in
set_option maxHeartbeats 8000000 in
theorem fsetwords_c : FSetWordsC 21 := by
  intro V F x b m e v w h hv hme hem hm wx
  have wm : (Lit.int .i64 (m : Int)).wf = true := by simp [Lit.wf, IntKind.min, IntKind.max, IntKind.signed, IntKind.bits]; omega
  unfold FP
  obtain ⟨W2, hW2, e0, gA, gR, hz⟩ : ∃ W2, W2 = ((w.alloc (.cells (filC V F) 31)).alloc (.cells #[.int .i64 0, .int .i64 0, .int .i64 0, .int .i64 0, .int .i64 0, .int .i64 0, .int .i64 0, .int .i64 0, .int .i64 0, .int .i64 0, .slice none 0 0, .slice none 0 0, .slice none 0 0, .slice none 0 0] 31)) ∧ Ext w W2 ∧ W2.heap[w.heap.size]? = some (.cells (filC V F) 31 (0, 0)) ∧ W2.heap[w.heap.size + 1]? = some (.cells #[.int .i64 0, .int .i64 0, .int .i64 0, .int .i64 0, .int .i64 0, .int .i64 0, .int .i64 0, .int .i64 0, .int .i64 0, .int .i64 0, .slice none 0 0, .slice none 0 0, .slice none 0 0, .slice none 0 0] 31 (0, 0)) ∧ w.heap.size + 2 ≤ W2.heap.size :=
    ⟨_, rfl, (Ext.alloc w _).trans (Ext.alloc _ _), (two_boxes w _ _ _ _).1, (two_boxes w _ _ _ _).2, two_size _ _ _ _ _⟩
  have HH := Lib.hid h
  have K : Hid (∀ w', Ext w w' → Calls Try.prog 44 #[.agg (filC V F), .func (Fn.func 40) #[] #[], .func (Fn.func 45) #[] #[], .int .i64 x, .slice b m e] w' (FP (if rightB F = true then rdE F.hf F.hc F.nH x m else 11) (if (if rightB F = true then rdE F.hf F.hc F.nH x m else 11) = 0 then { F with H := wrF F.H v F.hf x m } else zeroF) V F w')) := Lib.hid fun w' hx => by
    cases hr : rightB F with
    | false =>
      simp only [Bool.false_eq_true, if_false]
      rw [if_neg (by decide)]
      exact fwriteuint16_no V F _ _ x b m e w' hr
    | true =>
      simp only [if_true]
      exact fwrite_holding V F x b m e v w' (h.ext hx) (hv.ext hx) hme hem hm wx hr
  have hE : swE F x m = brkE F (if rightB F = true then rdE F.hf F.hc F.nH x m else 11) x m := by
    cases hr : rightB F with
    | false => rw [swE_wrong hr]; unfold brkE; simp
    | true => rw [swE_right hr]; simp
  generalize (if rightB F = true then rdE F.hf F.hc F.nH x m else 11) = E at K hE
  have hmI : (m : Int) ≤ 1000000 := by omega
  by_cases hE0 : E = 0
  · subst hE0
    rw [if_pos rfl] at K
    cases hmt : meetB F.bf F.bc x m with
    | false =>
      rw [brk_works hmt] at hE
      rw [swF_yes hE, hE]
      have HM := Lib.hid (fun w' => ffails_v hmt V w' wx wm)
      generalize ({ F with H := wrF F.H v F.hf x m } : Fil) = GG at K ⊢
      unfold FP at K
      clear h hv hme hem hm wx wm hE hmt
      go_enter Try.func21, Try.ntmps21
      go_upto_region 1 with fail
      rw [← hW2]
      clear hW2
      go_wp2_with (first | (refine wpList_load_row rfl 31 (.tmp 3) rfl (w.heap.size) rfl 31 _ (0, 0) _ gA Try.underlying31 rfl (by kernel_rfl) ?_))
      refine (K.out _ e0).mono ?_; rintro e w3 ⟨U, rfl, h3, x3, f3⟩
      have gR3 := x3.block gR
      have gA3 := x3.block gA
      have HT := Lib.hid (box_told HH.out e0 hz x3 h3 f3)
      have HFA := Lib.hid h3
      have HFO := Lib.hid (f3.off (HH.out.off (Φ := fun i => i = w.heap.size + 1) (w := w) (fun i hi => by omega) (Nat.le_refl _)) (fun i hi => by omega))
      have HX3 := Lib.hid (e0.trans x3)
      obtain ⟨W4, hW4, y4, b4⟩ : ∃ W, W = ((w3.alloc (.cells #[.int .i64 0, .int .i64 0, .int .i64 0, .int .i64 0, .int .i64 0, .int .i64 0, .int .i64 0, .int .i64 0, .int .i64 0, .int .i64 0, .slice none 0 0, .slice none 0 0, .slice none 0 0, .slice none 0 0] 31)).setRow w3.heap.size (filC U GG)) ∧ Ext w3 W ∧ W.heap[w3.heap.size]? = some (.cells (filC U GG) 31 (0, 0)) := ⟨_, rfl, boxed_row _ _ _ _⟩
      have gN := heap_alloc_new w3 (.cells #[.int .i64 0, .int .i64 0, .int .i64 0, .int .i64 0, .int .i64 0, .int .i64 0, .int .i64 0, .int .i64 0, .int .i64 0, .int .i64 0, .slice none 0 0, .slice none 0 0, .slice none 0 0, .slice none 0 0] 31)
      have gR4 := y4.block gR3
      have gA4 := y4.block gA3
      rw [hW4] at gA4
      clear gA gR x3 f3 h3 e0 hz gR3 gA3
      go_wp2_with (first
        | (refine wpList_store_row rfl 31 (.tmp 8) (.tmp 15) rfl (w3.heap.size) _ rfl rfl 31 _ gN (by kernel_rfl) rfl (by simp [filC, Value.oneCell']) ?_)
        | (refine wpList_load_row_g (by rfl) 31 (.tmp 3) rfl (w.heap.size) rfl 31 _ (0, 0) _ gA4 Try.underlying31 rfl (by kernel_rfl) ?_))
      rw [← hW4]
      refine (HM.out _).mono ?_; rintro e w6 ⟨rfl, x6⟩
      have gR4 := x6.block gR4
      have b4 := x6.block b4
      have HL := Lib.hid ((HFA.out.ext y4).ext x6)
      have HQ := Lib.hid ((HX3.out.trans y4).trans x6)
      clear hW4 y4 x6
      clear gN gA4
      go_wp2_with (first
        | (refine wpList_load_row rfl 31 (.tmp 8) rfl (w3.heap.size) rfl 31 _ (0, 0) _ b4 Try.underlying31 rfl (by kernel_rfl) ?_)
        | (refine wpList_store_row rfl 31 (.tmp 6) (.tmp 27) rfl (w.heap.size + 1) _ rfl rfl 31 _ gR4 (by kernel_rfl) rfl (by simp [filC, Value.oneCell']) ?_))
      refine bodyPost_ret (results_row_tmp rfl _ _ (w.heap.size + 1) 31 _ (0, 0) _ rfl (setRow_heap _ _ _ _ _ _ gR4) Try.underlying31 rfl (by kernel_rfl)) rfl ⟨U, by rfl, HL.out.keep (keepRow _ _ _) HFO.out, below_setRow HQ.out (Nat.le_succ _) _, HT.out.2.2⟩
    | true =>
      rw [brk_yes hmt] at hE
      rw [swF_no hE (by decide), hE]
      have HM := Lib.hid (fun w' => ffails_v hmt V w' wx wm)
      generalize ({ F with H := wrF F.H v F.hf x m } : Fil) = GG at K
      unfold FP at K
      clear h hv hme hem hm wx wm hE hmt
      go_enter Try.func21, Try.ntmps21
      go_upto_region 1 with fail
      rw [← hW2]
      clear hW2
      go_wp2_with (first | (refine wpList_load_row rfl 31 (.tmp 3) rfl (w.heap.size) rfl 31 _ (0, 0) _ gA Try.underlying31 rfl (by kernel_rfl) ?_))
      refine (K.out _ e0).mono ?_; rintro e w3 ⟨U, rfl, h3, x3, f3⟩
      have gR3 := x3.block gR
      have gA3 := x3.block gA
      have HT := Lib.hid (box_told HH.out e0 hz x3 h3 f3)
      have HFA := Lib.hid h3
      have HFO := Lib.hid (f3.off (HH.out.off (Φ := fun i => i = w.heap.size + 1) (w := w) (fun i hi => by omega) (Nat.le_refl _)) (fun i hi => by omega))
      have HX3 := Lib.hid (e0.trans x3)
      obtain ⟨W4, hW4, y4, b4⟩ : ∃ W, W = ((w3.alloc (.cells #[.int .i64 0, .int .i64 0, .int .i64 0, .int .i64 0, .int .i64 0, .int .i64 0, .int .i64 0, .int .i64 0, .int .i64 0, .int .i64 0, .slice none 0 0, .slice none 0 0, .slice none 0 0, .slice none 0 0] 31)).setRow w3.heap.size (filC U GG)) ∧ Ext w3 W ∧ W.heap[w3.heap.size]? = some (.cells (filC U GG) 31 (0, 0)) := ⟨_, rfl, boxed_row _ _ _ _⟩
      have gN := heap_alloc_new w3 (.cells #[.int .i64 0, .int .i64 0, .int .i64 0, .int .i64 0, .int .i64 0, .int .i64 0, .int .i64 0, .int .i64 0, .int .i64 0, .int .i64 0, .slice none 0 0, .slice none 0 0, .slice none 0 0, .slice none 0 0] 31)
      have gR4 := y4.block gR3
      have gA4 := y4.block gA3
      rw [hW4] at gA4
      clear gA gR x3 f3 h3 e0 hz gR3 gA3
      go_wp2_with (first
        | (refine wpList_store_row rfl 31 (.tmp 8) (.tmp 15) rfl (w3.heap.size) _ rfl rfl 31 _ gN (by kernel_rfl) rfl (by simp [filC, Value.oneCell']) ?_)
        | (refine wpList_load_row_g (by rfl) 31 (.tmp 3) rfl (w.heap.size) rfl 31 _ (0, 0) _ gA4 Try.underlying31 rfl (by kernel_rfl) ?_))
      rw [← hW4]
      refine (HM.out _).mono ?_; rintro e w6 ⟨rfl, x6⟩
      have gR4 := x6.block gR4
      have HQ := Lib.hid ((HX3.out.trans y4).trans x6)
      clear hW4 y4 x6 gN gA4 b4
      go_wp2_with (first | (refine wpList_store_row rfl 31 (.tmp 6) (.tmp 26) rfl (w.heap.size + 1) _ rfl rfl 31 _ gR4 (by kernel_rfl) rfl (by simp [Value.oneCell']) ?_))
      refine bodyPost_ret (results_row_tmp rfl _ _ (w.heap.size + 1) 31 _ (0, 0) _ rfl (setRow_heap _ _ _ _ _ _ gR4) Try.underlying31 rfl (by kernel_rfl)) rfl ⟨zeroV, by rfl, zero_at _, below_setRow HQ.out (Nat.le_succ _) _, From.zero _ _ _⟩
  · rw [if_neg hE0] at K
    rw [brk_no hE0] at hE
    rw [swF_no hE hE0, hE]
    obtain ⟨GG, hGG⟩ : ∃ GG, GG = zeroF := ⟨_, rfl⟩
    rw [← hGG] at K ⊢
    unfold FP at K
    clear h hv hme hem hm wx wm hE hGG
    go_enter Try.func21, Try.ntmps21
    go_upto_region 1 with fail
    rw [← hW2]
    clear hW2
    go_wp2_with (first | (refine wpList_load_row rfl 31 (.tmp 3) rfl (w.heap.size) rfl 31 _ (0, 0) _ gA Try.underlying31 rfl (by kernel_rfl) ?_))
    refine (K.out _ e0).mono ?_; rintro e w3 ⟨U, rfl, h3, x3, f3⟩
    have gR3 := x3.block gR
    have gA3 := x3.block gA
    have HT := Lib.hid (box_told HH.out e0 hz x3 h3 f3)
    have HFA := Lib.hid h3
    have HFO := Lib.hid (f3.off (HH.out.off (Φ := fun i => i = w.heap.size + 1) (w := w) (fun i hi => by omega) (Nat.le_refl _)) (fun i hi => by omega))
    have HX3 := Lib.hid (e0.trans x3)
    obtain ⟨W4, hW4, y4, b4⟩ : ∃ W, W = ((w3.alloc (.cells #[.int .i64 0, .int .i64 0, .int .i64 0, .int .i64 0, .int .i64 0, .int .i64 0, .int .i64 0, .int .i64 0, .int .i64 0, .int .i64 0, .slice none 0 0, .slice none 0 0, .slice none 0 0, .slice none 0 0] 31)).setRow w3.heap.size (filC U GG)) ∧ Ext w3 W ∧ W.heap[w3.heap.size]? = some (.cells (filC U GG) 31 (0, 0)) := ⟨_, rfl, boxed_row _ _ _ _⟩
    have gN := heap_alloc_new w3 (.cells #[.int .i64 0, .int .i64 0, .int .i64 0, .int .i64 0, .int .i64 0, .int .i64 0, .int .i64 0, .int .i64 0, .int .i64 0, .int .i64 0, .slice none 0 0, .slice none 0 0, .slice none 0 0, .slice none 0 0] 31)
    have gR4 := y4.block gR3
    have gA4 := y4.block gA3
    rw [hW4] at gA4
    clear gA gR x3 f3 h3 e0 hz gR3 gA3
    have gR5 := gR4
    have b5 := b4
    rw [hW4] at gR5 b5
    go_wp2_with (first
      | (refine wpList_store_row rfl 31 (.tmp 8) (.tmp 15) rfl (w3.heap.size) _ rfl rfl 31 _ gN (by kernel_rfl) rfl (by simp [filC, Value.oneCell']) ?_)
      | (refine wpList_load_row rfl 31 (.tmp 8) rfl (w3.heap.size) rfl 31 _ (0, 0) _ b5 Try.underlying31 rfl (by kernel_rfl) ?_)
      | (refine wpList_store_row rfl 31 (.tmp 6) (.tmp 27) rfl (w.heap.size + 1) _ rfl rfl 31 _ gR5 (by kernel_rfl) rfl (by simp [filC, Value.oneCell']) ?_))
    rw [← hW4]
    refine bodyPost_ret (results_row_tmp rfl _ _ (w.heap.size + 1) 31 _ (0, 0) _ rfl (setRow_heap _ _ _ _ _ _ gR4) Try.underlying31 rfl (by kernel_rfl)) rfl ⟨U, by rfl, (HFA.out.ext y4).keep (keepRow _ _ _) HFO.out, below_setRow (HX3.out.trans y4) (Nat.le_succ _) _, HT.out.2.2⟩
set_option maxRecDepth 100000 in
set_option maxHeartbeats 4000000 in
theorem fsense_c : FSenseC 22 := by
  intro V F i x y w h wx wy
  unfold FP
  obtain ⟨W2, hW2, e0, gA, gR, hz⟩ : ∃ W2, W2 = ((w.alloc (.cells (filC V F) 31)).alloc (.cells #[.int .i64 0, .int .i64 0, .int .i64 0, .int .i64 0, .int .i64 0, .int .i64 0, .int .i64 0, .int .i64 0, .int .i64 0, .int .i64 0, .slice none 0 0, .slice none 0 0, .slice none 0 0, .slice none 0 0] 31)) ∧ Ext w W2 ∧ W2.heap[w.heap.size]? = some (.cells (filC V F) 31 (0, 0)) ∧ W2.heap[w.heap.size + 1]? = some (.cells #[.int .i64 0, .int .i64 0, .int .i64 0, .int .i64 0, .int .i64 0, .int .i64 0, .int .i64 0, .int .i64 0, .int .i64 0, .int .i64 0, .slice none 0 0, .slice none 0 0, .slice none 0 0, .slice none 0 0] 31 (0, 0)) ∧ w.heap.size + 2 ≤ W2.heap.size :=
    ⟨_, rfl, (Ext.alloc w _).trans (Ext.alloc _ _), (two_boxes w _ _ _ _).1, (two_boxes w _ _ _ _).2, two_size _ _ _ _ _⟩
  cases i with
  | true =>
    have K : Hid (∀ w' a, Ext w w' → HoldsG (Value.int .u16) w' a 1 (fun _ => y % 65536) → Calls Try.prog 44 #[.agg (filC V F), .func (Fn.func 38) #[] #[], .func (Fn.func 45) #[] #[], .int .i64 x, .slice a 1 1] w' (FP (seE F true x) (seF F true x y) V F w')) := Lib.hid fun w' a hx ha => by
      cases hr : rightB F with
      | false => rw [seF_no (seE_wrong hr) (by decide), seE_wrong hr]; exact fwriteuint16_no V F _ _ x a 1 1 w' hr
      | true => unfold seF; rw [seE_words hr]; simp only [if_true]; exact fwrite_regs V F x a 1 1 (fun _ => y % 65536) w' (h.ext hx) ha (Nat.le_refl _) (by decide) (by decide) wx hr
    unfold FP at K
    generalize seE F true x = E at K ⊢
    generalize seF F true x y = G at K ⊢
    have HH := Lib.hid h
    have hl : HoldsG (Value.int .u16) (W2.alloc (.cells #[.int .u16 (IntKind.u16.wrap y)] 61)) (some ⟨W2.heap.size, 0, none⟩) 1 (fun _ => y % 65536) := by
      have := wrap_u16 y
      rw [this]; exact one_cell _ _ _
    have eL := Ext.alloc W2 (.cells #[.int .u16 (IntKind.u16.wrap y)] 61)
    clear h wx wy
    go_enter Try.func22, Try.ntmps22
    go_upto_region 1 with fail
    rw [← hW2]
    clear hW2
    go_wp2_with (first | (refine wpList_load_row rfl 31 (.tmp 4) rfl (w.heap.size) rfl 31 _ (0, 0) _ gA Try.underlying31 rfl (by kernel_rfl) ?_))
    refine (K.out _ _ (e0.trans eL) hl).mono ?_; rintro e w3 ⟨U, rfl, h3, x3, f3⟩
    have gR3 := x3.block (eL.block gR)
    have HT := Lib.hid (box_told HH.out (e0.trans eL) (Nat.le_trans hz eL.size) x3 h3 f3)
    clear gA gR x3 f3 h3 e0 hz eL hl
    go_wp2_with (first | (refine wpList_store_row rfl 31 (.tmp 8) (.tmp 17) rfl (w.heap.size + 1) _ rfl rfl 31 _ gR3 (by kernel_rfl) rfl (by simp [filC, Value.oneCell']) ?_))
    refine bodyPost_ret (results_row_tmp rfl _ _ (w.heap.size + 1) 31 _ (0, 0) _ rfl (setRow_heap _ _ _ _ _ _ gR3) Try.underlying31 rfl (by kernel_rfl)) rfl ⟨U, by rfl, HT.out.1 _, HT.out.2.1 _, HT.out.2.2⟩
  | false =>
    have K : Hid (∀ w' a, Ext w w' → HoldsG Value.bool w' a 1 (fun _ => decide (y ≠ 0)) → Calls Try.prog 46 #[.agg (filC V F), .func (Fn.func 33) #[] #[], .func (Fn.func 47) #[] #[], .int .i64 x, .slice a 1 1] w' (FP (seE F false x) (seF F false x y) V F w')) := Lib.hid fun w' a hx ha => by
      cases hr : rightB F with
      | false => rw [seF_no (seE_wrong hr) (by decide), seE_wrong hr]; exact fwritebool_no V F _ _ x a 1 1 w' hr
      | true => unfold seF; rw [seE_bits hr]; simp only [if_false, Bool.false_eq_true]; exact fwrite_inputs V F x a 1 1 (fun _ => decide (y ≠ 0)) w' (h.ext hx) ha (Nat.le_refl _) (by decide) (by decide) wx hr
    unfold FP at K
    generalize seE F false x = E at K ⊢
    generalize seF F false x y = G at K ⊢
    have HH := Lib.hid h
    have hl : HoldsG Value.bool (W2.alloc (.cells #[.bool (y != 0)] 4)) (some ⟨W2.heap.size, 0, none⟩) 1 (fun _ => decide (y ≠ 0)) := by
      have := (show (y != 0) = decide (y ≠ 0) from by by_cases h : y = 0 <;> simp [h])
      rw [this]; exact one_cell _ _ _
    have eL := Ext.alloc W2 (.cells #[.bool (y != 0)] 4)
    clear h wx wy
    go_enter Try.func22, Try.ntmps22
    go_upto_region 1 with fail
    rw [← hW2]
    clear hW2
    go_wp2_with (first | (refine wpList_load_row rfl 31 (.tmp 4) rfl (w.heap.size) rfl 31 _ (0, 0) _ gA Try.underlying31 rfl (by kernel_rfl) ?_))
    refine (K.out _ _ (e0.trans eL) hl).mono ?_; rintro e w3 ⟨U, rfl, h3, x3, f3⟩
    have gR3 := x3.block (eL.block gR)
    have HT := Lib.hid (box_told HH.out (e0.trans eL) (Nat.le_trans hz eL.size) x3 h3 f3)
    clear gA gR x3 f3 h3 e0 hz eL hl
    go_wp2_with (first | (refine wpList_store_row rfl 31 (.tmp 8) (.tmp 25) rfl (w.heap.size + 1) _ rfl rfl 31 _ gR3 (by kernel_rfl) rfl (by simp [filC, Value.oneCell']) ?_))
    refine bodyPost_ret (results_row_tmp rfl _ _ (w.heap.size + 1) 31 _ (0, 0) _ rfl (setRow_heap _ _ _ _ _ _ gR3) Try.underlying31 rfl (by kernel_rfl)) rfl ⟨U, by rfl, HT.out.1 _, HT.out.2.1 _, HT.out.2.2⟩
end Go.Proofs.Ytkfpnijacfeogaa
