/-
  CONTRACTS: bilgeref14 (layer 14): holding registers written; inputs measured.
-/
import Derived.Test.YtkfpnijacfeogaaFilT
namespace Go.Proofs.Ytkfpnijacfeogaa
open Go.RowKit
set_option linter.unusedVariables false

/-- A literal of one cell. -/
theorem one_cell {α : Type} {mk : α → Value} (w : World) (v : α) (t : TypeId) : HoldsG mk (w.alloc (.cells #[mk v] t)) (some ⟨w.heap.size, 0, none⟩) 1 (fun _ => v) :=
  HoldsG.new _ _ _ 1 _ (fun i hi => by
    have h : i = 0 := by omega
    subst h; rfl)
theorem swE_right {F : Fil} {x : Int} {m : Nat} (h : rightB F = true) : swE F x m = brkE F (rdE F.hf F.hc F.nH x m) x m := by unfold swE; rw [if_pos h]
theorem swE_wrong {F : Fil} {x : Int} {m : Nat} (h : rightB F = false) : swE F x m = 11 := by unfold swE; rw [if_neg (by rw [h]; decide)]
theorem swF_no {F : Fil} {x : Int} {m : Nat} {v : Nat → Int} {E : Int} (h : swE F x m = E) (h0 : E ≠ 0) : swF F x m v = zeroF := by unfold swF; rw [h, if_neg h0]
theorem swF_yes {F : Fil} {x : Int} {m : Nat} {v : Nat → Int} (h : swE F x m = 0) : swF F x m v = { F with H := wrF F.H v F.hf x m } := by unfold swF; rw [if_pos h]
theorem seE_wrong {F : Fil} {i : Bool} {x : Int} (h : rightB F = false) : seE F i x = 11 := by unfold seE; rw [if_neg (by rw [h]; decide)]
theorem seE_words {F : Fil} {x : Int} (h : rightB F = true) : seE F true x = rdE F.rf F.rc F.nR x 1 := by unfold seE; rw [if_pos h, if_pos rfl]
theorem seE_bits {F : Fil} {x : Int} (h : rightB F = true) : seE F false x = rdE F.jf F.jc F.nI x 1 := by unfold seE; rw [if_pos h, if_neg (by decide)]
theorem seF_no {F : Fil} {i : Bool} {x v E : Int} (h : seE F i x = E) (h0 : E ≠ 0) : seF F i x v = zeroF := by unfold seF; rw [h, if_neg h0]
theorem seF_words {F : Fil} {x v : Int} (h : seE F true x = 0) : seF F true x v = { F with R := wrF F.R (fun _ => v % 65536) F.rf x 1 } := by unfold seF; rw [if_pos h, if_pos rfl]
theorem seF_bits {F : Fil} {x v : Int} (h : seE F false x = 0) : seF F false x v = { F with I := wrF F.I (fun _ => decide (v ≠ 0)) F.jf x 1 } := by unfold seF; rw [if_pos h, if_neg (by decide)]
set_option maxRecDepth 100000 in
set_option maxHeartbeats 4000000 in
theorem rsetwords14_any (V : FilV) (F : Fil) (x : Int) (b : Option Addr) (m e : Nat) (v : Nat → Int) (w : World) (h : FilAt w V F) (hv : HoldsG (Value.int .u16) w b m v) (hm : m ≤ 1000000) (wx : (Lit.int .i64 x).wf = true) :
    Calls Try.prog 30 #[.agg (filC V F), .int .i64 x, .slice b m e] w (FP (swE F x m) (swF F x m v) V F w) := by
  unfold FP
  have e0 := (Ext.alloc w (.cells (filC V F) 31)).trans (Ext.alloc _ (.cells (filC zeroV zeroF) 31))
  have hsz : ((w.alloc (.cells (filC V F) 31)).alloc (.cells (filC zeroV zeroF) 31)).heap.size = w.heap.size + 2 := by simp
  have gX := fun w1 (x1 : Ext ((w.alloc (.cells (filC V F) 31)).alloc (.cells (filC zeroV zeroF) 31)) w1) => (⟨x1.block (two_boxes w _ _ _ _).1, x1.block (two_boxes w _ _ _ _).2, by have := x1.size; omega⟩ : w1.heap[w.heap.size]? = some (.cells (filC V F) 31 (0, 0)) ∧ w1.heap[w.heap.size + 1]? = some (.cells (filC zeroV zeroF) 31 (0, 0)) ∧ w.heap.size + 2 ≤ w1.heap.size)
  have HX := Lib.hid gX
  clear gX hsz
  have hbd := trm_in (x := x) (n := (m : Int)) (by simp [Lit.wf, IntKind.min, IntKind.max, IntKind.signed, IntKind.bits]; omega) wx
  cases hr : rightB F with
  | false =>
    rw [swF_no (swE_wrong hr) (by decide), swE_wrong hr]
    have HR := Lib.hid (fun w' => rright14_v (V := V) hr w')
    clear hr h hv hbd
    unfold filC at HR e0 HX ⊢
    go_enter Try.func30, Try.ntmps30
    go_wp2_with fail
    refine (HR.out _).mono ?_; rintro e w1 ⟨rfl, x1⟩
    obtain ⟨gB, gR, gS⟩ := HX.out _ x1
    have y1 := e0.trans x1
    clear x1 e0
    go_wp2_with (first | (refine wpList_store_row rfl 31 (.tmp 6) (.tmp 13) rfl (w.heap.size + 1) _ rfl rfl 31 _ gR (by kernel_rfl) rfl (by simp [Value.oneCell']) ?_))
    refine bodyPost_ret (results_row_tmp rfl _ _ (w.heap.size + 1) 31 _ (0, 0) _ rfl (setRow_heap _ _ _ _ _ _ gR) Try.underlying31 rfl (by kernel_rfl)) rfl ⟨zeroV, by rfl, zero_at _, below_setRow y1 (Nat.le_succ _) _, From.zero _ _ _⟩
  | true =>
    have hs := right_small hr
    have HR := Lib.hid (fun w' => rright14_v (V := V) hr w')
    have hE := swE_right (x := x) (m := m) hr
    have K := Lib.hid (fun w' (hx : Ext w w') => (r13SetWords_f F.hf F.hc x V.a3 F.nH V.d3 F.H b m e v w' (h.h3.ext hx) (hv.ext hx) hs.2.2.1 hm).mono fun _ _ => WrPostF.sl)
    have hrd : rdN F.hf F.hc F.nH x m F.nH = if rdE F.hf F.hc F.nH x m = 0 then F.nH else 0 := rfl
    unfold SlP at K
    have HH := Lib.hid h
    by_cases hE0 : rdE F.hf F.hc F.nH x m = 0
    · rw [if_pos hE0] at hrd
      rw [hE0] at hE
      rw [hrd, hE0] at K
      cases hmt : meetB F.bf F.bc x m with
      | false =>
        rw [brk_works hmt] at hE
        rw [swF_yes hE, hE]
        generalize wrF F.H v F.hf x m = L at K ⊢
        have HM := Lib.hid (fun w' => rwmeets_v hmt hbd w')
        clear hr hE hE0 hrd h hv hs hbd hmt
        unfold filC at HR e0 HX ⊢
        go_enter Try.func30, Try.ntmps30
        go_wp2_with fail
        refine (HR.out _).mono ?_; rintro e w1 ⟨rfl, x1⟩
        obtain ⟨gB, gR, gS⟩ := HX.out _ x1
        have y1 := e0.trans x1
        have c4 := cell_of_heap (j := 4) gB rfl; have c5 := cell_of_heap (j := 5) gB rfl; have c12 := cell_of_heap (j := 12) gB rfl
        clear e0
        go_wp2_with fail
        refine (K.out _ y1).mono ?_; rintro e w3 ⟨b, q, rfl, h1, h2, h3, x3, f3⟩
        have gB3 := x3.block gB; have gR3 := x3.block gR
        have y3 := y1.trans x3
        have c8 := cell_of_heap (j := 8) gB3 rfl; have c9 := cell_of_heap (j := 9) gB3 rfl
        clear c4 c5 c12
        go_wp2_with fail
        refine (HM.out _).mono ?_; rintro e w6 ⟨rfl, x6⟩
        have gB6 := x6.block gB3; have gR6 := x6.block gR3
        have y6 := y3.trans x6
        have c12 := cell_of_heap (j := 12) gB6 rfl
        have z12 := frozen_of (j := 12) gB6
        have gL : (w6.setCell ⟨w.heap.size, 12, none⟩ (.slice b F.nH q)).heap[w.heap.size]? = some (.cells (filC { V with a3 := b, d3 := q } { F with H := L }) 31 (0, 0)) := (heap_setCell_same _ _ 12 _ _ (.slice b F.nH q) gB6).trans (by rfl)
        dsimp only [filC] at gL
        have gT := (heap_setCell_other w6 ⟨w.heap.size, 12, none⟩ (w.heap.size + 1) (.slice b F.nH q) (Nat.succ_ne_self _)).trans gR6
        have HF : Hid (FilAt w6 { V with a3 := b, d3 := q } { F with H := L } ∧ From w V F { V with a3 := b, d3 := q } { F with H := L } ∧ FilOff (fun i => i = w.heap.size ∨ i = w.heap.size + 1) { V with a3 := b, d3 := q } { F with H := L }) := by
          have h' := HH.out.ext y6
          have o := HH.out.off (above_two w) (Nat.le_refl _)
          exact Lib.hid ⟨⟨h'.h1, h'.l1, h'.m1, h'.h2, h'.l2, h'.m2, h3.ext x6, h1, h2, h'.h4, h'.l4, h'.m4⟩, ⟨.inl ⟨rfl, rfl⟩, .inl ⟨rfl, rfl⟩, .inr (f3.back y1), .inl ⟨rfl, rfl⟩⟩, ⟨o.o1, o.o2, fresh_off f3 gS, o.o4⟩⟩
        clear h1 h2 h3 x3 f3 y1 x1 gB gR gB3 gR3 gB6 gR6 gS c8 c9 y3 x6
        go_wp2_with (first
          | (refine wpList_load_row rfl 31 (.tmp 3) rfl w.heap.size rfl 31 _ (0, 0) _ gL Try.underlying31 rfl (by kernel_rfl) ?_)
          | (refine wpList_store_row rfl 31 (.tmp 6) (.tmp 42) rfl (w.heap.size + 1) _ rfl rfl 31 _ gT (by kernel_rfl) rfl (by simp [Value.oneCell']) ?_))
        refine bodyPost_ret (results_row_tmp rfl _ _ (w.heap.size + 1) 31 _ (0, 0) _ rfl (setRow_heap _ _ _ _ _ _ gT) Try.underlying31 rfl (by kernel_rfl)) rfl ⟨{ V with a3 := b, d3 := q }, by rfl, file_told HF.out.1 y6 HF.out.2.1 HF.out.2.2⟩
      | true =>
        rw [brk_yes hmt] at hE
        rw [swF_no hE (by decide), hE]
        generalize wrF F.H v F.hf x m = L at K ⊢
        have HM := Lib.hid (fun w' => rwmeets_v hmt hbd w')
        clear hr hE hE0 hrd h hv hs hbd hmt
        unfold filC at HR e0 HX ⊢
        go_enter Try.func30, Try.ntmps30
        go_wp2_with fail
        refine (HR.out _).mono ?_; rintro e w1 ⟨rfl, x1⟩
        obtain ⟨gB, gR, gS⟩ := HX.out _ x1
        have y1 := e0.trans x1
        have c4 := cell_of_heap (j := 4) gB rfl; have c5 := cell_of_heap (j := 5) gB rfl; have c12 := cell_of_heap (j := 12) gB rfl
        clear e0
        go_wp2_with fail
        refine (K.out _ y1).mono ?_; rintro e w3 ⟨b, q, rfl, h1, h2, h3, x3, f3⟩
        have gB3 := x3.block gB; have gR3 := x3.block gR
        have y3 := y1.trans x3
        have c8 := cell_of_heap (j := 8) gB3 rfl; have c9 := cell_of_heap (j := 9) gB3 rfl
        clear c4 c5 c12
        go_wp2_with fail
        refine (HM.out _).mono ?_; rintro e w6 ⟨rfl, x6⟩
        have gR6 := x6.block gR3
        have y6 := y3.trans x6
        clear h1 h2 h3 x3 f3 y1 x1 gB gR gB3 gR3 gS c8 c9 y3 x6
        go_wp2_with (first | (refine wpList_store_row rfl 31 (.tmp 6) (.tmp 38) rfl (w.heap.size + 1) _ rfl rfl 31 _ gR6 (by kernel_rfl) rfl (by simp [Value.oneCell']) ?_))
        refine bodyPost_ret (results_row_tmp rfl _ _ (w.heap.size + 1) 31 _ (0, 0) _ rfl (setRow_heap _ _ _ _ _ _ gR6) Try.underlying31 rfl (by kernel_rfl)) rfl ⟨zeroV, by rfl, zero_at _, below_setRow y6 (Nat.le_succ _) _, From.zero _ _ _⟩
    · rw [if_neg hE0] at hrd
      rw [hrd] at K
      rw [brk_no hE0] at hE
      rw [swF_no hE hE0, hE]
      generalize rdE F.hf F.hc F.nH x m = E at K hE0 ⊢
      generalize wrF F.H v F.hf x m = L at K ⊢
      clear hr hE hrd h hv hs hbd
      unfold filC at HR e0 HX ⊢
      go_enter Try.func30, Try.ntmps30
      go_wp2_with fail
      refine (HR.out _).mono ?_; rintro e w1 ⟨rfl, x1⟩
      obtain ⟨gB, gR, gS⟩ := HX.out _ x1
      have y1 := e0.trans x1
      have c4 := cell_of_heap (j := 4) gB rfl; have c5 := cell_of_heap (j := 5) gB rfl; have c12 := cell_of_heap (j := 12) gB rfl
      clear e0
      go_wp2_with fail
      refine (K.out _ y1).mono ?_; rintro e w3 ⟨b, q, rfl, h1, h2, h3, x3, f3⟩
      have gB3 := x3.block gB; have gR3 := x3.block gR
      have y3 := y1.trans x3
      clear h1 h2 h3 x3 f3 y1 x1 gB gR gB3 gS c4 c5 c12
      go_wp2_with (first | (refine wpList_store_row rfl 31 (.tmp 6) (.tmp 38) rfl (w.heap.size + 1) _ rfl rfl 31 _ gR3 (by kernel_rfl) rfl (by simp [Value.oneCell']) ?_))
      refine bodyPost_ret (results_row_tmp rfl _ _ (w.heap.size + 1) 31 _ (0, 0) _ rfl (setRow_heap _ _ _ _ _ _ gR3) Try.underlying31 rfl (by kernel_rfl)) rfl ⟨zeroV, by rfl, zero_at _, below_setRow y3 (Nat.le_succ _) _, From.zero _ _ _⟩
set_option maxRecDepth 100000 in
set_option maxHeartbeats 4000000 in
theorem rsense14_words (V : FilV) (F : Fil) (x y : Int) (w : World) (h : FilAt w V F) (wy : (Lit.int .i64 y).wf = true) :
    Calls Try.prog 31 #[.agg (filC V F), .bool true, .int .i64 x, .int .i64 y] w (FP (seE F true x) (seF F true x y) V F w) := by
  unfold FP
  have e0 := (Ext.alloc w (.cells (filC V F) 31)).trans (Ext.alloc _ (.cells (filC zeroV zeroF) 31))
  have hsz : ((w.alloc (.cells (filC V F) 31)).alloc (.cells (filC zeroV zeroF) 31)).heap.size = w.heap.size + 2 := by simp
  have gX := fun w1 (x1 : Ext ((w.alloc (.cells (filC V F) 31)).alloc (.cells (filC zeroV zeroF) 31)) w1) => (⟨x1.block (two_boxes w _ _ _ _).1, x1.block (two_boxes w _ _ _ _).2, by have := x1.size; omega⟩ : w1.heap[w.heap.size]? = some (.cells (filC V F) 31 (0, 0)) ∧ w1.heap[w.heap.size + 1]? = some (.cells (filC zeroV zeroF) 31 (0, 0)) ∧ w.heap.size + 2 ≤ w1.heap.size)
  have HX := Lib.hid gX
  clear gX hsz
  cases hr : rightB F with
  | false =>
    rw [seF_no (seE_wrong hr) (by decide), seE_wrong hr]
    have HR := Lib.hid (fun w' => rright14_v (V := V) hr w')
    clear hr h wy
    unfold filC at HR e0 HX ⊢
    go_enter Try.func31, Try.ntmps31
    go_wp2_with fail
    refine (HR.out _).mono ?_; rintro e w1 ⟨rfl, x1⟩
    obtain ⟨gB, gR, gS⟩ := HX.out _ x1
    have y1 := e0.trans x1
    clear x1 e0
    go_wp2_with (first | (refine wpList_store_row rfl 31 (.tmp 8) (.tmp 17) rfl (w.heap.size + 1) _ rfl rfl 31 _ gR (by kernel_rfl) rfl (by simp [Value.oneCell']) ?_))
    refine bodyPost_ret (results_row_tmp rfl _ _ (w.heap.size + 1) 31 _ (0, 0) _ rfl (setRow_heap _ _ _ _ _ _ gR) Try.underlying31 rfl (by kernel_rfl)) rfl ⟨zeroV, by rfl, zero_at _, below_setRow y1 (Nat.le_succ _) _, From.zero _ _ _⟩
  | true =>
    have hs := right_small hr
    have HR := Lib.hid (fun w' => rright14_v (V := V) hr w')
    have hE := seE_words (x := x) hr
    have K := Lib.hid (fun a w' (hx : Ext w w') (hv : HoldsG (Value.int .u16) w' a 1 (fun _ => y % 65536)) => (r13SetWords_f F.rf F.rc x V.a4 F.nR V.d4 F.R a 1 1 (fun _ => y % 65536) w' (h.h4.ext hx) hv hs.2.2.2 (by decide)).mono fun _ _ => WrPostF.sl)
    have hrd : rdN F.rf F.rc F.nR x 1 F.nR = if rdE F.rf F.rc F.nR x 1 = 0 then F.nR else 0 := rfl
    rw [show ((1 : Nat) : Int) = 1 from rfl] at K
    unfold SlP at K
    have HH := Lib.hid h
    have HY := Lib.hid (show IntKind.u16.wrap ((IntKind.u64.wrap y).tmod 65536) = y % 65536 from by
      have hp : 0 ≤ IntKind.u64.wrap y := by simp [IntKind.wrap, IntKind.bits, IntKind.signed]; omega
      rw [Int.tmod_eq_emod_of_nonneg hp]
      simp [IntKind.wrap, IntKind.bits, IntKind.signed]; try omega)
    by_cases hE0 : rdE F.rf F.rc F.nR x 1 = 0
    · rw [if_pos hE0] at hrd
      rw [hE0] at hE
      rw [hrd, hE0] at K
      rw [seF_words hE, hE]
      generalize wrF F.R (fun _ => y % 65536) F.rf x 1 = L at K ⊢
      clear hr hE hE0 hrd h hs wy
      unfold filC at HR e0 HX ⊢
      go_enter Try.func31, Try.ntmps31
      go_wp2_with fail
      refine (HR.out _).mono ?_; rintro e w1 ⟨rfl, x1⟩
      obtain ⟨gB, gR, gS⟩ := HX.out _ x1
      have y1 := e0.trans x1
      have c6 := cell_of_heap (j := 6) gB rfl; have c7 := cell_of_heap (j := 7) gB rfl; have c13 := cell_of_heap (j := 13) gB rfl
      have y2 := y1.trans (Ext.alloc w1 (.cells #[.int .u16 (IntKind.u16.wrap ((IntKind.u64.wrap y).tmod 65536))] 61))
      have gS2 : w.heap.size + 2 ≤ (w1.alloc (.cells #[.int .u16 (IntKind.u16.wrap ((IntKind.u64.wrap y).tmod 65536))] 61)).heap.size := by simp; omega
      have hl : HoldsG (Value.int .u16) (w1.alloc (.cells #[.int .u16 (IntKind.u16.wrap ((IntKind.u64.wrap y).tmod 65536))] 61)) (some ⟨w1.heap.size, 0, none⟩) 1 (fun _ => y % 65536) := by rw [HY.out]; exact one_cell _ _ _
      clear e0
      go_wp2_with fail
      refine (K.out _ _ y2 hl).mono ?_; rintro e w3 ⟨b, q, rfl, h1, h2, h3, x3, f3⟩
      have x3' := Ext.trans (Ext.alloc _ _) x3
      have gB3 := x3'.block gB; have gR3 := x3'.block gR
      have y3 := y1.trans x3'
      have c13 := cell_of_heap (j := 13) gB3 rfl
      have z13 := frozen_of (j := 13) gB3
      have gL : (w3.setCell ⟨w.heap.size, 13, none⟩ (.slice b F.nR q)).heap[w.heap.size]? = some (.cells (filC { V with a4 := b, d4 := q } { F with R := L }) 31 (0, 0)) := (heap_setCell_same _ _ 13 _ _ (.slice b F.nR q) gB3).trans (by rfl)
      dsimp only [filC] at gL
      have gT := (heap_setCell_other w3 ⟨w.heap.size, 13, none⟩ (w.heap.size + 1) (.slice b F.nR q) (Nat.succ_ne_self _)).trans gR3
      have HF : Hid (FilAt w3 { V with a4 := b, d4 := q } { F with R := L } ∧ From w V F { V with a4 := b, d4 := q } { F with R := L } ∧ FilOff (fun i => i = w.heap.size ∨ i = w.heap.size + 1) { V with a4 := b, d4 := q } { F with R := L }) := by
        have h' := HH.out.ext y3
        have o := HH.out.off (above_two w) (Nat.le_refl _)
        exact Lib.hid ⟨⟨h'.h1, h'.l1, h'.m1, h'.h2, h'.l2, h'.m2, h'.h3, h'.l3, h'.m3, h3, h1, h2⟩, ⟨.inl ⟨rfl, rfl⟩, .inl ⟨rfl, rfl⟩, .inl ⟨rfl, rfl⟩, .inr (f3.back y2)⟩, ⟨o.o1, o.o2, o.o3, fresh_off f3 gS2⟩⟩
      clear h1 h2 h3 x3 x3' f3 y1 x1 gB gR gB3 gR3 gS gS2 hl y2 c6 c7
      go_wp2_with (first
        | (refine wpList_load_row rfl 31 (.tmp 4) rfl w.heap.size rfl 31 _ (0, 0) _ gL Try.underlying31 rfl (by kernel_rfl) ?_)
        | (refine wpList_store_row rfl 31 (.tmp 8) (.tmp 40) rfl (w.heap.size + 1) _ rfl rfl 31 _ gT (by kernel_rfl) rfl (by simp [Value.oneCell']) ?_))
      refine bodyPost_ret (results_row_tmp rfl _ _ (w.heap.size + 1) 31 _ (0, 0) _ rfl (setRow_heap _ _ _ _ _ _ gT) Try.underlying31 rfl (by kernel_rfl)) rfl ⟨{ V with a4 := b, d4 := q }, by rfl, file_told HF.out.1 y3 HF.out.2.1 HF.out.2.2⟩
    · rw [if_neg hE0] at hrd
      rw [hrd] at K
      rw [seF_no hE hE0, hE]
      generalize rdE F.rf F.rc F.nR x 1 = E at K hE0 ⊢
      generalize wrF F.R (fun _ => y % 65536) F.rf x 1 = L at K ⊢
      clear hr hE hrd h hs wy
      unfold filC at HR e0 HX ⊢
      go_enter Try.func31, Try.ntmps31
      go_wp2_with fail
      refine (HR.out _).mono ?_; rintro e w1 ⟨rfl, x1⟩
      obtain ⟨gB, gR, gS⟩ := HX.out _ x1
      have y1 := e0.trans x1
      have c6 := cell_of_heap (j := 6) gB rfl; have c7 := cell_of_heap (j := 7) gB rfl; have c13 := cell_of_heap (j := 13) gB rfl
      have y2 := y1.trans (Ext.alloc w1 (.cells #[.int .u16 (IntKind.u16.wrap ((IntKind.u64.wrap y).tmod 65536))] 61))
      have gS2 : w.heap.size + 2 ≤ (w1.alloc (.cells #[.int .u16 (IntKind.u16.wrap ((IntKind.u64.wrap y).tmod 65536))] 61)).heap.size := by simp; omega
      have hl : HoldsG (Value.int .u16) (w1.alloc (.cells #[.int .u16 (IntKind.u16.wrap ((IntKind.u64.wrap y).tmod 65536))] 61)) (some ⟨w1.heap.size, 0, none⟩) 1 (fun _ => y % 65536) := by rw [HY.out]; exact one_cell _ _ _
      clear e0
      go_wp2_with fail
      refine (K.out _ _ y2 hl).mono ?_; rintro e w3 ⟨b, q, rfl, h1, h2, h3, x3, f3⟩
      have x3' := Ext.trans (Ext.alloc _ _) x3
      have gB3 := x3'.block gB; have gR3 := x3'.block gR
      have y3 := y1.trans x3'
      clear h1 h2 h3 x3 x3' f3 y1 x1 gB gR gB3 gS gS2 hl y2 c6 c7 c13
      go_wp2_with (first | (refine wpList_store_row rfl 31 (.tmp 8) (.tmp 36) rfl (w.heap.size + 1) _ rfl rfl 31 _ gR3 (by kernel_rfl) rfl (by simp [Value.oneCell']) ?_))
      refine bodyPost_ret (results_row_tmp rfl _ _ (w.heap.size + 1) 31 _ (0, 0) _ rfl (setRow_heap _ _ _ _ _ _ gR3) Try.underlying31 rfl (by kernel_rfl)) rfl ⟨zeroV, by rfl, zero_at _, below_setRow y3 (Nat.le_succ _) _, From.zero _ _ _⟩
set_option maxRecDepth 100000 in
set_option maxHeartbeats 4000000 in
theorem rsense14_bits (V : FilV) (F : Fil) (x y : Int) (w : World) (h : FilAt w V F) (wy : (Lit.int .i64 y).wf = true) :
    Calls Try.prog 31 #[.agg (filC V F), .bool false, .int .i64 x, .int .i64 y] w (FP (seE F false x) (seF F false x y) V F w) := by
  unfold FP
  have e0 := (Ext.alloc w (.cells (filC V F) 31)).trans (Ext.alloc _ (.cells (filC zeroV zeroF) 31))
  have hsz : ((w.alloc (.cells (filC V F) 31)).alloc (.cells (filC zeroV zeroF) 31)).heap.size = w.heap.size + 2 := by simp
  have gX := fun w1 (x1 : Ext ((w.alloc (.cells (filC V F) 31)).alloc (.cells (filC zeroV zeroF) 31)) w1) => (⟨x1.block (two_boxes w _ _ _ _).1, x1.block (two_boxes w _ _ _ _).2, by have := x1.size; omega⟩ : w1.heap[w.heap.size]? = some (.cells (filC V F) 31 (0, 0)) ∧ w1.heap[w.heap.size + 1]? = some (.cells (filC zeroV zeroF) 31 (0, 0)) ∧ w.heap.size + 2 ≤ w1.heap.size)
  have HX := Lib.hid gX
  clear gX hsz
  cases hr : rightB F with
  | false =>
    rw [seF_no (seE_wrong hr) (by decide), seE_wrong hr]
    have HR := Lib.hid (fun w' => rright14_v (V := V) hr w')
    clear hr h wy
    unfold filC at HR e0 HX ⊢
    go_enter Try.func31, Try.ntmps31
    go_wp2_with fail
    refine (HR.out _).mono ?_; rintro e w1 ⟨rfl, x1⟩
    obtain ⟨gB, gR, gS⟩ := HX.out _ x1
    have y1 := e0.trans x1
    clear x1 e0
    go_wp2_with (first | (refine wpList_store_row rfl 31 (.tmp 8) (.tmp 17) rfl (w.heap.size + 1) _ rfl rfl 31 _ gR (by kernel_rfl) rfl (by simp [Value.oneCell']) ?_))
    refine bodyPost_ret (results_row_tmp rfl _ _ (w.heap.size + 1) 31 _ (0, 0) _ rfl (setRow_heap _ _ _ _ _ _ gR) Try.underlying31 rfl (by kernel_rfl)) rfl ⟨zeroV, by rfl, zero_at _, below_setRow y1 (Nat.le_succ _) _, From.zero _ _ _⟩
  | true =>
    have hs := right_small hr
    have HR := Lib.hid (fun w' => rright14_v (V := V) hr w')
    have hE := seE_bits (x := x) hr
    have K := Lib.hid (fun a w' (hx : Ext w w') (hv : HoldsG Value.bool w' a 1 (fun _ => decide (y ≠ 0))) => (r13SetBits_f F.jf F.jc x V.a2 F.nI V.d2 F.I a 1 1 (fun _ => decide (y ≠ 0)) w' (h.h2.ext hx) hv hs.2.1 (by decide)).mono fun _ _ => WrPostF.sl)
    have hrd : rdN F.jf F.jc F.nI x 1 F.nI = if rdE F.jf F.jc F.nI x 1 = 0 then F.nI else 0 := rfl
    rw [show ((1 : Nat) : Int) = 1 from rfl] at K
    unfold SlP at K
    have HH := Lib.hid h
    by_cases hE0 : rdE F.jf F.jc F.nI x 1 = 0
    · rw [if_pos hE0] at hrd
      rw [hE0] at hE
      rw [hrd, hE0] at K
      rw [seF_bits hE, hE]
      generalize wrF F.I (fun _ => decide (y ≠ 0)) F.jf x 1 = L at K ⊢
      clear hr hE hE0 hrd h hs wy
      unfold filC at HR e0 HX ⊢
      go_enter Try.func31, Try.ntmps31
      go_wp2_with fail
      refine (HR.out _).mono ?_; rintro e w1 ⟨rfl, x1⟩
      obtain ⟨gB, gR, gS⟩ := HX.out _ x1
      have y1 := e0.trans x1
      have c2 := cell_of_heap (j := 2) gB rfl; have c3 := cell_of_heap (j := 3) gB rfl; have c11 := cell_of_heap (j := 11) gB rfl
      have y2 := y1.trans (Ext.alloc w1 (.cells #[.bool (y != 0)] 4))
      have gS2 : w.heap.size + 2 ≤ (w1.alloc (.cells #[.bool (y != 0)] 4)).heap.size := by simp; omega
      have hl : HoldsG Value.bool (w1.alloc (.cells #[.bool (y != 0)] 4)) (some ⟨w1.heap.size, 0, none⟩) 1 (fun _ => decide (y ≠ 0)) := by rw [show decide (y ≠ 0) = (y != 0) from by by_cases h : y = 0 <;> simp [h]]; exact one_cell _ _ _
      clear e0
      go_wp2_with fail
      refine (K.out _ _ y2 hl).mono ?_; rintro e w3 ⟨b, q, rfl, h1, h2, h3, x3, f3⟩
      have x3' := Ext.trans (Ext.alloc _ _) x3
      have gB3 := x3'.block gB; have gR3 := x3'.block gR
      have y3 := y1.trans x3'
      have c11 := cell_of_heap (j := 11) gB3 rfl
      have z11 := frozen_of (j := 11) gB3
      have gL : (w3.setCell ⟨w.heap.size, 11, none⟩ (.slice b F.nI q)).heap[w.heap.size]? = some (.cells (filC { V with a2 := b, d2 := q } { F with I := L }) 31 (0, 0)) := (heap_setCell_same _ _ 11 _ _ (.slice b F.nI q) gB3).trans (by rfl)
      dsimp only [filC] at gL
      have gT := (heap_setCell_other w3 ⟨w.heap.size, 11, none⟩ (w.heap.size + 1) (.slice b F.nI q) (Nat.succ_ne_self _)).trans gR3
      have HF : Hid (FilAt w3 { V with a2 := b, d2 := q } { F with I := L } ∧ From w V F { V with a2 := b, d2 := q } { F with I := L } ∧ FilOff (fun i => i = w.heap.size ∨ i = w.heap.size + 1) { V with a2 := b, d2 := q } { F with I := L }) := by
        have h' := HH.out.ext y3
        have o := HH.out.off (above_two w) (Nat.le_refl _)
        exact Lib.hid ⟨⟨h'.h1, h'.l1, h'.m1, h3, h1, h2, h'.h3, h'.l3, h'.m3, h'.h4, h'.l4, h'.m4⟩, ⟨.inl ⟨rfl, rfl⟩, .inr (f3.back y2), .inl ⟨rfl, rfl⟩, .inl ⟨rfl, rfl⟩⟩, ⟨o.o1, fresh_off f3 gS2, o.o3, o.o4⟩⟩
      clear h1 h2 h3 x3 x3' f3 y1 x1 gB gR gB3 gR3 gS gS2 hl y2 c2 c3
      go_wp2_with (first
        | (refine wpList_load_row rfl 31 (.tmp 4) rfl w.heap.size rfl 31 _ (0, 0) _ gL Try.underlying31 rfl (by kernel_rfl) ?_)
        | (refine wpList_store_row rfl 31 (.tmp 8) (.tmp 60) rfl (w.heap.size + 1) _ rfl rfl 31 _ gT (by kernel_rfl) rfl (by simp [Value.oneCell']) ?_))
      refine bodyPost_ret (results_row_tmp rfl _ _ (w.heap.size + 1) 31 _ (0, 0) _ rfl (setRow_heap _ _ _ _ _ _ gT) Try.underlying31 rfl (by kernel_rfl)) rfl ⟨{ V with a2 := b, d2 := q }, by rfl, file_told HF.out.1 y3 HF.out.2.1 HF.out.2.2⟩
    · rw [if_neg hE0] at hrd
      rw [hrd] at K
      rw [seF_no hE hE0, hE]
      generalize rdE F.jf F.jc F.nI x 1 = E at K hE0 ⊢
      generalize wrF F.I (fun _ => decide (y ≠ 0)) F.jf x 1 = L at K ⊢
      clear hr hE hrd h hs wy
      unfold filC at HR e0 HX ⊢
      go_enter Try.func31, Try.ntmps31
      go_wp2_with fail
      refine (HR.out _).mono ?_; rintro e w1 ⟨rfl, x1⟩
      obtain ⟨gB, gR, gS⟩ := HX.out _ x1
      have y1 := e0.trans x1
      have c2 := cell_of_heap (j := 2) gB rfl; have c3 := cell_of_heap (j := 3) gB rfl; have c11 := cell_of_heap (j := 11) gB rfl
      have y2 := y1.trans (Ext.alloc w1 (.cells #[.bool (y != 0)] 4))
      have gS2 : w.heap.size + 2 ≤ (w1.alloc (.cells #[.bool (y != 0)] 4)).heap.size := by simp; omega
      have hl : HoldsG Value.bool (w1.alloc (.cells #[.bool (y != 0)] 4)) (some ⟨w1.heap.size, 0, none⟩) 1 (fun _ => decide (y ≠ 0)) := by rw [show decide (y ≠ 0) = (y != 0) from by by_cases h : y = 0 <;> simp [h]]; exact one_cell _ _ _
      clear e0
      go_wp2_with fail
      refine (K.out _ _ y2 hl).mono ?_; rintro e w3 ⟨b, q, rfl, h1, h2, h3, x3, f3⟩
      have x3' := Ext.trans (Ext.alloc _ _) x3
      have gB3 := x3'.block gB; have gR3 := x3'.block gR
      have y3 := y1.trans x3'
      clear h1 h2 h3 x3 x3' f3 y1 x1 gB gR gB3 gS gS2 hl y2 c2 c3 c11
      go_wp2_with (first | (refine wpList_store_row rfl 31 (.tmp 8) (.tmp 56) rfl (w.heap.size + 1) _ rfl rfl 31 _ gR3 (by kernel_rfl) rfl (by simp [Value.oneCell']) ?_))
      refine bodyPost_ret (results_row_tmp rfl _ _ (w.heap.size + 1) 31 _ (0, 0) _ rfl (setRow_heap _ _ _ _ _ _ gR3) Try.underlying31 rfl (by kernel_rfl)) rfl ⟨zeroV, by rfl, zero_at _, below_setRow y3 (Nat.le_succ _) _, From.zero _ _ _⟩
end Go.Proofs.Ytkfpnijacfeogaa
