/-
  THE LAWS OF LAYER 17: the walk of DataSwaps (package data's contracts and 'sure' as premises).
-/
import Derived.Test.YtlafnobjfajamaaGreatPk15
import Derived.Test.YtlafnobjfajamaaGreatPk25
import Derived.Test.YtlafnobjfajamaaGreatPk16
import Derived.Test.YtlafnobjfajamaaGreatPk19
import Derived.Test.YtlafnobjfajamaaGreatPk2
import Derived.Deep.DeepCutAuto
namespace Go.Proofs.YtlafnobjfajamaaGreat
open Go.RowKit
set_option linter.unusedVariables false
set_option maxRecDepth 100000

theorem datT_cd17 (F : Fil) (Q : Qst) : (datT F Q).cd = datE F Q := by
  by_cases h : datE F Q = 0
  · rw [h]
    unfold datT
    rw [if_neg (fun hh => hh h)]
    repeat' split
    all_goals rfl
  · rw [(datF_no h).2]
/-- A struct that is loaded, in a quiet walk. -/
theorem quiet_load_row {P : Program} {C : World → Prop} {o : Oper} {a : Act} {K : Act → Prop} (ty : TypeId) (x : Operand) (ho : o.op = .load ty x) {d : Nat} (hd : o.dst = some d)
    (g : Nat) (hx : a.eval x = .pointer (some ⟨g, 0, none⟩)) (t : TypeId) (cs : Array Value) (fr : Nat × Nat) (D : TypeDesc) (hC : ∀ w, C w → w.heap[g]? = some (.cells cs t fr))
    (hu : P.underlying ty = some D) (hD : (match D with | .struct _ | .array _ _ => true | _ => false) = true) (hi : (P.info? ty).map (·.size) = some cs.size) (hk : K (a.put (some d) (.agg cs))) : o.quiet P a C K :=
  ⟨.agg cs, fun w hw => by
    unfold Oper.quietAt execOp
    simp only [ho, hx, Instr.loadAt, Instr.sureAddr, Sem.run_bind, Sem.run_pure, Result.andThen_ok, run_loadVar_row w g t ty cs fr D (hC w hw) hu hD hi]
    exact ⟨rfl, rfl⟩, by rw [hd]; exact hk⟩
theorem ct_max {Q : Qst} (a : AskF Q) : 1 ≤ max Q.ct 1 ∧ max Q.ct 1 ≤ 2000 := by
  have := a.kn
  have := a.rd
  have := a.bt
  have := a.wd
  have := a.c0
  omega
theorem swap1_any (U : QstV) (Q : Qst) (w : World) :
    Calls Tryz.prog 30 #[.agg (qstC U Q)] w fun e w' => e = .returned (.bool (decide (Q.k = 5 ∨ Q.k = 15))) ∧ Ext w w' := by
  obtain ⟨W0, hW0, e0, hc⟩ : ∃ W0, W0 = w.alloc (.cells (qstC U Q) 31) ∧ Ext w W0 ∧ W0.cell? ⟨w.heap.size, 0, none⟩ = some (.int .i64 Q.k) := ⟨_, rfl, Ext.alloc _ _, cell_of_heap (heap_alloc_new w _) rfl⟩
  by_cases h5 : Q.k = 5
  · have q : (Q.k == 5) = true := by simp [h5]
    have hd : Hid (decide (Q.k = 5 ∨ Q.k = 15) = true) := Lib.hid (decide_eq_true (.inl h5))
    rw [hd.out]
    clear h5 hd
    go_enter Tryz.func30, Tryz.ntmps30
    go_upto_region 1 with fail
    rw [← hW0]
    clear hW0
    go_wp2
    go_ret
    exact ⟨rfl, e0⟩
  · have q : (Q.k == 5) = false := by simp [h5]
    by_cases h15 : Q.k = 15
    · have q2 : (Q.k == 15) = true := by simp [h15]
      have hd : Hid (decide (Q.k = 5 ∨ Q.k = 15) = true) := Lib.hid (decide_eq_true (.inr h15))
      rw [hd.out]
      clear h5 h15 hd
      go_enter Tryz.func30, Tryz.ntmps30
      go_upto_region 1 with fail
      rw [← hW0]
      clear hW0
      go_wp2
      go_ret
      exact ⟨rfl, e0⟩
    · have q2 : (Q.k == 15) = false := by simp [h15]
      have hd : Hid (decide (Q.k = 5 ∨ Q.k = 15) = false) := Lib.hid (decide_eq_false (fun hh => hh.elim h5 h15))
      rw [hd.out]
      clear h5 h15 hd
      go_enter Tryz.func30, Tryz.ntmps30
      go_upto_region 1 with fail
      rw [← hW0]
      clear hW0
      go_wp2
      go_ret
      exact ⟨rfl, e0⟩
set_option maxHeartbeats 16000000 in
theorem dataSwaps.walk0 (V : FilV) (F : Fil) (w : World) (h : FilAt w V F) (hw : FilW F) (f1 : F.nC ≤ 1000000000000000) (f2 : F.nI ≤ 1000000000000000) (f3 : F.nH ≤ 1000000000000000) (f4 : F.nR ≤ 1000000000000000) (U : QstV) (A : Qst) (k1 : QstAt w U A) (kw1 : QstW A) (nb1 : A.nb ≤ 1000000000000000) (nr1 : A.nr ≤ 1000000000000000) (T : QstV) (B : Qst) (k2 : QstAt w T B) (kw2 : QstW B) (nb2 : B.nb ≤ 1000000000000000) (nr2 : B.nr ≤ 1000000000000000)
    (hDo : DDoC 12) (hWr : DWritesC 14) (hSa : FSameC 27) (sure : ∀ w, Calls Tryz.prog 11 #[] w fun e w' => e = .returned (.bool true) ∧ Ext w w') :
    Calls Tryz.prog 8 #[.agg (filC V F), .agg (qstC U A), .agg (qstC T B)] w fun e w' => e = .returned (.bool true) ∧ Ext w w' := by
  have HSU := Lib.hid sure
  clear sure
  obtain ⟨W0, hW0, e0, HX⟩ : ∃ W0, W0 = ((w.alloc (.cells (filC V F) 29)).alloc (.cells (qstC U A) 31)).alloc (.cells (qstC T B) 31) ∧ Ext w W0 ∧ Hid (∀ W, Ext W0 W → W.heap[w.heap.size]? = some (.cells (filC V F) 29 (0, 0)) ∧ W.heap[w.heap.size + 1]? = some (.cells (qstC U A) 31 (0, 0)) ∧ W.heap[w.heap.size + 2]? = some (.cells (qstC T B) 31 (0, 0))) := ⟨_, rfl, ((Ext.alloc w _).trans (Ext.alloc _ _)).trans (Ext.alloc _ _), Lib.hid fun W x => ⟨x.block ((Ext.alloc _ _).block ((heap_alloc_old _ _ (by simp)).trans (heap_alloc_new w _))), x.block ((Ext.alloc _ _).block (heap_new_at _ _ (by simp))), x.block (heap_new_at _ _ (by simp))⟩⟩
  obtain ⟨b1, -⟩ := HX.out _ (Ext.refl W0)
  cases hfw : decide (F.nC + F.nI + F.nH + F.nR ≤ 4000) with
  | false =>
    have KF := Lib.hid (fun W => rfew14_v (V := V) hfw f1 f2 f3 f4 W)
    clear h hw k1 kw1 k2 kw2 hDo hSa hWr hfw
    go_enter Tryz.func8, Tryz.ntmps8
    go_upto_region 1 with fail
    rw [← hW0]
    clear hW0
    have y := Ext.refl W0
    go_wp2_with (first
      | (refine wpList_load_row rfl 29 (.tmp 3) rfl (w.heap.size) rfl 29 _ (0, 0) _ b1 Tryz.underlying29 rfl (by kernel_rfl) ?_)
      | (go_at_call 9; refine (KF.out _).mono ?_; rintro e w3 ⟨rfl, x3⟩; have y := y.trans x3; have c3 := (HX.out _ y).2.1)
      | (refine wpList_load_row_g (by rfl) 31 (.tmp 4) rfl (w.heap.size + 1) rfl 31 _ (0, 0) _ c3 Tryz.underlying31 rfl (by kernel_rfl) ?_)
      | (go_at_call 10; with_reducible refine (KGA.out _).mono ?_; rintro e w4 ⟨rfl, x4⟩; have y := y.trans x4; have d4 := (HX.out _ y).2.2)
      | (refine wpList_load_row_g (by rfl) 31 (.tmp 5) rfl (w.heap.size + 2) rfl 31 _ (0, 0) _ d4 Tryz.underlying31 rfl (by kernel_rfl) ?_)
      | (go_at_call 10; with_reducible refine (KGB.out _).mono ?_; rintro e w5 ⟨rfl, x5⟩; have y := y.trans x5; have p5 := (cell_of_heap (j := 0) (HX.out _ y).2.1 rfl : w5.cell? ⟨w.heap.size + 1, 0, none⟩ = some (.int .i64 A.k)))
      | (go_at_call 14; with_reducible refine (KWA.out _).mono ?_; rintro e w6 ⟨rfl, x6⟩; have y := y.trans x6; have p6 := (cell_of_heap (j := 0) (HX.out _ y).2.2 rfl : w6.cell? ⟨w.heap.size + 2, 0, none⟩ = some (.int .i64 B.k)))
      | (go_at_call 14; with_reducible refine (KWB.out _).mono ?_; rintro e w7 ⟨rfl, x7⟩; have y := y.trans x7)
      | (go_at_call 11; refine (HSU.out _).mono ?_; rintro e w8 ⟨rfl, x8⟩; have y := y.trans x8))
    go_ret
    exact ⟨rfl, e0.trans y⟩
  | true =>
   have KF := Lib.hid (fun W => rfew14_v (V := V) hfw f1 f2 f3 f4 W)
   have hsm := few_small hfw
   cases hfa : fewQA A with
   | false =>
     have KGA := Lib.hid (fun W => rfew16A_v (V := U) hfa nb1 nr1 W)
     clear h hw k1 kw1 k2 kw2 hDo hSa hWr hfw hfa
     go_enter Tryz.func8, Tryz.ntmps8
     go_upto_region 1 with fail
     rw [← hW0]
     clear hW0
     have y := Ext.refl W0
     go_wp2_with (first
       | (refine wpList_load_row rfl 29 (.tmp 3) rfl (w.heap.size) rfl 29 _ (0, 0) _ b1 Tryz.underlying29 rfl (by kernel_rfl) ?_)
       | (go_at_call 9; refine (KF.out _).mono ?_; rintro e w3 ⟨rfl, x3⟩; have y := y.trans x3; have c3 := (HX.out _ y).2.1)
       | (refine wpList_load_row_g (by rfl) 31 (.tmp 4) rfl (w.heap.size + 1) rfl 31 _ (0, 0) _ c3 Tryz.underlying31 rfl (by kernel_rfl) ?_)
       | (go_at_call 10; with_reducible refine (KGA.out _).mono ?_; rintro e w4 ⟨rfl, x4⟩; have y := y.trans x4; have d4 := (HX.out _ y).2.2)
       | (refine wpList_load_row_g (by rfl) 31 (.tmp 5) rfl (w.heap.size + 2) rfl 31 _ (0, 0) _ d4 Tryz.underlying31 rfl (by kernel_rfl) ?_)
       | (go_at_call 10; with_reducible refine (KGB.out _).mono ?_; rintro e w5 ⟨rfl, x5⟩; have y := y.trans x5; have p5 := (cell_of_heap (j := 0) (HX.out _ y).2.1 rfl : w5.cell? ⟨w.heap.size + 1, 0, none⟩ = some (.int .i64 A.k)))
       | (go_at_call 14; with_reducible refine (KWA.out _).mono ?_; rintro e w6 ⟨rfl, x6⟩; have y := y.trans x6; have p6 := (cell_of_heap (j := 0) (HX.out _ y).2.2 rfl : w6.cell? ⟨w.heap.size + 2, 0, none⟩ = some (.int .i64 B.k)))
       | (go_at_call 14; with_reducible refine (KWB.out _).mono ?_; rintro e w7 ⟨rfl, x7⟩; have y := y.trans x7)
       | (go_at_call 11; refine (HSU.out _).mono ?_; rintro e w8 ⟨rfl, x8⟩; have y := y.trans x8))
     go_ret
     exact ⟨rfl, e0.trans y⟩
   | true =>
    have KGA := Lib.hid (fun W => rfew16A_v (V := U) hfa nb1 nr1 W)
    cases hfb : fewQA B with
    | false =>
      have KGB := Lib.hid (fun W => rfew16A_v (V := T) hfb nb2 nr2 W)
      clear h hw k1 kw1 k2 kw2 hDo hSa hWr hfw hfa hfb
      go_enter Tryz.func8, Tryz.ntmps8
      go_upto_region 1 with fail
      rw [← hW0]
      clear hW0
      have y := Ext.refl W0
      go_wp2_with (first
        | (refine wpList_load_row rfl 29 (.tmp 3) rfl (w.heap.size) rfl 29 _ (0, 0) _ b1 Tryz.underlying29 rfl (by kernel_rfl) ?_)
        | (go_at_call 9; refine (KF.out _).mono ?_; rintro e w3 ⟨rfl, x3⟩; have y := y.trans x3; have c3 := (HX.out _ y).2.1)
        | (refine wpList_load_row_g (by rfl) 31 (.tmp 4) rfl (w.heap.size + 1) rfl 31 _ (0, 0) _ c3 Tryz.underlying31 rfl (by kernel_rfl) ?_)
        | (go_at_call 10; with_reducible refine (KGA.out _).mono ?_; rintro e w4 ⟨rfl, x4⟩; have y := y.trans x4; have d4 := (HX.out _ y).2.2)
        | (refine wpList_load_row_g (by rfl) 31 (.tmp 5) rfl (w.heap.size + 2) rfl 31 _ (0, 0) _ d4 Tryz.underlying31 rfl (by kernel_rfl) ?_)
        | (go_at_call 10; with_reducible refine (KGB.out _).mono ?_; rintro e w5 ⟨rfl, x5⟩; have y := y.trans x5; have p5 := (cell_of_heap (j := 0) (HX.out _ y).2.1 rfl : w5.cell? ⟨w.heap.size + 1, 0, none⟩ = some (.int .i64 A.k)))
        | (go_at_call 14; with_reducible refine (KWA.out _).mono ?_; rintro e w6 ⟨rfl, x6⟩; have y := y.trans x6; have p6 := (cell_of_heap (j := 0) (HX.out _ y).2.2 rfl : w6.cell? ⟨w.heap.size + 2, 0, none⟩ = some (.int .i64 B.k)))
        | (go_at_call 14; with_reducible refine (KWB.out _).mono ?_; rintro e w7 ⟨rfl, x7⟩; have y := y.trans x7)
        | (go_at_call 11; refine (HSU.out _).mono ?_; rintro e w8 ⟨rfl, x8⟩; have y := y.trans x8))
      go_ret
      exact ⟨rfl, e0.trans y⟩
    | true =>
     have KGB := Lib.hid (fun W => rfew16A_v (V := T) hfb nb2 nr2 W)
     have KWA := Lib.hid (fun W => hWr A.k W)
     have KWB := Lib.hid (fun W => hWr B.k W)
     cases hwa : writesB A.k with
     | false =>
       rw [hwa] at KWA
       clear h hw k1 kw1 k2 kw2 hDo hSa hWr hfw hfa hfb hwa KWB
       go_enter Tryz.func8, Tryz.ntmps8
       go_upto_region 1 with fail
       rw [← hW0]
       clear hW0
       have y := Ext.refl W0
       go_wp2_with (first
         | (refine wpList_load_row rfl 29 (.tmp 3) rfl (w.heap.size) rfl 29 _ (0, 0) _ b1 Tryz.underlying29 rfl (by kernel_rfl) ?_)
         | (go_at_call 9; refine (KF.out _).mono ?_; rintro e w3 ⟨rfl, x3⟩; have y := y.trans x3; have c3 := (HX.out _ y).2.1)
         | (refine wpList_load_row_g (by rfl) 31 (.tmp 4) rfl (w.heap.size + 1) rfl 31 _ (0, 0) _ c3 Tryz.underlying31 rfl (by kernel_rfl) ?_)
         | (go_at_call 10; with_reducible refine (KGA.out _).mono ?_; rintro e w4 ⟨rfl, x4⟩; have y := y.trans x4; have d4 := (HX.out _ y).2.2)
         | (refine wpList_load_row_g (by rfl) 31 (.tmp 5) rfl (w.heap.size + 2) rfl 31 _ (0, 0) _ d4 Tryz.underlying31 rfl (by kernel_rfl) ?_)
         | (go_at_call 10; with_reducible refine (KGB.out _).mono ?_; rintro e w5 ⟨rfl, x5⟩; have y := y.trans x5; have p5 := (cell_of_heap (j := 0) (HX.out _ y).2.1 rfl : w5.cell? ⟨w.heap.size + 1, 0, none⟩ = some (.int .i64 A.k)))
         | (go_at_call 14; with_reducible refine (KWA.out _).mono ?_; rintro e w6 ⟨rfl, x6⟩; have y := y.trans x6; have p6 := (cell_of_heap (j := 0) (HX.out _ y).2.2 rfl : w6.cell? ⟨w.heap.size + 2, 0, none⟩ = some (.int .i64 B.k)))
         | (go_at_call 14; with_reducible refine (KWB.out _).mono ?_; rintro e w7 ⟨rfl, x7⟩; have y := y.trans x7)
         | (go_at_call 11; refine (HSU.out _).mono ?_; rintro e w8 ⟨rfl, x8⟩; have y := y.trans x8))
       go_ret
       exact ⟨rfl, e0.trans y⟩
     | true =>
      rw [hwa] at KWA
      cases hwb : writesB B.k with
      | false =>
        rw [hwb] at KWB
        clear h hw k1 kw1 k2 kw2 hDo hSa hWr hfw hfa hfb hwa hwb
        go_enter Tryz.func8, Tryz.ntmps8
        go_upto_region 1 with fail
        rw [← hW0]
        clear hW0
        have y := Ext.refl W0
        go_wp2_with (first
          | (refine wpList_load_row rfl 29 (.tmp 3) rfl (w.heap.size) rfl 29 _ (0, 0) _ b1 Tryz.underlying29 rfl (by kernel_rfl) ?_)
          | (go_at_call 9; refine (KF.out _).mono ?_; rintro e w3 ⟨rfl, x3⟩; have y := y.trans x3; have c3 := (HX.out _ y).2.1)
          | (refine wpList_load_row_g (by rfl) 31 (.tmp 4) rfl (w.heap.size + 1) rfl 31 _ (0, 0) _ c3 Tryz.underlying31 rfl (by kernel_rfl) ?_)
          | (go_at_call 10; with_reducible refine (KGA.out _).mono ?_; rintro e w4 ⟨rfl, x4⟩; have y := y.trans x4; have d4 := (HX.out _ y).2.2)
          | (refine wpList_load_row_g (by rfl) 31 (.tmp 5) rfl (w.heap.size + 2) rfl 31 _ (0, 0) _ d4 Tryz.underlying31 rfl (by kernel_rfl) ?_)
          | (go_at_call 10; with_reducible refine (KGB.out _).mono ?_; rintro e w5 ⟨rfl, x5⟩; have y := y.trans x5; have p5 := (cell_of_heap (j := 0) (HX.out _ y).2.1 rfl : w5.cell? ⟨w.heap.size + 1, 0, none⟩ = some (.int .i64 A.k)))
          | (go_at_call 14; with_reducible refine (KWA.out _).mono ?_; rintro e w6 ⟨rfl, x6⟩; have y := y.trans x6; have p6 := (cell_of_heap (j := 0) (HX.out _ y).2.2 rfl : w6.cell? ⟨w.heap.size + 2, 0, none⟩ = some (.int .i64 B.k)))
          | (go_at_call 14; with_reducible refine (KWB.out _).mono ?_; rintro e w7 ⟨rfl, x7⟩; have y := y.trans x7)
          | (go_at_call 11; refine (HSU.out _).mono ?_; rintro e w8 ⟨rfl, x8⟩; have y := y.trans x8))
        go_ret
        exact ⟨rfl, e0.trans y⟩
      | true =>
       rw [hwb] at KWB
       obtain ⟨n1, n2⟩ := (fewQA_iff A).1 hfa
       obtain ⟨m1, m2⟩ := (fewQA_iff B).1 hfb
       have n1 : A.nb ≤ 1000000 := by omega
       have n2 : A.nr ≤ 1000000 := by omega
       have m1 : B.nb ≤ 1000000 := by omega
       have m2 : B.nr ≤ 1000000 := by omega
       clear hfw hfa hfb f1 f2 f3 f4 nb1 nr1 nb2 nr2
       have KD1 := Lib.hid (fun W (x : Ext w W) => hDo V F U A W (h.ext x) hw hsm (k1.ext x) kw1 n1 n2)
       have KD2 := Lib.hid (fun W (x : Ext w W) => hDo V F T B W (h.ext x) hw hsm (k2.ext x) kw2 m1 m2)
       have HDo := Lib.hid hDo
       have HSa := Lib.hid hSa
       have HQA := Lib.hid k1
       have HKA := Lib.hid kw1
       have HQB := Lib.hid k2
       have HKB := Lib.hid kw2
       have HFW := Lib.hid hw
       have HWA := Lib.hid hwa
       have HWB := Lib.hid hwb
       have HN := Lib.hid (And.intro (And.intro n1 n2) (And.intro m1 m2))
       obtain ⟨BA, hBA⟩ : ∃ b, decide (A.k = 5 ∨ A.k = 15) = b := ⟨_, rfl⟩
       obtain ⟨BB, hBB⟩ : ∃ b, decide (B.k = 5 ∨ B.k = 15) = b := ⟨_, rfl⟩
       have KCA : Hid (∀ W, Calls Tryz.prog 30 #[.agg (qstC U A)] W fun e w' => e = .returned (.bool BA) ∧ Ext W w') := Lib.hid (fun W => hBA ▸ swap1_any U A W)
       have KCB : Hid (∀ W, Calls Tryz.prog 30 #[.agg (qstC T B)] W fun e w' => e = .returned (.bool BB) ∧ Ext W w') := Lib.hid (fun W => hBB ▸ swap1_any T B W)
       have HBA := Lib.hid hBA
       have HBB := Lib.hid hBB
       clear h hw k1 kw1 k2 kw2 hDo hSa hWr hwa hwb n1 n2 m1 m2 hBA hBB
       go_enter Tryz.func8, Tryz.ntmps8
       go_upto_region 1 with fail
       rw [← hW0]
       clear hW0
       have y := Ext.refl W0
       go_upto_region 4 with (first
         | (refine wpList_load_row rfl 29 (.tmp 3) rfl (w.heap.size) rfl 29 _ (0, 0) _ b1 Tryz.underlying29 rfl (by kernel_rfl) ?_)
         | (go_at_call 9; refine (KF.out _).mono ?_; rintro e w3 ⟨rfl, x3⟩; have y := y.trans x3; have c3 := (HX.out _ y).2.1)
         | (refine wpList_load_row_g (by rfl) 31 (.tmp 4) rfl (w.heap.size + 1) rfl 31 _ (0, 0) _ c3 Tryz.underlying31 rfl (by kernel_rfl) ?_)
         | (go_at_call 10; with_reducible refine (KGA.out _).mono ?_; rintro e w4 ⟨rfl, x4⟩; have y := y.trans x4; have d4 := (HX.out _ y).2.2)
         | (refine wpList_load_row_g (by rfl) 31 (.tmp 5) rfl (w.heap.size + 2) rfl 31 _ (0, 0) _ d4 Tryz.underlying31 rfl (by kernel_rfl) ?_)
         | (go_at_call 10; with_reducible refine (KGB.out _).mono ?_; rintro e w5 ⟨rfl, x5⟩; have y := y.trans x5; have p5 := (cell_of_heap (j := 0) (HX.out _ y).2.1 rfl : w5.cell? ⟨w.heap.size + 1, 0, none⟩ = some (.int .i64 A.k)))
         | (go_at_call 14; with_reducible refine (KWA.out _).mono ?_; rintro e w6 ⟨rfl, x6⟩; have y := y.trans x6; have p6 := (cell_of_heap (j := 0) (HX.out _ y).2.2 rfl : w6.cell? ⟨w.heap.size + 2, 0, none⟩ = some (.int .i64 B.k)))
         | (go_at_call 14; with_reducible refine (KWB.out _).mono ?_; rintro e w7 ⟨rfl, x7⟩; have y := y.trans x7))
       have e7 := e0.trans y
       obtain ⟨MA, hMA⟩ : ∃ M, max A.ct 1 = M := ⟨_, rfl⟩
       obtain ⟨MB, hMB⟩ : ∃ M, max B.ct 1 = M := ⟨_, rfl⟩
       have HMA := Lib.hid hMA
       have HMB := Lib.hid hMB
       have q1 := (cell_of_heap (j := 2) (HX.out _ y).2.1 rfl : w7.cell? ⟨w.heap.size + 1, 2, none⟩ = some (.int .i64 A.ct))
       have q2 := (cell_of_heap (j := 2) (HX.out _ y).2.2 rfl : w7.cell? ⟨w.heap.size + 2, 2, none⟩ = some (.int .i64 B.ct))
       clear hMA hMB KF KGA KGB KWA KWB b1 c3 d4 p5 p6 x3 x4 x5 x6 x7
       go_cut [8, 9] from 48 to 53 (fun va vb wx => va = .int .i64 MA ∧ vb = .int .i64 MB ∧ Ext w7 wx)
       case first => as_aux_lemma =>
         have q1 := Later.cell q1
         have q2 := Later.cell q2
         by_cases g1 : 1 ≤ A.ct
         · by_cases g2 : 1 ≤ B.ct
           · have hm1 : Hid (MA = A.ct) := Lib.hid (by rw [← HMA.out]; omega)
             have hm2 : Hid (MB = B.ct) := Lib.hid (by rw [← HMB.out]; omega)
             refine wp_region_later (by kernel_rfl) (by kernel_rfl) ?_
             repeat (go_big_quiet_step (fail))
             refine wpQuiet_nil ?_
             intro _ hw'
             obtain ⟨x, rfl⟩ := hw'
             have xx := x.ext
             go_wp2
             go_meet
             exact ⟨by rw [hm1.out], by rw [hm2.out], xx⟩
           · have hm1 : Hid (MA = A.ct) := Lib.hid (by rw [← HMA.out]; omega)
             have hm2 : Hid (MB = 1) := Lib.hid (by rw [← HMB.out]; omega)
             have z2 : B.ct < 1 := by omega
             refine wp_region_later (by kernel_rfl) (by kernel_rfl) ?_
             repeat (go_big_quiet_step (fail))
             refine wpQuiet_nil ?_
             intro _ hw'
             obtain ⟨x, rfl⟩ := hw'
             have xx := x.ext
             go_wp2
             go_meet
             exact ⟨by rw [hm1.out], by rw [hm2.out], xx⟩
         · by_cases g2 : 1 ≤ B.ct
           · have hm1 : Hid (MA = 1) := Lib.hid (by rw [← HMA.out]; omega)
             have z1 : A.ct < 1 := by omega
             have hm2 : Hid (MB = B.ct) := Lib.hid (by rw [← HMB.out]; omega)
             refine wp_region_later (by kernel_rfl) (by kernel_rfl) ?_
             repeat (go_big_quiet_step (fail))
             refine wpQuiet_nil ?_
             intro _ hw'
             obtain ⟨x, rfl⟩ := hw'
             have xx := x.ext
             go_wp2
             go_meet
             exact ⟨by rw [hm1.out], by rw [hm2.out], xx⟩
           · have hm1 : Hid (MA = 1) := Lib.hid (by rw [← HMA.out]; omega)
             have z1 : A.ct < 1 := by omega
             have hm2 : Hid (MB = 1) := Lib.hid (by rw [← HMB.out]; omega)
             have z2 : B.ct < 1 := by omega
             refine wp_region_later (by kernel_rfl) (by kernel_rfl) ?_
             repeat (go_big_quiet_step (fail))
             refine wpQuiet_nil ?_
             intro _ hw'
             obtain ⟨x, rfl⟩ := hw'
             have xx := x.ext
             go_wp2
             go_meet
             exact ⟨by rw [hm1.out], by rw [hm2.out], xx⟩
       case rest =>
       obtain ⟨rfl, rfl, xc⟩ := hcut
       obtain ⟨w8, hw8⟩ : ∃ W, W = wc := ⟨_, rfl⟩
       rw [← hw8] at xc ⊢
       clear hw8
       have y := y.trans xc
       have e8 := e0.trans y
       have p1 := (cell_of_heap (j := 1) (HX.out _ y).2.1 rfl : w8.cell? ⟨w.heap.size + 1, 1, none⟩ = some (.int .i64 A.ad))
       have p2 := (cell_of_heap (j := 1) (HX.out _ y).2.2 rfl : w8.cell? ⟨w.heap.size + 2, 1, none⟩ = some (.int .i64 B.ad))
       clear q1 q2 xc e7
       go_upto_region 5 with fail
       go_cut [78] from 54 to 78 (fun v wx => v = .bool (BA == BB && (decide (A.ad < wrap64 (B.ad + MB)) && decide (B.ad < wrap64 (A.ad + MA)))) ∧ Ext w8 wx)
       case first => as_aux_lemma =>
         have p1 := Later.cell p1
         have p2 := Later.cell p2
         cases BA with
         | false =>
           cases BB with
           | false =>
             by_cases l1 : A.ad < wrap64 (B.ad + MB)
             · by_cases l2 : B.ad < wrap64 (A.ad + MA)
               · refine wp_region_later (by kernel_rfl) (by kernel_rfl) ?_
                 repeat (first
                   | (go_big_quiet_want; refine quiet_load_row 31 (.tmp 4) rfl rfl (w.heap.size + 1) rfl 31 _ (0, 0) _ (fun W hh => by obtain ⟨x, rfl⟩ := hh; exact (HX.out _ (y.trans x.ext)).2.1) Tryz.underlying31 rfl (by kernel_rfl) ?_; simp only [Act.put, List.setIfInBounds_toArray, List.set_cons_succ, List.set_cons_zero]; go_big_quiet_on)
                   | (go_big_quiet_want; refine quiet_load_row 31 (.tmp 5) rfl rfl (w.heap.size + 2) rfl 31 _ (0, 0) _ (fun W hh => by obtain ⟨x, rfl⟩ := hh; exact (HX.out _ (y.trans x.ext)).2.2) Tryz.underlying31 rfl (by kernel_rfl) ?_; simp only [Act.put, List.setIfInBounds_toArray, List.set_cons_succ, List.set_cons_zero]; go_big_quiet_on)
                   | go_big_quiet_step (first
                     | (go_at_call 30; with_reducible exact later_of (KCA.out _))
                     | (go_at_call 30; with_reducible exact later_of (KCB.out _))))
                 refine wpQuiet_nil ?_
                 intro _ hw'
                 obtain ⟨x, rfl⟩ := hw'
                 have xx := x.ext
                 go_wp2
                 go_meet
                 exact ⟨by rw [decide_eq_true l1, decide_eq_true l2] <;> rfl, xx⟩
               · refine wp_region_later (by kernel_rfl) (by kernel_rfl) ?_
                 repeat (first
                   | (go_big_quiet_want; refine quiet_load_row 31 (.tmp 4) rfl rfl (w.heap.size + 1) rfl 31 _ (0, 0) _ (fun W hh => by obtain ⟨x, rfl⟩ := hh; exact (HX.out _ (y.trans x.ext)).2.1) Tryz.underlying31 rfl (by kernel_rfl) ?_; simp only [Act.put, List.setIfInBounds_toArray, List.set_cons_succ, List.set_cons_zero]; go_big_quiet_on)
                   | (go_big_quiet_want; refine quiet_load_row 31 (.tmp 5) rfl rfl (w.heap.size + 2) rfl 31 _ (0, 0) _ (fun W hh => by obtain ⟨x, rfl⟩ := hh; exact (HX.out _ (y.trans x.ext)).2.2) Tryz.underlying31 rfl (by kernel_rfl) ?_; simp only [Act.put, List.setIfInBounds_toArray, List.set_cons_succ, List.set_cons_zero]; go_big_quiet_on)
                   | go_big_quiet_step (first
                     | (go_at_call 30; with_reducible exact later_of (KCA.out _))
                     | (go_at_call 30; with_reducible exact later_of (KCB.out _))))
                 refine wpQuiet_nil ?_
                 intro _ hw'
                 obtain ⟨x, rfl⟩ := hw'
                 have xx := x.ext
                 go_wp2
                 go_meet
                 exact ⟨by rw [decide_eq_true l1, decide_eq_false (Int.not_lt.2 l2)] <;> rfl, xx⟩
             · refine wp_region_later (by kernel_rfl) (by kernel_rfl) ?_
               repeat (first
                 | (go_big_quiet_want; refine quiet_load_row 31 (.tmp 4) rfl rfl (w.heap.size + 1) rfl 31 _ (0, 0) _ (fun W hh => by obtain ⟨x, rfl⟩ := hh; exact (HX.out _ (y.trans x.ext)).2.1) Tryz.underlying31 rfl (by kernel_rfl) ?_; simp only [Act.put, List.setIfInBounds_toArray, List.set_cons_succ, List.set_cons_zero]; go_big_quiet_on)
                 | (go_big_quiet_want; refine quiet_load_row 31 (.tmp 5) rfl rfl (w.heap.size + 2) rfl 31 _ (0, 0) _ (fun W hh => by obtain ⟨x, rfl⟩ := hh; exact (HX.out _ (y.trans x.ext)).2.2) Tryz.underlying31 rfl (by kernel_rfl) ?_; simp only [Act.put, List.setIfInBounds_toArray, List.set_cons_succ, List.set_cons_zero]; go_big_quiet_on)
                 | go_big_quiet_step (first
                   | (go_at_call 30; with_reducible exact later_of (KCA.out _))
                   | (go_at_call 30; with_reducible exact later_of (KCB.out _))))
               refine wpQuiet_nil ?_
               intro _ hw'
               obtain ⟨x, rfl⟩ := hw'
               have xx := x.ext
               go_wp2
               go_meet
               exact ⟨by rw [decide_eq_false (Int.not_lt.2 l1)] <;> rfl, xx⟩
           | true =>
             refine wp_region_later (by kernel_rfl) (by kernel_rfl) ?_
             repeat (first
               | (go_big_quiet_want; refine quiet_load_row 31 (.tmp 4) rfl rfl (w.heap.size + 1) rfl 31 _ (0, 0) _ (fun W hh => by obtain ⟨x, rfl⟩ := hh; exact (HX.out _ (y.trans x.ext)).2.1) Tryz.underlying31 rfl (by kernel_rfl) ?_; simp only [Act.put, List.setIfInBounds_toArray, List.set_cons_succ, List.set_cons_zero]; go_big_quiet_on)
               | (go_big_quiet_want; refine quiet_load_row 31 (.tmp 5) rfl rfl (w.heap.size + 2) rfl 31 _ (0, 0) _ (fun W hh => by obtain ⟨x, rfl⟩ := hh; exact (HX.out _ (y.trans x.ext)).2.2) Tryz.underlying31 rfl (by kernel_rfl) ?_; simp only [Act.put, List.setIfInBounds_toArray, List.set_cons_succ, List.set_cons_zero]; go_big_quiet_on)
               | go_big_quiet_step (first
                 | (go_at_call 30; with_reducible exact later_of (KCA.out _))
                 | (go_at_call 30; with_reducible exact later_of (KCB.out _))))
             refine wpQuiet_nil ?_
             intro _ hw'
             obtain ⟨x, rfl⟩ := hw'
             have xx := x.ext
             go_wp2
             go_meet
             exact ⟨by simp, xx⟩
         | true =>
           cases BB with
           | false =>
             refine wp_region_later (by kernel_rfl) (by kernel_rfl) ?_
             repeat (first
               | (go_big_quiet_want; refine quiet_load_row 31 (.tmp 4) rfl rfl (w.heap.size + 1) rfl 31 _ (0, 0) _ (fun W hh => by obtain ⟨x, rfl⟩ := hh; exact (HX.out _ (y.trans x.ext)).2.1) Tryz.underlying31 rfl (by kernel_rfl) ?_; simp only [Act.put, List.setIfInBounds_toArray, List.set_cons_succ, List.set_cons_zero]; go_big_quiet_on)
               | (go_big_quiet_want; refine quiet_load_row 31 (.tmp 5) rfl rfl (w.heap.size + 2) rfl 31 _ (0, 0) _ (fun W hh => by obtain ⟨x, rfl⟩ := hh; exact (HX.out _ (y.trans x.ext)).2.2) Tryz.underlying31 rfl (by kernel_rfl) ?_; simp only [Act.put, List.setIfInBounds_toArray, List.set_cons_succ, List.set_cons_zero]; go_big_quiet_on)
               | go_big_quiet_step (first
                 | (go_at_call 30; with_reducible exact later_of (KCA.out _))
                 | (go_at_call 30; with_reducible exact later_of (KCB.out _))))
             refine wpQuiet_nil ?_
             intro _ hw'
             obtain ⟨x, rfl⟩ := hw'
             have xx := x.ext
             go_wp2
             go_meet
             exact ⟨by simp, xx⟩
           | true =>
             by_cases l1 : A.ad < wrap64 (B.ad + MB)
             · by_cases l2 : B.ad < wrap64 (A.ad + MA)
               · refine wp_region_later (by kernel_rfl) (by kernel_rfl) ?_
                 repeat (first
                   | (go_big_quiet_want; refine quiet_load_row 31 (.tmp 4) rfl rfl (w.heap.size + 1) rfl 31 _ (0, 0) _ (fun W hh => by obtain ⟨x, rfl⟩ := hh; exact (HX.out _ (y.trans x.ext)).2.1) Tryz.underlying31 rfl (by kernel_rfl) ?_; simp only [Act.put, List.setIfInBounds_toArray, List.set_cons_succ, List.set_cons_zero]; go_big_quiet_on)
                   | (go_big_quiet_want; refine quiet_load_row 31 (.tmp 5) rfl rfl (w.heap.size + 2) rfl 31 _ (0, 0) _ (fun W hh => by obtain ⟨x, rfl⟩ := hh; exact (HX.out _ (y.trans x.ext)).2.2) Tryz.underlying31 rfl (by kernel_rfl) ?_; simp only [Act.put, List.setIfInBounds_toArray, List.set_cons_succ, List.set_cons_zero]; go_big_quiet_on)
                   | go_big_quiet_step (first
                     | (go_at_call 30; with_reducible exact later_of (KCA.out _))
                     | (go_at_call 30; with_reducible exact later_of (KCB.out _))))
                 refine wpQuiet_nil ?_
                 intro _ hw'
                 obtain ⟨x, rfl⟩ := hw'
                 have xx := x.ext
                 go_wp2
                 go_meet
                 exact ⟨by rw [decide_eq_true l1, decide_eq_true l2] <;> rfl, xx⟩
               · refine wp_region_later (by kernel_rfl) (by kernel_rfl) ?_
                 repeat (first
                   | (go_big_quiet_want; refine quiet_load_row 31 (.tmp 4) rfl rfl (w.heap.size + 1) rfl 31 _ (0, 0) _ (fun W hh => by obtain ⟨x, rfl⟩ := hh; exact (HX.out _ (y.trans x.ext)).2.1) Tryz.underlying31 rfl (by kernel_rfl) ?_; simp only [Act.put, List.setIfInBounds_toArray, List.set_cons_succ, List.set_cons_zero]; go_big_quiet_on)
                   | (go_big_quiet_want; refine quiet_load_row 31 (.tmp 5) rfl rfl (w.heap.size + 2) rfl 31 _ (0, 0) _ (fun W hh => by obtain ⟨x, rfl⟩ := hh; exact (HX.out _ (y.trans x.ext)).2.2) Tryz.underlying31 rfl (by kernel_rfl) ?_; simp only [Act.put, List.setIfInBounds_toArray, List.set_cons_succ, List.set_cons_zero]; go_big_quiet_on)
                   | go_big_quiet_step (first
                     | (go_at_call 30; with_reducible exact later_of (KCA.out _))
                     | (go_at_call 30; with_reducible exact later_of (KCB.out _))))
                 refine wpQuiet_nil ?_
                 intro _ hw'
                 obtain ⟨x, rfl⟩ := hw'
                 have xx := x.ext
                 go_wp2
                 go_meet
                 exact ⟨by rw [decide_eq_true l1, decide_eq_false (Int.not_lt.2 l2)] <;> rfl, xx⟩
             · refine wp_region_later (by kernel_rfl) (by kernel_rfl) ?_
               repeat (first
                 | (go_big_quiet_want; refine quiet_load_row 31 (.tmp 4) rfl rfl (w.heap.size + 1) rfl 31 _ (0, 0) _ (fun W hh => by obtain ⟨x, rfl⟩ := hh; exact (HX.out _ (y.trans x.ext)).2.1) Tryz.underlying31 rfl (by kernel_rfl) ?_; simp only [Act.put, List.setIfInBounds_toArray, List.set_cons_succ, List.set_cons_zero]; go_big_quiet_on)
                 | (go_big_quiet_want; refine quiet_load_row 31 (.tmp 5) rfl rfl (w.heap.size + 2) rfl 31 _ (0, 0) _ (fun W hh => by obtain ⟨x, rfl⟩ := hh; exact (HX.out _ (y.trans x.ext)).2.2) Tryz.underlying31 rfl (by kernel_rfl) ?_; simp only [Act.put, List.setIfInBounds_toArray, List.set_cons_succ, List.set_cons_zero]; go_big_quiet_on)
                 | go_big_quiet_step (first
                   | (go_at_call 30; with_reducible exact later_of (KCA.out _))
                   | (go_at_call 30; with_reducible exact later_of (KCB.out _))))
               refine wpQuiet_nil ?_
               intro _ hw'
               obtain ⟨x, rfl⟩ := hw'
               have xx := x.ext
               go_wp2
               go_meet
               exact ⟨by rw [decide_eq_false (Int.not_lt.2 l1)] <;> rfl, xx⟩
       case rest =>
       obtain ⟨rfl, xc⟩ := hcut
       obtain ⟨w9, hw9⟩ : ∃ W, W = wc := ⟨_, rfl⟩
       rw [← hw9] at xc ⊢
       clear hw9
       have y := y.trans xc
       have e9 := e0.trans y
       clear p1 p2 xc e8 KCA KCB
       obtain ⟨G, hG⟩ : ∃ G, (BA == BB && (decide (A.ad < wrap64 (B.ad + MB)) && decide (B.ad < wrap64 (A.ad + MA)))) = G := ⟨_, rfl⟩
       rw [hG]
       cases G with
       | true =>
         clear hG
         go_wp2_with (first
           | (go_at_call 11; refine (HSU.out _).mono ?_; rintro e w8 ⟨rfl, x8⟩; have y := y.trans x8))
         go_ret
         exact ⟨rfl, e0.trans y⟩
       | false =>
         have HG := Lib.hid hG
         clear hG
         obtain ⟨s1, s2, s3⟩ := HX.out _ y
         go_upto_region 8 with (first
           | (refine wpList_load_row rfl 29 (.tmp 3) rfl (w.heap.size) rfl 29 _ (0, 0) _ s1 Tryz.underlying29 rfl (by kernel_rfl) ?_)
           | (refine wpList_load_row rfl 31 (.tmp 4) rfl (w.heap.size + 1) rfl 31 _ (0, 0) _ s2 Tryz.underlying31 rfl (by kernel_rfl) ?_)
           | (go_at_call 12; refine (KD1.out _ e9).mono ?_; rintro e wa ⟨V1, X1, rfl, hF1, -, xa⟩; have r7 := toldFT wa #[.int .i64 0, .int .i64 0, .int .i64 0, .int .i64 0, .int .i64 0, .int .i64 0, .int .i64 0, .int .i64 0, .int .i64 0, .int .i64 0, .slice none 0 0, .slice none 0 0, .slice none 0 0, .slice none 0 0] (filC V1 (dooF F A)) #[.int .i64 0, .int .i64 0, .int .i64 0, .int .i64 0, .int .i64 0, .int .i64 0, .int .i64 0, .slice none 0 0, .slice none 0 0] (telC X1 (dooT F A)) 29 37)
           | (refine wpList_store_row rfl 29 (.tmp 10) (.tmp 84) rfl wa.heap.size _ rfl rfl 29 _ r7.2.2.2.1 (by kernel_rfl) rfl (by simp [filC, Value.oneCell']) ?_)
           | (refine wpList_store_row rfl 37 (.tmp 11) (.tmp 85) rfl (wa.heap.size + 1) _ rfl rfl 37 _ r7.2.2.2.2 (by kernel_rfl) rfl (by simp [telC, Value.oneCell']) ?_))
         obtain ⟨W1, hW1, z7, g7, h7⟩ : ∃ W, W = ((((wa.alloc (.cells #[.int .i64 0, .int .i64 0, .int .i64 0, .int .i64 0, .int .i64 0, .int .i64 0, .int .i64 0, .int .i64 0, .int .i64 0, .int .i64 0, .slice none 0 0, .slice none 0 0, .slice none 0 0, .slice none 0 0] 29)).alloc (.cells #[.int .i64 0, .int .i64 0, .int .i64 0, .int .i64 0, .int .i64 0, .int .i64 0, .int .i64 0, .slice none 0 0, .slice none 0 0] 37)).setRow wa.heap.size (filC V1 (dooF F A))).setRow (wa.heap.size + 1) (telC X1 (dooT F A))) ∧ Ext wa W ∧ W.heap[wa.heap.size]? = some (.cells (filC V1 (dooF F A)) 29 (0, 0)) ∧ W.heap[wa.heap.size + 1]? = some (.cells (telC X1 (dooT F A)) 37 (0, 0)) := ⟨_, rfl, r7.1, r7.2.1, r7.2.2.1⟩
         rw [← hW1]
         clear hW1 r7
         generalize wa.heap.size = G7 at g7 h7 ⊢
         have hF1 := hF1.ext z7
         have y := y.trans (xa.trans z7)
         have e1 := e0.trans y
         clear s1 s2 s3 xa z7 e9 KD1
         obtain ⟨s1, s2, s3⟩ := HX.out _ y
         go_upto_region 9 with (first
           | (refine wpList_load_row rfl 29 (.tmp 3) rfl (w.heap.size) rfl 29 _ (0, 0) _ s1 Tryz.underlying29 rfl (by kernel_rfl) ?_)
           | (refine wpList_load_row rfl 31 (.tmp 5) rfl (w.heap.size + 2) rfl 31 _ (0, 0) _ s3 Tryz.underlying31 rfl (by kernel_rfl) ?_)
           | (go_at_call 12; refine (KD2.out _ e1).mono ?_; rintro e wb ⟨V2, X2, rfl, hF2, -, xb⟩; have r8 := toldFT wb #[.int .i64 0, .int .i64 0, .int .i64 0, .int .i64 0, .int .i64 0, .int .i64 0, .int .i64 0, .int .i64 0, .int .i64 0, .int .i64 0, .slice none 0 0, .slice none 0 0, .slice none 0 0, .slice none 0 0] (filC V2 (dooF F B)) #[.int .i64 0, .int .i64 0, .int .i64 0, .int .i64 0, .int .i64 0, .int .i64 0, .int .i64 0, .slice none 0 0, .slice none 0 0] (telC X2 (dooT F B)) 29 37)
           | (refine wpList_store_row rfl 29 (.tmp 13) (.tmp 91) rfl wb.heap.size _ rfl rfl 29 _ r8.2.2.2.1 (by kernel_rfl) rfl (by simp [filC, Value.oneCell']) ?_)
           | (refine wpList_store_row rfl 37 (.tmp 14) (.tmp 92) rfl (wb.heap.size + 1) _ rfl rfl 37 _ r8.2.2.2.2 (by kernel_rfl) rfl (by simp [telC, Value.oneCell']) ?_))
         obtain ⟨W2, hW2, z8, g8, h8⟩ : ∃ W, W = ((((wb.alloc (.cells #[.int .i64 0, .int .i64 0, .int .i64 0, .int .i64 0, .int .i64 0, .int .i64 0, .int .i64 0, .int .i64 0, .int .i64 0, .int .i64 0, .slice none 0 0, .slice none 0 0, .slice none 0 0, .slice none 0 0] 29)).alloc (.cells #[.int .i64 0, .int .i64 0, .int .i64 0, .int .i64 0, .int .i64 0, .int .i64 0, .int .i64 0, .slice none 0 0, .slice none 0 0] 37)).setRow wb.heap.size (filC V2 (dooF F B))).setRow (wb.heap.size + 1) (telC X2 (dooT F B))) ∧ Ext wb W ∧ W.heap[wb.heap.size]? = some (.cells (filC V2 (dooF F B)) 29 (0, 0)) ∧ W.heap[wb.heap.size + 1]? = some (.cells (telC X2 (dooT F B)) 37 (0, 0)) := ⟨_, rfl, r8.1, r8.2.1, r8.2.2.1⟩
         rw [← hW2]
         clear hW2 r8
         generalize wb.heap.size = G8 at g8 h8 ⊢
         have hF2 := hF2.ext z8
         have x2 := xb.trans z8
         have hF1 := hF1.ext x2
         have g7 := x2.block g7
         have h7 := x2.block h7
         have y := y.trans x2
         have e2 := e0.trans y
         clear s1 s2 s3 xb z8 x2 e1 KD2
         cases oka : okB F A with
         | false =>
           obtain ⟨-, o2, -, -⟩ := okB_no oka
           rw [o2]
           clear oka o2 g7 h7 g8 h8 hF1 hF2
           go_wp2_with (first
             | (go_at_call 11; refine (HSU.out _).mono ?_; rintro e w8 ⟨rfl, x8⟩; have y := y.trans x8))
           go_ret
           exact ⟨rfl, e0.trans y⟩
         | true =>
           obtain ⟨hr, hqa, -, o2, o3, o4⟩ := okB_yes oka
           rw [o3] at g7 hF1
           rw [o4] at h7
           rw [o2]
           cases okb : okB F B with
           | false =>
             obtain ⟨-, v2, -, -⟩ := okB_no okb
             rw [v2]
             clear oka okb o2 v2 o3 o4 hr hqa g7 h7 g8 h8 hF1 hF2
             go_wp2_with (first
               | (go_at_call 11; refine (HSU.out _).mono ?_; rintro e w8 ⟨rfl, x8⟩; have y := y.trans x8))
             go_ret
             exact ⟨rfl, e0.trans y⟩
           | true =>
             obtain ⟨-, hqb, -, v2, v3, v4⟩ := okB_yes okb
             rw [v3] at g8 hF2
             rw [v4] at h8
             rw [v2]
             have af := ask_facts hqa
             have bf := ask_facts hqb
             have hsw : datF (datF F A) B = datF (datF F B) A := dat_swap hqa hqb hr HWA.out HWB.out (fun hh => by
               intro hl
               have hg := HG.out
               rw [HBA.out, HBB.out] at hh
               have u1 := af.ad
               have u2 := bf.ad
               have u3 := ct_max af
               have u4 := ct_max bf
               rw [HMA.out] at u3
               rw [HMB.out] at u4
               rw [HMA.out, HMB.out] at hl
               have r1 : wrap64 (B.ad + MB) = B.ad + MB := by unfold wrap64; omega
               have r2 : wrap64 (A.ad + MA) = A.ad + MA := by unfold wrap64; omega
               rw [r1, r2, hh, decide_eq_true hl.1, decide_eq_true hl.2] at hg
               cases BB <;> exact absurd hg (by decide))
             obtain ⟨pa, -, ea⟩ := dat_right hqa hr
             obtain ⟨pb, -, eb⟩ := dat_right hqb hr
             have okc : okB (datF F A) B = true := by unfold okB; rw [pa, hqb]; rfl
             have okd : okB (datF F B) A = true := by unfold okB; rw [pb, hqa]; rfl
             obtain ⟨-, -, -, t2, t3, t4⟩ := okB_yes okc
             obtain ⟨-, -, -, u2, u3, u4⟩ := okB_yes okd
             have GSA := dat_small (F := F) hqa hr
             have GSB := dat_small (F := F) hqb hr
             have GSC := dat_small (F := datF F A) hqb pa
             have HWFA := dat_w hqa hr HFW.out HKA.out.wR
             have HWFB := dat_w hqb hr HFW.out HKB.out.wR
             have KD3 : Hid (∀ W, Ext W2 W → Calls Tryz.prog 12 #[.agg (filC V1 (datF F A)), .agg (qstC T B)] W fun e w' => ∃ V' X, e = .returned (.tuple #[.agg (filC V' (datF (datF F B) A)), .agg (telC X (datT (datF F A) B)), .int .i64 0]) ∧ FilAt w' V' (datF (datF F B) A) ∧ TelAt w' X (datT (datF F A) B) ∧ Ext W w') := Lib.hid (fun W x => (HDo.out V1 (datF F A) T B W (hF1.ext x) HWFA GSA (HQB.out.ext (e2.trans x)) HKB.out HN.out.2.1 HN.out.2.2).mono fun e w' hh => by rw [t2, t3, t4, hsw] at hh; exact hh)
             have KD4 : Hid (∀ W, Ext W2 W → Calls Tryz.prog 12 #[.agg (filC V2 (datF F B)), .agg (qstC U A)] W fun e w' => ∃ V' X, e = .returned (.tuple #[.agg (filC V' (datF (datF F B) A)), .agg (telC X (datT (datF F B) A)), .int .i64 0]) ∧ FilAt w' V' (datF (datF F B) A) ∧ TelAt w' X (datT (datF F B) A) ∧ Ext W w') := Lib.hid (fun W x => (HDo.out V2 (datF F B) U A W (hF2.ext x) HWFB GSB (HQA.out.ext (e2.trans x)) HKA.out HN.out.1.1 HN.out.1.2).mono fun e w' hh => by rw [u2, u3, u4] at hh; exact hh)
             rw [hsw] at GSC
             have j7 : (datT F A).cd = datE F A := datT_cd17 F A
             have j8 : (datT F B).cd = datE F B := datT_cd17 F B
             have j11 : (datT (datF F A) B).cd = datE F B := (datT_cd17 _ _).trans (ea B)
             have j12 : (datT (datF F B) A).cd = datE F A := (datT_cd17 _ _).trans (eb A)
             have HJ := Lib.hid (And.intro (And.intro j7 j8) (And.intro j11 j12))
             clear oka okb o2 o3 o4 v2 v3 v4 hr hqa hqb af bf hsw pa pb ea eb okc okd t2 t3 t4 u2 u3 u4 GSA GSB HWFA HWFB j7 j8 j11 j12 hF1 hF2
             obtain ⟨s1, s2, s3⟩ := HX.out _ y
             go_upto_region 12 with (first
               | (refine wpList_load_row rfl 29 (.tmp 10) rfl (G7) rfl 29 _ (0, 0) _ g7 Tryz.underlying29 rfl (by kernel_rfl) ?_)
               | (refine wpList_load_row rfl 31 (.tmp 5) rfl (w.heap.size + 2) rfl 31 _ (0, 0) _ s3 Tryz.underlying31 rfl (by kernel_rfl) ?_)
               | (go_at_call 12; refine (KD3.out _ (Ext.refl _)).mono ?_; rintro e w11 ⟨V3, X3, rfl, hF3, -, xc⟩; have r11 := toldFT w11 #[.int .i64 0, .int .i64 0, .int .i64 0, .int .i64 0, .int .i64 0, .int .i64 0, .int .i64 0, .int .i64 0, .int .i64 0, .int .i64 0, .slice none 0 0, .slice none 0 0, .slice none 0 0, .slice none 0 0] (filC V3 (datF (datF F B) A)) #[.int .i64 0, .int .i64 0, .int .i64 0, .int .i64 0, .int .i64 0, .int .i64 0, .int .i64 0, .slice none 0 0, .slice none 0 0] (telC X3 (datT (datF F A) B)) 29 37)
               | (refine wpList_store_row rfl 29 (.tmp 16) (.tmp 105) rfl w11.heap.size _ rfl rfl 29 _ r11.2.2.2.1 (by kernel_rfl) rfl (by simp [filC, Value.oneCell']) ?_)
               | (refine wpList_store_row rfl 37 (.tmp 17) (.tmp 106) rfl (w11.heap.size + 1) _ rfl rfl 37 _ r11.2.2.2.2 (by kernel_rfl) rfl (by simp [telC, Value.oneCell']) ?_))
             obtain ⟨W3, hW3, z11, g11, h11⟩ : ∃ W, W = ((((w11.alloc (.cells #[.int .i64 0, .int .i64 0, .int .i64 0, .int .i64 0, .int .i64 0, .int .i64 0, .int .i64 0, .int .i64 0, .int .i64 0, .int .i64 0, .slice none 0 0, .slice none 0 0, .slice none 0 0, .slice none 0 0] 29)).alloc (.cells #[.int .i64 0, .int .i64 0, .int .i64 0, .int .i64 0, .int .i64 0, .int .i64 0, .int .i64 0, .slice none 0 0, .slice none 0 0] 37)).setRow w11.heap.size (filC V3 (datF (datF F B) A))).setRow (w11.heap.size + 1) (telC X3 (datT (datF F A) B))) ∧ Ext w11 W ∧ W.heap[w11.heap.size]? = some (.cells (filC V3 (datF (datF F B) A)) 29 (0, 0)) ∧ W.heap[w11.heap.size + 1]? = some (.cells (telC X3 (datT (datF F A) B)) 37 (0, 0)) := ⟨_, rfl, r11.1, r11.2.1, r11.2.2.1⟩
             rw [← hW3]
             clear hW3 r11
             generalize w11.heap.size = G11 at g11 h11 ⊢
             have hF3 := hF3.ext z11
             have x3 := xc.trans z11
             have g8 := x3.block g8
             have h8 := x3.block h8
             have h7 := x3.block h7
             have y := y.trans x3
             clear s1 s2 s3 xc z11 KD3 g7
             obtain ⟨s1, s2, s3⟩ := HX.out _ y
             go_upto_region 13 with (first
               | (refine wpList_load_row rfl 29 (.tmp 13) rfl (G8) rfl 29 _ (0, 0) _ g8 Tryz.underlying29 rfl (by kernel_rfl) ?_)
               | (refine wpList_load_row rfl 31 (.tmp 4) rfl (w.heap.size + 1) rfl 31 _ (0, 0) _ s2 Tryz.underlying31 rfl (by kernel_rfl) ?_)
               | (go_at_call 12; refine (KD4.out _ x3).mono ?_; rintro e w12 ⟨V4, X4, rfl, hF4, -, xd⟩; have r12 := toldFT w12 #[.int .i64 0, .int .i64 0, .int .i64 0, .int .i64 0, .int .i64 0, .int .i64 0, .int .i64 0, .int .i64 0, .int .i64 0, .int .i64 0, .slice none 0 0, .slice none 0 0, .slice none 0 0, .slice none 0 0] (filC V4 (datF (datF F B) A)) #[.int .i64 0, .int .i64 0, .int .i64 0, .int .i64 0, .int .i64 0, .int .i64 0, .int .i64 0, .slice none 0 0, .slice none 0 0] (telC X4 (datT (datF F B) A)) 29 37)
               | (refine wpList_store_row rfl 29 (.tmp 19) (.tmp 112) rfl w12.heap.size _ rfl rfl 29 _ r12.2.2.2.1 (by kernel_rfl) rfl (by simp [filC, Value.oneCell']) ?_)
               | (refine wpList_store_row rfl 37 (.tmp 20) (.tmp 113) rfl (w12.heap.size + 1) _ rfl rfl 37 _ r12.2.2.2.2 (by kernel_rfl) rfl (by simp [telC, Value.oneCell']) ?_))
             obtain ⟨W4, hW4, z12, g12, h12⟩ : ∃ W, W = ((((w12.alloc (.cells #[.int .i64 0, .int .i64 0, .int .i64 0, .int .i64 0, .int .i64 0, .int .i64 0, .int .i64 0, .int .i64 0, .int .i64 0, .int .i64 0, .slice none 0 0, .slice none 0 0, .slice none 0 0, .slice none 0 0] 29)).alloc (.cells #[.int .i64 0, .int .i64 0, .int .i64 0, .int .i64 0, .int .i64 0, .int .i64 0, .int .i64 0, .slice none 0 0, .slice none 0 0] 37)).setRow w12.heap.size (filC V4 (datF (datF F B) A))).setRow (w12.heap.size + 1) (telC X4 (datT (datF F B) A))) ∧ Ext w12 W ∧ W.heap[w12.heap.size]? = some (.cells (filC V4 (datF (datF F B) A)) 29 (0, 0)) ∧ W.heap[w12.heap.size + 1]? = some (.cells (telC X4 (datT (datF F B) A)) 37 (0, 0)) := ⟨_, rfl, r12.1, r12.2.1, r12.2.2.1⟩
             rw [← hW4]
             clear hW4 r12
             generalize w12.heap.size = G12 at g12 h12 ⊢
             have hF4 := hF4.ext z12
             have x4 := xd.trans z12
             have hF3 := hF3.ext x4
             have h7 := x4.block h7
             have h8 := x4.block h8
             have g11 := x4.block g11
             have h11 := x4.block h11
             have y := y.trans x4
             clear s1 s2 s3 xd z12 KD4 g8 x3 x4
             obtain ⟨⟨j7, j8⟩, j11, j12⟩ := HJ.out
             go_wp2_with (first
               | (refine wpList_load_row_g (by rfl) 29 (.tmp 16) rfl (G11) rfl 29 _ (0, 0) _ g11 Tryz.underlying29 rfl (by kernel_rfl) ?_)
               | (refine wpList_load_row_g (by rfl) 29 (.tmp 19) rfl (G12) rfl 29 _ (0, 0) _ g12 Tryz.underlying29 rfl (by kernel_rfl) ?_)
               | (go_at_call 27; refine (HSa.out V3 _ V4 _ _ hF3 hF4 GSC GSC).mono ?_; rintro e ws ⟨rfl, xs⟩; rw [sameF_self]; have y := y.trans xs; have r7 : ws.cell? ⟨G7 + 1, 1, none⟩ = some (.int .i64 (datE F A)) := num_cell j7 (cell_of_heap (xs.block h7) rfl); have r8 : ws.cell? ⟨G8 + 1, 1, none⟩ = some (.int .i64 (datE F B)) := num_cell j8 (cell_of_heap (xs.block h8) rfl); have r11 : ws.cell? ⟨G11 + 1, 1, none⟩ = some (.int .i64 (datE F B)) := num_cell j11 (cell_of_heap (xs.block h11) rfl); have r12 : ws.cell? ⟨G12 + 1, 1, none⟩ = some (.int .i64 (datE F A)) := num_cell j12 (cell_of_heap (xs.block h12) rfl); clear h7 h8 h11 h12 g11 g12 j7 j8 j11 j12 hF3 hF4 GSC; generalize datE F A = EA at r7 r12; generalize datE F B = EB at r8 r11)
               | (go_at_call 11; refine (HSU.out _).mono ?_; rintro e w8 ⟨rfl, x8⟩; have y := y.trans x8))
             go_ret
             exact ⟨rfl, e0.trans y⟩
end Go.Proofs.YtlafnobjfajamaaGreat
