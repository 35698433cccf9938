/-
  CONTRACTS: bilgeref14 (layer 14): two files held against one another; how many cells.
-/
import Derived.Test.YtkfpnijacfeogaaFilR
namespace Go.Proofs.Ytkfpnijacfeogaa
open Go.RowKit
set_option linter.unusedVariables false

theorem weqInD (d : Nat) (f c g e : Int) (w : World) : (Op.equalIn (d + 1 + 1) 23 (.agg #[.int .i64 f, .int .i64 c]) (.agg #[.int .i64 g, .int .i64 e])).run Try.prog w = .ok (eqW f c g e) w := by
  rw [run_equalIn_struct w (d + 1) _ _ _ (by kernel_rfl) (by kernel_rfl)]
  have hi := Try.underlying3
  simp [Program.fieldsOf, Try.underlying23, Op.eqFields, go_sem, hi]
  by_cases h1 : f = g
  · by_cases h2 : c = e
    · rw [if_pos h1, if_pos h2, (eqW_iff f c g e).2 ⟨h1, h2⟩]
    · rw [if_pos h1, if_neg h2, show eqW f c g e = false from decide_eq_false fun k => h2 k.2]
  · rw [if_neg h1, show eqW f c g e = false from decide_eq_false fun k => h1 k.1]
theorem beqg (op : BinOp) (x y : Operand) (xs ys : Array Value) (w : World) : (eqGuard op 25 x y (.agg xs) (.agg ys)).run Try.prog w = .ok () w :=
  run_eqGuard_agg w op _ x y xs ys (by kernel_rfl)
set_option maxHeartbeats 1000000 in
theorem beqIn (F G : Fil) (w : World) : (Op.equalIn 10000 25 (.agg (bnkC F)) (.agg (bnkC G))).run Try.prog w = .ok (sbankB F G) w := by
  rw [run_equalIn_struct w 9999 _ _ _ (by kernel_rfl) (by kernel_rfl)]
  have hw := fun f c g e w => weqInD 9997 f c g e w
  simp only [show 9997 + 1 + 1 = 9999 from rfl] at hw
  unfold sbankB bnkC
  simp [Program.fieldsOf, Try.underlying25, Op.eqFields, go_sem, hw]
  generalize eqW F.cf F.cc G.cf G.cc = a
  generalize eqW F.jf F.jc G.jf G.jc = b
  generalize eqW F.hf F.hc G.hf G.hc = c
  generalize eqW F.rf F.rc G.rf G.rc = d
  generalize eqW F.bf F.bc G.bf G.bc = e
  cases a <;> cases b <;> cases c <;> cases d <;> cases e <;> rfl
theorem beql_v {F G : Fil} {B : Bool} (h : sbankB F G = B) (w : World) : (binOp .eql 25 (.agg (bnkC F)) (.agg (bnkC G))).run Try.prog w = .ok (.bool B) w := by
  rw [run_eql_struct, beqIn, h]; rfl
theorem bneq_v {F G : Fil} {B : Bool} (h : (!sbankB F G) = B) (w : World) : (binOp .neq 25 (.agg (bnkC F)) (.agg (bnkC G))).run Try.prog w = .ok (.bool B) w := by
  rw [run_neq_struct, beqIn, ← h]; rfl
set_option maxRecDepth 100000 in
set_option maxHeartbeats 4000000 in
theorem rsame14_any (V : FilV) (F : Fil) (U : FilV) (G : Fil) (w : World) (h : FilAt w V F) (k : FilAt w U G) (hF : F.nC ≤ 1000000 ∧ F.nI ≤ 1000000 ∧ F.nH ≤ 1000000 ∧ F.nR ≤ 1000000) (hG : G.nC ≤ 1000000 ∧ G.nI ≤ 1000000 ∧ G.nH ≤ 1000000 ∧ G.nR ≤ 1000000) :
    Calls Try.prog 10 #[.agg (filC V F), .agg (filC U G)] w fun e w' => e = .returned (.bool (sameF F G)) ∧ Ext w w' := by
  have e0 := (Ext.alloc w (.cells (filC V F) 31)).trans (Ext.alloc _ (.cells (filC U G) 31))
  have gX := fun w1 (x1 : Ext ((w.alloc (.cells (filC V F) 31)).alloc (.cells (filC U G) 31)) w1) => (⟨x1.block (two_boxes w _ _ _ _).1, x1.block (two_boxes w _ _ _ _).2⟩ : w1.heap[w.heap.size]? = some (.cells (filC V F) 31 (0, 0)) ∧ w1.heap[w.heap.size + 1]? = some (.cells (filC U G) 31 (0, 0)))
  have HX := Lib.hid gX
  clear gX
  have hg := fun x y xs ys w => beqg .eql x y xs ys w
  have K1 := Lib.hid (fun w' (hx : Ext w w') => (same_any V.a1 U.a1 F.nC G.nC V.d1 U.d1 F.C G.C w' (h.h1.ext hx) (k.h1.ext hx) hF.1 hG.1).mono fun _ _ h => (⟨h.1, Ext.of_drewN h.2⟩ : _ ∧ Ext w' _))
  have K2 := Lib.hid (fun w' (hx : Ext w w') => (same_any V.a2 U.a2 F.nI G.nI V.d2 U.d2 F.I G.I w' (h.h2.ext hx) (k.h2.ext hx) hF.2.1 hG.2.1).mono fun _ _ h => (⟨h.1, Ext.of_drewN h.2⟩ : _ ∧ Ext w' _))
  have K3 := Lib.hid (fun w' (hx : Ext w w') => (words_any V.a3 U.a3 F.nH G.nH V.d3 U.d3 F.H G.H w' (h.h3.ext hx) (k.h3.ext hx) hF.2.2.1 hG.2.2.1).mono fun _ _ h => (⟨h.1, Ext.of_drewN h.2⟩ : _ ∧ Ext w' _))
  have K4 := Lib.hid (fun w' (hx : Ext w w') => (words_any V.a4 U.a4 F.nR G.nR V.d4 U.d4 F.R G.R w' (h.h4.ext hx) (k.h4.ext hx) hF.2.2.2 hG.2.2.2).mono fun _ _ h => (⟨h.1, Ext.of_drewN h.2⟩ : _ ∧ Ext w' _))
  clear h k hF hG
  unfold sameF
  generalize eqG F.nC G.nC F.C G.C = B1 at K1 ⊢
  generalize eqG F.nI G.nI F.I G.I = B2 at K2 ⊢
  generalize eqB F.nH G.nH F.H G.H = B3 at K3 ⊢
  generalize eqB F.nR G.nR F.R G.R = B4 at K4 ⊢
  cases hs : sbankB F G with
  | false =>
    simp only [Bool.false_and]
    have hb := fun w => beql_v hs w
    clear hs
    unfold bnkC at hb
    unfold filC at e0 HX ⊢
    go_enter Try.func10, Try.ntmps10
    go_wp2
    go_ret
    exact ⟨rfl, e0⟩
  | true =>
    cases B1 with
    | false =>
      simp only [Bool.false_and, Bool.and_false]
      have hb := fun w => beql_v hs w
      clear hs
      unfold bnkC at hb
      unfold filC at e0 HX ⊢
      go_enter Try.func10, Try.ntmps10
      go_wp2_with fail
      refine (K1.out _ e0).mono ?_; rintro e w1 ⟨rfl, x1⟩
      have e1 := e0.trans x1
      have z1 := x1
      obtain ⟨gF, gG⟩ := HX.out _ z1
      have p1 := cell_of_heap (j := 11) gF rfl; have q1 := cell_of_heap (j := 11) gG rfl
      clear gF gG
      clear x1 e0
      go_wp2
      go_ret
      exact ⟨rfl, e1⟩
    | true =>
      cases B2 with
      | false =>
        simp only [Bool.false_and, Bool.and_false, Bool.and_true]
        have hb := fun w => beql_v hs w
        clear hs
        unfold bnkC at hb
        unfold filC at e0 HX ⊢
        go_enter Try.func10, Try.ntmps10
        go_wp2_with fail
        refine (K1.out _ e0).mono ?_; rintro e w1 ⟨rfl, x1⟩
        have e1 := e0.trans x1
        have z1 := x1
        obtain ⟨gF, gG⟩ := HX.out _ z1
        have p1 := cell_of_heap (j := 11) gF rfl; have q1 := cell_of_heap (j := 11) gG rfl
        clear gF gG
        clear x1 e0
        go_wp2_with fail
        refine (K2.out _ e1).mono ?_; rintro e w2 ⟨rfl, x2⟩
        have e2 := e1.trans x2
        have z2 := z1.trans x2
        obtain ⟨gF, gG⟩ := HX.out _ z2
        have p2 := cell_of_heap (j := 12) gF rfl; have q2 := cell_of_heap (j := 12) gG rfl
        clear gF gG
        clear x2 p1 q1 z1 e1
        go_wp2
        go_ret
        exact ⟨rfl, e2⟩
      | true =>
        cases B3 with
        | false =>
          simp only [Bool.false_and, Bool.and_false, Bool.and_true]
          have hb := fun w => beql_v hs w
          clear hs
          unfold bnkC at hb
          unfold filC at e0 HX ⊢
          go_enter Try.func10, Try.ntmps10
          go_wp2_with fail
          refine (K1.out _ e0).mono ?_; rintro e w1 ⟨rfl, x1⟩
          have e1 := e0.trans x1
          have z1 := x1
          obtain ⟨gF, gG⟩ := HX.out _ z1
          have p1 := cell_of_heap (j := 11) gF rfl; have q1 := cell_of_heap (j := 11) gG rfl
          clear gF gG
          clear x1 e0
          go_wp2_with fail
          refine (K2.out _ e1).mono ?_; rintro e w2 ⟨rfl, x2⟩
          have e2 := e1.trans x2
          have z2 := z1.trans x2
          obtain ⟨gF, gG⟩ := HX.out _ z2
          have p2 := cell_of_heap (j := 12) gF rfl; have q2 := cell_of_heap (j := 12) gG rfl
          clear gF gG
          clear x2 p1 q1 z1 e1
          go_wp2_with fail
          refine (K3.out _ e2).mono ?_; rintro e w3 ⟨rfl, x3⟩
          have e3 := e2.trans x3
          have z3 := z2.trans x3
          obtain ⟨gF, gG⟩ := HX.out _ z3
          have p3 := cell_of_heap (j := 13) gF rfl; have q3 := cell_of_heap (j := 13) gG rfl
          clear gF gG
          clear x3 p2 q2 z2 e2
          go_wp2
          go_ret
          exact ⟨rfl, e3⟩
        | true =>
          cases B4 with
          | false =>
            simp only [Bool.and_false, Bool.and_true]
            have hb := fun w => beql_v hs w
            clear hs
            unfold bnkC at hb
            unfold filC at e0 HX ⊢
            go_enter Try.func10, Try.ntmps10
            go_wp2_with fail
            refine (K1.out _ e0).mono ?_; rintro e w1 ⟨rfl, x1⟩
            have e1 := e0.trans x1
            have z1 := x1
            obtain ⟨gF, gG⟩ := HX.out _ z1
            have p1 := cell_of_heap (j := 11) gF rfl; have q1 := cell_of_heap (j := 11) gG rfl
            clear gF gG
            clear x1 e0
            go_wp2_with fail
            refine (K2.out _ e1).mono ?_; rintro e w2 ⟨rfl, x2⟩
            have e2 := e1.trans x2
            have z2 := z1.trans x2
            obtain ⟨gF, gG⟩ := HX.out _ z2
            have p2 := cell_of_heap (j := 12) gF rfl; have q2 := cell_of_heap (j := 12) gG rfl
            clear gF gG
            clear x2 p1 q1 z1 e1
            go_wp2_with fail
            refine (K3.out _ e2).mono ?_; rintro e w3 ⟨rfl, x3⟩
            have e3 := e2.trans x3
            have z3 := z2.trans x3
            obtain ⟨gF, gG⟩ := HX.out _ z3
            have p3 := cell_of_heap (j := 13) gF rfl; have q3 := cell_of_heap (j := 13) gG rfl
            clear gF gG
            clear x3 p2 q2 z2 e2
            go_wp2_with fail
            refine (K4.out _ e3).mono ?_; rintro e w4 ⟨rfl, x4⟩
            have e4 := e3.trans x4
            have z4 := z3.trans x4
            clear x4 p3 q3 z3 e3
            go_wp2
            go_ret
            exact ⟨rfl, e4⟩
          | true =>
            simp only [Bool.true_and]
            have hb := fun w => beql_v hs w
            clear hs
            unfold bnkC at hb
            unfold filC at e0 HX ⊢
            go_enter Try.func10, Try.ntmps10
            go_wp2_with fail
            refine (K1.out _ e0).mono ?_; rintro e w1 ⟨rfl, x1⟩
            have e1 := e0.trans x1
            have z1 := x1
            obtain ⟨gF, gG⟩ := HX.out _ z1
            have p1 := cell_of_heap (j := 11) gF rfl; have q1 := cell_of_heap (j := 11) gG rfl
            clear gF gG
            clear x1 e0
            go_wp2_with fail
            refine (K2.out _ e1).mono ?_; rintro e w2 ⟨rfl, x2⟩
            have e2 := e1.trans x2
            have z2 := z1.trans x2
            obtain ⟨gF, gG⟩ := HX.out _ z2
            have p2 := cell_of_heap (j := 12) gF rfl; have q2 := cell_of_heap (j := 12) gG rfl
            clear gF gG
            clear x2 p1 q1 z1 e1
            go_wp2_with fail
            refine (K3.out _ e2).mono ?_; rintro e w3 ⟨rfl, x3⟩
            have e3 := e2.trans x3
            have z3 := z2.trans x3
            obtain ⟨gF, gG⟩ := HX.out _ z3
            have p3 := cell_of_heap (j := 13) gF rfl; have q3 := cell_of_heap (j := 13) gG rfl
            clear gF gG
            clear x3 p2 q2 z2 e2
            go_wp2_with fail
            refine (K4.out _ e3).mono ?_; rintro e w4 ⟨rfl, x4⟩
            have e4 := e3.trans x4
            have z4 := z3.trans x4
            clear x4 p3 q3 z3 e3
            go_wp2
            go_ret
            exact ⟨rfl, e4⟩
theorem rsame14_v {V : FilV} {F : Fil} {U : FilV} {G : Fil} {B : Bool} (hB : sameF F G = B) (w : World) (h : FilAt w V F) (k : FilAt w U G) (hF : F.nC ≤ 1000000 ∧ F.nI ≤ 1000000 ∧ F.nH ≤ 1000000 ∧ F.nR ≤ 1000000) (hG : G.nC ≤ 1000000 ∧ G.nI ≤ 1000000 ∧ G.nH ≤ 1000000 ∧ G.nR ≤ 1000000) :
    Calls Try.prog 10 #[.agg (filC V F), .agg (filC U G)] w fun e w' => e = .returned (.bool B) ∧ Ext w w' := hB ▸ rsame14_any V F U G w h k hF hG
set_option maxHeartbeats 1000000 in
theorem rfew14_any (V : FilV) (F : Fil) (w : World) (h1 : F.nC ≤ 1000000000000000) (h2 : F.nI ≤ 1000000000000000) (h3 : F.nH ≤ 1000000000000000) (h4 : F.nR ≤ 1000000000000000) :
    Calls Try.prog 12 #[.agg (filC V F)] w fun e w' => e = .returned (.bool (decide (F.nC + F.nI + F.nH + F.nR ≤ 4000))) ∧ Ext w w' := by
  have e0 := Ext.alloc w (.cells (filC V F) 31)
  have i1 : (F.nC : Int) ≤ 1000000000000000 := by omega
  have i2 : (F.nI : Int) ≤ 1000000000000000 := by omega
  have i3 : (F.nH : Int) ≤ 1000000000000000 := by omega
  have i4 : (F.nR : Int) ≤ 1000000000000000 := by omega
  clear h1 h2 h3 h4
  unfold filC at e0 ⊢
  generalize F.nC = n1 at *
  generalize F.nI = n2 at *
  generalize F.nH = n3 at *
  generalize F.nR = n4 at *
  have hd : decide ((n1 : Int) + n2 + n3 + n4 ≤ 4000) = decide (n1 + n2 + n3 + n4 ≤ 4000) := by
    rw [Bool.eq_iff_iff, decide_eq_true_iff, decide_eq_true_iff]; omega
  have HD := Lib.hid hd
  clear hd
  go_enter Try.func12, Try.ntmps12
  go_wp2
  go_ret
  exact ⟨ret_b HD.out, e0⟩
end Go.Proofs.Ytkfpnijacfeogaa
