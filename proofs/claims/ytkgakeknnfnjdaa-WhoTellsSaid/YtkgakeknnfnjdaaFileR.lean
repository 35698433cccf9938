/-
  CONTRACTS: bilgeref14 (layer 14).
  CONTRACTS: bilgeref14 (layer 14): what is read, and written.
  CONTRACTS: bilgeref14 (layer 14): what is written.
  CONTRACTS: bilgeref14 (layer 14): holding registers written; inputs measured.
  CONTRACTS: bilgeref14 (layer 14): two files held against one another; how many cells.
-/
import Derived.Test.YtkgakeknnfnjdaaFil
import Derived.Test.YtkgakeknnfnjdaaBitsA
import Derived.Test.YtkgakeknnfnjdaaSame
import Derived.Test.YtkgakeknnfnjdaaStructs
import Derived.Laws.CopyOwn
namespace Go.Proofs.Ytkgakeknnfnjdaa
open Go.RowKit
set_option linter.unusedVariables false

set_option maxHeartbeats 2000000 in
theorem rbank_v {F : Fil} {B : Bool} (h : bankB F = B) (w : World) : Calls Try.prog 31 #[.agg (bnkC F)] w fun e w' => e = .returned (.bool B) ∧ Ext w w' := by
  have e0 := Ext.alloc w (.cells (bnkC F) 25)
  obtain ⟨cf, cc, jf, jc, hf, hc, rf, rc, bf, bc, nC, C, nI, I, nH, H, nR, R⟩ := F
  unfold bankB at h
  unfold bnkC at e0 ⊢
  simp only at h e0 ⊢
  cases h0 : rgtB cf cc with
  | false =>
    obtain rfl : B = false := by rw [← h, h0]; rfl
    have H0 := Lib.hid h0
    clear h h0
    go_enter Try.func31, Try.ntmps31
    go_wp2_with fail
    refine (rwright_v H0.out _).mono ?_; rintro e w0 ⟨rfl, x0⟩
    have y0 := x0
    have c2 := y0.made 2 _ rfl; have c3 := y0.made 3 _ rfl
    clear x0
    have y := e0.trans y0
    clear y0 e0
    go_wp2
    go_ret
    exact ⟨rfl, y⟩
  | true =>
    cases h1 : rgtB jf jc with
    | false =>
      obtain rfl : B = false := by rw [← h, h0, h1]; rfl
      have H0 := Lib.hid h0
      have H1 := Lib.hid h1
      clear h h0 h1
      go_enter Try.func31, Try.ntmps31
      go_wp2_with fail
      refine (rwright_v H0.out _).mono ?_; rintro e w0 ⟨rfl, x0⟩
      have y0 := x0
      have c2 := y0.made 2 _ rfl; have c3 := y0.made 3 _ rfl
      clear x0
      go_wp2_with fail
      refine (rwright_v H1.out _).mono ?_; rintro e w1 ⟨rfl, x1⟩
      have y1 := y0.trans x1
      have c4 := y1.made 4 _ rfl; have c5 := y1.made 5 _ rfl
      clear x1 y0 c2 c3
      have y := e0.trans y1
      clear y1 e0
      go_wp2
      go_ret
      exact ⟨rfl, y⟩
    | true =>
      cases h2 : rgtB hf hc with
      | false =>
        obtain rfl : B = false := by rw [← h, h0, h1, h2]; rfl
        have H0 := Lib.hid h0
        have H1 := Lib.hid h1
        have H2 := Lib.hid h2
        clear h h0 h1 h2
        go_enter Try.func31, Try.ntmps31
        go_wp2_with fail
        refine (rwright_v H0.out _).mono ?_; rintro e w0 ⟨rfl, x0⟩
        have y0 := x0
        have c2 := y0.made 2 _ rfl; have c3 := y0.made 3 _ rfl
        clear x0
        go_wp2_with fail
        refine (rwright_v H1.out _).mono ?_; rintro e w1 ⟨rfl, x1⟩
        have y1 := y0.trans x1
        have c4 := y1.made 4 _ rfl; have c5 := y1.made 5 _ rfl
        clear x1 y0 c2 c3
        go_wp2_with fail
        refine (rwright_v H2.out _).mono ?_; rintro e w2 ⟨rfl, x2⟩
        have y2 := y1.trans x2
        have c6 := y2.made 6 _ rfl; have c7 := y2.made 7 _ rfl
        clear x2 y1 c4 c5
        have y := e0.trans y2
        clear y2 e0
        go_wp2
        go_ret
        exact ⟨rfl, y⟩
      | true =>
        cases h3 : rgtB rf rc with
        | false =>
          obtain rfl : B = false := by rw [← h, h0, h1, h2, h3]; rfl
          have H0 := Lib.hid h0
          have H1 := Lib.hid h1
          have H2 := Lib.hid h2
          have H3 := Lib.hid h3
          clear h h0 h1 h2 h3
          go_enter Try.func31, Try.ntmps31
          go_wp2_with fail
          refine (rwright_v H0.out _).mono ?_; rintro e w0 ⟨rfl, x0⟩
          have y0 := x0
          have c2 := y0.made 2 _ rfl; have c3 := y0.made 3 _ rfl
          clear x0
          go_wp2_with fail
          refine (rwright_v H1.out _).mono ?_; rintro e w1 ⟨rfl, x1⟩
          have y1 := y0.trans x1
          have c4 := y1.made 4 _ rfl; have c5 := y1.made 5 _ rfl
          clear x1 y0 c2 c3
          go_wp2_with fail
          refine (rwright_v H2.out _).mono ?_; rintro e w2 ⟨rfl, x2⟩
          have y2 := y1.trans x2
          have c6 := y2.made 6 _ rfl; have c7 := y2.made 7 _ rfl
          clear x2 y1 c4 c5
          go_wp2_with fail
          refine (rwright_v H3.out _).mono ?_; rintro e w3 ⟨rfl, x3⟩
          have y3 := y2.trans x3
          have c8 := y3.made 8 _ rfl; have c9 := y3.made 9 _ rfl
          clear x3 y2 c6 c7
          have y := e0.trans y3
          clear y3 e0
          go_wp2
          go_ret
          exact ⟨rfl, y⟩
        | true =>
          cases h4 : rgtB bf bc with
          | false =>
            obtain rfl : B = false := by rw [← h, h0, h1, h2, h3, h4]; rfl
            have H0 := Lib.hid h0
            have H1 := Lib.hid h1
            have H2 := Lib.hid h2
            have H3 := Lib.hid h3
            have H4 := Lib.hid h4
            clear h h0 h1 h2 h3 h4
            go_enter Try.func31, Try.ntmps31
            go_wp2_with fail
            refine (rwright_v H0.out _).mono ?_; rintro e w0 ⟨rfl, x0⟩
            have y0 := x0
            have c2 := y0.made 2 _ rfl; have c3 := y0.made 3 _ rfl
            clear x0
            go_wp2_with fail
            refine (rwright_v H1.out _).mono ?_; rintro e w1 ⟨rfl, x1⟩
            have y1 := y0.trans x1
            have c4 := y1.made 4 _ rfl; have c5 := y1.made 5 _ rfl
            clear x1 y0 c2 c3
            go_wp2_with fail
            refine (rwright_v H2.out _).mono ?_; rintro e w2 ⟨rfl, x2⟩
            have y2 := y1.trans x2
            have c6 := y2.made 6 _ rfl; have c7 := y2.made 7 _ rfl
            clear x2 y1 c4 c5
            go_wp2_with fail
            refine (rwright_v H3.out _).mono ?_; rintro e w3 ⟨rfl, x3⟩
            have y3 := y2.trans x3
            have c8 := y3.made 8 _ rfl; have c9 := y3.made 9 _ rfl
            clear x3 y2 c6 c7
            go_wp2_with fail
            refine (rwright_v H4.out _).mono ?_; rintro e w4 ⟨rfl, x4⟩
            have y4 := y3.trans x4
            clear x4 y3 c8 c9
            have y := e0.trans y4
            clear y4 e0
            go_wp2
            go_ret
            exact ⟨rfl, y⟩
          | true =>
            obtain rfl : B = true := by rw [← h, h0, h1, h2, h3, h4]; rfl
            have H0 := Lib.hid h0
            have H1 := Lib.hid h1
            have H2 := Lib.hid h2
            have H3 := Lib.hid h3
            have H4 := Lib.hid h4
            clear h h0 h1 h2 h3 h4
            go_enter Try.func31, Try.ntmps31
            go_wp2_with fail
            refine (rwright_v H0.out _).mono ?_; rintro e w0 ⟨rfl, x0⟩
            have y0 := x0
            have c2 := y0.made 2 _ rfl; have c3 := y0.made 3 _ rfl
            clear x0
            go_wp2_with fail
            refine (rwright_v H1.out _).mono ?_; rintro e w1 ⟨rfl, x1⟩
            have y1 := y0.trans x1
            have c4 := y1.made 4 _ rfl; have c5 := y1.made 5 _ rfl
            clear x1 y0 c2 c3
            go_wp2_with fail
            refine (rwright_v H2.out _).mono ?_; rintro e w2 ⟨rfl, x2⟩
            have y2 := y1.trans x2
            have c6 := y2.made 6 _ rfl; have c7 := y2.made 7 _ rfl
            clear x2 y1 c4 c5
            go_wp2_with fail
            refine (rwright_v H3.out _).mono ?_; rintro e w3 ⟨rfl, x3⟩
            have y3 := y2.trans x3
            have c8 := y3.made 8 _ rfl; have c9 := y3.made 9 _ rfl
            clear x3 y2 c6 c7
            go_wp2_with fail
            refine (rwright_v H4.out _).mono ?_; rintro e w4 ⟨rfl, x4⟩
            have y4 := y3.trans x4
            clear x4 y3 c8 c9
            have y := e0.trans y4
            clear y4 e0
            go_wp2
            go_ret
            exact ⟨rfl, y⟩

set_option maxHeartbeats 2000000 in
theorem rright14_any (V : FilV) (F : Fil) (w : World) : Calls Try.prog 19 #[.agg (filC V F)] w fun e w' => e = .returned (.bool (rightB F)) ∧ Ext w w' := by
  have e0 := Ext.alloc w (.cells (filC V F) 29)
  have e1 := Ext.alloc (w.alloc (.cells (filC V F) 29)) (.cells (bnkC F) 25)
  have H := Lib.hid (rightB_iff F)
  generalize rightB F = B at H ⊢
  cases hb : bankB F with
  | false =>
    obtain rfl : B = false := (b_false H.out (by rw [hb]; rintro ⟨h, _⟩; cases h)).symm
    have HB := Lib.hid (fun w' => rbank_v hb w')
    clear hb H
    obtain ⟨cf, cc, jf, jc, hf, hc, rf, rc, bf, bc, nC, C, nI, I, nH, H, nR, R⟩ := F
    obtain ⟨a1, d1, a2, d2, a3, d3, a4, d4⟩ := V
    unfold bnkC at HB e1
    unfold filC at e0 e1 ⊢
    simp only at HB e0 e1 ⊢
    go_enter Try.func19, Try.ntmps19
    go_wp2_with fail
    refine (HB.out _).mono ?_; rintro e w1 ⟨rfl, x1⟩
    have x2 := (e0.trans e1).trans x1
    go_wp2
    go_ret
    exact ⟨rfl, x2⟩
  | true =>
    have HB := Lib.hid (fun w' => rbank_v hb w')
    have H2 : Hid (B = true ↔ (F.nC : Int) = F.cc ∧ (F.nI : Int) = F.jc ∧ (F.nH : Int) = F.hc ∧ (F.nR : Int) = F.rc) := Lib.hid (by have := H.out; rw [hb] at this; simpa using this)
    clear hb H
    obtain ⟨cf, cc, jf, jc, hf, hc, rf, rc, bf, bc, nC, C, nI, I, nH, H, nR, R⟩ := F
    obtain ⟨a1, d1, a2, d2, a3, d3, a4, d4⟩ := V
    unfold bnkC at HB e1
    unfold filC at e0 e1 ⊢
    simp only at HB e0 e1 H2 ⊢
    go_enter Try.func19, Try.ntmps19
    go_wp2_with fail
    refine (HB.out _).mono ?_; rintro e w1 ⟨rfl, x1⟩
    have c1 := x1.made 1 _ rfl; have c3 := x1.made 3 _ rfl; have c5 := x1.made 5 _ rfl; have c7 := x1.made 7 _ rfl
    have x3 := e1.trans x1
    have d10 := x3.made 10 _ rfl; have d11 := x3.made 11 _ rfl; have d12 := x3.made 12 _ rfl; have d13 := x3.made 13 _ rfl
    have x2 := e0.trans x3
    have hs : (w.alloc (.cells #[.int .i64 cf, .int .i64 cc, .int .i64 jf, .int .i64 jc, .int .i64 hf, .int .i64 hc, .int .i64 rf, .int .i64 rc, .int .i64 bf, .int .i64 bc, .slice a1 nC d1, .slice a2 nI d2, .slice a3 nH d3, .slice a4 nR d4] 29)).heap.size = w.heap.size + 1 := by simp
    rw [hs] at c1 c3 c5 c7
    clear x1 e0 x3 e1 hs
    go_wp2
    all_goals
      go_ret
      first
        | exact ⟨ret_b (b_false H2.out (by omega)), x2⟩
        | exact ⟨ret_b (b_dec H2.out (by omega)), x2⟩
theorem rright14_v {V : FilV} {F : Fil} {B : Bool} (h : rightB F = B) (w : World) : Calls Try.prog 19 #[.agg (filC V F)] w fun e w' => e = .returned (.bool B) ∧ Ext w w' := h ▸ rright14_any V F w
end Go.Proofs.Ytkgakeknnfnjdaa
namespace Go.Proofs.Ytkgakeknnfnjdaa
open Go.RowKit
set_option linter.unusedVariables false

theorem brk_no {F : Fil} {e x k : Int} (h : e ≠ 0) : brkE F e x k = e := by unfold brkE; rw [if_neg (fun c => h c.1)]
theorem brk_works {F : Fil} {x k : Int} (h : meetB F.bf F.bc x k = false) : brkE F 0 x k = 0 := by unfold brkE; rw [if_neg (by rw [h]; rintro ⟨_, h⟩; cases h)]
theorem brk_yes {F : Fil} {x k : Int} (h : meetB F.bf F.bc x k = true) : brkE F 0 x k = 4 := by unfold brkE; rw [if_pos ⟨rfl, h⟩]
end Go.Proofs.Ytkgakeknnfnjdaa
namespace Go.Proofs.Ytkgakeknnfnjdaa
open Go.RowKit
set_option linter.unusedVariables false

/-- What is told, laid out: a field of the box has been turned, the box of what is told is laid. -/
theorem file_told {w w' : World} {V V0 : FilV} {F G : Fil} {j : Nat} {v : Value} {cs : Array Value} (h : FilAt w' V G) (x : Ext w w') (f : From w V0 F V G) (o : FilOff (fun i => i = w.heap.size ∨ i = w.heap.size + 1) V G) :
    FilAt ((w'.setCell ⟨w.heap.size, j, none⟩ v).setRow (w.heap.size + 1) cs) V G ∧ Ext w ((w'.setCell ⟨w.heap.size, j, none⟩ v).setRow (w.heap.size + 1) cs) ∧ From w V0 F V G := by
  refine ⟨?_, below_setRow (Below.setCell x (Nat.le_refl _) _) (Nat.le_succ _) _, f⟩
  have k : Keep (fun i => i = w.heap.size ∨ i = w.heap.size + 1) w' ((w'.setCell ⟨w.heap.size, j, none⟩ v).setRow (w.heap.size + 1) cs) :=
    ((keepCell w' w.heap.size j v).mono fun i hi => .inl hi).trans (keepRow _ (w.heap.size + 1) cs) (fun i hi => .inl (.inr hi))
  exact h.keep k o
theorem above_two (w : World) : Above w (fun i => i = w.heap.size ∨ i = w.heap.size + 1) := fun i hi => by rcases hi with h | h <;> omega
theorem fresh_off {w a : World} {x : Option Addr} {n : Nat} (h : Fresh a x) (hs : w.heap.size + 2 ≤ a.heap.size) : OffN (fun i => i = w.heap.size ∨ i = w.heap.size + 1) x n :=
  h.offN fun i hi => by rcases hi with h | h <;> omega
theorem sbE_right {F : Fil} {x : Int} {m : Nat} (h : rightB F = true) : sbE F x m = rdE F.cf F.cc F.nC x m := by unfold sbE; rw [if_pos h]
theorem sbE_wrong {F : Fil} {x : Int} {m : Nat} (h : rightB F = false) : sbE F x m = 11 := by unfold sbE; rw [if_neg (by rw [h]; decide)]
theorem sbF_no {F : Fil} {x : Int} {m : Nat} {v : Nat → Bool} {E : Int} (h : sbE F x m = E) (h0 : E ≠ 0) : sbF F x m v = zeroF := by unfold sbF; rw [h, if_neg h0]
theorem sbF_yes {F : Fil} {x : Int} {m : Nat} {v : Nat → Bool} (h : sbE F x m = 0) : sbF F x m v = { F with C := wrF F.C v F.cf x m } := by unfold sbF; rw [if_pos h]
end Go.Proofs.Ytkgakeknnfnjdaa
namespace Go.Proofs.Ytkgakeknnfnjdaa
open Go.RowKit
set_option linter.unusedVariables false

/-- A literal of one cell. -/
theorem one_cell {α : Type} {mk : α → Value} (w : World) (v : α) (t : TypeId) : HoldsG mk (w.alloc (.cells #[mk v] t)) (some ⟨w.heap.size, 0, none⟩) 1 (fun _ => v) :=
  HoldsG.new _ _ _ 1 _ (fun i hi => by
    have h : i = 0 := by omega
    subst h; rfl)
theorem swE_right {F : Fil} {x : Int} {m : Nat} (h : rightB F = true) : swE F x m = brkE F (rdE F.hf F.hc F.nH x m) x m := by unfold swE; rw [if_pos h]
theorem swE_wrong {F : Fil} {x : Int} {m : Nat} (h : rightB F = false) : swE F x m = 11 := by unfold swE; rw [if_neg (by rw [h]; decide)]
theorem swF_no {F : Fil} {x : Int} {m : Nat} {v : Nat → Int} {E : Int} (h : swE F x m = E) (h0 : E ≠ 0) : swF F x m v = zeroF := by unfold swF; rw [h, if_neg h0]
theorem swF_yes {F : Fil} {x : Int} {m : Nat} {v : Nat → Int} (h : swE F x m = 0) : swF F x m v = { F with H := wrF F.H v F.hf x m } := by unfold swF; rw [if_pos h]
theorem seE_wrong {F : Fil} {i : Bool} {x : Int} (h : rightB F = false) : seE F i x = 11 := by unfold seE; rw [if_neg (by rw [h]; decide)]
theorem seE_words {F : Fil} {x : Int} (h : rightB F = true) : seE F true x = rdE F.rf F.rc F.nR x 1 := by unfold seE; rw [if_pos h, if_pos rfl]
theorem seE_bits {F : Fil} {x : Int} (h : rightB F = true) : seE F false x = rdE F.jf F.jc F.nI x 1 := by unfold seE; rw [if_pos h, if_neg (by decide)]
theorem seF_no {F : Fil} {i : Bool} {x v E : Int} (h : seE F i x = E) (h0 : E ≠ 0) : seF F i x v = zeroF := by unfold seF; rw [h, if_neg h0]
theorem seF_words {F : Fil} {x v : Int} (h : seE F true x = 0) : seF F true x v = { F with R := wrF F.R (fun _ => v % 65536) F.rf x 1 } := by unfold seF; rw [if_pos h, if_pos rfl]
theorem seF_bits {F : Fil} {x v : Int} (h : seE F false x = 0) : seF F false x v = { F with I := wrF F.I (fun _ => decide (v ≠ 0)) F.jf x 1 } := by unfold seF; rw [if_pos h, if_neg (by decide)]
end Go.Proofs.Ytkgakeknnfnjdaa
namespace Go.Proofs.Ytkgakeknnfnjdaa
open Go.RowKit
set_option linter.unusedVariables false

theorem weqInD (d : Nat) (f c g e : Int) (w : World) : (Op.equalIn (d + 1 + 1) 23 (.agg #[.int .i64 f, .int .i64 c]) (.agg #[.int .i64 g, .int .i64 e])).run Try.prog w = .ok (eqW f c g e) w := by
  rw [run_equalIn_struct w (d + 1) _ _ _ (by kernel_rfl) (by kernel_rfl)]
  have hi := Try.underlying3
  simp [Program.fieldsOf, Try.underlying23, Op.eqFields, go_sem, hi]
  by_cases h1 : f = g
  · by_cases h2 : c = e
    · rw [if_pos h1, if_pos h2, (eqW_iff f c g e).2 ⟨h1, h2⟩]
    · rw [if_pos h1, if_neg h2, show eqW f c g e = false from decide_eq_false fun k => h2 k.2]
  · rw [if_neg h1, show eqW f c g e = false from decide_eq_false fun k => h1 k.1]
theorem beqg (op : BinOp) (x y : Operand) (xs ys : Array Value) (w : World) : (eqGuard op 25 x y (.agg xs) (.agg ys)).run Try.prog w = .ok () w :=
  run_eqGuard_agg w op _ x y xs ys (by kernel_rfl)
set_option maxHeartbeats 1000000 in
theorem beqIn (F G : Fil) (w : World) : (Op.equalIn 10000 25 (.agg (bnkC F)) (.agg (bnkC G))).run Try.prog w = .ok (sbankB F G) w := by
  rw [run_equalIn_struct w 9999 _ _ _ (by kernel_rfl) (by kernel_rfl)]
  have hw := fun f c g e w => weqInD 9997 f c g e w
  simp only [show 9997 + 1 + 1 = 9999 from rfl] at hw
  unfold sbankB bnkC
  simp [Program.fieldsOf, Try.underlying25, Op.eqFields, go_sem, hw]
  generalize eqW F.cf F.cc G.cf G.cc = a
  generalize eqW F.jf F.jc G.jf G.jc = b
  generalize eqW F.hf F.hc G.hf G.hc = c
  generalize eqW F.rf F.rc G.rf G.rc = d
  generalize eqW F.bf F.bc G.bf G.bc = e
  cases a <;> cases b <;> cases c <;> cases d <;> cases e <;> rfl
theorem beql_v {F G : Fil} {B : Bool} (h : sbankB F G = B) (w : World) : (binOp .eql 25 (.agg (bnkC F)) (.agg (bnkC G))).run Try.prog w = .ok (.bool B) w := by
  rw [run_eql_struct, beqIn, h]; rfl
theorem bneq_v {F G : Fil} {B : Bool} (h : (!sbankB F G) = B) (w : World) : (binOp .neq 25 (.agg (bnkC F)) (.agg (bnkC G))).run Try.prog w = .ok (.bool B) w := by
  rw [run_neq_struct, beqIn, ← h]; rfl
set_option maxHeartbeats 1000000 in
theorem rfew14_any (V : FilV) (F : Fil) (w : World) (h1 : F.nC ≤ 1000000000000000) (h2 : F.nI ≤ 1000000000000000) (h3 : F.nH ≤ 1000000000000000) (h4 : F.nR ≤ 1000000000000000) :
    Calls Try.prog 6 #[.agg (filC V F)] w fun e w' => e = .returned (.bool (decide (F.nC + F.nI + F.nH + F.nR ≤ 4000))) ∧ Ext w w' := by
  have e0 := Ext.alloc w (.cells (filC V F) 29)
  have i1 : (F.nC : Int) ≤ 1000000000000000 := by omega
  have i2 : (F.nI : Int) ≤ 1000000000000000 := by omega
  have i3 : (F.nH : Int) ≤ 1000000000000000 := by omega
  have i4 : (F.nR : Int) ≤ 1000000000000000 := by omega
  clear h1 h2 h3 h4
  unfold filC at e0 ⊢
  generalize F.nC = n1 at *
  generalize F.nI = n2 at *
  generalize F.nH = n3 at *
  generalize F.nR = n4 at *
  have hd : decide ((n1 : Int) + n2 + n3 + n4 ≤ 4000) = decide (n1 + n2 + n3 + n4 ≤ 4000) := by
    rw [Bool.eq_iff_iff, decide_eq_true_iff, decide_eq_true_iff]; omega
  have HD := Lib.hid hd
  clear hd
  go_enter Try.func6, Try.ntmps6
  go_wp2
  go_ret
  exact ⟨ret_b HD.out, e0⟩
end Go.Proofs.Ytkgakeknnfnjdaa
