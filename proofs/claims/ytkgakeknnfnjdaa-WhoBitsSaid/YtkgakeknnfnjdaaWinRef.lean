/-
  CONTRACTS: bilgeref12 (layer 12).
  CONTRACTS: bilgeref12 (layer 12): Meets and Cut, place by place.
  CONTRACTS: bilgeref12.Cut (layer 12), place by place.
-/
import Derived.Test.YtkgakeknnfnjdaaWin
import Derived.Deep.LoopGhost
import Derived.Deep.DeepCutAuto
import Derived.Deep.DeepMust
namespace Go.Proofs.Ytkgakeknnfnjdaa
open Go.RowKit
set_option linter.unusedVariables false

set_option maxHeartbeats 1000000 in
theorem rwright_any (f c : Int) (w : World) : Calls Try.prog 32 #[.agg #[.int .i64 f, .int .i64 c]] w fun e w' => e = .returned (.bool (rgtB f c)) ∧ Ext w w' := by
  have H := Lib.hid (rgtB_iff f c)
  generalize rgtB f c = B at H ⊢
  go_enter Try.func32, Try.ntmps32
  go_wp2
  all_goals
    go_ret
    first
      | exact ⟨ret_b (b_false H.out (by omega)), Ext.alloc _ _⟩
      | exact ⟨ret_b (b_dec H.out (by omega)), Ext.alloc _ _⟩
theorem rwright_v {f c : Int} {B : Bool} (h : rgtB f c = B) (w : World) : Calls Try.prog 32 #[.agg #[.int .i64 f, .int .i64 c]] w fun e w' => e = .returned (.bool B) ∧ Ext w w' := h ▸ rwright_any f c w
set_option maxHeartbeats 1000000 in
theorem rwhas_any (f c x : Int) (w : World) : Calls Try.prog 20 #[.agg #[.int .i64 f, .int .i64 c], .int .i64 x] w fun e w' => e = .returned (.bool (hasB f c x)) ∧ Ext w w' := by
  have H := Lib.hid (hasB_iff f c x)
  generalize hasB f c x = B at H ⊢
  have e0 := Ext.alloc w (.cells #[.int .i64 f, .int .i64 c] 23)
  cases hr : rgtB f c with
  | false =>
    have h1 := (rgtB_no f c).1 hr
    have HR := Lib.hid hr
    have HN := Lib.hid h1
    clear hr h1
    go_enter Try.func20, Try.ntmps20
    go_wp2_with fail
    refine (rwright_v HR.out _).mono ?_; rintro e w1 ⟨rfl, x1⟩
    have c0 := x1.made 0 _ rfl
    have c1 := x1.made 1 _ rfl
    have x2 := e0.trans x1
    go_wp2
    go_ret
    exact ⟨ret_b (b_false H.out (by have := HN.out; omega)), x2⟩
  | true =>
    obtain ⟨h1, h2, h3, h4, h5⟩ := (rgtB_iff f c).1 hr
    have HR := Lib.hid hr
    clear hr
    go_enter Try.func20, Try.ntmps20
    go_wp2_with fail
    refine (rwright_v HR.out _).mono ?_; rintro e w1 ⟨rfl, x1⟩
    have c0 := x1.made 0 _ rfl
    have c1 := x1.made 1 _ rfl
    have x2 := e0.trans x1
    clear e0 x1
    go_wp2
    all_goals
      go_ret
      first
        | exact ⟨ret_b (b_false H.out (by omega)), x2⟩
        | exact ⟨ret_b (b_dec H.out (by omega)), x2⟩
theorem rwhas_v {f c x : Int} {B : Bool} (h : hasB f c x = B) (w : World) : Calls Try.prog 20 #[.agg #[.int .i64 f, .int .i64 c], .int .i64 x] w fun e w' => e = .returned (.bool B) ∧ Ext w w' := h ▸ rwhas_any f c x w
end Go.Proofs.Ytkgakeknnfnjdaa
namespace Go.Proofs.Ytkgakeknnfnjdaa
open Go.RowKit
set_option linter.unusedVariables false

end Go.Proofs.Ytkgakeknnfnjdaa
namespace Go.Proofs.Ytkgakeknnfnjdaa
open Go.RowKit
set_option linter.unusedVariables false

/-- What was shared so far: the places up to q. -/
def soF (f g d q : Int) : Int := cutF f (q - f) g d
def soC (f g d q : Int) : Int := cutC f (q - f) g d
theorem so_start (f g d : Int) : soF f g d f = 0 ∧ soC f g d f = 0 := by
  unfold soF soC; rcases cut_cases f (f - f) g d with h | h <;> omega
theorem so_end (f c g d : Int) : soF f g d (f + c) = cutF f c g d ∧ soC f g d (f + c) = cutC f c g d := by
  unfold soF soC; rw [show f + c - f = c by omega]; exact ⟨rfl, rfl⟩
theorem so_no {f c g d q : Int} (hr : rgtB f c = true) (h0 : f ≤ q) (h1 : q < f + c) (h : hasB g d q = false) : soF f g d (q + 1) = soF f g d q ∧ soC f g d (q + 1) = soC f g d q := by
  have := (hasB_no g d q).1 h; have := (rgtB_iff f c).1 hr
  unfold soF soC; rcases cut_cases f (q - f) g d with k | k <;> rcases cut_cases f (q + 1 - f) g d with k' | k' <;> omega
theorem so_first {f c g d q : Int} (hr : rgtB f c = true) (h0 : f ≤ q) (h1 : q < f + c) (h : hasB g d q = true) (hz : soC f g d q = 0) : soF f g d (q + 1) = q ∧ soC f g d (q + 1) = 1 := by
  have := (hasB_iff g d q).1 h; have := (rgtB_iff f c).1 hr
  unfold soC at hz
  unfold soF soC; rcases cut_cases f (q - f) g d with k | k <;> rcases cut_cases f (q + 1 - f) g d with k' | k' <;> omega
theorem so_more {f c g d q : Int} (hr : rgtB f c = true) (h0 : f ≤ q) (h1 : q < f + c) (h : hasB g d q = true) (hz : soC f g d q ≠ 0) : soF f g d (q + 1) = soF f g d q ∧ soC f g d (q + 1) = soC f g d q + 1 := by
  have := (hasB_iff g d q).1 h; have := (rgtB_iff f c).1 hr
  unfold soC at hz
  unfold soF soC; rcases cut_cases f (q - f) g d with k | k <;> rcases cut_cases f (q + 1 - f) g d with k' | k' <;> omega
theorem so_bd (f g d q : Int) : 0 ≤ soC f g d q ∧ soC f g d q ≤ 65536 := by
  unfold soC; rcases cut_cases f (q - f) g d with k | k <;> omega
/-- The four blocks, while places are looked at. -/
structure CutSt (w wr : World) (f c g d F C : Int) : Prop where
  a : WinAt wr w.heap.size f c
  b : WinAt wr (w.heap.size + 1) g d
  r : wr.heap[w.heap.size + 1 + 1]? = some (.cells #[.int .i64 0, .int .i64 0] 23)
  o : wr.heap[w.heap.size + 1 + 1 + 1]? = some (.cells #[.int .i64 F, .int .i64 C] 23)
  x : Ext w wr
theorem CutSt.ext {w wr w' : World} {f c g d F C : Int} (h : CutSt w wr f c g d F C) (x : Ext wr w') : CutSt w w' f c g d F C :=
  ⟨h.a.ext x, h.b.ext x, x.block h.r, x.block h.o, h.x.trans x⟩
theorem WinAt.far {w : World} {A O : Nat} {f c : Int} (h : WinAt w A f c) (hA : A ≠ O) (k : Nat) (u : Value) : WinAt (w.setCell ⟨O, k, none⟩ u) A f c :=
  ⟨(cell_far hA w 0 k u).trans h.c0, (cell_far hA w 1 k u).trans h.c1⟩
theorem CutSt.from_ {w wr : World} {f c g d F C : Int} (h : CutSt w wr f c g d F C) (q : Int) : CutSt w (wr.setCell ⟨w.heap.size + 1 + 1 + 1, 0, none⟩ (.int .i64 q)) f c g d q C :=
  ⟨h.a.far (by omega) _ _, h.b.far (by omega) _ _, (Below.heap_setCell wr _ _ _ (by show _ ≠ _; simp)).trans h.r,
   by simp [World.setCell, Array.getElem?_modify, h.o], h.x.setCell (by show w.heap.size ≤ w.heap.size + 1 + 1 + 1; omega) _⟩
theorem CutSt.count {w wr : World} {f c g d F C : Int} (h : CutSt w wr f c g d F C) (q : Int) : CutSt w (wr.setCell ⟨w.heap.size + 1 + 1 + 1, 1, none⟩ (.int .i64 q)) f c g d F q :=
  ⟨h.a.far (by omega) _ _, h.b.far (by omega) _ _, (Below.heap_setCell wr _ _ _ (by show _ ≠ _; simp)).trans h.r,
   by simp [World.setCell, Array.getElem?_modify, h.o], h.x.setCell (by show w.heap.size ≤ w.heap.size + 1 + 1 + 1; omega) _⟩
theorem CutSt.new (f c g d : Int) (w : World) : CutSt w ((((w.alloc (.cells #[.int .i64 f, .int .i64 c] 23)).alloc (.cells #[.int .i64 g, .int .i64 d] 23)).alloc (.cells #[.int .i64 0, .int .i64 0] 23)).alloc (.cells #[.int .i64 0, .int .i64 0] 23)) f c g d 0 0 := by
  obtain ⟨x, a, b, r⟩ := cut_box f c g d w
  have g3 := heap_alloc_new (((w.alloc (.cells #[.int .i64 f, .int .i64 c] 23)).alloc (.cells #[.int .i64 g, .int .i64 d] 23)).alloc (.cells #[.int .i64 0, .int .i64 0] 23)) (.cells #[.int .i64 0, .int .i64 0] 23)
  have s3 : (((w.alloc (.cells #[.int .i64 f, .int .i64 c] 23)).alloc (.cells #[.int .i64 g, .int .i64 d] 23)).alloc (.cells #[.int .i64 0, .int .i64 0] 23)).heap.size = w.heap.size + 1 + 1 + 1 := by simp
  rw [s3] at g3
  have y := Ext.alloc (((w.alloc (.cells #[.int .i64 f, .int .i64 c] 23)).alloc (.cells #[.int .i64 g, .int .i64 d] 23)).alloc (.cells #[.int .i64 0, .int .i64 0] 23)) (.cells #[.int .i64 0, .int .i64 0] 23)
  exact ⟨a.ext y, b.ext y, y.block r, g3, x.trans y⟩
theorem CutSt.o0 {w wr : World} {f c g d F C : Int} (h : CutSt w wr f c g d F C) : wr.cell? ⟨w.heap.size + 1 + 1 + 1, 0, none⟩ = some (.int .i64 F) := cell_of_row wr _ 0 _ _ _ h.o
theorem CutSt.o1 {w wr : World} {f c g d F C : Int} (h : CutSt w wr f c g d F C) : wr.cell? ⟨w.heap.size + 1 + 1 + 1, 1, none⟩ = some (.int .i64 C) := cell_of_row wr _ 1 _ _ _ h.o
theorem CutSt.z {w wr : World} {f c g d F C : Int} (h : CutSt w wr f c g d F C) (i : Nat) : wr.frozen? ⟨w.heap.size + 1 + 1 + 1, i, none⟩ = false := by
  have := h.o; simp [World.frozen?, this]
/-- What is told at the end. -/
theorem CutSt.done {w wr : World} {f c g d F C : Int} (h : CutSt w wr f c g d F C) : Ext w (wr.setRow (w.heap.size + 1 + 1) #[.int .i64 F, .int .i64 C]) := below_setRow h.x (by omega) _

end Go.Proofs.Ytkgakeknnfnjdaa
