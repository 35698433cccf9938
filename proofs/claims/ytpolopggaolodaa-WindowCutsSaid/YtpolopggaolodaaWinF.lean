/-
  CONTRACTS: bilgeref12.Cut (layer 12), place by place.
-/
import Derived.Test.YtpolopggaolodaaWinE
namespace Go.Proofs.Ytpolopggaolodaa
open Go.RowKit
set_option linter.unusedVariables false

/-- What was shared so far: the places up to q. -/
def soF (f g d q : Int) : Int := cutF f (q - f) g d
def soC (f g d q : Int) : Int := cutC f (q - f) g d
theorem so_start (f g d : Int) : soF f g d f = 0 ∧ soC f g d f = 0 := by
  unfold soF soC; rcases cut_cases f (f - f) g d with h | h <;> omega
theorem so_end (f c g d : Int) : soF f g d (f + c) = cutF f c g d ∧ soC f g d (f + c) = cutC f c g d := by
  unfold soF soC; rw [show f + c - f = c by omega]; exact ⟨rfl, rfl⟩
theorem so_no {f c g d q : Int} (hr : rgtB f c = true) (h0 : f ≤ q) (h1 : q < f + c) (h : hasB g d q = false) : soF f g d (q + 1) = soF f g d q ∧ soC f g d (q + 1) = soC f g d q := by
  have := (hasB_no g d q).1 h; have := (rgtB_iff f c).1 hr
  unfold soF soC; rcases cut_cases f (q - f) g d with k | k <;> rcases cut_cases f (q + 1 - f) g d with k' | k' <;> omega
theorem so_first {f c g d q : Int} (hr : rgtB f c = true) (h0 : f ≤ q) (h1 : q < f + c) (h : hasB g d q = true) (hz : soC f g d q = 0) : soF f g d (q + 1) = q ∧ soC f g d (q + 1) = 1 := by
  have := (hasB_iff g d q).1 h; have := (rgtB_iff f c).1 hr
  unfold soC at hz
  unfold soF soC; rcases cut_cases f (q - f) g d with k | k <;> rcases cut_cases f (q + 1 - f) g d with k' | k' <;> omega
theorem so_more {f c g d q : Int} (hr : rgtB f c = true) (h0 : f ≤ q) (h1 : q < f + c) (h : hasB g d q = true) (hz : soC f g d q ≠ 0) : soF f g d (q + 1) = soF f g d q ∧ soC f g d (q + 1) = soC f g d q + 1 := by
  have := (hasB_iff g d q).1 h; have := (rgtB_iff f c).1 hr
  unfold soC at hz
  unfold soF soC; rcases cut_cases f (q - f) g d with k | k <;> rcases cut_cases f (q + 1 - f) g d with k' | k' <;> omega
theorem so_bd (f g d q : Int) : 0 ≤ soC f g d q ∧ soC f g d q ≤ 65536 := by
  unfold soC; rcases cut_cases f (q - f) g d with k | k <;> omega
/-- The four blocks, while places are looked at. -/
structure CutSt (w wr : World) (f c g d F C : Int) : Prop where
  a : WinAt wr w.heap.size f c
  b : WinAt wr (w.heap.size + 1) g d
  r : wr.heap[w.heap.size + 1 + 1]? = some (.cells #[.int .i64 0, .int .i64 0] 23)
  o : wr.heap[w.heap.size + 1 + 1 + 1]? = some (.cells #[.int .i64 F, .int .i64 C] 23)
  x : Ext w wr
theorem CutSt.ext {w wr w' : World} {f c g d F C : Int} (h : CutSt w wr f c g d F C) (x : Ext wr w') : CutSt w w' f c g d F C :=
  ⟨h.a.ext x, h.b.ext x, x.block h.r, x.block h.o, h.x.trans x⟩
theorem WinAt.far {w : World} {A O : Nat} {f c : Int} (h : WinAt w A f c) (hA : A ≠ O) (k : Nat) (u : Value) : WinAt (w.setCell ⟨O, k, none⟩ u) A f c :=
  ⟨(cell_far hA w 0 k u).trans h.c0, (cell_far hA w 1 k u).trans h.c1⟩
theorem CutSt.from_ {w wr : World} {f c g d F C : Int} (h : CutSt w wr f c g d F C) (q : Int) : CutSt w (wr.setCell ⟨w.heap.size + 1 + 1 + 1, 0, none⟩ (.int .i64 q)) f c g d q C :=
  ⟨h.a.far (by omega) _ _, h.b.far (by omega) _ _, (Below.heap_setCell wr _ _ _ (by show _ ≠ _; simp)).trans h.r,
   by simp [World.setCell, Array.getElem?_modify, h.o], h.x.setCell (by show w.heap.size ≤ w.heap.size + 1 + 1 + 1; omega) _⟩
theorem CutSt.count {w wr : World} {f c g d F C : Int} (h : CutSt w wr f c g d F C) (q : Int) : CutSt w (wr.setCell ⟨w.heap.size + 1 + 1 + 1, 1, none⟩ (.int .i64 q)) f c g d F q :=
  ⟨h.a.far (by omega) _ _, h.b.far (by omega) _ _, (Below.heap_setCell wr _ _ _ (by show _ ≠ _; simp)).trans h.r,
   by simp [World.setCell, Array.getElem?_modify, h.o], h.x.setCell (by show w.heap.size ≤ w.heap.size + 1 + 1 + 1; omega) _⟩
theorem CutSt.new (f c g d : Int) (w : World) : CutSt w ((((w.alloc (.cells #[.int .i64 f, .int .i64 c] 23)).alloc (.cells #[.int .i64 g, .int .i64 d] 23)).alloc (.cells #[.int .i64 0, .int .i64 0] 23)).alloc (.cells #[.int .i64 0, .int .i64 0] 23)) f c g d 0 0 := by
  obtain ⟨x, a, b, r⟩ := cut_box f c g d w
  have g3 := heap_alloc_new (((w.alloc (.cells #[.int .i64 f, .int .i64 c] 23)).alloc (.cells #[.int .i64 g, .int .i64 d] 23)).alloc (.cells #[.int .i64 0, .int .i64 0] 23)) (.cells #[.int .i64 0, .int .i64 0] 23)
  have s3 : (((w.alloc (.cells #[.int .i64 f, .int .i64 c] 23)).alloc (.cells #[.int .i64 g, .int .i64 d] 23)).alloc (.cells #[.int .i64 0, .int .i64 0] 23)).heap.size = w.heap.size + 1 + 1 + 1 := by simp
  rw [s3] at g3
  have y := Ext.alloc (((w.alloc (.cells #[.int .i64 f, .int .i64 c] 23)).alloc (.cells #[.int .i64 g, .int .i64 d] 23)).alloc (.cells #[.int .i64 0, .int .i64 0] 23)) (.cells #[.int .i64 0, .int .i64 0] 23)
  exact ⟨a.ext y, b.ext y, y.block r, g3, x.trans y⟩
theorem CutSt.o0 {w wr : World} {f c g d F C : Int} (h : CutSt w wr f c g d F C) : wr.cell? ⟨w.heap.size + 1 + 1 + 1, 0, none⟩ = some (.int .i64 F) := cell_of_row wr _ 0 _ _ _ h.o
theorem CutSt.o1 {w wr : World} {f c g d F C : Int} (h : CutSt w wr f c g d F C) : wr.cell? ⟨w.heap.size + 1 + 1 + 1, 1, none⟩ = some (.int .i64 C) := cell_of_row wr _ 1 _ _ _ h.o
theorem CutSt.z {w wr : World} {f c g d F C : Int} (h : CutSt w wr f c g d F C) (i : Nat) : wr.frozen? ⟨w.heap.size + 1 + 1 + 1, i, none⟩ = false := by
  have := h.o; simp [World.frozen?, this]
/-- What is told at the end. -/
theorem CutSt.done {w wr : World} {f c g d F C : Int} (h : CutSt w wr f c g d F C) : Ext w (wr.setRow (w.heap.size + 1 + 1) #[.int .i64 F, .int .i64 C]) := below_setRow h.x (by omega) _

set_option maxHeartbeats 4000000 in
theorem rwcut_no (f c g d : Int) (w : World) (hr : rgtB f c = false) : Calls Try.prog 16 #[.agg #[.int .i64 f, .int .i64 c], .agg #[.int .i64 g, .int .i64 d]] w fun e w' => e = .returned (.agg #[.int .i64 (cutF f c g d), .int .i64 (cutC f c g d)]) ∧ Ext w w' := by
  have hE : Value.agg #[.int .i64 (cutF f c g d), .int .i64 (cutC f c g d)] = .agg #[.int .i64 0, .int .i64 0] := by
    have := (rgtB_no f c).1 hr
    rcases cut_cases f c g d with h | h
    · omega
    · rw [h.2.2.1, h.2.2.2]
  rw [hE]
  have S := CutSt.new f c g d w
  obtain ⟨a0, a1⟩ := S.a
  have HR := Lib.hid hr
  clear hE hr
  go_enter Try.func16, Try.ntmps16
  go_wp2
  go_loopw [6] (fun i wr => i = .int .i64 f ∧ CutSt w wr f c g d 0 0) (fun i _ => 0)
  case atStart => exact ⟨rfl, S⟩
  case round =>
    clear S a0 a1
    obtain ⟨rfl, T⟩ := hrel
    have a0 := T.a.c0; have a1 := T.a.c1
    go_wp2_with fail
    refine (rwright_v HR.out _).mono ?_; rintro e w1 ⟨rfl, x1⟩
    have T1 := T.ext x1
    have o4 := T1.o
    have r4 := T1.r
    have y4 := T1.done
    clear T x1 a0 a1 T1
    go_wp2_with (first | (refine wpList_load_row rfl 23 (.tmp 5) rfl (w.heap.size + 1 + 1 + 1) rfl 23 _ (0, 0) _ o4 Try.underlying23 rfl (by kernel_rfl) ?_) | (refine wpList_store_row rfl 23 (.tmp 4) (.tmp 34) rfl (w.heap.size + 1 + 1) _ rfl rfl 23 _ r4 (by kernel_rfl) rfl (by simp [Value.oneCell']) ?_))
    refine bodyPost_ret (results_cell_row rfl _ _ (w.heap.size + 1 + 1) 23 _ (0, 0) _ rfl (setRow_heap _ _ _ _ _ _ r4) Try.underlying23 rfl (by kernel_rfl)) rfl ⟨rfl, y4⟩
set_option maxHeartbeats 4000000 in
theorem rwcut_yes (f c g d : Int) (w : World) (hr : rgtB f c = true) : Calls Try.prog 16 #[.agg #[.int .i64 f, .int .i64 c], .agg #[.int .i64 g, .int .i64 d]] w fun e w' => e = .returned (.agg #[.int .i64 (cutF f c g d), .int .i64 (cutC f c g d)]) ∧ Ext w w' := by
  have hE := so_end f c g d
  rw [← hE.1, ← hE.2]
  obtain ⟨k1, k2, k3, k4, k5⟩ := (rgtB_iff f c).1 hr
  have S := CutSt.new f c g d w
  rw [show CutSt w _ f c g d 0 0 = CutSt w _ f c g d (soF f g d f) (soC f g d f) by rw [(so_start f g d).1, (so_start f g d).2]] at S
  have HR := Lib.hid hr
  have HS := Lib.hid S
  obtain ⟨R, hR⟩ : ∃ R, R = Value.agg #[.int .i64 (soF f g d (f + c)), .int .i64 (soC f g d (f + c))] := ⟨_, rfl⟩
  rw [← hR]
  have HE := Lib.hid hR
  clear hE hr hR S
  obtain ⟨a0, a1⟩ := HS.out.a
  go_enter Try.func16, Try.ntmps16
  go_wp2
  go_loopw [6] (fun i wr => ∃ q : Int, f ≤ q ∧ q ≤ f + c ∧ i = .int .i64 q ∧ CutSt w wr f c g d (soF f g d q) (soC f g d q)) (fun i _ => (f + c - intOf i).toNat)
  case atStart => exact ⟨f, by omega, by omega, rfl, HS.out⟩
  case round =>
    clear HS a0 a1
    obtain ⟨q, hq0, hq1, rfl, T⟩ := hrel
    have a0 := T.a.c0; have a1 := T.a.c1
    go_wp2_with fail
    refine (rwright_v HR.out _).mono ?_; rintro e w1 ⟨rfl, x1⟩
    have T1 := T.ext x1
    clear T x1 a0 a1
    have a0 := T1.a.c0; have a1 := T1.a.c1
    by_cases hlt : q < f + c
    · have b0 := T1.b.c0; have b1 := T1.b.c1
      have hbd := so_bd f g d q
      have HB := Lib.hid hbd
      clear hbd
      cases hh : hasB g d q with
      | false =>
        have HN := Lib.hid (so_no HR.out hq0 hlt hh)
        have HH := Lib.hid hh
        clear hh
        go_wp2_with fail
        refine (rwhas_v HH.out _).mono ?_; rintro e w2 ⟨rfl, x2⟩
        have T2 := T1.ext x2
        clear T1 x2 a0 a1 b0 b1
        go_wp2
        go_roundw
        case rel => exact ⟨q + 1, by omega, by omega, by go_num, by rw [HN.out.1, HN.out.2]; exact T2⟩
        case measure => simp [intOf]; omega
      | true =>
        have HH := Lib.hid hh
        by_cases hz : soC f g d q = 0
        · have HN := Lib.hid (so_first HR.out hq0 hlt hh hz)
          rw [hz] at T1
          clear hz hh HB
          go_wp2_with fail
          refine (rwhas_v HH.out _).mono ?_; rintro e w2 ⟨rfl, x2⟩
          have T2 := T1.ext x2
          clear T1 x2 a0 a1 b0 b1
          have o0 := T2.o0; have o1 := T2.o1; have z0 := T2.z 0; have z1 := T2.z 1
          have T3 := (T2.from_ q).count 1
          clear T2
          go_wp2
          go_roundw
          case rel => exact ⟨q + 1, by omega, by omega, by go_num, by rw [HN.out.1, HN.out.2]; exact T3⟩
          case measure => simp [intOf]; omega
        · have HN := Lib.hid (so_more HR.out hq0 hlt hh hz)
          obtain ⟨C, hC⟩ : ∃ C, C = soC f g d q := ⟨_, rfl⟩
          rw [← hC] at T1 hz HB
          have HC := Lib.hid hC
          obtain ⟨d0, d1⟩ := HB.out
          have hz1 : (C == 0) = false := by simpa using hz
          clear hh hC HB hz
          go_wp2_with fail
          refine (rwhas_v HH.out _).mono ?_; rintro e w2 ⟨rfl, x2⟩
          have T2 := T1.ext x2
          clear T1 x2 a0 a1 b0 b1
          have o0 := T2.o0; have o1 := T2.o1; have z0 := T2.z 0; have z1 := T2.z 1
          have T3 := T2.count (C + 1)
          clear T2
          go_wp2
          go_roundw
          case rel => exact ⟨q + 1, by omega, by omega, by go_num, by rw [HN.out.1, HN.out.2, ← HC.out]; exact T3⟩
          case measure => simp [intOf]; omega
    · obtain rfl : q = f + c := by omega
      clear hq0 hq1 hlt
      have o4 := T1.o
      have r4 := T1.r
      have y4 := T1.done
      clear T1
      go_wp2_with (first | (refine wpList_load_row rfl 23 (.tmp 5) rfl (w.heap.size + 1 + 1 + 1) rfl 23 _ (0, 0) _ o4 Try.underlying23 rfl (by kernel_rfl) ?_) | (refine wpList_store_row rfl 23 (.tmp 4) (.tmp 34) rfl (w.heap.size + 1 + 1) _ rfl rfl 23 _ r4 (by kernel_rfl) rfl (by simp [Value.oneCell']) ?_))
      refine bodyPost_ret (results_cell_row rfl _ _ (w.heap.size + 1 + 1) 23 _ (0, 0) _ rfl (setRow_heap _ _ _ _ _ _ r4) Try.underlying23 rfl (by kernel_rfl)) rfl ⟨?_, y4⟩
      rw [HE.out]
theorem rwcut_any (f c g d : Int) (w : World) : Calls Try.prog 16 #[.agg #[.int .i64 f, .int .i64 c], .agg #[.int .i64 g, .int .i64 d]] w fun e w' => e = .returned (.agg #[.int .i64 (cutF f c g d), .int .i64 (cutC f c g d)]) ∧ Ext w w' := by
  cases h : rgtB f c with
  | false => exact rwcut_no f c g d w h
  | true => exact rwcut_yes f c g d w h
theorem rwcut_v {f c g d F C : Int} (hF : cutF f c g d = F) (hC : cutC f c g d = C) (w : World) : Calls Try.prog 16 #[.agg #[.int .i64 f, .int .i64 c], .agg #[.int .i64 g, .int .i64 d]] w fun e w' => e = .returned (.agg #[.int .i64 F, .int .i64 C]) ∧ Ext w w' := hF ▸ hC ▸ rwcut_any f c g d w
end Go.Proofs.Ytpolopggaolodaa
