/-
  THE LAWS OF LAYER 14: an operation, both ways (package file's contracts as premises).
-/
import Derived.Test.YtkfpnijacfeogaaFilC
import Derived.Test.YtkfpnijacfeogaaFilU
import Derived.Test.YtkfpnijacfeogaaFilN
import Derived.Test.YtkfpnijacfeogaaStepStore
namespace Go.Proofs.Ytkfpnijacfeogaa
open Go.RowKit
set_option linter.unusedVariables false

theorem opF_yes {F : Fil} {o : Ope} (h : opE F o = 0) : opF F o = opX F o := by unfold opF; rw [if_pos h]
theorem opF_no {F : Fil} {o : Ope} (h : opE F o ≠ 0) : opF F o = F := by unfold opF; rw [if_neg h]
theorem From.of_from {w W : World} {V V' : FilV} {F F' : Fil} (h : From W V F V' F') (o : FilOff (fun i => w.heap.size ≤ i ∧ i < w.heap.size + 5) V F) (hz : w.heap.size + 5 ≤ W.heap.size) : FilOff (fun i => w.heap.size ≤ i ∧ i < w.heap.size + 5) V' F' :=
  h.off o (fun i hi => Nat.lt_of_lt_of_le hi.2 hz)
/-- What is told in the end. -/
theorem op_told {w wr : World} {V : FilV} {F : Fil} {U : OpeV} {o : Ope} {VA : FilV} {A : Fil} {VB : FilV} {B : Fil} (h : OpS w wr V F U o VA A VB B) :
    (FilAt (wr.setRow (w.heap.size + 1 + 1) (filC V F)) V F ∧ Ext w (wr.setRow (w.heap.size + 1 + 1) (filC V F)) ∧ From w V F V F) ∧
    (FilAt (wr.setRow (w.heap.size + 1 + 1) (filC VB B)) VB B ∧ Ext w (wr.setRow (w.heap.size + 1 + 1) (filC VB B)) ∧ From w V F VB B) :=
  ⟨⟨h.f.keep (keep_in (w := w) (g := w.heap.size + 1 + 1) _ (by omega) (by omega)) h.ff, below_setRow h.x (by omega) _, From.refl _ _ _⟩,
   ⟨h.b.keep (keep_in (w := w) (g := w.heap.size + 1 + 1) _ (by omega) (by omega)) h.bb, below_setRow h.x (by omega) _, h.fb⟩⟩
set_option maxRecDepth 100000 in
set_option maxHeartbeats 8000000 in
theorem op14_bits (V : FilV) (F : Fil) (U : OpeV) (o : Ope) (w : World) (hk : o.k = 0) (hf : FilAt w V F) (ho : OpeAt w U o) (hw : OpeW o) (hs : Small F) (hnb : o.nb ≤ 1000000) (hnr : o.nr ≤ 1000000) (hp : FSetBitsC 26) :
    Calls Try.prog 13 #[.agg (filC V F), .agg (opeC U o)] w fun e w' => ∃ V', e = .returned (.tuple #[.agg (filC V' (opF F o)), .bool true]) ∧ FilAt w' V' (opF F o) ∧ Ext w w' ∧ From w V F V' (opF F o) := by
  have hE : opE F o = sbE F o.x o.nb := by unfold opE; simp [hk]
  have hX : opX F o = sbF F o.x o.nb o.B := by unfold opX; simp [hk]
  have K1 := Lib.hid (fun w' (h : FilAt w' V F) (f : OpeAt w' U o) => hp V F o.x U.a1 o.nb U.d1 o.B w' h f.h1 f.l1 f.m1 hnb hw.wx)
  have K2 := Lib.hid (fun w' (h : FilAt w' V F) (f : OpeAt w' U o) => rsetbits14_any V F o.x U.a1 o.nb U.d1 o.B w' h f.h1 hnb)
  have hsx : Small (sbF F o.x o.nb o.B) := small_sb hs _ _ _
  rw [← hE, ← hX] at K1 K2
  rw [← hX] at hsx
  unfold FP at K1 K2
  have HS := Lib.hid (fun w' V1 V2 (h : FilAt w' V1 (opX F o)) (g : FilAt w' V2 (opX F o)) => rsame14_v (sameF_self _) w' h g hsx.all hsx.all)
  have HF := Lib.hid (And.intro hf ho)
  by_cases h0 : opE F o = 0
  · rw [opF_yes h0]
    rw [h0] at K1 K2
    generalize opX F o = X at *
    clear hE hX h0 hs hsx hp hnb hnr hf ho hw
    obtain ⟨wS, hwS, s0⟩ : ∃ wS, wS = (((((w.alloc (.cells (filC V F) 31)).alloc (.cells (opeC U o) 40)).alloc (.cells #[.int .i64 0, .int .i64 0, .int .i64 0, .int .i64 0, .int .i64 0, .int .i64 0, .int .i64 0, .int .i64 0, .int .i64 0, .int .i64 0, .slice none 0 0, .slice none 0 0, .slice none 0 0, .slice none 0 0] 31)).alloc (.cells #[.int .i64 0, .int .i64 0, .int .i64 0, .int .i64 0, .int .i64 0, .int .i64 0, .int .i64 0, .int .i64 0, .int .i64 0, .int .i64 0, .slice none 0 0, .slice none 0 0, .slice none 0 0, .slice none 0 0] 31)).alloc (.cells #[.int .i64 0, .int .i64 0, .int .i64 0, .int .i64 0, .int .i64 0, .int .i64 0, .int .i64 0, .int .i64 0, .int .i64 0, .int .i64 0, .slice none 0 0, .slice none 0 0, .slice none 0 0, .slice none 0 0] 31)) ∧ OpS w wS V F U o zeroV zeroF zeroV zeroF := ⟨_, rfl, OpS.start HF.out.1 HF.out.2⟩
    go_enter Try.func13, Try.ntmps13
    go_upto_region 2 with fail
    rw [← hwS]
    clear hwS
    have c0 := s0.c0
    have c1 := s0.c1
    have c4 := s0.c4
    rw [hk] at c0
    go_wp2_with (first | (refine wpList_load_row rfl 31 (.tmp 2) rfl (w.heap.size) rfl 31 _ (0, 0) _ s0.g2 Try.underlying31 rfl (by kernel_rfl) ?_))
    refine (K1.out _ s0.f s0.fo).mono ?_; rintro e w1 ⟨V1, rfl, f1, x1, m1⟩
    have s1 := (s0.ext x1).setA f1 (m1.of_from s0.ff s0.z)
    have s1' := s0.ext x1
    clear f1 x1 m1 s0
    clear c0 c1 c4
    have c0 := s1.c0
    have c1 := s1.c1
    have c4 := s1.c4
    rw [hk] at c0
    go_wp2_with (first
      | (refine wpList_load_row rfl 31 (.tmp 2) rfl (w.heap.size) rfl 31 _ (0, 0) _ s1.g2 Try.underlying31 rfl (by kernel_rfl) ?_)
      | (refine wpList_store_row rfl 31 (.tmp 6) (.tmp 24) rfl (w.heap.size + 1 + 1 + 1) _ rfl rfl 31 _ s1'.g6 (by kernel_rfl) rfl (by simp [filC, Value.oneCell']) ?_))
    refine (K2.out _ s1.f s1.fo).mono ?_; rintro e w2 ⟨V2, rfl, f2, x2, m2⟩
    have s2 := (s1.ext x2).setB f2 (m2.of_from s1.ff s1.z) (From.trans (From.refl w V F) m2 s1.x)
    have s2' := s1.ext x2
    clear f2 x2 m2 s1 s1'
    clear c0 c1 c4
    go_wp2_with (first
      | (refine wpList_store_row rfl 31 (.tmp 7) (.tmp 33) rfl (w.heap.size + 1 + 1 + 1 + 1) _ rfl rfl 31 _ s2'.g7 (by kernel_rfl) rfl (by simp [filC, Value.oneCell']) ?_)
      | (refine wpList_load_row rfl 31 (.tmp 6) rfl (w.heap.size + 1 + 1 + 1) rfl 31 _ (0, 0) _ s2.g6 Try.underlying31 rfl (by kernel_rfl) ?_)
      | (refine wpList_load_row rfl 31 (.tmp 7) rfl (w.heap.size + 1 + 1 + 1 + 1) rfl 31 _ (0, 0) _ s2.g7 Try.underlying31 rfl (by kernel_rfl) ?_))
    refine (HS.out _ _ _ s2.a s2.b).mono ?_; rintro e w3 ⟨rfl, x3⟩
    have s3 := s2.ext x3
    clear s2 s2' x3
    go_wp2_with (first
      | (refine wpList_load_row rfl 31 (.tmp 7) rfl (w.heap.size + 1 + 1 + 1 + 1) rfl 31 _ (0, 0) _ s3.g7 Try.underlying31 rfl (by kernel_rfl) ?_)
      | (refine wpList_store_row rfl 31 (.tmp 4) (.tmp 95) rfl (w.heap.size + 1 + 1) _ rfl rfl 31 _ s3.g4 (by kernel_rfl) rfl (by simp [filC, Value.oneCell']) ?_))
    refine bodyPost_ret (results_row_tmp rfl _ _ (w.heap.size + 1 + 1) 31 _ (0, 0) _ rfl (setRow_heap _ _ _ _ _ _ s3.g4) Try.underlying31 rfl (by kernel_rfl)) rfl ⟨V2, rfl, (op_told s3).2⟩
  · rw [opF_no h0]
    generalize opX F o = X at *
    generalize opE F o = E at *
    clear hE hX hs hsx hp hnb hnr hf ho hw
    obtain ⟨wS, hwS, s0⟩ : ∃ wS, wS = (((((w.alloc (.cells (filC V F) 31)).alloc (.cells (opeC U o) 40)).alloc (.cells #[.int .i64 0, .int .i64 0, .int .i64 0, .int .i64 0, .int .i64 0, .int .i64 0, .int .i64 0, .int .i64 0, .int .i64 0, .int .i64 0, .slice none 0 0, .slice none 0 0, .slice none 0 0, .slice none 0 0] 31)).alloc (.cells #[.int .i64 0, .int .i64 0, .int .i64 0, .int .i64 0, .int .i64 0, .int .i64 0, .int .i64 0, .int .i64 0, .int .i64 0, .int .i64 0, .slice none 0 0, .slice none 0 0, .slice none 0 0, .slice none 0 0] 31)).alloc (.cells #[.int .i64 0, .int .i64 0, .int .i64 0, .int .i64 0, .int .i64 0, .int .i64 0, .int .i64 0, .int .i64 0, .int .i64 0, .int .i64 0, .slice none 0 0, .slice none 0 0, .slice none 0 0, .slice none 0 0] 31)) ∧ OpS w wS V F U o zeroV zeroF zeroV zeroF := ⟨_, rfl, OpS.start HF.out.1 HF.out.2⟩
    go_enter Try.func13, Try.ntmps13
    go_upto_region 2 with fail
    rw [← hwS]
    clear hwS
    have c0 := s0.c0
    have c1 := s0.c1
    have c4 := s0.c4
    rw [hk] at c0
    go_wp2_with (first | (refine wpList_load_row rfl 31 (.tmp 2) rfl (w.heap.size) rfl 31 _ (0, 0) _ s0.g2 Try.underlying31 rfl (by kernel_rfl) ?_))
    refine (K1.out _ s0.f s0.fo).mono ?_; rintro e w1 ⟨V1, rfl, f1, x1, m1⟩
    have s1 := (s0.ext x1).setA f1 (m1.of_from s0.ff s0.z)
    have s1' := s0.ext x1
    clear f1 x1 m1 s0
    clear c0 c1 c4
    have c0 := s1.c0
    have c1 := s1.c1
    have c4 := s1.c4
    rw [hk] at c0
    go_wp2_with (first
      | (refine wpList_load_row rfl 31 (.tmp 2) rfl (w.heap.size) rfl 31 _ (0, 0) _ s1.g2 Try.underlying31 rfl (by kernel_rfl) ?_)
      | (refine wpList_store_row rfl 31 (.tmp 6) (.tmp 24) rfl (w.heap.size + 1 + 1 + 1) _ rfl rfl 31 _ s1'.g6 (by kernel_rfl) rfl (by simp [filC, Value.oneCell']) ?_))
    refine (K2.out _ s1.f s1.fo).mono ?_; rintro e w2 ⟨V2, rfl, f2, x2, m2⟩
    have s2 := (s1.ext x2).setB f2 (m2.of_from s1.ff s1.z) (From.trans (From.refl w V F) m2 s1.x)
    have s2' := s1.ext x2
    clear f2 x2 m2 s1 s1'
    clear c0 c1 c4
    go_wp2_with (first
      | (refine wpList_store_row rfl 31 (.tmp 7) (.tmp 33) rfl (w.heap.size + 1 + 1 + 1 + 1) _ rfl rfl 31 _ s2'.g7 (by kernel_rfl) rfl (by simp [filC, Value.oneCell']) ?_)
      | (refine wpList_load_row rfl 31 (.tmp 6) rfl (w.heap.size + 1 + 1 + 1) rfl 31 _ (0, 0) _ s2.g6 Try.underlying31 rfl (by kernel_rfl) ?_)
      | (refine wpList_load_row rfl 31 (.tmp 7) rfl (w.heap.size + 1 + 1 + 1 + 1) rfl 31 _ (0, 0) _ s2.g7 Try.underlying31 rfl (by kernel_rfl) ?_))
    refine (HS.out _ _ _ s2.a s2.b).mono ?_; rintro e w3 ⟨rfl, x3⟩
    have s3 := s2.ext x3
    clear s2 s2' x3
    go_wp2_with (first
      | (refine wpList_load_row rfl 31 (.tmp 2) rfl (w.heap.size) rfl 31 _ (0, 0) _ s3.g2 Try.underlying31 rfl (by kernel_rfl) ?_)
      | (refine wpList_store_row rfl 31 (.tmp 4) (.tmp 94) rfl (w.heap.size + 1 + 1) _ rfl rfl 31 _ s3.g4 (by kernel_rfl) rfl (by simp [filC, Value.oneCell']) ?_))
    refine bodyPost_ret (results_row_tmp rfl _ _ (w.heap.size + 1 + 1) 31 _ (0, 0) _ rfl (setRow_heap _ _ _ _ _ _ s3.g4) Try.underlying31 rfl (by kernel_rfl)) rfl ⟨V, rfl, (op_told s3).1⟩
set_option maxRecDepth 100000 in
set_option maxHeartbeats 8000000 in
theorem op14_words (V : FilV) (F : Fil) (U : OpeV) (o : Ope) (w : World) (hk : o.k = 1) (hf : FilAt w V F) (ho : OpeAt w U o) (hw : OpeW o) (hs : Small F) (hnb : o.nb ≤ 1000000) (hnr : o.nr ≤ 1000000) (hp : FSetWordsC 21) :
    Calls Try.prog 13 #[.agg (filC V F), .agg (opeC U o)] w fun e w' => ∃ V', e = .returned (.tuple #[.agg (filC V' (opF F o)), .bool true]) ∧ FilAt w' V' (opF F o) ∧ Ext w w' ∧ From w V F V' (opF F o) := by
  have hE : opE F o = swE F o.x o.nr := by unfold opE; simp [hk]
  have hX : opX F o = swF F o.x o.nr o.R := by unfold opX; simp [hk]
  have K1 := Lib.hid (fun w' (h : FilAt w' V F) (f : OpeAt w' U o) => hp V F o.x U.a2 o.nr U.d2 o.R w' h f.h2 f.l2 f.m2 hnr hw.wx)
  have K2 := Lib.hid (fun w' (h : FilAt w' V F) (f : OpeAt w' U o) => rsetwords14_any V F o.x U.a2 o.nr U.d2 o.R w' h f.h2 hnr hw.wx)
  have hsx : Small (swF F o.x o.nr o.R) := small_sw hs _ _ _
  rw [← hE, ← hX] at K1 K2
  rw [← hX] at hsx
  unfold FP at K1 K2
  have HS := Lib.hid (fun w' V1 V2 (h : FilAt w' V1 (opX F o)) (g : FilAt w' V2 (opX F o)) => rsame14_v (sameF_self _) w' h g hsx.all hsx.all)
  have HF := Lib.hid (And.intro hf ho)
  by_cases h0 : opE F o = 0
  · rw [opF_yes h0]
    rw [h0] at K1 K2
    generalize opX F o = X at *
    clear hE hX h0 hs hsx hp hnb hnr hf ho hw
    obtain ⟨wS, hwS, s0⟩ : ∃ wS, wS = (((((w.alloc (.cells (filC V F) 31)).alloc (.cells (opeC U o) 40)).alloc (.cells #[.int .i64 0, .int .i64 0, .int .i64 0, .int .i64 0, .int .i64 0, .int .i64 0, .int .i64 0, .int .i64 0, .int .i64 0, .int .i64 0, .slice none 0 0, .slice none 0 0, .slice none 0 0, .slice none 0 0] 31)).alloc (.cells #[.int .i64 0, .int .i64 0, .int .i64 0, .int .i64 0, .int .i64 0, .int .i64 0, .int .i64 0, .int .i64 0, .int .i64 0, .int .i64 0, .slice none 0 0, .slice none 0 0, .slice none 0 0, .slice none 0 0] 31)).alloc (.cells #[.int .i64 0, .int .i64 0, .int .i64 0, .int .i64 0, .int .i64 0, .int .i64 0, .int .i64 0, .int .i64 0, .int .i64 0, .int .i64 0, .slice none 0 0, .slice none 0 0, .slice none 0 0, .slice none 0 0] 31)) ∧ OpS w wS V F U o zeroV zeroF zeroV zeroF := ⟨_, rfl, OpS.start HF.out.1 HF.out.2⟩
    go_enter Try.func13, Try.ntmps13
    go_upto_region 2 with fail
    rw [← hwS]
    clear hwS
    have c0 := s0.c0
    have c1 := s0.c1
    have c5 := s0.c5
    rw [hk] at c0
    go_wp2_with (first | (refine wpList_load_row rfl 31 (.tmp 2) rfl (w.heap.size) rfl 31 _ (0, 0) _ s0.g2 Try.underlying31 rfl (by kernel_rfl) ?_))
    refine (K1.out _ s0.f s0.fo).mono ?_; rintro e w1 ⟨V1, rfl, f1, x1, m1⟩
    have s1 := (s0.ext x1).setA f1 (m1.of_from s0.ff s0.z)
    have s1' := s0.ext x1
    clear f1 x1 m1 s0
    clear c0 c1 c5
    have c0 := s1.c0
    have c1 := s1.c1
    have c5 := s1.c5
    rw [hk] at c0
    go_wp2_with (first
      | (refine wpList_load_row rfl 31 (.tmp 2) rfl (w.heap.size) rfl 31 _ (0, 0) _ s1.g2 Try.underlying31 rfl (by kernel_rfl) ?_)
      | (refine wpList_store_row rfl 31 (.tmp 6) (.tmp 44) rfl (w.heap.size + 1 + 1 + 1) _ rfl rfl 31 _ s1'.g6 (by kernel_rfl) rfl (by simp [filC, Value.oneCell']) ?_))
    refine (K2.out _ s1.f s1.fo).mono ?_; rintro e w2 ⟨V2, rfl, f2, x2, m2⟩
    have s2 := (s1.ext x2).setB f2 (m2.of_from s1.ff s1.z) (From.trans (From.refl w V F) m2 s1.x)
    have s2' := s1.ext x2
    clear f2 x2 m2 s1 s1'
    clear c0 c1 c5
    go_wp2_with (first
      | (refine wpList_store_row rfl 31 (.tmp 7) (.tmp 53) rfl (w.heap.size + 1 + 1 + 1 + 1) _ rfl rfl 31 _ s2'.g7 (by kernel_rfl) rfl (by simp [filC, Value.oneCell']) ?_)
      | (refine wpList_load_row rfl 31 (.tmp 6) rfl (w.heap.size + 1 + 1 + 1) rfl 31 _ (0, 0) _ s2.g6 Try.underlying31 rfl (by kernel_rfl) ?_)
      | (refine wpList_load_row rfl 31 (.tmp 7) rfl (w.heap.size + 1 + 1 + 1 + 1) rfl 31 _ (0, 0) _ s2.g7 Try.underlying31 rfl (by kernel_rfl) ?_))
    refine (HS.out _ _ _ s2.a s2.b).mono ?_; rintro e w3 ⟨rfl, x3⟩
    have s3 := s2.ext x3
    clear s2 s2' x3
    go_wp2_with (first
      | (refine wpList_load_row rfl 31 (.tmp 7) rfl (w.heap.size + 1 + 1 + 1 + 1) rfl 31 _ (0, 0) _ s3.g7 Try.underlying31 rfl (by kernel_rfl) ?_)
      | (refine wpList_store_row rfl 31 (.tmp 4) (.tmp 95) rfl (w.heap.size + 1 + 1) _ rfl rfl 31 _ s3.g4 (by kernel_rfl) rfl (by simp [filC, Value.oneCell']) ?_))
    refine bodyPost_ret (results_row_tmp rfl _ _ (w.heap.size + 1 + 1) 31 _ (0, 0) _ rfl (setRow_heap _ _ _ _ _ _ s3.g4) Try.underlying31 rfl (by kernel_rfl)) rfl ⟨V2, rfl, (op_told s3).2⟩
  · rw [opF_no h0]
    generalize opX F o = X at *
    generalize opE F o = E at *
    clear hE hX hs hsx hp hnb hnr hf ho hw
    obtain ⟨wS, hwS, s0⟩ : ∃ wS, wS = (((((w.alloc (.cells (filC V F) 31)).alloc (.cells (opeC U o) 40)).alloc (.cells #[.int .i64 0, .int .i64 0, .int .i64 0, .int .i64 0, .int .i64 0, .int .i64 0, .int .i64 0, .int .i64 0, .int .i64 0, .int .i64 0, .slice none 0 0, .slice none 0 0, .slice none 0 0, .slice none 0 0] 31)).alloc (.cells #[.int .i64 0, .int .i64 0, .int .i64 0, .int .i64 0, .int .i64 0, .int .i64 0, .int .i64 0, .int .i64 0, .int .i64 0, .int .i64 0, .slice none 0 0, .slice none 0 0, .slice none 0 0, .slice none 0 0] 31)).alloc (.cells #[.int .i64 0, .int .i64 0, .int .i64 0, .int .i64 0, .int .i64 0, .int .i64 0, .int .i64 0, .int .i64 0, .int .i64 0, .int .i64 0, .slice none 0 0, .slice none 0 0, .slice none 0 0, .slice none 0 0] 31)) ∧ OpS w wS V F U o zeroV zeroF zeroV zeroF := ⟨_, rfl, OpS.start HF.out.1 HF.out.2⟩
    go_enter Try.func13, Try.ntmps13
    go_upto_region 2 with fail
    rw [← hwS]
    clear hwS
    have c0 := s0.c0
    have c1 := s0.c1
    have c5 := s0.c5
    rw [hk] at c0
    go_wp2_with (first | (refine wpList_load_row rfl 31 (.tmp 2) rfl (w.heap.size) rfl 31 _ (0, 0) _ s0.g2 Try.underlying31 rfl (by kernel_rfl) ?_))
    refine (K1.out _ s0.f s0.fo).mono ?_; rintro e w1 ⟨V1, rfl, f1, x1, m1⟩
    have s1 := (s0.ext x1).setA f1 (m1.of_from s0.ff s0.z)
    have s1' := s0.ext x1
    clear f1 x1 m1 s0
    clear c0 c1 c5
    have c0 := s1.c0
    have c1 := s1.c1
    have c5 := s1.c5
    rw [hk] at c0
    go_wp2_with (first
      | (refine wpList_load_row rfl 31 (.tmp 2) rfl (w.heap.size) rfl 31 _ (0, 0) _ s1.g2 Try.underlying31 rfl (by kernel_rfl) ?_)
      | (refine wpList_store_row rfl 31 (.tmp 6) (.tmp 44) rfl (w.heap.size + 1 + 1 + 1) _ rfl rfl 31 _ s1'.g6 (by kernel_rfl) rfl (by simp [filC, Value.oneCell']) ?_))
    refine (K2.out _ s1.f s1.fo).mono ?_; rintro e w2 ⟨V2, rfl, f2, x2, m2⟩
    have s2 := (s1.ext x2).setB f2 (m2.of_from s1.ff s1.z) (From.trans (From.refl w V F) m2 s1.x)
    have s2' := s1.ext x2
    clear f2 x2 m2 s1 s1'
    clear c0 c1 c5
    go_wp2_with (first
      | (refine wpList_store_row rfl 31 (.tmp 7) (.tmp 53) rfl (w.heap.size + 1 + 1 + 1 + 1) _ rfl rfl 31 _ s2'.g7 (by kernel_rfl) rfl (by simp [filC, Value.oneCell']) ?_)
      | (refine wpList_load_row rfl 31 (.tmp 6) rfl (w.heap.size + 1 + 1 + 1) rfl 31 _ (0, 0) _ s2.g6 Try.underlying31 rfl (by kernel_rfl) ?_)
      | (refine wpList_load_row rfl 31 (.tmp 7) rfl (w.heap.size + 1 + 1 + 1 + 1) rfl 31 _ (0, 0) _ s2.g7 Try.underlying31 rfl (by kernel_rfl) ?_))
    refine (HS.out _ _ _ s2.a s2.b).mono ?_; rintro e w3 ⟨rfl, x3⟩
    have s3 := s2.ext x3
    clear s2 s2' x3
    go_wp2_with (first
      | (refine wpList_load_row rfl 31 (.tmp 2) rfl (w.heap.size) rfl 31 _ (0, 0) _ s3.g2 Try.underlying31 rfl (by kernel_rfl) ?_)
      | (refine wpList_store_row rfl 31 (.tmp 4) (.tmp 94) rfl (w.heap.size + 1 + 1) _ rfl rfl 31 _ s3.g4 (by kernel_rfl) rfl (by simp [filC, Value.oneCell']) ?_))
    refine bodyPost_ret (results_row_tmp rfl _ _ (w.heap.size + 1 + 1) 31 _ (0, 0) _ rfl (setRow_heap _ _ _ _ _ _ s3.g4) Try.underlying31 rfl (by kernel_rfl)) rfl ⟨V, rfl, (op_told s3).1⟩
set_option maxRecDepth 100000 in
set_option maxHeartbeats 8000000 in
theorem op14_in (V : FilV) (F : Fil) (U : OpeV) (o : Ope) (w : World) (hk : o.k = 2) (hf : FilAt w V F) (ho : OpeAt w U o) (hw : OpeW o) (hs : Small F) (hnb : o.nb ≤ 1000000) (hnr : o.nr ≤ 1000000) (hp : FSenseC 22) :
    Calls Try.prog 13 #[.agg (filC V F), .agg (opeC U o)] w fun e w' => ∃ V', e = .returned (.tuple #[.agg (filC V' (opF F o)), .bool true]) ∧ FilAt w' V' (opF F o) ∧ Ext w w' ∧ From w V F V' (opF F o) := by
  have hE : opE F o = seE F false o.x := by unfold opE; simp [hk]
  have hX : opX F o = seF F false o.x o.v := by unfold opX; simp [hk]
  have K1 := Lib.hid (fun w' (h : FilAt w' V F) (f : OpeAt w' U o) => hp V F false o.x o.v w' h hw.wx hw.wv)
  have K2 := Lib.hid (fun w' (h : FilAt w' V F) (f : OpeAt w' U o) => rsense14_bits V F o.x o.v w' h hw.wv)
  have hsx : Small (seF F false o.x o.v) := small_se hs _ _ _
  rw [← hE, ← hX] at K1 K2
  rw [← hX] at hsx
  unfold FP at K1 K2
  have HS := Lib.hid (fun w' V1 V2 (h : FilAt w' V1 (opX F o)) (g : FilAt w' V2 (opX F o)) => rsame14_v (sameF_self _) w' h g hsx.all hsx.all)
  have HF := Lib.hid (And.intro hf ho)
  by_cases h0 : opE F o = 0
  · rw [opF_yes h0]
    rw [h0] at K1 K2
    generalize opX F o = X at *
    clear hE hX h0 hs hsx hp hnb hnr hf ho hw
    obtain ⟨wS, hwS, s0⟩ : ∃ wS, wS = (((((w.alloc (.cells (filC V F) 31)).alloc (.cells (opeC U o) 40)).alloc (.cells #[.int .i64 0, .int .i64 0, .int .i64 0, .int .i64 0, .int .i64 0, .int .i64 0, .int .i64 0, .int .i64 0, .int .i64 0, .int .i64 0, .slice none 0 0, .slice none 0 0, .slice none 0 0, .slice none 0 0] 31)).alloc (.cells #[.int .i64 0, .int .i64 0, .int .i64 0, .int .i64 0, .int .i64 0, .int .i64 0, .int .i64 0, .int .i64 0, .int .i64 0, .int .i64 0, .slice none 0 0, .slice none 0 0, .slice none 0 0, .slice none 0 0] 31)).alloc (.cells #[.int .i64 0, .int .i64 0, .int .i64 0, .int .i64 0, .int .i64 0, .int .i64 0, .int .i64 0, .int .i64 0, .int .i64 0, .int .i64 0, .slice none 0 0, .slice none 0 0, .slice none 0 0, .slice none 0 0] 31)) ∧ OpS w wS V F U o zeroV zeroF zeroV zeroF := ⟨_, rfl, OpS.start HF.out.1 HF.out.2⟩
    go_enter Try.func13, Try.ntmps13
    go_upto_region 2 with fail
    rw [← hwS]
    clear hwS
    have c0 := s0.c0
    have c1 := s0.c1
    have c3 := s0.c3
    rw [hk] at c0
    go_wp2_with (first | (refine wpList_load_row rfl 31 (.tmp 2) rfl (w.heap.size) rfl 31 _ (0, 0) _ s0.g2 Try.underlying31 rfl (by kernel_rfl) ?_))
    refine (K1.out _ s0.f s0.fo).mono ?_; rintro e w1 ⟨V1, rfl, f1, x1, m1⟩
    have s1 := (s0.ext x1).setA f1 (m1.of_from s0.ff s0.z)
    have s1' := s0.ext x1
    clear f1 x1 m1 s0
    clear c0 c1 c3
    have c0 := s1.c0
    have c1 := s1.c1
    have c3 := s1.c3
    rw [hk] at c0
    go_wp2_with (first
      | (refine wpList_load_row rfl 31 (.tmp 2) rfl (w.heap.size) rfl 31 _ (0, 0) _ s1.g2 Try.underlying31 rfl (by kernel_rfl) ?_)
      | (refine wpList_store_row rfl 31 (.tmp 6) (.tmp 68) rfl (w.heap.size + 1 + 1 + 1) _ rfl rfl 31 _ s1'.g6 (by kernel_rfl) rfl (by simp [filC, Value.oneCell']) ?_))
    refine (K2.out _ s1.f s1.fo).mono ?_; rintro e w2 ⟨V2, rfl, f2, x2, m2⟩
    have s2 := (s1.ext x2).setB f2 (m2.of_from s1.ff s1.z) (From.trans (From.refl w V F) m2 s1.x)
    have s2' := s1.ext x2
    clear f2 x2 m2 s1 s1'
    clear c0 c1 c3
    go_wp2_with (first
      | (refine wpList_store_row rfl 31 (.tmp 7) (.tmp 80) rfl (w.heap.size + 1 + 1 + 1 + 1) _ rfl rfl 31 _ s2'.g7 (by kernel_rfl) rfl (by simp [filC, Value.oneCell']) ?_)
      | (refine wpList_load_row rfl 31 (.tmp 6) rfl (w.heap.size + 1 + 1 + 1) rfl 31 _ (0, 0) _ s2.g6 Try.underlying31 rfl (by kernel_rfl) ?_)
      | (refine wpList_load_row rfl 31 (.tmp 7) rfl (w.heap.size + 1 + 1 + 1 + 1) rfl 31 _ (0, 0) _ s2.g7 Try.underlying31 rfl (by kernel_rfl) ?_))
    refine (HS.out _ _ _ s2.a s2.b).mono ?_; rintro e w3 ⟨rfl, x3⟩
    have s3 := s2.ext x3
    clear s2 s2' x3
    go_wp2_with (first
      | (refine wpList_load_row rfl 31 (.tmp 7) rfl (w.heap.size + 1 + 1 + 1 + 1) rfl 31 _ (0, 0) _ s3.g7 Try.underlying31 rfl (by kernel_rfl) ?_)
      | (refine wpList_store_row rfl 31 (.tmp 4) (.tmp 95) rfl (w.heap.size + 1 + 1) _ rfl rfl 31 _ s3.g4 (by kernel_rfl) rfl (by simp [filC, Value.oneCell']) ?_))
    refine bodyPost_ret (results_row_tmp rfl _ _ (w.heap.size + 1 + 1) 31 _ (0, 0) _ rfl (setRow_heap _ _ _ _ _ _ s3.g4) Try.underlying31 rfl (by kernel_rfl)) rfl ⟨V2, rfl, (op_told s3).2⟩
  · rw [opF_no h0]
    generalize opX F o = X at *
    generalize opE F o = E at *
    clear hE hX hs hsx hp hnb hnr hf ho hw
    obtain ⟨wS, hwS, s0⟩ : ∃ wS, wS = (((((w.alloc (.cells (filC V F) 31)).alloc (.cells (opeC U o) 40)).alloc (.cells #[.int .i64 0, .int .i64 0, .int .i64 0, .int .i64 0, .int .i64 0, .int .i64 0, .int .i64 0, .int .i64 0, .int .i64 0, .int .i64 0, .slice none 0 0, .slice none 0 0, .slice none 0 0, .slice none 0 0] 31)).alloc (.cells #[.int .i64 0, .int .i64 0, .int .i64 0, .int .i64 0, .int .i64 0, .int .i64 0, .int .i64 0, .int .i64 0, .int .i64 0, .int .i64 0, .slice none 0 0, .slice none 0 0, .slice none 0 0, .slice none 0 0] 31)).alloc (.cells #[.int .i64 0, .int .i64 0, .int .i64 0, .int .i64 0, .int .i64 0, .int .i64 0, .int .i64 0, .int .i64 0, .int .i64 0, .int .i64 0, .slice none 0 0, .slice none 0 0, .slice none 0 0, .slice none 0 0] 31)) ∧ OpS w wS V F U o zeroV zeroF zeroV zeroF := ⟨_, rfl, OpS.start HF.out.1 HF.out.2⟩
    go_enter Try.func13, Try.ntmps13
    go_upto_region 2 with fail
    rw [← hwS]
    clear hwS
    have c0 := s0.c0
    have c1 := s0.c1
    have c3 := s0.c3
    rw [hk] at c0
    go_wp2_with (first | (refine wpList_load_row rfl 31 (.tmp 2) rfl (w.heap.size) rfl 31 _ (0, 0) _ s0.g2 Try.underlying31 rfl (by kernel_rfl) ?_))
    refine (K1.out _ s0.f s0.fo).mono ?_; rintro e w1 ⟨V1, rfl, f1, x1, m1⟩
    have s1 := (s0.ext x1).setA f1 (m1.of_from s0.ff s0.z)
    have s1' := s0.ext x1
    clear f1 x1 m1 s0
    clear c0 c1 c3
    have c0 := s1.c0
    have c1 := s1.c1
    have c3 := s1.c3
    rw [hk] at c0
    go_wp2_with (first
      | (refine wpList_load_row rfl 31 (.tmp 2) rfl (w.heap.size) rfl 31 _ (0, 0) _ s1.g2 Try.underlying31 rfl (by kernel_rfl) ?_)
      | (refine wpList_store_row rfl 31 (.tmp 6) (.tmp 68) rfl (w.heap.size + 1 + 1 + 1) _ rfl rfl 31 _ s1'.g6 (by kernel_rfl) rfl (by simp [filC, Value.oneCell']) ?_))
    refine (K2.out _ s1.f s1.fo).mono ?_; rintro e w2 ⟨V2, rfl, f2, x2, m2⟩
    have s2 := (s1.ext x2).setB f2 (m2.of_from s1.ff s1.z) (From.trans (From.refl w V F) m2 s1.x)
    have s2' := s1.ext x2
    clear f2 x2 m2 s1 s1'
    clear c0 c1 c3
    go_wp2_with (first
      | (refine wpList_store_row rfl 31 (.tmp 7) (.tmp 80) rfl (w.heap.size + 1 + 1 + 1 + 1) _ rfl rfl 31 _ s2'.g7 (by kernel_rfl) rfl (by simp [filC, Value.oneCell']) ?_)
      | (refine wpList_load_row rfl 31 (.tmp 6) rfl (w.heap.size + 1 + 1 + 1) rfl 31 _ (0, 0) _ s2.g6 Try.underlying31 rfl (by kernel_rfl) ?_)
      | (refine wpList_load_row rfl 31 (.tmp 7) rfl (w.heap.size + 1 + 1 + 1 + 1) rfl 31 _ (0, 0) _ s2.g7 Try.underlying31 rfl (by kernel_rfl) ?_))
    refine (HS.out _ _ _ s2.a s2.b).mono ?_; rintro e w3 ⟨rfl, x3⟩
    have s3 := s2.ext x3
    clear s2 s2' x3
    go_wp2_with (first
      | (refine wpList_load_row rfl 31 (.tmp 2) rfl (w.heap.size) rfl 31 _ (0, 0) _ s3.g2 Try.underlying31 rfl (by kernel_rfl) ?_)
      | (refine wpList_store_row rfl 31 (.tmp 4) (.tmp 94) rfl (w.heap.size + 1 + 1) _ rfl rfl 31 _ s3.g4 (by kernel_rfl) rfl (by simp [filC, Value.oneCell']) ?_))
    refine bodyPost_ret (results_row_tmp rfl _ _ (w.heap.size + 1 + 1) 31 _ (0, 0) _ rfl (setRow_heap _ _ _ _ _ _ s3.g4) Try.underlying31 rfl (by kernel_rfl)) rfl ⟨V, rfl, (op_told s3).1⟩
set_option maxRecDepth 100000 in
set_option maxHeartbeats 8000000 in
theorem op14_reg (V : FilV) (F : Fil) (U : OpeV) (o : Ope) (w : World) (hk : o.k = 3) (hf : FilAt w V F) (ho : OpeAt w U o) (hw : OpeW o) (hs : Small F) (hnb : o.nb ≤ 1000000) (hnr : o.nr ≤ 1000000) (hp : FSenseC 22) :
    Calls Try.prog 13 #[.agg (filC V F), .agg (opeC U o)] w fun e w' => ∃ V', e = .returned (.tuple #[.agg (filC V' (opF F o)), .bool true]) ∧ FilAt w' V' (opF F o) ∧ Ext w w' ∧ From w V F V' (opF F o) := by
  have hE : opE F o = seE F true o.x := by unfold opE; simp [hk]
  have hX : opX F o = seF F true o.x o.v := by unfold opX; simp [hk]
  have K1 := Lib.hid (fun w' (h : FilAt w' V F) (f : OpeAt w' U o) => hp V F true o.x o.v w' h hw.wx hw.wv)
  have K2 := Lib.hid (fun w' (h : FilAt w' V F) (f : OpeAt w' U o) => rsense14_words V F o.x o.v w' h hw.wv)
  have hsx : Small (seF F true o.x o.v) := small_se hs _ _ _
  rw [← hE, ← hX] at K1 K2
  rw [← hX] at hsx
  unfold FP at K1 K2
  have HS := Lib.hid (fun w' V1 V2 (h : FilAt w' V1 (opX F o)) (g : FilAt w' V2 (opX F o)) => rsame14_v (sameF_self _) w' h g hsx.all hsx.all)
  have HF := Lib.hid (And.intro hf ho)
  by_cases h0 : opE F o = 0
  · rw [opF_yes h0]
    rw [h0] at K1 K2
    generalize opX F o = X at *
    clear hE hX h0 hs hsx hp hnb hnr hf ho hw
    obtain ⟨wS, hwS, s0⟩ : ∃ wS, wS = (((((w.alloc (.cells (filC V F) 31)).alloc (.cells (opeC U o) 40)).alloc (.cells #[.int .i64 0, .int .i64 0, .int .i64 0, .int .i64 0, .int .i64 0, .int .i64 0, .int .i64 0, .int .i64 0, .int .i64 0, .int .i64 0, .slice none 0 0, .slice none 0 0, .slice none 0 0, .slice none 0 0] 31)).alloc (.cells #[.int .i64 0, .int .i64 0, .int .i64 0, .int .i64 0, .int .i64 0, .int .i64 0, .int .i64 0, .int .i64 0, .int .i64 0, .int .i64 0, .slice none 0 0, .slice none 0 0, .slice none 0 0, .slice none 0 0] 31)).alloc (.cells #[.int .i64 0, .int .i64 0, .int .i64 0, .int .i64 0, .int .i64 0, .int .i64 0, .int .i64 0, .int .i64 0, .int .i64 0, .int .i64 0, .slice none 0 0, .slice none 0 0, .slice none 0 0, .slice none 0 0] 31)) ∧ OpS w wS V F U o zeroV zeroF zeroV zeroF := ⟨_, rfl, OpS.start HF.out.1 HF.out.2⟩
    go_enter Try.func13, Try.ntmps13
    go_upto_region 2 with fail
    rw [← hwS]
    clear hwS
    have c0 := s0.c0
    have c1 := s0.c1
    have c3 := s0.c3
    rw [hk] at c0
    go_wp2_with (first | (refine wpList_load_row rfl 31 (.tmp 2) rfl (w.heap.size) rfl 31 _ (0, 0) _ s0.g2 Try.underlying31 rfl (by kernel_rfl) ?_))
    refine (K1.out _ s0.f s0.fo).mono ?_; rintro e w1 ⟨V1, rfl, f1, x1, m1⟩
    have s1 := (s0.ext x1).setA f1 (m1.of_from s0.ff s0.z)
    have s1' := s0.ext x1
    clear f1 x1 m1 s0
    clear c0 c1 c3
    have c0 := s1.c0
    have c1 := s1.c1
    have c3 := s1.c3
    rw [hk] at c0
    go_wp2_with (first
      | (refine wpList_load_row rfl 31 (.tmp 2) rfl (w.heap.size) rfl 31 _ (0, 0) _ s1.g2 Try.underlying31 rfl (by kernel_rfl) ?_)
      | (refine wpList_store_row rfl 31 (.tmp 6) (.tmp 68) rfl (w.heap.size + 1 + 1 + 1) _ rfl rfl 31 _ s1'.g6 (by kernel_rfl) rfl (by simp [filC, Value.oneCell']) ?_))
    refine (K2.out _ s1.f s1.fo).mono ?_; rintro e w2 ⟨V2, rfl, f2, x2, m2⟩
    have s2 := (s1.ext x2).setB f2 (m2.of_from s1.ff s1.z) (From.trans (From.refl w V F) m2 s1.x)
    have s2' := s1.ext x2
    clear f2 x2 m2 s1 s1'
    clear c0 c1 c3
    go_wp2_with (first
      | (refine wpList_store_row rfl 31 (.tmp 7) (.tmp 80) rfl (w.heap.size + 1 + 1 + 1 + 1) _ rfl rfl 31 _ s2'.g7 (by kernel_rfl) rfl (by simp [filC, Value.oneCell']) ?_)
      | (refine wpList_load_row rfl 31 (.tmp 6) rfl (w.heap.size + 1 + 1 + 1) rfl 31 _ (0, 0) _ s2.g6 Try.underlying31 rfl (by kernel_rfl) ?_)
      | (refine wpList_load_row rfl 31 (.tmp 7) rfl (w.heap.size + 1 + 1 + 1 + 1) rfl 31 _ (0, 0) _ s2.g7 Try.underlying31 rfl (by kernel_rfl) ?_))
    refine (HS.out _ _ _ s2.a s2.b).mono ?_; rintro e w3 ⟨rfl, x3⟩
    have s3 := s2.ext x3
    clear s2 s2' x3
    go_wp2_with (first
      | (refine wpList_load_row rfl 31 (.tmp 7) rfl (w.heap.size + 1 + 1 + 1 + 1) rfl 31 _ (0, 0) _ s3.g7 Try.underlying31 rfl (by kernel_rfl) ?_)
      | (refine wpList_store_row rfl 31 (.tmp 4) (.tmp 95) rfl (w.heap.size + 1 + 1) _ rfl rfl 31 _ s3.g4 (by kernel_rfl) rfl (by simp [filC, Value.oneCell']) ?_))
    refine bodyPost_ret (results_row_tmp rfl _ _ (w.heap.size + 1 + 1) 31 _ (0, 0) _ rfl (setRow_heap _ _ _ _ _ _ s3.g4) Try.underlying31 rfl (by kernel_rfl)) rfl ⟨V2, rfl, (op_told s3).2⟩
  · rw [opF_no h0]
    generalize opX F o = X at *
    generalize opE F o = E at *
    clear hE hX hs hsx hp hnb hnr hf ho hw
    obtain ⟨wS, hwS, s0⟩ : ∃ wS, wS = (((((w.alloc (.cells (filC V F) 31)).alloc (.cells (opeC U o) 40)).alloc (.cells #[.int .i64 0, .int .i64 0, .int .i64 0, .int .i64 0, .int .i64 0, .int .i64 0, .int .i64 0, .int .i64 0, .int .i64 0, .int .i64 0, .slice none 0 0, .slice none 0 0, .slice none 0 0, .slice none 0 0] 31)).alloc (.cells #[.int .i64 0, .int .i64 0, .int .i64 0, .int .i64 0, .int .i64 0, .int .i64 0, .int .i64 0, .int .i64 0, .int .i64 0, .int .i64 0, .slice none 0 0, .slice none 0 0, .slice none 0 0, .slice none 0 0] 31)).alloc (.cells #[.int .i64 0, .int .i64 0, .int .i64 0, .int .i64 0, .int .i64 0, .int .i64 0, .int .i64 0, .int .i64 0, .int .i64 0, .int .i64 0, .slice none 0 0, .slice none 0 0, .slice none 0 0, .slice none 0 0] 31)) ∧ OpS w wS V F U o zeroV zeroF zeroV zeroF := ⟨_, rfl, OpS.start HF.out.1 HF.out.2⟩
    go_enter Try.func13, Try.ntmps13
    go_upto_region 2 with fail
    rw [← hwS]
    clear hwS
    have c0 := s0.c0
    have c1 := s0.c1
    have c3 := s0.c3
    rw [hk] at c0
    go_wp2_with (first | (refine wpList_load_row rfl 31 (.tmp 2) rfl (w.heap.size) rfl 31 _ (0, 0) _ s0.g2 Try.underlying31 rfl (by kernel_rfl) ?_))
    refine (K1.out _ s0.f s0.fo).mono ?_; rintro e w1 ⟨V1, rfl, f1, x1, m1⟩
    have s1 := (s0.ext x1).setA f1 (m1.of_from s0.ff s0.z)
    have s1' := s0.ext x1
    clear f1 x1 m1 s0
    clear c0 c1 c3
    have c0 := s1.c0
    have c1 := s1.c1
    have c3 := s1.c3
    rw [hk] at c0
    go_wp2_with (first
      | (refine wpList_load_row rfl 31 (.tmp 2) rfl (w.heap.size) rfl 31 _ (0, 0) _ s1.g2 Try.underlying31 rfl (by kernel_rfl) ?_)
      | (refine wpList_store_row rfl 31 (.tmp 6) (.tmp 68) rfl (w.heap.size + 1 + 1 + 1) _ rfl rfl 31 _ s1'.g6 (by kernel_rfl) rfl (by simp [filC, Value.oneCell']) ?_))
    refine (K2.out _ s1.f s1.fo).mono ?_; rintro e w2 ⟨V2, rfl, f2, x2, m2⟩
    have s2 := (s1.ext x2).setB f2 (m2.of_from s1.ff s1.z) (From.trans (From.refl w V F) m2 s1.x)
    have s2' := s1.ext x2
    clear f2 x2 m2 s1 s1'
    clear c0 c1 c3
    go_wp2_with (first
      | (refine wpList_store_row rfl 31 (.tmp 7) (.tmp 80) rfl (w.heap.size + 1 + 1 + 1 + 1) _ rfl rfl 31 _ s2'.g7 (by kernel_rfl) rfl (by simp [filC, Value.oneCell']) ?_)
      | (refine wpList_load_row rfl 31 (.tmp 6) rfl (w.heap.size + 1 + 1 + 1) rfl 31 _ (0, 0) _ s2.g6 Try.underlying31 rfl (by kernel_rfl) ?_)
      | (refine wpList_load_row rfl 31 (.tmp 7) rfl (w.heap.size + 1 + 1 + 1 + 1) rfl 31 _ (0, 0) _ s2.g7 Try.underlying31 rfl (by kernel_rfl) ?_))
    refine (HS.out _ _ _ s2.a s2.b).mono ?_; rintro e w3 ⟨rfl, x3⟩
    have s3 := s2.ext x3
    clear s2 s2' x3
    go_wp2_with (first
      | (refine wpList_load_row rfl 31 (.tmp 2) rfl (w.heap.size) rfl 31 _ (0, 0) _ s3.g2 Try.underlying31 rfl (by kernel_rfl) ?_)
      | (refine wpList_store_row rfl 31 (.tmp 4) (.tmp 94) rfl (w.heap.size + 1 + 1) _ rfl rfl 31 _ s3.g4 (by kernel_rfl) rfl (by simp [filC, Value.oneCell']) ?_))
    refine bodyPost_ret (results_row_tmp rfl _ _ (w.heap.size + 1 + 1) 31 _ (0, 0) _ rfl (setRow_heap _ _ _ _ _ _ s3.g4) Try.underlying31 rfl (by kernel_rfl)) rfl ⟨V, rfl, (op_told s3).1⟩
set_option maxRecDepth 100000 in
set_option maxHeartbeats 8000000 in
theorem op14_copy (V : FilV) (F : Fil) (U : OpeV) (o : Ope) (w : World) (hk0 : ¬ o.k = 0) (hk1 : ¬ o.k = 1) (hk2 : ¬ o.k = 2) (hk3 : ¬ o.k = 3) (hf : FilAt w V F) (ho : OpeAt w U o) (hs : Small F) (hp : FCopyC 25) :
    Calls Try.prog 13 #[.agg (filC V F), .agg (opeC U o)] w fun e w' => ∃ V', e = .returned (.tuple #[.agg (filC V' (opF F o)), .bool true]) ∧ FilAt w' V' (opF F o) ∧ Ext w w' ∧ From w V F V' (opF F o) := by
  have hX : opF F o = F := by unfold opF opX; simp [hk0, hk1, hk2, hk3]
  rw [hX]
  have K1 := Lib.hid (fun w' (h : FilAt w' V F) => hp V F w' h hs)
  have HS := Lib.hid (fun w' V1 V2 (h : FilAt w' V1 F) (g : FilAt w' V2 F) => rsame14_v (sameF_self F) w' h g hs.all hs.all)
  obtain ⟨wS, hwS, s0⟩ : ∃ wS, wS = (((((w.alloc (.cells (filC V F) 31)).alloc (.cells (opeC U o) 40)).alloc (.cells #[.int .i64 0, .int .i64 0, .int .i64 0, .int .i64 0, .int .i64 0, .int .i64 0, .int .i64 0, .int .i64 0, .int .i64 0, .int .i64 0, .slice none 0 0, .slice none 0 0, .slice none 0 0, .slice none 0 0] 31)).alloc (.cells #[.int .i64 0, .int .i64 0, .int .i64 0, .int .i64 0, .int .i64 0, .int .i64 0, .int .i64 0, .int .i64 0, .int .i64 0, .int .i64 0, .slice none 0 0, .slice none 0 0, .slice none 0 0, .slice none 0 0] 31)).alloc (.cells #[.int .i64 0, .int .i64 0, .int .i64 0, .int .i64 0, .int .i64 0, .int .i64 0, .int .i64 0, .int .i64 0, .int .i64 0, .int .i64 0, .slice none 0 0, .slice none 0 0, .slice none 0 0, .slice none 0 0] 31)) ∧ OpS w wS V F U o zeroV zeroF zeroV zeroF := ⟨_, rfl, OpS.start hf ho⟩
  clear hX hs hp hf ho
  go_enter Try.func13, Try.ntmps13
  go_upto_region 2 with fail
  rw [← hwS]
  clear hwS
  have c0 := s0.c0
  go_wp2_with fail
  have hs := s0.g2
  have q0 := s0.ext (Ext.drew wS)
  refine wp_region_held_drew (S := fun W => W.heap[w.heap.size]? = some (.cells (filC V F) 31 (0, 0))) (by kernel_rfl) hs (fun hs => ?_)
  refine wpAnyH_takeD (i := 0) (d := 12) rfl rfl (by kernel_rfl) (by kernel_rfl) (by kernel_rfl) (fun _ _ _ h => h) (yieldsIf_load_row (by rfl) 31 (.tmp 2) rfl w.heap.size rfl 31 _ (0, 0) _ (fun w' hw' => hw') Try.underlying31 rfl (by kernel_rfl)) hs ?_
  simp only [Act.put, List.setIfInBounds_toArray, List.set_cons_succ, List.set_cons_zero]
  refine wpAnyH_takeD (i := 2) (d := 14) rfl rfl (by kernel_rfl) (by kernel_rfl) (by kernel_rfl) (fun _ _ _ h => h) (yieldsIf_load_row (by rfl) 31 (.tmp 2) rfl w.heap.size rfl 31 _ (0, 0) _ (fun w' hw' => hw') Try.underlying31 rfl (by kernel_rfl)) hs ?_
  simp only [Act.put, List.setIfInBounds_toArray, List.set_cons_succ, List.set_cons_zero]
  refine wpAnyH_ready (rs := [1]) (by kernel_rfl) (by simp) (AllReadyH.cons rfl (fun K hK => ?_) AllReadyH.nil)
  go_simp
  go_at_call 25
  refine (K1.out _ q0.f).mono ?_; rintro e w1 ⟨V1, rfl, f1, x1, m1⟩
  have s1 := q0.ext x1
  have o1 := m1.of_from q0.ff q0.z
  go_wp2_with fail
  refine hK.out _ _ s1.g2 (fun hs => ?_)
  clear hK K hs q0 c0 s0 x1 m1
  have s2 := s1.setA f1 o1
  have s3 := s2.setB s2.f s2.ff (From.refl w V F)
  refine wpAnyH_ready (rs := [3]) (by kernel_rfl) (by simp) (AllReadyH.cons rfl (fun K hK => ?_) AllReadyH.nil)
  refine step_store_row rfl 31 (.tmp 6) (.tmp 13) rfl (w.heap.size + 1 + 1 + 1) _ rfl rfl 31 _ s1.g6 (by kernel_rfl) rfl (by simp [filC, Value.oneCell']) rfl ?_
  refine hK.out _ _ s2.g2 (fun hs => ?_)
  clear hK K hs
  simp only [Act.put]
  refine wpAnyH_ready (rs := [4]) (by kernel_rfl) (by simp) (AllReadyH.cons rfl (fun K hK => ?_) AllReadyH.nil)
  refine step_store_row rfl 31 (.tmp 7) (.tmp 14) rfl (w.heap.size + 1 + 1 + 1 + 1) _ rfl rfl 31 _ s2.g7 (by kernel_rfl) rfl (by simp [filC, Value.oneCell']) rfl ?_
  refine hK.out _ _ s3.g2 (fun hs => ?_)
  clear hK K hs
  simp only [Act.put]
  refine wpAnyH_done (by kernel_rfl) ?_ _
  go_wp2_with (first
    | (refine wpList_load_row rfl 31 (.tmp 6) rfl (w.heap.size + 1 + 1 + 1) rfl 31 _ (0, 0) _ s3.g6 Try.underlying31 rfl (by kernel_rfl) ?_)
    | (refine wpList_load_row rfl 31 (.tmp 7) rfl (w.heap.size + 1 + 1 + 1 + 1) rfl 31 _ (0, 0) _ s3.g7 Try.underlying31 rfl (by kernel_rfl) ?_))
  refine (HS.out _ _ _ s3.a s3.b).mono ?_; rintro e w4 ⟨rfl, x4⟩
  have s4 := s3.ext x4
  clear s1 s2 s3 x4 o1 f1
  go_wp2_with (first
    | (refine wpList_load_row rfl 31 (.tmp 7) rfl (w.heap.size + 1 + 1 + 1 + 1) rfl 31 _ (0, 0) _ s4.g7 Try.underlying31 rfl (by kernel_rfl) ?_)
    | (refine wpList_store_row rfl 31 (.tmp 4) (.tmp 95) rfl (w.heap.size + 1 + 1) _ rfl rfl 31 _ s4.g4 (by kernel_rfl) rfl (by simp [filC, Value.oneCell']) ?_))
  refine bodyPost_ret (results_row_tmp rfl _ _ (w.heap.size + 1 + 1) 31 _ (0, 0) _ rfl (setRow_heap _ _ _ _ _ _ s4.g4) Try.underlying31 rfl (by kernel_rfl)) rfl ⟨V, rfl, (op_told s4).2⟩
/-- An operation, both ways. -/
theorem op14_any (V : FilV) (F : Fil) (U : OpeV) (o : Ope) (w : World) (hf : FilAt w V F) (ho : OpeAt w U o) (hw : OpeW o) (hs : Small F) (hnb : o.nb ≤ 1000000) (hnr : o.nr ≤ 1000000)
    (h0 : FSetBitsC 26) (h1 : FSetWordsC 21) (h2 : FSenseC 22) (h3 : FCopyC 25) :
    Calls Try.prog 13 #[.agg (filC V F), .agg (opeC U o)] w fun e w' => ∃ V', e = .returned (.tuple #[.agg (filC V' (opF F o)), .bool true]) ∧ FilAt w' V' (opF F o) ∧ Ext w w' ∧ From w V F V' (opF F o) := by
  by_cases k0 : o.k = 0
  · exact op14_bits V F U o w k0 hf ho hw hs hnb hnr h0
  by_cases k1 : o.k = 1
  · exact op14_words V F U o w k1 hf ho hw hs hnb hnr h1
  by_cases k2 : o.k = 2
  · exact op14_in V F U o w k2 hf ho hw hs hnb hnr h2
  by_cases k3 : o.k = 3
  · exact op14_reg V F U o w k3 hf ho hw hs hnb hnr h2
  exact op14_copy V F U o w k0 k1 k2 k3 hf ho hs h3
end Go.Proofs.Ytkfpnijacfeogaa
