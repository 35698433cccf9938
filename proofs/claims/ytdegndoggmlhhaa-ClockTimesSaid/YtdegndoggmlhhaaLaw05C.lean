/-
  THE LAWS OF LAYER 5: the walks of ClockTimes and ClockFaster.
-/
import Derived.Test.YtdegndoggmlhhaaLaw05D
import Derived.Test.YtdegndoggmlhhaaLaw05E
import Derived.Test.YtdegndoggmlhhaaLaw05F
namespace Go.Proofs.Ytdegndoggmlhhaa
open Go.RowKit

set_option maxHeartbeats 1600000 in
theorem clockTimes.walk (b t u : Int) (w : World) (hb : (Lit.int .i64 b).wf = true) (ht : (Lit.int .i64 t).wf = true) (hu : (Lit.int .i64 u).wf = true) :
    Calls Try.prog 3 #[.int .i64 b, .int .i64 t, .int .i64 u] w fun e w' => e = .returned (.bool true) ∧ Ext w w' := by
  have hk := fun w => kof_any b t u w hb ht hu
  have hr := fun w => rof_any b t u w
  by_cases h : CkOk b t u
  · rw [ofRes_yes _ _ h] at hk hr
    generalize ckC b t = C at hk hr
    generalize C + ckS b t = S at hk hr
    generalize C + ckL b t = L at hk hr
    clear h hb ht hu
    go_enter Try.func3, Try.ntmps3
    go_wp2_with fail
    refine (hk _).mono ?_; rintro e w1 ⟨rfl, x1⟩
    go_wp2_with fail
    refine (hr _).mono ?_; rintro e w2 ⟨rfl, x2⟩
    have c0 := x2.made 0 _ rfl
    have c1 := x2.made 1 _ rfl
    have c2 := x2.made 2 _ rfl
    have c3 := x2.made 3 _ rfl
    obtain ⟨B, hB⟩ : ∃ B, B = w1.heap.size := ⟨_, rfl⟩
    rw [← hB] at c0 c1 c2 c3 ⊢
    have hlt : B < w2.heap.size := World.block_lt_of_cell? w2 _ c0
    have z2 : Ext w (w2.alloc (.cells #[.int .i64 C, .int .i64 S, .int .i64 L, .int .i64 u] 23)) := ((x1.trans (Ext.alloc _ _)).trans x2).trans (Ext.alloc _ _)
    clear hk hr hB x1 x2
    go_wp2_with fail
    refine (sure5_any _).mono ?_; rintro e w8 ⟨rfl, x8⟩
    go_wp2
    go_ret
    exact ⟨rfl, z2.trans x8⟩
  · rw [ofRes_no _ _ h] at hk hr
    clear h hb ht hu
    go_enter Try.func3, Try.ntmps3
    go_wp2_with fail
    refine (hk _).mono ?_; rintro e w1 ⟨rfl, x1⟩
    go_wp2_with fail
    refine (hr _).mono ?_; rintro e w2 ⟨rfl, x2⟩
    have c0 := x2.made 0 _ rfl
    have c1 := x2.made 1 _ rfl
    have c2 := x2.made 2 _ rfl
    have c3 := x2.made 3 _ rfl
    obtain ⟨B, hB⟩ : ∃ B, B = w1.heap.size := ⟨_, rfl⟩
    rw [← hB] at c0 c1 c2 c3 ⊢
    have hlt : B < w2.heap.size := World.block_lt_of_cell? w2 _ c0
    have z2 : Ext w (w2.alloc (.cells #[.int .i64 0, .int .i64 0, .int .i64 0, .int .i64 0] 23)) := ((x1.trans (Ext.alloc _ _)).trans x2).trans (Ext.alloc _ _)
    clear hk hr hB x1 x2
    go_wp2_with fail
    refine (sure5_any _).mono ?_; rintro e w8 ⟨rfl, x8⟩
    go_wp2
    go_ret
    exact ⟨rfl, z2.trans x8⟩

set_option maxHeartbeats 3200000 in
theorem clockFaster.walk (b m t : Int) (w : World) (hb : (Lit.int .i64 b).wf = true) (_hm : (Lit.int .i64 m).wf = true) (ht : (Lit.int .i64 t).wf = true) :
    Calls Try.prog 5 #[.int .i64 b, .int .i64 m, .int .i64 t] w fun e w' => e = .returned (.bool true) ∧ Ext w w' := by
  have h0 : (Lit.int .i64 0).wf = true := by decide
  have hk := fun w => kof_any b t 0 w hb ht h0
  by_cases h : CkOk b t 0
  · rw [ofRes_yes _ _ h] at hk
    obtain ⟨⟨b1, b2, t1, t2, _, _⟩, hR⟩ := id h
    obtain ⟨f, hf⟩ : ∃ f, f = b + max 0 (min m (1000000 - b)) := ⟨_, rfl⟩
    have f1 : b ≤ f := by omega
    have f2 : f ≤ 1000000 := by omega
    have wf : (Lit.int .i64 f).wf = true := by simp [Lit.wf, IntKind.min, IntKind.max, IntKind.signed, IntKind.bits]; omega
    have hk2 := fun w => kof_any f t 0 w wf ht h0
    have hanti := fun hh => ck_anti (c := f) (t := t) (by omega) b1 f1 hh
    have bds := ck_bds h.1
    generalize hC : ckC b t = C at *
    generalize hS : C + ckS b t = S at *
    generalize hL : C + ckL b t = L at *
    have wC : (Lit.int .i64 C).wf = true := by simp [Lit.wf, IntKind.min, IntKind.max, IntKind.signed, IntKind.bits]; omega
    have wS : (Lit.int .i64 S).wf = true := by simp [Lit.wf, IntKind.min, IntKind.max, IntKind.signed, IntKind.bits]; omega
    have wL : (Lit.int .i64 L).wf = true := by simp [Lit.wf, IntKind.min, IntKind.max, IntKind.signed, IntKind.bits]; omega
    have hr := fun w => kright_any C S L 0 w wC wS wL h0
    have hrt : rightB C S L 0 = true := decide_eq_true hR
    rw [hrt] at hr
    have hcase : (m ≤ 0 ∧ f = b) ∨ (0 < m ∧ m ≤ 1000000 - b ∧ f = b + m) ∨ (0 < m ∧ 1000000 - b < m ∧ 0 < 1000000 - b ∧ f = 1000000) ∨ (0 < m ∧ b = 1000000 ∧ f = 1000000) := by omega
    clear h hb ht hf wf hR bds hC hS hL wC wS wL hrt
    by_cases h2 : CkOk f t 0
    · rw [ofRes_yes _ _ h2] at hk2
      have hk3 : ∀ z, z = f → ∀ w, Calls Try.prog 7 #[.int .i64 z, .int .i64 t, .int .i64 0] w fun e w' => e = .returned (.tuple #[.agg #[.int .i64 (ckC f t), .int .i64 (ckC f t + ckS f t), .int .i64 (ckC f t + ckL f t), .int .i64 0], .int .i64 0]) ∧ Ext w w' := fun z hz => by rw [hz]; exact hk2
      by_cases q1 : 19200 < b
      · obtain ⟨a1, a2, a3⟩ := hanti ⟨fun _ => q1, fun _ => by omega⟩
        rcases hcase with ⟨m1, rfl⟩ | ⟨m1, m2, rfl⟩ | ⟨m1, m2, m3, rfl⟩ | ⟨m1, rfl, rfl⟩
        · exact clockFaster.way11 _ m t C S L _ _ _ w hk hr hk3 b1 b2 m1 q1 (decide_eq_true q1) a1 a2 a3
        · exact clockFaster.way21 b m t C S L _ _ _ w hk hr hk3 b1 b2 m1 m2 q1 (decide_eq_true q1) (by omega) (decide_eq_true (by omega)) a1 a2 a3
        · exact clockFaster.way31 b m t C S L _ _ _ w hk hr hk3 b1 b2 m1 m2 m3 (by omega) q1 (decide_eq_true q1) a1 a2 a3
        · exact clockFaster.way41 m t C S L _ _ _ w hk hr hk3 m1 a1 a2 a3
      · by_cases q2 : 19200 < f
        · rcases hcase with ⟨m1, rfl⟩ | ⟨m1, m2, rfl⟩ | ⟨m1, m2, m3, rfl⟩ | ⟨m1, rfl, rfl⟩
          · exact absurd q2 q1
          · exact clockFaster.way22 b m t C S L _ _ _ w hk hr hk3 b1 b2 m1 m2 (by omega) (decide_eq_false q1) q2 (decide_eq_true q2)
          · exact clockFaster.way32 b m t C S L _ _ _ w hk hr hk3 b1 b2 m1 m2 m3 (by omega) (by omega) (decide_eq_false q1)
          · exact absurd (show (19200 : Int) < 1000000 by decide) q1
        · obtain ⟨a1, a2, a3⟩ := hanti ⟨fun x => absurd x q2, fun x => absurd x q1⟩
          rcases hcase with ⟨m1, rfl⟩ | ⟨m1, m2, rfl⟩ | ⟨m1, m2, m3, rfl⟩ | ⟨m1, rfl, rfl⟩
          · exact clockFaster.way13 _ m t C S L _ _ _ w hk hr hk3 b1 b2 m1 (by omega) (decide_eq_false q1) a1 a2 a3
          · exact clockFaster.way23 b m t C S L _ _ _ w hk hr hk3 b1 b2 m1 m2 (by omega) (decide_eq_false q1) (by omega) (decide_eq_false q2) a1 a2 a3
          · exact absurd (show (19200 : Int) < 1000000 by decide) q2
          · exact absurd (show (19200 : Int) < 1000000 by decide) q1
    · rw [ofRes_no _ _ h2] at hk2
      have hk3 : ∀ z, z = f → ∀ w, Calls Try.prog 7 #[.int .i64 z, .int .i64 t, .int .i64 0] w fun e w' => e = .returned (.tuple #[.agg #[.int .i64 0, .int .i64 0, .int .i64 0, .int .i64 0], .int .i64 11]) ∧ Ext w w' := fun z hz => by rw [hz]; exact hk2
      rcases hcase with ⟨m1, rfl⟩ | ⟨m1, m2, rfl⟩ | ⟨m1, m2, m3, rfl⟩ | ⟨m1, rfl, rfl⟩
      · exact clockFaster.none1 _ m t C S L w hk hr hk3 b1 b2 m1
      · exact clockFaster.none2 b m t C S L w hk hr hk3 b1 b2 m1 m2
      · exact clockFaster.none3 b m t C S L w hk hr hk3 b1 b2 m1 m2 m3 (by omega)
      · exact clockFaster.none4 m t C S L w hk hr hk3 m1
  · rw [ofRes_no _ _ h] at hk
    clear h hb ht
    go_enter Try.func5, Try.ntmps5
    go_wp2_with fail
    refine (hk _).mono ?_; rintro e w1 ⟨rfl, x1⟩
    go_wp2_with fail
    refine (sure5_any _).mono ?_; rintro e w8 ⟨rfl, x8⟩
    go_wp2
    go_ret
    exact ⟨rfl, (x1.trans (Ext.alloc _ _)).trans x8⟩
end Go.Proofs.Ytdegndoggmlhhaa
