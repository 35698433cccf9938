/-
  THE LAWS OF LAYER 5: ClockFaster's ways (one).
-/
import Derived.Test.YtdegndoggmlhhaaLaw05A
namespace Go.Proofs.Ytdegndoggmlhhaa
open Go.RowKit
set_option linter.unusedVariables false

set_option maxHeartbeats 600000 in
theorem clockFaster.way11 (b m t C S L F G H : Int) (w : World)
    (hk : ∀ w, Calls Try.prog 7 #[.int .i64 b, .int .i64 t, .int .i64 0] w fun e w' => e = .returned (.tuple #[.agg #[.int .i64 C, .int .i64 S, .int .i64 L, .int .i64 0], .int .i64 0]) ∧ Ext w w')
    (hr : ∀ w, Calls Try.prog 10 #[.agg #[.int .i64 C, .int .i64 S, .int .i64 L, .int .i64 0]] w fun e w' => e = .returned (.bool true) ∧ Ext w w')
    (hk2 : ∀ z, z = b → ∀ w, Calls Try.prog 7 #[.int .i64 z, .int .i64 t, .int .i64 0] w fun e w' => e = .returned (.tuple #[.agg #[.int .i64 F, .int .i64 G, .int .i64 H, .int .i64 0], .int .i64 0]) ∧ Ext w w')
    (b1 : 1 ≤ b) (b2 : b ≤ 1000000) (m1 : m ≤ 0) (s1 : 19200 < b) (d1 : decide (19200 < b) = true) (s3 : F ≤ C) (s4 : G ≤ S) (s5 : H ≤ L) :
    Calls Try.prog 5 #[.int .i64 b, .int .i64 m, .int .i64 t] w fun e w' => e = .returned (.bool true) ∧ Ext w w' := by
  go_enter Try.func5, Try.ntmps5
  go_wp2_with fail
  refine (hk _).mono ?_; rintro e w1 ⟨rfl, x1⟩
  go_wp2_with fail
  refine (hr _).mono ?_; rintro e w2 ⟨rfl, x2⟩
  clear hr
  go_wp2_with fail
  refine (hk2 _ (by omega) _).mono ?_; rintro e w3 ⟨rfl, x3⟩
  have x4 := x2.trans x3
  have c0 := x4.made 0 _ rfl
  have c1 := x4.made 1 _ rfl
  have c2 := x4.made 2 _ rfl
  obtain ⟨B, hB⟩ : ∃ B, B = w1.heap.size := ⟨_, rfl⟩
  rw [← hB] at c0 c1 c2 ⊢
  have hlt : B < w3.heap.size := World.block_lt_of_cell? w3 _ c0
  have z3 : Ext w w3 := (x1.trans (Ext.alloc _ _)).trans x4
  clear hk hk2 hB x1 x2 x3 x4
  go_wp2_with fail
  refine (sure5_any _).mono ?_; rintro e w8 ⟨rfl, x8⟩
  go_wp2
  go_ret
  exact ⟨rfl, (z3.trans (Ext.alloc _ _)).trans x8⟩

set_option maxHeartbeats 600000 in
theorem clockFaster.way13 (b m t C S L F G H : Int) (w : World)
    (hk : ∀ w, Calls Try.prog 7 #[.int .i64 b, .int .i64 t, .int .i64 0] w fun e w' => e = .returned (.tuple #[.agg #[.int .i64 C, .int .i64 S, .int .i64 L, .int .i64 0], .int .i64 0]) ∧ Ext w w')
    (hr : ∀ w, Calls Try.prog 10 #[.agg #[.int .i64 C, .int .i64 S, .int .i64 L, .int .i64 0]] w fun e w' => e = .returned (.bool true) ∧ Ext w w')
    (hk2 : ∀ z, z = b → ∀ w, Calls Try.prog 7 #[.int .i64 z, .int .i64 t, .int .i64 0] w fun e w' => e = .returned (.tuple #[.agg #[.int .i64 F, .int .i64 G, .int .i64 H, .int .i64 0], .int .i64 0]) ∧ Ext w w')
    (b1 : 1 ≤ b) (b2 : b ≤ 1000000) (m1 : m ≤ 0) (s1 : b ≤ 19200) (d1 : decide (19200 < b) = false) (s3 : F ≤ C) (s4 : G ≤ S) (s5 : H ≤ L) :
    Calls Try.prog 5 #[.int .i64 b, .int .i64 m, .int .i64 t] w fun e w' => e = .returned (.bool true) ∧ Ext w w' := by
  go_enter Try.func5, Try.ntmps5
  go_wp2_with fail
  refine (hk _).mono ?_; rintro e w1 ⟨rfl, x1⟩
  go_wp2_with fail
  refine (hr _).mono ?_; rintro e w2 ⟨rfl, x2⟩
  clear hr
  go_wp2_with fail
  refine (hk2 _ (by omega) _).mono ?_; rintro e w3 ⟨rfl, x3⟩
  have x4 := x2.trans x3
  have c0 := x4.made 0 _ rfl
  have c1 := x4.made 1 _ rfl
  have c2 := x4.made 2 _ rfl
  obtain ⟨B, hB⟩ : ∃ B, B = w1.heap.size := ⟨_, rfl⟩
  rw [← hB] at c0 c1 c2 ⊢
  have hlt : B < w3.heap.size := World.block_lt_of_cell? w3 _ c0
  have z3 : Ext w w3 := (x1.trans (Ext.alloc _ _)).trans x4
  clear hk hk2 hB x1 x2 x3 x4
  go_wp2_with fail
  refine (sure5_any _).mono ?_; rintro e w8 ⟨rfl, x8⟩
  go_wp2
  go_ret
  exact ⟨rfl, (z3.trans (Ext.alloc _ _)).trans x8⟩

set_option maxHeartbeats 600000 in
theorem clockFaster.none1 (b m t C S L : Int) (w : World)
    (hk : ∀ w, Calls Try.prog 7 #[.int .i64 b, .int .i64 t, .int .i64 0] w fun e w' => e = .returned (.tuple #[.agg #[.int .i64 C, .int .i64 S, .int .i64 L, .int .i64 0], .int .i64 0]) ∧ Ext w w')
    (hr : ∀ w, Calls Try.prog 10 #[.agg #[.int .i64 C, .int .i64 S, .int .i64 L, .int .i64 0]] w fun e w' => e = .returned (.bool true) ∧ Ext w w')
    (hk2 : ∀ z, z = b → ∀ w, Calls Try.prog 7 #[.int .i64 z, .int .i64 t, .int .i64 0] w fun e w' => e = .returned (.tuple #[.agg #[.int .i64 0, .int .i64 0, .int .i64 0, .int .i64 0], .int .i64 11]) ∧ Ext w w')
    (b1 : 1 ≤ b) (b2 : b ≤ 1000000) (m1 : m ≤ 0) :
    Calls Try.prog 5 #[.int .i64 b, .int .i64 m, .int .i64 t] w fun e w' => e = .returned (.bool true) ∧ Ext w w' := by
  go_enter Try.func5, Try.ntmps5
  go_wp2_with fail
  refine (hk _).mono ?_; rintro e w1 ⟨rfl, x1⟩
  go_wp2_with fail
  refine (hr _).mono ?_; rintro e w2 ⟨rfl, x2⟩
  clear hr
  go_wp2_with fail
  refine (hk2 _ (by omega) _).mono ?_; rintro e w3 ⟨rfl, x3⟩
  have x4 := x2.trans x3
  have c0 := x4.made 0 _ rfl
  have c1 := x4.made 1 _ rfl
  have c2 := x4.made 2 _ rfl
  obtain ⟨B, hB⟩ : ∃ B, B = w1.heap.size := ⟨_, rfl⟩
  rw [← hB] at c0 c1 c2 ⊢
  have hlt : B < w3.heap.size := World.block_lt_of_cell? w3 _ c0
  have z3 : Ext w w3 := (x1.trans (Ext.alloc _ _)).trans x4
  clear hk hk2 hB x1 x2 x3 x4
  go_wp2_with fail
  refine (sure5_any _).mono ?_; rintro e w8 ⟨rfl, x8⟩
  go_wp2
  go_ret
  exact ⟨rfl, (z3.trans (Ext.alloc _ _)).trans x8⟩

end Go.Proofs.Ytdegndoggmlhhaa
