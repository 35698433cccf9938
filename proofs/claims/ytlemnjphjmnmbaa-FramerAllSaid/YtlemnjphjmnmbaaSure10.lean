/-
  THE LAWS OF LAYER 10: 'sure'.
-/
import Derived.Test.YtlemnjphjmnmbaaFrI
namespace Go.Proofs.Ytlemnjphjmnmbaa
open Go.RowKit
set_option linter.unusedVariables false

theorem sure_x1 : ∃ g, byteF (newF 1 2 4 0 0) (5, 7, false) = ⟨1, 2, 4, 0, 0, 5, ⟨1, g, 5, 5, 1, false, false⟩⟩ ∧ idleS (newF 1 2 4 0 0) 5 = zeroS ∧ idleB (newF 1 2 4 0 0) 5 = false ∧ idleN (newF 1 2 4 0 0) 5 = 0 := ⟨_, rfl, rfl, rfl, rfl⟩
theorem sure_x2 (g : Nat → Int) : idleF ⟨1, 2, 4, 0, 0, 5, ⟨1, g, 5, 5, 1, false, false⟩⟩ 8 = ⟨1, 2, 4, 0, 0, 8, ⟨1, g, 5, 5, 1, false, false⟩⟩ ∧ idleS ⟨1, 2, 4, 0, 0, 5, ⟨1, g, 5, 5, 1, false, false⟩⟩ 8 = zeroS ∧ idleB ⟨1, 2, 4, 0, 0, 5, ⟨1, g, 5, 5, 1, false, false⟩⟩ 8 = false ∧ idleN ⟨1, 2, 4, 0, 0, 5, ⟨1, g, 5, 5, 1, false, false⟩⟩ 8 = 0 ∧ dueI ⟨1, 2, 4, 0, 0, 5, ⟨1, g, 5, 5, 1, false, false⟩⟩ = 9 := ⟨rfl, rfl, rfl, rfl, by unfold dueI; rw [if_pos (by show (0 : Int) < 1; decide)]; show addI 5 4 = 9; decide⟩
theorem sure_x3 (g : Nat → Int) : idleF ⟨1, 2, 4, 0, 0, 8, ⟨1, g, 5, 5, 1, false, false⟩⟩ 9 = ⟨1, 2, 4, 0, 0, 9, zeroS⟩ ∧ idleS ⟨1, 2, 4, 0, 0, 8, ⟨1, g, 5, 5, 1, false, false⟩⟩ 9 = ⟨1, g, 5, 5, 1, false, false⟩ ∧ idleB ⟨1, 2, 4, 0, 0, 8, ⟨1, g, 5, 5, 1, false, false⟩⟩ 9 = true ∧ idleN ⟨1, 2, 4, 0, 0, 8, ⟨1, g, 5, 5, 1, false, false⟩⟩ 9 = 0 := ⟨rfl, rfl, rfl, rfl⟩
theorem sure_x4 : idleF ⟨1, 2, 4, 0, 0, 9, zeroS⟩ 8 = ⟨1, 2, 4, 0, 0, 9, zeroS⟩ ∧ idleS ⟨1, 2, 4, 0, 0, 9, zeroS⟩ 8 = zeroS ∧ idleB ⟨1, 2, 4, 0, 0, 9, zeroS⟩ 8 = false ∧ idleN ⟨1, 2, 4, 0, 0, 9, zeroS⟩ 8 = 11 := ⟨rfl, rfl, rfl, rfl⟩
set_option maxRecDepth 100000 in
set_option maxHeartbeats 8000000 in
theorem sure10_any (w : World) : Calls Try.prog 5 #[] w fun e w' => e = .returned (.bool true) ∧ Ext w w' := by
  obtain ⟨g, e1, e2, e3, e4⟩ := sure_x1
  have h1 := fnew_yes 1 2 4 0 0 w (by decide) (by decide) (by decide)
  have h2 : ∀ p F w', FR w' p F (newF 1 2 4 0 0) → Calls Try.prog 15 #[.pointer (some ⟨p, 0, none⟩), .agg #[.int .i64 5, .int .u8 7, .bool false]] w' fun e w'' => ∃ A cp G, e = .returned (.tuple #[.agg #[.slice A 0 cp, .int .i64 0, .int .i64 0, .int .i64 0, .bool false, .bool false], .bool false, .int .i64 0]) ∧ Keep F w' w'' ∧ FR w'' p G ⟨1, 2, 4, 0, 0, 5, ⟨1, g, 5, 5, 1, false, false⟩⟩ ∧ Grows F G w' :=
    fun p F w' h => (fbyte_any p F _ (5, 7, false) w' h (by decide) (by decide) (by decide)).mono fun e w'' ⟨A, cp, G, q1, q2, q3, q4, _⟩ => ⟨A, cp, G, by rw [q1, e2, e3, e4]; rfl, q2, by rw [← e1]; exact q3, q4⟩
  have h3 : ∀ p F w', FR w' p F ⟨1, 2, 4, 0, 0, 5, ⟨1, g, 5, 5, 1, false, false⟩⟩ → Calls Try.prog 14 #[.pointer (some ⟨p, 0, none⟩), .int .i64 8] w' fun e w'' => ∃ A cp G, e = .returned (.tuple #[.agg #[.slice A 0 cp, .int .i64 0, .int .i64 0, .int .i64 0, .bool false, .bool false], .bool false, .int .i64 0]) ∧ Keep F w' w'' ∧ FR w'' p G ⟨1, 2, 4, 0, 0, 8, ⟨1, g, 5, 5, 1, false, false⟩⟩ ∧ Grows F G w' :=
    fun p F w' h => (fidle_any p F _ 8 w' h).mono fun e w'' ⟨A, cp, G, q1, q2, q3, q4, _⟩ => ⟨A, cp, G, by rw [q1, (sure_x2 g).2.1, (sure_x2 g).2.2.1, (sure_x2 g).2.2.2.1]; rfl, q2, by rw [← (sure_x2 g).1]; exact q3, q4⟩
  have h4 : ∀ p F w', FR w' p F ⟨1, 2, 4, 0, 0, 8, ⟨1, g, 5, 5, 1, false, false⟩⟩ → Calls Try.prog 14 #[.pointer (some ⟨p, 0, none⟩), .int .i64 9] w' fun e w'' => ∃ A cp G, e = .returned (.tuple #[.agg #[.slice A 1 cp, .int .i64 5, .int .i64 5, .int .i64 1, .bool false, .bool false], .bool true, .int .i64 0]) ∧ Keep F w' w'' ∧ FR w'' p G ⟨1, 2, 4, 0, 0, 9, zeroS⟩ ∧ Grows F G w' :=
    fun p F w' h => (fidle_any p F _ 9 w' h).mono fun e w'' ⟨A, cp, G, q1, q2, q3, q4, _⟩ => ⟨A, cp, G, by rw [q1, (sure_x3 g).2.1, (sure_x3 g).2.2.1, (sure_x3 g).2.2.2]; rfl, q2, by rw [← (sure_x3 g).1]; exact q3, q4⟩
  have h5 : ∀ p F w', FR w' p F ⟨1, 2, 4, 0, 0, 9, zeroS⟩ → Calls Try.prog 14 #[.pointer (some ⟨p, 0, none⟩), .int .i64 8] w' fun e w'' => ∃ A cp G, e = .returned (.tuple #[.agg #[.slice A 0 cp, .int .i64 0, .int .i64 0, .int .i64 0, .bool false, .bool false], .bool false, .int .i64 11]) ∧ Keep F w' w'' ∧ FR w'' p G ⟨1, 2, 4, 0, 0, 9, zeroS⟩ ∧ Grows F G w' :=
    fun p F w' h => (fidle_any p F _ 8 w' h).mono fun e w'' ⟨A, cp, G, q1, q2, q3, q4, _⟩ => ⟨A, cp, G, by rw [q1, sure_x4.2.1, sure_x4.2.2.1, sure_x4.2.2.2]; rfl, q2, by rw [← sure_x4.1]; exact q3, q4⟩
  have h6 : ∀ p F w', FR w' p F ⟨1, 2, 4, 0, 0, 5, ⟨1, g, 5, 5, 1, false, false⟩⟩ → Calls Try.prog 9 #[.pointer (some ⟨p, 0, none⟩)] w' fun e w'' => e = .returned (.tuple #[.int .i64 9, .bool true]) ∧ Ext w' w'' :=
    fun p F w' h => (fdue_any p F _ w' h).mono fun e w'' ⟨q1, q2⟩ => ⟨by rw [q1, (sure_x2 g).2.2.2.2]; rfl, q2⟩
  have h7 : ∀ p F w', FR w' p F ⟨1, 2, 4, 0, 0, 9, zeroS⟩ → Calls Try.prog 11 #[.pointer (some ⟨p, 0, none⟩)] w' fun e w'' => e = .returned (.int .i64 0) ∧ w' = w'' := fun p F w' h => fheld_any p F _ w' h
  have h8 := fun w' => fnew_no 0 0 0 0 0 w' (.inl (by decide))
  unfold timesC at h1 h8
  have H2 := Lib.hid h2; have H3 := Lib.hid h3; have H4 := Lib.hid h4; have H5 := Lib.hid h5; have H6 := Lib.hid h6; have H7 := Lib.hid h7; have H8 := Lib.hid h8
  clear e1 e2 e3 e4 h2 h3 h4 h5 h6 h7 h8
  go_enter Try.func5, Try.ntmps5
  go_wp2_with fail
  refine h1.mono ?_; rintro e w1 ⟨p, F, rfl, x1, r1, b1⟩
  clear h1
  go_wp2_with fail
  refine (H2.out p F _ r1).mono ?_; rintro e w2 ⟨A2, c2, G2, rfl, k2, r2, g2⟩
  have b2 := b1.grows g2 x1
  have x2 := Ext.keep x1 k2 b1
  clear H2 r1 k2 g2 b1 x1
  go_wp2_with fail
  refine (H6.out p G2 _ (r2.ext (Ext.alloc _ _))).mono ?_; rintro e w3 ⟨rfl, x3⟩
  have r3 := r2.ext ((Ext.alloc _ _).trans x3)
  have x3' := x2.trans ((Ext.alloc _ _).trans x3)
  clear H6 r2 x2 x3
  go_wp2_with fail
  refine (H3.out p G2 _ r3).mono ?_; rintro e w4 ⟨A4, c4, G4, rfl, k4, r4, g4⟩
  have b4 := b2.grows g4 x3'
  have x4 := Ext.keep x3' k4 b2
  clear H3 r3 k4 g4 b2 x3'
  go_wp2_with fail
  refine (H4.out p G4 _ (r4.ext (Ext.alloc _ _))).mono ?_; rintro e w5 ⟨A5, c5, G5, rfl, k5, r5, g5⟩
  have b5 := b4.grows g5 (x4.trans (Ext.alloc _ _))
  have x5 := Ext.keep (x4.trans (Ext.alloc _ _)) k5 b4
  clear H4 r4 k5 g5 b4 x4
  go_wp2_with fail
  refine (H5.out p G5 _ (r5.ext (Ext.alloc _ _))).mono ?_; rintro e w6 ⟨A6, c6, G6, rfl, k6, r6, g6⟩
  have hn5 : ¬ G5 w5.heap.size := fun h => by have := r5.lt _ h; omega
  have hrow : w6.heap[w5.heap.size]? = some (.cells #[.slice A5 1 c5, .int .i64 5, .int .i64 5, .int .i64 1, .bool false, .bool false] 48 (0, 0)) := (k6.block _ (by simp) hn5).trans (heap_new_at _ _ rfl)
  have x6 := Ext.keep (x5.trans (Ext.alloc _ _)) k6 b5
  have hlt6 := heap_lt hrow
  obtain ⟨B, hB⟩ : ∃ B, B = w5.heap.size := ⟨_, rfl⟩
  rw [← hB] at hrow hlt6 ⊢
  have d1 : ∀ w', Ext w6 w' → w'.cell? ⟨B, 1, none⟩ = some (.int .i64 5) ∧ w'.cell? ⟨B, 3, none⟩ = some (.int .i64 1) ∧ w'.cell? ⟨B, 4, none⟩ = some (.bool false) := fun w' x =>
    ⟨cell_of_heap (j := 1) (x.block hrow) rfl, cell_of_heap (j := 3) (x.block hrow) rfl, cell_of_heap (j := 4) (x.block hrow) rfl⟩
  have H1 := Lib.hid d1
  clear H5 r5 k6 g6 b5 x5 hn5 hrow hB d1
  go_upto_region 9 with fail
  obtain ⟨W9, hW9⟩ : ∃ W9, W9 = w6.alloc (.cells #[.slice A6 0 c6, .int .i64 0, .int .i64 0, .int .i64 0, .bool false, .bool false] 48) := ⟨_, rfl⟩
  rw [← hW9]
  have x9 : Ext w6 W9 := by rw [hW9]; exact Ext.alloc _ _
  have r9 := r6.ext x9
  obtain ⟨d1, d3, d4⟩ := H1.out _ x9
  clear hW9 r6 hlt6 H1
  go_wp2_with fail
  refine (H7.out p G6 _ r9).mono ?_; rintro e w7 ⟨rfl, rfl⟩
  clear H7 r9 d1 d3 d4
  go_wp2_with fail
  refine (freset_nil 0 _).mono ?_; rintro e w8 ⟨rfl, x8⟩
  go_wp2_with fail
  refine (fheld_nil _).mono ?_; rintro e w10 ⟨rfl, rfl⟩
  go_wp2_with fail
  refine (H8.out _).mono ?_; rintro e w11 ⟨rfl, x11⟩
  clear H8
  go_wp2
  go_ret
  exact ⟨rfl, ((x6.trans x9).trans x8).trans x11⟩
end Go.Proofs.Ytlemnjphjmnmbaa
