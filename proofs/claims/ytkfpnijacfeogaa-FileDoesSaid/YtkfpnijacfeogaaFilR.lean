/-
  CONTRACTS: bilgeref14 (layer 14).
-/
import Derived.Test.YtkfpnijacfeogaaFil
import Derived.Test.YtkfpnijacfeogaaBitsA
import Derived.Test.YtkfpnijacfeogaaSame
namespace Go.Proofs.Ytkfpnijacfeogaa
open Go.RowKit
set_option linter.unusedVariables false

set_option maxHeartbeats 2000000 in
theorem rbank_v {F : Fil} {B : Bool} (h : bankB F = B) (w : World) : Calls Try.prog 9 #[.agg (bnkC F)] w fun e w' => e = .returned (.bool B) ∧ Ext w w' := by
  have e0 := Ext.alloc w (.cells (bnkC F) 25)
  obtain ⟨cf, cc, jf, jc, hf, hc, rf, rc, bf, bc, nC, C, nI, I, nH, H, nR, R⟩ := F
  unfold bankB at h
  unfold bnkC at e0 ⊢
  simp only at h e0 ⊢
  cases h0 : rgtB cf cc with
  | false =>
    obtain rfl : B = false := by rw [← h, h0]; rfl
    have H0 := Lib.hid h0
    clear h h0
    go_enter Try.func9, Try.ntmps9
    go_wp2_with fail
    refine (rwright_v H0.out _).mono ?_; rintro e w0 ⟨rfl, x0⟩
    have y0 := x0
    have c2 := y0.made 2 _ rfl; have c3 := y0.made 3 _ rfl
    clear x0
    have y := e0.trans y0
    clear y0 e0
    go_wp2
    go_ret
    exact ⟨rfl, y⟩
  | true =>
    cases h1 : rgtB jf jc with
    | false =>
      obtain rfl : B = false := by rw [← h, h0, h1]; rfl
      have H0 := Lib.hid h0
      have H1 := Lib.hid h1
      clear h h0 h1
      go_enter Try.func9, Try.ntmps9
      go_wp2_with fail
      refine (rwright_v H0.out _).mono ?_; rintro e w0 ⟨rfl, x0⟩
      have y0 := x0
      have c2 := y0.made 2 _ rfl; have c3 := y0.made 3 _ rfl
      clear x0
      go_wp2_with fail
      refine (rwright_v H1.out _).mono ?_; rintro e w1 ⟨rfl, x1⟩
      have y1 := y0.trans x1
      have c4 := y1.made 4 _ rfl; have c5 := y1.made 5 _ rfl
      clear x1 y0 c2 c3
      have y := e0.trans y1
      clear y1 e0
      go_wp2
      go_ret
      exact ⟨rfl, y⟩
    | true =>
      cases h2 : rgtB hf hc with
      | false =>
        obtain rfl : B = false := by rw [← h, h0, h1, h2]; rfl
        have H0 := Lib.hid h0
        have H1 := Lib.hid h1
        have H2 := Lib.hid h2
        clear h h0 h1 h2
        go_enter Try.func9, Try.ntmps9
        go_wp2_with fail
        refine (rwright_v H0.out _).mono ?_; rintro e w0 ⟨rfl, x0⟩
        have y0 := x0
        have c2 := y0.made 2 _ rfl; have c3 := y0.made 3 _ rfl
        clear x0
        go_wp2_with fail
        refine (rwright_v H1.out _).mono ?_; rintro e w1 ⟨rfl, x1⟩
        have y1 := y0.trans x1
        have c4 := y1.made 4 _ rfl; have c5 := y1.made 5 _ rfl
        clear x1 y0 c2 c3
        go_wp2_with fail
        refine (rwright_v H2.out _).mono ?_; rintro e w2 ⟨rfl, x2⟩
        have y2 := y1.trans x2
        have c6 := y2.made 6 _ rfl; have c7 := y2.made 7 _ rfl
        clear x2 y1 c4 c5
        have y := e0.trans y2
        clear y2 e0
        go_wp2
        go_ret
        exact ⟨rfl, y⟩
      | true =>
        cases h3 : rgtB rf rc with
        | false =>
          obtain rfl : B = false := by rw [← h, h0, h1, h2, h3]; rfl
          have H0 := Lib.hid h0
          have H1 := Lib.hid h1
          have H2 := Lib.hid h2
          have H3 := Lib.hid h3
          clear h h0 h1 h2 h3
          go_enter Try.func9, Try.ntmps9
          go_wp2_with fail
          refine (rwright_v H0.out _).mono ?_; rintro e w0 ⟨rfl, x0⟩
          have y0 := x0
          have c2 := y0.made 2 _ rfl; have c3 := y0.made 3 _ rfl
          clear x0
          go_wp2_with fail
          refine (rwright_v H1.out _).mono ?_; rintro e w1 ⟨rfl, x1⟩
          have y1 := y0.trans x1
          have c4 := y1.made 4 _ rfl; have c5 := y1.made 5 _ rfl
          clear x1 y0 c2 c3
          go_wp2_with fail
          refine (rwright_v H2.out _).mono ?_; rintro e w2 ⟨rfl, x2⟩
          have y2 := y1.trans x2
          have c6 := y2.made 6 _ rfl; have c7 := y2.made 7 _ rfl
          clear x2 y1 c4 c5
          go_wp2_with fail
          refine (rwright_v H3.out _).mono ?_; rintro e w3 ⟨rfl, x3⟩
          have y3 := y2.trans x3
          have c8 := y3.made 8 _ rfl; have c9 := y3.made 9 _ rfl
          clear x3 y2 c6 c7
          have y := e0.trans y3
          clear y3 e0
          go_wp2
          go_ret
          exact ⟨rfl, y⟩
        | true =>
          cases h4 : rgtB bf bc with
          | false =>
            obtain rfl : B = false := by rw [← h, h0, h1, h2, h3, h4]; rfl
            have H0 := Lib.hid h0
            have H1 := Lib.hid h1
            have H2 := Lib.hid h2
            have H3 := Lib.hid h3
            have H4 := Lib.hid h4
            clear h h0 h1 h2 h3 h4
            go_enter Try.func9, Try.ntmps9
            go_wp2_with fail
            refine (rwright_v H0.out _).mono ?_; rintro e w0 ⟨rfl, x0⟩
            have y0 := x0
            have c2 := y0.made 2 _ rfl; have c3 := y0.made 3 _ rfl
            clear x0
            go_wp2_with fail
            refine (rwright_v H1.out _).mono ?_; rintro e w1 ⟨rfl, x1⟩
            have y1 := y0.trans x1
            have c4 := y1.made 4 _ rfl; have c5 := y1.made 5 _ rfl
            clear x1 y0 c2 c3
            go_wp2_with fail
            refine (rwright_v H2.out _).mono ?_; rintro e w2 ⟨rfl, x2⟩
            have y2 := y1.trans x2
            have c6 := y2.made 6 _ rfl; have c7 := y2.made 7 _ rfl
            clear x2 y1 c4 c5
            go_wp2_with fail
            refine (rwright_v H3.out _).mono ?_; rintro e w3 ⟨rfl, x3⟩
            have y3 := y2.trans x3
            have c8 := y3.made 8 _ rfl; have c9 := y3.made 9 _ rfl
            clear x3 y2 c6 c7
            go_wp2_with fail
            refine (rwright_v H4.out _).mono ?_; rintro e w4 ⟨rfl, x4⟩
            have y4 := y3.trans x4
            clear x4 y3 c8 c9
            have y := e0.trans y4
            clear y4 e0
            go_wp2
            go_ret
            exact ⟨rfl, y⟩
          | true =>
            obtain rfl : B = true := by rw [← h, h0, h1, h2, h3, h4]; rfl
            have H0 := Lib.hid h0
            have H1 := Lib.hid h1
            have H2 := Lib.hid h2
            have H3 := Lib.hid h3
            have H4 := Lib.hid h4
            clear h h0 h1 h2 h3 h4
            go_enter Try.func9, Try.ntmps9
            go_wp2_with fail
            refine (rwright_v H0.out _).mono ?_; rintro e w0 ⟨rfl, x0⟩
            have y0 := x0
            have c2 := y0.made 2 _ rfl; have c3 := y0.made 3 _ rfl
            clear x0
            go_wp2_with fail
            refine (rwright_v H1.out _).mono ?_; rintro e w1 ⟨rfl, x1⟩
            have y1 := y0.trans x1
            have c4 := y1.made 4 _ rfl; have c5 := y1.made 5 _ rfl
            clear x1 y0 c2 c3
            go_wp2_with fail
            refine (rwright_v H2.out _).mono ?_; rintro e w2 ⟨rfl, x2⟩
            have y2 := y1.trans x2
            have c6 := y2.made 6 _ rfl; have c7 := y2.made 7 _ rfl
            clear x2 y1 c4 c5
            go_wp2_with fail
            refine (rwright_v H3.out _).mono ?_; rintro e w3 ⟨rfl, x3⟩
            have y3 := y2.trans x3
            have c8 := y3.made 8 _ rfl; have c9 := y3.made 9 _ rfl
            clear x3 y2 c6 c7
            go_wp2_with fail
            refine (rwright_v H4.out _).mono ?_; rintro e w4 ⟨rfl, x4⟩
            have y4 := y3.trans x4
            clear x4 y3 c8 c9
            have y := e0.trans y4
            clear y4 e0
            go_wp2
            go_ret
            exact ⟨rfl, y⟩

set_option maxHeartbeats 2000000 in
theorem rright14_any (V : FilV) (F : Fil) (w : World) : Calls Try.prog 23 #[.agg (filC V F)] w fun e w' => e = .returned (.bool (rightB F)) ∧ Ext w w' := by
  have e0 := Ext.alloc w (.cells (filC V F) 31)
  have e1 := Ext.alloc (w.alloc (.cells (filC V F) 31)) (.cells (bnkC F) 25)
  have H := Lib.hid (rightB_iff F)
  generalize rightB F = B at H ⊢
  cases hb : bankB F with
  | false =>
    obtain rfl : B = false := (b_false H.out (by rw [hb]; rintro ⟨h, _⟩; cases h)).symm
    have HB := Lib.hid (fun w' => rbank_v hb w')
    clear hb H
    obtain ⟨cf, cc, jf, jc, hf, hc, rf, rc, bf, bc, nC, C, nI, I, nH, H, nR, R⟩ := F
    obtain ⟨a1, d1, a2, d2, a3, d3, a4, d4⟩ := V
    unfold bnkC at HB e1
    unfold filC at e0 e1 ⊢
    simp only at HB e0 e1 ⊢
    go_enter Try.func23, Try.ntmps23
    go_wp2_with fail
    refine (HB.out _).mono ?_; rintro e w1 ⟨rfl, x1⟩
    have x2 := (e0.trans e1).trans x1
    go_wp2
    go_ret
    exact ⟨rfl, x2⟩
  | true =>
    have HB := Lib.hid (fun w' => rbank_v hb w')
    have H2 : Hid (B = true ↔ (F.nC : Int) = F.cc ∧ (F.nI : Int) = F.jc ∧ (F.nH : Int) = F.hc ∧ (F.nR : Int) = F.rc) := Lib.hid (by have := H.out; rw [hb] at this; simpa using this)
    clear hb H
    obtain ⟨cf, cc, jf, jc, hf, hc, rf, rc, bf, bc, nC, C, nI, I, nH, H, nR, R⟩ := F
    obtain ⟨a1, d1, a2, d2, a3, d3, a4, d4⟩ := V
    unfold bnkC at HB e1
    unfold filC at e0 e1 ⊢
    simp only at HB e0 e1 H2 ⊢
    go_enter Try.func23, Try.ntmps23
    go_wp2_with fail
    refine (HB.out _).mono ?_; rintro e w1 ⟨rfl, x1⟩
    have c1 := x1.made 1 _ rfl; have c3 := x1.made 3 _ rfl; have c5 := x1.made 5 _ rfl; have c7 := x1.made 7 _ rfl
    have x3 := e1.trans x1
    have d10 := x3.made 10 _ rfl; have d11 := x3.made 11 _ rfl; have d12 := x3.made 12 _ rfl; have d13 := x3.made 13 _ rfl
    have x2 := e0.trans x3
    have hs : (w.alloc (.cells #[.int .i64 cf, .int .i64 cc, .int .i64 jf, .int .i64 jc, .int .i64 hf, .int .i64 hc, .int .i64 rf, .int .i64 rc, .int .i64 bf, .int .i64 bc, .slice a1 nC d1, .slice a2 nI d2, .slice a3 nH d3, .slice a4 nR d4] 31)).heap.size = w.heap.size + 1 := by simp
    rw [hs] at c1 c3 c5 c7
    clear x1 e0 x3 e1 hs
    go_wp2
    all_goals
      go_ret
      first
        | exact ⟨ret_b (b_false H2.out (by omega)), x2⟩
        | exact ⟨ret_b (b_dec H2.out (by omega)), x2⟩
theorem rright14_v {V : FilV} {F : Fil} {B : Bool} (h : rightB F = B) (w : World) : Calls Try.prog 23 #[.agg (filC V F)] w fun e w' => e = .returned (.bool B) ∧ Ext w w' := h ▸ rright14_any V F w
end Go.Proofs.Ytkfpnijacfeogaa
