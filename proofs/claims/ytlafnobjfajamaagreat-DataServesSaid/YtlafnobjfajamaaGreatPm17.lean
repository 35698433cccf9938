/-
  CONTRACTS: bilgeref14 (layer 14).
  CONTRACTS: bilgeref14 (layer 14): what is read, and written.
  CONTRACTS: bilgeref14 (layer 14): what is written.
  CONTRACTS: bilgeref14 (layer 14): holding registers written; inputs measured.
  CONTRACTS: bilgeref14 (layer 14): two files held against one another; how many cells.
  CONTRACTS: bilgeref14 (layer 14): a new file.
-/
import Derived.Test.YtlafnobjfajamaaGreatPm7
import Derived.Test.YtlafnobjfajamaaGreatPm10
import Derived.Test.YtlafnobjfajamaaGreatPm16
import Derived.Test.YtlafnobjfajamaaGreatPm1
import Derived.Laws.CopyOwn
import Derived.Test.YtlafnobjfajamaaGreatPm6
namespace Go.Proofs.YtlafnobjfajamaaGreat
open Go.RowKit
set_option linter.unusedVariables false

set_option maxHeartbeats 2000000 in
theorem rbank_v {F : Fil} {B : Bool} (h : bankB F = B) (w : World) : Calls Tryz.prog 35 #[.agg (bnkC F)] w fun e w' => e = .returned (.bool B) ∧ Ext w w' := by
  have e0 := Ext.alloc w (.cells (bnkC F) 25)
  obtain ⟨cf, cc, jf, jc, hf, hc, rf, rc, bf, bc, nC, C, nI, I, nH, H, nR, R⟩ := F
  unfold bankB at h
  unfold bnkC at e0 ⊢
  simp only at h e0 ⊢
  cases h0 : rgtB cf cc with
  | false =>
    obtain rfl : B = false := by rw [← h, h0]; rfl
    have H0 := Lib.hid h0
    clear h h0
    go_enter Tryz.func35, Tryz.ntmps35
    go_wp2_with fail
    refine (rwright_v H0.out _).mono ?_; rintro e w0 ⟨rfl, x0⟩
    have y0 := x0
    have c2 := y0.made 2 _ rfl; have c3 := y0.made 3 _ rfl
    clear x0
    have y := e0.trans y0
    clear y0 e0
    go_wp2
    go_ret
    exact ⟨rfl, y⟩
  | true =>
    cases h1 : rgtB jf jc with
    | false =>
      obtain rfl : B = false := by rw [← h, h0, h1]; rfl
      have H0 := Lib.hid h0
      have H1 := Lib.hid h1
      clear h h0 h1
      go_enter Tryz.func35, Tryz.ntmps35
      go_wp2_with fail
      refine (rwright_v H0.out _).mono ?_; rintro e w0 ⟨rfl, x0⟩
      have y0 := x0
      have c2 := y0.made 2 _ rfl; have c3 := y0.made 3 _ rfl
      clear x0
      go_wp2_with fail
      refine (rwright_v H1.out _).mono ?_; rintro e w1 ⟨rfl, x1⟩
      have y1 := y0.trans x1
      have c4 := y1.made 4 _ rfl; have c5 := y1.made 5 _ rfl
      clear x1 y0 c2 c3
      have y := e0.trans y1
      clear y1 e0
      go_wp2
      go_ret
      exact ⟨rfl, y⟩
    | true =>
      cases h2 : rgtB hf hc with
      | false =>
        obtain rfl : B = false := by rw [← h, h0, h1, h2]; rfl
        have H0 := Lib.hid h0
        have H1 := Lib.hid h1
        have H2 := Lib.hid h2
        clear h h0 h1 h2
        go_enter Tryz.func35, Tryz.ntmps35
        go_wp2_with fail
        refine (rwright_v H0.out _).mono ?_; rintro e w0 ⟨rfl, x0⟩
        have y0 := x0
        have c2 := y0.made 2 _ rfl; have c3 := y0.made 3 _ rfl
        clear x0
        go_wp2_with fail
        refine (rwright_v H1.out _).mono ?_; rintro e w1 ⟨rfl, x1⟩
        have y1 := y0.trans x1
        have c4 := y1.made 4 _ rfl; have c5 := y1.made 5 _ rfl
        clear x1 y0 c2 c3
        go_wp2_with fail
        refine (rwright_v H2.out _).mono ?_; rintro e w2 ⟨rfl, x2⟩
        have y2 := y1.trans x2
        have c6 := y2.made 6 _ rfl; have c7 := y2.made 7 _ rfl
        clear x2 y1 c4 c5
        have y := e0.trans y2
        clear y2 e0
        go_wp2
        go_ret
        exact ⟨rfl, y⟩
      | true =>
        cases h3 : rgtB rf rc with
        | false =>
          obtain rfl : B = false := by rw [← h, h0, h1, h2, h3]; rfl
          have H0 := Lib.hid h0
          have H1 := Lib.hid h1
          have H2 := Lib.hid h2
          have H3 := Lib.hid h3
          clear h h0 h1 h2 h3
          go_enter Tryz.func35, Tryz.ntmps35
          go_wp2_with fail
          refine (rwright_v H0.out _).mono ?_; rintro e w0 ⟨rfl, x0⟩
          have y0 := x0
          have c2 := y0.made 2 _ rfl; have c3 := y0.made 3 _ rfl
          clear x0
          go_wp2_with fail
          refine (rwright_v H1.out _).mono ?_; rintro e w1 ⟨rfl, x1⟩
          have y1 := y0.trans x1
          have c4 := y1.made 4 _ rfl; have c5 := y1.made 5 _ rfl
          clear x1 y0 c2 c3
          go_wp2_with fail
          refine (rwright_v H2.out _).mono ?_; rintro e w2 ⟨rfl, x2⟩
          have y2 := y1.trans x2
          have c6 := y2.made 6 _ rfl; have c7 := y2.made 7 _ rfl
          clear x2 y1 c4 c5
          go_wp2_with fail
          refine (rwright_v H3.out _).mono ?_; rintro e w3 ⟨rfl, x3⟩
          have y3 := y2.trans x3
          have c8 := y3.made 8 _ rfl; have c9 := y3.made 9 _ rfl
          clear x3 y2 c6 c7
          have y := e0.trans y3
          clear y3 e0
          go_wp2
          go_ret
          exact ⟨rfl, y⟩
        | true =>
          cases h4 : rgtB bf bc with
          | false =>
            obtain rfl : B = false := by rw [← h, h0, h1, h2, h3, h4]; rfl
            have H0 := Lib.hid h0
            have H1 := Lib.hid h1
            have H2 := Lib.hid h2
            have H3 := Lib.hid h3
            have H4 := Lib.hid h4
            clear h h0 h1 h2 h3 h4
            go_enter Tryz.func35, Tryz.ntmps35
            go_wp2_with fail
            refine (rwright_v H0.out _).mono ?_; rintro e w0 ⟨rfl, x0⟩
            have y0 := x0
            have c2 := y0.made 2 _ rfl; have c3 := y0.made 3 _ rfl
            clear x0
            go_wp2_with fail
            refine (rwright_v H1.out _).mono ?_; rintro e w1 ⟨rfl, x1⟩
            have y1 := y0.trans x1
            have c4 := y1.made 4 _ rfl; have c5 := y1.made 5 _ rfl
            clear x1 y0 c2 c3
            go_wp2_with fail
            refine (rwright_v H2.out _).mono ?_; rintro e w2 ⟨rfl, x2⟩
            have y2 := y1.trans x2
            have c6 := y2.made 6 _ rfl; have c7 := y2.made 7 _ rfl
            clear x2 y1 c4 c5
            go_wp2_with fail
            refine (rwright_v H3.out _).mono ?_; rintro e w3 ⟨rfl, x3⟩
            have y3 := y2.trans x3
            have c8 := y3.made 8 _ rfl; have c9 := y3.made 9 _ rfl
            clear x3 y2 c6 c7
            go_wp2_with fail
            refine (rwright_v H4.out _).mono ?_; rintro e w4 ⟨rfl, x4⟩
            have y4 := y3.trans x4
            clear x4 y3 c8 c9
            have y := e0.trans y4
            clear y4 e0
            go_wp2
            go_ret
            exact ⟨rfl, y⟩
          | true =>
            obtain rfl : B = true := by rw [← h, h0, h1, h2, h3, h4]; rfl
            have H0 := Lib.hid h0
            have H1 := Lib.hid h1
            have H2 := Lib.hid h2
            have H3 := Lib.hid h3
            have H4 := Lib.hid h4
            clear h h0 h1 h2 h3 h4
            go_enter Tryz.func35, Tryz.ntmps35
            go_wp2_with fail
            refine (rwright_v H0.out _).mono ?_; rintro e w0 ⟨rfl, x0⟩
            have y0 := x0
            have c2 := y0.made 2 _ rfl; have c3 := y0.made 3 _ rfl
            clear x0
            go_wp2_with fail
            refine (rwright_v H1.out _).mono ?_; rintro e w1 ⟨rfl, x1⟩
            have y1 := y0.trans x1
            have c4 := y1.made 4 _ rfl; have c5 := y1.made 5 _ rfl
            clear x1 y0 c2 c3
            go_wp2_with fail
            refine (rwright_v H2.out _).mono ?_; rintro e w2 ⟨rfl, x2⟩
            have y2 := y1.trans x2
            have c6 := y2.made 6 _ rfl; have c7 := y2.made 7 _ rfl
            clear x2 y1 c4 c5
            go_wp2_with fail
            refine (rwright_v H3.out _).mono ?_; rintro e w3 ⟨rfl, x3⟩
            have y3 := y2.trans x3
            have c8 := y3.made 8 _ rfl; have c9 := y3.made 9 _ rfl
            clear x3 y2 c6 c7
            go_wp2_with fail
            refine (rwright_v H4.out _).mono ?_; rintro e w4 ⟨rfl, x4⟩
            have y4 := y3.trans x4
            clear x4 y3 c8 c9
            have y := e0.trans y4
            clear y4 e0
            go_wp2
            go_ret
            exact ⟨rfl, y⟩

set_option maxHeartbeats 2000000 in
theorem rright14_any (V : FilV) (F : Fil) (w : World) : Calls Tryz.prog 15 #[.agg (filC V F)] w fun e w' => e = .returned (.bool (rightB F)) ∧ Ext w w' := by
  have e0 := Ext.alloc w (.cells (filC V F) 29)
  have e1 := Ext.alloc (w.alloc (.cells (filC V F) 29)) (.cells (bnkC F) 25)
  have H := Lib.hid (rightB_iff F)
  generalize rightB F = B at H ⊢
  cases hb : bankB F with
  | false =>
    obtain rfl : B = false := (b_false H.out (by rw [hb]; rintro ⟨h, _⟩; cases h)).symm
    have HB := Lib.hid (fun w' => rbank_v hb w')
    clear hb H
    obtain ⟨cf, cc, jf, jc, hf, hc, rf, rc, bf, bc, nC, C, nI, I, nH, H, nR, R⟩ := F
    obtain ⟨a1, d1, a2, d2, a3, d3, a4, d4⟩ := V
    unfold bnkC at HB e1
    unfold filC at e0 e1 ⊢
    simp only at HB e0 e1 ⊢
    go_enter Tryz.func15, Tryz.ntmps15
    go_wp2_with fail
    refine (HB.out _).mono ?_; rintro e w1 ⟨rfl, x1⟩
    have x2 := (e0.trans e1).trans x1
    go_wp2
    go_ret
    exact ⟨rfl, x2⟩
  | true =>
    have HB := Lib.hid (fun w' => rbank_v hb w')
    have H2 : Hid (B = true ↔ (F.nC : Int) = F.cc ∧ (F.nI : Int) = F.jc ∧ (F.nH : Int) = F.hc ∧ (F.nR : Int) = F.rc) := Lib.hid (by have := H.out; rw [hb] at this; simpa using this)
    clear hb H
    obtain ⟨cf, cc, jf, jc, hf, hc, rf, rc, bf, bc, nC, C, nI, I, nH, H, nR, R⟩ := F
    obtain ⟨a1, d1, a2, d2, a3, d3, a4, d4⟩ := V
    unfold bnkC at HB e1
    unfold filC at e0 e1 ⊢
    simp only at HB e0 e1 H2 ⊢
    go_enter Tryz.func15, Tryz.ntmps15
    go_wp2_with fail
    refine (HB.out _).mono ?_; rintro e w1 ⟨rfl, x1⟩
    have c1 := x1.made 1 _ rfl; have c3 := x1.made 3 _ rfl; have c5 := x1.made 5 _ rfl; have c7 := x1.made 7 _ rfl
    have x3 := e1.trans x1
    have d10 := x3.made 10 _ rfl; have d11 := x3.made 11 _ rfl; have d12 := x3.made 12 _ rfl; have d13 := x3.made 13 _ rfl
    have x2 := e0.trans x3
    have hs : (w.alloc (.cells #[.int .i64 cf, .int .i64 cc, .int .i64 jf, .int .i64 jc, .int .i64 hf, .int .i64 hc, .int .i64 rf, .int .i64 rc, .int .i64 bf, .int .i64 bc, .slice a1 nC d1, .slice a2 nI d2, .slice a3 nH d3, .slice a4 nR d4] 29)).heap.size = w.heap.size + 1 := by simp
    rw [hs] at c1 c3 c5 c7
    clear x1 e0 x3 e1 hs
    go_wp2
    all_goals
      go_ret
      first
        | exact ⟨ret_b (b_false H2.out (by omega)), x2⟩
        | exact ⟨ret_b (b_dec H2.out (by omega)), x2⟩
theorem rright14_v {V : FilV} {F : Fil} {B : Bool} (h : rightB F = B) (w : World) : Calls Tryz.prog 15 #[.agg (filC V F)] w fun e w' => e = .returned (.bool B) ∧ Ext w w' := h ▸ rright14_any V F w
end Go.Proofs.YtlafnobjfajamaaGreat
namespace Go.Proofs.YtlafnobjfajamaaGreat
open Go.RowKit
set_option linter.unusedVariables false

set_option maxHeartbeats 2000000 in
theorem rbits14_any (V : FilV) (F : Fil) (i : Bool) (x k : Int) (w : World) (h : FilAt w V F) : Calls Tryz.prog 39 #[.agg (filC V F), .bool i, .int .i64 x, .int .i64 k] w (SlP Value.bool (bitE F i x k) (bitN F i x k) (bitL F i x) w) := by
  unfold SlP
  have e0 := Ext.alloc w (.cells (filC V F) 29)
  cases hr : rightB F with
  | false =>
    obtain ⟨hE, hN⟩ := bitE_no (x := x) (k := k) i hr
    rw [hE, hN]
    have HR := Lib.hid (fun w' => rright14_v (V := V) hr w')
    clear hr hE hN h
    unfold filC at HR e0 ⊢
    go_enter Tryz.func39, Tryz.ntmps39
    go_wp2_with fail
    refine (HR.out _).mono ?_; rintro e w1 ⟨rfl, x1⟩
    have x2 := e0.trans x1
    go_wp2
    go_ret2
    exact ⟨_, _, rfl, Nat.zero_le _, Nat.zero_le _, .inl rfl, x2, Fresh.nil _⟩
  | true =>
    have hs := right_small hr
    have HR := Lib.hid (fun w' => rright14_v (V := V) hr w')
    cases i with
    | true =>
      obtain ⟨hE, hN⟩ := bitE_in (x := x) (k := k) hr
      have K := Lib.hid (fun w' (hx : Ext w w') => (r13Bits_f F.jf F.jc x k V.a2 F.nI V.d2 F.I w' (h.h2.ext hx) hs.2.1).mono fun _ _ => RdPostF.sl)
      rw [hE, hN, show bitL F true x = rdF F.I F.jf x from rfl]
      generalize rdE F.jf F.jc F.nI x k = E at K ⊢
      generalize rdN F.jf F.jc F.nI x k k.toNat = N at K ⊢
      generalize rdF F.I F.jf x = L at K ⊢
      clear hr hE hN h hs
      unfold SlP at K
      unfold filC at HR e0 ⊢
      go_enter Tryz.func39, Tryz.ntmps39
      go_wp2_with fail
      refine (HR.out _).mono ?_; rintro e w1 ⟨rfl, x1⟩
      have c2 := x1.made 2 _ rfl; have c3 := x1.made 3 _ rfl; have c11 := x1.made 11 _ rfl
      have x2 := e0.trans x1
      clear e0 x1
      go_wp2_with fail
      refine (K.out _ x2).mono ?_; rintro e w3 ⟨b, q, rfl, h1, h2, h3, x3, f3⟩
      have x4 := x2.trans x3
      clear x3 c2 c3 c11
      go_wp2
      go_ret2
      exact ⟨b, q, rfl, h1, h2, h3, x4, f3.back x2⟩
    | false =>
      obtain ⟨hE, hN⟩ := bitE_out (x := x) (k := k) hr
      have K := Lib.hid (fun w' (hx : Ext w w') => (r13Bits_f F.cf F.cc x k V.a1 F.nC V.d1 F.C w' (h.h1.ext hx) hs.1).mono fun _ _ => RdPostF.sl)
      rw [hE, hN, show bitL F false x = rdF F.C F.cf x from rfl]
      generalize rdE F.cf F.cc F.nC x k = E at K ⊢
      generalize rdN F.cf F.cc F.nC x k k.toNat = N at K ⊢
      generalize rdF F.C F.cf x = L at K ⊢
      clear hr hE hN h hs
      unfold SlP at K
      unfold filC at HR e0 ⊢
      go_enter Tryz.func39, Tryz.ntmps39
      go_wp2_with fail
      refine (HR.out _).mono ?_; rintro e w1 ⟨rfl, x1⟩
      have c0 := x1.made 0 _ rfl; have c1 := x1.made 1 _ rfl; have c10 := x1.made 10 _ rfl
      have x2 := e0.trans x1
      clear e0 x1
      go_wp2_with fail
      refine (K.out _ x2).mono ?_; rintro e w3 ⟨b, q, rfl, h1, h2, h3, x3, f3⟩
      have x4 := x2.trans x3
      clear x3 c0 c1 c10
      go_wp2
      go_ret2
      exact ⟨b, q, rfl, h1, h2, h3, x4, f3.back x2⟩

theorem brk_no {F : Fil} {e x k : Int} (h : e ≠ 0) : brkE F e x k = e := by unfold brkE; rw [if_neg (fun c => h c.1)]
theorem brk_works {F : Fil} {x k : Int} (h : meetB F.bf F.bc x k = false) : brkE F 0 x k = 0 := by unfold brkE; rw [if_neg (by rw [h]; rintro ⟨_, h⟩; cases h)]
theorem brk_yes {F : Fil} {x k : Int} (h : meetB F.bf F.bc x k = true) : brkE F 0 x k = 4 := by unfold brkE; rw [if_pos ⟨rfl, h⟩]
set_option maxHeartbeats 2000000 in
theorem rwords14_any (V : FilV) (F : Fil) (i : Bool) (x k : Int) (w : World) (h : FilAt w V F) (wx : (Lit.int .i64 x).wf = true) (wk : (Lit.int .i64 k).wf = true) : Calls Tryz.prog 40 #[.agg (filC V F), .bool i, .int .i64 x, .int .i64 k] w (SlP (Value.int .u16) (wrdE F i x k) (wrdN F i x k) (wrdL F i x) w) := by
  unfold SlP
  have hbd := trm_in wk wx
  have e0 := Ext.alloc w (.cells (filC V F) 29)
  cases hr : rightB F with
  | false =>
    obtain ⟨hE, hN⟩ := wrdE_no (x := x) (k := k) i hr
    rw [hE, hN]
    have HR := Lib.hid (fun w' => rright14_v (V := V) hr w')
    clear hr hE hN h hbd
    unfold filC at HR e0 ⊢
    go_enter Tryz.func40, Tryz.ntmps40
    go_wp2_with fail
    refine (HR.out _).mono ?_; rintro e w1 ⟨rfl, x1⟩
    have x2 := e0.trans x1
    go_wp2
    go_ret2
    exact ⟨_, _, rfl, Nat.zero_le _, Nat.zero_le _, .inl rfl, x2, Fresh.nil _⟩
  | true =>
    have hs := right_small hr
    have HR := Lib.hid (fun w' => rright14_v (V := V) hr w')
    cases i with
    | true =>
      obtain ⟨hE, hN⟩ := wrdE_in (x := x) (k := k) hr
      have K := Lib.hid (fun w' (hx : Ext w w') => (r13Words_f F.rf F.rc x k V.a4 F.nR V.d4 F.R w' (h.h4.ext hx) hs.2.2.2).mono fun _ _ => RdPostF.sl)
      rw [hE, hN, show wrdL F true x = rdF F.R F.rf x from rfl]
      generalize rdE F.rf F.rc F.nR x k = E at K ⊢
      generalize rdN F.rf F.rc F.nR x k k.toNat = N at K ⊢
      generalize rdF F.R F.rf x = L at K ⊢
      clear hr hE hN h hs hbd
      unfold SlP at K
      unfold filC at HR e0 ⊢
      go_enter Tryz.func40, Tryz.ntmps40
      go_wp2_with fail
      refine (HR.out _).mono ?_; rintro e w1 ⟨rfl, x1⟩
      have c6 := x1.made 6 _ rfl; have c7 := x1.made 7 _ rfl; have c13 := x1.made 13 _ rfl
      have x2 := e0.trans x1
      clear e0 x1
      go_wp2_with fail
      refine (K.out _ x2).mono ?_; rintro e w3 ⟨b, q, rfl, h1, h2, h3, x3, f3⟩
      have x4 := x2.trans x3
      clear x3 c6 c7 c13
      go_wp2
      go_ret2
      exact ⟨b, q, rfl, h1, h2, h3, x4, f3.back x2⟩
    | false =>
      obtain ⟨hE, hN⟩ := wrdE_out (x := x) (k := k) hr
      have K := Lib.hid (fun w' (hx : Ext w w') => (r13Words_f F.hf F.hc x k V.a3 F.nH V.d3 F.H w' (h.h3.ext hx) hs.2.2.1).mono fun _ _ => RdPostF.sl)
      rw [hE, hN, show wrdL F false x = rdF F.H F.hf x from rfl]
      have hrd : rdN F.hf F.hc F.nH x k k.toNat = if rdE F.hf F.hc F.nH x k = 0 then k.toNat else 0 := rfl
      generalize rdE F.hf F.hc F.nH x k = E at K hrd ⊢
      generalize rdN F.hf F.hc F.nH x k k.toNat = N at K hrd ⊢
      generalize rdF F.H F.hf x = L at K ⊢
      by_cases hE0 : E = 0
      · subst hE0
        rw [if_pos rfl] at hrd
        cases hm : meetB F.bf F.bc x k with
        | false =>
          rw [brk_works hm, if_pos rfl, ← hrd]
          have HM := Lib.hid (fun w' => rwmeets_v hm hbd w')
          clear hr hE hN h hs hbd hrd hm
          unfold SlP at K
          unfold filC at HR e0 ⊢
          go_enter Tryz.func40, Tryz.ntmps40
          go_wp2_with fail
          refine (HR.out _).mono ?_; rintro e w1 ⟨rfl, x1⟩
          have c4 := x1.made 4 _ rfl; have c5 := x1.made 5 _ rfl; have c12 := x1.made 12 _ rfl
          have x2 := e0.trans x1
          clear e0
          go_wp2_with fail
          refine (K.out _ x2).mono ?_; rintro e w3 ⟨b, q, rfl, h1, h2, h3, x3, f3⟩
          have x4 := x2.trans x3
          have x5 := x1.trans x3
          have d8 := x5.made 8 _ rfl; have d9 := x5.made 9 _ rfl
          clear x3 c4 c5 c12 x1 x5
          go_wp2_with fail
          refine (HM.out _).mono ?_; rintro e w6 ⟨rfl, x6⟩
          have x7 := x4.trans x6
          have h4 := h3.ext x6
          clear d8 d9 x6 h3 x4
          go_wp2
          go_ret2
          exact ⟨b, q, rfl, h1, h2, h4, x7, f3.back x2⟩
        | true =>
          rw [brk_yes hm, if_neg (by decide)]
          have HM := Lib.hid (fun w' => rwmeets_v hm hbd w')
          clear hr hE hN h hs hbd hrd hm
          unfold SlP at K
          unfold filC at HR e0 ⊢
          go_enter Tryz.func40, Tryz.ntmps40
          go_wp2_with fail
          refine (HR.out _).mono ?_; rintro e w1 ⟨rfl, x1⟩
          have c4 := x1.made 4 _ rfl; have c5 := x1.made 5 _ rfl; have c12 := x1.made 12 _ rfl
          have x2 := e0.trans x1
          clear e0
          go_wp2_with fail
          refine (K.out _ x2).mono ?_; rintro e w3 ⟨b, q, rfl, h1, h2, h3, x3, f3⟩
          have x4 := x2.trans x3
          have x5 := x1.trans x3
          have d8 := x5.made 8 _ rfl; have d9 := x5.made 9 _ rfl
          clear x3 c4 c5 c12 x1 x5
          go_wp2_with fail
          refine (HM.out _).mono ?_; rintro e w6 ⟨rfl, x6⟩
          have x7 := x4.trans x6
          clear d8 d9 x6 h3 x4
          go_wp2
          go_ret2
          exact ⟨_, _, rfl, Nat.zero_le _, Nat.zero_le _, .inl rfl, x7, Fresh.nil _⟩
      · rw [if_neg hE0] at hrd
        rw [brk_no hE0, if_neg hE0, ← hrd]
        clear hr hE hN h hs hbd hrd
        unfold SlP at K
        unfold filC at HR e0 ⊢
        go_enter Tryz.func40, Tryz.ntmps40
        go_wp2_with fail
        refine (HR.out _).mono ?_; rintro e w1 ⟨rfl, x1⟩
        have c4 := x1.made 4 _ rfl; have c5 := x1.made 5 _ rfl; have c12 := x1.made 12 _ rfl
        have x2 := e0.trans x1
        clear e0 x1
        go_wp2_with fail
        refine (K.out _ x2).mono ?_; rintro e w3 ⟨b, q, rfl, h1, h2, h3, x3, f3⟩
        have x4 := x2.trans x3
        clear x3 c4 c5 c12
        go_wp2
        go_ret2
        exact ⟨b, q, rfl, h1, h2, h3, x4, f3.back x2⟩
end Go.Proofs.YtlafnobjfajamaaGreat
namespace Go.Proofs.YtlafnobjfajamaaGreat
open Go.RowKit
set_option linter.unusedVariables false

/-- What is told, laid out: a field of the box has been turned, the box of what is told is laid. -/
theorem file_told {w w' : World} {V V0 : FilV} {F G : Fil} {j : Nat} {v : Value} {cs : Array Value} (h : FilAt w' V G) (x : Ext w w') (f : From w V0 F V G) (o : FilOff (fun i => i = w.heap.size ∨ i = w.heap.size + 1) V G) :
    FilAt ((w'.setCell ⟨w.heap.size, j, none⟩ v).setRow (w.heap.size + 1) cs) V G ∧ Ext w ((w'.setCell ⟨w.heap.size, j, none⟩ v).setRow (w.heap.size + 1) cs) ∧ From w V0 F V G := by
  refine ⟨?_, below_setRow (Below.setCell x (Nat.le_refl _) _) (Nat.le_succ _) _, f⟩
  have k : Keep (fun i => i = w.heap.size ∨ i = w.heap.size + 1) w' ((w'.setCell ⟨w.heap.size, j, none⟩ v).setRow (w.heap.size + 1) cs) :=
    ((keepCell w' w.heap.size j v).mono fun i hi => .inl hi).trans (keepRow _ (w.heap.size + 1) cs) (fun i hi => .inl (.inr hi))
  exact h.keep k o
theorem above_two (w : World) : Above w (fun i => i = w.heap.size ∨ i = w.heap.size + 1) := fun i hi => by rcases hi with h | h <;> omega
theorem fresh_off {w a : World} {x : Option Addr} {n : Nat} (h : Fresh a x) (hs : w.heap.size + 2 ≤ a.heap.size) : OffN (fun i => i = w.heap.size ∨ i = w.heap.size + 1) x n :=
  h.offN fun i hi => by rcases hi with h | h <;> omega
theorem sbE_right {F : Fil} {x : Int} {m : Nat} (h : rightB F = true) : sbE F x m = rdE F.cf F.cc F.nC x m := by unfold sbE; rw [if_pos h]
theorem sbE_wrong {F : Fil} {x : Int} {m : Nat} (h : rightB F = false) : sbE F x m = 11 := by unfold sbE; rw [if_neg (by rw [h]; decide)]
theorem sbF_no {F : Fil} {x : Int} {m : Nat} {v : Nat → Bool} {E : Int} (h : sbE F x m = E) (h0 : E ≠ 0) : sbF F x m v = zeroF := by unfold sbF; rw [h, if_neg h0]
theorem sbF_yes {F : Fil} {x : Int} {m : Nat} {v : Nat → Bool} (h : sbE F x m = 0) : sbF F x m v = { F with C := wrF F.C v F.cf x m } := by unfold sbF; rw [if_pos h]
set_option maxRecDepth 100000 in
set_option maxHeartbeats 4000000 in
theorem rsetbits14_any (V : FilV) (F : Fil) (x : Int) (b : Option Addr) (m e : Nat) (v : Nat → Bool) (w : World) (h : FilAt w V F) (hv : HoldsG Value.bool w b m v) (hm : m ≤ 1000000) :
    Calls Tryz.prog 41 #[.agg (filC V F), .int .i64 x, .slice b m e] w (FP (sbE F x m) (sbF F x m v) V F w) := by
  unfold FP
  have e0 := (Ext.alloc w (.cells (filC V F) 29)).trans (Ext.alloc _ (.cells (filC zeroV zeroF) 29))
  have hsz : ((w.alloc (.cells (filC V F) 29)).alloc (.cells (filC zeroV zeroF) 29)).heap.size = w.heap.size + 2 := by simp
  have gX := fun w1 (x1 : Ext ((w.alloc (.cells (filC V F) 29)).alloc (.cells (filC zeroV zeroF) 29)) w1) => (⟨x1.block (two_boxes w _ _ _ _).1, x1.block (two_boxes w _ _ _ _).2, by have := x1.size; omega⟩ : w1.heap[w.heap.size]? = some (.cells (filC V F) 29 (0, 0)) ∧ w1.heap[w.heap.size + 1]? = some (.cells (filC zeroV zeroF) 29 (0, 0)) ∧ w.heap.size + 2 ≤ w1.heap.size)
  have HX := Lib.hid gX
  clear gX hsz
  cases hr : rightB F with
  | false =>
    rw [sbF_no (sbE_wrong hr) (by decide), sbE_wrong hr]
    have HR := Lib.hid (fun w' => rright14_v (V := V) hr w')
    clear hr h hv
    unfold filC at HR e0 HX ⊢
    go_enter Tryz.func41, Tryz.ntmps41
    go_wp2_with fail
    refine (HR.out _).mono ?_; rintro e w1 ⟨rfl, x1⟩
    obtain ⟨gB, gR, gS⟩ := HX.out _ x1
    have y1 := e0.trans x1
    clear x1 e0
    go_wp2_with (first | (refine wpList_store_row rfl 29 (.tmp 6) (.tmp 13) rfl (w.heap.size + 1) _ rfl rfl 29 _ gR (by kernel_rfl) rfl (by simp [Value.oneCell']) ?_))
    refine bodyPost_ret (results_row_tmp rfl _ _ (w.heap.size + 1) 29 _ (0, 0) _ rfl (setRow_heap _ _ _ _ _ _ gR) Tryz.underlying29 rfl (by kernel_rfl)) rfl ⟨zeroV, by rfl, zero_at _, below_setRow y1 (Nat.le_succ _) _, From.zero _ _ _⟩
  | true =>
    have hs := right_small hr
    have HR := Lib.hid (fun w' => rright14_v (V := V) hr w')
    have hE := sbE_right (x := x) (m := m) hr
    have K := Lib.hid (fun w' (hx : Ext w w') => (r13SetBits_f F.cf F.cc x V.a1 F.nC V.d1 F.C b m e v w' (h.h1.ext hx) (hv.ext hx) hs.1 hm).mono fun _ _ => WrPostF.sl)
    have hrd : rdN F.cf F.cc F.nC x m F.nC = if rdE F.cf F.cc F.nC x m = 0 then F.nC else 0 := rfl
    unfold SlP at K
    by_cases hE0 : rdE F.cf F.cc F.nC x m = 0
    · rw [if_pos hE0] at hrd
      rw [hE0] at hE
      rw [hrd, hE0] at K
      rw [sbF_yes hE, hE]
      generalize wrF F.C v F.cf x m = L at K ⊢
      have HH := Lib.hid h
      clear hr hE hE0 hrd h hv hs
      unfold filC at HR e0 HX ⊢
      go_enter Tryz.func41, Tryz.ntmps41
      go_wp2_with fail
      refine (HR.out _).mono ?_; rintro e w1 ⟨rfl, x1⟩
      obtain ⟨gB, gR, gS⟩ := HX.out _ x1
      have y1 := e0.trans x1
      have c0 := cell_of_heap (j := 0) gB rfl; have c1 := cell_of_heap (j := 1) gB rfl; have c10 := cell_of_heap (j := 10) gB rfl
      clear e0
      go_wp2_with fail
      refine (K.out _ y1).mono ?_; rintro e w3 ⟨b, q, rfl, h1, h2, h3, x3, f3⟩
      have gB3 := x3.block gB; have gR3 := x3.block gR
      have y3 := y1.trans x3
      have c10 := cell_of_heap (j := 10) gB3 rfl
      have z10 := frozen_of (j := 10) gB3
      have gL : (w3.setCell ⟨w.heap.size, 10, none⟩ (.slice b F.nC q)).heap[w.heap.size]? = some (.cells (filC { V with a1 := b, d1 := q } { F with C := L }) 29 (0, 0)) := (heap_setCell_same _ _ 10 _ _ (.slice b F.nC q) gB3).trans (by rfl)
      dsimp only [filC] at gL
      have gT := (heap_setCell_other w3 ⟨w.heap.size, 10, none⟩ (w.heap.size + 1) (.slice b F.nC q) (Nat.succ_ne_self _)).trans gR3
      have HF : Hid (FilAt w3 { V with a1 := b, d1 := q } { F with C := L } ∧ From w V F { V with a1 := b, d1 := q } { F with C := L } ∧ FilOff (fun i => i = w.heap.size ∨ i = w.heap.size + 1) { V with a1 := b, d1 := q } { F with C := L }) := by
        have h' := HH.out.ext y3
        have o := HH.out.off (above_two w) (Nat.le_refl _)
        exact Lib.hid ⟨⟨h3, h1, h2, h'.h2, h'.l2, h'.m2, h'.h3, h'.l3, h'.m3, h'.h4, h'.l4, h'.m4⟩, ⟨.inr (f3.back y1), .inl ⟨rfl, rfl⟩, .inl ⟨rfl, rfl⟩, .inl ⟨rfl, rfl⟩⟩, ⟨fresh_off f3 gS, o.o2, o.o3, o.o4⟩⟩
      clear h1 h2 h3 x3 f3 y1 x1 gB gR gB3 gR3 gS c0 c1
      go_wp2_with (first
        | (refine wpList_load_row rfl 29 (.tmp 3) rfl w.heap.size rfl 29 _ (0, 0) _ gL Tryz.underlying29 rfl (by kernel_rfl) ?_)
        | (refine wpList_store_row rfl 29 (.tmp 6) (.tmp 31) rfl (w.heap.size + 1) _ rfl rfl 29 _ gT (by kernel_rfl) rfl (by simp [Value.oneCell']) ?_))
      refine bodyPost_ret (results_row_tmp rfl _ _ (w.heap.size + 1) 29 _ (0, 0) _ rfl (setRow_heap _ _ _ _ _ _ gT) Tryz.underlying29 rfl (by kernel_rfl)) rfl ⟨{ V with a1 := b, d1 := q }, by rfl, file_told HF.out.1 y3 HF.out.2.1 HF.out.2.2⟩
    · rw [if_neg hE0] at hrd
      rw [hrd] at K
      rw [sbF_no hE hE0, hE]
      generalize rdE F.cf F.cc F.nC x m = E at K hE0 ⊢
      generalize wrF F.C v F.cf x m = L at K ⊢
      clear hr hE hrd h hv hs
      unfold filC at HR e0 HX ⊢
      go_enter Tryz.func41, Tryz.ntmps41
      go_wp2_with fail
      refine (HR.out _).mono ?_; rintro e w1 ⟨rfl, x1⟩
      obtain ⟨gB, gR, gS⟩ := HX.out _ x1
      have y1 := e0.trans x1
      have c0 := cell_of_heap (j := 0) gB rfl; have c1 := cell_of_heap (j := 1) gB rfl; have c10 := cell_of_heap (j := 10) gB rfl
      clear e0
      go_wp2_with fail
      refine (K.out _ y1).mono ?_; rintro e w3 ⟨b, q, rfl, h1, h2, h3, x3, f3⟩
      have gR3 := x3.block gR
      have y3 := y1.trans x3
      clear h1 h2 h3 x3 f3 y1 x1 gB gR gS c0 c1 c10
      go_wp2_with (first | (refine wpList_store_row rfl 29 (.tmp 6) (.tmp 27) rfl (w.heap.size + 1) _ rfl rfl 29 _ gR3 (by kernel_rfl) rfl (by simp [Value.oneCell']) ?_))
      refine bodyPost_ret (results_row_tmp rfl _ _ (w.heap.size + 1) 29 _ (0, 0) _ rfl (setRow_heap _ _ _ _ _ _ gR3) Tryz.underlying29 rfl (by kernel_rfl)) rfl ⟨zeroV, by rfl, zero_at _, below_setRow y3 (Nat.le_succ _) _, From.zero _ _ _⟩
end Go.Proofs.YtlafnobjfajamaaGreat
namespace Go.Proofs.YtlafnobjfajamaaGreat
open Go.RowKit
set_option linter.unusedVariables false

/-- A literal of one cell. -/
theorem one_cell {α : Type} {mk : α → Value} (w : World) (v : α) (t : TypeId) : HoldsG mk (w.alloc (.cells #[mk v] t)) (some ⟨w.heap.size, 0, none⟩) 1 (fun _ => v) :=
  HoldsG.new _ _ _ 1 _ (fun i hi => by
    have h : i = 0 := by omega
    subst h; rfl)
theorem swE_right {F : Fil} {x : Int} {m : Nat} (h : rightB F = true) : swE F x m = brkE F (rdE F.hf F.hc F.nH x m) x m := by unfold swE; rw [if_pos h]
theorem swE_wrong {F : Fil} {x : Int} {m : Nat} (h : rightB F = false) : swE F x m = 11 := by unfold swE; rw [if_neg (by rw [h]; decide)]
theorem swF_no {F : Fil} {x : Int} {m : Nat} {v : Nat → Int} {E : Int} (h : swE F x m = E) (h0 : E ≠ 0) : swF F x m v = zeroF := by unfold swF; rw [h, if_neg h0]
theorem swF_yes {F : Fil} {x : Int} {m : Nat} {v : Nat → Int} (h : swE F x m = 0) : swF F x m v = { F with H := wrF F.H v F.hf x m } := by unfold swF; rw [if_pos h]
set_option maxRecDepth 100000 in
set_option maxHeartbeats 4000000 in
theorem rsetwords14_any (V : FilV) (F : Fil) (x : Int) (b : Option Addr) (m e : Nat) (v : Nat → Int) (w : World) (h : FilAt w V F) (hv : HoldsG (Value.int .u16) w b m v) (hm : m ≤ 1000000) (wx : (Lit.int .i64 x).wf = true) :
    Calls Tryz.prog 42 #[.agg (filC V F), .int .i64 x, .slice b m e] w (FP (swE F x m) (swF F x m v) V F w) := by
  unfold FP
  have e0 := (Ext.alloc w (.cells (filC V F) 29)).trans (Ext.alloc _ (.cells (filC zeroV zeroF) 29))
  have hsz : ((w.alloc (.cells (filC V F) 29)).alloc (.cells (filC zeroV zeroF) 29)).heap.size = w.heap.size + 2 := by simp
  have gX := fun w1 (x1 : Ext ((w.alloc (.cells (filC V F) 29)).alloc (.cells (filC zeroV zeroF) 29)) w1) => (⟨x1.block (two_boxes w _ _ _ _).1, x1.block (two_boxes w _ _ _ _).2, by have := x1.size; omega⟩ : w1.heap[w.heap.size]? = some (.cells (filC V F) 29 (0, 0)) ∧ w1.heap[w.heap.size + 1]? = some (.cells (filC zeroV zeroF) 29 (0, 0)) ∧ w.heap.size + 2 ≤ w1.heap.size)
  have HX := Lib.hid gX
  clear gX hsz
  have hbd := trm_in (x := x) (n := (m : Int)) (by simp [Lit.wf, IntKind.min, IntKind.max, IntKind.signed, IntKind.bits]; omega) wx
  cases hr : rightB F with
  | false =>
    rw [swF_no (swE_wrong hr) (by decide), swE_wrong hr]
    have HR := Lib.hid (fun w' => rright14_v (V := V) hr w')
    clear hr h hv hbd
    unfold filC at HR e0 HX ⊢
    go_enter Tryz.func42, Tryz.ntmps42
    go_wp2_with fail
    refine (HR.out _).mono ?_; rintro e w1 ⟨rfl, x1⟩
    obtain ⟨gB, gR, gS⟩ := HX.out _ x1
    have y1 := e0.trans x1
    clear x1 e0
    go_wp2_with (first | (refine wpList_store_row rfl 29 (.tmp 6) (.tmp 13) rfl (w.heap.size + 1) _ rfl rfl 29 _ gR (by kernel_rfl) rfl (by simp [Value.oneCell']) ?_))
    refine bodyPost_ret (results_row_tmp rfl _ _ (w.heap.size + 1) 29 _ (0, 0) _ rfl (setRow_heap _ _ _ _ _ _ gR) Tryz.underlying29 rfl (by kernel_rfl)) rfl ⟨zeroV, by rfl, zero_at _, below_setRow y1 (Nat.le_succ _) _, From.zero _ _ _⟩
  | true =>
    have hs := right_small hr
    have HR := Lib.hid (fun w' => rright14_v (V := V) hr w')
    have hE := swE_right (x := x) (m := m) hr
    have K := Lib.hid (fun w' (hx : Ext w w') => (r13SetWords_f F.hf F.hc x V.a3 F.nH V.d3 F.H b m e v w' (h.h3.ext hx) (hv.ext hx) hs.2.2.1 hm).mono fun _ _ => WrPostF.sl)
    have hrd : rdN F.hf F.hc F.nH x m F.nH = if rdE F.hf F.hc F.nH x m = 0 then F.nH else 0 := rfl
    unfold SlP at K
    have HH := Lib.hid h
    by_cases hE0 : rdE F.hf F.hc F.nH x m = 0
    · rw [if_pos hE0] at hrd
      rw [hE0] at hE
      rw [hrd, hE0] at K
      cases hmt : meetB F.bf F.bc x m with
      | false =>
        rw [brk_works hmt] at hE
        rw [swF_yes hE, hE]
        generalize wrF F.H v F.hf x m = L at K ⊢
        have HM := Lib.hid (fun w' => rwmeets_v hmt hbd w')
        clear hr hE hE0 hrd h hv hs hbd hmt
        unfold filC at HR e0 HX ⊢
        go_enter Tryz.func42, Tryz.ntmps42
        go_wp2_with fail
        refine (HR.out _).mono ?_; rintro e w1 ⟨rfl, x1⟩
        obtain ⟨gB, gR, gS⟩ := HX.out _ x1
        have y1 := e0.trans x1
        have c4 := cell_of_heap (j := 4) gB rfl; have c5 := cell_of_heap (j := 5) gB rfl; have c12 := cell_of_heap (j := 12) gB rfl
        clear e0
        go_wp2_with fail
        refine (K.out _ y1).mono ?_; rintro e w3 ⟨b, q, rfl, h1, h2, h3, x3, f3⟩
        have gB3 := x3.block gB; have gR3 := x3.block gR
        have y3 := y1.trans x3
        have c8 := cell_of_heap (j := 8) gB3 rfl; have c9 := cell_of_heap (j := 9) gB3 rfl
        clear c4 c5 c12
        go_wp2_with fail
        refine (HM.out _).mono ?_; rintro e w6 ⟨rfl, x6⟩
        have gB6 := x6.block gB3; have gR6 := x6.block gR3
        have y6 := y3.trans x6
        have c12 := cell_of_heap (j := 12) gB6 rfl
        have z12 := frozen_of (j := 12) gB6
        have gL : (w6.setCell ⟨w.heap.size, 12, none⟩ (.slice b F.nH q)).heap[w.heap.size]? = some (.cells (filC { V with a3 := b, d3 := q } { F with H := L }) 29 (0, 0)) := (heap_setCell_same _ _ 12 _ _ (.slice b F.nH q) gB6).trans (by rfl)
        dsimp only [filC] at gL
        have gT := (heap_setCell_other w6 ⟨w.heap.size, 12, none⟩ (w.heap.size + 1) (.slice b F.nH q) (Nat.succ_ne_self _)).trans gR6
        have HF : Hid (FilAt w6 { V with a3 := b, d3 := q } { F with H := L } ∧ From w V F { V with a3 := b, d3 := q } { F with H := L } ∧ FilOff (fun i => i = w.heap.size ∨ i = w.heap.size + 1) { V with a3 := b, d3 := q } { F with H := L }) := by
          have h' := HH.out.ext y6
          have o := HH.out.off (above_two w) (Nat.le_refl _)
          exact Lib.hid ⟨⟨h'.h1, h'.l1, h'.m1, h'.h2, h'.l2, h'.m2, h3.ext x6, h1, h2, h'.h4, h'.l4, h'.m4⟩, ⟨.inl ⟨rfl, rfl⟩, .inl ⟨rfl, rfl⟩, .inr (f3.back y1), .inl ⟨rfl, rfl⟩⟩, ⟨o.o1, o.o2, fresh_off f3 gS, o.o4⟩⟩
        clear h1 h2 h3 x3 f3 y1 x1 gB gR gB3 gR3 gB6 gR6 gS c8 c9 y3 x6
        go_wp2_with (first
          | (refine wpList_load_row rfl 29 (.tmp 3) rfl w.heap.size rfl 29 _ (0, 0) _ gL Tryz.underlying29 rfl (by kernel_rfl) ?_)
          | (refine wpList_store_row rfl 29 (.tmp 6) (.tmp 42) rfl (w.heap.size + 1) _ rfl rfl 29 _ gT (by kernel_rfl) rfl (by simp [Value.oneCell']) ?_))
        refine bodyPost_ret (results_row_tmp rfl _ _ (w.heap.size + 1) 29 _ (0, 0) _ rfl (setRow_heap _ _ _ _ _ _ gT) Tryz.underlying29 rfl (by kernel_rfl)) rfl ⟨{ V with a3 := b, d3 := q }, by rfl, file_told HF.out.1 y6 HF.out.2.1 HF.out.2.2⟩
      | true =>
        rw [brk_yes hmt] at hE
        rw [swF_no hE (by decide), hE]
        generalize wrF F.H v F.hf x m = L at K ⊢
        have HM := Lib.hid (fun w' => rwmeets_v hmt hbd w')
        clear hr hE hE0 hrd h hv hs hbd hmt
        unfold filC at HR e0 HX ⊢
        go_enter Tryz.func42, Tryz.ntmps42
        go_wp2_with fail
        refine (HR.out _).mono ?_; rintro e w1 ⟨rfl, x1⟩
        obtain ⟨gB, gR, gS⟩ := HX.out _ x1
        have y1 := e0.trans x1
        have c4 := cell_of_heap (j := 4) gB rfl; have c5 := cell_of_heap (j := 5) gB rfl; have c12 := cell_of_heap (j := 12) gB rfl
        clear e0
        go_wp2_with fail
        refine (K.out _ y1).mono ?_; rintro e w3 ⟨b, q, rfl, h1, h2, h3, x3, f3⟩
        have gB3 := x3.block gB; have gR3 := x3.block gR
        have y3 := y1.trans x3
        have c8 := cell_of_heap (j := 8) gB3 rfl; have c9 := cell_of_heap (j := 9) gB3 rfl
        clear c4 c5 c12
        go_wp2_with fail
        refine (HM.out _).mono ?_; rintro e w6 ⟨rfl, x6⟩
        have gR6 := x6.block gR3
        have y6 := y3.trans x6
        clear h1 h2 h3 x3 f3 y1 x1 gB gR gB3 gR3 gS c8 c9 y3 x6
        go_wp2_with (first | (refine wpList_store_row rfl 29 (.tmp 6) (.tmp 38) rfl (w.heap.size + 1) _ rfl rfl 29 _ gR6 (by kernel_rfl) rfl (by simp [Value.oneCell']) ?_))
        refine bodyPost_ret (results_row_tmp rfl _ _ (w.heap.size + 1) 29 _ (0, 0) _ rfl (setRow_heap _ _ _ _ _ _ gR6) Tryz.underlying29 rfl (by kernel_rfl)) rfl ⟨zeroV, by rfl, zero_at _, below_setRow y6 (Nat.le_succ _) _, From.zero _ _ _⟩
    · rw [if_neg hE0] at hrd
      rw [hrd] at K
      rw [brk_no hE0] at hE
      rw [swF_no hE hE0, hE]
      generalize rdE F.hf F.hc F.nH x m = E at K hE0 ⊢
      generalize wrF F.H v F.hf x m = L at K ⊢
      clear hr hE hrd h hv hs hbd
      unfold filC at HR e0 HX ⊢
      go_enter Tryz.func42, Tryz.ntmps42
      go_wp2_with fail
      refine (HR.out _).mono ?_; rintro e w1 ⟨rfl, x1⟩
      obtain ⟨gB, gR, gS⟩ := HX.out _ x1
      have y1 := e0.trans x1
      have c4 := cell_of_heap (j := 4) gB rfl; have c5 := cell_of_heap (j := 5) gB rfl; have c12 := cell_of_heap (j := 12) gB rfl
      clear e0
      go_wp2_with fail
      refine (K.out _ y1).mono ?_; rintro e w3 ⟨b, q, rfl, h1, h2, h3, x3, f3⟩
      have gB3 := x3.block gB; have gR3 := x3.block gR
      have y3 := y1.trans x3
      clear h1 h2 h3 x3 f3 y1 x1 gB gR gB3 gS c4 c5 c12
      go_wp2_with (first | (refine wpList_store_row rfl 29 (.tmp 6) (.tmp 38) rfl (w.heap.size + 1) _ rfl rfl 29 _ gR3 (by kernel_rfl) rfl (by simp [Value.oneCell']) ?_))
      refine bodyPost_ret (results_row_tmp rfl _ _ (w.heap.size + 1) 29 _ (0, 0) _ rfl (setRow_heap _ _ _ _ _ _ gR3) Tryz.underlying29 rfl (by kernel_rfl)) rfl ⟨zeroV, by rfl, zero_at _, below_setRow y3 (Nat.le_succ _) _, From.zero _ _ _⟩
end Go.Proofs.YtlafnobjfajamaaGreat
namespace Go.Proofs.YtlafnobjfajamaaGreat
open Go.RowKit
set_option linter.unusedVariables false

theorem weqInD (d : Nat) (f c g e : Int) (w : World) : (Op.equalIn (d + 1 + 1) 23 (.agg #[.int .i64 f, .int .i64 c]) (.agg #[.int .i64 g, .int .i64 e])).run Tryz.prog w = .ok (eqW f c g e) w := by
  rw [run_equalIn_struct w (d + 1) _ _ _ (by kernel_rfl) (by kernel_rfl)]
  have hi := Tryz.underlying3
  simp [Program.fieldsOf, Tryz.underlying23, Op.eqFields, go_sem, hi]
  by_cases h1 : f = g
  · by_cases h2 : c = e
    · rw [if_pos h1, if_pos h2, (eqW_iff f c g e).2 ⟨h1, h2⟩]
    · rw [if_pos h1, if_neg h2, show eqW f c g e = false from decide_eq_false fun k => h2 k.2]
  · rw [if_neg h1, show eqW f c g e = false from decide_eq_false fun k => h1 k.1]
theorem beqg (op : BinOp) (x y : Operand) (xs ys : Array Value) (w : World) : (eqGuard op 25 x y (.agg xs) (.agg ys)).run Tryz.prog w = .ok () w :=
  run_eqGuard_agg w op _ x y xs ys (by kernel_rfl)
set_option maxHeartbeats 1000000 in
theorem beqIn (F G : Fil) (w : World) : (Op.equalIn 10000 25 (.agg (bnkC F)) (.agg (bnkC G))).run Tryz.prog w = .ok (sbankB F G) w := by
  rw [run_equalIn_struct w 9999 _ _ _ (by kernel_rfl) (by kernel_rfl)]
  have hw := fun f c g e w => weqInD 9997 f c g e w
  simp only [show 9997 + 1 + 1 = 9999 from rfl] at hw
  unfold sbankB bnkC
  simp [Program.fieldsOf, Tryz.underlying25, Op.eqFields, go_sem, hw]
  generalize eqW F.cf F.cc G.cf G.cc = a
  generalize eqW F.jf F.jc G.jf G.jc = b
  generalize eqW F.hf F.hc G.hf G.hc = c
  generalize eqW F.rf F.rc G.rf G.rc = d
  generalize eqW F.bf F.bc G.bf G.bc = e
  cases a <;> cases b <;> cases c <;> cases d <;> cases e <;> rfl
theorem beql_v {F G : Fil} {B : Bool} (h : sbankB F G = B) (w : World) : (binOp .eql 25 (.agg (bnkC F)) (.agg (bnkC G))).run Tryz.prog w = .ok (.bool B) w := by
  rw [run_eql_struct, beqIn, h]; rfl
set_option maxRecDepth 100000 in
set_option maxHeartbeats 4000000 in
theorem rsame14_any (V : FilV) (F : Fil) (U : FilV) (G : Fil) (w : World) (h : FilAt w V F) (k : FilAt w U G) (hF : F.nC ≤ 1000000 ∧ F.nI ≤ 1000000 ∧ F.nH ≤ 1000000 ∧ F.nR ≤ 1000000) (hG : G.nC ≤ 1000000 ∧ G.nI ≤ 1000000 ∧ G.nH ≤ 1000000 ∧ G.nR ≤ 1000000) :
    Calls Tryz.prog 17 #[.agg (filC V F), .agg (filC U G)] w fun e w' => e = .returned (.bool (sameF F G)) ∧ Ext w w' := by
  have e0 := (Ext.alloc w (.cells (filC V F) 29)).trans (Ext.alloc _ (.cells (filC U G) 29))
  have gX := fun w1 (x1 : Ext ((w.alloc (.cells (filC V F) 29)).alloc (.cells (filC U G) 29)) w1) => (⟨x1.block (two_boxes w _ _ _ _).1, x1.block (two_boxes w _ _ _ _).2⟩ : w1.heap[w.heap.size]? = some (.cells (filC V F) 29 (0, 0)) ∧ w1.heap[w.heap.size + 1]? = some (.cells (filC U G) 29 (0, 0)))
  have HX := Lib.hid gX
  clear gX
  have hg := fun x y xs ys w => beqg .eql x y xs ys w
  have K1 := Lib.hid (fun w' (hx : Ext w w') => (same_any V.a1 U.a1 F.nC G.nC V.d1 U.d1 F.C G.C w' (h.h1.ext hx) (k.h1.ext hx) hF.1 hG.1).mono fun _ _ h => (⟨h.1, Ext.of_drewN h.2⟩ : _ ∧ Ext w' _))
  have K2 := Lib.hid (fun w' (hx : Ext w w') => (same_any V.a2 U.a2 F.nI G.nI V.d2 U.d2 F.I G.I w' (h.h2.ext hx) (k.h2.ext hx) hF.2.1 hG.2.1).mono fun _ _ h => (⟨h.1, Ext.of_drewN h.2⟩ : _ ∧ Ext w' _))
  have K3 := Lib.hid (fun w' (hx : Ext w w') => (words_any V.a3 U.a3 F.nH G.nH V.d3 U.d3 F.H G.H w' (h.h3.ext hx) (k.h3.ext hx) hF.2.2.1 hG.2.2.1).mono fun _ _ h => (⟨h.1, Ext.of_drewN h.2⟩ : _ ∧ Ext w' _))
  have K4 := Lib.hid (fun w' (hx : Ext w w') => (words_any V.a4 U.a4 F.nR G.nR V.d4 U.d4 F.R G.R w' (h.h4.ext hx) (k.h4.ext hx) hF.2.2.2 hG.2.2.2).mono fun _ _ h => (⟨h.1, Ext.of_drewN h.2⟩ : _ ∧ Ext w' _))
  clear h k hF hG
  unfold sameF
  generalize eqG F.nC G.nC F.C G.C = B1 at K1 ⊢
  generalize eqG F.nI G.nI F.I G.I = B2 at K2 ⊢
  generalize eqB F.nH G.nH F.H G.H = B3 at K3 ⊢
  generalize eqB F.nR G.nR F.R G.R = B4 at K4 ⊢
  cases hs : sbankB F G with
  | false =>
    simp only [Bool.false_and]
    have hb := fun w => beql_v hs w
    clear hs
    unfold bnkC at hb
    unfold filC at e0 HX ⊢
    go_enter Tryz.func17, Tryz.ntmps17
    go_wp2
    go_ret
    exact ⟨rfl, e0⟩
  | true =>
    cases B1 with
    | false =>
      simp only [Bool.false_and, Bool.and_false]
      have hb := fun w => beql_v hs w
      clear hs
      unfold bnkC at hb
      unfold filC at e0 HX ⊢
      go_enter Tryz.func17, Tryz.ntmps17
      go_wp2_with fail
      refine (K1.out _ e0).mono ?_; rintro e w1 ⟨rfl, x1⟩
      have e1 := e0.trans x1
      have z1 := x1
      obtain ⟨gF, gG⟩ := HX.out _ z1
      have p1 := cell_of_heap (j := 11) gF rfl; have q1 := cell_of_heap (j := 11) gG rfl
      clear gF gG
      clear x1 e0
      go_wp2
      go_ret
      exact ⟨rfl, e1⟩
    | true =>
      cases B2 with
      | false =>
        simp only [Bool.false_and, Bool.and_false, Bool.and_true]
        have hb := fun w => beql_v hs w
        clear hs
        unfold bnkC at hb
        unfold filC at e0 HX ⊢
        go_enter Tryz.func17, Tryz.ntmps17
        go_wp2_with fail
        refine (K1.out _ e0).mono ?_; rintro e w1 ⟨rfl, x1⟩
        have e1 := e0.trans x1
        have z1 := x1
        obtain ⟨gF, gG⟩ := HX.out _ z1
        have p1 := cell_of_heap (j := 11) gF rfl; have q1 := cell_of_heap (j := 11) gG rfl
        clear gF gG
        clear x1 e0
        go_wp2_with fail
        refine (K2.out _ e1).mono ?_; rintro e w2 ⟨rfl, x2⟩
        have e2 := e1.trans x2
        have z2 := z1.trans x2
        obtain ⟨gF, gG⟩ := HX.out _ z2
        have p2 := cell_of_heap (j := 12) gF rfl; have q2 := cell_of_heap (j := 12) gG rfl
        clear gF gG
        clear x2 p1 q1 z1 e1
        go_wp2
        go_ret
        exact ⟨rfl, e2⟩
      | true =>
        cases B3 with
        | false =>
          simp only [Bool.false_and, Bool.and_false, Bool.and_true]
          have hb := fun w => beql_v hs w
          clear hs
          unfold bnkC at hb
          unfold filC at e0 HX ⊢
          go_enter Tryz.func17, Tryz.ntmps17
          go_wp2_with fail
          refine (K1.out _ e0).mono ?_; rintro e w1 ⟨rfl, x1⟩
          have e1 := e0.trans x1
          have z1 := x1
          obtain ⟨gF, gG⟩ := HX.out _ z1
          have p1 := cell_of_heap (j := 11) gF rfl; have q1 := cell_of_heap (j := 11) gG rfl
          clear gF gG
          clear x1 e0
          go_wp2_with fail
          refine (K2.out _ e1).mono ?_; rintro e w2 ⟨rfl, x2⟩
          have e2 := e1.trans x2
          have z2 := z1.trans x2
          obtain ⟨gF, gG⟩ := HX.out _ z2
          have p2 := cell_of_heap (j := 12) gF rfl; have q2 := cell_of_heap (j := 12) gG rfl
          clear gF gG
          clear x2 p1 q1 z1 e1
          go_wp2_with fail
          refine (K3.out _ e2).mono ?_; rintro e w3 ⟨rfl, x3⟩
          have e3 := e2.trans x3
          have z3 := z2.trans x3
          obtain ⟨gF, gG⟩ := HX.out _ z3
          have p3 := cell_of_heap (j := 13) gF rfl; have q3 := cell_of_heap (j := 13) gG rfl
          clear gF gG
          clear x3 p2 q2 z2 e2
          go_wp2
          go_ret
          exact ⟨rfl, e3⟩
        | true =>
          cases B4 with
          | false =>
            simp only [Bool.and_false, Bool.and_true]
            have hb := fun w => beql_v hs w
            clear hs
            unfold bnkC at hb
            unfold filC at e0 HX ⊢
            go_enter Tryz.func17, Tryz.ntmps17
            go_wp2_with fail
            refine (K1.out _ e0).mono ?_; rintro e w1 ⟨rfl, x1⟩
            have e1 := e0.trans x1
            have z1 := x1
            obtain ⟨gF, gG⟩ := HX.out _ z1
            have p1 := cell_of_heap (j := 11) gF rfl; have q1 := cell_of_heap (j := 11) gG rfl
            clear gF gG
            clear x1 e0
            go_wp2_with fail
            refine (K2.out _ e1).mono ?_; rintro e w2 ⟨rfl, x2⟩
            have e2 := e1.trans x2
            have z2 := z1.trans x2
            obtain ⟨gF, gG⟩ := HX.out _ z2
            have p2 := cell_of_heap (j := 12) gF rfl; have q2 := cell_of_heap (j := 12) gG rfl
            clear gF gG
            clear x2 p1 q1 z1 e1
            go_wp2_with fail
            refine (K3.out _ e2).mono ?_; rintro e w3 ⟨rfl, x3⟩
            have e3 := e2.trans x3
            have z3 := z2.trans x3
            obtain ⟨gF, gG⟩ := HX.out _ z3
            have p3 := cell_of_heap (j := 13) gF rfl; have q3 := cell_of_heap (j := 13) gG rfl
            clear gF gG
            clear x3 p2 q2 z2 e2
            go_wp2_with fail
            refine (K4.out _ e3).mono ?_; rintro e w4 ⟨rfl, x4⟩
            have e4 := e3.trans x4
            have z4 := z3.trans x4
            clear x4 p3 q3 z3 e3
            go_wp2
            go_ret
            exact ⟨rfl, e4⟩
          | true =>
            simp only [Bool.true_and]
            have hb := fun w => beql_v hs w
            clear hs
            unfold bnkC at hb
            unfold filC at e0 HX ⊢
            go_enter Tryz.func17, Tryz.ntmps17
            go_wp2_with fail
            refine (K1.out _ e0).mono ?_; rintro e w1 ⟨rfl, x1⟩
            have e1 := e0.trans x1
            have z1 := x1
            obtain ⟨gF, gG⟩ := HX.out _ z1
            have p1 := cell_of_heap (j := 11) gF rfl; have q1 := cell_of_heap (j := 11) gG rfl
            clear gF gG
            clear x1 e0
            go_wp2_with fail
            refine (K2.out _ e1).mono ?_; rintro e w2 ⟨rfl, x2⟩
            have e2 := e1.trans x2
            have z2 := z1.trans x2
            obtain ⟨gF, gG⟩ := HX.out _ z2
            have p2 := cell_of_heap (j := 12) gF rfl; have q2 := cell_of_heap (j := 12) gG rfl
            clear gF gG
            clear x2 p1 q1 z1 e1
            go_wp2_with fail
            refine (K3.out _ e2).mono ?_; rintro e w3 ⟨rfl, x3⟩
            have e3 := e2.trans x3
            have z3 := z2.trans x3
            obtain ⟨gF, gG⟩ := HX.out _ z3
            have p3 := cell_of_heap (j := 13) gF rfl; have q3 := cell_of_heap (j := 13) gG rfl
            clear gF gG
            clear x3 p2 q2 z2 e2
            go_wp2_with fail
            refine (K4.out _ e3).mono ?_; rintro e w4 ⟨rfl, x4⟩
            have e4 := e3.trans x4
            have z4 := z3.trans x4
            clear x4 p3 q3 z3 e3
            go_wp2
            go_ret
            exact ⟨rfl, e4⟩
theorem rsame14_v {V : FilV} {F : Fil} {U : FilV} {G : Fil} {B : Bool} (hB : sameF F G = B) (w : World) (h : FilAt w V F) (k : FilAt w U G) (hF : F.nC ≤ 1000000 ∧ F.nI ≤ 1000000 ∧ F.nH ≤ 1000000 ∧ F.nR ≤ 1000000) (hG : G.nC ≤ 1000000 ∧ G.nI ≤ 1000000 ∧ G.nH ≤ 1000000 ∧ G.nR ≤ 1000000) :
    Calls Tryz.prog 17 #[.agg (filC V F), .agg (filC U G)] w fun e w' => e = .returned (.bool B) ∧ Ext w w' := hB ▸ rsame14_any V F U G w h k hF hG
set_option maxHeartbeats 1000000 in
theorem rfew14_any (V : FilV) (F : Fil) (w : World) (h1 : F.nC ≤ 1000000000000000) (h2 : F.nI ≤ 1000000000000000) (h3 : F.nH ≤ 1000000000000000) (h4 : F.nR ≤ 1000000000000000) :
    Calls Tryz.prog 9 #[.agg (filC V F)] w fun e w' => e = .returned (.bool (decide (F.nC + F.nI + F.nH + F.nR ≤ 4000))) ∧ Ext w w' := by
  have e0 := Ext.alloc w (.cells (filC V F) 29)
  have i1 : (F.nC : Int) ≤ 1000000000000000 := by omega
  have i2 : (F.nI : Int) ≤ 1000000000000000 := by omega
  have i3 : (F.nH : Int) ≤ 1000000000000000 := by omega
  have i4 : (F.nR : Int) ≤ 1000000000000000 := by omega
  clear h1 h2 h3 h4
  unfold filC at e0 ⊢
  generalize F.nC = n1 at *
  generalize F.nI = n2 at *
  generalize F.nH = n3 at *
  generalize F.nR = n4 at *
  have hd : decide ((n1 : Int) + n2 + n3 + n4 ≤ 4000) = decide (n1 + n2 + n3 + n4 ≤ 4000) := by
    rw [Bool.eq_iff_iff, decide_eq_true_iff, decide_eq_true_iff]; omega
  have HD := Lib.hid hd
  clear hd
  go_enter Tryz.func9, Tryz.ntmps9
  go_wp2
  go_ret
  exact ⟨ret_b HD.out, e0⟩
end Go.Proofs.YtlafnobjfajamaaGreat
namespace Go.Proofs.YtlafnobjfajamaaGreat
open Go.RowKit
set_option linter.unusedVariables false

end Go.Proofs.YtlafnobjfajamaaGreat
