/-
  CONTRACTS: bilgeref14 (layer 14): what is read, and written.
-/
import Derived.Test.YtkfpnijacfeogaaFilR
namespace Go.Proofs.Ytkfpnijacfeogaa
open Go.RowKit
set_option linter.unusedVariables false

set_option maxHeartbeats 2000000 in
theorem rbits14_any (V : FilV) (F : Fil) (i : Bool) (x k : Int) (w : World) (h : FilAt w V F) : Calls Try.prog 16 #[.agg (filC V F), .bool i, .int .i64 x, .int .i64 k] w (SlP Value.bool (bitE F i x k) (bitN F i x k) (bitL F i x) w) := by
  unfold SlP
  have e0 := Ext.alloc w (.cells (filC V F) 31)
  cases hr : rightB F with
  | false =>
    obtain ⟨hE, hN⟩ := bitE_no (x := x) (k := k) i hr
    rw [hE, hN]
    have HR := Lib.hid (fun w' => rright14_v (V := V) hr w')
    clear hr hE hN h
    unfold filC at HR e0 ⊢
    go_enter Try.func16, Try.ntmps16
    go_wp2_with fail
    refine (HR.out _).mono ?_; rintro e w1 ⟨rfl, x1⟩
    have x2 := e0.trans x1
    go_wp2
    go_ret2
    exact ⟨_, _, rfl, Nat.zero_le _, Nat.zero_le _, .inl rfl, x2, Fresh.nil _⟩
  | true =>
    have hs := right_small hr
    have HR := Lib.hid (fun w' => rright14_v (V := V) hr w')
    cases i with
    | true =>
      obtain ⟨hE, hN⟩ := bitE_in (x := x) (k := k) hr
      have K := Lib.hid (fun w' (hx : Ext w w') => (r13Bits_f F.jf F.jc x k V.a2 F.nI V.d2 F.I w' (h.h2.ext hx) hs.2.1).mono fun _ _ => RdPostF.sl)
      rw [hE, hN, show bitL F true x = rdF F.I F.jf x from rfl]
      generalize rdE F.jf F.jc F.nI x k = E at K ⊢
      generalize rdN F.jf F.jc F.nI x k k.toNat = N at K ⊢
      generalize rdF F.I F.jf x = L at K ⊢
      clear hr hE hN h hs
      unfold SlP at K
      unfold filC at HR e0 ⊢
      go_enter Try.func16, Try.ntmps16
      go_wp2_with fail
      refine (HR.out _).mono ?_; rintro e w1 ⟨rfl, x1⟩
      have c2 := x1.made 2 _ rfl; have c3 := x1.made 3 _ rfl; have c11 := x1.made 11 _ rfl
      have x2 := e0.trans x1
      clear e0 x1
      go_wp2_with fail
      refine (K.out _ x2).mono ?_; rintro e w3 ⟨b, q, rfl, h1, h2, h3, x3, f3⟩
      have x4 := x2.trans x3
      clear x3 c2 c3 c11
      go_wp2
      go_ret2
      exact ⟨b, q, rfl, h1, h2, h3, x4, f3.back x2⟩
    | false =>
      obtain ⟨hE, hN⟩ := bitE_out (x := x) (k := k) hr
      have K := Lib.hid (fun w' (hx : Ext w w') => (r13Bits_f F.cf F.cc x k V.a1 F.nC V.d1 F.C w' (h.h1.ext hx) hs.1).mono fun _ _ => RdPostF.sl)
      rw [hE, hN, show bitL F false x = rdF F.C F.cf x from rfl]
      generalize rdE F.cf F.cc F.nC x k = E at K ⊢
      generalize rdN F.cf F.cc F.nC x k k.toNat = N at K ⊢
      generalize rdF F.C F.cf x = L at K ⊢
      clear hr hE hN h hs
      unfold SlP at K
      unfold filC at HR e0 ⊢
      go_enter Try.func16, Try.ntmps16
      go_wp2_with fail
      refine (HR.out _).mono ?_; rintro e w1 ⟨rfl, x1⟩
      have c0 := x1.made 0 _ rfl; have c1 := x1.made 1 _ rfl; have c10 := x1.made 10 _ rfl
      have x2 := e0.trans x1
      clear e0 x1
      go_wp2_with fail
      refine (K.out _ x2).mono ?_; rintro e w3 ⟨b, q, rfl, h1, h2, h3, x3, f3⟩
      have x4 := x2.trans x3
      clear x3 c0 c1 c10
      go_wp2
      go_ret2
      exact ⟨b, q, rfl, h1, h2, h3, x4, f3.back x2⟩

theorem brk_no {F : Fil} {e x k : Int} (h : e ≠ 0) : brkE F e x k = e := by unfold brkE; rw [if_neg (fun c => h c.1)]
theorem brk_works {F : Fil} {x k : Int} (h : meetB F.bf F.bc x k = false) : brkE F 0 x k = 0 := by unfold brkE; rw [if_neg (by rw [h]; rintro ⟨_, h⟩; cases h)]
theorem brk_yes {F : Fil} {x k : Int} (h : meetB F.bf F.bc x k = true) : brkE F 0 x k = 4 := by unfold brkE; rw [if_pos ⟨rfl, h⟩]
set_option maxHeartbeats 2000000 in
theorem rwords14_any (V : FilV) (F : Fil) (i : Bool) (x k : Int) (w : World) (h : FilAt w V F) (wx : (Lit.int .i64 x).wf = true) (wk : (Lit.int .i64 k).wf = true) : Calls Try.prog 18 #[.agg (filC V F), .bool i, .int .i64 x, .int .i64 k] w (SlP (Value.int .u16) (wrdE F i x k) (wrdN F i x k) (wrdL F i x) w) := by
  unfold SlP
  have hbd := trm_in wk wx
  have e0 := Ext.alloc w (.cells (filC V F) 31)
  cases hr : rightB F with
  | false =>
    obtain ⟨hE, hN⟩ := wrdE_no (x := x) (k := k) i hr
    rw [hE, hN]
    have HR := Lib.hid (fun w' => rright14_v (V := V) hr w')
    clear hr hE hN h hbd
    unfold filC at HR e0 ⊢
    go_enter Try.func18, Try.ntmps18
    go_wp2_with fail
    refine (HR.out _).mono ?_; rintro e w1 ⟨rfl, x1⟩
    have x2 := e0.trans x1
    go_wp2
    go_ret2
    exact ⟨_, _, rfl, Nat.zero_le _, Nat.zero_le _, .inl rfl, x2, Fresh.nil _⟩
  | true =>
    have hs := right_small hr
    have HR := Lib.hid (fun w' => rright14_v (V := V) hr w')
    cases i with
    | true =>
      obtain ⟨hE, hN⟩ := wrdE_in (x := x) (k := k) hr
      have K := Lib.hid (fun w' (hx : Ext w w') => (r13Words_f F.rf F.rc x k V.a4 F.nR V.d4 F.R w' (h.h4.ext hx) hs.2.2.2).mono fun _ _ => RdPostF.sl)
      rw [hE, hN, show wrdL F true x = rdF F.R F.rf x from rfl]
      generalize rdE F.rf F.rc F.nR x k = E at K ⊢
      generalize rdN F.rf F.rc F.nR x k k.toNat = N at K ⊢
      generalize rdF F.R F.rf x = L at K ⊢
      clear hr hE hN h hs hbd
      unfold SlP at K
      unfold filC at HR e0 ⊢
      go_enter Try.func18, Try.ntmps18
      go_wp2_with fail
      refine (HR.out _).mono ?_; rintro e w1 ⟨rfl, x1⟩
      have c6 := x1.made 6 _ rfl; have c7 := x1.made 7 _ rfl; have c13 := x1.made 13 _ rfl
      have x2 := e0.trans x1
      clear e0 x1
      go_wp2_with fail
      refine (K.out _ x2).mono ?_; rintro e w3 ⟨b, q, rfl, h1, h2, h3, x3, f3⟩
      have x4 := x2.trans x3
      clear x3 c6 c7 c13
      go_wp2
      go_ret2
      exact ⟨b, q, rfl, h1, h2, h3, x4, f3.back x2⟩
    | false =>
      obtain ⟨hE, hN⟩ := wrdE_out (x := x) (k := k) hr
      have K := Lib.hid (fun w' (hx : Ext w w') => (r13Words_f F.hf F.hc x k V.a3 F.nH V.d3 F.H w' (h.h3.ext hx) hs.2.2.1).mono fun _ _ => RdPostF.sl)
      rw [hE, hN, show wrdL F false x = rdF F.H F.hf x from rfl]
      have hrd : rdN F.hf F.hc F.nH x k k.toNat = if rdE F.hf F.hc F.nH x k = 0 then k.toNat else 0 := rfl
      generalize rdE F.hf F.hc F.nH x k = E at K hrd ⊢
      generalize rdN F.hf F.hc F.nH x k k.toNat = N at K hrd ⊢
      generalize rdF F.H F.hf x = L at K ⊢
      by_cases hE0 : E = 0
      · subst hE0
        rw [if_pos rfl] at hrd
        cases hm : meetB F.bf F.bc x k with
        | false =>
          rw [brk_works hm, if_pos rfl, ← hrd]
          have HM := Lib.hid (fun w' => rwmeets_v hm hbd w')
          clear hr hE hN h hs hbd hrd hm
          unfold SlP at K
          unfold filC at HR e0 ⊢
          go_enter Try.func18, Try.ntmps18
          go_wp2_with fail
          refine (HR.out _).mono ?_; rintro e w1 ⟨rfl, x1⟩
          have c4 := x1.made 4 _ rfl; have c5 := x1.made 5 _ rfl; have c12 := x1.made 12 _ rfl
          have x2 := e0.trans x1
          clear e0
          go_wp2_with fail
          refine (K.out _ x2).mono ?_; rintro e w3 ⟨b, q, rfl, h1, h2, h3, x3, f3⟩
          have x4 := x2.trans x3
          have x5 := x1.trans x3
          have d8 := x5.made 8 _ rfl; have d9 := x5.made 9 _ rfl
          clear x3 c4 c5 c12 x1 x5
          go_wp2_with fail
          refine (HM.out _).mono ?_; rintro e w6 ⟨rfl, x6⟩
          have x7 := x4.trans x6
          have h4 := h3.ext x6
          clear d8 d9 x6 h3 x4
          go_wp2
          go_ret2
          exact ⟨b, q, rfl, h1, h2, h4, x7, f3.back x2⟩
        | true =>
          rw [brk_yes hm, if_neg (by decide)]
          have HM := Lib.hid (fun w' => rwmeets_v hm hbd w')
          clear hr hE hN h hs hbd hrd hm
          unfold SlP at K
          unfold filC at HR e0 ⊢
          go_enter Try.func18, Try.ntmps18
          go_wp2_with fail
          refine (HR.out _).mono ?_; rintro e w1 ⟨rfl, x1⟩
          have c4 := x1.made 4 _ rfl; have c5 := x1.made 5 _ rfl; have c12 := x1.made 12 _ rfl
          have x2 := e0.trans x1
          clear e0
          go_wp2_with fail
          refine (K.out _ x2).mono ?_; rintro e w3 ⟨b, q, rfl, h1, h2, h3, x3, f3⟩
          have x4 := x2.trans x3
          have x5 := x1.trans x3
          have d8 := x5.made 8 _ rfl; have d9 := x5.made 9 _ rfl
          clear x3 c4 c5 c12 x1 x5
          go_wp2_with fail
          refine (HM.out _).mono ?_; rintro e w6 ⟨rfl, x6⟩
          have x7 := x4.trans x6
          clear d8 d9 x6 h3 x4
          go_wp2
          go_ret2
          exact ⟨_, _, rfl, Nat.zero_le _, Nat.zero_le _, .inl rfl, x7, Fresh.nil _⟩
      · rw [if_neg hE0] at hrd
        rw [brk_no hE0, if_neg hE0, ← hrd]
        clear hr hE hN h hs hbd hrd
        unfold SlP at K
        unfold filC at HR e0 ⊢
        go_enter Try.func18, Try.ntmps18
        go_wp2_with fail
        refine (HR.out _).mono ?_; rintro e w1 ⟨rfl, x1⟩
        have c4 := x1.made 4 _ rfl; have c5 := x1.made 5 _ rfl; have c12 := x1.made 12 _ rfl
        have x2 := e0.trans x1
        clear e0 x1
        go_wp2_with fail
        refine (K.out _ x2).mono ?_; rintro e w3 ⟨b, q, rfl, h1, h2, h3, x3, f3⟩
        have x4 := x2.trans x3
        clear x3 c4 c5 c12
        go_wp2
        go_ret2
        exact ⟨b, q, rfl, h1, h2, h3, x4, f3.back x2⟩
end Go.Proofs.Ytkfpnijacfeogaa
