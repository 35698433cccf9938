/-
  CONTRACTS: package file (layer 14): Bits, Words.
-/
import Derived.Test.YtkfpnijacfeogaaFilQ
import Derived.Test.YtkfpnijacfeogaaStepStore
namespace Go.Proofs.Ytkfpnijacfeogaa
open Go.RowKit
set_option linter.unusedVariables false

set_option maxRecDepth 100000 in
set_option maxHeartbeats 4000000 in
theorem fbits_c : FBitsC 15 := by
  intro V F i x k w h wx wk
  unfold SlP
  cases hr : rightB F with
  | false =>
    obtain ⟨hE, hN⟩ := bitE_no (x := x) (k := k) i hr
    rw [hE, hN]
    have HR := Lib.hid (fun T G w' => freadbool_no V F T G x k w' hr)
    clear hr hE hN h wx wk
    cases i
    all_goals
      have gA := heap_alloc_new w (.cells (filC V F) 31)
      have e0 := Ext.alloc w (.cells (filC V F) 31)
      go_enter Try.func15, Try.ntmps15
      go_upto_region 1 with fail
      go_wp2_with (first | (refine wpList_load_row rfl 31 (.tmp 4) rfl w.heap.size rfl 31 _ (0, 0) _ gA Try.underlying31 rfl (by kernel_rfl) ?_))
      refine (HR.out _ _ _).mono ?_; rintro e w1 ⟨rfl, x1⟩
      have x2 := e0.trans x1
      clear gA
      go_wp2
      go_ret2
      exact ⟨_, _, rfl, Nat.zero_le _, Nat.zero_le _, .inl rfl, x2, Fresh.nil _⟩
  | true =>
    cases i with
    | true =>
      obtain ⟨hE, hN⟩ := bitE_in (x := x) (k := k) hr
      rw [hE, hN, show bitL F true x = rdF F.I F.jf x from rfl]
      have K := Lib.hid (fun w' (hx : Ext w w') => fread_inputs V F x k w' (h.ext hx) wx wk hr)
      unfold SlP at K
      generalize rdE F.jf F.jc F.nI x k = E at K ⊢
      generalize rdN F.jf F.jc F.nI x k k.toNat = N at K ⊢
      generalize rdF F.I F.jf x = L at K ⊢
      clear h hr hE hN wx wk
      have gA := heap_alloc_new w (.cells (filC V F) 31)
      have e0 := Ext.alloc w (.cells (filC V F) 31)
      go_enter Try.func15, Try.ntmps15
      go_upto_region 1 with fail
      go_wp2_with (first | (refine wpList_load_row rfl 31 (.tmp 4) rfl w.heap.size rfl 31 _ (0, 0) _ gA Try.underlying31 rfl (by kernel_rfl) ?_))
      refine (K.out _ e0).mono ?_; rintro e w3 ⟨b, q, rfl, h1, h2, h3, x3, f3⟩
      have x4 := e0.trans x3
      have f4 := f3.back e0
      clear gA x3 f3
      go_wp2
      go_ret2
      exact ⟨b, q, rfl, h1, h2, h3, x4, f4⟩
    | false =>
      obtain ⟨hE, hN⟩ := bitE_out (x := x) (k := k) hr
      rw [hE, hN, show bitL F false x = rdF F.C F.cf x from rfl]
      have K := Lib.hid (fun w' (hx : Ext w w') => fread_coils V F x k w' (h.ext hx) wx wk hr)
      unfold SlP at K
      generalize rdE F.cf F.cc F.nC x k = E at K ⊢
      generalize rdN F.cf F.cc F.nC x k k.toNat = N at K ⊢
      generalize rdF F.C F.cf x = L at K ⊢
      clear h hr hE hN wx wk
      have gA := heap_alloc_new w (.cells (filC V F) 31)
      have e0 := Ext.alloc w (.cells (filC V F) 31)
      go_enter Try.func15, Try.ntmps15
      go_upto_region 1 with fail
      go_wp2_with (first | (refine wpList_load_row rfl 31 (.tmp 4) rfl w.heap.size rfl 31 _ (0, 0) _ gA Try.underlying31 rfl (by kernel_rfl) ?_))
      refine (K.out _ e0).mono ?_; rintro e w3 ⟨b, q, rfl, h1, h2, h3, x3, f3⟩
      have x4 := e0.trans x3
      have f4 := f3.back e0
      clear gA x3 f3
      go_wp2
      go_ret2
      exact ⟨b, q, rfl, h1, h2, h3, x4, f4⟩
set_option maxRecDepth 100000 in
set_option maxHeartbeats 8000000 in
theorem fwords_c : FWordsC 17 := by
  intro V F i x k w h wx wk
  unfold SlP
  cases hr : rightB F with
  | false =>
    obtain ⟨hE, hN⟩ := wrdE_no (x := x) (k := k) i hr
    rw [hE, hN]
    have HR := Lib.hid (fun T G w' => freaduint16_no V F T G x k w' hr)
    clear hr hE hN h wx wk
    cases i
    all_goals
      have gA := heap_alloc_new w (.cells (filC V F) 31)
      have e0 := Ext.alloc w (.cells (filC V F) 31)
      go_enter Try.func17, Try.ntmps17
      go_upto_region 1 with fail
      go_wp2_with (first | (refine wpList_load_row rfl 31 (.tmp 4) rfl w.heap.size rfl 31 _ (0, 0) _ gA Try.underlying31 rfl (by kernel_rfl) ?_))
      refine (HR.out _ _ _).mono ?_; rintro e w1 ⟨rfl, x1⟩
      have x2 := e0.trans x1
      clear gA
      go_wp2
      go_ret2
      exact ⟨_, _, rfl, Nat.zero_le _, Nat.zero_le _, .inl rfl, x2, Fresh.nil _⟩
  | true =>
    cases i with
    | true =>
      obtain ⟨hE, hN⟩ := wrdE_in (x := x) (k := k) hr
      rw [hE, hN, show wrdL F true x = rdF F.R F.rf x from rfl]
      have K := Lib.hid (fun w' (hx : Ext w w') => fread_regs V F x k w' (h.ext hx) wx wk hr)
      unfold SlP at K
      generalize rdE F.rf F.rc F.nR x k = E at K ⊢
      generalize rdN F.rf F.rc F.nR x k k.toNat = N at K ⊢
      generalize rdF F.R F.rf x = L at K ⊢
      clear h hr hE hN wx wk
      have gA := heap_alloc_new w (.cells (filC V F) 31)
      have e0 := Ext.alloc w (.cells (filC V F) 31)
      go_enter Try.func17, Try.ntmps17
      go_upto_region 1 with fail
      go_wp2_with (first | (refine wpList_load_row rfl 31 (.tmp 4) rfl w.heap.size rfl 31 _ (0, 0) _ gA Try.underlying31 rfl (by kernel_rfl) ?_))
      refine (K.out _ e0).mono ?_; rintro e w3 ⟨b, q, rfl, h1, h2, h3, x3, f3⟩
      have x4 := e0.trans x3
      have f4 := f3.back e0
      clear gA x3 f3
      go_wp2
      go_ret2
      exact ⟨b, q, rfl, h1, h2, h3, x4, f4⟩
    | false =>
      obtain ⟨hE, hN⟩ := wrdE_out (x := x) (k := k) hr
      rw [hE, hN, show wrdL F false x = rdF F.H F.hf x from rfl]
      have K := Lib.hid (fun w' (hx : Ext w w') => fread_holding V F x k w' (h.ext hx) wx wk hr)
      unfold SlP at K
      have hrd : rdN F.hf F.hc F.nH x k k.toNat = if rdE F.hf F.hc F.nH x k = 0 then k.toNat else 0 := rfl
      generalize rdE F.hf F.hc F.nH x k = E at K hrd ⊢
      generalize rdN F.hf F.hc F.nH x k k.toNat = N at K hrd ⊢
      generalize rdF F.H F.hf x = L at K ⊢
      by_cases hE0 : E = 0
      · subst hE0
        rw [if_pos rfl] at hrd
        cases hm : meetB F.bf F.bc x k with
        | false =>
          rw [brk_works hm, if_pos rfl, ← hrd]
          have HM := Lib.hid (fun w' => ffails_v hm V w' wx wk)
          clear h hr hE hN wx wk hm hrd
          have gA := heap_alloc_new w (.cells (filC V F) 31)
          have e0 := Ext.alloc w (.cells (filC V F) 31)
          go_enter Try.func17, Try.ntmps17
          go_upto_region 1 with fail
          go_wp2_with (first | (refine wpList_load_row rfl 31 (.tmp 4) rfl w.heap.size rfl 31 _ (0, 0) _ gA Try.underlying31 rfl (by kernel_rfl) ?_))
          refine (K.out _ e0).mono ?_; rintro e w3 ⟨b, q, rfl, h1, h2, h3, x3, f3⟩
          have x4 := e0.trans x3
          have f4 := f3.back e0
          have gA := x3.block gA
          clear x3 f3
          go_wp2_with (first | (refine wpList_load_row_g (by rfl) 31 (.tmp 4) rfl w.heap.size rfl 31 _ (0, 0) _ gA Try.underlying31 rfl (by kernel_rfl) ?_))
          refine (HM.out _).mono ?_; rintro e w6 ⟨rfl, x6⟩
          have x7 := x4.trans x6
          have h4 := h3.ext x6
          clear gA x4 x6 h3
          go_wp2
          go_ret2
          exact ⟨b, q, rfl, h1, h2, h4, x7, f4⟩
        | true =>
          rw [brk_yes hm, if_neg (by decide)]
          have HM := Lib.hid (fun w' => ffails_v hm V w' wx wk)
          clear h hr hE hN wx wk hm hrd
          have gA := heap_alloc_new w (.cells (filC V F) 31)
          have e0 := Ext.alloc w (.cells (filC V F) 31)
          go_enter Try.func17, Try.ntmps17
          go_upto_region 1 with fail
          go_wp2_with (first | (refine wpList_load_row rfl 31 (.tmp 4) rfl w.heap.size rfl 31 _ (0, 0) _ gA Try.underlying31 rfl (by kernel_rfl) ?_))
          refine (K.out _ e0).mono ?_; rintro e w3 ⟨b, q, rfl, h1, h2, h3, x3, f3⟩
          have x4 := e0.trans x3
          have f4 := f3.back e0
          have gA := x3.block gA
          clear x3 f3
          go_wp2_with (first | (refine wpList_load_row_g (by rfl) 31 (.tmp 4) rfl w.heap.size rfl 31 _ (0, 0) _ gA Try.underlying31 rfl (by kernel_rfl) ?_))
          refine (HM.out _).mono ?_; rintro e w6 ⟨rfl, x6⟩
          have x7 := x4.trans x6
          have h4 := h3.ext x6
          clear gA x4 x6 h3
          go_wp2
          go_ret2
          exact ⟨_, _, rfl, Nat.zero_le _, Nat.zero_le _, .inl rfl, x7, Fresh.nil _⟩
      · rw [if_neg hE0] at hrd
        rw [brk_no hE0, if_neg hE0, ← hrd]
        clear h hr hE hN wx wk hrd
        have gA := heap_alloc_new w (.cells (filC V F) 31)
        have e0 := Ext.alloc w (.cells (filC V F) 31)
        go_enter Try.func17, Try.ntmps17
        go_upto_region 1 with fail
        go_wp2_with (first | (refine wpList_load_row rfl 31 (.tmp 4) rfl w.heap.size rfl 31 _ (0, 0) _ gA Try.underlying31 rfl (by kernel_rfl) ?_))
        refine (K.out _ e0).mono ?_; rintro e w3 ⟨b, q, rfl, h1, h2, h3, x3, f3⟩
        have x4 := e0.trans x3
        have f4 := f3.back e0
        have gA := x3.block gA
        clear x3 f3
        clear gA
        go_wp2
        go_ret2
        exact ⟨b, q, rfl, h1, h2, h3, x4, f4⟩
end Go.Proofs.Ytkfpnijacfeogaa
