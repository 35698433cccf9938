/-
  THE LAWS OF LAYER 21: the walks for whatever comes in (the packages' contracts as premises).
-/
import Derived.Test.YthdkhdbabohohaaLaw21E
namespace Go.Proofs.Ythdkhdbabohohaa
open Go.RowKit
set_option linter.unusedVariables false
set_option maxRecDepth 100000

theorem u8_bd {f : Nat → Int} {n : Nat} (h : ∀ i, i < n → (Lit.int .u8 (f i)).wf = true) : ∀ i, i < n → 0 ≤ f i ∧ f i < 256 := fun i hi => by have := h i hi; simp [Lit.wf, IntKind.min, IntKind.max, IntKind.signed, IntKind.bits] at this; omega
set_option maxHeartbeats 4000000 in
theorem identAnswers.walk0 (O : ObjC) (K : IdeC) (a : Option Addr) (n c : Nat) (L : List Ob) (b : Option Addr) (m d : Nat) (f : Nat → Int) (w : World) (hL : ObjsAt w a n c L) (hn : n ≤ 1000000000000000) (hb : Holds .u8 w b m f) (hmd : m ≤ d) (hdr : d * 1 ≤ 140737488351232) (hwf : ∀ i, i < m → (Lit.int .u8 (f i)).wf = true) :
    Calls Try.prog 4 #[.slice a n c, .slice b m d] w fun e w' => e = .returned (.bool true) ∧ Ext w w' := by
  have KFl := Lib.hid (rfew20_any a n c L w hL hn)
  have HK := Lib.hid (And.intro O K)
  cases hfl : fewO L with
  | false =>
    rw [hfl] at KFl
    clear O K hL hn hb hmd hdr hwf hfl
    go_enter Try.func4, Try.ntmps4
    go_wp2_with fail
    refine KFl.out.mono ?_; rintro e w1 ⟨rfl, rfl⟩
    go_wp2_with fail
    refine (sure21 HK.out.1 HK.out.2 w1).mono ?_; rintro e w2 ⟨rfl, x2⟩
    go_wp2
    go_ret
    exact ⟨rfl, x2⟩
  | true =>
    by_cases hm : m ≤ 600
    · exact identAnswers.small O K a b n c m d L f w hL hfl hb hm hmd (by unfold maxLen; omega) (u8_bd hwf)
    · have hm' : (600 : Int) < m := by omega
      rw [hfl] at KFl
      clear O K hL hn hb hmd hdr hwf hfl hm
      go_enter Try.func4, Try.ntmps4
      go_wp2_with fail
      refine KFl.out.mono ?_; rintro e w1 ⟨rfl, rfl⟩
      go_wp2_with fail
      refine (sure21 HK.out.1 HK.out.2 w1).mono ?_; rintro e w2 ⟨rfl, x2⟩
      go_wp2
      go_ret
      exact ⟨rfl, x2⟩
set_option maxHeartbeats 4000000 in
theorem identParts.walk0 (O : ObjC) (K : IdeC) (P : Prt) (a : Option Addr) (n c : Nat) (b : Option Addr) (m d : Nat) (f : Nat → Int) (w : World) (hP : PrtAt w P a n c) (hn : n ≤ 1000000000000000) (hb : Holds .u8 w b m f) (hmd : m ≤ d) (hdr : d * 1 ≤ 140737488351232) (hwf : ∀ i, i < m → (Lit.int .u8 (f i)).wf = true) :
    Calls Try.prog 3 #[.agg (prC P a n c), .slice b m d] w fun e w' => e = .returned (.bool true) ∧ Ext w w' := by
  obtain ⟨W0, hW0, x0, HG⟩ : ∃ W0, W0 = w.alloc (.cells (prC P a n c) 24) ∧ Ext w W0 ∧ Hid (W0.heap[w.heap.size]? = some (.cells (prC P a n c) 24 (0, 0))) := ⟨_, rfl, Ext.alloc _ _, Lib.hid (heap_alloc_new _ _)⟩
  have c4 : W0.cell? ⟨w.heap.size, 4, none⟩ = some (.slice a n c) := cell_of_heap HG.out rfl
  have KFl := Lib.hid (rfew20_any a n c P.L W0 (hP.o.ext x0) hn)
  have HK := Lib.hid (And.intro O K)
  have HX := Lib.hid x0
  cases hfl : fewO P.L with
  | false =>
    rw [hfl] at KFl
    clear O K hP hn hb hmd hdr hwf hfl x0
    go_enter Try.func3, Try.ntmps3
    go_upto_region 1 with fail
    rw [← hW0]
    clear hW0
    go_wp2_with fail
    refine KFl.out.mono ?_; rintro e w1 ⟨rfl, hw1⟩
    rw [hw1]; clear hw1
    go_wp2_with fail
    refine (sure21 HK.out.1 HK.out.2 W0).mono ?_; rintro e w2 ⟨rfl, x2⟩
    go_wp2
    go_ret
    exact ⟨rfl, HX.out.trans x2⟩
  | true =>
    by_cases hm : m ≤ 600
    · exact identParts.small O K P a n c b m d f w hP hfl hb hm hmd (by unfold maxLen; omega) (u8_bd hwf)
    · have hm' : (600 : Int) < m := by omega
      rw [hfl] at KFl
      clear O K hP hn hb hmd hdr hwf hfl hm x0
      go_enter Try.func3, Try.ntmps3
      go_upto_region 1 with fail
      rw [← hW0]
      clear hW0
      go_wp2_with fail
      refine KFl.out.mono ?_; rintro e w1 ⟨rfl, hw1⟩
      rw [hw1]; clear hw1
      go_wp2_with fail
      refine (sure21 HK.out.1 HK.out.2 W0).mono ?_; rintro e w2 ⟨rfl, x2⟩
      go_wp2
      go_ret
      exact ⟨rfl, HX.out.trans x2⟩
set_option maxHeartbeats 4000000 in
theorem identBack.walk0 (O : ObjC) (K : IdeC) (P : Prt) (a : Option Addr) (n c : Nat) (b : Option Addr) (m d : Nat) (f : Nat → Int) (w : World) (hP : PrtAt w P a n c) (hn : n ≤ 1000000000000000) (hb : Holds .u8 w b m f) (hmd : m ≤ d) (hdr : d * 1 ≤ 140737488351232) (hwf : ∀ i, i < m → (Lit.int .u8 (f i)).wf = true) :
    Calls Try.prog 5 #[.agg (prC P a n c), .slice b m d] w fun e w' => e = .returned (.bool true) ∧ Ext w w' := by
  obtain ⟨W0, hW0, x0, HG⟩ : ∃ W0, W0 = w.alloc (.cells (prC P a n c) 24) ∧ Ext w W0 ∧ Hid (W0.heap[w.heap.size]? = some (.cells (prC P a n c) 24 (0, 0))) := ⟨_, rfl, Ext.alloc _ _, Lib.hid (heap_alloc_new _ _)⟩
  have c4 : W0.cell? ⟨w.heap.size, 4, none⟩ = some (.slice a n c) := cell_of_heap HG.out rfl
  have KFl := Lib.hid (rfew20_any a n c P.L W0 (hP.o.ext x0) hn)
  have HK := Lib.hid (And.intro O K)
  have HX := Lib.hid x0
  cases hfl : fewO P.L with
  | false =>
    rw [hfl] at KFl
    clear O K hP hn hb hmd hdr hwf hfl x0
    go_enter Try.func5, Try.ntmps5
    go_upto_region 1 with fail
    rw [← hW0]
    clear hW0
    go_wp2_with fail
    refine KFl.out.mono ?_; rintro e w1 ⟨rfl, hw1⟩
    rw [hw1]; clear hw1
    go_wp2_with fail
    refine (sure21 HK.out.1 HK.out.2 W0).mono ?_; rintro e w2 ⟨rfl, x2⟩
    go_wp2
    go_ret
    exact ⟨rfl, HX.out.trans x2⟩
  | true =>
    by_cases hm : m ≤ 600
    · exact identBack.small O K P a n c b m d f w hP hfl hb hm hmd (by unfold maxLen; omega) (u8_bd hwf)
    · have hm' : (600 : Int) < m := by omega
      rw [hfl] at KFl
      clear O K hP hn hb hmd hdr hwf hfl hm x0
      go_enter Try.func5, Try.ntmps5
      go_upto_region 1 with fail
      rw [← hW0]
      clear hW0
      go_wp2_with fail
      refine KFl.out.mono ?_; rintro e w1 ⟨rfl, hw1⟩
      rw [hw1]; clear hw1
      go_wp2_with fail
      refine (sure21 HK.out.1 HK.out.2 W0).mono ?_; rintro e w2 ⟨rfl, x2⟩
      go_wp2
      go_ret
      exact ⟨rfl, HX.out.trans x2⟩
set_option maxHeartbeats 4000000 in
theorem identAll.walk0 (O : ObjC) (K : IdeC) (a : Option Addr) (n c : Nat) (L : List Ob) (s : Int) (w : World) (hL : ObjsAt w a n c L) (hn : n ≤ 1000000000000000) (ws : (Lit.int .i64 s).wf = true) :
    Calls Try.prog 6 #[.slice a n c, .int .i64 s] w fun e w' => e = .returned (.bool true) ∧ Ext w w' := by
  have KFl := Lib.hid (rfew20_any a n c L w hL hn)
  have HK := Lib.hid (And.intro O K)
  cases hfl : fewO L with
  | false =>
    rw [hfl] at KFl
    clear O K hL hn ws hfl
    go_enter Try.func6, Try.ntmps6
    go_wp2_with fail
    refine KFl.out.mono ?_; rintro e w1 ⟨rfl, rfl⟩
    go_wp2_with fail
    refine (sure21 HK.out.1 HK.out.2 w1).mono ?_; rintro e w2 ⟨rfl, x2⟩
    go_wp2
    go_ret
    exact ⟨rfl, x2⟩
  | true =>
    by_cases hg : rightO L = true ∧ 1 ≤ s ∧ s ≤ 3
    · exact identAll.small O K a n c L s w hL hfl hg.1 hg.2.1 hg.2.2
    · have hal : allL L s = [] := by unfold allL; rw [if_neg hg]
      have han : allN L s = 0 := by unfold allN; rw [if_neg hg]
      have KA := K.all a n c L s w hL (fewO_f hfl) ws
      rw [hal, han] at KA
      have HKA := Lib.hid KA
      have KR := Lib.hid (fun W (x : Ext w W) => O.right a n c L W (hL.ext x) (fewO_f hfl))
      rw [hfl] at KFl
      obtain ⟨R, hR⟩ : ∃ R, rightO L = R := ⟨_, rfl⟩
      rw [hR] at KR hg
      clear O K hL hn ws hfl hal han KA hR
      have hways : R = false ∨ (R = true ∧ s < 1) ∨ (R = true ∧ ¬ s < 1 ∧ 3 < s) := by
        cases R
        · exact .inl rfl
        · by_cases h1 : s < 1
          · exact .inr (.inl ⟨rfl, h1⟩)
          · exact .inr (.inr ⟨rfl, h1, by
              by_cases h3 : s ≤ 3
              · exact absurd ⟨rfl, by omega, h3⟩ hg
              · omega⟩)
      clear hg
      rcases hways with rfl | ⟨rfl, h1⟩ | ⟨rfl, h1, h3⟩
      all_goals
        go_enter Try.func6, Try.ntmps6
        go_wp2_with fail
        refine KFl.out.mono ?_; rintro e w1 ⟨rfl, rfl⟩
        go_wp2_with fail
        refine HKA.out.mono ?_; rintro e w2 ⟨b, m, q, M, rfl, hM, sM, x2⟩
        have hm0 : m = 0 := by rw [← hM.len, sameO_len sM]; rfl
        subst hm0
        clear hM sM
        go_wp2_with fail
        refine (KR.out w2 x2).mono ?_; rintro e w3 ⟨rfl, x3⟩
        go_wp2_with fail
        refine (sure21 HK.out.1 HK.out.2 w3).mono ?_; rintro e w4 ⟨rfl, x4⟩
        go_wp2
        go_ret
        exact ⟨rfl, x2.trans (x3.trans x4)⟩
set_option maxHeartbeats 4000000 in
theorem identOne.walk0 (O : ObjC) (K : IdeC) (a : Option Addr) (n c : Nat) (L : List Ob) (J S : Int) (w : World) (hL : ObjsAt w a n c L) (hn : n ≤ 1000000000000000) (wj : (Lit.int .u8 J).wf = true) (wS : (Lit.int .u8 S).wf = true) :
    Calls Try.prog 7 #[.slice a n c, .int .u8 J, .int .u8 S] w fun e w' => e = .returned (.bool true) ∧ Ext w w' := by
  have hJ : 0 ≤ J ∧ J < 256 := by simp [Lit.wf, IntKind.min, IntKind.max, IntKind.signed, IntKind.bits] at wj; omega
  have hS : 0 ≤ S ∧ S < 256 := by simp [Lit.wf, IntKind.min, IntKind.max, IntKind.signed, IntKind.bits] at wS; omega
  have KFl := Lib.hid (rfew20_any a n c L w hL hn)
  have HK := Lib.hid (And.intro O K)
  cases hfl : fewO L with
  | false =>
    rw [hfl] at KFl
    clear O K hL hn wj wS hJ hS hfl
    go_enter Try.func7, Try.ntmps7
    go_wp2_with fail
    refine KFl.out.mono ?_; rintro e w1 ⟨rfl, rfl⟩
    go_wp2_with fail
    refine (sure21 HK.out.1 HK.out.2 w1).mono ?_; rintro e w2 ⟨rfl, x2⟩
    go_wp2
    go_ret
    exact ⟨rfl, x2⟩
  | true =>
    cases hr : rightO L with
    | true => exact identOne.small O K a n c L J S w hL hfl hr hJ.1 hJ.2 hS.1 hS.2
    | false =>
      have KA := Lib.hid (O.right a n c L w hL (fewO_f hfl))
      rw [hfl] at KFl
      rw [hr] at KA
      clear O K hL hn wj wS hJ hS hfl hr
      go_enter Try.func7, Try.ntmps7
      go_wp2_with fail
      refine KFl.out.mono ?_; rintro e w1 ⟨rfl, rfl⟩
      go_wp2_with fail
      refine KA.out.mono ?_; rintro e w2 ⟨rfl, x1⟩
      go_wp2_with fail
      refine (sure21 HK.out.1 HK.out.2 w2).mono ?_; rintro e w3 ⟨rfl, x2⟩
      go_wp2
      go_ret
      exact ⟨rfl, x1.trans x2⟩
end Go.Proofs.Ythdkhdbabohohaa
