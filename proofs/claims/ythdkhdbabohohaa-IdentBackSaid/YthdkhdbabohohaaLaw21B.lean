/-
  THE LAWS OF LAYER 21: IdentAnswers, IdentParts, IdentBack (the packages' contracts as premises).
-/
import Derived.Test.YthdkhdbabohohaaLaw21A
import Derived.Laws.CopyOwn
namespace Go.Proofs.Ythdkhdbabohohaa
open Go.RowKit
set_option linter.unusedVariables false
set_option maxRecDepth 100000

set_option maxHeartbeats 8000000 in
theorem identAnswers.small (O : ObjC) (K : IdeC) (a b : Option Addr) (n c m d : Nat) (L : List Ob) (f : Nat → Int) (w : World) (hL : ObjsAt w a n c L) (hfl : fewO L = true) (hb : Holds .u8 w b m f) (hm : m ≤ 600) (hmd : m ≤ d) (hdm : d ≤ maxLen) (hf : ∀ i, i < m → 0 ≤ f i ∧ f i < 256) :
    Calls Try.prog 4 #[.slice a n c, .slice b m d] w fun e w' => e = .returned (.bool true) ∧ Ext w w' := by
  have fL := fewO_f hfl
  have hn : n ≤ 1000000 := by have := fL.n; rw [hL.len] at this; omega
  have KFl := Lib.hid (rfew20_any a n c L w hL (by omega))
  rw [hfl] at KFl
  have KA := Lib.hid (K.answer a b n c m d L f w hL fL hb hm hmd hdm hf)
  have KR := Lib.hid (fun W (x : Ext w W) => ranswer21_any a b n c m d L f W (hL.ext x) fL (hb.ext x) hm hf)
  have HK := Lib.hid (And.intro O K)
  have hm' : ¬ (600 : Int) < m := by omega
  unfold AnsP at KA KR
  have hkl := ansK_le L m f
  generalize ansK L m f = k at KA KR hkl
  generalize ansE L m f = E at KA KR
  generalize ofL (sayP (ansP L f)) = g at KA KR
  have HKL := Lib.hid hkl
  clear O K hL fL hb hm hmd hdm hf hn hfl hkl
  go_enter Try.func4, Try.ntmps4
  go_wp2_with fail
  refine KFl.out.mono ?_; rintro e w1 ⟨rfl, rfl⟩
  go_wp2_with fail
  refine KA.out.mono ?_; rintro e w2 ⟨x, q, rfl, h1, l1, m1, x1⟩
  go_wp2_with fail
  refine (KR.out w2 x1).mono ?_; rintro e w3 ⟨y, r, rfl, h2, l2, m2, x2⟩
  have HB := Lib.hid (bytes_eq x y k k q r g g w3 (h1.ext x2) h2 (by have := HKL.out; omega) ⟨rfl, fun _ _ => rfl⟩)
  clear h1 h2 l1 l2 m1 m2
  go_wp2_with fail
  refine HB.out.mono ?_; rintro e w4 ⟨rfl, x4⟩
  go_wp2_with fail
  refine (sure21 HK.out.1 HK.out.2 w4).mono ?_; rintro e w5 ⟨rfl, x5⟩
  go_wp2
  go_ret
  exact ⟨rfl, x1.trans (x2.trans (x4.trans x5))⟩
theorem wrK_le {P : Prt} : wrK P ≤ 252 := by
  unfold wrK
  cases hr : rightP P with
  | true => rw [if_pos rfl]; exact (rightP_iff.1 hr).2.2.2.2
  | false => rw [if_neg (by decide)]; omega
set_option maxHeartbeats 16000000 in
theorem identParts.small (O : ObjC) (K : IdeC) (P : Prt) (a : Option Addr) (n c : Nat) (b : Option Addr) (m d : Nat) (f : Nat → Int) (w : World) (hP : PrtAt w P a n c) (hfl : fewO P.L = true) (hb : Holds .u8 w b m f) (hm : m ≤ 600) (hmd : m ≤ d) (hdm : d ≤ maxLen) (hf : ∀ i, i < m → 0 ≤ f i ∧ f i < 256) :
    Calls Try.prog 3 #[.agg (prC P a n c), .slice b m d] w fun e w' => e = .returned (.bool true) ∧ Ext w w' := by
  have fL := fewO_f hfl
  have hn : n ≤ 1000000 := by have := fL.n; rw [hP.o.len] at this; omega
  obtain ⟨W0, hW0, x0, HG⟩ : ∃ W0, W0 = w.alloc (.cells (prC P a n c) 24) ∧ Ext w W0 ∧ Hid (∀ W, Ext W0 W → W.heap[w.heap.size]? = some (.cells (prC P a n c) 24 (0, 0))) := ⟨_, rfl, Ext.alloc _ _, Lib.hid (fun W x => x.block (heap_alloc_new _ _))⟩
  have c4 : W0.cell? ⟨w.heap.size, 4, none⟩ = some (.slice a n c) := cell_of_heap (HG.out W0 (Ext.refl _)) rfl
  have KFl := Lib.hid (rfew20_any a n c P.L W0 (hP.o.ext x0) (by omega))
  rw [hfl] at KFl
  have KA := Lib.hid (K.write P a n c W0 (hP.ext x0) fL)
  have KR := Lib.hid (fun W (x : Ext W0 W) => rwrite21_any P a n c W (hP.ext (x0.trans x)) fL)
  have KB := Lib.hid (fun W (x : Ext W0 W) => K.read b m d f W (hb.ext (x0.trans x)) hm hmd hdm hf)
  have KC := Lib.hid (fun W (x : Ext W0 W) => rread21_any b m d f W (hb.ext (x0.trans x)) hm hmd hdm hf)
  have HK := Lib.hid (And.intro O K)
  have hm' : ¬ (600 : Int) < m := by omega
  have HE : Hid (wrE P = if rightP P = true then 0 else 11) := Lib.hid rfl
  have HE2 : Hid (rdI ((List.range m).map f) = if (readP ((List.range m).map f)).isSome = true then 0 else 14) := Lib.hid rfl
  have hkl := wrK_le (P := P)
  unfold ReaP at KC
  generalize (List.range m).map f = l at KB KC HE2
  generalize rightP P = R at KR HE
  generalize wrK P = k at KA KR hkl
  generalize wrE P = E at KA HE
  generalize ofL (sayP P) = g at KA KR
  generalize rdI l = E2 at KB HE2
  generalize (readP l).getD zeroPr = Z at KB KC
  generalize (readP l).isSome = R2 at KC HE2
  have HKL := Lib.hid hkl
  have HX := Lib.hid x0
  clear O K hP fL hb hm hmd hdm hf hn hfl hkl x0
  go_enter Try.func3, Try.ntmps3
  go_upto_region 1 with fail
  rw [← hW0]
  clear hW0
  go_wp2_with fail
  refine KFl.out.mono ?_; rintro e w1 ⟨rfl, hw1⟩
  rw [hw1]; clear hw1 c4 KFl
  have gA := HG.out W0 (Ext.refl _)
  go_wp2_with (refine wpList_load_row rfl 24 (.tmp 2) rfl w.heap.size rfl 24 (prC P a n c) (0, 0) _ gA Try.underlying24 rfl (by kernel_rfl) ?_)
  refine KA.out.mono ?_; rintro e w2 ⟨x, q, rfl, h1, l1, m1, x2⟩
  have gB := HG.out w2 x2
  clear gA
  go_wp2_with (refine wpList_load_row rfl 24 (.tmp 2) rfl w.heap.size rfl 24 (prC P a n c) (0, 0) _ gB Try.underlying24 rfl (by kernel_rfl) ?_)
  refine (KR.out w2 x2).mono ?_; rintro e w3 ⟨y, r, rfl, h2, x3⟩
  clear gB
  have z3 := x2.trans x3
  go_wp2_with fail
  refine (KB.out w3 z3).mono ?_; rintro e w4 ⟨A, ab, am, aq, rfl, hA, fA, sA, x4⟩
  obtain ⟨G1, hG1⟩ : ∃ G1, G1 = w4.heap.size := ⟨_, rfl⟩
  obtain ⟨W5, hW5, y5, HG1⟩ : ∃ W5, W5 = w4.alloc (.cells (prC A ab am aq) 24) ∧ Ext w4 W5 ∧ Hid (W5.heap[G1]? = some (.cells (prC A ab am aq) 24 (0, 0))) := ⟨_, rfl, Ext.alloc _ _, Lib.hid (by rw [hG1]; exact heap_alloc_new _ _)⟩
  have z5 := z3.trans (x4.trans y5)
  have t5 := x4.trans y5
  have HAA := Lib.hid (And.intro (hA.ext y5) (And.intro fA sA))
  simp only [prC]
  go_upto_region 6 with fail
  rw [show (w4.alloc (.cells #[.int .i64 A.co, .int .i64 A.lv, .bool A.mo, .int .i64 A.nx, .slice ab am aq] 24)) = W5 from hW5.symm, ← hG1]
  clear hW5 hG1 hA fA sA x4 y5
  go_wp2_with fail
  refine (KC.out W5 z5).mono ?_; rintro e w6 ⟨C, cb, cm, cq, rfl, hC, fC, sC, x6⟩
  obtain ⟨G2, hG2⟩ : ∃ G2, G2 = w6.heap.size := ⟨_, rfl⟩
  obtain ⟨W7, hW7, y7, HG2⟩ : ∃ W7, W7 = w6.alloc (.cells (prC C cb cm cq) 33) ∧ Ext w6 W7 ∧ Hid (W7.heap[G2]? = some (.cells (prC C cb cm cq) 33 (0, 0))) := ⟨_, rfl, Ext.alloc _ _, Lib.hid (by rw [hG2]; exact heap_alloc_new _ _)⟩
  have t7 := x6.trans y7
  have z7 := z5.trans t7
  have HCC := Lib.hid (And.intro (hC.ext y7) (And.intro fC sC))
  simp only [prC]
  go_upto_region 7 with fail
  rw [show (w6.alloc (.cells #[.int .i64 C.co, .int .i64 C.lv, .bool C.mo, .int .i64 C.nx, .slice cb cm cq] 33)) = W7 from hW7.symm, ← hG2]
  clear hW7 hG2 hC fC sC x6 y7
  have HBy := Lib.hid (bytes_eq x y k k q r g g W7 (h1.ext (x3.trans (t5.trans t7))) (h2.ext (t5.trans t7)) (by have := HKL.out; omega) ⟨rfl, fun _ _ => rfl⟩)
  have HT := Lib.hid (And.intro t7 z7)
  clear h1 h2 l1 m1 t5 z5 z3 x2 x3 t7 z7
  have hRE : (E == 0) = R := by rw [HE.out]; cases R <;> rfl
  have hRE2 : (E2 == 0) = R2 := by rw [HE2.out]; cases R2 <;> rfl
  have hE' : E = if R = true then 0 else 11 := HE.out
  have hE2' : E2 = if R2 = true then 0 else 14 := HE2.out
  have hsm : sameP A C = true := sameP_trans HAA.out.2.2 (sameP_symm HCC.out.2.2)
  have HSm := Lib.hid hsm
  clear hRE hRE2 hsm
  go_wp2_with fail
  refine HBy.out.mono ?_; rintro e w8 ⟨rfl, x8⟩
  have g1 : w8.heap[G1]? = some (.cells #[.int .i64 A.co, .int .i64 A.lv, .bool A.mo, .int .i64 A.nx, .slice ab am aq] 24 (0, 0)) := x8.block (HT.out.1.block HG1.out)
  have g2 : w8.heap[G2]? = some (.cells #[.int .i64 C.co, .int .i64 C.lv, .bool C.mo, .int .i64 C.nx, .slice cb cm cq] 33 (0, 0)) := x8.block HG2.out
  have KS := Lib.hid (rsame21_any A C ab cb am cm aq cq w8 (HAA.out.1.ext (HT.out.1.trans x8)) (HCC.out.1.ext x8) HAA.out.2.1 HCC.out.2.1)
  rw [HSm.out] at KS
  have HX8 := Lib.hid (HX.out.trans (HT.out.2.trans x8))
  clear x8
  cases R <;> cases R2
  all_goals
    simp at hE' hE2'
    subst hE'
    subst hE2'
    go_wp2_with (first
      | (refine wpList_load_row_g (by rfl) 24 (.tmp 9) rfl G1 rfl 24 _ (0, 0) _ g1 Try.underlying24 rfl (by kernel_rfl) ?_)
      | (refine wpList_load_row_g (by rfl) 33 (.tmp 11) rfl G2 rfl 33 _ (0, 0) _ g2 Try.underlying33 rfl (by kernel_rfl) ?_))
    refine KS.out.mono ?_; rintro e w9 ⟨rfl, x9⟩
    go_wp2_with fail
    refine (sure21 HK.out.1 HK.out.2 w9).mono ?_; rintro e w10 ⟨rfl, x10⟩
    go_wp2
    go_ret
    exact ⟨rfl, HX8.out.trans (x9.trans x10)⟩
end Go.Proofs.Ythdkhdbabohohaa
