/-
  THE LAWS OF LAYER 21: IdentBack (the packages' contracts as premises).
-/
import Derived.Test.YthdkhdbabohohaaLaw21B
namespace Go.Proofs.Ythdkhdbabohohaa
open Go.RowKit
set_option linter.unusedVariables false
set_option maxRecDepth 100000

set_option maxHeartbeats 16000000 in
theorem identBack.small (O : ObjC) (K : IdeC) (P : Prt) (a : Option Addr) (n c : Nat) (b : Option Addr) (m d : Nat) (f : Nat → Int) (w : World) (hP : PrtAt w P a n c) (hfl : fewO P.L = true) (hb : Holds .u8 w b m f) (hm : m ≤ 600) (hmd : m ≤ d) (hdm : d ≤ maxLen) (hf : ∀ i, i < m → 0 ≤ f i ∧ f i < 256) :
    Calls Try.prog 5 #[.agg (prC P a n c), .slice b m d] w fun e w' => e = .returned (.bool true) ∧ Ext w w' := by
  have fL := fewO_f hfl
  have hn : n ≤ 1000000 := by have := fL.n; rw [hP.o.len] at this; omega
  obtain ⟨W0, hW0, x0, HG⟩ : ∃ W0, W0 = w.alloc (.cells (prC P a n c) 24) ∧ Ext w W0 ∧ Hid (∀ W, Ext W0 W → W.heap[w.heap.size]? = some (.cells (prC P a n c) 24 (0, 0))) := ⟨_, rfl, Ext.alloc _ _, Lib.hid (fun W x => x.block (heap_alloc_new _ _))⟩
  have c4 : W0.cell? ⟨w.heap.size, 4, none⟩ = some (.slice a n c) := cell_of_heap (HG.out W0 (Ext.refl _)) rfl
  have KFl := Lib.hid (rfew20_any a n c P.L W0 (hP.o.ext x0) (by omega))
  rw [hfl] at KFl
  have KA := Lib.hid (K.write P a n c W0 (hP.ext x0) fL)
  have HP := Lib.hid (And.intro (hP.ext x0) fL)
  have KB := Lib.hid (fun W (x : Ext W0 W) => K.read b m d f W (hb.ext (x0.trans x)) hm hmd hdm hf)
  have HBB := Lib.hid (And.intro (hb.ext x0) (And.intro hm hf))
  have HK := Lib.hid (And.intro O K)
  have hm' : ¬ (600 : Int) < m := by omega
  obtain ⟨R, hR⟩ : ∃ R, rightP P = R := ⟨_, rfl⟩
  obtain ⟨E, hE⟩ : ∃ E, wrE P = E := ⟨_, rfl⟩
  obtain ⟨k, hk⟩ : ∃ k, wrK P = k := ⟨_, rfl⟩
  have HE : Hid (E = if R = true then 0 else 11) := Lib.hid (by rw [← hE, ← hR]; rfl)
  have Hk : Hid (R = true → k = 6 + lenO P.L) := Lib.hid (fun h => by rw [← hk]; unfold wrK; rw [hR, h]; rfl)
  have HR := Lib.hid hR
  have hkl := wrK_le (P := P)
  rw [hk] at hkl KA
  rw [hE] at KA
  have HKL := Lib.hid hkl
  have HX := Lib.hid x0
  clear O K hP fL hb hm hmd hdm hf hn hfl hkl x0 hR hE hk
  go_enter Try.func5, Try.ntmps5
  go_upto_region 1 with fail
  rw [← hW0]
  clear hW0
  go_wp2_with fail
  refine KFl.out.mono ?_; rintro e w1 ⟨rfl, hw1⟩
  rw [hw1]; clear hw1 c4 KFl
  have gA := HG.out W0 (Ext.refl _)
  go_wp2_with (refine wpList_load_row rfl 24 (.tmp 2) rfl w.heap.size rfl 24 (prC P a n c) (0, 0) _ gA Try.underlying24 rfl (by kernel_rfl) ?_)
  clear gA
  refine KA.out.mono ?_; rintro e w2 ⟨x, q, rfl, h1, l1, m1, x2⟩
  have HX1 := Lib.hid (And.intro h1 (And.intro l1 m1))
  clear h1 l1 m1
  go_upto_if 29 with fail
  go_cut [47] from 29 to 47 (fun v wx => Ext W0 wx)
  case first =>
    as_aux_lemma =>
    cases R
    · have hE : E = 11 := HE.out
      subst hE
      go_wp2_with fail
      go_meet
      exact x2
    · have hE : E = 0 := HE.out
      subst hE
      have hk6 := Hk.out rfl
      have hbd := say_bd HR.out (fun z hz => (HP.out.1.o.each z hz).b)
      rw [← hk6] at hbd
      have KD := HK.out.2.read x k q (ofL (sayP P)) w2 HX1.out.1 (by have := HKL.out; omega) HX1.out.2.1 HX1.out.2.2 hbd
      rw [map_ofL (by rw [sayP_len]; exact hk6.symm)] at KD
      obtain ⟨Q, hQ, hQP⟩ := read_say HR.out
      have hrd : rdI (sayP P) = 0 := by unfold rdI; rw [hQ]; rfl
      rw [hrd, hQ] at KD
      have HKD := Lib.hid KD
      have HQP := Lib.hid hQP
      clear KD hQ hQP hrd hbd hk6
      go_wp2_with fail
      refine HKD.out.mono ?_; rintro e w4 ⟨A, ab, am, aq, rfl, hA, fA, sA, x4⟩
      obtain ⟨G1, hG1⟩ : ∃ G1, G1 = w4.heap.size := ⟨_, rfl⟩
      obtain ⟨W5, hW5, y5, HG1⟩ : ∃ W5, W5 = w4.alloc (.cells (prC A ab am aq) 24) ∧ Ext w4 W5 ∧ Hid (W5.heap[G1]? = some (.cells (prC A ab am aq) 24 (0, 0))) := ⟨_, rfl, Ext.alloc _ _, Lib.hid (by rw [hG1]; exact heap_alloc_new _ _)⟩
      have z5 := x2.trans (x4.trans y5)
      have hsm : sameP P A = true := sameP_symm (sameP_trans sA HQP.out)
      have KS := Lib.hid (rsame21_any P A a ab n am c aq W5 (HP.out.1.ext z5) (hA.ext y5) HP.out.2 fA)
      rw [hsm] at KS
      have g1 : W5.heap[G1]? = some (.cells #[.int .i64 A.co, .int .i64 A.lv, .bool A.mo, .int .i64 A.nx, .slice ab am aq] 24 (0, 0)) := HG1.out
      have g0 : W5.heap[w.heap.size]? = some (.cells (prC P a n c) 24 (0, 0)) := HG.out W5 z5
      have hk3 : ¬ (253 : Int) ≤ k := by have := HKL.out; omega
      simp only [prC]
      go_upto_region 6 with fail
      rw [show (w4.alloc (.cells #[.int .i64 A.co, .int .i64 A.lv, .bool A.mo, .int .i64 A.nx, .slice ab am aq] 24)) = W5 from hW5.symm, ← hG1]
      clear hW5 hG1 hA fA sA x4 y5 hsm x2
      go_wp2_with (first
        | (refine wpList_load_row_g (by rfl) 24 (.tmp 2) rfl w.heap.size rfl 24 _ (0, 0) _ g0 Try.underlying24 rfl (by kernel_rfl) ?_)
        | (refine wpList_load_row_g (by rfl) 24 (.tmp 7) rfl G1 rfl 24 _ (0, 0) _ g1 Try.underlying24 rfl (by kernel_rfl) ?_))
      refine KS.out.mono ?_; rintro e w9 ⟨rfl, x9⟩
      go_wp2_with fail
      go_meet
      exact z5.trans x9
  case rest =>
    have x3 := hcut
    go_wp2_with fail
    refine (KB.out _ x3).mono ?_; rintro e w4 ⟨A, ab, am, aq, rfl, hA, fA, sA, x4⟩
    obtain ⟨l, hl⟩ : ∃ l, (List.range m).map f = l := ⟨_, rfl⟩
    rw [hl] at sA ⊢
    obtain ⟨G1, hG1⟩ : ∃ G1, G1 = w4.heap.size := ⟨_, rfl⟩
    obtain ⟨W5, hW5, y5, HG1⟩ : ∃ W5, W5 = w4.alloc (.cells (prC A ab am aq) 24) ∧ Ext w4 W5 ∧ Hid (W5.heap[G1]? = some (.cells (prC A ab am aq) 24 (0, 0))) := ⟨_, rfl, Ext.alloc _ _, Lib.hid (by rw [hG1]; exact heap_alloc_new _ _)⟩
    have z5 := x3.trans (x4.trans y5)
    have HAA := Lib.hid (And.intro (hA.ext y5) (And.intro fA sA))
    have HLl := Lib.hid hl
    simp only [prC]
    go_upto_region 9 with fail
    rw [show (w4.alloc (.cells #[.int .i64 A.co, .int .i64 A.lv, .bool A.mo, .int .i64 A.nx, .slice ab am aq] 24)) = W5 from hW5.symm, ← hG1]
    clear hW5 hG1 hA fA sA x4 y5 hl x3
    cases hrd : readP l with
    | none =>
      have hE2 : rdI l = 14 := by unfold rdI; rw [hrd]; rfl
      have hs := HAA.out.2.2
      rw [hrd] at hs
      have hl0 : am = 0 := by rw [← HAA.out.1.o.len, sameO_len (sameP_iff.1 hs).2.2.2.2]; rfl
      subst hl0
      have g4 : W5.cell? ⟨G1, 4, none⟩ = some (.slice ab 0 aq) := cell_of_heap HG1.out rfl
      rw [hE2]
      clear hE2 hs hrd
      go_wp2_with fail
      refine (sure21 HK.out.1 HK.out.2 W5).mono ?_; rintro e w10 ⟨rfl, x10⟩
      go_wp2
      go_ret
      exact ⟨rfl, HX.out.trans (z5.trans x10)⟩
    | some Z =>
      have hE2 : rdI l = 0 := by unfold rdI; rw [hrd]; rfl
      have hs := HAA.out.2.2
      rw [hrd] at hs
      obtain ⟨hZr, hZs⟩ := readP_some hrd
      have hAr : rightP A = true := (right_same hs).trans hZr
      have hAs : sayP A = l := (say_same hs).trans hZs
      have hAk : wrK A = m := by unfold wrK; rw [hAr, if_pos rfl, ← sayP_len, hAs, ← HLl.out]; simp
      have hAe : wrE A = 0 := by unfold wrE; rw [hAr]; rfl
      have KW := HK.out.2.write A ab am aq W5 HAA.out.1 HAA.out.2.1
      rw [hAk, hAe, hAs] at KW
      have HW := Lib.hid KW
      have g5 : W5.heap[G1]? = some (.cells #[.int .i64 A.co, .int .i64 A.lv, .bool A.mo, .int .i64 A.nx, .slice ab am aq] 24 (0, 0)) := HG1.out
      rw [hE2]
      clear hE2 hs hrd hZr hZs hAr hAs hAk hAe KW
      go_wp2_with (refine wpList_load_row rfl 24 (.tmp 9) rfl G1 rfl 24 _ (0, 0) _ g5 Try.underlying24 rfl (by kernel_rfl) ?_)
      clear g5
      refine HW.out.mono ?_; rintro e w9 ⟨y, r, rfl, h9, l9, m9, x9⟩
      have HBy := Lib.hid (bytes_eq y b m m r d (ofL l) f w9 h9 (HBB.out.1.ext (z5.trans x9)) (by have := HBB.out.2.1; omega) ⟨rfl, fun i hi => by rw [← HLl.out]; exact ofL_range m f i hi⟩)
      clear h9 l9 m9
      go_wp2_with fail
      refine HBy.out.mono ?_; rintro e w10 ⟨rfl, x10⟩
      go_wp2_with fail
      refine (sure21 HK.out.1 HK.out.2 w10).mono ?_; rintro e w11 ⟨rfl, x11⟩
      go_wp2
      go_ret
      exact ⟨rfl, HX.out.trans (z5.trans (x9.trans (x10.trans x11)))⟩
end Go.Proofs.Ythdkhdbabohohaa
