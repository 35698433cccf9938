/-
  THE LAWS OF LAYER 14: the walk of FileKeeps (package file's contracts and 'sure' as premises).
-/
import Derived.Test.YtkfpnijacfeogaaLaw14P
import Derived.Test.YtkfpnijacfeogaaLaw14A
import Derived.Test.YtkfpnijacfeogaaLaw14K
import Derived.Deep.DeepCutAuto
namespace Go.Proofs.Ytkfpnijacfeogaa
open Go.RowKit
set_option linter.unusedVariables false

set_option maxRecDepth 100000 in
set_option maxHeartbeats 16000000 in
theorem fileKeeps.walk0 (F : Fil) (a : Option Addr) (n cap : Nat) (L : List (OpeV × Ope)) (w : World) (hLen : L.length = n) (ha : HoldsL 6 opeL w a L) (hnc : n ≤ cap) (hn : n ≤ 1000000000000000) (hz : ∀ z ∈ L, OpeAt w z.1 z.2 ∧ OpeW z.2 ∧ z.2.nb ≤ 1000000000000000 ∧ z.2.nr ≤ 1000000000000000)
    (hN : FNewC 8) (hR : FRightC 14) (hSB : FSetBitsC 26) (hSW : FSetWordsC 21) (hS : FSameC 24) (hC : FCopyC 25) (hW : FWordsC 17) (hB : FBitsC 15)
    (sure : ∀ w, Calls Try.prog 7 #[] w fun e w' => e = .returned (.bool true) ∧ Ext w w') :
    Calls Try.prog 5 #[.agg (bnkC F), .slice a n cap] w fun e w' => e = .returned (.bool true) ∧ Ext w w' := by
  have HS := Lib.hid sure
  have K0 := Lib.hid (fun w' => hN F w')
  unfold FP at K0
  have hnI : (n : Int) ≤ 1000000000000000 := by omega
  have HZ := Lib.hid hz
  have HLen := Lib.hid hLen
  have HA := Lib.hid ha
  clear ha hLen hz hn hnc
  by_cases h60 : 60 < n
  · have h60' : (60 : Int) < (n : Int) := by omega
    clear hN hR hSB hSW hS hC hW hB sure h60 K0
    go_enter Try.func5, Try.ntmps5
    go_upto_region 1 with fail
    obtain ⟨W0, hW0, HX0, He⟩ : ∃ W0, W0 = w.alloc (.cells (bnkC F) 25) ∧ Hid (∀ W, Ext W0 W → W.heap[w.heap.size]? = some (.cells (bnkC F) 25 (0, 0))) ∧ Hid (Ext w W0) := ⟨_, rfl, Lib.hid (fun W hx => hx.block (heap_alloc_new w _)), Lib.hid (Ext.alloc w _)⟩
    rw [← hW0]
    clear hW0
    have gA := HX0.out W0 (Ext.refl _)
    go_wp2_with fail
    refine (HS.out _).mono ?_; rintro e w9 ⟨rfl, y9⟩
    go_wp2
    go_ret
    exact ⟨rfl, He.out.trans y9⟩
  · have h60' : ¬ (60 : Int) < (n : Int) := by omega
    have hn60 : n ≤ 60 := by omega
    clear h60
    cases hb : bankB F with
    | false =>
      simp only [hb, Bool.false_eq_true, if_false] at K0
      generalize zeroF = M at K0
      clear hN hR hSB hSW hS hC hW hB sure hb
      go_enter Try.func5, Try.ntmps5
      go_upto_region 1 with fail
      obtain ⟨W0, hW0, HX0, He⟩ : ∃ W0, W0 = w.alloc (.cells (bnkC F) 25) ∧ Hid (∀ W, Ext W0 W → W.heap[w.heap.size]? = some (.cells (bnkC F) 25 (0, 0))) ∧ Hid (Ext w W0) := ⟨_, rfl, Lib.hid (fun W hx => hx.block (heap_alloc_new w _)), Lib.hid (Ext.alloc w _)⟩
      rw [← hW0]
      clear hW0
      have gA := HX0.out W0 (Ext.refl _)
      go_wp2_with (first
        | (refine wpList_load_row rfl 25 (.tmp 2) rfl (w.heap.size) rfl 25 _ (0, 0) _ gA Try.underlying25 rfl (by kernel_rfl) ?_))
      refine (K0.out _).mono ?_; rintro e w1 ⟨V, rfl, f1, x1, fr1⟩
      have ho1 : FilOff (fun i => i = w1.heap.size) V M := f1.off (w := w1) (fun i hi => by omega) (Nat.le_refl _)
      obtain ⟨W1, hW1, y1, b1⟩ : ∃ W, W = ((w1.alloc (.cells #[.int .i64 0, .int .i64 0, .int .i64 0, .int .i64 0, .int .i64 0, .int .i64 0, .int .i64 0, .int .i64 0, .int .i64 0, .int .i64 0, .slice none 0 0, .slice none 0 0, .slice none 0 0, .slice none 0 0] 31)).setRow w1.heap.size (filC V M)) ∧ Ext w1 W ∧ W.heap[w1.heap.size]? = some (.cells (filC V M) 31 (0, 0)) := ⟨_, rfl, boxed_row _ _ _ _⟩
      have f1 := f1.ext y1
      have hsz1 : W0.heap.size ≤ w1.heap.size := x1.size
      have x1 := x1.trans y1
      clear y1 gA
      go_wp2_with (first
        | (refine wpList_store_row rfl 31 (.tmp 5) (.tmp 25) rfl _ _ rfl rfl 31 _ (heap_new_at _ _ (by first | rfl | simp)) (by kernel_rfl) rfl (by simp [filC, Value.oneCell']) ?_))
      refine (HS.out _).mono ?_; rintro e w9 ⟨rfl, y9⟩
      go_wp2
      go_ret
      exact ⟨rfl, He.out.trans (x1.trans (by rw [hW1]; exact y9))⟩
    | true =>
      simp only [hb, if_true] at K0
      have hsm := small_new hb
      generalize newF F = M at K0 hsm
      have KF := Lib.hid (fun V w' => rfew14_any V M w' (Nat.le_trans hsm.s1 (by decide)) (Nat.le_trans hsm.s2 (by decide)) (Nat.le_trans hsm.s3 (by decide)) (Nat.le_trans hsm.s4 (by decide)))
      by_cases h1 : M.nC + M.nI + M.nH + M.nR ≤ 4000
      · rw [decide_eq_true h1] at KF
        clear hb h1
        go_enter Try.func5, Try.ntmps5
        go_upto_region 1 with fail
        obtain ⟨W0, hW0, HX0, He⟩ : ∃ W0, W0 = w.alloc (.cells (bnkC F) 25) ∧ Hid (∀ W, Ext W0 W → W.heap[w.heap.size]? = some (.cells (bnkC F) 25 (0, 0))) ∧ Hid (Ext w W0) := ⟨_, rfl, Lib.hid (fun W hx => hx.block (heap_alloc_new w _)), Lib.hid (Ext.alloc w _)⟩
        rw [← hW0]
        clear hW0
        have gA := HX0.out W0 (Ext.refl _)
        go_wp2_with (first
          | (refine wpList_load_row rfl 25 (.tmp 2) rfl (w.heap.size) rfl 25 _ (0, 0) _ gA Try.underlying25 rfl (by kernel_rfl) ?_))
        refine (K0.out _).mono ?_; rintro e w1 ⟨V, rfl, f1, x1, fr1⟩
        have ho1 : FilOff (fun i => i = w1.heap.size) V M := f1.off (w := w1) (fun i hi => by omega) (Nat.le_refl _)
        obtain ⟨W1, hW1, y1, b1⟩ : ∃ W, W = ((w1.alloc (.cells #[.int .i64 0, .int .i64 0, .int .i64 0, .int .i64 0, .int .i64 0, .int .i64 0, .int .i64 0, .int .i64 0, .int .i64 0, .int .i64 0, .slice none 0 0, .slice none 0 0, .slice none 0 0, .slice none 0 0] 31)).setRow w1.heap.size (filC V M)) ∧ Ext w1 W ∧ W.heap[w1.heap.size]? = some (.cells (filC V M) 31 (0, 0)) := ⟨_, rfl, boxed_row _ _ _ _⟩
        have f1 := f1.ext y1
        have hsz1 : W0.heap.size ≤ w1.heap.size := x1.size
        have x1 := x1.trans y1
        clear y1 gA
        go_wp2_with (first
          | (refine wpList_store_row rfl 31 (.tmp 5) (.tmp 25) rfl _ _ rfl rfl 31 _ (heap_new_at _ _ (by first | rfl | simp)) (by kernel_rfl) rfl (by simp [filC, Value.oneCell']) ?_)
          | (refine wpList_load_row_g (by rfl) 31 (.tmp 5) rfl (w1.heap.size) rfl 31 _ (0, 0) _ (by rw [← hW1]; exact b1) Try.underlying31 rfl (by kernel_rfl) ?_))
        refine (KF.out V _).mono ?_; rintro e w3 ⟨rfl, x3⟩
        rw [← hW1] at x3
        go_upto_region 7 with fail
        have S0 : KeepS w w3 w1.heap.size V M := ⟨He.out.trans (x1.trans x3), Nat.le_trans He.out.size hsz1, x3.block b1, f1.ext x3, ho1, hsm⟩
        have hlw : w.heap.size ≤ w1.heap.size := Nat.le_trans He.out.size hsz1
        clear x1 f1 b1 hW1 x3 K0 KF HX0 fr1 hsz1 ho1
        generalize w1.heap.size = g at S0 ⊢
        go_loopw [7] (fun iv wr => ∃ (k : Nat) (V : FilV) (M : Fil), k ≤ n ∧ iv = .int .i64 k ∧ KeepS w wr g V M) (fun iv _ => n - (intOf iv).toNat)
        case atStart => exact ⟨0, V, M, by omega, rfl, S0⟩
        case round =>
          clear S0
          obtain ⟨k, V, M, hk, rfl, S⟩ := hrel
          by_cases hlt : k < n
          · obtain ⟨z, hzk⟩ : ∃ z, L[k]? = some z := ⟨_, List.getElem?_eq_getElem (by rw [HLen.out]; exact hlt)⟩
            obtain ⟨X, o⟩ := z
            obtain ⟨hoA, hoW, hnb, hnr⟩ := HZ.out _ (List.mem_of_getElem? hzk)
            have hnb : o.nb ≤ 1000000000000000 := hnb
            have hnr : o.nr ≤ 1000000000000000 := hnr
            obtain ⟨b, off, rfl, hbl, hc⟩ := HA.out.resolve_left (by intro h; rw [h] at hzk; simp at hzk)
            have q0 : wr.cell? ⟨b, off + k * 6, none⟩ = some (.int .i64 o.k) := S.x.cell hbl (hc k _ hzk 0 _ rfl)
            have q1 : wr.cell? ⟨b, off + k * 6 + 1, none⟩ = some (.int .i64 o.x) := S.x.cell hbl (hc k _ hzk 1 _ rfl)
            have q2 : wr.cell? ⟨b, off + k * 6 + 2, none⟩ = some (.int .i64 o.c) := S.x.cell hbl (hc k _ hzk 2 _ rfl)
            have q3 : wr.cell? ⟨b, off + k * 6 + 3, none⟩ = some (.int .i64 o.v) := S.x.cell hbl (hc k _ hzk 3 _ rfl)
            have q4 : wr.cell? ⟨b, off + k * 6 + 4, none⟩ = some (.slice X.a1 o.nb X.d1) := S.x.cell hbl (hc k _ hzk 4 _ rfl)
            have q5 : wr.cell? ⟨b, off + k * 6 + 5, none⟩ = some (.slice X.a2 o.nr X.d2) := S.x.cell hbl (hc k _ hzk 5 _ rfl)
            have hkI : (k : Int) < (n : Int) := by omega
            have hnbI : (o.nb : Int) ≤ 1000000000000000 := by omega
            have hnrI : (o.nr : Int) ≤ 1000000000000000 := by omega
            have hoA := hoA.ext S.x
            obtain ⟨W8, hW8, HY⟩ : ∃ W8, W8 = wr.alloc (.cells #[.int .i64 o.k, .int .i64 o.x, .int .i64 o.c, .int .i64 o.v, .slice X.a1 o.nb X.d1, .slice X.a2 o.nr X.d2] 40) ∧ Hid (∀ W, Ext W8 W → KeepS w W g V M ∧ W.heap[wr.heap.size]? = some (.cells (opeC X o) 40 (0, 0)) ∧ OpeAt W X o) :=
              ⟨_, rfl, Lib.hid fun W hx => ⟨S.ext ((Ext.alloc wr _).trans hx), hx.block (heap_alloc_new wr _), hoA.ext ((Ext.alloc wr _).trans hx)⟩⟩
            have HC : Hid (∀ W, Ext W8 W → W.cell? ⟨wr.heap.size, 1, none⟩ = some (.int .i64 o.x) ∧ W.cell? ⟨wr.heap.size, 4, none⟩ = some (.slice X.a1 o.nb X.d1) ∧ W.cell? ⟨wr.heap.size, 5, none⟩ = some (.slice X.a2 o.nr X.d2)) := Lib.hid fun W hx => ⟨cell_of_heap (HY.out W hx).2.1 rfl, cell_of_heap (HY.out W hx).2.1 rfl, cell_of_heap (HY.out W hx).2.1 rfl⟩
            have HF : Hid (∀ W, Ext W8 W → W.cell? ⟨g, 10, none⟩ = some (.slice V.a1 M.nC V.d1) ∧ W.cell? ⟨g, 11, none⟩ = some (.slice V.a2 M.nI V.d2) ∧ W.cell? ⟨g, 12, none⟩ = some (.slice V.a3 M.nH V.d3) ∧ W.cell? ⟨g, 13, none⟩ = some (.slice V.a4 M.nR V.d4)) := Lib.hid fun W hx => ⟨cell_of_heap (HY.out W hx).1.b rfl, cell_of_heap (HY.out W hx).1.b rfl, cell_of_heap (HY.out W hx).1.b rfl, cell_of_heap (HY.out W hx).1.b rfl⟩
            have hs := S.s
            have HO := Lib.hid S.o
            have HLT := Lib.hid hlt
            have HSX := Lib.hid S.x
            go_upto_region 10 with fail
            rw [← hW8]
            clear hW8 q0 q1 q2 q3 q4 q5 hkI hzk hc hbl S hoA hlt
            generalize wr.heap.size = g8 at HC
            have c4 := (HC.out _ (Ext.refl W8)).2.1
            have c5 := (HC.out _ (Ext.refl W8)).2.2
            have gF := (HY.out _ (Ext.refl W8)).1.b
            by_cases h3 : 300 < o.nb + o.nr
            · have h3' : (300 : Int) < (o.nb : Int) + (o.nr : Int) := by omega
              clear h3 gF
              go_wp2_with fail
              refine (HS.out _).mono ?_; rintro e w9 ⟨rfl, y9⟩
              go_wp2
              go_ret
              exact ⟨rfl, ((HY.out _ (Ext.refl W8)).1.x).trans y9⟩
            · have h3' : ¬ (300 : Int) < (o.nb : Int) + (o.nr : Int) := by omega
              have KB := Lib.hid (fun W (h : Ext W8 W) => hSB V M o.x X.a1 o.nb X.d1 o.B W (HY.out W h).1.f (HY.out W h).2.2.h1 (HY.out W h).2.2.l1 (HY.out W h).2.2.m1 (by omega) hoW.wx)
              have KW := Lib.hid (fun W (h : Ext W8 W) => hSW V M o.x X.a2 o.nr X.d2 o.R W (HY.out W h).1.f (HY.out W h).2.2.h2 (HY.out W h).2.2.l2 (HY.out W h).2.2.m2 (by omega) hoW.wx)
              have KC := Lib.hid (fun W (h : Ext W8 W) => hC V M W (HY.out W h).1.f hs)
              have KS := Lib.hid (fun W U (h : Ext W8 W) (hu : FilAt W U M) => hS V M U M W (HY.out W h).1.f hu hs hs)
              rw [sameF_self] at KS
              have KZ : Hid (∀ W U, FilAt W U zeroF → Calls Try.prog 10 #[.agg (filC U zeroF), (.agg #[.int .i64 0, .int .i64 0, .int .i64 0, .int .i64 0, .int .i64 0, .int .i64 0, .int .i64 0, .int .i64 0, .int .i64 0, .int .i64 0, .slice none 0 0, .slice none 0 0, .slice none 0 0, .slice none 0 0])] W fun e w' => e = .returned (.bool true) ∧ Ext W w') := Lib.hid fun W U hu => rsame14_v (U := zeroV) (sameF_self zeroF) W hu (zero_at W) small_zero.all small_zero.all
              have hnb' : o.nb ≤ 300 := by omega
              have hnr' : o.nr ≤ 300 := by omega
              have wnb : (Lit.int .i64 (o.nb : Int)).wf = true := by simp [Lit.wf, IntKind.min, IntKind.max, IntKind.signed, IntKind.bits]; omega
              have wnr : (Lit.int .i64 (o.nr : Int)).wf = true := by simp [Lit.wf, IntKind.min, IntKind.max, IntKind.signed, IntKind.bits]; omega
              have HNB := Lib.hid hnb'
              have HNR := Lib.hid hnr'
              have HWNB := Lib.hid wnb
              have HWNR := Lib.hid wnr
              unfold FP at KB KW
              clear h3 hnb hnr hnb' hnr' wnb wnr
              go_wp2_with (first
                | (refine wpList_load_row rfl 31 (.tmp 5) rfl (g) rfl 31 _ (0, 0) _ gF Try.underlying31 rfl (by kernel_rfl) ?_))
              refine (KC.out _ (Ext.refl W8)).mono ?_; rintro e w12 ⟨U, rfl, fU, z, -⟩
              obtain ⟨W12, hW12, z', b12⟩ : ∃ W, W = ((w12.alloc (.cells #[.int .i64 0, .int .i64 0, .int .i64 0, .int .i64 0, .int .i64 0, .int .i64 0, .int .i64 0, .int .i64 0, .int .i64 0, .int .i64 0, .slice none 0 0, .slice none 0 0, .slice none 0 0, .slice none 0 0] 31)).setRow w12.heap.size (filC U M)) ∧ Ext w12 W ∧ W.heap[w12.heap.size]? = some (.cells (filC U M) 31 (0, 0)) := ⟨_, rfl, boxed_row _ _ _ _⟩
              have fU := fU.ext z'
              have xr := z.trans z'
              clear z z' c4 c5 gF h3' KC hnbI hnrI
              rw [hW12] at xr
              have c1 := (HC.out _ xr).1
              have c4 := (HC.out _ xr).2.1
              have gF := (HY.out _ xr).1.b
              go_wp2_with (first
                | (refine wpList_store_row rfl 31 (.tmp 9) (.tmp 55) rfl _ _ rfl rfl 31 _ (heap_new_at _ _ (by first | rfl | simp)) (by kernel_rfl) rfl (by simp [filC, Value.oneCell']) ?_)
                | (refine wpList_load_row rfl 31 (.tmp 5) rfl (g) rfl 31 _ (0, 0) _ gF Try.underlying31 rfl (by kernel_rfl) ?_))
              rw [← hW12] at xr ⊢
              clear hW12 c1 c4 gF
              generalize w12.heap.size = g9 at b12 ⊢
              refine (KB.out _ xr).mono ?_; rintro e w13 ⟨VX, rfl, fX, z, frX⟩
              obtain ⟨W13, hW13, z', b13⟩ : ∃ W, W = ((w13.alloc (.cells #[.int .i64 0, .int .i64 0, .int .i64 0, .int .i64 0, .int .i64 0, .int .i64 0, .int .i64 0, .int .i64 0, .int .i64 0, .int .i64 0, .slice none 0 0, .slice none 0 0, .slice none 0 0, .slice none 0 0] 31)).setRow w13.heap.size (filC VX (sbF M o.x o.nb o.B))) ∧ Ext w13 W ∧ W.heap[w13.heap.size]? = some (.cells (filC VX (sbF M o.x o.nb o.B)) 31 (0, 0)) := ⟨_, rfl, boxed_row _ _ _ _⟩
              have fX := fX.ext z'
              have z := z.trans z'
              have xr := xr.trans z
              have fU := fU.ext z
              have b12 := z.block b12
              clear z z' KB frX
              rw [hW13] at xr b12
              go_upto_if 66 with (first
                | (refine wpList_store_row rfl 31 (.tmp 10) (.tmp 63) rfl _ _ rfl rfl 31 _ (heap_new_at _ _ (by first | rfl | simp)) (by kernel_rfl) rfl (by simp [filC, Value.oneCell']) ?_))
              rw [← hW13] at xr b12 ⊢
              clear hW13
              generalize w13.heap.size = g10 at b13 ⊢
              obtain ⟨E1, hE1⟩ : ∃ E, sbE M o.x o.nb = E := ⟨_, rfl⟩
              rw [hE1]
              have HE1 := Lib.hid hE1
              clear hE1
              go_cut [12, 13] from 35 to 165 (fun _a _b wx => Ext W13 wx)
              case first => as_aux_lemma =>
                by_cases e0 : E1 = 0
                · have e1 := HE1.out.trans e0
                  have hb1 : (E1 == 0) = true := by simp [e0]
                  obtain ⟨r1, r2, r3⟩ := sb_reads (v := o.B) e1
                  have KR := Lib.hid (hB VX (sbF M o.x o.nb o.B) false o.x o.nb W13 fX hoW.wx HWNB.out)
                  rw [r1, r2] at KR
                  unfold SlP at KR
                  have hZ := sbF_yes (v := o.B) e1
                  have hr3 : ∀ i, i < o.nb → bitL (sbF M o.x o.nb o.B) false o.x i = o.B i := r3
                  rw [hZ] at b13 fX KR hr3
                  generalize wrF M.C o.B M.cf o.x o.nb = CC at b13 fX KR hr3 ⊢
                  have HR3 := Lib.hid hr3
                  have HB13 : Hid (∀ W, Ext W13 W → W.cell? ⟨g10, 11, none⟩ = some (.slice VX.a2 M.nI VX.d2) ∧ W.cell? ⟨g10, 12, none⟩ = some (.slice VX.a3 M.nH VX.d3)) := Lib.hid fun W h => ⟨cell_of_heap (h.block b13) rfl, cell_of_heap (h.block b13) rfl⟩
                  have KH := Lib.hid (fun W (h : Ext W13 W) => words_self VX.a3 V.a3 M.nH VX.d3 V.d3 M.H M.H W (fX.h3.ext h) ((HY.out W (xr.trans h)).1.f.h3) hs.s3 (fun _ _ => rfl))
                  have KI := Lib.hid (fun W (h : Ext W13 W) => same_self VX.a2 V.a2 M.nI VX.d2 V.d2 M.I M.I W (fX.h2.ext h) ((HY.out W (xr.trans h)).1.f.h2) hs.s2 (fun _ _ => rfl))
                  clear e1 e0 r1 r2 r3 hr3 hZ
                  have c1 := (HC.out _ xr).1
                  have c4 := (HC.out _ xr).2.1
                  go_wp2_with (first
                    | (refine wpList_load_row rfl 31 (.tmp 10) rfl (g10) rfl 31 _ (0, 0) _ b13 Try.underlying31 rfl (by kernel_rfl) ?_))
                  refine KR.out.mono ?_; rintro e w15 ⟨mb, mq, rfl, -, -, hm, x15, -⟩
                  have KM := Lib.hid (same_self mb X.a1 o.nb mq X.d1 _ o.B w15 hm ((HY.out _ (xr.trans x15)).2.2.h1) (Nat.le_trans HNB.out (by decide)) (fun i hi => HR3.out i hi))
                  clear c1 c4 hm HR3 KR b13 fX
                  have c4 := (HC.out _ (xr.trans x15)).2.1
                  go_wp2_with fail
                  refine KM.out.mono ?_; rintro e w16 ⟨rfl, z⟩
                  have x16 := x15.trans z
                  clear c4 x15 z KM
                  have t3 := (HF.out _ (xr.trans x16)).2.2.1
                  obtain ⟨-, u3⟩ := HB13.out _ x16
                  go_wp2_with fail
                  refine (KH.out _ x16).mono ?_; rintro e w17 ⟨rfl, z⟩
                  have x17 := x16.trans z
                  clear t3 u3 x16 z
                  have t2 := (HF.out _ (xr.trans x17)).2.1
                  obtain ⟨u2, -⟩ := HB13.out _ x17
                  go_wp2_with fail
                  refine (KI.out _ x17).mono ?_; rintro e w18 ⟨rfl, z⟩
                  have x18 := x17.trans z
                  clear t2 u2 x17 z
                  go_wp2_with fail
                  go_meet
                  exact x18
                · have hb1 : (E1 == 0) = false := by simp [e0]
                  have hZ := sbF_no (x := o.x) (m := o.nb) (v := o.B) (F := M) HE1.out e0
                  rw [hZ] at b13 fX
                  clear hZ e0
                  go_wp2_with (first
                    | (refine wpList_load_row rfl 31 (.tmp 10) rfl (g10) rfl 31 _ (0, 0) _ b13 Try.underlying31 rfl (by kernel_rfl) ?_))
                  refine (KZ.out _ _ fX).mono ?_; rintro e w15 ⟨rfl, x15⟩
                  go_wp2_with fail
                  go_meet
                  exact x15
              case rest =>
                have xr := xr.trans hcut
                have fU := fU.ext hcut
                have b12 := hcut.block b12
                clear hcut b13 fX HNB HWNB
                have c1 := (HC.out _ xr).1
                have c5 := (HC.out _ xr).2.2
                have gF := (HY.out _ xr).1.b
                go_wp2_with (first
                  | (refine wpList_load_row rfl 31 (.tmp 5) rfl (g) rfl 31 _ (0, 0) _ gF Try.underlying31 rfl (by kernel_rfl) ?_))
                refine (KW.out _ xr).mono ?_; rintro e w20 ⟨VY, rfl, fY, z, frY⟩
                have HOY := Lib.hid (frY.off HO.out (fun i hi => by rw [hi]; exact heap_lt gF))
                obtain ⟨W20, hW20, z', b20⟩ : ∃ W, W = ((w20.alloc (.cells #[.int .i64 0, .int .i64 0, .int .i64 0, .int .i64 0, .int .i64 0, .int .i64 0, .int .i64 0, .int .i64 0, .int .i64 0, .int .i64 0, .slice none 0 0, .slice none 0 0, .slice none 0 0, .slice none 0 0] 31)).setRow w20.heap.size (filC VY (swF M o.x o.nr o.R))) ∧ Ext w20 W ∧ W.heap[w20.heap.size]? = some (.cells (filC VY (swF M o.x o.nr o.R)) 31 (0, 0)) := ⟨_, rfl, boxed_row _ _ _ _⟩
                have fY := fY.ext z'
                have z := z.trans z'
                have xr := xr.trans z
                have fU := fU.ext z
                have b12 := z.block b12
                clear z z' KW c1 c5 gF frY
                rw [hW20] at xr b12
                have gF := (HY.out _ xr).1.b
                go_wp2_with (first
                  | (refine wpList_store_row rfl 31 (.tmp 14) (.tmp 113) rfl _ _ rfl rfl 31 _ (heap_new_at _ _ (by first | rfl | simp)) (by kernel_rfl) rfl (by simp [filC, Value.oneCell']) ?_)
                  | (refine wpList_load_row rfl 31 (.tmp 5) rfl (g) rfl 31 _ (0, 0) _ gF Try.underlying31 rfl (by kernel_rfl) ?_)
                  | (refine wpList_load_row rfl 31 (.tmp 9) rfl (g9) rfl 31 _ (0, 0) _ b12 Try.underlying31 rfl (by kernel_rfl) ?_))
                rw [← hW20] at xr b12 ⊢
                clear hW20 gF
                generalize w20.heap.size = g14 at b20 ⊢
                refine (KS.out _ U xr fU).mono ?_; rintro e w21 ⟨rfl, z⟩
                have xr := xr.trans z
                have b20 := z.block b20
                have fY := fY.ext z
                clear z b12 fU KS
                by_cases e2 : swE M o.x o.nr = 0
                · obtain ⟨r1, r2, r3⟩ := sw_reads (v := o.R) e2
                  have hRt := right_sw (v := o.R) e2
                  have KR := Lib.hid (hW VY (swF M o.x o.nr o.R) false o.x o.nr w21 fY hoW.wx HWNR.out)
                  rw [r1, r2] at KR
                  unfold SlP at KR
                  have KQ := Lib.hid (fun W (h : Ext w21 W) => hR VY (swF M o.x o.nr o.R) W (fY.ext h))
                  rw [hRt] at KQ
                  have hsY := small_sw hs o.x o.nr o.R
                  have hZ := swF_yes (v := o.R) e2
                  have hr3 : ∀ i, i < o.nr → wrdL (swF M o.x o.nr o.R) false o.x i = o.R i := r3
                  rw [e2]
                  rw [hZ] at b20 fY KR hr3 KQ hsY HOY
                  generalize wrF M.H o.R M.hf o.x o.nr = HH at b20 fY KR hr3 KQ hsY HOY ⊢
                  have HR3 := Lib.hid hr3
                  have HB20 : Hid (∀ W, Ext w21 W → W.cell? ⟨g14, 10, none⟩ = some (.slice VY.a1 M.nC VY.d1) ∧ W.cell? ⟨g14, 13, none⟩ = some (.slice VY.a4 M.nR VY.d4)) := Lib.hid fun W h => ⟨cell_of_heap (h.block b20) rfl, cell_of_heap (h.block b20) rfl⟩
                  have KH := Lib.hid (fun W (h : Ext w21 W) => words_self VY.a4 V.a4 M.nR VY.d4 V.d4 M.R M.R W (fY.h4.ext h) ((HY.out W (xr.trans h)).1.f.h4) hs.s4 (fun _ _ => rfl))
                  have KI := Lib.hid (fun W (h : Ext w21 W) => same_self VY.a1 V.a1 M.nC VY.d1 V.d1 M.C M.C W (fY.h1.ext h) ((HY.out W (xr.trans h)).1.f.h1) hs.s1 (fun _ _ => rfl))
                  clear e2 r1 r2 r3 hr3 hZ hRt
                  have c1 := (HC.out _ xr).1
                  have c5 := (HC.out _ xr).2.2
                  go_wp2_with (first
                    | (refine wpList_load_row rfl 31 (.tmp 14) rfl (g14) rfl 31 _ (0, 0) _ b20 Try.underlying31 rfl (by kernel_rfl) ?_))
                  refine KR.out.mono ?_; rintro e w22 ⟨mb, mq, rfl, -, -, hm, x22, -⟩
                  have KM := Lib.hid (words_self mb X.a2 o.nr mq X.d2 _ o.R w22 hm ((HY.out _ (xr.trans x22)).2.2.h2) (Nat.le_trans HNR.out (by decide)) (fun i hi => HR3.out i hi))
                  clear c1 c5 hm HR3 KR
                  have c5 := (HC.out _ (xr.trans x22)).2.2
                  go_wp2_with fail
                  refine KM.out.mono ?_; rintro e w23 ⟨rfl, z⟩
                  have x23 := x22.trans z
                  clear c5 x22 z KM
                  have t1 := (HF.out _ (xr.trans x23)).1
                  obtain ⟨u1, -⟩ := HB20.out _ x23
                  go_wp2_with fail
                  refine (KI.out _ x23).mono ?_; rintro e w24 ⟨rfl, z⟩
                  have x24 := x23.trans z
                  clear t1 u1 x23 z
                  have t4 := (HF.out _ (xr.trans x24)).2.2.2
                  obtain ⟨-, u4⟩ := HB20.out _ x24
                  go_wp2_with fail
                  refine (KH.out _ x24).mono ?_; rintro e w25 ⟨rfl, z⟩
                  have x25 := x24.trans z
                  have b25 := x25.block b20
                  clear t4 u4 x24 z
                  go_wp2_with (first
                    | (refine wpList_load_row_g (by rfl) 31 (.tmp 14) rfl (g14) rfl 31 _ (0, 0) _ b25 Try.underlying31 rfl (by kernel_rfl) ?_))
                  refine (KQ.out _ x25).mono ?_; rintro e w26 ⟨rfl, z⟩
                  have x26 := x25.trans z
                  have b26 := x26.block b20
                  clear b25 x25 z
                  have gF := (HY.out _ (xr.trans x26)).1.b
                  have hend := (HY.out _ (xr.trans x26)).1.set (fY.ext x26) HOY.out hsY
                  clear hsY
                  go_wp2_with (first
                    | (refine wpList_load_row rfl 31 (.tmp 14) rfl (g14) rfl 31 _ (0, 0) _ b26 Try.underlying31 rfl (by kernel_rfl) ?_)
                    | (refine wpList_store_row rfl 31 (.tmp 5) (.tmp 165) rfl (g) _ rfl rfl 31 _ gF (by kernel_rfl) rfl (by simp [filC, Value.oneCell']) ?_))
                  go_roundw
                  case rel => exact ⟨k + 1, VY, _, by have := HLT.out; omega, by go_num, hend⟩
                  case measure => have := HLT.out; simp [intOf]; omega
                · have hZ := swF_no (x := o.x) (m := o.nr) (v := o.R) (F := M) rfl e2
                  rw [hZ] at b20 fY
                  have E2 := Lib.hid e2
                  clear hZ HOY
                  go_wp2_with (first
                    | (refine wpList_load_row rfl 31 (.tmp 14) rfl (g14) rfl 31 _ (0, 0) _ b20 Try.underlying31 rfl (by kernel_rfl) ?_))
                  refine (KZ.out _ _ fY).mono ?_; rintro e w22 ⟨rfl, x22⟩
                  have hend := (HY.out _ (xr.trans x22)).1
                  go_wp2_with fail
                  go_roundw
                  case rel => exact ⟨k + 1, V, M, by have := HLT.out; omega, by go_num, hend⟩
                  case measure => have := HLT.out; simp [intOf]; omega
          · have hge : ¬ (k : Int) < (n : Int) := by omega
            have HSX := Lib.hid S.x
            clear S hlt
            go_wp2_with fail
            refine (HS.out _).mono ?_; rintro e w9 ⟨rfl, y9⟩
            go_wp2
            go_ret
            exact ⟨rfl, HSX.out.trans y9⟩
      · rw [decide_eq_false h1] at KF
        clear hN hR hSB hSW hS hC hW hB sure hb h1 hsm
        go_enter Try.func5, Try.ntmps5
        go_upto_region 1 with fail
        obtain ⟨W0, hW0, HX0, He⟩ : ∃ W0, W0 = w.alloc (.cells (bnkC F) 25) ∧ Hid (∀ W, Ext W0 W → W.heap[w.heap.size]? = some (.cells (bnkC F) 25 (0, 0))) ∧ Hid (Ext w W0) := ⟨_, rfl, Lib.hid (fun W hx => hx.block (heap_alloc_new w _)), Lib.hid (Ext.alloc w _)⟩
        rw [← hW0]
        clear hW0
        have gA := HX0.out W0 (Ext.refl _)
        go_wp2_with (first
          | (refine wpList_load_row rfl 25 (.tmp 2) rfl (w.heap.size) rfl 25 _ (0, 0) _ gA Try.underlying25 rfl (by kernel_rfl) ?_))
        refine (K0.out _).mono ?_; rintro e w1 ⟨V, rfl, f1, x1, fr1⟩
        have ho1 : FilOff (fun i => i = w1.heap.size) V M := f1.off (w := w1) (fun i hi => by omega) (Nat.le_refl _)
        obtain ⟨W1, hW1, y1, b1⟩ : ∃ W, W = ((w1.alloc (.cells #[.int .i64 0, .int .i64 0, .int .i64 0, .int .i64 0, .int .i64 0, .int .i64 0, .int .i64 0, .int .i64 0, .int .i64 0, .int .i64 0, .slice none 0 0, .slice none 0 0, .slice none 0 0, .slice none 0 0] 31)).setRow w1.heap.size (filC V M)) ∧ Ext w1 W ∧ W.heap[w1.heap.size]? = some (.cells (filC V M) 31 (0, 0)) := ⟨_, rfl, boxed_row _ _ _ _⟩
        have f1 := f1.ext y1
        have hsz1 : W0.heap.size ≤ w1.heap.size := x1.size
        have x1 := x1.trans y1
        clear y1 gA
        go_wp2_with (first
          | (refine wpList_store_row rfl 31 (.tmp 5) (.tmp 25) rfl _ _ rfl rfl 31 _ (heap_new_at _ _ (by first | rfl | simp)) (by kernel_rfl) rfl (by simp [filC, Value.oneCell']) ?_)
          | (refine wpList_load_row_g (by rfl) 31 (.tmp 5) rfl (w1.heap.size) rfl 31 _ (0, 0) _ (by rw [← hW1]; exact b1) Try.underlying31 rfl (by kernel_rfl) ?_))
        refine (KF.out V _).mono ?_; rintro e w3 ⟨rfl, x3⟩
        rw [← hW1] at x3
        go_wp2_with fail
        refine (HS.out _).mono ?_; rintro e w9 ⟨rfl, y9⟩
        go_wp2
        go_ret
        exact ⟨rfl, He.out.trans (x1.trans (x3.trans y9))⟩
end Go.Proofs.Ytkfpnijacfeogaa
