/-
  THE LAWS OF LAYER 14: the walk of FileDoes (package file's contracts and 'sure' as premises).
-/
import Derived.Test.YtkfpnijacfeogaaLaw14P
import Derived.Test.YtkfpnijacfeogaaLaw14K
import Derived.Test.YtkfpnijacfeogaaFilM
import Derived.Test.YtkfpnijacfeogaaOp14
import Derived.Test.YtkfpnijacfeogaaCells
import Derived.BigQuiet
import Derived.Deep.DeepCutAuto
import Derived.Deep.LoopGhost
namespace Go.Proofs.Ytkfpnijacfeogaa
open Go.RowKit
set_option linter.unusedVariables false

theorem w_inc {q : Int} (h0 : 0 ≤ q) (h1 : q < 2) : wrap64 (q + 1) = q + 1 := by
  rw [← IntWalk.i64_left, IntWalk.i64_in _ (by omega)]
theorem rd_small {f c n x k : Int} (h : rdE f c n x k = 0) : k ≤ 65536 := by
  rcases rdE_ways f c n x k with ⟨h1, _⟩ | ⟨h1, _⟩ | ⟨_, hr, _, hk, hh⟩
  · rw [h1] at h; cases h
  · rw [h1] at h; cases h
  · have := (holdB_iff f c x k).1 hh
    have := (rgtB_iff f c).1 hr
    omega
theorem bit_small (F : Fil) (i : Bool) (x k : Int) : bitN F i x k ≤ 1000000 := by
  unfold bitN
  split
  · rename_i h
    unfold bitE at h
    split at h
    · split at h
      · have := rd_small h; omega
      · have := rd_small h; omega
    · cases h
  · exact Nat.zero_le _
theorem brk_zero {F : Fil} {e x k : Int} (h : brkE F e x k = 0) : e = 0 := by
  unfold brkE at h
  split at h
  · cases h
  · exact h
theorem wrd_small (F : Fil) (i : Bool) (x k : Int) : wrdN F i x k ≤ 1000000 := by
  unfold wrdN
  split
  · rename_i h
    unfold wrdE at h
    split at h
    · split at h
      · have := rd_small h; omega
      · have := rd_small (brk_zero h); omega
    · cases h
  · exact Nat.zero_le _
set_option maxRecDepth 100000 in
set_option maxHeartbeats 16000000 in
theorem fileDoes.walk0 (F : Fil) (a : Option Addr) (n cap : Nat) (L : List (OpeV × Ope)) (w : World) (hLen : L.length = n) (ha : HoldsL 6 opeL w a L) (hnc : n ≤ cap) (hn : n ≤ 1000000000000000) (hz : ∀ z ∈ L, OpeAt w z.1 z.2 ∧ OpeW z.2 ∧ z.2.nb ≤ 1000000000000000 ∧ z.2.nr ≤ 1000000000000000)
    (hN : FNewC 8) (hR : FRightC 14) (hSB : FSetBitsC 26) (hSW : FSetWordsC 21) (hSe : FSenseC 22) (hC : FCopyC 25) (hW : FWordsC 17) (hB : FBitsC 15)
    (sure : ∀ w, Calls Try.prog 7 #[] w fun e w' => e = .returned (.bool true) ∧ Ext w w') :
    Calls Try.prog 3 #[.agg (bnkC F), .slice a n cap] w fun e w' => e = .returned (.bool true) ∧ Ext w w' := by
  have HS := Lib.hid sure
  have K0 := Lib.hid (fun w' => hN F w')
  unfold FP at K0
  have hnI : (n : Int) ≤ 1000000000000000 := by omega
  have HZ := Lib.hid hz
  have HLen := Lib.hid hLen
  have HA := Lib.hid ha
  clear ha hLen hz hn hnc
  by_cases h60 : 60 < n
  · have h60' : (60 : Int) < (n : Int) := by omega
    clear hN hR hSB hSW hSe hC hW hB sure h60 K0
    go_enter Try.func3, Try.ntmps3
    go_upto_region 1 with fail
    obtain ⟨W0, hW0, HX0, He⟩ : ∃ W0, W0 = w.alloc (.cells (bnkC F) 25) ∧ Hid (∀ W, Ext W0 W → W.heap[w.heap.size]? = some (.cells (bnkC F) 25 (0, 0))) ∧ Hid (Ext w W0) := ⟨_, rfl, Lib.hid (fun W hx => hx.block (heap_alloc_new w _)), Lib.hid (Ext.alloc w _)⟩
    rw [← hW0]
    clear hW0
    have gA := HX0.out W0 (Ext.refl _)
    go_wp2_with fail
    refine (HS.out _).mono ?_; rintro e w9 ⟨rfl, y9⟩
    go_wp2
    go_ret
    exact ⟨rfl, He.out.trans y9⟩
  · have h60' : ¬ (60 : Int) < (n : Int) := by omega
    have hn60 : n ≤ 60 := by omega
    clear h60
    cases hb : bankB F with
    | false =>
      have KBk := Lib.hid (fun w' => rbank_v hb w')
      simp only [hb, Bool.false_eq_true, if_false] at K0
      obtain ⟨M, hM⟩ : ∃ M, M = zeroF := ⟨_, rfl⟩
      rw [← hM] at K0
      have KZ : Hid (∀ W U, FilAt W U M → Calls Try.prog 10 #[.agg (filC U M), (.agg #[.int .i64 0, .int .i64 0, .int .i64 0, .int .i64 0, .int .i64 0, .int .i64 0, .int .i64 0, .int .i64 0, .int .i64 0, .int .i64 0, .slice none 0 0, .slice none 0 0, .slice none 0 0, .slice none 0 0])] W fun e w' => e = .returned (.bool true) ∧ Ext W w') := Lib.hid fun W U hu => by subst hM; exact rsame14_v (U := zeroV) (sameF_self zeroF) W hu (zero_at W) small_zero.all small_zero.all
      clear hN hR hSB hSW hSe hC hW hB sure hb hM
      go_enter Try.func3, Try.ntmps3
      go_upto_region 1 with fail
      obtain ⟨W0, hW0, HX0, He⟩ : ∃ W0, W0 = w.alloc (.cells (bnkC F) 25) ∧ Hid (∀ W, Ext W0 W → W.heap[w.heap.size]? = some (.cells (bnkC F) 25 (0, 0))) ∧ Hid (Ext w W0) := ⟨_, rfl, Lib.hid (fun W hx => hx.block (heap_alloc_new w _)), Lib.hid (Ext.alloc w _)⟩
      rw [← hW0]
      clear hW0
      have gA := HX0.out W0 (Ext.refl _)
      go_wp2_with (first
        | (refine wpList_load_row rfl 25 (.tmp 2) rfl (w.heap.size) rfl 25 _ (0, 0) _ gA Try.underlying25 rfl (by kernel_rfl) ?_))
      refine (K0.out _).mono ?_; rintro e w1 ⟨V, rfl, f1, x1, -⟩
      obtain ⟨W1, hW1, y1, b1⟩ : ∃ W, W = ((w1.alloc (.cells #[.int .i64 0, .int .i64 0, .int .i64 0, .int .i64 0, .int .i64 0, .int .i64 0, .int .i64 0, .int .i64 0, .int .i64 0, .int .i64 0, .slice none 0 0, .slice none 0 0, .slice none 0 0, .slice none 0 0] 31)).setRow w1.heap.size (filC V M)) ∧ Ext w1 W ∧ W.heap[w1.heap.size]? = some (.cells (filC V M) 31 (0, 0)) := ⟨_, rfl, boxed_row _ _ _ _⟩
      have f1 := f1.ext y1
      have x1 := x1.trans y1
      clear y1 gA
      rw [hW1] at x1
      have gA := HX0.out _ x1
      go_wp2_with (first
        | (refine wpList_store_row rfl 31 (.tmp 5) (.tmp 27) rfl _ _ rfl rfl 31 _ (heap_new_at _ _ (by first | rfl | simp)) (by kernel_rfl) rfl (by simp [filC, Value.oneCell']) ?_)
        | (refine wpList_load_row rfl 25 (.tmp 2) rfl (w.heap.size) rfl 25 _ (0, 0) _ gA Try.underlying25 rfl (by kernel_rfl) ?_))
      rw [← hW1] at x1 ⊢
      clear hW1 gA
      generalize w1.heap.size = g5 at b1 ⊢
      refine (KBk.out _).mono ?_; rintro e w2 ⟨rfl, x2⟩
      have b1 := x2.block b1
      have f1 := f1.ext x2
      have x2 := x1.trans x2
      clear x1
      go_wp2_with (first
        | (refine wpList_load_row_g (by rfl) 31 (.tmp 5) rfl (g5) rfl 31 _ (0, 0) _ b1 Try.underlying31 rfl (by kernel_rfl) ?_))
      refine (KZ.out _ _ f1).mono ?_; rintro e w3 ⟨rfl, x3⟩
      go_wp2_with fail
      refine (HS.out _).mono ?_; rintro e w9 ⟨rfl, y9⟩
      go_wp2
      go_ret
      exact ⟨rfl, He.out.trans (x2.trans (x3.trans y9))⟩
    | true =>
      have KBk := Lib.hid (fun w' => rbank_v hb w')
      have KN := Lib.hid (fun w' => rnew14_any F w' hb)
      simp only [hb, if_true] at K0
      have hsm := small_new hb
      have hrt := right_new hb
      generalize newF F = M at K0 hsm KN hrt
      have KF := Lib.hid (fun V w' => rfew14_any V M w' (Nat.le_trans hsm.s1 (by decide)) (Nat.le_trans hsm.s2 (by decide)) (Nat.le_trans hsm.s3 (by decide)) (Nat.le_trans hsm.s4 (by decide)))
      have KSm := Lib.hid (fun V U w' (h : FilAt w' V M) (k : FilAt w' U M) => rsame14_v (sameF_self M) w' h k hsm.all hsm.all)
      by_cases h1 : M.nC + M.nI + M.nH + M.nR ≤ 4000
      · rw [decide_eq_true h1] at KF
        clear hb h1
        go_enter Try.func3, Try.ntmps3
        go_upto_region 1 with fail
        obtain ⟨W0, hW0, HX0, He⟩ : ∃ W0, W0 = w.alloc (.cells (bnkC F) 25) ∧ Hid (∀ W, Ext W0 W → W.heap[w.heap.size]? = some (.cells (bnkC F) 25 (0, 0))) ∧ Hid (Ext w W0) := ⟨_, rfl, Lib.hid (fun W hx => hx.block (heap_alloc_new w _)), Lib.hid (Ext.alloc w _)⟩
        rw [← hW0]
        clear hW0
        have gA := HX0.out W0 (Ext.refl _)
        go_wp2_with (first
          | (refine wpList_load_row rfl 25 (.tmp 2) rfl (w.heap.size) rfl 25 _ (0, 0) _ gA Try.underlying25 rfl (by kernel_rfl) ?_))
        refine (K0.out _).mono ?_; rintro e w1 ⟨V, rfl, f1, x1, -⟩
        obtain ⟨W1, hW1, y1, b1⟩ : ∃ W, W = ((w1.alloc (.cells #[.int .i64 0, .int .i64 0, .int .i64 0, .int .i64 0, .int .i64 0, .int .i64 0, .int .i64 0, .int .i64 0, .int .i64 0, .int .i64 0, .slice none 0 0, .slice none 0 0, .slice none 0 0, .slice none 0 0] 31)).setRow w1.heap.size (filC V M)) ∧ Ext w1 W ∧ W.heap[w1.heap.size]? = some (.cells (filC V M) 31 (0, 0)) := ⟨_, rfl, boxed_row _ _ _ _⟩
        have f1 := f1.ext y1
        have x1 := x1.trans y1
        clear y1 gA
        rw [hW1] at x1
        have gA := HX0.out _ x1
        go_wp2_with (first
          | (refine wpList_store_row rfl 31 (.tmp 5) (.tmp 27) rfl _ _ rfl rfl 31 _ (heap_new_at _ _ (by first | rfl | simp)) (by kernel_rfl) rfl (by simp [filC, Value.oneCell']) ?_)
          | (refine wpList_load_row rfl 25 (.tmp 2) rfl (w.heap.size) rfl 25 _ (0, 0) _ gA Try.underlying25 rfl (by kernel_rfl) ?_))
        rw [← hW1] at x1 ⊢
        clear hW1 gA
        generalize w1.heap.size = g5 at b1 ⊢
        refine (KBk.out _).mono ?_; rintro e w2 ⟨rfl, x2⟩
        have b1 := x2.block b1
        have f1 := f1.ext x2
        have x2 := x1.trans x2
        clear x1
        have gA := HX0.out _ x2
        go_wp2_with (first
          | (refine wpList_load_row rfl 25 (.tmp 2) rfl (w.heap.size) rfl 25 _ (0, 0) _ gA Try.underlying25 rfl (by kernel_rfl) ?_))
        refine (KN.out _).mono ?_; rintro e w6 ⟨VN, rfl, f6, x6, -⟩
        have ho6 : FilOff (fun i => i = w6.heap.size) VN M := f6.off (w := w6) (fun i hi => by omega) (Nat.le_refl _)
        obtain ⟨W6, hW6, y6, b6⟩ : ∃ W, W = ((w6.alloc (.cells #[.int .i64 0, .int .i64 0, .int .i64 0, .int .i64 0, .int .i64 0, .int .i64 0, .int .i64 0, .int .i64 0, .int .i64 0, .int .i64 0, .slice none 0 0, .slice none 0 0, .slice none 0 0, .slice none 0 0] 31)).setRow w6.heap.size (filC VN M)) ∧ Ext w6 W ∧ W.heap[w6.heap.size]? = some (.cells (filC VN M) 31 (0, 0)) := ⟨_, rfl, boxed_row _ _ _ _⟩
        have f6 := f6.ext y6
        have z6 := x6.trans y6
        have b1 := z6.block b1
        have f1 := f1.ext z6
        have hsz6 : w.heap.size ≤ w6.heap.size := Nat.le_trans (He.out.trans x2).size x6.size
        have x6 := x2.trans z6
        clear z6 y6 x2 gA
        have b6' := b6
        rw [hW6] at b6'
        go_wp2_with (first
          | (refine wpList_store_row rfl 31 (.tmp 7) (.tmp 43) rfl _ _ rfl rfl 31 _ (heap_new_at _ _ (by first | rfl | simp)) (by kernel_rfl) rfl (by simp [filC, Value.oneCell']) ?_)
          | (refine wpList_load_row rfl 31 (.tmp 7) rfl (w6.heap.size) rfl 31 _ (0, 0) _ b6' Try.underlying31 rfl (by kernel_rfl) ?_))
        rw [← hW6]
        clear hW6 b6'
        generalize w6.heap.size = g at b6 ho6 hsz6 ⊢
        refine (KF.out _ _).mono ?_; rintro e w7 ⟨rfl, x7⟩
        have b1 := x7.block b1
        have f1 := f1.ext x7
        have f6 := f6.ext x7
        have b6 := x7.block b6
        have x6 := x6.trans x7
        clear x7
        go_wp2_with (first
          | (refine wpList_load_row_g (by rfl) 31 (.tmp 5) rfl (g5) rfl 31 _ (0, 0) _ b1 Try.underlying31 rfl (by kernel_rfl) ?_)
          | (refine wpList_load_row_g (by rfl) 31 (.tmp 7) rfl (g) rfl 31 _ (0, 0) _ b6 Try.underlying31 rfl (by kernel_rfl) ?_))
        refine (KSm.out _ _ _ f1 f6).mono ?_; rintro e w8 ⟨rfl, x8⟩
        have S0 : KeepS w w8 g VN M := ⟨He.out.trans (x6.trans x8), hsz6, x8.block b6, f6.ext x8, ho6, hsm⟩
        clear x6 b6 f6 ho6 hsz6 x8 b1 f1 K0 KF KN KBk KSm HX0
        go_wp2_with fail
        go_loopg [8] n (fun h iv wr => ∃ (k : Nat) (V : FilV) (M : Fil), k + h = n ∧ iv = .int .i64 k ∧ KeepS w wr g V M ∧ rightB M = true)
        case atStart => exact ⟨0, VN, M, by omega, rfl, S0, hrt⟩
        case round =>
          clear S0 hrt
          obtain ⟨k, V, M, hkh, rfl, S, hR0⟩ := hrel
          cases gk with
          | succ h' =>
            have hlt : k < n := by omega
            obtain ⟨z, hzk⟩ : ∃ z, L[k]? = some z := ⟨_, List.getElem?_eq_getElem (by rw [HLen.out]; exact hlt)⟩
            obtain ⟨X, o⟩ := z
            obtain ⟨hoA, hoW, hnb, hnr⟩ := HZ.out _ (List.mem_of_getElem? hzk)
            have hnb : o.nb ≤ 1000000000000000 := hnb
            have hnr : o.nr ≤ 1000000000000000 := hnr
            obtain ⟨b, off, rfl, hbl, hc⟩ := HA.out.resolve_left (by intro h; rw [h] at hzk; simp at hzk)
            have HQ : Hid (∀ W, Ext w W → W.cell? ⟨b, off + k * 6, none⟩ = some (.int .i64 o.k) ∧ W.cell? ⟨b, off + k * 6 + 1, none⟩ = some (.int .i64 o.x) ∧ W.cell? ⟨b, off + k * 6 + 2, none⟩ = some (.int .i64 o.c) ∧ W.cell? ⟨b, off + k * 6 + 3, none⟩ = some (.int .i64 o.v) ∧ W.cell? ⟨b, off + k * 6 + 4, none⟩ = some (.slice X.a1 o.nb X.d1) ∧ W.cell? ⟨b, off + k * 6 + 5, none⟩ = some (.slice X.a2 o.nr X.d2)) := Lib.hid fun W x => ⟨x.cell hbl (hc k _ hzk 0 _ rfl), x.cell hbl (hc k _ hzk 1 _ rfl), x.cell hbl (hc k _ hzk 2 _ rfl), x.cell hbl (hc k _ hzk 3 _ rfl), x.cell hbl (hc k _ hzk 4 _ rfl), x.cell hbl (hc k _ hzk 5 _ rfl)⟩
            have hkI : (k : Int) < (n : Int) := by omega
            have hnbI : (o.nb : Int) ≤ 1000000000000000 := by omega
            have hnrI : (o.nr : Int) ≤ 1000000000000000 := by omega
            have HOA := Lib.hid (fun W (x : Ext w W) => hoA.ext x)
            clear hzk hbl hc hoA
            obtain ⟨-, -, -, -, e4, e5⟩ := HQ.out wr S.x
            have hs' := S.s
            have HS1 := Lib.hid S
            go_wp2_with fail
            go_quiet (fail)
            clear e4 e5
            by_cases h3 : 300 < o.nb + o.nr
            · have h3' : (300 : Int) < (o.nb : Int) + (o.nr : Int) := by omega
              clear h3
              go_wp2_with fail
              refine (HS.out _).mono ?_; rintro e w9 ⟨rfl, y9⟩
              go_wp2
              go_ret
              exact ⟨rfl, HS1.out.x.trans ((Ext.drewN wr _).trans y9)⟩
            · have h3' : ¬ (300 : Int) < (o.nb : Int) + (o.nr : Int) := by omega
              have hrM' := right_opF hR0 o
              have hsM' := small_opF hs' o
              have KO := Lib.hid (fun W (x : Ext wr W) => op14_any V M X o W (S.ext x).f (HOA.out W (S.x.trans x)) hoW hs' (by omega) (by omega) hSB hSW hSe hC)
              generalize opF M o = M' at KO hrM' hsM'
              have HoW := Lib.hid hoW
              have HRt := Lib.hid hrM'
              clear h3 hnb hnr hoW
              go_wp2_with fail
              clear h3' hnbI hnrI
              go_cut [9, 10] from 56 to 185 (fun v9 v10 wx => v10 = .bool true ∧ ∃ (G9 : Nat) (V' : FilV), v9 = .pointer (some ⟨G9, 0, none⟩) ∧ wx.heap[G9]? = some (.cells (filC V' M') 31 (0, 0)) ∧ FilAt wx V' M' ∧ Ext wr wx ∧ FilOff (fun i => i = g) V' M')
              case first => as_aux_lemma =>
                have hs : Ext wr (wr.drewN nq).drew := (Ext.drewN wr nq).trans (Ext.drew _)
                refine wp_region_held_drew (S := fun W => Ext wr W) (by kernel_rfl) hs (fun _ => ?_)
                obtain ⟨Wd, hWd⟩ : ∃ W, W = (wr.drewN nq).drew := ⟨_, rfl⟩
                rw [← hWd] at hs ⊢
                clear hWd
                have hx := hs
                refine wpAnyH_takeD (i := 0) (d := 78) rfl rfl (by kernel_rfl) (by kernel_rfl) (by kernel_rfl) (fun _ _ _ h => h) (yieldsIf_load_row (by rfl) 31 (.tmp 7) rfl (g) rfl 31 _ (0, 0) _ (fun w' hw' => (S.ext hw').b) Try.underlying31 rfl (by kernel_rfl)) hs ?_
                simp only [Act.put, List.setIfInBounds_toArray, List.set_cons_succ, List.set_cons_zero]
                refine wpAnyH_takeD (i := 1) (d := 79) (v := .slice (some ⟨b, off, none⟩) n cap) rfl rfl (by kernel_rfl) (by kernel_rfl) (by kernel_rfl) (fun _ _ _ h => h) (Or.inl ⟨by rfl, fun W hW => by go_simp⟩) hs ?_
                simp only [Act.put, List.setIfInBounds_toArray, List.set_cons_succ, List.set_cons_zero]
                refine wpAnyH_takeD (i := 2) (d := 80) (v := .int .i64 k) rfl rfl (by kernel_rfl) (by kernel_rfl) (by kernel_rfl) (fun _ _ _ h => h) (Or.inl ⟨by rfl, fun W hW => by go_simp⟩) hs ?_
                simp only [Act.put, List.setIfInBounds_toArray, List.set_cons_succ, List.set_cons_zero]
                refine wpAnyH_takeD (i := 3) (d := 81) (v := .pointer (some ⟨b, off + k * 6, none⟩)) rfl rfl (by kernel_rfl) (by kernel_rfl) (by kernel_rfl) (fun _ _ _ h => h) (Or.inl ⟨by rfl, fun W hW => by go_simp⟩) hs ?_
                simp only [Act.put, List.setIfInBounds_toArray, List.set_cons_succ, List.set_cons_zero]
                refine wpAnyH_takeD (i := 4) (d := 82) (v := .agg #[.int .i64 o.k, .int .i64 o.x, .int .i64 o.c, .int .i64 o.v, .slice X.a1 o.nb X.d1, .slice X.a2 o.nr X.d2]) rfl rfl (by kernel_rfl) (by kernel_rfl) (by kernel_rfl) (fun _ _ _ h => h) (Or.inl ⟨by rfl, fun W hW => by obtain ⟨q0, q1, q2, q3, q4, q5⟩ := HQ.out W (S.x.trans hW); go_simp⟩) hs ?_
                simp only [Act.put, List.setIfInBounds_toArray, List.set_cons_succ, List.set_cons_zero]
                refine wpAnyH_ready (rs := [5, 9]) (by kernel_rfl) (by simp) (AllReadyH.cons rfl (fun K hK => ?_) (AllReadyH.cons rfl (fun K hK => ?_) (AllReadyH.nil)))
                · go_simp
                  go_at_call 13
                  refine (KO.out _ hs).mono ?_; rintro e Wc ⟨V', rfl, f', y, fr⟩
                  have o' := fr.off S.o (fun i hi => by rw [hi]; exact heap_lt (S.ext hs).b)
                  go_wp2_with fail
                  refine hK.out _ _ (hs.trans y) (fun hs => ?_)
                  clear hK K fr
                  refine wpAnyH_takeD (i := 6) (d := 77) (v := .tuple #[.agg (filC V' M'), .bool true]) rfl rfl (by kernel_rfl) (by kernel_rfl) (by kernel_rfl) (fun _ _ _ h => h) (Or.inl ⟨by rfl, fun W hW => by go_simp⟩) hs ?_
                  simp only [Act.put, List.setIfInBounds_toArray, List.set_cons_succ, List.set_cons_zero]
                  refine wpAnyH_takeD (i := 7) (d := 84) (v := .agg (filC V' M')) rfl rfl (by kernel_rfl) (by kernel_rfl) (by kernel_rfl) (fun _ _ _ h => h) (Or.inl ⟨by rfl, fun W hW => by go_simp⟩) hs ?_
                  simp only [Act.put, List.setIfInBounds_toArray, List.set_cons_succ, List.set_cons_zero]
                  refine wpAnyH_takeD (i := 8) (d := 85) (v := .bool true) rfl rfl (by kernel_rfl) (by kernel_rfl) (by kernel_rfl) (fun _ _ _ h => h) (Or.inl ⟨by rfl, fun W hW => by go_simp⟩) hs ?_
                  simp only [Act.put, List.setIfInBounds_toArray, List.set_cons_succ, List.set_cons_zero]
                  refine wpAnyH_ready (rs := [9]) (by kernel_rfl) (by simp) (AllReadyH.cons rfl (fun K hK => ?_) (AllReadyH.nil))
                  go_simp
                  refine hK.out _ _ (hs.trans (Ext.alloc _ _)) (fun hs => ?_)
                  clear hK K
                  refine wpAnyH_ready (rs := [10]) (by kernel_rfl) (by simp) (AllReadyH.cons rfl (fun K hK => ?_) (AllReadyH.nil))
                  have bx := boxed_row Wc #[.int .i64 0, .int .i64 0, .int .i64 0, .int .i64 0, .int .i64 0, .int .i64 0, .int .i64 0, .int .i64 0, .int .i64 0, .int .i64 0, .slice none 0 0, .slice none 0 0, .slice none 0 0, .slice none 0 0] (filC V' M') 31
                  refine step_store_row rfl 31 (.tmp 9) (.tmp 84) rfl Wc.heap.size _ rfl rfl 31 _ (heap_alloc_new Wc _) (by kernel_rfl) rfl (by simp [filC, Value.oneCell']) rfl ?_
                  have hs := (hx.trans y).trans bx.1
                  refine hK.out _ _ hs (fun hs => ?_)
                  clear hK K
                  simp only [Act.put]
                  refine wpAnyH_takeD (i := 11) (d := 10) (v := .bool true) rfl rfl (by kernel_rfl) (by kernel_rfl) (by kernel_rfl) (fun _ _ _ h => h) (Or.inl ⟨by rfl, fun W hW => by go_simp⟩) hs ?_
                  simp only [Act.put, List.setIfInBounds_toArray, List.set_cons_succ, List.set_cons_zero]
                  refine wpAnyH_done (by kernel_rfl) ?_ _
                  go_wp2_with fail
                  go_meet
                  exact ⟨rfl, Wc.heap.size, V', rfl, bx.2, f'.ext bx.1, hs, o'⟩
                · go_simp
                  refine hK.out _ _ (hs.trans (Ext.alloc _ _)) (fun hs => ?_)
                  clear hK K
                  refine wpAnyH_ready (rs := [5]) (by kernel_rfl) (by simp) (AllReadyH.cons rfl (fun K hK => ?_) (AllReadyH.nil))
                  go_simp
                  go_at_call 13
                  refine (KO.out _ hs).mono ?_; rintro e Wc ⟨V', rfl, f', y, fr⟩
                  have o' := fr.off S.o (fun i hi => by rw [hi]; exact heap_lt (S.ext hs).b)
                  have o9 := fr.off ((S.ext hx).f.off (Φ := fun i => i = Wd.heap.size) (w := Wd) (fun i hi => by omega) (Nat.le_refl _)) (fun i hi => by rw [hi]; simp)
                  have bN := y.block (heap_alloc_new Wd (.cells #[.int .i64 0, .int .i64 0, .int .i64 0, .int .i64 0, .int .i64 0, .int .i64 0, .int .i64 0, .int .i64 0, .int .i64 0, .int .i64 0, .slice none 0 0, .slice none 0 0, .slice none 0 0, .slice none 0 0] 31))
                  have hl9 : wr.heap.size ≤ Wd.heap.size := hx.size
                  go_wp2_with fail
                  refine hK.out _ _ (hs.trans y) (fun hs => ?_)
                  clear hK K fr
                  refine wpAnyH_takeD (i := 6) (d := 77) (v := .tuple #[.agg (filC V' M'), .bool true]) rfl rfl (by kernel_rfl) (by kernel_rfl) (by kernel_rfl) (fun _ _ _ h => h) (Or.inl ⟨by rfl, fun W hW => by go_simp⟩) hs ?_
                  simp only [Act.put, List.setIfInBounds_toArray, List.set_cons_succ, List.set_cons_zero]
                  refine wpAnyH_takeD (i := 7) (d := 84) (v := .agg (filC V' M')) rfl rfl (by kernel_rfl) (by kernel_rfl) (by kernel_rfl) (fun _ _ _ h => h) (Or.inl ⟨by rfl, fun W hW => by go_simp⟩) hs ?_
                  simp only [Act.put, List.setIfInBounds_toArray, List.set_cons_succ, List.set_cons_zero]
                  refine wpAnyH_takeD (i := 8) (d := 85) (v := .bool true) rfl rfl (by kernel_rfl) (by kernel_rfl) (by kernel_rfl) (fun _ _ _ h => h) (Or.inl ⟨by rfl, fun W hW => by go_simp⟩) hs ?_
                  simp only [Act.put, List.setIfInBounds_toArray, List.set_cons_succ, List.set_cons_zero]
                  refine wpAnyH_ready (rs := [10]) (by kernel_rfl) (by simp) (AllReadyH.cons rfl (fun K hK => ?_) (AllReadyH.nil))
                  refine step_store_row rfl 31 (.tmp 9) (.tmp 84) rfl Wd.heap.size _ rfl rfl 31 _ bN (by kernel_rfl) rfl (by simp [filC, Value.oneCell']) rfl ?_
                  have hs := below_setRow hs hl9 (filC V' M')
                  refine hK.out _ _ hs (fun hs => ?_)
                  clear hK K
                  simp only [Act.put]
                  refine wpAnyH_takeD (i := 11) (d := 10) (v := .bool true) rfl rfl (by kernel_rfl) (by kernel_rfl) (by kernel_rfl) (fun _ _ _ h => h) (Or.inl ⟨by rfl, fun W hW => by go_simp⟩) hs ?_
                  simp only [Act.put, List.setIfInBounds_toArray, List.set_cons_succ, List.set_cons_zero]
                  refine wpAnyH_done (by kernel_rfl) ?_ _
                  go_wp2_with fail
                  go_meet
                  exact ⟨rfl, Wd.heap.size, V', rfl, setRow_heap _ _ _ _ _ _ bN, f'.keep (keepRow _ _ _) o9, hs, o'⟩
              case rest =>
                obtain ⟨rfl, G9, Vn, rfl, b9, f9, xc, o9⟩ := hcut
                have S9 := S.ext xc
                have gF := S9.b
                obtain ⟨Wn0, hWn, HSn⟩ : ∃ W, W = wc.setRow g (filC Vn M') ∧ Hid (KeepS w W g Vn M') := ⟨_, rfl, Lib.hid (S9.set f9 o9 hsM')⟩
                have gT := HSn.out.b
                rw [hWn] at gT
                clear S S9 f9 o9 xc KO hR0 hs' HS1
                go_wp2_with (first
                  | (refine wpList_load_row rfl 31 (.tmp 9) rfl (G9) rfl 31 _ (0, 0) _ b9 Try.underlying31 rfl (by kernel_rfl) ?_)
                  | (refine wpList_store_row rfl 31 (.tmp 7) (.tmp 86) rfl (g) _ rfl rfl 31 _ gF (by kernel_rfl) rfl (by simp [filC, Value.oneCell']) ?_)
                  | (refine wpList_load_row_g (by rfl) 31 (.tmp 7) rfl (g) rfl 31 _ (0, 0) _ gT Try.underlying31 rfl (by kernel_rfl) ?_))
                rw [← hWn]
                clear b9 gF gT hWn
                refine ((fun W (x : FilAt W Vn M') => HRt.out ▸ hR Vn M' W x : ∀ W, FilAt W Vn M' → Calls Try.prog 14 #[.agg (filC Vn M')] W fun e w' => e = .returned (.bool true) ∧ Ext W w') _ HSn.out.f).mono ?_; rintro e Wn ⟨rfl, x18⟩
                have HWn := Lib.hid (HSn.out.ext x18)
                clear HSn x18
                go_wp2_with fail
                have HKH := Lib.hid hkh
                clear hkh hsM' hrM'
                go_loopg [11] 2 (fun h iv wr => ∃ q : Int, q + h = 2 ∧ 0 ≤ q ∧ iv = .int .i64 q ∧ Ext Wn wr)
                case atStart => exact ⟨0, by omega, by decide, rfl, Ext.refl _⟩
                case round =>
                  obtain ⟨q, hq, hqb, rfl, xk⟩ := hrel
                  cases gk with
                  | succ h =>
                    obtain ⟨J, hJ⟩ : ∃ J : Bool, (q == 1) = J := ⟨_, rfl⟩
                    have hJd : decide (q = 1) = J := by rw [← hJ]; rfl
                    have hq2 : q < 2 := by omega
                    have HQB := Lib.hid (And.intro hqb (And.intro hq2 hq))
                    have KB1 := Lib.hid (fun W (x : Ext Wn W) => hB Vn M' J o.x o.c W (HWn.out.ext x).f HoW.out.wx HoW.out.wc)
                    have KB2 := Lib.hid (fun W (x : Ext Wn W) => rbits14_any Vn M' J o.x o.c W (HWn.out.ext x).f)
                    have KW1 := Lib.hid (fun W (x : Ext Wn W) => hW Vn M' J o.x o.c W (HWn.out.ext x).f HoW.out.wx HoW.out.wc)
                    have KW2 := Lib.hid (fun W (x : Ext Wn W) => rwords14_any Vn M' J o.x o.c W (HWn.out.ext x).f HoW.out.wx HoW.out.wc)
                    unfold SlP at KB1 KB2 KW1 KW2
                    have hN1 := bit_small M' J o.x o.c
                    have hN2 := wrd_small M' J o.x o.c
                    generalize bitE M' J o.x o.c = E1 at KB1 KB2
                    generalize bitN M' J o.x o.c = N1 at KB1 KB2 hN1
                    generalize bitL M' J o.x = L1 at KB1 KB2
                    generalize wrdE M' J o.x o.c = E2 at KW1 KW2
                    generalize wrdN M' J o.x o.c = N2 at KW1 KW2 hN2
                    generalize wrdL M' J o.x = L2 at KW1 KW2
                    have HN1 := Lib.hid hN1
                    have HN2 := Lib.hid hN2
                    clear hq hqb hN1 hN2
                    go_wp2_with fail
                    have hs : Ext Wn wr.drew := xk.trans (Ext.drew _)
                    refine wp_region_held_drew (S := fun W => Ext Wn W) (by kernel_rfl) hs (fun _ => ?_)
                    refine wpAnyH_takeD (i := 0) (d := 99) rfl rfl (by kernel_rfl) (by kernel_rfl) (by kernel_rfl) (fun _ _ _ h => h) (yieldsIf_load_row (by rfl) 31 (.tmp 7) rfl (g) rfl 31 _ (0, 0) _ (fun w' hw' => (HWn.out.ext hw').b) Try.underlying31 rfl (by kernel_rfl)) hs ?_
                    simp only [Act.put, List.setIfInBounds_toArray, List.set_cons_succ, List.set_cons_zero]
                    refine wpAnyH_takeD (i := 1) (d := 100) (v := .int .i64 q) rfl rfl (by kernel_rfl) (by kernel_rfl) (by kernel_rfl) (fun _ _ _ h => h) (Or.inl ⟨by rfl, fun W hW => by go_simp⟩) hs ?_
                    simp only [Act.put, List.setIfInBounds_toArray, List.set_cons_succ, List.set_cons_zero]
                    refine wpAnyH_takeD (i := 2) (d := 101) (v := .bool J) rfl rfl (by kernel_rfl) (by kernel_rfl) (by kernel_rfl) (fun _ _ _ h => h) (Or.inl ⟨by rfl, fun W hW => by go_simp⟩) hs ?_
                    simp only [Act.put, List.setIfInBounds_toArray, List.set_cons_succ, List.set_cons_zero]
                    refine wpAnyH_takeD (i := 3) (d := 102) (v := .slice (some ⟨b, off, none⟩) n cap) rfl rfl (by kernel_rfl) (by kernel_rfl) (by kernel_rfl) (fun _ _ _ h => h) (Or.inl ⟨by rfl, fun W hW => by go_simp⟩) hs ?_
                    simp only [Act.put, List.setIfInBounds_toArray, List.set_cons_succ, List.set_cons_zero]
                    refine wpAnyH_takeD (i := 4) (d := 103) (v := .int .i64 k) rfl rfl (by kernel_rfl) (by kernel_rfl) (by kernel_rfl) (fun _ _ _ h => h) (Or.inl ⟨by rfl, fun W hW => by go_simp⟩) hs ?_
                    simp only [Act.put, List.setIfInBounds_toArray, List.set_cons_succ, List.set_cons_zero]
                    refine wpAnyH_takeD (i := 5) (d := 104) (v := .pointer (some ⟨b, off + k * 6, none⟩)) rfl rfl (by kernel_rfl) (by kernel_rfl) (by kernel_rfl) (fun _ _ _ h => h) (Or.inl ⟨by rfl, fun W hW => by go_simp⟩) hs ?_
                    simp only [Act.put, List.setIfInBounds_toArray, List.set_cons_succ, List.set_cons_zero]
                    refine wpAnyH_takeD (i := 6) (d := 105) (v := .pointer (some ⟨b, off + k * 6 + 1, none⟩)) rfl rfl (by kernel_rfl) (by kernel_rfl) (by kernel_rfl) (fun _ _ _ h => h) (Or.inl ⟨by rfl, fun W hW => by go_simp⟩) hs ?_
                    simp only [Act.put, List.setIfInBounds_toArray, List.set_cons_succ, List.set_cons_zero]
                    refine wpAnyH_takeD (i := 7) (d := 106) (v := .int .i64 o.x) rfl rfl (by kernel_rfl) (by kernel_rfl) (by kernel_rfl) (fun _ _ _ h => h) (Or.inl ⟨by rfl, fun W hW => by obtain ⟨q0, q1, q2, q3, q4, q5⟩ := HQ.out W (HWn.out.x.trans hW); go_simp⟩) hs ?_
                    simp only [Act.put, List.setIfInBounds_toArray, List.set_cons_succ, List.set_cons_zero]
                    refine wpAnyH_takeD (i := 8) (d := 107) (v := .slice (some ⟨b, off, none⟩) n cap) rfl rfl (by kernel_rfl) (by kernel_rfl) (by kernel_rfl) (fun _ _ _ h => h) (Or.inl ⟨by rfl, fun W hW => by go_simp⟩) hs ?_
                    simp only [Act.put, List.setIfInBounds_toArray, List.set_cons_succ, List.set_cons_zero]
                    refine wpAnyH_takeD (i := 9) (d := 108) (v := .int .i64 k) rfl rfl (by kernel_rfl) (by kernel_rfl) (by kernel_rfl) (fun _ _ _ h => h) (Or.inl ⟨by rfl, fun W hW => by go_simp⟩) hs ?_
                    simp only [Act.put, List.setIfInBounds_toArray, List.set_cons_succ, List.set_cons_zero]
                    refine wpAnyH_takeD (i := 10) (d := 109) (v := .pointer (some ⟨b, off + k * 6, none⟩)) rfl rfl (by kernel_rfl) (by kernel_rfl) (by kernel_rfl) (fun _ _ _ h => h) (Or.inl ⟨by rfl, fun W hW => by go_simp⟩) hs ?_
                    simp only [Act.put, List.setIfInBounds_toArray, List.set_cons_succ, List.set_cons_zero]
                    refine wpAnyH_takeD (i := 11) (d := 110) (v := .pointer (some ⟨b, off + k * 6 + 2, none⟩)) rfl rfl (by kernel_rfl) (by kernel_rfl) (by kernel_rfl) (fun _ _ _ h => h) (Or.inl ⟨by rfl, fun W hW => by go_simp⟩) hs ?_
                    simp only [Act.put, List.setIfInBounds_toArray, List.set_cons_succ, List.set_cons_zero]
                    refine wpAnyH_takeD (i := 12) (d := 111) (v := .int .i64 o.c) rfl rfl (by kernel_rfl) (by kernel_rfl) (by kernel_rfl) (fun _ _ _ h => h) (Or.inl ⟨by rfl, fun W hW => by obtain ⟨q0, q1, q2, q3, q4, q5⟩ := HQ.out W (HWn.out.x.trans hW); go_simp⟩) hs ?_
                    simp only [Act.put, List.setIfInBounds_toArray, List.set_cons_succ, List.set_cons_zero]
                    refine wpAnyH_ready (rs := [13]) (by kernel_rfl) (by simp) (AllReadyH.cons rfl (fun K hK => ?_) (AllReadyH.nil))
                    go_simp
                    go_at_call 15
                    refine (KB1.out _ hs).mono ?_; rintro e W23 ⟨b23, q23, rfl, -, -, h23, y, -⟩
                    go_wp2_with fail
                    have z23 : Ext wr W23 := (Ext.drew wr).trans y
                    refine hK.out _ _ (hs.trans y) (fun hs => ?_)
                    clear hK K y
                    refine wpAnyH_takeD (i := 14) (d := 98) (v := .tuple #[.slice b23 N1 q23, .int .i64 E1]) rfl rfl (by kernel_rfl) (by kernel_rfl) (by kernel_rfl) (fun _ _ _ h => h) (Or.inl ⟨by rfl, fun W hW => by go_simp⟩) hs ?_
                    simp only [Act.put, List.setIfInBounds_toArray, List.set_cons_succ, List.set_cons_zero]
                    refine wpAnyH_takeD (i := 15) (d := 113) (v := .slice b23 N1 q23) rfl rfl (by kernel_rfl) (by kernel_rfl) (by kernel_rfl) (fun _ _ _ h => h) (Or.inl ⟨by rfl, fun W hW => by go_simp⟩) hs ?_
                    simp only [Act.put, List.setIfInBounds_toArray, List.set_cons_succ, List.set_cons_zero]
                    refine wpAnyH_takeD (i := 16) (d := 114) (v := .int .i64 E1) rfl rfl (by kernel_rfl) (by kernel_rfl) (by kernel_rfl) (fun _ _ _ h => h) (Or.inl ⟨by rfl, fun W hW => by go_simp⟩) hs ?_
                    simp only [Act.put, List.setIfInBounds_toArray, List.set_cons_succ, List.set_cons_zero]
                    refine wpAnyH_takeD (i := 17) (d := 12) (v := .slice b23 N1 q23) rfl rfl (by kernel_rfl) (by kernel_rfl) (by kernel_rfl) (fun _ _ _ h => h) (Or.inl ⟨by rfl, fun W hW => by go_simp⟩) hs ?_
                    simp only [Act.put, List.setIfInBounds_toArray, List.set_cons_succ, List.set_cons_zero]
                    refine wpAnyH_takeD (i := 18) (d := 13) (v := .int .i64 E1) rfl rfl (by kernel_rfl) (by kernel_rfl) (by kernel_rfl) (fun _ _ _ h => h) (Or.inl ⟨by rfl, fun W hW => by go_simp⟩) hs ?_
                    simp only [Act.put, List.setIfInBounds_toArray, List.set_cons_succ, List.set_cons_zero]
                    refine wpAnyH_done (by kernel_rfl) ?_ _
                    have x23 := hs
                    clear hs
                    go_wp2_with fail
                    have hs : Ext Wn W23.drew := x23.trans (Ext.drew _)
                    refine wp_region_held_drew (S := fun W => Ext Wn W) (by kernel_rfl) hs (fun _ => ?_)
                    refine wpAnyH_takeD (i := 0) (d := 116) rfl rfl (by kernel_rfl) (by kernel_rfl) (by kernel_rfl) (fun _ _ _ h => h) (yieldsIf_load_row (by rfl) 31 (.tmp 7) rfl (g) rfl 31 _ (0, 0) _ (fun w' hw' => (HWn.out.ext hw').b) Try.underlying31 rfl (by kernel_rfl)) hs ?_
                    simp only [Act.put, List.setIfInBounds_toArray, List.set_cons_succ, List.set_cons_zero]
                    refine wpAnyH_takeD (i := 1) (d := 117) (v := .int .i64 q) rfl rfl (by kernel_rfl) (by kernel_rfl) (by kernel_rfl) (fun _ _ _ h => h) (Or.inl ⟨by rfl, fun W hW => by go_simp⟩) hs ?_
                    simp only [Act.put, List.setIfInBounds_toArray, List.set_cons_succ, List.set_cons_zero]
                    refine wpAnyH_takeD (i := 2) (d := 118) (v := .bool J) rfl rfl (by kernel_rfl) (by kernel_rfl) (by kernel_rfl) (fun _ _ _ h => h) (Or.inl ⟨by rfl, fun W hW => by go_simp⟩) hs ?_
                    simp only [Act.put, List.setIfInBounds_toArray, List.set_cons_succ, List.set_cons_zero]
                    refine wpAnyH_takeD (i := 3) (d := 119) (v := .slice (some ⟨b, off, none⟩) n cap) rfl rfl (by kernel_rfl) (by kernel_rfl) (by kernel_rfl) (fun _ _ _ h => h) (Or.inl ⟨by rfl, fun W hW => by go_simp⟩) hs ?_
                    simp only [Act.put, List.setIfInBounds_toArray, List.set_cons_succ, List.set_cons_zero]
                    refine wpAnyH_takeD (i := 4) (d := 120) (v := .int .i64 k) rfl rfl (by kernel_rfl) (by kernel_rfl) (by kernel_rfl) (fun _ _ _ h => h) (Or.inl ⟨by rfl, fun W hW => by go_simp⟩) hs ?_
                    simp only [Act.put, List.setIfInBounds_toArray, List.set_cons_succ, List.set_cons_zero]
                    refine wpAnyH_takeD (i := 5) (d := 121) (v := .pointer (some ⟨b, off + k * 6, none⟩)) rfl rfl (by kernel_rfl) (by kernel_rfl) (by kernel_rfl) (fun _ _ _ h => h) (Or.inl ⟨by rfl, fun W hW => by go_simp⟩) hs ?_
                    simp only [Act.put, List.setIfInBounds_toArray, List.set_cons_succ, List.set_cons_zero]
                    refine wpAnyH_takeD (i := 6) (d := 122) (v := .pointer (some ⟨b, off + k * 6 + 1, none⟩)) rfl rfl (by kernel_rfl) (by kernel_rfl) (by kernel_rfl) (fun _ _ _ h => h) (Or.inl ⟨by rfl, fun W hW => by go_simp⟩) hs ?_
                    simp only [Act.put, List.setIfInBounds_toArray, List.set_cons_succ, List.set_cons_zero]
                    refine wpAnyH_takeD (i := 7) (d := 123) (v := .int .i64 o.x) rfl rfl (by kernel_rfl) (by kernel_rfl) (by kernel_rfl) (fun _ _ _ h => h) (Or.inl ⟨by rfl, fun W hW => by obtain ⟨q0, q1, q2, q3, q4, q5⟩ := HQ.out W (HWn.out.x.trans hW); go_simp⟩) hs ?_
                    simp only [Act.put, List.setIfInBounds_toArray, List.set_cons_succ, List.set_cons_zero]
                    refine wpAnyH_takeD (i := 8) (d := 124) (v := .slice (some ⟨b, off, none⟩) n cap) rfl rfl (by kernel_rfl) (by kernel_rfl) (by kernel_rfl) (fun _ _ _ h => h) (Or.inl ⟨by rfl, fun W hW => by go_simp⟩) hs ?_
                    simp only [Act.put, List.setIfInBounds_toArray, List.set_cons_succ, List.set_cons_zero]
                    refine wpAnyH_takeD (i := 9) (d := 125) (v := .int .i64 k) rfl rfl (by kernel_rfl) (by kernel_rfl) (by kernel_rfl) (fun _ _ _ h => h) (Or.inl ⟨by rfl, fun W hW => by go_simp⟩) hs ?_
                    simp only [Act.put, List.setIfInBounds_toArray, List.set_cons_succ, List.set_cons_zero]
                    refine wpAnyH_takeD (i := 10) (d := 126) (v := .pointer (some ⟨b, off + k * 6, none⟩)) rfl rfl (by kernel_rfl) (by kernel_rfl) (by kernel_rfl) (fun _ _ _ h => h) (Or.inl ⟨by rfl, fun W hW => by go_simp⟩) hs ?_
                    simp only [Act.put, List.setIfInBounds_toArray, List.set_cons_succ, List.set_cons_zero]
                    refine wpAnyH_takeD (i := 11) (d := 127) (v := .pointer (some ⟨b, off + k * 6 + 2, none⟩)) rfl rfl (by kernel_rfl) (by kernel_rfl) (by kernel_rfl) (fun _ _ _ h => h) (Or.inl ⟨by rfl, fun W hW => by go_simp⟩) hs ?_
                    simp only [Act.put, List.setIfInBounds_toArray, List.set_cons_succ, List.set_cons_zero]
                    refine wpAnyH_takeD (i := 12) (d := 128) (v := .int .i64 o.c) rfl rfl (by kernel_rfl) (by kernel_rfl) (by kernel_rfl) (fun _ _ _ h => h) (Or.inl ⟨by rfl, fun W hW => by obtain ⟨q0, q1, q2, q3, q4, q5⟩ := HQ.out W (HWn.out.x.trans hW); go_simp⟩) hs ?_
                    simp only [Act.put, List.setIfInBounds_toArray, List.set_cons_succ, List.set_cons_zero]
                    refine wpAnyH_ready (rs := [13]) (by kernel_rfl) (by simp) (AllReadyH.cons rfl (fun K hK => ?_) (AllReadyH.nil))
                    go_simp
                    go_at_call 16
                    refine (KB2.out _ hs).mono ?_; rintro e W24 ⟨b24, q24, rfl, -, -, h24, y, -⟩
                    go_wp2_with fail
                    have z24 : Ext W23 W24 := (Ext.drew W23).trans y
                    refine hK.out _ _ (hs.trans y) (fun hs => ?_)
                    clear hK K y
                    refine wpAnyH_takeD (i := 14) (d := 115) (v := .tuple #[.slice b24 N1 q24, .int .i64 E1]) rfl rfl (by kernel_rfl) (by kernel_rfl) (by kernel_rfl) (fun _ _ _ h => h) (Or.inl ⟨by rfl, fun W hW => by go_simp⟩) hs ?_
                    simp only [Act.put, List.setIfInBounds_toArray, List.set_cons_succ, List.set_cons_zero]
                    refine wpAnyH_takeD (i := 15) (d := 130) (v := .slice b24 N1 q24) rfl rfl (by kernel_rfl) (by kernel_rfl) (by kernel_rfl) (fun _ _ _ h => h) (Or.inl ⟨by rfl, fun W hW => by go_simp⟩) hs ?_
                    simp only [Act.put, List.setIfInBounds_toArray, List.set_cons_succ, List.set_cons_zero]
                    refine wpAnyH_takeD (i := 16) (d := 131) (v := .int .i64 E1) rfl rfl (by kernel_rfl) (by kernel_rfl) (by kernel_rfl) (fun _ _ _ h => h) (Or.inl ⟨by rfl, fun W hW => by go_simp⟩) hs ?_
                    simp only [Act.put, List.setIfInBounds_toArray, List.set_cons_succ, List.set_cons_zero]
                    refine wpAnyH_takeD (i := 17) (d := 14) (v := .slice b24 N1 q24) rfl rfl (by kernel_rfl) (by kernel_rfl) (by kernel_rfl) (fun _ _ _ h => h) (Or.inl ⟨by rfl, fun W hW => by go_simp⟩) hs ?_
                    simp only [Act.put, List.setIfInBounds_toArray, List.set_cons_succ, List.set_cons_zero]
                    refine wpAnyH_takeD (i := 18) (d := 15) (v := .int .i64 E1) rfl rfl (by kernel_rfl) (by kernel_rfl) (by kernel_rfl) (fun _ _ _ h => h) (Or.inl ⟨by rfl, fun W hW => by go_simp⟩) hs ?_
                    simp only [Act.put, List.setIfInBounds_toArray, List.set_cons_succ, List.set_cons_zero]
                    refine wpAnyH_done (by kernel_rfl) ?_ _
                    have x24 := hs
                    clear hs
                    go_wp2_with fail
                    have h23 := h23.ext z24
                    have hs : Ext Wn W24.drew := x24.trans (Ext.drew _)
                    refine wp_region_held_drew (S := fun W => Ext Wn W) (by kernel_rfl) hs (fun _ => ?_)
                    refine wpAnyH_takeD (i := 0) (d := 133) rfl rfl (by kernel_rfl) (by kernel_rfl) (by kernel_rfl) (fun _ _ _ h => h) (yieldsIf_load_row (by rfl) 31 (.tmp 7) rfl (g) rfl 31 _ (0, 0) _ (fun w' hw' => (HWn.out.ext hw').b) Try.underlying31 rfl (by kernel_rfl)) hs ?_
                    simp only [Act.put, List.setIfInBounds_toArray, List.set_cons_succ, List.set_cons_zero]
                    refine wpAnyH_takeD (i := 1) (d := 134) (v := .int .i64 q) rfl rfl (by kernel_rfl) (by kernel_rfl) (by kernel_rfl) (fun _ _ _ h => h) (Or.inl ⟨by rfl, fun W hW => by go_simp⟩) hs ?_
                    simp only [Act.put, List.setIfInBounds_toArray, List.set_cons_succ, List.set_cons_zero]
                    refine wpAnyH_takeD (i := 2) (d := 135) (v := .bool J) rfl rfl (by kernel_rfl) (by kernel_rfl) (by kernel_rfl) (fun _ _ _ h => h) (Or.inl ⟨by rfl, fun W hW => by go_simp⟩) hs ?_
                    simp only [Act.put, List.setIfInBounds_toArray, List.set_cons_succ, List.set_cons_zero]
                    refine wpAnyH_takeD (i := 3) (d := 136) (v := .slice (some ⟨b, off, none⟩) n cap) rfl rfl (by kernel_rfl) (by kernel_rfl) (by kernel_rfl) (fun _ _ _ h => h) (Or.inl ⟨by rfl, fun W hW => by go_simp⟩) hs ?_
                    simp only [Act.put, List.setIfInBounds_toArray, List.set_cons_succ, List.set_cons_zero]
                    refine wpAnyH_takeD (i := 4) (d := 137) (v := .int .i64 k) rfl rfl (by kernel_rfl) (by kernel_rfl) (by kernel_rfl) (fun _ _ _ h => h) (Or.inl ⟨by rfl, fun W hW => by go_simp⟩) hs ?_
                    simp only [Act.put, List.setIfInBounds_toArray, List.set_cons_succ, List.set_cons_zero]
                    refine wpAnyH_takeD (i := 5) (d := 138) (v := .pointer (some ⟨b, off + k * 6, none⟩)) rfl rfl (by kernel_rfl) (by kernel_rfl) (by kernel_rfl) (fun _ _ _ h => h) (Or.inl ⟨by rfl, fun W hW => by go_simp⟩) hs ?_
                    simp only [Act.put, List.setIfInBounds_toArray, List.set_cons_succ, List.set_cons_zero]
                    refine wpAnyH_takeD (i := 6) (d := 139) (v := .pointer (some ⟨b, off + k * 6 + 1, none⟩)) rfl rfl (by kernel_rfl) (by kernel_rfl) (by kernel_rfl) (fun _ _ _ h => h) (Or.inl ⟨by rfl, fun W hW => by go_simp⟩) hs ?_
                    simp only [Act.put, List.setIfInBounds_toArray, List.set_cons_succ, List.set_cons_zero]
                    refine wpAnyH_takeD (i := 7) (d := 140) (v := .int .i64 o.x) rfl rfl (by kernel_rfl) (by kernel_rfl) (by kernel_rfl) (fun _ _ _ h => h) (Or.inl ⟨by rfl, fun W hW => by obtain ⟨q0, q1, q2, q3, q4, q5⟩ := HQ.out W (HWn.out.x.trans hW); go_simp⟩) hs ?_
                    simp only [Act.put, List.setIfInBounds_toArray, List.set_cons_succ, List.set_cons_zero]
                    refine wpAnyH_takeD (i := 8) (d := 141) (v := .slice (some ⟨b, off, none⟩) n cap) rfl rfl (by kernel_rfl) (by kernel_rfl) (by kernel_rfl) (fun _ _ _ h => h) (Or.inl ⟨by rfl, fun W hW => by go_simp⟩) hs ?_
                    simp only [Act.put, List.setIfInBounds_toArray, List.set_cons_succ, List.set_cons_zero]
                    refine wpAnyH_takeD (i := 9) (d := 142) (v := .int .i64 k) rfl rfl (by kernel_rfl) (by kernel_rfl) (by kernel_rfl) (fun _ _ _ h => h) (Or.inl ⟨by rfl, fun W hW => by go_simp⟩) hs ?_
                    simp only [Act.put, List.setIfInBounds_toArray, List.set_cons_succ, List.set_cons_zero]
                    refine wpAnyH_takeD (i := 10) (d := 143) (v := .pointer (some ⟨b, off + k * 6, none⟩)) rfl rfl (by kernel_rfl) (by kernel_rfl) (by kernel_rfl) (fun _ _ _ h => h) (Or.inl ⟨by rfl, fun W hW => by go_simp⟩) hs ?_
                    simp only [Act.put, List.setIfInBounds_toArray, List.set_cons_succ, List.set_cons_zero]
                    refine wpAnyH_takeD (i := 11) (d := 144) (v := .pointer (some ⟨b, off + k * 6 + 2, none⟩)) rfl rfl (by kernel_rfl) (by kernel_rfl) (by kernel_rfl) (fun _ _ _ h => h) (Or.inl ⟨by rfl, fun W hW => by go_simp⟩) hs ?_
                    simp only [Act.put, List.setIfInBounds_toArray, List.set_cons_succ, List.set_cons_zero]
                    refine wpAnyH_takeD (i := 12) (d := 145) (v := .int .i64 o.c) rfl rfl (by kernel_rfl) (by kernel_rfl) (by kernel_rfl) (fun _ _ _ h => h) (Or.inl ⟨by rfl, fun W hW => by obtain ⟨q0, q1, q2, q3, q4, q5⟩ := HQ.out W (HWn.out.x.trans hW); go_simp⟩) hs ?_
                    simp only [Act.put, List.setIfInBounds_toArray, List.set_cons_succ, List.set_cons_zero]
                    refine wpAnyH_ready (rs := [13]) (by kernel_rfl) (by simp) (AllReadyH.cons rfl (fun K hK => ?_) (AllReadyH.nil))
                    go_simp
                    go_at_call 17
                    refine (KW1.out _ hs).mono ?_; rintro e W25 ⟨b25, q25, rfl, -, -, h25, y, -⟩
                    go_wp2_with fail
                    have z25 : Ext W24 W25 := (Ext.drew W24).trans y
                    refine hK.out _ _ (hs.trans y) (fun hs => ?_)
                    clear hK K y
                    refine wpAnyH_takeD (i := 14) (d := 132) (v := .tuple #[.slice b25 N2 q25, .int .i64 E2]) rfl rfl (by kernel_rfl) (by kernel_rfl) (by kernel_rfl) (fun _ _ _ h => h) (Or.inl ⟨by rfl, fun W hW => by go_simp⟩) hs ?_
                    simp only [Act.put, List.setIfInBounds_toArray, List.set_cons_succ, List.set_cons_zero]
                    refine wpAnyH_takeD (i := 15) (d := 147) (v := .slice b25 N2 q25) rfl rfl (by kernel_rfl) (by kernel_rfl) (by kernel_rfl) (fun _ _ _ h => h) (Or.inl ⟨by rfl, fun W hW => by go_simp⟩) hs ?_
                    simp only [Act.put, List.setIfInBounds_toArray, List.set_cons_succ, List.set_cons_zero]
                    refine wpAnyH_takeD (i := 16) (d := 148) (v := .int .i64 E2) rfl rfl (by kernel_rfl) (by kernel_rfl) (by kernel_rfl) (fun _ _ _ h => h) (Or.inl ⟨by rfl, fun W hW => by go_simp⟩) hs ?_
                    simp only [Act.put, List.setIfInBounds_toArray, List.set_cons_succ, List.set_cons_zero]
                    refine wpAnyH_takeD (i := 17) (d := 16) (v := .slice b25 N2 q25) rfl rfl (by kernel_rfl) (by kernel_rfl) (by kernel_rfl) (fun _ _ _ h => h) (Or.inl ⟨by rfl, fun W hW => by go_simp⟩) hs ?_
                    simp only [Act.put, List.setIfInBounds_toArray, List.set_cons_succ, List.set_cons_zero]
                    refine wpAnyH_takeD (i := 18) (d := 17) (v := .int .i64 E2) rfl rfl (by kernel_rfl) (by kernel_rfl) (by kernel_rfl) (fun _ _ _ h => h) (Or.inl ⟨by rfl, fun W hW => by go_simp⟩) hs ?_
                    simp only [Act.put, List.setIfInBounds_toArray, List.set_cons_succ, List.set_cons_zero]
                    refine wpAnyH_done (by kernel_rfl) ?_ _
                    have x25 := hs
                    clear hs
                    go_wp2_with fail
                    have h23 := h23.ext z25
                    have h24 := h24.ext z25
                    have hs : Ext Wn W25.drew := x25.trans (Ext.drew _)
                    refine wp_region_held_drew (S := fun W => Ext Wn W) (by kernel_rfl) hs (fun _ => ?_)
                    refine wpAnyH_takeD (i := 0) (d := 150) rfl rfl (by kernel_rfl) (by kernel_rfl) (by kernel_rfl) (fun _ _ _ h => h) (yieldsIf_load_row (by rfl) 31 (.tmp 7) rfl (g) rfl 31 _ (0, 0) _ (fun w' hw' => (HWn.out.ext hw').b) Try.underlying31 rfl (by kernel_rfl)) hs ?_
                    simp only [Act.put, List.setIfInBounds_toArray, List.set_cons_succ, List.set_cons_zero]
                    refine wpAnyH_takeD (i := 1) (d := 151) (v := .int .i64 q) rfl rfl (by kernel_rfl) (by kernel_rfl) (by kernel_rfl) (fun _ _ _ h => h) (Or.inl ⟨by rfl, fun W hW => by go_simp⟩) hs ?_
                    simp only [Act.put, List.setIfInBounds_toArray, List.set_cons_succ, List.set_cons_zero]
                    refine wpAnyH_takeD (i := 2) (d := 152) (v := .bool J) rfl rfl (by kernel_rfl) (by kernel_rfl) (by kernel_rfl) (fun _ _ _ h => h) (Or.inl ⟨by rfl, fun W hW => by go_simp⟩) hs ?_
                    simp only [Act.put, List.setIfInBounds_toArray, List.set_cons_succ, List.set_cons_zero]
                    refine wpAnyH_takeD (i := 3) (d := 153) (v := .slice (some ⟨b, off, none⟩) n cap) rfl rfl (by kernel_rfl) (by kernel_rfl) (by kernel_rfl) (fun _ _ _ h => h) (Or.inl ⟨by rfl, fun W hW => by go_simp⟩) hs ?_
                    simp only [Act.put, List.setIfInBounds_toArray, List.set_cons_succ, List.set_cons_zero]
                    refine wpAnyH_takeD (i := 4) (d := 154) (v := .int .i64 k) rfl rfl (by kernel_rfl) (by kernel_rfl) (by kernel_rfl) (fun _ _ _ h => h) (Or.inl ⟨by rfl, fun W hW => by go_simp⟩) hs ?_
                    simp only [Act.put, List.setIfInBounds_toArray, List.set_cons_succ, List.set_cons_zero]
                    refine wpAnyH_takeD (i := 5) (d := 155) (v := .pointer (some ⟨b, off + k * 6, none⟩)) rfl rfl (by kernel_rfl) (by kernel_rfl) (by kernel_rfl) (fun _ _ _ h => h) (Or.inl ⟨by rfl, fun W hW => by go_simp⟩) hs ?_
                    simp only [Act.put, List.setIfInBounds_toArray, List.set_cons_succ, List.set_cons_zero]
                    refine wpAnyH_takeD (i := 6) (d := 156) (v := .pointer (some ⟨b, off + k * 6 + 1, none⟩)) rfl rfl (by kernel_rfl) (by kernel_rfl) (by kernel_rfl) (fun _ _ _ h => h) (Or.inl ⟨by rfl, fun W hW => by go_simp⟩) hs ?_
                    simp only [Act.put, List.setIfInBounds_toArray, List.set_cons_succ, List.set_cons_zero]
                    refine wpAnyH_takeD (i := 7) (d := 157) (v := .int .i64 o.x) rfl rfl (by kernel_rfl) (by kernel_rfl) (by kernel_rfl) (fun _ _ _ h => h) (Or.inl ⟨by rfl, fun W hW => by obtain ⟨q0, q1, q2, q3, q4, q5⟩ := HQ.out W (HWn.out.x.trans hW); go_simp⟩) hs ?_
                    simp only [Act.put, List.setIfInBounds_toArray, List.set_cons_succ, List.set_cons_zero]
                    refine wpAnyH_takeD (i := 8) (d := 158) (v := .slice (some ⟨b, off, none⟩) n cap) rfl rfl (by kernel_rfl) (by kernel_rfl) (by kernel_rfl) (fun _ _ _ h => h) (Or.inl ⟨by rfl, fun W hW => by go_simp⟩) hs ?_
                    simp only [Act.put, List.setIfInBounds_toArray, List.set_cons_succ, List.set_cons_zero]
                    refine wpAnyH_takeD (i := 9) (d := 159) (v := .int .i64 k) rfl rfl (by kernel_rfl) (by kernel_rfl) (by kernel_rfl) (fun _ _ _ h => h) (Or.inl ⟨by rfl, fun W hW => by go_simp⟩) hs ?_
                    simp only [Act.put, List.setIfInBounds_toArray, List.set_cons_succ, List.set_cons_zero]
                    refine wpAnyH_takeD (i := 10) (d := 160) (v := .pointer (some ⟨b, off + k * 6, none⟩)) rfl rfl (by kernel_rfl) (by kernel_rfl) (by kernel_rfl) (fun _ _ _ h => h) (Or.inl ⟨by rfl, fun W hW => by go_simp⟩) hs ?_
                    simp only [Act.put, List.setIfInBounds_toArray, List.set_cons_succ, List.set_cons_zero]
                    refine wpAnyH_takeD (i := 11) (d := 161) (v := .pointer (some ⟨b, off + k * 6 + 2, none⟩)) rfl rfl (by kernel_rfl) (by kernel_rfl) (by kernel_rfl) (fun _ _ _ h => h) (Or.inl ⟨by rfl, fun W hW => by go_simp⟩) hs ?_
                    simp only [Act.put, List.setIfInBounds_toArray, List.set_cons_succ, List.set_cons_zero]
                    refine wpAnyH_takeD (i := 12) (d := 162) (v := .int .i64 o.c) rfl rfl (by kernel_rfl) (by kernel_rfl) (by kernel_rfl) (fun _ _ _ h => h) (Or.inl ⟨by rfl, fun W hW => by obtain ⟨q0, q1, q2, q3, q4, q5⟩ := HQ.out W (HWn.out.x.trans hW); go_simp⟩) hs ?_
                    simp only [Act.put, List.setIfInBounds_toArray, List.set_cons_succ, List.set_cons_zero]
                    refine wpAnyH_ready (rs := [13]) (by kernel_rfl) (by simp) (AllReadyH.cons rfl (fun K hK => ?_) (AllReadyH.nil))
                    go_simp
                    go_at_call 18
                    refine (KW2.out _ hs).mono ?_; rintro e W26 ⟨b26, q26, rfl, -, -, h26, y, -⟩
                    go_wp2_with fail
                    have z26 : Ext W25 W26 := (Ext.drew W25).trans y
                    refine hK.out _ _ (hs.trans y) (fun hs => ?_)
                    clear hK K y
                    refine wpAnyH_takeD (i := 14) (d := 149) (v := .tuple #[.slice b26 N2 q26, .int .i64 E2]) rfl rfl (by kernel_rfl) (by kernel_rfl) (by kernel_rfl) (fun _ _ _ h => h) (Or.inl ⟨by rfl, fun W hW => by go_simp⟩) hs ?_
                    simp only [Act.put, List.setIfInBounds_toArray, List.set_cons_succ, List.set_cons_zero]
                    refine wpAnyH_takeD (i := 15) (d := 164) (v := .slice b26 N2 q26) rfl rfl (by kernel_rfl) (by kernel_rfl) (by kernel_rfl) (fun _ _ _ h => h) (Or.inl ⟨by rfl, fun W hW => by go_simp⟩) hs ?_
                    simp only [Act.put, List.setIfInBounds_toArray, List.set_cons_succ, List.set_cons_zero]
                    refine wpAnyH_takeD (i := 16) (d := 165) (v := .int .i64 E2) rfl rfl (by kernel_rfl) (by kernel_rfl) (by kernel_rfl) (fun _ _ _ h => h) (Or.inl ⟨by rfl, fun W hW => by go_simp⟩) hs ?_
                    simp only [Act.put, List.setIfInBounds_toArray, List.set_cons_succ, List.set_cons_zero]
                    refine wpAnyH_takeD (i := 17) (d := 18) (v := .slice b26 N2 q26) rfl rfl (by kernel_rfl) (by kernel_rfl) (by kernel_rfl) (fun _ _ _ h => h) (Or.inl ⟨by rfl, fun W hW => by go_simp⟩) hs ?_
                    simp only [Act.put, List.setIfInBounds_toArray, List.set_cons_succ, List.set_cons_zero]
                    refine wpAnyH_takeD (i := 18) (d := 19) (v := .int .i64 E2) rfl rfl (by kernel_rfl) (by kernel_rfl) (by kernel_rfl) (fun _ _ _ h => h) (Or.inl ⟨by rfl, fun W hW => by go_simp⟩) hs ?_
                    simp only [Act.put, List.setIfInBounds_toArray, List.set_cons_succ, List.set_cons_zero]
                    refine wpAnyH_done (by kernel_rfl) ?_ _
                    have x26 := hs
                    clear hs
                    go_wp2_with fail
                    have h23 := h23.ext z26
                    have h24 := h24.ext z26
                    have h25 := h25.ext z26
                    refine (same_self b23 b24 N1 q23 q24 L1 L1 W26 h23 h24 HN1.out (fun _ _ => rfl)).mono ?_; rintro e w27 ⟨rfl, y⟩
                    have x27 := x26.trans y
                    have h25 := h25.ext y
                    have h26 := h26.ext y
                    clear h23 h24 y x26
                    go_wp2_with fail
                    refine (words_self b25 b26 N2 q25 q26 L2 L2 w27 h25 h26 HN2.out (fun _ _ => rfl)).mono ?_; rintro e w28 ⟨rfl, y⟩
                    have x28 := x27.trans y
                    clear h25 h26 y x27
                    go_wp2_with fail
                    go_roundg h
                    case rel => exact ⟨q + 1, by have := HQB.out.2.2; omega, by have := HQB.out.1; omega, congrArg (Value.int .i64) (w_inc HQB.out.1 HQB.out.2.1), x28⟩
                    case measure => omega
                  | zero =>
                    have hq2 : ¬ (q < 2) := by omega
                    have hend := HWn.out.ext xk
                    clear xk
                    go_wp2_with fail
                    go_roundg h'
                    case rel => exact ⟨k + 1, Vn, M', by have := HKH.out; omega, by go_num, hend, HRt.out⟩
                    case measure => omega
          | zero =>
            have hge : ¬ (k : Int) < (n : Int) := by omega
            have HSX := Lib.hid S.x
            clear S
            go_wp2_with fail
            refine (HS.out _).mono ?_; rintro e w9 ⟨rfl, y9⟩
            go_wp2
            go_ret
            exact ⟨rfl, HSX.out.trans y9⟩
      · rw [decide_eq_false h1] at KF
        clear hN hR hSB hSW hSe hC hW hB sure hb h1 hsm hrt
        go_enter Try.func3, Try.ntmps3
        go_upto_region 1 with fail
        obtain ⟨W0, hW0, HX0, He⟩ : ∃ W0, W0 = w.alloc (.cells (bnkC F) 25) ∧ Hid (∀ W, Ext W0 W → W.heap[w.heap.size]? = some (.cells (bnkC F) 25 (0, 0))) ∧ Hid (Ext w W0) := ⟨_, rfl, Lib.hid (fun W hx => hx.block (heap_alloc_new w _)), Lib.hid (Ext.alloc w _)⟩
        rw [← hW0]
        clear hW0
        have gA := HX0.out W0 (Ext.refl _)
        go_wp2_with (first
          | (refine wpList_load_row rfl 25 (.tmp 2) rfl (w.heap.size) rfl 25 _ (0, 0) _ gA Try.underlying25 rfl (by kernel_rfl) ?_))
        refine (K0.out _).mono ?_; rintro e w1 ⟨V, rfl, f1, x1, -⟩
        obtain ⟨W1, hW1, y1, b1⟩ : ∃ W, W = ((w1.alloc (.cells #[.int .i64 0, .int .i64 0, .int .i64 0, .int .i64 0, .int .i64 0, .int .i64 0, .int .i64 0, .int .i64 0, .int .i64 0, .int .i64 0, .slice none 0 0, .slice none 0 0, .slice none 0 0, .slice none 0 0] 31)).setRow w1.heap.size (filC V M)) ∧ Ext w1 W ∧ W.heap[w1.heap.size]? = some (.cells (filC V M) 31 (0, 0)) := ⟨_, rfl, boxed_row _ _ _ _⟩
        have f1 := f1.ext y1
        have x1 := x1.trans y1
        clear y1 gA
        rw [hW1] at x1
        have gA := HX0.out _ x1
        go_wp2_with (first
          | (refine wpList_store_row rfl 31 (.tmp 5) (.tmp 27) rfl _ _ rfl rfl 31 _ (heap_new_at _ _ (by first | rfl | simp)) (by kernel_rfl) rfl (by simp [filC, Value.oneCell']) ?_)
          | (refine wpList_load_row rfl 25 (.tmp 2) rfl (w.heap.size) rfl 25 _ (0, 0) _ gA Try.underlying25 rfl (by kernel_rfl) ?_))
        rw [← hW1] at x1 ⊢
        clear hW1 gA
        generalize w1.heap.size = g5 at b1 ⊢
        refine (KBk.out _).mono ?_; rintro e w2 ⟨rfl, x2⟩
        have b1 := x2.block b1
        have f1 := f1.ext x2
        have x2 := x1.trans x2
        clear x1
        have gA := HX0.out _ x2
        go_wp2_with (first
          | (refine wpList_load_row rfl 25 (.tmp 2) rfl (w.heap.size) rfl 25 _ (0, 0) _ gA Try.underlying25 rfl (by kernel_rfl) ?_))
        refine (KN.out _).mono ?_; rintro e w6 ⟨VN, rfl, f6, x6, -⟩
        have ho6 : FilOff (fun i => i = w6.heap.size) VN M := f6.off (w := w6) (fun i hi => by omega) (Nat.le_refl _)
        obtain ⟨W6, hW6, y6, b6⟩ : ∃ W, W = ((w6.alloc (.cells #[.int .i64 0, .int .i64 0, .int .i64 0, .int .i64 0, .int .i64 0, .int .i64 0, .int .i64 0, .int .i64 0, .int .i64 0, .int .i64 0, .slice none 0 0, .slice none 0 0, .slice none 0 0, .slice none 0 0] 31)).setRow w6.heap.size (filC VN M)) ∧ Ext w6 W ∧ W.heap[w6.heap.size]? = some (.cells (filC VN M) 31 (0, 0)) := ⟨_, rfl, boxed_row _ _ _ _⟩
        have f6 := f6.ext y6
        have z6 := x6.trans y6
        have b1 := z6.block b1
        have f1 := f1.ext z6
        have hsz6 : w.heap.size ≤ w6.heap.size := Nat.le_trans (He.out.trans x2).size x6.size
        have x6 := x2.trans z6
        clear z6 y6 x2 gA
        have b6' := b6
        rw [hW6] at b6'
        go_wp2_with (first
          | (refine wpList_store_row rfl 31 (.tmp 7) (.tmp 43) rfl _ _ rfl rfl 31 _ (heap_new_at _ _ (by first | rfl | simp)) (by kernel_rfl) rfl (by simp [filC, Value.oneCell']) ?_)
          | (refine wpList_load_row rfl 31 (.tmp 7) rfl (w6.heap.size) rfl 31 _ (0, 0) _ b6' Try.underlying31 rfl (by kernel_rfl) ?_))
        rw [← hW6]
        clear hW6 b6'
        generalize w6.heap.size = g at b6 ho6 hsz6 ⊢
        refine (KF.out _ _).mono ?_; rintro e w7 ⟨rfl, x7⟩
        go_wp2_with fail
        refine (HS.out _).mono ?_; rintro e w9 ⟨rfl, y9⟩
        go_wp2
        go_ret
        exact ⟨rfl, He.out.trans (x6.trans (x7.trans y9))⟩
end Go.Proofs.Ytkfpnijacfeogaa
