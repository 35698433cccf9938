/-
  CONTRACTS: package ask (layer 15): Parse.
-/
import Derived.Test.YtokfgdjkafiicaaAskW
import Derived.Test.YtokfgdjkafiicaaAskN
namespace Go.Proofs.Ytokfgdjkafiicaa
open Go.RowKit
set_option linter.unusedVariables false
set_option maxRecDepth 100000

theorem fil_ct {n : Nat} {f : Nat → Int} (hf : ∀ i, i < n → 0 ≤ f i ∧ f i < 256) (k : Int) : ∀ i, (filQ n f k i).ct < 65536
  | 0 => by show (0 : Int) < 65536; omega
  | i + 1 => by
    have h := fil_ct hf k i
    have ht : takV n f i < 65536 := (takA_bd hf).2
    show (setQ (fldO k i) (takV n f i) (filQ n f k i)).ct < 65536
    unfold setQ
    repeat' split
    all_goals first | exact h | exact ht
theorem par_small {n : Nat} {f : Nat → Int} (hn : n ≤ 100000) : (parQ n f).nb ≤ 1000000 ∧ (parQ n f).nr ≤ 1000000 := by
  have hl := lstN_le n f (parO n f)
  have hr := filQ_rest n f (f 0) (fldN (f 0))
  unfold parQ lisQ
  split
  · have := unN_le (m := lstN n f (parO n f)) (n := (filQ n f (f 0) (fldN (f 0))).ct)
    exact ⟨by dsimp only; omega, by dsimp only; rw [hr.2.2.2.1]; omega⟩
  split
  · exact ⟨by dsimp only; rw [hr.2.1]; omega, by dsimp only; unfold getN; split <;> omega⟩
  · exact ⟨by rw [hr.2.1]; omega, by rw [hr.2.2.2.1]; omega⟩
set_option maxHeartbeats 8000000 in
theorem aparse_any (a : Option Addr) (n c : Nat) (f : Nat → Int) (w : World) (ha : Holds .u8 w a n f) (hn : n ≤ 100000) (hnc : n ≤ c) (hcm : c ≤ maxLen) (hf : ∀ i, i < n → 0 ≤ f i ∧ f i < 256) :
    Calls Try.prog 17 #[.slice a n c] w fun e w' => ∃ V, e = .returned (.tuple #[.agg (qstC V (paQ n f)), .int .i64 (paE n f)]) ∧ QstAt w' V (paQ n f) ∧ Ext w w' := by
  have hways := paE_ways n f
  obtain ⟨W0, hW0, HX, He⟩ : ∃ W0, W0 = w.alloc (.cells #[.int .i64 0, .int .i64 0, .int .i64 0, .int .i64 0, .int .i64 0, .int .i64 0, .int .i64 0, .int .i64 0, .slice none 0 0, .slice none 0 0] 25) ∧ Hid (∀ W, Ext W0 W → W.heap[w.heap.size]? = some (.cells #[.int .i64 0, .int .i64 0, .int .i64 0, .int .i64 0, .int .i64 0, .int .i64 0, .int .i64 0, .int .i64 0, .slice none 0 0, .slice none 0 0] 25 (0, 0))) ∧ Hid (Ext w W0) := ⟨_, rfl, Lib.hid fun W hx => hx.block (heap_alloc_new w _), Lib.hid (Ext.alloc w _)⟩
  have hnI : (n : Int) ≤ 100000 := by omega
  by_cases h0 : n = 0
  · have hE : paE n f = 12 := by rcases hways with h | h | h | h; exact h.1; exact absurd h0 h.2.1; exact absurd h0 h.2.1; exact absurd h0 h.2.1
    have HE := Lib.hid (paQ_no hE (by decide))
    subst h0
    clear hways ha hf hE
    go_enter Try.func17, Try.ntmps17
    go_upto_region 1 with fail
    rw [← hW0]
    clear hW0
    have gR := HX.out _ (Ext.refl W0)
    have xe := He.out.trans (Ext.refl W0)
    go_wp2_with (first
      | (refine wpList_store_row rfl 25 (.tmp 2) (.tmp 9) rfl (w.heap.size) _ rfl rfl 25 _ gR (by kernel_rfl) rfl (by simp [Value.oneCell']) ?_))
    refine bodyPost_ret (results_row_tmp rfl _ _ w.heap.size 25 _ (0, 0) _ rfl (setRow_heap _ _ _ _ _ _ gR) Try.underlying25 rfl (by kernel_rfl)) rfl ?_
    rw [HE.out.1, HE.out.2]
    exact ⟨zeroQV, by rfl, zeroQ_at _, below_setRow xe (Nat.le_refl _) _⟩
  · obtain ⟨b, off, rfl, hb, hc⟩ := id (ha.resolve_left h0)
    have hbd := hf 0 (by omega)
    have hw0 : IntKind.i64.wrap (f 0) = f 0 := IntWalk.i64_in _ (by omega)
    have h0I : (0 : Int) < n := by omega
    have h0b : ((n : Int) == 0) = false := by simp; omega
    have HN0 := Lib.hid h0
    have c0 : W0.cell? ⟨b, off, none⟩ = some (.int .u8 (f 0)) := He.out.cell hb (show w.cell? ⟨b, off, none⟩ = some (.int .u8 (f 0)) from hc 0 (by omega))
    have hA0 := Lib.hid (ha.ext He.out)
    have hz0 : w.heap.size < W0.heap.size := by rw [hW0]; simp
    obtain ⟨W3, hW3, x3, g3⟩ : ∃ W, W = ((W0.alloc (.cells #[.int .i64 0, .int .i64 0, .int .i64 0, .int .i64 0, .int .i64 0, .int .i64 0, .int .i64 0, .int .i64 0, .slice none 0 0, .slice none 0 0] 44)).setRow W0.heap.size #[.int .i64 (f 0), .int .i64 0, .int .i64 0, .int .i64 0, .int .i64 0, .int .i64 0, .int .i64 0, .int .i64 0, .slice none 0 0, .slice none 0 0]) ∧ Ext W0 W ∧ W.heap[W0.heap.size]? = some (.cells (qstC zeroQV { zeroQ with k := f 0 }) 44 (0, 0)) := ⟨_, rfl, asked_row _ _ _ _⟩
    have ck : W3.cell? ⟨W0.heap.size, 0, none⟩ = some (.int .i64 (f 0)) := cell_of_heap g3 rfl
    cases hk : knownB (f 0) with
    | false =>
      have hE : paE n f = 1 := by
        rcases hways with h | h | h | h
        · exact absurd h.2 h0
        · exact h.1
        · rw [h.2.2.1] at hk; cases hk
        · rw [h.2.2.1] at hk; cases hk
      have HE := Lib.hid (paQ_no hE (by decide))
      have HK := Lib.hid hk
      clear hways ha hf hE hk hc hb hbd h0
      go_enter Try.func17, Try.ntmps17
      go_upto_region 1 with fail
      rw [← hW0]
      clear hW0
      go_upto_region 4 with (first
        | (refine wpList_store_row rfl 44 (.tmp 4) (.tmp 14) rfl _ _ rfl rfl 44 _ (heap_new_at _ _ (by first | rfl | simp)) (by kernel_rfl) rfl (by simp [Value.oneCell']) ?_))
      rw [← hW3]
      clear hW3 c0
      go_wp2_with fail
      refine (aknown_v HK.out _).mono ?_; rintro e w4 ⟨rfl, hw4⟩
      rw [hw4]
      have gR := HX.out _ x3
      have xe := He.out.trans x3
      clear hw4 w4 ck
      go_wp2_with (first
        | (refine wpList_store_row rfl 25 (.tmp 2) (.tmp 19) rfl (w.heap.size) _ rfl rfl 25 _ gR (by kernel_rfl) rfl (by simp [Value.oneCell']) ?_))
      refine bodyPost_ret (results_row_tmp rfl _ _ w.heap.size 25 _ (0, 0) _ rfl (setRow_heap _ _ _ _ _ _ gR) Try.underlying25 rfl (by kernel_rfl)) rfl ?_
      rw [HE.out.1, HE.out.2]
      exact ⟨zeroQV, by rfl, zeroQ_at _, below_setRow xe (Nat.le_refl _) _⟩
    | true =>
      have HK := Lib.hid hk
      have HFB := Lib.hid hf
      have HSy := Lib.hid (par_says hf (by omega) hk)
      have HSm := Lib.hid (par_small (f := f) hn)
      have HCt := Lib.hid (fil_ct hf (f 0) (fldN (f 0)))
      have HTk := Lib.hid (takO_le n (by omega) (fldN (f 0)))
      have HFr := Lib.hid (filQ_rest n f (f 0) (fldN (f 0)))
      have HW := Lib.hid hways
      have HPQ := Lib.hid (show paE n f = 0 → paQ n f = gueQ n f from fun h => by unfold paQ; rw [if_pos h])
      have h1n : 1 ≤ n := by omega
      have h1nI : (1 : Int) ≤ n := by omega
      clear hways ha hf hk hc hb hbd h0
      go_enter Try.func17, Try.ntmps17
      go_upto_region 1 with fail
      rw [← hW0]
      clear hW0
      go_upto_region 4 with (first
        | (refine wpList_store_row rfl 44 (.tmp 4) (.tmp 14) rfl _ _ rfl rfl 44 _ (heap_new_at _ _ (by first | rfl | simp)) (by kernel_rfl) rfl (by simp [Value.oneCell']) ?_))
      rw [← hW3]
      clear hW3 c0
      go_wp2_with fail
      refine (aknown_v HK.out _).mono ?_; rintro e w4 ⟨rfl, hw4⟩
      rw [hw4]
      clear hw4 w4
      go_upto_region 6 with fail
      go_cut [5] from 20 to 21 (fun v wx => v = .pointer (some ⟨W3.heap.size, 0, none⟩) ∧ Ext W3 wx ∧ ∃ A C, LefS W0 wx W3.heap.size n 1 f A C)
      case first => as_aux_lemma =>
        by_cases hc1 : c = 1
        · subst hc1
          go_wp2_with fail
          go_meet
          exact ⟨rfl, Ext.alloc _ _, some ⟨b, off, none⟩, 0, by rw [show n - 1 = 0 by omega]; exact heap_alloc_new W3 _, .inl (by omega), by omega, Nat.zero_le _⟩
        · have hc2 : 1 ≤ c := by omega
          go_wp2_with fail
          go_meet
          exact ⟨rfl, Ext.alloc _ _, some ⟨b, off + 1, none⟩, c - 1, heap_alloc_new W3 _, HoldsG.drop (mk := Value.int .u8) hA0.out (k := 1), by omega, by omega⟩
      case rest =>
        obtain ⟨rfl, x6, A, C, hL⟩ := hcut
        have HL := Lib.hid hL
        have ck6 := x6.cell (heap_lt g3) ck
        have hl6 : W3.heap.size < wc.heap.size := heap_lt hL.at_
        clear hL ck
        go_wp2_with fail
        refine (fieldsOf_yes _ HK.out _).mono ?_; rintro e w7 ⟨F, rfl, hF, hw7⟩
        rw [hw7]
        have hen := hF.enters
        have HFl := Lib.hid hF.tells
        clear hw7 hF w7 ck6
        go_wp2_with fail
        refine (HFl.out W0.heap.size _).mono ?_; rintro e w8 ⟨fb, fo, rfl, hf8, hb8, x8⟩
        have hg3 := heap_lt g3
        have hlt0 := x3.size
        have hS : FieS W0 w8 fb fo W0.heap.size zeroQV (f 0) (filQ n f (f 0) 0) := ⟨(x3.trans x6).trans x8, Nat.le_refl _, (x6.trans x8).block g3, hf8, by omega⟩
        have KF := Lib.hid (fill_c W0 w8 fb fo W0.heap.size W3.heap.size n (f 0) f A C hS (HL.out.ext x8) hlt0 (by omega) (by omega) h1n hn HFB.out)
        clear hS hf8 hen HFl HL
        go_wp2_with (go_at_call 35; refine KF.out.mono ?_; rintro e w9 ⟨rfl, hS9, A9, C9, hL9⟩)
        have KL := Lib.hid (fillList_c W0 w9 W0.heap.size W3.heap.size n (takO n (fldN (f 0))) f (filQ n f (f 0) (fldN (f 0))) A9 C9 hS9.x hL9 hS9.at_ HFr.out.2.1 HFr.out.2.2.2.1 (Nat.le_refl _) hlt0 (by omega) HTk.out.1 hn HFB.out (by have := HCt.out; omega))
        clear hS9 hL9 KF
        refine KL.out.mono ?_; rintro e wA ⟨rfl, V, AA, CA, gA, qA, lA, xA⟩
        rw [HFr.out.1] at lA
        have hpL : lisL n f (takO n (fldN (f 0))) (f 0) = parL n f := rfl
        have hpQ : lisQ n f (takO n (fldN (f 0))) (filQ n f (f 0) (fldN (f 0))) = parQ n f := rfl
        rw [hpL] at lA
        rw [hpQ] at gA qA
        have cl : wA.cell? ⟨W3.heap.size, 0, none⟩ = some (.slice AA (parL n f) CA) := cell_of_heap lA rfl
        have KR := Lib.hid (aright_any V (parQ n f) wA qA HSm.out.1 HSm.out.2)
        have GA := Lib.hid gA
        have QA := Lib.hid qA
        have XA := Lib.hid xA
        have hpl : parL n f ≤ n := by
          unfold parL lisL lefN
          split
          · split <;> omega
          · omega
        have h3 : ¬ (parL n f = 0 ∧ rightQ (parQ n f) = true) → paE n f = 3 := fun hne => by
          rcases HW.out with h | h | h | h
          · exact absurd h.2 HN0.out
          · have := HK.out; rw [h.2.2] at this; cases this
          · exact h.1
          · have h2 := HSy.out.2 h.2.2.2
            refine absurd ⟨h2.1, ?_⟩ hne
            rw [h2.2]
            exact ((saysB_iff n f).1 h.2.2.2).1
        have hok : parL n f = 0 ∧ rightQ (parQ n f) = true → paE n f = 0 ∧ paQ n f = parQ n f := fun hh => by
          obtain ⟨h1, h2⟩ := HSy.out.1 hh
          have hE : paE n f = 0 := by
            rcases HW.out with h | h | h | h
            · exact absurd h.2 HN0.out
            · have := HK.out; rw [h.2.2] at this; cases this
            · rw [h.2.2.2] at h1; cases h1
            · exact h.1
          exact ⟨hE, by rw [HPQ.out hE, h2]⟩
        have H3 := Lib.hid h3
        have HOK := Lib.hid hok
        clear h3 hok KL gA qA lA xA x6 x8 hb8 hl6 hg3 hlt0 g3 hpL hpQ
        obtain ⟨pl, hpl2⟩ : ∃ pl, pl = parL n f := ⟨_, rfl⟩
        rw [← hpl2] at cl H3 HOK hpl
        clear hpl2
        obtain ⟨T, hT⟩ : ∃ T, T = parQ n f := ⟨_, rfl⟩
        rw [← hT] at KR GA QA H3 HOK
        clear hT
        by_cases hp0 : pl = 0
        · subst hp0
          cases hr : rightQ T with
          | true =>
            have HE := Lib.hid (HOK.out ⟨rfl, hr⟩)
            rw [hr] at KR
            have gL := GA.out
            clear H3 HOK hr
            go_wp2_with (first
              | (refine wpList_load_row_g (by rfl) 44 (.tmp 4) rfl W0.heap.size rfl 44 _ (0, 0) _ gL Try.underlying44 rfl (by kernel_rfl) ?_))
            refine KR.out.mono ?_; rintro e wB ⟨rfl, xB⟩
            have gB := xB.block gL
            have xe := He.out.trans (XA.out.trans xB)
            have gR := HX.out _ (XA.out.trans xB)
            have hq := Lib.hid (setRow_qst (qstC V T) (QA.out.ext xB) gR)
            clear gL cl
            go_wp2_with (first
              | (refine wpList_load_row rfl 44 (.tmp 4) rfl W0.heap.size rfl 44 _ (0, 0) _ gB Try.underlying44 rfl (by kernel_rfl) ?_)
              | (refine wpList_store_row rfl 25 (.tmp 2) (.tmp 38) rfl (w.heap.size) _ rfl rfl 25 _ gR (by kernel_rfl) rfl (by simp [qstC, Value.oneCell']) ?_))
            refine bodyPost_ret (results_row_tmp rfl _ _ w.heap.size 25 _ (0, 0) _ rfl (setRow_heap _ _ _ _ _ _ gR) Try.underlying25 rfl (by kernel_rfl)) rfl ?_
            rw [HE.out.1, HE.out.2]
            exact ⟨V, by rfl, hq.out, below_setRow xe (Nat.le_refl _) _⟩
          | false =>
            have HE := Lib.hid (paQ_no (H3.out (fun hh => by rw [hr] at hh; cases hh.2)) (by decide))
            rw [hr] at KR
            have gL := GA.out
            clear H3 HOK hr
            go_wp2_with (first
              | (refine wpList_load_row_g (by rfl) 44 (.tmp 4) rfl W0.heap.size rfl 44 _ (0, 0) _ gL Try.underlying44 rfl (by kernel_rfl) ?_))
            refine KR.out.mono ?_; rintro e wB ⟨rfl, xB⟩
            have xe := He.out.trans (XA.out.trans xB)
            have gR := HX.out _ (XA.out.trans xB)
            clear gL cl
            go_wp2_with (first
              | (refine wpList_store_row rfl 25 (.tmp 2) (.tmp 37) rfl (w.heap.size) _ rfl rfl 25 _ gR (by kernel_rfl) rfl (by simp [Value.oneCell']) ?_))
            refine bodyPost_ret (results_row_tmp rfl _ _ w.heap.size 25 _ (0, 0) _ rfl (setRow_heap _ _ _ _ _ _ gR) Try.underlying25 rfl (by kernel_rfl)) rfl ?_
            rw [HE.out.1, HE.out.2]
            exact ⟨zeroQV, by rfl, zeroQ_at _, below_setRow xe (Nat.le_refl _) _⟩
        · have HE := Lib.hid (paQ_no (H3.out (fun hh => hp0 hh.1)) (by decide))
          have hpI : (0 : Int) < pl := by omega
          have gR := HX.out _ XA.out
          have xe := He.out.trans XA.out
          clear H3 HOK KR
          go_wp2_with (first
            | (refine wpList_store_row rfl 25 (.tmp 2) (.tmp 37) rfl (w.heap.size) _ rfl rfl 25 _ gR (by kernel_rfl) rfl (by simp [Value.oneCell']) ?_))
          refine bodyPost_ret (results_row_tmp rfl _ _ w.heap.size 25 _ (0, 0) _ rfl (setRow_heap _ _ _ _ _ _ gR) Try.underlying25 rfl (by kernel_rfl)) rfl ?_
          rw [HE.out.1, HE.out.2]
          exact ⟨zeroQV, by rfl, zeroQ_at _, below_setRow xe (Nat.le_refl _) _⟩
end Go.Proofs.Ytokfgdjkafiicaa
