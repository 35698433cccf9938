/-
  CONTRACTS: bilgeref09.All.
-/
import Derived.Test.YtlemnjphjmnmbaaCutR
import Derived.Test.YtlemnjphjmnmbaaClock
import Derived.StillTailTactics
import Derived.Deep.LoopGhost
namespace Go.Proofs.Ytlemnjphjmnmbaa
open Go.RowKit
set_option linter.unusedVariables false

theorem Try.infoSeg : (Try.prog.info? 48).map (fun i => (i.zero, i.size, i.bytes)) = some (some (.agg #[.slice none 0 0, .int .i64 0, .int .i64 0, .int .i64 0, .bool false, .bool false]), 6, 56) := by kernel_rfl
theorem seg_zero : segC none 0 zeroS = #[.slice none 0 0, .int .i64 0, .int .i64 0, .int .i64 0, .bool false, .bool false] := rfl
set_option maxHeartbeats 4000000 in
theorem rall_no (a : Option Addr) (n cp : Nat) (L : List Byt) (c s l u f : Int) (w : World) (ha : HoldsL 3 byt w a L) (hL : L.length = n) (hn : n ≤ 1000000) (h : ¬ (rightB c s l u = true ∧ rightI L f = true)) :
    Calls Try.prog 42 #[.slice a n cp, timesC c s l u, .int .i64 f] w fun e w' => e = .returned (.slice none 0 0) ∧ Ext w w' := by
  have hr := fun w => rright_any c s l u w
  have h9 := fun w' (x : Ext w w') => r9right_any a n cp L f w' (ha.ext x) hL hn
  unfold timesC
  cases h1 : rightB c s l u
  · rw [h1] at hr
    clear h h9 ha hL hn h1
    go_enter Try.func42, Try.ntmps42
    go_wp2_with fail
    refine (hr _).mono ?_; rintro e w1 ⟨rfl, x1⟩
    clear hr
    go_wp2
    go_ret
    exact ⟨rfl, (Ext.alloc _ _).trans x1⟩
  · rw [h1] at hr h
    have h2 : rightI L f = false := by simpa using h
    rw [h2] at h9
    have H9 := Lib.hid h9
    clear h h9 ha hL hn h1 h2
    go_enter Try.func42, Try.ntmps42
    go_wp2_with fail
    refine (hr _).mono ?_; rintro e w1 ⟨rfl, x1⟩
    have x2 := (Ext.alloc _ _).trans x1
    clear hr x1
    go_wp2_with fail
    refine (H9.out _ x2).mono ?_; rintro e w2 ⟨rfl, rfl⟩
    clear H9
    go_wp2
    go_ret
    exact ⟨rfl, x2⟩
theorem rising_drop {f : Int} {b : Byt} {l : List Byt} (h : risingI f (b :: l) = true) : f ≤ b.1 ∧ b.1 ≤ 1099511627776 ∧ risingI b.1 l = true := by
  unfold risingI at h
  simp only [Bool.and_eq_true, decide_eq_true_eq] at h
  exact ⟨h.1.1, h.1.2, h.2⟩
set_option maxRecDepth 100000 in
set_option maxHeartbeats 8000000 in
theorem rall_yes (a : Option Addr) (n cp : Nat) (L : List Byt) (c s l u f : Int) (w : World) (ha : HoldsL 3 byt w a L) (hL : L.length = n) (hn : n ≤ 1000000) (hb : ∀ x ∈ L, 0 ≤ x.2.1 ∧ x.2.1 < 256) (h1 : rightB c s l u = true) (h2 : rightI L f = true) :
    Calls Try.prog 42 #[.slice a n cp, timesC c s l u, .int .i64 f] w fun e w' => ∃ z x Ls, e = .returned (.slice z (List.length Ls) x) ∧ Ext w w' ∧ SegsO w.heap.size w' z x Ls ∧ Ls.map Prod.snd = cutG s l true f zeroS L := by
  obtain ⟨iS, hiS, hzS0, hzS1, hzS2⟩ := info_parts Try.infoSeg
  have hr := fun w => rright_any c s l u w
  rw [h1] at hr
  have h9 := fun w' (x : Ext w w') => r9right_any a n cp L f w' (ha.ext x) hL hn
  rw [h2] at h9
  have hc := (rightB_iff c s l u).1 h1
  have hf : (0 ≤ f ∧ f ≤ 1099511627776) ∧ risingI f L = true := by
    unfold rightI at h2
    simpa only [Bool.and_eq_true, decide_eq_true_eq] using h2
  obtain ⟨R, hR⟩ : ∃ R, R = cutG s l true f zeroS L := ⟨_, rfl⟩
  rw [← hR]
  have HR := Lib.hid hR
  have HR9 := Lib.hid h9
  have HC := Lib.hid hc
  have HF := Lib.hid hf
  have HA := Lib.hid ha
  have HL := Lib.hid hL
  have HB := Lib.hid hb
  have HN := Lib.hid hn
  unfold timesC
  clear h1 h2 h9 hc hf hR ha hL hb hn
  go_enter Try.func42, Try.ntmps42
  go_wp2_with fail
  refine (hr _).mono ?_; rintro e w1 ⟨rfl, x1⟩
  have x2 := (Ext.alloc _ _).trans x1
  have T1 := x1.made 1 _ rfl
  have T2 := x1.made 2 _ rfl
  clear hr x1
  go_wp2_with fail
  refine (HR9.out _ x2).mono ?_; rintro e w2 ⟨rfl, rfl⟩
  clear HR9
  go_wp2_with fail
  obtain ⟨B, hB⟩ : ∃ B, B = w1.heap.size := ⟨_, rfl⟩
  have m0 : CutM w1 (w1.alloc (.cells #[.slice none 0 0, .int .i64 0, .int .i64 0, .int .i64 0, .bool false, .bool false] 48)) B B (.slice none 0 0) [] none 0 zeroS :=
    ⟨World.ownsRow_nil _ _ _ _, by rw [hB]; exact heap_alloc_new _ _, fun x hx => by simp at hx, BytesM.zero _ _ _ _, Ext.alloc _ _, by simp [Value.ownBlock], hB, Nat.le_refl _⟩
  rw [← hB]
  have HBB := Lib.hid hB
  clear hB
  go_loopw [2, 7, 9] (fun fv vv iv wr => ∃ (k : Nat) (g : Int) (Ls : List SegP) (A : Option Addr) (c' : Nat) (sg : Seg), k ≤ n ∧ iv = .int .i64 k ∧ fv = .int .i64 g ∧ Hid (0 ≤ g ∧ g ≤ 1099511627776 ∧ risingI g (L.drop k) = true) ∧ CutM w1 wr B B vv Ls A c' sg ∧
    Hid (R = Ls.map Prod.snd ++ cutG s l (decide (k = 0)) g sg (L.drop k)) ∧ Hid (0 ≤ sg.count ∧ sg.count ≤ k ∧ (0 < k → 0 < sg.count) ∧ Ls.length ≤ k)) (fun _ _ iv _ => n - (intOf iv).toNat)
  case atStart => exact ⟨0, f, [], none, 0, zeroS, Nat.zero_le _, rfl, rfl, Lib.hid ⟨HF.out.1.1, HF.out.1.2, HF.out.2⟩, m0, Lib.hid HR.out, Lib.hid ⟨by decide, by decide, by omega, by simp⟩⟩
  case round =>
    clear m0
    obtain ⟨k, g, Ls, A, c', sg, hk, rfl, rfl, HG, hm, HK, HQ⟩ := hrel
    by_cases hlt : k < n
    · have hkL : k < L.length := by rw [HL.out]; exact hlt
      obtain ⟨p, o, rfl, hp, -⟩ := HA.out.resolve_left (by intro e; rw [e] at hkL; simp at hkL)
      obtain ⟨c0, c1, c2⟩ := HA.out.byt_at k hkL
      have hd : L.drop k = L[k] :: L.drop (k + 1) := List.drop_eq_getElem_cons hkL
      obtain ⟨⟨X, Y, Z⟩, hx⟩ : ∃ b, b = L[k] := ⟨_, rfl⟩
      have hbb := HB.out L[k] (List.getElem_mem _)
      rw [← hx] at c0 c1 c2 hd hbb
      simp only at c0 c1 c2 hbb
      obtain ⟨b0, b1⟩ := hbb
      obtain ⟨g0, g1, g2⟩ := HG.out
      rw [hd] at g2
      obtain ⟨r0, r1, r2⟩ := rising_drop g2
      simp only at r0 r1 r2
      have x3 := x2.trans hm.ext
      have e0 := x3.cell hp c0
      have e1 := x3.cell hp c1
      have e2 := x3.cell hp c2
      have t1 := hm.ext.cell (World.block_lt_of_cell? _ _ T1) T1
      have t2 := hm.ext.cell (World.block_lt_of_cell? _ _ T2) T2
      have s4 := cell_of_heap (j := 4) hm.seg rfl
      have f4 := frozen_of_row _ _ 4 _ _ hm.seg
      have w0 : IntKind.i64.wrap (X - g) = X - g := IntWalk.i64_in _ (by omega)
      have hlt' : (k : Int) < n := by omega
      have hB0 : B < wr.heap.size := heap_lt hm.seg
      have HD := Lib.hid hd
      have HR2 := Lib.hid (And.intro r0 (And.intro r1 r2))
      have HG0 := Lib.hid g0
      have HLt := Lib.hid hlt
      have wk : IntKind.i64.wrap ((k : Int) + 1) = (k : Int) + 1 := IntWalk.i64_in _ (by have := HN.out; omega)
      have HE := Lib.hid (fun w' (x : Ext w w') => And.intro (x.cell hp c0) (And.intro (x.cell hp c1) (x.cell hp c2)))
      clear hd hx g0 g1 g2 r0 r1 r2 hkL c0 c1 c2
      go_upto_if 34 with fail
      go_cut [7] (fun vv wx => ∃ Ls' A1 c1 s1, CutM w1 wx B B vv Ls' A1 c1 s1 ∧ Hid (R = Ls'.map Prod.snd ++ cutG s l false X (oneS s1 (X, Y, Z)) (L.drop (k + 1))) ∧ Hid (0 ≤ s1.count ∧ s1.count ≤ k ∧ Ls'.length ≤ k + 1))
      case first =>
        have HM := Lib.hid hm
        have HX3 := Lib.hid x3
        clear hm x3
        by_cases hk0 : k = 0
        · have hgap := HM.out.gap (decide (X - g < l))
          have hend : R = Ls.map Prod.snd ++ cutG s l false X (oneS (gapS sg (decide (X - g < l))) (X, Y, Z)) (L.drop (k + 1)) := by
            rw [HK.out, HD.out, decide_eq_true hk0, cutG_first]
          have HEnd := Lib.hid hend
          have HGap := Lib.hid hgap
          have hq := Lib.hid (And.intro HQ.out.1 (And.intro HQ.out.2.1 (Nat.le_succ_of_le HQ.out.2.2.2)))
          clear hend hgap
          subst hk0
          go_wp2_with fail
          go_meet
          exact ⟨_, _, _, _, HGap.out, Lib.hid HEnd.out, hq⟩
        · have hk1 : ¬ ((k : Int) = 0) := by omega
          have hkk := HK.out
          rw [decide_eq_false hk0, HD.out] at hkk
          have hq := HQ.out
          by_cases h3 : l ≤ X - g
          · rw [cutG_cut (b := (X, Y, Z)) h3] at hkk
            have HKK := Lib.hid hkk
            have hbase : B ≤ wr.heap.size := Nat.le_of_lt hB0
            have hlen : Ls.length ≤ 1000000 := by have := HN.out; omega
            have hm1 := HM.out
            clear hkk hq HK
            obtain ⟨n1, f1, t01, t11, k1, q1, d1⟩ := sg
            have hseg := hm1.seg
            have hown := hm1.own
            have hsz : segC A c' ⟨n1, f1, t01, t11, k1, q1, d1⟩ = #[.slice A n1 c', .int .i64 t01, .int .i64 t11, .int .i64 k1, .bool q1, .bool d1] := rfl
            rw [hsz] at hseg
            have HOwn := Lib.hid hown
            clear hown hsz s4 f4 hm1
            go_wp2_with (first
              | (refine wpList_load_row rfl 48 (.tmp 8) rfl B rfl 48 _ (0, 0) _ hseg Try.underlying48 rfl (by kernel_rfl) ?_)
              | (at_builtin; refine wpList_append_lies _ rfl (.tmp 44) (.tmp 46) _ rfl B 48 iS _ 6 56 Try.underlying44 hiS hzS0 hzS1 hzS2 rfl (by decide) u7 Ls.length (Ls.flatMap segL) rfl (own_ext HOwn.out (Ext.alloc _ _)) ⟨wr.heap.size, 0, none⟩ 1 1
                  [.slice A n1 c', .int .i64 t01, .int .i64 t11, .int .i64 k1, .bool q1, .bool d1] rfl rfl (World.news_of_block (heap_alloc_new wr _)) (by simp [Value.oneCell']) (by decide) (by unfold maxLen; omega) (by omega) (by simp; omega) _ rfl ?_
                 intro gg cap w5 hown5 hgr5 hg5 hlt5
                 have hm5 := CutM.emit HM.out (Ext.alloc wr (.cells #[.slice A n1 c', .int .i64 t01, .int .i64 t11, .int .i64 k1, .bool q1, .bool d1] 48)) hown5 hgr5 hg5
                 have hm6 := hm5.row (BytesM.zero _ _ _ _)
                 have hseg5 := hm5.seg
                 have HM6 := Lib.hid hm6
                 clear hown5 hgr5 hg5 hlt5 hm5 hm6 hseg)
              | (refine wpList_store_row rfl 48 (.tmp 8) (.tmp 48) rfl B _ rfl rfl 48 _ hseg5 (by kernel_rfl) (by rfl) (by simp [Value.oneCell']) ?_))
            go_meet
            refine ⟨_, _, _, _, HM6.out, Lib.hid ?_, Lib.hid ⟨by decide, by have := HQ.out; simp [zeroS], by rw [List.length_append, List.length_singleton]; have := HQ.out.2.2.2; omega⟩⟩
            rw [HKK.out, List.map_append, List.append_assoc]; rfl
          · by_cases h4 : s < X - g
            · rw [cutG_gap (b := (X, Y, Z)) h3 h4] at hkk
              have HGap := Lib.hid (HM.out.gap true)
              have HEnd := Lib.hid hkk
              have HQ2 := Lib.hid (And.intro HQ.out.1 (And.intro HQ.out.2.1 (Nat.le_succ_of_le HQ.out.2.2.2)))
              clear hkk hq
              go_wp2_with fail
              go_meet
              exact ⟨_, _, _, _, HGap.out, Lib.hid HEnd.out, HQ2⟩
            · rw [cutG_on (b := (X, Y, Z)) h3 h4] at hkk
              have HEnd := Lib.hid hkk
              have HQ2 := Lib.hid (And.intro HQ.out.1 (And.intro HQ.out.2.1 (Nat.le_succ_of_le HQ.out.2.2.2)))
              clear hkk hq
              go_wp2_with fail
              go_meet
              exact ⟨_, _, _, _, HM.out, Lib.hid HEnd.out, HQ2⟩
      case rest =>
        obtain ⟨Ls', A1, cc, s1, hm1, HK1, HQ1⟩ := hcut
        clear hm x3 e0 e1 e2 t1 t2 s4 f4 w0 hB0 HK HQ HG HD
        obtain ⟨c0, c1, c2⟩ := HE.out wc (x2.trans hm1.ext)
        obtain ⟨n1, f1, t01, t11, k1, q1, d1⟩ := s1
        have hseg := hm1.seg
        have hsz : segC A1 cc ⟨n1, f1, t01, t11, k1, q1, d1⟩ = #[.slice A1 n1 cc, .int .i64 t01, .int .i64 t11, .int .i64 k1, .bool q1, .bool d1] := rfl
        rw [hsz] at hseg
        have l0 := cell_of_heap (j := 0) hseg rfl
        have l1 := cell_of_heap (j := 1) hseg rfl
        have l2 := cell_of_heap (j := 2) hseg rfl
        have l3 := cell_of_heap (j := 3) hseg rfl
        have l4 := cell_of_heap (j := 4) hseg rfl
        have l5 := cell_of_heap (j := 5) hseg rfl
        have hone := rone_any A1 cc ⟨n1, f1, t01, t11, k1, q1, d1⟩ (X, Y, Z) wc.drew hm1.cur.holds hm1.cur.le hm1.cur.max hm1.cur.few HQ1.out.1 (by have := HQ1.out.2.1; have := HN.out; omega)
        rw [hsz, show (byt (X, Y, Z)).toArray = #[.int .i64 X, .int .u8 Y, .bool Z] from rfl] at hone
        have HM := Lib.hid hm1
        have HO := Lib.hid hone
        clear hm1 hone hsz hseg
        go_wp2_with fail
        go_still_tail 5, (by kernel_rfl)
        go_wp2_with fail
        refine HO.out.mono ?_; rintro e w5 ⟨A5, c5, rfl, x5, h5, q5, m5, fr5⟩
        have hm5 := HM.out.later ((Ext.drew wc).trans x5)
        have hS5 := SegB.one HM.out.cur.small (b := (X, Y, Z)) b0 b1
        have hF5 := oneS_few HM.out.cur.few (b := (X, Y, Z))
        have hB5 : BytesM w5 B B u7 A5 c5 (oneS ⟨n1, f1, t01, t11, k1, q1, d1⟩ (X, Y, Z)) := by
          refine ⟨h5, q5, m5, hS5, hF5, fun hn0 pp hpp => ?_⟩
          rcases fr5 with ⟨e, e2⟩ | e
          · subst e
            exact HM.out.cur.off (by rw [← e2]; exact hn0) pp hpp
          · have h6 := e pp hpp
            have h7 := heap_lt HM.out.seg
            rw [heap_drew] at h6
            refine ⟨by omega, by omega, fun h8 => ?_⟩
            have h9 := (HM.out.own.lt _ h8).2
            omega
        have hm6 := hm5.row hB5
        have hseg5 := hm5.seg
        have HM6 := Lib.hid hm6
        clear hm5 hm6 hS5 hF5 hB5 h5 q5 m5 fr5 x5
        have c9 := HE.out (w5.setRow B (segC A5 c5 (oneS ⟨n1, f1, t01, t11, k1, q1, d1⟩ (X, Y, Z)))) (x2.trans HM6.out.ext)
        obtain ⟨c9, -, -⟩ := c9
        clear c0 c1 c2 l0 l1 l2 l3 l4 l5 HM HO
        have hq9 : (oneS ⟨n1, f1, t01, t11, k1, q1, d1⟩ (X, Y, Z)).count = k1 + 1 := rfl
        have HQ9 := Lib.hid hq9
        have hcut := HK1.out
        have HCut := Lib.hid hcut
        clear hq9 hcut HK1
        obtain ⟨s9, hs9⟩ : ∃ s9, s9 = oneS ⟨n1, f1, t01, t11, k1, q1, d1⟩ (X, Y, Z) := ⟨_, rfl⟩
        rw [← hs9] at c9 HM6 HQ9 HCut ⊢
        clear hs9
        go_wp2_with (refine wpList_store_row rfl 48 (.tmp 8) (.tmp 59) rfl B _ rfl rfl 48 _ hseg5 (by unfold segC; kernel_rfl) (by unfold segC; rfl) (by unfold segC; simp [Value.oneCell']) ?_)
        go_roundw
        case rel =>
          refine ⟨k + 1, X, Ls', A5, c5, s9, by have := HLt.out; omega, by go_num, rfl, Lib.hid ⟨by have := HR2.out; have := HG0.out; omega, HR2.out.2.1, HR2.out.2.2⟩, HM6.out, Lib.hid (by rw [decide_eq_false (Nat.succ_ne_zero k)]; exact HCut.out), Lib.hid ⟨?q1, ?q2, fun _ => ?q3, HQ1.out.2.2⟩⟩
          case q1 => rw [HQ9.out]; have := HQ1.out.1; omega
          case q2 => rw [HQ9.out]; have := HQ1.out.2.1; omega
          case q3 => rw [HQ9.out]; have := HQ1.out.1; omega
        case measure => have := HLt.out; simp [intOf]; omega
    · have hkn : k = n := by omega
      have hlt' : ¬ ((k : Int) < n) := by omega
      have hd : L.drop k = [] := List.drop_of_length_le (by rw [HL.out]; omega)
      have hkk := HK.out
      rw [hd, cutG_nil] at hkk
      obtain ⟨n1, f1, t01, t11, k1, q1, d1⟩ := sg
      have hseg := hm.seg
      have hsz : segC A c' ⟨n1, f1, t01, t11, k1, q1, d1⟩ = #[.slice A n1 c', .int .i64 t01, .int .i64 t11, .int .i64 k1, .bool q1, .bool d1] := rfl
      rw [hsz] at hseg
      have s3 := cell_of_heap (j := 3) hseg rfl
      have HM := Lib.hid hm
      have HOwn := Lib.hid hm.own
      by_cases h0 : 0 < k1
      · rw [if_pos (show 0 < (⟨n1, f1, t01, t11, k1, q1, d1⟩ : Seg).count from h0)] at hkk
        have HKK := Lib.hid hkk
        have hbase : B ≤ wr.heap.size := Nat.le_of_lt (heap_lt hm.seg)
        have hlen : Ls.length ≤ 1000000 := by have := HN.out; have := HQ.out.2.2.2; omega
        clear hkk hm hsz hkn hd hk HK HQ HG
        go_wp2_with (first
          | (refine wpList_load_row rfl 48 (.tmp 8) rfl B rfl 48 _ (0, 0) _ hseg Try.underlying48 rfl (by kernel_rfl) ?_)
          | (at_builtin; refine wpList_append_lies _ rfl (.tmp 68) (.tmp 70) _ rfl B 48 iS _ 6 56 Try.underlying44 hiS hzS0 hzS1 hzS2 rfl (by decide) u7 Ls.length (Ls.flatMap segL) rfl (own_ext HOwn.out (Ext.alloc _ _)) ⟨wr.heap.size, 0, none⟩ 1 1
              [.slice A n1 c', .int .i64 t01, .int .i64 t11, .int .i64 k1, .bool q1, .bool d1] rfl rfl (World.news_of_block (heap_alloc_new wr _)) (by simp [Value.oneCell']) (by decide) (by unfold maxLen; omega) (by omega) (by simp; omega) _ rfl ?_
             intro gg cap w5 hown5 hgr5 hg5 hlt5
             have hm5 := CutM.emit HM.out (Ext.alloc wr (.cells #[.slice A n1 c', .int .i64 t01, .int .i64 t11, .int .i64 k1, .bool q1, .bool d1] 48)) hown5 hgr5 hg5
             have hd5 := hm5.done
             have HX5 := Lib.hid hm5.ext
             have HD5 := Lib.hid hd5
             clear hown5 hgr5 hg5 hlt5 hm5 hd5 hseg))
        go_ret
        obtain ⟨z, x, hv, hs⟩ := HD5.out
        exact ⟨z, x, _, congrArg Ending.returned hv, x2.trans HX5.out, hs.base (by rw [HBB.out]; exact x2.size), by rw [HKK.out, List.map_append]; rfl⟩
      · rw [if_neg (show ¬ 0 < (⟨n1, f1, t01, t11, k1, q1, d1⟩ : Seg).count from h0), List.append_nil] at hkk
        have hd5 := hm.done
        have HX5 := Lib.hid hm.ext
        have HD5 := Lib.hid hd5
        have HKK := Lib.hid hkk
        clear hkk hm hsz hkn hd hk HK HQ HG hd5 hseg
        go_wp2
        go_ret
        obtain ⟨z, x, hv, hs⟩ := HD5.out
        exact ⟨z, x, _, congrArg Ending.returned hv, x2.trans HX5.out, hs.base (by rw [HBB.out]; exact x2.size), HKK.out.symm⟩
/-- All segments. -/
theorem rall_any (a : Option Addr) (n cp : Nat) (L : List Byt) (c s l u f : Int) (w : World) (ha : HoldsL 3 byt w a L) (hL : L.length = n) (hn : n ≤ 1000000) (hb : ∀ x ∈ L, 0 ≤ x.2.1 ∧ x.2.1 < 256) :
    Calls Try.prog 42 #[.slice a n cp, timesC c s l u, .int .i64 f] w fun e w' => ∃ z x Ls, e = .returned (.slice z (List.length Ls) x) ∧ Ext w w' ∧ SegsO w.heap.size w' z x Ls ∧ Ls.map Prod.snd = allS c s l u f L := by
  by_cases h : rightB c s l u = true ∧ rightI L f = true
  · unfold allS; rw [if_pos h]
    exact rall_yes a n cp L c s l u f w ha hL hn hb h.1 h.2
  · unfold allS; rw [if_neg h]
    exact (rall_no a n cp L c s l u f w ha hL hn h).mono fun e w' ⟨he, x⟩ => ⟨none, 0, [], he, x, SegsO.nil _ _, rfl⟩
end Go.Proofs.Ytlemnjphjmnmbaa
