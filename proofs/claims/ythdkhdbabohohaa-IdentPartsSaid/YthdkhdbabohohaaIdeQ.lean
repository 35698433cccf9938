/-
  CONTRACTS: bilgeref21 (layer 21): part, Answer.
-/
import Derived.Test.YthdkhdbabohohaaIdeP
import Derived.Test.YthdkhdbabohohaaIdeW
import Derived.Laws.CopyOwn
namespace Go.Proofs.Ythdkhdbabohohaa
open Go.RowKit
set_option linter.unusedVariables false
set_option maxRecDepth 100000

theorem ObjsAt.take {w : World} {a : Option Addr} {n c : Nat} {L : List Ob} (h : ObjsAt w a n c L) {k : Nat} (hk : k ≤ n) : ObjsAt w a k c (L.take k) :=
  ⟨by rw [List.length_take, h.len]; omega, h.h.takeL k, by have := h.l; omega, h.m, fun z hz => h.each z (List.mem_of_mem_take hz)⟩
theorem fit_step {F : List Ob} {k : Nat} (hk : k < F.length) (s : Nat) (hs : s = 6 + lenO (F.take (k + 1))) : fitF (6 + lenO (F.take k)) (F.drop k) = if s ≤ 252 then fitF s (F.drop (k + 1)) + 1 else 0 := by
  have e : lenO (F.take (k + 1)) = lenO (F.take k) + (2 + (F[k]).n) := by rw [List.take_succ_eq_append_getElem hk, lenO_append]; simp [lenO]
  rw [List.drop_eq_getElem_cons hk]
  show (if 6 + lenO (F.take k) + 2 + (F[k]).n ≤ 252 then fitF (6 + lenO (F.take k) + 2 + (F[k]).n) (F.drop (k + 1)) + 1 else 0) = _
  rw [show 6 + lenO (F.take k) + 2 + (F[k]).n = s by omega]
set_option maxHeartbeats 8000000 in
theorem rpart21_any (a b : Option Addr) (n m c d : Nat) (L F : List Ob) (co : Int) (w : World) (hL : ObjsAt w a n c L) (hF : ObjsAt w b m d F) (fL : ObjF L) (fF : ObjF F) :
    Calls Try.prog 39 #[.slice a n c, .slice b m d, .int .i64 co] w fun e w' => e = .returned (.agg (prC (partA L F co) b (fitF 6 F) d)) ∧ Ext w w' := by
  obtain ⟨V, hV⟩ : ∃ V, levelO L = V := ⟨_, rfl⟩
  obtain ⟨W1, hW1, x1, HZ1⟩ : ∃ W1, W1 = w.alloc (.cells #[.int .i64 0, .int .i64 0, .bool false, .int .i64 0, .slice none 0 0] 33) ∧ Ext w W1 ∧ Hid (W1.heap[w.heap.size]? = some (.cells #[.int .i64 0, .int .i64 0, .bool false, .int .i64 0, .slice none 0 0] 33 (0, 0))) := ⟨_, rfl, Ext.alloc _ _, Lib.hid (heap_alloc_new _ _)⟩
  obtain ⟨G, hG⟩ : ∃ G, G = W1.heap.size := ⟨_, rfl⟩
  obtain ⟨W2, hW2, x2, HG2⟩ : ∃ W2, W2 = W1.alloc (.cells #[.int .i64 co, .int .i64 V, .bool false, .int .i64 0, .slice none 0 0] 33) ∧ Ext W1 W2 ∧ Hid (W2.heap[G]? = some (.cells #[.int .i64 co, .int .i64 V, .bool false, .int .i64 0, .slice none 0 0] 33 (0, 0))) := ⟨_, rfl, Ext.alloc _ _, Lib.hid (by rw [hG]; exact heap_alloc_new _ _)⟩
  have HLv := Lib.hid (rlevel20_any a n c L W1 (hL.ext x1) (by have := fL.n; rw [hL.len] at this; omega))
  rw [hV] at HLv
  have HF := Lib.hid (hF.ext (x1.trans x2))
  have HF0 := Lib.hid hF
  have HFF := Lib.hid fF
  have hm : m ≤ 100000 := by rw [← hF.len]; exact fF.n
  have hmd : (m : Int) ≤ d := by have := hF.l; omega
  have hd9 : (d : Int) ≤ 9223372036854775807 := by have := hF.m; unfold maxLen at this; omega
  have HX := Lib.hid (x1.trans x2)
  have HGl : Hid (w.heap.size < G) := Lib.hid (by rw [hG, hW1]; simp)
  have HR0 := Lib.hid (x2.block HZ1.out)
  obtain ⟨P, hP⟩ : ∃ P, partA L F co = P := ⟨_, rfl⟩
  have HP : Hid (P = ⟨co, V, decide (fitF 6 F < m), if fitF 6 F < m then (F[fitF 6 F]?.getD zeroOb).id else 0, F.take (fitF 6 F)⟩) := Lib.hid (by rw [← hP]; unfold partA; rw [hV, hF.len])
  rw [hP]
  have hlm := hF.len
  have HLM := Lib.hid hlm
  clear hL hF fL fF hV hP x1 x2 hlm HZ1
  go_enter Try.func39, Try.ntmps39
  go_upto_region 1 with fail
  rw [← hW1]
  clear hW1
  go_wp2_with fail
  refine HLv.out.mono ?_; rintro e w1 ⟨rfl, hw1⟩
  rw [hw1]; clear hw1 HLv
  go_upto_region 2 with fail
  rw [← hW2, ← hG]
  clear hW2 hG
  go_wp2_with fail
  go_loopw [8] (fun iv wr => ∃ k : Nat, k ≤ m ∧ iv = .int .i64 k ∧ wr = W2 ∧ fitF 6 F = k + fitF (6 + lenO (F.take k)) (F.drop k)) (fun iv _ => m - (intOf iv).toNat)
  case atStart => exact ⟨0, Nat.zero_le _, rfl, rfl, by simp [lenO]⟩
  case round =>
    obtain ⟨k, hk, rfl, rfl, hfit⟩ := hrel
    have HK := Lib.hid (And.intro hk hfit)
    obtain ⟨S, hS⟩ : ∃ S, S = 6 + lenO (F.take (k + 1)) := ⟨_, rfl⟩
    obtain ⟨Q, hQ⟩ : ∃ Q, Q = decide (k < m ∧ S ≤ 252) := ⟨_, rfl⟩
    have HQ := Lib.hid hQ
    have HS := Lib.hid hS
    clear hk hfit hQ hS
    go_upto_region 3 with fail
    go_cut [24] (fun v wx => v = .bool Q ∧ wx = wr)
    case first =>
      by_cases hlt : k < m
      · have hlt' : (k : Int) < m := by omega
        have e1 : IntKind.i64.wrap ((k : Int) + 1) = k + 1 := IntWalk.i64_in _ (by omega)
        have k1 : (k : Int) + 1 ≤ d := by omega
        have k2 : ¬ (k : Int) + 1 < 0 := by omega
        have KS := Lib.hid (rsize21_any b (k + 1) d (F.take (k + 1)) wr (HF.out.take (by omega)) (HFF.out.sub (by rw [List.length_take]; omega) (fun z hz => List.mem_of_mem_take hz)))
        have hS' : (6 : Int) + (lenO (F.take (k + 1)) : Int) = S := by have := HS.out; omega
        rw [hS'] at KS
        have HE : Hid (Q = decide ((S : Int) ≤ 252)) := Lib.hid (by rw [HQ.out]; exact decide_eq_decide.2 ⟨fun h => by omega, fun h => ⟨hlt, by omega⟩⟩)
        clear hS' hlt
        go_wp2_with fail
        refine KS.out.mono ?_; rintro e w9 ⟨rfl, hw9⟩
        rw [hw9]; clear hw9
        go_wp2_with fail
        go_meet
        exact ⟨by rw [HE.out], by trivial⟩
      · have hlt' : ¬ (k : Int) < m := by omega
        have HE : Hid (Q = false) := Lib.hid (by rw [HQ.out]; exact decide_eq_false (fun h => hlt h.1))
        go_wp2_with fail
        go_meet
        exact ⟨by rw [HE.out], by trivial⟩
    case rest =>
      obtain ⟨rfl, hwc⟩ := hcut
      rw [hwc]
      clear hwc
      cases Q with
      | true =>
        obtain ⟨hkm, hS2⟩ := of_decide_eq_true HQ.out.symm
        have HN : Hid (fitF 6 F = (k + 1) + fitF (6 + lenO (F.take (k + 1))) (F.drop (k + 1))) := Lib.hid (by
          rw [HK.out.2, fit_step (by rw [HLM.out]; exact hkm) S HS.out, if_pos hS2, ← HS.out]; omega)
        have HKM := Lib.hid hkm
        clear hS2
        go_wp2
        go_roundw
        case rel => exact ⟨k + 1, HKM.out, by go_num, by trivial, HN.out⟩
        case measure => simp [intOf]; omega
      | false =>
        have hq := of_decide_eq_false HQ.out.symm
        have hfk : fitF 6 F = k := by
          rw [HK.out.2]
          by_cases hkm : k < m
          · rw [fit_step (by rw [HLM.out]; exact hkm) S HS.out, if_neg (fun h => hq ⟨hkm, h⟩)]; omega
          · rw [List.drop_of_length_le (by rw [HLM.out]; omega)]; rfl
        have hkm := HK.out.1
        have hPk := HP.out
        rw [hfk] at hPk
        have HFK := Lib.hid hfk
        have k1 : (k : Int) ≤ d := by omega
        have k0 : ¬ (k : Int) < 0 := by omega
        have k0' : (0 : Int) ≤ k := by omega
        have g2 := HG2.out
        have c4 : wr.cell? ⟨G, 4, none⟩ = some (.slice none 0 0) := cell_of_heap g2 rfl
        have f4 : wr.frozen? ⟨G, 4, none⟩ = false := by simp [World.frozen?, g2]
        obtain ⟨W3, hW3, g3, y3, r3⟩ : ∃ W3, W3 = wr.setCell ⟨G, 4, none⟩ (.slice b k d) ∧ W3.heap[G]? = some (.cells #[.int .i64 co, .int .i64 V, .bool false, .int .i64 0, .slice b k d] 33 (0, 0)) ∧ Ext w W3 ∧ W3.heap[w.heap.size]? = some (.cells #[.int .i64 0, .int .i64 0, .bool false, .int .i64 0, .slice none 0 0] 33 (0, 0)) :=
          ⟨_, rfl, (heap_setCell_same _ _ _ _ _ _ g2).trans rfl, Below.setCell HX.out (Nat.le_of_lt HGl.out) _, (heap_setCell_other _ _ _ _ (by have := HGl.out; show w.heap.size ≠ G; omega)).trans HR0.out⟩
        clear hq hfk g2
        go_upto_region 6 with fail
        rw [← hW3]
        clear hW3 c4 f4
        by_cases hlt : k < m
        · have hlt' : (k : Int) < m := by omega
          have hkF : k < F.length := by rw [HLM.out]; exact hlt
          obtain ⟨g, o, rfl, hg, -⟩ := HF0.out.h.resolve_left (by intro e; rw [e] at hkF; simp at hkF)
          obtain ⟨a0, -⟩ := HF0.out.h.ob_at k hkF
          rw [if_pos hlt, decide_eq_true hlt, List.getElem?_eq_getElem hkF] at hPk
          have hPk' : P = ⟨co, V, true, (F[k]).id, F.take k⟩ := hPk
          obtain ⟨I, hI⟩ : ∃ I, (F[k]).id = I := ⟨_, rfl⟩
          rw [hI] at a0 hPk'
          have c2 : W3.cell? ⟨G, 2, none⟩ = some (.bool false) := cell_of_heap g3 rfl
          have f2 : W3.frozen? ⟨G, 2, none⟩ = false := by simp [World.frozen?, g3]
          obtain ⟨W4, hW4, g4, y4, r4⟩ : ∃ W4, W4 = W3.setCell ⟨G, 2, none⟩ (.bool true) ∧ W4.heap[G]? = some (.cells #[.int .i64 co, .int .i64 V, .bool true, .int .i64 0, .slice (some ⟨g, o, none⟩) k d] 33 (0, 0)) ∧ Ext w W4 ∧ W4.heap[w.heap.size]? = some (.cells #[.int .i64 0, .int .i64 0, .bool false, .int .i64 0, .slice none 0 0] 33 (0, 0)) :=
            ⟨_, rfl, (heap_setCell_same _ _ _ _ _ _ g3).trans rfl, Below.setCell y3 (Nat.le_of_lt HGl.out) _, (heap_setCell_other _ _ _ _ (by have := HGl.out; show w.heap.size ≠ G; omega)).trans r3⟩
          have a4 := y4.cell hg a0
          have c3 : W4.cell? ⟨G, 3, none⟩ = some (.int .i64 0) := cell_of_heap g4 rfl
          have f3 : W4.frozen? ⟨G, 3, none⟩ = false := by simp [World.frozen?, g4]
          obtain ⟨W5, hW5, g5, y5, r5⟩ : ∃ W5, W5 = W4.setCell ⟨G, 3, none⟩ (.int .i64 I) ∧ W5.heap[G]? = some (.cells #[.int .i64 co, .int .i64 V, .bool true, .int .i64 I, .slice (some ⟨g, o, none⟩) k d] 33 (0, 0)) ∧ Ext w W5 ∧ W5.heap[w.heap.size]? = some (.cells #[.int .i64 0, .int .i64 0, .bool false, .int .i64 0, .slice none 0 0] 33 (0, 0)) :=
            ⟨_, rfl, (heap_setCell_same _ _ _ _ _ _ g4).trans rfl, Below.setCell y4 (Nat.le_of_lt HGl.out) _, (heap_setCell_other _ _ _ _ (by have := HGl.out; show w.heap.size ≠ G; omega)).trans r4⟩
          clear hPk hI a0 g3 g4 r3 r4 y3 y4 hkF hg
          go_upto_region 8 with fail
          rw [← hW4]
          clear hW4 c2 f2
          go_upto_region 9 with fail
          rw [← hW5]
          clear hW5 c3 f3 a4
          go_wp2_with (first
            | (refine wpList_load_row rfl 33 (.tmp 7) rfl G rfl 33 #[.int .i64 co, .int .i64 V, .bool true, .int .i64 I, .slice (some ⟨g, o, none⟩) k d] (0, 0) _ g5 Try.underlying33 rfl (by kernel_rfl) ?_)
            | (refine wpList_store_row rfl 33 (.tmp 6) (.tmp 42) rfl w.heap.size #[.int .i64 co, .int .i64 V, .bool true, .int .i64 I, .slice (some ⟨g, o, none⟩) k d] rfl rfl 33 #[.int .i64 0, .int .i64 0, .bool false, .int .i64 0, .slice none 0 0] r5 (by kernel_rfl) rfl (by simp [Value.oneCell']) ?_))
          refine bodyPost_ret (results_cell_row rfl _ _ w.heap.size 33 _ (0, 0) _ rfl (setRow_heap _ _ _ _ _ _ r5) Try.underlying33 rfl (by kernel_rfl)) rfl ?_
          exact ⟨by rw [HFK.out]; rfl, below_setRow y5 (Nat.le_refl _) _⟩
        · have hlt' : ¬ (k : Int) < m := by omega
          rw [if_neg hlt, decide_eq_false hlt] at hPk
          clear hlt
          go_wp2_with (first
            | (refine wpList_load_row rfl 33 (.tmp 7) rfl G rfl 33 #[.int .i64 co, .int .i64 V, .bool false, .int .i64 0, .slice b k d] (0, 0) _ g3 Try.underlying33 rfl (by kernel_rfl) ?_)
            | (refine wpList_store_row rfl 33 (.tmp 6) (.tmp 42) rfl w.heap.size #[.int .i64 co, .int .i64 V, .bool false, .int .i64 0, .slice b k d] rfl rfl 33 #[.int .i64 0, .int .i64 0, .bool false, .int .i64 0, .slice none 0 0] r3 (by kernel_rfl) rfl (by simp [Value.oneCell']) ?_))
          refine bodyPost_ret (results_cell_row rfl _ _ w.heap.size 33 _ (0, 0) _ rfl (setRow_heap _ _ _ _ _ _ r3) Try.underlying33 rfl (by kernel_rfl)) rfl ?_
          exact ⟨by rw [HFK.out]; rfl, below_setRow y3 (Nat.le_refl _) _⟩
def ansK (L : List Ob) (m : Nat) (f : Nat → Int) : Nat := if ansE L m f = 0 then 6 + lenO (ansP L f).L else 0
def AnsP (L : List Ob) (m : Nat) (f : Nat → Int) (w : World) (e : Ending) (w' : World) : Prop := ∃ x q, e = .returned (.tuple #[.slice x (ansK L m f) q, .int .i64 (ansE L m f)]) ∧ Holds .u8 w' x (ansK L m f) (ofL (sayP (ansP L f))) ∧ ansK L m f ≤ q ∧ q ≤ maxLen ∧ Ext w w'
theorem ansP_no {L : List Ob} {m : Nat} {f : Nat → Int} {w w' : World} {E : Int} (hE : ansE L m f = E) (h0 : E ≠ 0) (x : Ext w w') : AnsP L m f w (.returned (.tuple #[.slice none 0 0, .int .i64 E])) w' := by
  have hk : ansK L m f = 0 := by unfold ansK; rw [hE, if_neg h0]
  unfold AnsP
  rw [hk, hE]
  exact ⟨none, 0, rfl, .inl rfl, Nat.le_refl _, Nat.zero_le _, x⟩
set_option maxHeartbeats 8000000 in
theorem ranswer21_any (a b : Option Addr) (n c m d : Nat) (L : List Ob) (f : Nat → Int) (w : World) (hL : ObjsAt w a n c L) (fL : ObjF L) (hb : Holds .u8 w b m f) (hm : m ≤ 600) (hf : ∀ i, i < m → 0 ≤ f i ∧ f i < 256) :
    Calls Try.prog 17 #[.slice a n c, .slice b m d] w (AnsP L m f w) := by
  have HN : Hid (n ≤ 1000000) := Lib.hid (by have := fL.n; rw [hL.len] at this; omega)
  have HR := Lib.hid (rright20_any a n c L w hL HN.out)
  rcases ans_ways L m f with ⟨hE, hr⟩ | ⟨hr, hh⟩
  · rw [hr] at HR
    have HE := Lib.hid hE
    clear hL fL hb hm hf hr hE
    go_enter Try.func17, Try.ntmps17
    go_wp2_with fail
    refine HR.out.mono ?_; rintro e w1 ⟨rfl, rfl⟩
    go_wp2
    go_ret2
    exact ansP_no HE.out (by decide) (Ext.refl _)
  · rw [hr] at HR
    have HRR := Lib.hid hr
    rcases hh with ⟨hE, hm0 | ⟨hm0, h14⟩⟩ | ⟨hm0, h14, hh⟩
    · subst hm0
      have HE := Lib.hid hE
      clear hL fL hb hm hf hr hE
      go_enter Try.func17, Try.ntmps17
      go_wp2_with fail
      refine HR.out.mono ?_; rintro e w1 ⟨rfl, rfl⟩
      go_wp2
      go_ret2
      exact ansP_no HE.out (by decide) (Ext.refl _)
    · obtain ⟨g, o, rfl, hg, hc⟩ := hb.resolve_left hm0
      have c0 : w.cell? ⟨g, o, none⟩ = some (.int .u8 (f 0)) := hc 0 (by omega)
      have b0 : ((m : Int) == 0) = false := by simp; omega
      have b1 : (f 0 != 14) = true := by simpa using h14
      have m0 : (0 : Int) < m := by omega
      have HE := Lib.hid hE
      generalize f 0 = F0 at c0 b1
      clear hL fL hb hm hf hr hE h14 hc hm0
      go_enter Try.func17, Try.ntmps17
      go_wp2_with fail
      refine HR.out.mono ?_; rintro e w1 ⟨rfl, rfl⟩
      go_wp2
      go_ret2
      exact ansP_no HE.out (by decide) (Ext.refl _)
    · obtain ⟨g, o, rfl, hg, hc⟩ := hb.resolve_left hm0
      have c0 : w.cell? ⟨g, o, none⟩ = some (.int .u8 14) := by rw [← h14]; exact hc 0 (by omega)
      have b0 : ((m : Int) == 0) = false := by simp; omega
      have m0 : (0 : Int) < m := by omega
      rcases hh with ⟨hE, hm3 | ⟨hm3, hh⟩⟩ | ⟨hm3, h1, h4, hh⟩
      · have b3 : ((m : Int) != 3) = true := by simp; omega
        have HE := Lib.hid hE
        clear hL fL hb hm hf hr hE h14 hc hm0 hm3
        go_enter Try.func17, Try.ntmps17
        go_wp2_with fail
        refine HR.out.mono ?_; rintro e w1 ⟨rfl, rfl⟩
        go_wp2
        go_ret2
        exact ansP_no HE.out (by decide) (Ext.refl _)
      · subst hm3
        have c1 : w.cell? ⟨g, o + 1, none⟩ = some (.int .u8 (f 1)) := hc 1 (by omega)
        have HE := Lib.hid hE
        generalize f 1 = F1 at c1 hh
        clear hL fL hb hm hf hr hE h14 hc hm0 b0 m0
        rcases hh with h1 | ⟨h1, h4⟩
        · go_enter Try.func17, Try.ntmps17
          go_wp2_with fail
          refine HR.out.mono ?_; rintro e w1 ⟨rfl, rfl⟩
          go_wp2
          go_ret2
          exact ansP_no HE.out (by decide) (Ext.refl _)
        · have h1' : ¬ F1 < 1 := by omega
          go_enter Try.func17, Try.ntmps17
          go_wp2_with fail
          refine HR.out.mono ?_; rintro e w1 ⟨rfl, rfl⟩
          go_wp2
          go_ret2
          exact ansP_no HE.out (by decide) (Ext.refl _)
      · subst hm3
        have hc1 : w.cell? ⟨g, o + 1, none⟩ = some (.int .u8 (f 1)) := hc 1 (by omega)
        have hc2 : w.cell? ⟨g, o + 2, none⟩ = some (.int .u8 (f 2)) := hc 2 (by omega)
        have hf2 := hf 2 (by omega)
        obtain ⟨F1, hF1⟩ : ∃ F1, f 1 = F1 := ⟨_, rfl⟩
        obtain ⟨F2, hF2⟩ : ∃ F2, f 2 = F2 := ⟨_, rfl⟩
        rw [hF1] at hc1 h1 h4 hh
        rw [hF2] at hc2 hf2 hh
        have HC := Lib.hid (fun W (x : Ext w W) => (⟨x.cell hg hc1, x.cell hg hc2⟩ : W.cell? ⟨g, o + 1, none⟩ = some (.int .u8 F1) ∧ W.cell? ⟨g, o + 2, none⟩ = some (.int .u8 F2)))
        have KF := Lib.hid (fun W (x : Ext w W) => rfrom20_any a n c L F1 F2 W (hL.ext x) HN.out)
        have KD := Lib.hid (fun W (x : Ext w W) => rfind20_any a n c L F2 W (hL.ext x) HN.out)
        have HL := Lib.hid (And.intro hL fL)
        have HHF := Lib.hid (And.intro hF1 hF2)
        have e1 : IntKind.i64.wrap F1 = F1 := IntWalk.i64_in _ (by omega)
        have e2 : IntKind.i64.wrap F2 = F2 := IntWalk.i64_in _ (by omega)
        have g1 : ¬ F1 < 1 := by omega
        have g4 : ¬ 4 < F1 := by omega
        have HB := Lib.hid (And.intro h1 (And.intro h4 hf2))
        have KT := Lib.hid (fun (b' : Option Addr) (k q : Nat) (FL : List Ob) (W : World) (x : Ext w W) (o' : ObjsAt W b' k q FL) (hFL : FL = ansL L f) (hE0 : ansE L 3 f = 0) (hs : f 1 = 4 → (findO (f 2) L).isSome = true) => (rpart21_any a b' n k c q L FL F1 W (hL.ext x) o' fL ⟨by
            rw [hFL]; unfold ansL; split
            · show 1 ≤ 100000; decide
            · exact (fL.fromO _ _).n, fun z hz => fL.e z (ansL_mem hs z (hFL ▸ hz))⟩).mono (fun e w' hh => (⟨by rw [hh.1, hFL, ← hF1]; rfl, hh.2⟩ : e = .returned (.agg (prC (ansP L f) b' (fitF 6 FL) q)) ∧ Ext W w')))
        have KW := Lib.hid (fun (b' : Option Addr) (k q : Nat) (FL : List Ob) (W : World) (o' : ObjsAt W b' k q FL) (hFL : FL = ansL L f) (hs : f 1 = 4 → (findO (f 2) L).isSome = true) => rwrite21_yes (ansP L f) b' (fitF 6 FL) q W ⟨by
            have := o'.take (k := fitF 6 FL) (by rw [← o'.len]; exact fitF_le _ _)
            rw [show (ansP L f).L = FL.take (fitF 6 FL) by rw [hFL]; rfl]; exact this, by show (Lit.int .i64 (f 1)).wf = true; rw [hF1]; simp [Lit.wf, IntKind.min, IntKind.max, IntKind.signed, IntKind.bits]; omega, by
            show (Lit.int .i64 (levelO L)).wf = true
            obtain ⟨l1, l3⟩ := level_bd hr
            simp [Lit.wf, IntKind.min, IntKind.max, IntKind.signed, IntKind.bits]; omega, by
            have hp := partA_right (co := f 1) hr (by omega) (by omega) (fun z hz => right_okD hr z (ansL_mem hs z hz)) (F := ansL L f)
            obtain ⟨n0, n1⟩ := nxB_bd (rightP_iff.1 hp).2.2.1
            show (Lit.int .i64 (partA L (ansL L f) (f 1)).nx).wf = true
            simp [Lit.wf, IntKind.min, IntKind.max, IntKind.signed, IntKind.bits]; omega⟩ (partA_right hr (by omega) (by omega) (fun z hz => right_okD hr z (ansL_mem hs z hz))))
        have xR := Ext.refl w
        obtain ⟨k1, k2⟩ := HC.out w xR
        clear hL fL hb hm hf hr h14 hc hm0 hc1 hc2 hf2 hg b0 m0 h1 h4 hF1 hF2
        go_enter Try.func17, Try.ntmps17
        go_wp2_with fail
        refine HR.out.mono ?_; rintro e w1 ⟨rfl, rfl⟩
        go_upto_region 7 with fail
        clear k1 k2 c0
        go_cut [6] (fun v wx => ∃ b' q, v = .slice b' (fromO F1 F2 L).length q ∧ ObjsAt wx b' (fromO F1 F2 L).length q (fromO F1 F2 L) ∧ Ext w1 wx)
        case first =>
          have hs : Ext w1 w1.drew := Ext.drew _
          refine wp_region_held_drew (S := fun W => Ext w1 W) (by kernel_rfl) hs (fun _ => ?_)
          refine wpAnyH_takeD (i := 0) (d := 38) (v := .slice a n c) rfl rfl (by kernel_rfl) (by kernel_rfl) (by kernel_rfl) (fun _ _ _ h => h) (Or.inl ⟨by rfl, fun W hW => by go_simp⟩) hs ?_
          simp only [Act.put, List.setIfInBounds_toArray, List.set_cons_succ, List.set_cons_zero]
          refine wpAnyH_takeD (i := 1) (d := 39) (v := .slice (some ⟨g, o, none⟩) 3 d) rfl rfl (by kernel_rfl) (by kernel_rfl) (by kernel_rfl) (fun _ _ _ h => h) (Or.inl ⟨by rfl, fun W hW => by go_simp⟩) hs ?_
          simp only [Act.put, List.setIfInBounds_toArray, List.set_cons_succ, List.set_cons_zero]
          refine wpAnyH_takeD (i := 2) (d := 40) (v := .pointer (some ⟨g, o + 1, none⟩)) rfl rfl (by kernel_rfl) (by kernel_rfl) (by kernel_rfl) (fun _ _ _ h => h) (Or.inl ⟨by rfl, fun W hW => by obtain ⟨k1, k2⟩ := HC.out W hW; go_simp⟩) hs ?_
          simp only [Act.put, List.setIfInBounds_toArray, List.set_cons_succ, List.set_cons_zero]
          refine wpAnyH_takeD (i := 3) (d := 41) (v := .int .u8 F1) rfl rfl (by kernel_rfl) (by kernel_rfl) (by kernel_rfl) (fun _ _ _ h => h) (Or.inl ⟨by rfl, fun W hW => by obtain ⟨k1, k2⟩ := HC.out W hW; go_simp⟩) hs ?_
          simp only [Act.put, List.setIfInBounds_toArray, List.set_cons_succ, List.set_cons_zero]
          refine wpAnyH_takeD (i := 4) (d := 42) (v := .int .i64 F1) rfl rfl (by kernel_rfl) (by kernel_rfl) (by kernel_rfl) (fun _ _ _ h => h) (Or.inl ⟨by rfl, fun W hW => by go_simp⟩) hs ?_
          simp only [Act.put, List.setIfInBounds_toArray, List.set_cons_succ, List.set_cons_zero]
          refine wpAnyH_takeD (i := 5) (d := 43) (v := .slice (some ⟨g, o, none⟩) 3 d) rfl rfl (by kernel_rfl) (by kernel_rfl) (by kernel_rfl) (fun _ _ _ h => h) (Or.inl ⟨by rfl, fun W hW => by go_simp⟩) hs ?_
          simp only [Act.put, List.setIfInBounds_toArray, List.set_cons_succ, List.set_cons_zero]
          refine wpAnyH_takeD (i := 6) (d := 44) (v := .pointer (some ⟨g, o + 2, none⟩)) rfl rfl (by kernel_rfl) (by kernel_rfl) (by kernel_rfl) (fun _ _ _ h => h) (Or.inl ⟨by rfl, fun W hW => by obtain ⟨k1, k2⟩ := HC.out W hW; go_simp⟩) hs ?_
          simp only [Act.put, List.setIfInBounds_toArray, List.set_cons_succ, List.set_cons_zero]
          refine wpAnyH_takeD (i := 7) (d := 45) (v := .int .u8 F2) rfl rfl (by kernel_rfl) (by kernel_rfl) (by kernel_rfl) (fun _ _ _ h => h) (Or.inl ⟨by rfl, fun W hW => by obtain ⟨k1, k2⟩ := HC.out W hW; go_simp⟩) hs ?_
          simp only [Act.put, List.setIfInBounds_toArray, List.set_cons_succ, List.set_cons_zero]
          refine wpAnyH_takeD (i := 8) (d := 46) (v := .int .i64 F2) rfl rfl (by kernel_rfl) (by kernel_rfl) (by kernel_rfl) (fun _ _ _ h => h) (Or.inl ⟨by rfl, fun W hW => by go_simp⟩) hs ?_
          simp only [Act.put, List.setIfInBounds_toArray, List.set_cons_succ, List.set_cons_zero]
          refine wpAnyH_ready (rs := [9]) (by kernel_rfl) (by simp) (AllReadyH.cons rfl (fun K hK => ?_) AllReadyH.nil)
          go_simp
          refine (KF.out _ hs).mono ?_; rintro e w2 ⟨b', q, rfl, o', x2⟩
          go_wp2_with fail
          refine hK.out _ _ (hs.trans x2) (fun hs => ?_)
          clear hK K
          refine wpAnyH_takeD (i := 10) (d := 6) (v := .slice b' (fromO F1 F2 L).length q) rfl rfl (by kernel_rfl) (by kernel_rfl) (by kernel_rfl) (fun _ _ _ h => h) (Or.inl ⟨by rfl, fun W hW => by go_simp⟩) hs ?_
          simp only [Act.put, List.setIfInBounds_toArray, List.set_cons_succ, List.set_cons_zero]
          refine wpAnyH_done (by kernel_rfl) ?_ _
          go_wp2_with fail
          go_meet
          exact ⟨b', q, rfl, o', hs⟩
        case rest =>
          obtain ⟨b', q, rfl, o', x2⟩ := hcut
          obtain ⟨k1, k2⟩ := HC.out wc x2
          have HO := Lib.hid o'
          clear o'
          rcases hh with ⟨hE, h4, hf4⟩ | ⟨hE, h4, hf4⟩ | ⟨hE, h4⟩
          · subst h4
            have HE := Lib.hid hE
            have KDw := Lib.hid (KD.out wc x2)
            rw [hf4] at KDw
            generalize (findO F2 L).getD zeroOb = y at KDw
            clear hE hf4
            go_wp2_with fail
            refine KDw.out.mono ?_; rintro e w3 ⟨rfl, x3⟩
            simp only [obC]
            go_wp2
            go_ret2
            exact ansP_no HE.out (by decide) (x2.trans (x3.trans (Ext.alloc _ _)))
          · subst h4
            have hs4 : f 1 = 4 → (findO (f 2) L).isSome = true := fun _ => by rw [HHF.out.2]; exact hf4
            have HS4 := Lib.hid hs4
            have KDw := Lib.hid (KD.out wc x2)
            rw [hf4] at KDw
            have hfat := fun W (x : Ext w1 W) => (findO_at (HL.out.1.ext x) HL.out.2 F2).1
            have HAL : Hid (ansL L f = [(findO F2 L).getD zeroOb]) := Lib.hid (by unfold ansL; rw [if_pos HHF.out.1, HHF.out.2])
            obtain ⟨y, hy⟩ : ∃ y, (findO F2 L).getD zeroOb = y := ⟨_, rfl⟩
            rw [hy] at KDw HAL hfat
            have HFA := Lib.hid hfat
            have HE := Lib.hid hE
            clear hE hf4 hs4 hfat hy
            go_wp2_with fail
            refine KDw.out.mono ?_; rintro e w3 ⟨rfl, x3⟩
            obtain ⟨W4, hW4, y4, hr4⟩ : ∃ W4, W4 = (w3.alloc (.cells #[.int .i64 y.id, .slice y.a y.n y.c] 49)).alloc (.cells #[.int .i64 y.id, .slice y.a y.n y.c] 49) ∧ Ext w3 W4 ∧ W4.heap[w3.heap.size + 1]? = some (.cells (obC y) 49 (0, 0)) := ⟨_, rfl, (Ext.alloc _ _).trans (Ext.alloc _ _), heap_new_at _ _ (by simp)⟩
            have x4 := x2.trans (x3.trans y4)
            have HO4 := Lib.hid (one_at hr4 (HFA.out W4 x4))
            obtain ⟨-, -⟩ := HC.out wc x2
            have k14 := (HC.out W4 x4).1
            simp only [obC]
            go_upto_region 13 with fail
            rw [← hW4]
            clear hW4 hr4 k1 k2
            go_wp2_with fail
            refine (KT.out _ _ _ _ _ x4 HO4.out HAL.out.symm HE.out HS4.out).mono ?_; rintro e w5 ⟨rfl, x5⟩
            go_wp2_with fail
            refine (KW.out _ _ _ _ _ (HO4.out.ext x5) HAL.out.symm HS4.out).mono ?_; rintro e w6 ⟨x, q6, rfl, h6, l6, m6, -, x6⟩
            have HFin : Hid (AnsP L 3 f w1 (.returned (.tuple #[.slice x (6 + lenO (ansP L f).L) q6, .int .i64 0])) w6) := Lib.hid (by
              have hk : ansK L 3 f = 6 + lenO (ansP L f).L := by unfold ansK; rw [HE.out]; rfl
              unfold AnsP
              rw [hk, HE.out]
              exact ⟨x, q6, rfl, h6, l6, m6, x4.trans (x5.trans x6)⟩)
            clear h6 l6 m6
            go_wp2
            go_ret2
            exact HFin.out
          · have hs4 : f 1 = 4 → (findO (f 2) L).isSome = true := fun h => absurd (HHF.out.1.symm.trans h) h4
            have HS4 := Lib.hid hs4
            have HAL : Hid (ansL L f = fromO F1 F2 L) := Lib.hid (by unfold ansL; rw [if_neg (fun h => h4 (HHF.out.1.symm.trans h)), HHF.out.1, HHF.out.2])
            have b4 : (F1 == 4) = false := by simpa using h4
            have HE := Lib.hid hE
            clear hE hs4 h4
            go_wp2_with fail
            refine (KT.out _ _ _ _ _ x2 HO.out HAL.out.symm HE.out HS4.out).mono ?_; rintro e w5 ⟨rfl, x5⟩
            go_wp2_with fail
            refine (KW.out _ _ _ _ _ (HO.out.ext x5) HAL.out.symm HS4.out).mono ?_; rintro e w6 ⟨x, q6, rfl, h6, l6, m6, -, x6⟩
            have HFin : Hid (AnsP L 3 f w1 (.returned (.tuple #[.slice x (6 + lenO (ansP L f).L) q6, .int .i64 0])) w6) := Lib.hid (by
              have hk : ansK L 3 f = 6 + lenO (ansP L f).L := by unfold ansK; rw [HE.out]; rfl
              unfold AnsP
              rw [hk, HE.out]
              exact ⟨x, q6, rfl, h6, l6, m6, x2.trans (x5.trans x6)⟩)
            clear h6 l6 m6
            go_wp2
            go_ret2
            exact HFin.out
end Go.Proofs.Ythdkhdbabohohaa
