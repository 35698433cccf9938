/-
  CONTRACTS: package tell (layer 16): Right.
-/
import Derived.Test.YtejiafihiielgaaTellA
import Derived.Test.YtejiafihiielgaaTellB
import Derived.Test.YtejiafihiielgaaAskE
namespace Go.Proofs.Ytejiafihiielgaa
open Go.RowKit
set_option linter.unusedVariables false
set_option maxRecDepth 100000

theorem whole_nb (Q : Qst) (nb : Nat) (B : Nat → Bool) (nr : Nat) (R : Nat → Int) : (wholeT Q nb B nr R).nb = (if Q.k = 1 ∨ Q.k = 2 then nb else 0) ∧ (wholeT Q nb B nr R).nr = (if Q.k = 1 ∨ Q.k = 2 then 0 else if Q.k = 3 ∨ Q.k = 4 ∨ Q.k = 23 then nr else 0) := by
  unfold wholeT
  repeat' split
  all_goals exact ⟨rfl, rfl⟩
theorem whole_fun (Q : Qst) (nb : Nat) (B : Nat → Bool) (nr : Nat) (R : Nat → Int) : (∀ i, i < (wholeT Q nb B nr R).nb → (wholeT Q nb B nr R).B i = B i) ∧ (∀ i, i < (wholeT Q nb B nr R).nr → (wholeT Q nb B nr R).R i = R i) := by
  unfold wholeT
  repeat' split
  all_goals exact ⟨fun i hi => by first | rfl | exact absurd hi (Nat.not_lt_zero i), fun i hi => by first | rfl | exact absurd hi (Nat.not_lt_zero i)⟩
theorem whole_nums (Q : Qst) (nb nb' : Nat) (B B' : Nat → Bool) (nr nr' : Nat) (R R' : Nat → Int) (T : Tel) : numsT T (wholeT Q nb B nr R) = numsT T (wholeT Q nb' B' nr' R') := by
  unfold wholeT
  repeat' split
  all_goals rfl
theorem right_low {Q : Qst} {T : Tel} (hr : rightQ Q = true) (hc : inB T.cd 1 4 = false) : rightT Q T = (numsT T (replT Q) && ((T.nb : Int) == ((replT Q).nb : Int)) && ((T.nr : Int) == ((replT Q).nr : Int))) := by
  rw [tright_yes hr]
  by_cases h0 : T.cd = 0
  · rw [if_pos h0, Bool.eq_iff_iff, Bool.and_eq_true, sameT_iff, Bool.and_eq_true, Bool.and_eq_true, beq_iff_eq, beq_iff_eq]
    obtain ⟨hkn, -, -, hf⟩ := (rightQ_iff Q).1 hr
    have hk := (known_iff Q.k).1 hkn
    obtain ⟨w1, w2⟩ := whole_nb Q T.nb T.B T.nr T.R
    obtain ⟨w3, w4⟩ := whole_fun Q T.nb T.B T.nr T.R
    have w5 := whole_nums Q T.nb Q.ct.toNat T.B (fun _ => false) T.nr (if Q.k = 23 then Q.mn.toNat else Q.ct.toNat) T.R (fun _ => 0) T
    obtain ⟨w6, w7⟩ := whole_nb Q Q.ct.toNat (fun _ => false) (if Q.k = 23 then Q.mn.toNat else Q.ct.toNat) (fun _ => 0)
    have hkey : (T.nb = (wholeT Q T.nb T.B T.nr T.R).nb ∧ T.nr = (wholeT Q T.nb T.B T.nr T.R).nr ∧ cntB Q T = true) ↔ ((T.nb : Int) = ((replT Q).nb : Int) ∧ (T.nr : Int) = ((replT Q).nr : Int)) := by
      unfold replT
      rw [w1, w2, w6, w7]
      unfold cntB
      unfold fitsB at hf
      clear w1 w2 w3 w4 w5 w6 w7
      rcases hk with hk | hk | hk | hk | hk | hk | hk | hk | hk | hk <;>
      · simp (config := { decide := true }) only [hk, if_true, if_false, Bool.and_eq_true, inB_iff, decide_eq_true_iff, true_and, and_true, or_true, or_false] at hf ⊢
        first | trivial | omega
    constructor
    · rintro ⟨ha, hn⟩
      obtain ⟨k1, k2⟩ := hkey.1 ⟨ha.nb, ha.nr, hn⟩
      refine ⟨⟨?_, k1⟩, k2⟩
      unfold replT
      rw [← w5, numsT_iff]
      exact ⟨ha.k, ha.cd, ha.ad, ha.ct, ha.va, ha.an, ha.oo⟩
    · rintro ⟨⟨h1, k1⟩, k2⟩
      obtain ⟨e1, e2, e3⟩ := hkey.2 ⟨k1, k2⟩
      unfold replT at h1
      rw [← w5, numsT_iff] at h1
      obtain ⟨a1, a2, a3, a4, a5, a6, a7⟩ := h1
      exact ⟨⟨a1, a2, a3, a4, a5, a6, a7, e1, fun i hi => (w3 i (by rw [← e1]; exact hi)).symm, e2, fun i hi => (w4 i (by rw [← e2]; exact hi)).symm⟩, e3⟩
  · rw [if_neg h0, hc, Bool.false_and]
    have hn : numsT T (replT Q) = false := by
      cases h : numsT T (replT Q) with
      | false => rfl
      | true => exact absurd (((numsT_iff _ _).1 h).2.1.trans (whole_k Q _ _ _ _).2.1) h0
    rw [hn, Bool.false_and, Bool.false_and]
theorem right_high {Q : Qst} {T : Tel} (hr : rightQ Q = true) (hc : inB T.cd 1 4 = true) : rightT Q T = sameT T { zeroT with k := Q.k, cd := T.cd } := by
  rw [tright_yes hr, if_neg (by rw [inB_iff] at hc; omega), hc, Bool.true_and]
def repCl (T : Tel) (X : QstV) (b : Option Addr) (n q : Nat) : Array Value := #[.int .i64 T.k, .int .i64 T.cd, .int .i64 T.ad, .int .i64 T.ct, .int .i64 T.va, .int .i64 T.an, .int .i64 T.oo, .slice X.a1 T.nb X.d1, .slice X.a2 T.nr X.d2, .slice b n q]
theorem told_field (w : World) (X : QstV) (T : Tel) (b : Option Addr) (n q : Nat) : (Instr.field 55 (.agg (repC X T b n q)) 0).run Try.prog w = .ok (.agg (telC X T)) w := by kernel_rfl
theorem again_field (w : World) (X : QstV) (T : Tel) (b : Option Addr) (n q : Nat) : (Instr.field 55 (.agg (repC X T b n q)) 1).run Try.prog w = .ok (.slice b n q) w := by kernel_rfl
set_option maxHeartbeats 4000000 in
theorem tright_c : TRightC 13 := by
  intro V Q U T w hQ hW n1 n2 hT m1 m2
  obtain ⟨W2, hW2, e0, HX⟩ : ∃ W2, W2 = (w.alloc (.cells (qstC V Q) 25)).alloc (.cells (telC U T) 28) ∧ Ext w W2 ∧ Hid (∀ W, Ext W2 W → W.heap[w.heap.size]? = some (.cells (qstC V Q) 25 (0, 0)) ∧ W.heap[w.heap.size + 1]? = some (.cells (telC U T) 28 (0, 0))) :=
    ⟨_, rfl, (Ext.alloc w _).trans (Ext.alloc _ _), Lib.hid fun W x => ⟨x.block ((heap_alloc_old _ _ (by simp)).trans (heap_alloc_new w _)), x.block (heap_new_at _ _ (by simp))⟩⟩
  have HQ := Lib.hid hQ
  have HT := Lib.hid hT
  have HK := Lib.hid (fun W (x : Ext W2 W) => (⟨cell_of_heap (HX.out W x).1 rfl, cell_of_heap (HX.out W x).2 rfl⟩ : W.cell? ⟨w.heap.size, 0, none⟩ = some (.int .i64 Q.k) ∧ W.cell? ⟨w.heap.size + 1, 1, none⟩ = some (.int .i64 T.cd)))
  have r0 := (HX.out W2 (Ext.refl _)).1
  have KR := Lib.hid (fun W (x : Ext w W) => aright_any V Q W (HQ.out.ext x) n1 n2)
  clear hQ hT
  obtain ⟨D, hD⟩ : ∃ D, rightQ Q = D := ⟨_, rfl⟩
  rw [hD] at KR
  cases D with
  | false =>
    rw [show rightT Q T = false from by unfold rightT; rw [hD, Bool.false_and]]
    clear hD
    go_enter Try.func13, Try.ntmps13
    go_upto_region 1 with fail
    rw [← hW2]
    clear hW2
    go_wp2_with (first
      | (refine wpList_load_row rfl 25 (.tmp 2) rfl w.heap.size rfl 25 _ (0, 0) _ r0 Try.underlying25 rfl (by kernel_rfl) ?_)
      | (go_at_call 29; refine (KR.out _ e0).mono ?_; rintro e w3 ⟨rfl, x3⟩))
    go_ret
    exact ⟨rfl, e0.trans x3⟩
  | true =>
    obtain ⟨C, hC⟩ : ∃ C, inB T.cd 1 4 = C := ⟨_, rfl⟩
    have KF := Lib.hid (fun W => refuses_v hC W)
    cases C with
    | true =>
      rw [right_high hD hC]
      have KS := Lib.hid (fun W (x : Ext w W) => tsame_c U T zeroQV { zeroT with k := Q.k, cd := T.cd } W (HT.out.ext x) (telnone_at W rfl rfl) m1 m2 (Nat.zero_le _) (Nat.zero_le _))
      clear hD hC
      go_enter Try.func13, Try.ntmps13
      go_upto_region 1 with fail
      rw [← hW2]
      clear hW2
      go_upto_region 3 with (first
        | (refine wpList_load_row rfl 25 (.tmp 2) rfl w.heap.size rfl 25 _ (0, 0) _ r0 Try.underlying25 rfl (by kernel_rfl) ?_)
        | (go_at_call 29; refine (KR.out _ e0).mono ?_; rintro e w3 ⟨rfl, x3⟩))
      obtain ⟨g0, g1⟩ := HX.out _ x3
      obtain ⟨c0, c1⟩ := HK.out _ x3
      go_wp2_with (first
        | (go_at_call 28; refine (KF.out _).mono ?_; rintro e w4 ⟨rfl, rfl⟩)
        | (refine wpList_load_row rfl 28 (.tmp 3) rfl (w.heap.size + 1) rfl 28 _ (0, 0) _ g1 Try.underlying28 rfl (by kernel_rfl) ?_)
        | (go_at_call 15; refine (KS.out _ (e0.trans x3)).mono ?_; rintro e w5 ⟨rfl, x5⟩))
      go_ret
      exact ⟨rfl, (e0.trans x3).trans x5⟩
    | false =>
      rw [right_low hD hC]
      have hq := fun w => tnums_run T (replT Q) w
      have hg := fun x y xs ys w => tnums_guard x y xs ys w
      obtain ⟨E1, hE1⟩ : ∃ E1, ((T.nb : Int) == ((replT Q).nb : Int)) = E1 := ⟨_, rfl⟩
      obtain ⟨E2, hE2⟩ : ∃ E2, ((T.nr : Int) == ((replT Q).nr : Int)) = E2 := ⟨_, rfl⟩
      rw [hE1, hE2]
      obtain ⟨D, hDD⟩ : ∃ D, numsT T (replT Q) = D := ⟨_, rfl⟩
      rw [hDD]
      rw [hDD] at hq
      clear hDD
      have KY := Lib.hid (fun W => reply_any V Q W hD)
      clear hD hC
      have hfd := fun w X b n q => told_field w X (replT Q) b n q
      go_enter Try.func13, Try.ntmps13
      go_upto_region 1 with fail
      rw [← hW2]
      clear hW2
      go_upto_region 3 with (first
        | (refine wpList_load_row rfl 25 (.tmp 2) rfl w.heap.size rfl 25 _ (0, 0) _ r0 Try.underlying25 rfl (by kernel_rfl) ?_)
        | (go_at_call 29; refine (KR.out _ e0).mono ?_; rintro e w3 ⟨rfl, x3⟩))
      obtain ⟨g0, g1⟩ := HX.out _ x3
      obtain ⟨c0, c1⟩ := HK.out _ x3
      go_upto_region 6 with (first
        | (go_at_call 28; refine (KF.out _).mono ?_; rintro e w4 ⟨rfl, rfl⟩)
        | (refine wpList_load_row rfl 25 (.tmp 2) rfl w.heap.size rfl 25 _ (0, 0) _ g0 Try.underlying25 rfl (by kernel_rfl) ?_)
        | (go_at_call 24; refine (KY.out _).mono ?_; rintro e w5 ⟨⟨X, b5, q5, rfl, ht5, -⟩, x5⟩)
        | (refine wpList_store_row rfl 28 (.tmp 5) (.tmp 21) rfl w5.heap.size _ rfl rfl 28 _ (heap_alloc_new w5 _) (by kernel_rfl) rfl (by simp [telC, Value.oneCell']) ?_))
      obtain ⟨W6, hW6, x6, g6⟩ : ∃ W6, W6 = (w5.alloc (.cells #[.int .i64 0, .int .i64 0, .int .i64 0, .int .i64 0, .int .i64 0, .int .i64 0, .int .i64 0, .slice none 0 0, .slice none 0 0] 28)).setRow w5.heap.size (telC X (replT Q)) ∧ Ext w5 W6 ∧ W6.heap[w5.heap.size]? = some (.cells (telC X (replT Q)) 28 (0, 0)) := ⟨_, rfl, (told_row _ _ _ _).1, (told_row _ _ _ _).2⟩
      rw [← hW6]
      clear hW6
      have HR := Lib.hid (fun W (hx : Ext W6 W) => (⟨((x5.trans x6).trans hx).block g1, hx.block g6⟩ : W.heap[w.heap.size + 1]? = some (.cells (telC U T) 28 (0, 0)) ∧ W.heap[w5.heap.size]? = some (.cells (telC X (replT Q)) 28 (0, 0))))
      have HC := Lib.hid (fun W (hx : Ext W6 W) => (⟨cell_of_heap (HR.out W hx).1 rfl, cell_of_heap (HR.out W hx).2 rfl, cell_of_heap (HR.out W hx).1 rfl, cell_of_heap (HR.out W hx).2 rfl⟩ : W.cell? ⟨w.heap.size + 1, 7, none⟩ = some (.slice U.a1 T.nb U.d1) ∧ W.cell? ⟨w5.heap.size, 7, none⟩ = some (.slice X.a1 (replT Q).nb X.d1) ∧ W.cell? ⟨w.heap.size + 1, 8, none⟩ = some (.slice U.a2 T.nr U.d2) ∧ W.cell? ⟨w5.heap.size, 8, none⟩ = some (.slice X.a2 (replT Q).nr X.d2)))
      have xA := ((e0.trans x3).trans x5).trans x6
      have hs : Ext W6 W6.drew := Ext.drew _
      clear g0 g1 c0 c1 x3 x5 x6 g6 ht5 KF KR KY HX HK r0 hfd e0
      cases D with
      | false =>
        refine wp_region_held_drew (S := fun W => Ext W6 W) (by kernel_rfl) hs (fun _ => ?_)
        refine wpAnyH_takeD (i := 0) (d := 22) rfl rfl (by kernel_rfl) (by kernel_rfl) (by kernel_rfl) (fun _ _ _ h => h) (yieldsIf_load_row (by rfl) 28 (.tmp 3) rfl (w.heap.size + 1) rfl 28 _ (0, 0) _ (fun w' hw' => (HR.out _ hw').1) Try.underlying28 rfl (by kernel_rfl)) hs ?_
        simp only [Act.put, List.setIfInBounds_toArray, List.set_cons_succ, List.set_cons_zero]
        refine wpAnyH_takeD (i := 2) (d := 24) rfl rfl (by kernel_rfl) (by kernel_rfl) (by kernel_rfl) (fun _ _ _ h => h) (yieldsIf_load_row (by rfl) 28 (.tmp 5) rfl (w5.heap.size) rfl 28 _ (0, 0) _ (fun w' hw' => (HR.out _ hw').2) Try.underlying28 rfl (by kernel_rfl)) hs ?_
        simp only [Act.put, List.setIfInBounds_toArray, List.set_cons_succ, List.set_cons_zero]
        refine wpAnyH_ready (rs := [1]) (by kernel_rfl) (by simp) (AllReadyH.cons rfl (fun K hK => ?_) AllReadyH.nil)
        go_simp
        go_at_call 30
        refine (tnumbers_v U T _).mono ?_; rintro e Wc ⟨rfl, y⟩
        go_wp2_with fail
        refine hK.out _ _ (hs.trans y) (fun hs => ?_)
        clear hK K y
        refine wpAnyH_ready (rs := [3]) (by kernel_rfl) (by simp) (AllReadyH.cons rfl (fun K hK => ?_) AllReadyH.nil)
        go_simp
        go_at_call 30
        refine (tnumbers_v X (replT Q) _).mono ?_; rintro e Wc ⟨rfl, y⟩
        go_wp2_with fail
        refine hK.out _ _ (hs.trans y) (fun hs => ?_)
        clear hK K y
        refine wpAnyH_takeD (i := 4) (d := 26) (v := .bool false) rfl rfl (by kernel_rfl) (by kernel_rfl) (by kernel_rfl) (fun _ _ _ h => h) (Or.inl ⟨by rfl, fun W hW => by go_simp⟩) hs ?_
        simp only [Act.put, List.setIfInBounds_toArray, List.set_cons_succ, List.set_cons_zero]
        refine wpAnyH_takeD (i := 5) (d := 27) (v := .bool false) rfl rfl (by kernel_rfl) (by kernel_rfl) (by kernel_rfl) (fun _ _ _ h => h) (Or.inl ⟨by rfl, fun W hW => by go_simp⟩) hs ?_
        simp only [Act.put, List.setIfInBounds_toArray, List.set_cons_succ, List.set_cons_zero]
        refine wpAnyH_takeD (i := 6) (d := 28) (v := undef) rfl rfl (by kernel_rfl) (by kernel_rfl) (by kernel_rfl) (fun _ _ _ h => h) (Or.inr ⟨by rfl, rfl⟩) hs ?_
        simp only [Act.put, List.setIfInBounds_toArray, List.set_cons_succ, List.set_cons_zero]
        refine wpAnyH_takeD (i := 7) (d := 29) (v := undef) rfl rfl (by kernel_rfl) (by kernel_rfl) (by kernel_rfl) (fun _ _ _ h => h) (Or.inr ⟨by rfl, rfl⟩) hs ?_
        simp only [Act.put, List.setIfInBounds_toArray, List.set_cons_succ, List.set_cons_zero]
        refine wpAnyH_takeD (i := 8) (d := 30) (v := undef) rfl rfl (by kernel_rfl) (by kernel_rfl) (by kernel_rfl) (fun _ _ _ h => h) (Or.inr ⟨by rfl, rfl⟩) hs ?_
        simp only [Act.put, List.setIfInBounds_toArray, List.set_cons_succ, List.set_cons_zero]
        refine wpAnyH_takeD (i := 9) (d := 31) (v := undef) rfl rfl (by kernel_rfl) (by kernel_rfl) (by kernel_rfl) (fun _ _ _ h => h) (Or.inr ⟨by rfl, rfl⟩) hs ?_
        simp only [Act.put, List.setIfInBounds_toArray, List.set_cons_succ, List.set_cons_zero]
        refine wpAnyH_takeD (i := 10) (d := 32) (v := undef) rfl rfl (by kernel_rfl) (by kernel_rfl) (by kernel_rfl) (fun _ _ _ h => h) (Or.inr ⟨by rfl, rfl⟩) hs ?_
        simp only [Act.put, List.setIfInBounds_toArray, List.set_cons_succ, List.set_cons_zero]
        refine wpAnyH_takeD (i := 11) (d := 33) (v := undef) rfl rfl (by kernel_rfl) (by kernel_rfl) (by kernel_rfl) (fun _ _ _ h => h) (Or.inr ⟨by rfl, rfl⟩) hs ?_
        simp only [Act.put, List.setIfInBounds_toArray, List.set_cons_succ, List.set_cons_zero]
        refine wpAnyH_takeD (i := 12) (d := 34) (v := undef) rfl rfl (by kernel_rfl) (by kernel_rfl) (by kernel_rfl) (fun _ _ _ h => h) (Or.inr ⟨by rfl, rfl⟩) hs ?_
        simp only [Act.put, List.setIfInBounds_toArray, List.set_cons_succ, List.set_cons_zero]
        refine wpAnyH_takeD (i := 13) (d := 35) (v := .bool false) rfl rfl (by kernel_rfl) (by kernel_rfl) (by kernel_rfl) (fun _ _ _ h => h) (Or.inl ⟨by rfl, fun W hW => by go_simp⟩) hs ?_
        simp only [Act.put, List.setIfInBounds_toArray, List.set_cons_succ, List.set_cons_zero]
        refine wpAnyH_takeD (i := 14) (d := 36) (v := .bool false) rfl rfl (by kernel_rfl) (by kernel_rfl) (by kernel_rfl) (fun _ _ _ h => h) (Or.inl ⟨by rfl, fun W hW => by go_simp⟩) hs ?_
        simp only [Act.put, List.setIfInBounds_toArray, List.set_cons_succ, List.set_cons_zero]
        refine wpAnyH_takeD (i := 15) (d := 37) (v := undef) rfl rfl (by kernel_rfl) (by kernel_rfl) (by kernel_rfl) (fun _ _ _ h => h) (Or.inr ⟨by rfl, rfl⟩) hs ?_
        simp only [Act.put, List.setIfInBounds_toArray, List.set_cons_succ, List.set_cons_zero]
        refine wpAnyH_takeD (i := 16) (d := 38) (v := undef) rfl rfl (by kernel_rfl) (by kernel_rfl) (by kernel_rfl) (fun _ _ _ h => h) (Or.inr ⟨by rfl, rfl⟩) hs ?_
        simp only [Act.put, List.setIfInBounds_toArray, List.set_cons_succ, List.set_cons_zero]
        refine wpAnyH_takeD (i := 17) (d := 39) (v := undef) rfl rfl (by kernel_rfl) (by kernel_rfl) (by kernel_rfl) (fun _ _ _ h => h) (Or.inr ⟨by rfl, rfl⟩) hs ?_
        simp only [Act.put, List.setIfInBounds_toArray, List.set_cons_succ, List.set_cons_zero]
        refine wpAnyH_takeD (i := 18) (d := 40) (v := undef) rfl rfl (by kernel_rfl) (by kernel_rfl) (by kernel_rfl) (fun _ _ _ h => h) (Or.inr ⟨by rfl, rfl⟩) hs ?_
        simp only [Act.put, List.setIfInBounds_toArray, List.set_cons_succ, List.set_cons_zero]
        refine wpAnyH_takeD (i := 19) (d := 41) (v := undef) rfl rfl (by kernel_rfl) (by kernel_rfl) (by kernel_rfl) (fun _ _ _ h => h) (Or.inr ⟨by rfl, rfl⟩) hs ?_
        simp only [Act.put, List.setIfInBounds_toArray, List.set_cons_succ, List.set_cons_zero]
        refine wpAnyH_takeD (i := 20) (d := 42) (v := undef) rfl rfl (by kernel_rfl) (by kernel_rfl) (by kernel_rfl) (fun _ _ _ h => h) (Or.inr ⟨by rfl, rfl⟩) hs ?_
        simp only [Act.put, List.setIfInBounds_toArray, List.set_cons_succ, List.set_cons_zero]
        refine wpAnyH_takeD (i := 21) (d := 43) (v := undef) rfl rfl (by kernel_rfl) (by kernel_rfl) (by kernel_rfl) (fun _ _ _ h => h) (Or.inr ⟨by rfl, rfl⟩) hs ?_
        simp only [Act.put, List.setIfInBounds_toArray, List.set_cons_succ, List.set_cons_zero]
        refine wpAnyH_takeD (i := 22) (d := 44) (v := .bool false) rfl rfl (by kernel_rfl) (by kernel_rfl) (by kernel_rfl) (fun _ _ _ h => h) (Or.inl ⟨by rfl, fun W hW => by go_simp⟩) hs ?_
        simp only [Act.put, List.setIfInBounds_toArray, List.set_cons_succ, List.set_cons_zero]
        refine wpAnyH_takeD (i := 23) (d := 4) (v := .bool false) rfl rfl (by kernel_rfl) (by kernel_rfl) (by kernel_rfl) (fun _ _ _ h => h) (Or.inl ⟨by rfl, fun W hW => by go_simp⟩) hs ?_
        simp only [Act.put, List.setIfInBounds_toArray, List.set_cons_succ, List.set_cons_zero]
        refine wpAnyH_done (by kernel_rfl) ?_ _
        go_wp2
        go_ret
        exact ⟨rfl, xA.trans hs⟩
      | true =>
       cases E1 with
       | false =>
        refine wp_region_held_drew (S := fun W => Ext W6 W) (by kernel_rfl) hs (fun _ => ?_)
        refine wpAnyH_takeD (i := 0) (d := 22) rfl rfl (by kernel_rfl) (by kernel_rfl) (by kernel_rfl) (fun _ _ _ h => h) (yieldsIf_load_row (by rfl) 28 (.tmp 3) rfl (w.heap.size + 1) rfl 28 _ (0, 0) _ (fun w' hw' => (HR.out _ hw').1) Try.underlying28 rfl (by kernel_rfl)) hs ?_
        simp only [Act.put, List.setIfInBounds_toArray, List.set_cons_succ, List.set_cons_zero]
        refine wpAnyH_takeD (i := 2) (d := 24) rfl rfl (by kernel_rfl) (by kernel_rfl) (by kernel_rfl) (fun _ _ _ h => h) (yieldsIf_load_row (by rfl) 28 (.tmp 5) rfl (w5.heap.size) rfl 28 _ (0, 0) _ (fun w' hw' => (HR.out _ hw').2) Try.underlying28 rfl (by kernel_rfl)) hs ?_
        simp only [Act.put, List.setIfInBounds_toArray, List.set_cons_succ, List.set_cons_zero]
        refine wpAnyH_ready (rs := [1]) (by kernel_rfl) (by simp) (AllReadyH.cons rfl (fun K hK => ?_) AllReadyH.nil)
        go_simp
        go_at_call 30
        refine (tnumbers_v U T _).mono ?_; rintro e Wc ⟨rfl, y⟩
        go_wp2_with fail
        refine hK.out _ _ (hs.trans y) (fun hs => ?_)
        clear hK K y
        refine wpAnyH_ready (rs := [3]) (by kernel_rfl) (by simp) (AllReadyH.cons rfl (fun K hK => ?_) AllReadyH.nil)
        go_simp
        go_at_call 30
        refine (tnumbers_v X (replT Q) _).mono ?_; rintro e Wc ⟨rfl, y⟩
        go_wp2_with fail
        refine hK.out _ _ (hs.trans y) (fun hs => ?_)
        clear hK K y
        refine wpAnyH_takeD (i := 4) (d := 26) (v := .bool true) rfl rfl (by kernel_rfl) (by kernel_rfl) (by kernel_rfl) (fun _ _ _ h => h) (Or.inl ⟨by rfl, fun W hW => by go_simp⟩) hs ?_
        simp only [Act.put, List.setIfInBounds_toArray, List.set_cons_succ, List.set_cons_zero]
        refine wpAnyH_takeD (i := 5) (d := 27) (v := .bool true) rfl rfl (by kernel_rfl) (by kernel_rfl) (by kernel_rfl) (fun _ _ _ h => h) (Or.inl ⟨by rfl, fun W hW => by go_simp⟩) hs ?_
        simp only [Act.put, List.setIfInBounds_toArray, List.set_cons_succ, List.set_cons_zero]
        refine wpAnyH_takeD (i := 6) (d := 28) (v := .pointer (some ⟨w.heap.size + 1, 7, none⟩)) rfl rfl (by kernel_rfl) (by kernel_rfl) (by kernel_rfl) (fun _ _ _ h => h) (Or.inl ⟨by rfl, fun W hW => by go_simp⟩) hs ?_
        simp only [Act.put, List.setIfInBounds_toArray, List.set_cons_succ, List.set_cons_zero]
        refine wpAnyH_takeD (i := 7) (d := 29) (v := .slice U.a1 T.nb U.d1) rfl rfl (by kernel_rfl) (by kernel_rfl) (by kernel_rfl) (fun _ _ _ h => h) (Or.inl ⟨by rfl, fun W hW => by obtain ⟨c1, c2, c3, c4⟩ := HC.out W hW; go_simp⟩) hs ?_
        simp only [Act.put, List.setIfInBounds_toArray, List.set_cons_succ, List.set_cons_zero]
        refine wpAnyH_takeD (i := 8) (d := 30) (v := .int .i64 T.nb) rfl rfl (by kernel_rfl) (by kernel_rfl) (by kernel_rfl) (fun _ _ _ h => h) (Or.inl ⟨by rfl, fun W hW => by go_simp⟩) hs ?_
        simp only [Act.put, List.setIfInBounds_toArray, List.set_cons_succ, List.set_cons_zero]
        refine wpAnyH_takeD (i := 9) (d := 31) (v := .pointer (some ⟨w5.heap.size, 7, none⟩)) rfl rfl (by kernel_rfl) (by kernel_rfl) (by kernel_rfl) (fun _ _ _ h => h) (Or.inl ⟨by rfl, fun W hW => by go_simp⟩) hs ?_
        simp only [Act.put, List.setIfInBounds_toArray, List.set_cons_succ, List.set_cons_zero]
        refine wpAnyH_takeD (i := 10) (d := 32) (v := .slice X.a1 (replT Q).nb X.d1) rfl rfl (by kernel_rfl) (by kernel_rfl) (by kernel_rfl) (fun _ _ _ h => h) (Or.inl ⟨by rfl, fun W hW => by obtain ⟨c1, c2, c3, c4⟩ := HC.out W hW; go_simp⟩) hs ?_
        simp only [Act.put, List.setIfInBounds_toArray, List.set_cons_succ, List.set_cons_zero]
        refine wpAnyH_takeD (i := 11) (d := 33) (v := .int .i64 ((replT Q).nb : Nat)) rfl rfl (by kernel_rfl) (by kernel_rfl) (by kernel_rfl) (fun _ _ _ h => h) (Or.inl ⟨by rfl, fun W hW => by go_simp⟩) hs ?_
        simp only [Act.put, List.setIfInBounds_toArray, List.set_cons_succ, List.set_cons_zero]
        refine wpAnyH_takeD (i := 12) (d := 34) (v := .bool false) rfl rfl (by kernel_rfl) (by kernel_rfl) (by kernel_rfl) (fun _ _ _ h => h) (Or.inl ⟨by rfl, fun W hW => by go_simp⟩) hs ?_
        simp only [Act.put, List.setIfInBounds_toArray, List.set_cons_succ, List.set_cons_zero]
        refine wpAnyH_takeD (i := 13) (d := 35) (v := .bool false) rfl rfl (by kernel_rfl) (by kernel_rfl) (by kernel_rfl) (fun _ _ _ h => h) (Or.inl ⟨by rfl, fun W hW => by go_simp⟩) hs ?_
        simp only [Act.put, List.setIfInBounds_toArray, List.set_cons_succ, List.set_cons_zero]
        refine wpAnyH_takeD (i := 14) (d := 36) (v := .bool false) rfl rfl (by kernel_rfl) (by kernel_rfl) (by kernel_rfl) (fun _ _ _ h => h) (Or.inl ⟨by rfl, fun W hW => by go_simp⟩) hs ?_
        simp only [Act.put, List.setIfInBounds_toArray, List.set_cons_succ, List.set_cons_zero]
        refine wpAnyH_takeD (i := 15) (d := 37) (v := undef) rfl rfl (by kernel_rfl) (by kernel_rfl) (by kernel_rfl) (fun _ _ _ h => h) (Or.inr ⟨by rfl, rfl⟩) hs ?_
        simp only [Act.put, List.setIfInBounds_toArray, List.set_cons_succ, List.set_cons_zero]
        refine wpAnyH_takeD (i := 16) (d := 38) (v := undef) rfl rfl (by kernel_rfl) (by kernel_rfl) (by kernel_rfl) (fun _ _ _ h => h) (Or.inr ⟨by rfl, rfl⟩) hs ?_
        simp only [Act.put, List.setIfInBounds_toArray, List.set_cons_succ, List.set_cons_zero]
        refine wpAnyH_takeD (i := 17) (d := 39) (v := undef) rfl rfl (by kernel_rfl) (by kernel_rfl) (by kernel_rfl) (fun _ _ _ h => h) (Or.inr ⟨by rfl, rfl⟩) hs ?_
        simp only [Act.put, List.setIfInBounds_toArray, List.set_cons_succ, List.set_cons_zero]
        refine wpAnyH_takeD (i := 18) (d := 40) (v := undef) rfl rfl (by kernel_rfl) (by kernel_rfl) (by kernel_rfl) (fun _ _ _ h => h) (Or.inr ⟨by rfl, rfl⟩) hs ?_
        simp only [Act.put, List.setIfInBounds_toArray, List.set_cons_succ, List.set_cons_zero]
        refine wpAnyH_takeD (i := 19) (d := 41) (v := undef) rfl rfl (by kernel_rfl) (by kernel_rfl) (by kernel_rfl) (fun _ _ _ h => h) (Or.inr ⟨by rfl, rfl⟩) hs ?_
        simp only [Act.put, List.setIfInBounds_toArray, List.set_cons_succ, List.set_cons_zero]
        refine wpAnyH_takeD (i := 20) (d := 42) (v := undef) rfl rfl (by kernel_rfl) (by kernel_rfl) (by kernel_rfl) (fun _ _ _ h => h) (Or.inr ⟨by rfl, rfl⟩) hs ?_
        simp only [Act.put, List.setIfInBounds_toArray, List.set_cons_succ, List.set_cons_zero]
        refine wpAnyH_takeD (i := 21) (d := 43) (v := undef) rfl rfl (by kernel_rfl) (by kernel_rfl) (by kernel_rfl) (fun _ _ _ h => h) (Or.inr ⟨by rfl, rfl⟩) hs ?_
        simp only [Act.put, List.setIfInBounds_toArray, List.set_cons_succ, List.set_cons_zero]
        refine wpAnyH_takeD (i := 22) (d := 44) (v := .bool false) rfl rfl (by kernel_rfl) (by kernel_rfl) (by kernel_rfl) (fun _ _ _ h => h) (Or.inl ⟨by rfl, fun W hW => by go_simp⟩) hs ?_
        simp only [Act.put, List.setIfInBounds_toArray, List.set_cons_succ, List.set_cons_zero]
        refine wpAnyH_takeD (i := 23) (d := 4) (v := .bool false) rfl rfl (by kernel_rfl) (by kernel_rfl) (by kernel_rfl) (fun _ _ _ h => h) (Or.inl ⟨by rfl, fun W hW => by go_simp⟩) hs ?_
        simp only [Act.put, List.setIfInBounds_toArray, List.set_cons_succ, List.set_cons_zero]
        refine wpAnyH_done (by kernel_rfl) ?_ _
        go_wp2
        go_ret
        exact ⟨rfl, xA.trans hs⟩
       | true =>
        refine wp_region_held_drew (S := fun W => Ext W6 W) (by kernel_rfl) hs (fun _ => ?_)
        refine wpAnyH_takeD (i := 0) (d := 22) rfl rfl (by kernel_rfl) (by kernel_rfl) (by kernel_rfl) (fun _ _ _ h => h) (yieldsIf_load_row (by rfl) 28 (.tmp 3) rfl (w.heap.size + 1) rfl 28 _ (0, 0) _ (fun w' hw' => (HR.out _ hw').1) Try.underlying28 rfl (by kernel_rfl)) hs ?_
        simp only [Act.put, List.setIfInBounds_toArray, List.set_cons_succ, List.set_cons_zero]
        refine wpAnyH_takeD (i := 2) (d := 24) rfl rfl (by kernel_rfl) (by kernel_rfl) (by kernel_rfl) (fun _ _ _ h => h) (yieldsIf_load_row (by rfl) 28 (.tmp 5) rfl (w5.heap.size) rfl 28 _ (0, 0) _ (fun w' hw' => (HR.out _ hw').2) Try.underlying28 rfl (by kernel_rfl)) hs ?_
        simp only [Act.put, List.setIfInBounds_toArray, List.set_cons_succ, List.set_cons_zero]
        refine wpAnyH_ready (rs := [1]) (by kernel_rfl) (by simp) (AllReadyH.cons rfl (fun K hK => ?_) AllReadyH.nil)
        go_simp
        go_at_call 30
        refine (tnumbers_v U T _).mono ?_; rintro e Wc ⟨rfl, y⟩
        go_wp2_with fail
        refine hK.out _ _ (hs.trans y) (fun hs => ?_)
        clear hK K y
        refine wpAnyH_ready (rs := [3]) (by kernel_rfl) (by simp) (AllReadyH.cons rfl (fun K hK => ?_) AllReadyH.nil)
        go_simp
        go_at_call 30
        refine (tnumbers_v X (replT Q) _).mono ?_; rintro e Wc ⟨rfl, y⟩
        go_wp2_with fail
        refine hK.out _ _ (hs.trans y) (fun hs => ?_)
        clear hK K y
        refine wpAnyH_takeD (i := 4) (d := 26) (v := .bool true) rfl rfl (by kernel_rfl) (by kernel_rfl) (by kernel_rfl) (fun _ _ _ h => h) (Or.inl ⟨by rfl, fun W hW => by go_simp⟩) hs ?_
        simp only [Act.put, List.setIfInBounds_toArray, List.set_cons_succ, List.set_cons_zero]
        refine wpAnyH_takeD (i := 5) (d := 27) (v := .bool true) rfl rfl (by kernel_rfl) (by kernel_rfl) (by kernel_rfl) (fun _ _ _ h => h) (Or.inl ⟨by rfl, fun W hW => by go_simp⟩) hs ?_
        simp only [Act.put, List.setIfInBounds_toArray, List.set_cons_succ, List.set_cons_zero]
        refine wpAnyH_takeD (i := 6) (d := 28) (v := .pointer (some ⟨w.heap.size + 1, 7, none⟩)) rfl rfl (by kernel_rfl) (by kernel_rfl) (by kernel_rfl) (fun _ _ _ h => h) (Or.inl ⟨by rfl, fun W hW => by go_simp⟩) hs ?_
        simp only [Act.put, List.setIfInBounds_toArray, List.set_cons_succ, List.set_cons_zero]
        refine wpAnyH_takeD (i := 7) (d := 29) (v := .slice U.a1 T.nb U.d1) rfl rfl (by kernel_rfl) (by kernel_rfl) (by kernel_rfl) (fun _ _ _ h => h) (Or.inl ⟨by rfl, fun W hW => by obtain ⟨c1, c2, c3, c4⟩ := HC.out W hW; go_simp⟩) hs ?_
        simp only [Act.put, List.setIfInBounds_toArray, List.set_cons_succ, List.set_cons_zero]
        refine wpAnyH_takeD (i := 8) (d := 30) (v := .int .i64 T.nb) rfl rfl (by kernel_rfl) (by kernel_rfl) (by kernel_rfl) (fun _ _ _ h => h) (Or.inl ⟨by rfl, fun W hW => by go_simp⟩) hs ?_
        simp only [Act.put, List.setIfInBounds_toArray, List.set_cons_succ, List.set_cons_zero]
        refine wpAnyH_takeD (i := 9) (d := 31) (v := .pointer (some ⟨w5.heap.size, 7, none⟩)) rfl rfl (by kernel_rfl) (by kernel_rfl) (by kernel_rfl) (fun _ _ _ h => h) (Or.inl ⟨by rfl, fun W hW => by go_simp⟩) hs ?_
        simp only [Act.put, List.setIfInBounds_toArray, List.set_cons_succ, List.set_cons_zero]
        refine wpAnyH_takeD (i := 10) (d := 32) (v := .slice X.a1 (replT Q).nb X.d1) rfl rfl (by kernel_rfl) (by kernel_rfl) (by kernel_rfl) (fun _ _ _ h => h) (Or.inl ⟨by rfl, fun W hW => by obtain ⟨c1, c2, c3, c4⟩ := HC.out W hW; go_simp⟩) hs ?_
        simp only [Act.put, List.setIfInBounds_toArray, List.set_cons_succ, List.set_cons_zero]
        refine wpAnyH_takeD (i := 11) (d := 33) (v := .int .i64 ((replT Q).nb : Nat)) rfl rfl (by kernel_rfl) (by kernel_rfl) (by kernel_rfl) (fun _ _ _ h => h) (Or.inl ⟨by rfl, fun W hW => by go_simp⟩) hs ?_
        simp only [Act.put, List.setIfInBounds_toArray, List.set_cons_succ, List.set_cons_zero]
        refine wpAnyH_takeD (i := 12) (d := 34) (v := .bool true) rfl rfl (by kernel_rfl) (by kernel_rfl) (by kernel_rfl) (fun _ _ _ h => h) (Or.inl ⟨by rfl, fun W hW => by go_simp⟩) hs ?_
        simp only [Act.put, List.setIfInBounds_toArray, List.set_cons_succ, List.set_cons_zero]
        refine wpAnyH_takeD (i := 13) (d := 35) (v := .bool true) rfl rfl (by kernel_rfl) (by kernel_rfl) (by kernel_rfl) (fun _ _ _ h => h) (Or.inl ⟨by rfl, fun W hW => by go_simp⟩) hs ?_
        simp only [Act.put, List.setIfInBounds_toArray, List.set_cons_succ, List.set_cons_zero]
        refine wpAnyH_takeD (i := 14) (d := 36) (v := .bool true) rfl rfl (by kernel_rfl) (by kernel_rfl) (by kernel_rfl) (fun _ _ _ h => h) (Or.inl ⟨by rfl, fun W hW => by go_simp⟩) hs ?_
        simp only [Act.put, List.setIfInBounds_toArray, List.set_cons_succ, List.set_cons_zero]
        refine wpAnyH_takeD (i := 15) (d := 37) (v := .pointer (some ⟨w.heap.size + 1, 8, none⟩)) rfl rfl (by kernel_rfl) (by kernel_rfl) (by kernel_rfl) (fun _ _ _ h => h) (Or.inl ⟨by rfl, fun W hW => by go_simp⟩) hs ?_
        simp only [Act.put, List.setIfInBounds_toArray, List.set_cons_succ, List.set_cons_zero]
        refine wpAnyH_takeD (i := 16) (d := 38) (v := .slice U.a2 T.nr U.d2) rfl rfl (by kernel_rfl) (by kernel_rfl) (by kernel_rfl) (fun _ _ _ h => h) (Or.inl ⟨by rfl, fun W hW => by obtain ⟨c1, c2, c3, c4⟩ := HC.out W hW; go_simp⟩) hs ?_
        simp only [Act.put, List.setIfInBounds_toArray, List.set_cons_succ, List.set_cons_zero]
        refine wpAnyH_takeD (i := 17) (d := 39) (v := .int .i64 T.nr) rfl rfl (by kernel_rfl) (by kernel_rfl) (by kernel_rfl) (fun _ _ _ h => h) (Or.inl ⟨by rfl, fun W hW => by go_simp⟩) hs ?_
        simp only [Act.put, List.setIfInBounds_toArray, List.set_cons_succ, List.set_cons_zero]
        refine wpAnyH_takeD (i := 18) (d := 40) (v := .pointer (some ⟨w5.heap.size, 8, none⟩)) rfl rfl (by kernel_rfl) (by kernel_rfl) (by kernel_rfl) (fun _ _ _ h => h) (Or.inl ⟨by rfl, fun W hW => by go_simp⟩) hs ?_
        simp only [Act.put, List.setIfInBounds_toArray, List.set_cons_succ, List.set_cons_zero]
        refine wpAnyH_takeD (i := 19) (d := 41) (v := .slice X.a2 (replT Q).nr X.d2) rfl rfl (by kernel_rfl) (by kernel_rfl) (by kernel_rfl) (fun _ _ _ h => h) (Or.inl ⟨by rfl, fun W hW => by obtain ⟨c1, c2, c3, c4⟩ := HC.out W hW; go_simp⟩) hs ?_
        simp only [Act.put, List.setIfInBounds_toArray, List.set_cons_succ, List.set_cons_zero]
        refine wpAnyH_takeD (i := 20) (d := 42) (v := .int .i64 ((replT Q).nr : Nat)) rfl rfl (by kernel_rfl) (by kernel_rfl) (by kernel_rfl) (fun _ _ _ h => h) (Or.inl ⟨by rfl, fun W hW => by go_simp⟩) hs ?_
        simp only [Act.put, List.setIfInBounds_toArray, List.set_cons_succ, List.set_cons_zero]
        refine wpAnyH_takeD (i := 21) (d := 43) (v := .bool E2) rfl rfl (by kernel_rfl) (by kernel_rfl) (by kernel_rfl) (fun _ _ _ h => h) (Or.inl ⟨by rfl, fun W hW => by go_simp⟩) hs ?_
        simp only [Act.put, List.setIfInBounds_toArray, List.set_cons_succ, List.set_cons_zero]
        refine wpAnyH_takeD (i := 22) (d := 44) (v := .bool E2) rfl rfl (by kernel_rfl) (by kernel_rfl) (by kernel_rfl) (fun _ _ _ h => h) (Or.inl ⟨by rfl, fun W hW => by go_simp⟩) hs ?_
        simp only [Act.put, List.setIfInBounds_toArray, List.set_cons_succ, List.set_cons_zero]
        refine wpAnyH_takeD (i := 23) (d := 4) (v := .bool E2) rfl rfl (by kernel_rfl) (by kernel_rfl) (by kernel_rfl) (fun _ _ _ h => h) (Or.inl ⟨by rfl, fun W hW => by go_simp⟩) hs ?_
        simp only [Act.put, List.setIfInBounds_toArray, List.set_cons_succ, List.set_cons_zero]
        refine wpAnyH_done (by kernel_rfl) ?_ _
        go_wp2
        go_ret
        exact ⟨rfl, xA.trans hs⟩
end Go.Proofs.Ytejiafihiielgaa
