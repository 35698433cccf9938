/-
  THE LAWS OF LAYER 22: WhoBits (the packages' contracts as premises).
-/
import Derived.Test.YtkgakeknnfnjdaaLaw22B
import Derived.Test.YtkgakeknnfnjdaaFilC
namespace Go.Proofs.Ytkgakeknnfnjdaa
open Go.RowKit
set_option linter.unusedVariables false
set_option maxRecDepth 100000

theorem right_co {F : Fil} (h : rightB F = true) : rgtB F.cf F.cc = true ∧ (F.nC : Int) = F.cc := by
  unfold rightB bankB at h
  simp only [Bool.and_eq_true, decide_eq_true_eq] at h
  exact ⟨h.1.1.1.1.1.1.1.1, h.1.1.1.2⟩
theorem st_none {F : Fil} {x : Int} (h : stG F x = false) : stF F x = 0 := by unfold stF; rw [h]; rfl
theorem st_eight {F : Fil} {x : Int} (h : bitE F false x 8 = 0) : stF F x = (flF (bitL F false x) 8 : Int) ∧ bitN F false x 8 = 8 := by
  refine ⟨?_, by unfold bitN; rw [if_pos h]; rfl⟩
  have hr : rightB F = true := by
    cases e : rightB F with
    | true => rfl
    | false => unfold bitE at h; rw [e] at h; simp at h
  obtain ⟨hg, hn⟩ := right_co hr
  have hh : holdB F.cf F.cc x 8 = true := by
    cases e : holdB F.cf F.cc x 8 with
    | true => rfl
    | false => unfold bitE rdE at h; rw [hr, e, hg] at h; simp [hn] at h
  obtain ⟨q1, q2, q3, q4, q5, q6, q7, q8⟩ := (holdB_iff _ _ _ _).1 hh
  have hs : stG F x = true := by unfold stG; rw [decide_eq_true (by omega), decide_eq_true (by omega), hr]; rfl
  unfold stF
  rw [if_pos hs, flF_first]
  congr 1
  refine bt_congr 8 (fun i hi => ?_)
  have h1 : hasB F.cf F.cc (x + i) = true := (hasB_iff _ _ _).2 ⟨q1, q2, q3, q4, q5, by omega, by omega⟩
  unfold cB bitL rdF
  rw [h1, Bool.true_and]
  show F.C (x + i - F.cf).toNat = F.C ((x - F.cf).toNat + i)
  congr 1
  omega
theorem bt_odd (g : Nat → Bool) : bt g 8 % 2 = if g 0 = true then 1 else 0 := by
  have h := bt_bit g 8 0
  rw [Nat.testBit_zero] at h
  simp at h
  cases e : g 0 with
  | true => rw [e] at h; simp at h; simp [h]
  | false => rw [e] at h; simp at h; simp [h]
theorem st_one {F : Fil} {x : Int} (hr : rightB F = true) (h1 : ¬ 65535 < x) (h2 : ¬ x < -8) :
    stF F x = (bt (cB F x) 8 : Int) ∧ ((bitE F false x 1 = 0 ∧ bitN F false x 1 = 1 ∧ bitL F false x 0 = cB F x 0) ∨ (bitE F false x 1 ≠ 0 ∧ cB F x 0 = false)) := by
  have hs : stG F x = true := by unfold stG; rw [decide_eq_true (by omega), decide_eq_true (by omega), hr]; rfl
  refine ⟨by unfold stF; rw [if_pos hs], ?_⟩
  obtain ⟨hg, hn⟩ := right_co hr
  have hgi := (rgtB_iff _ _).1 hg
  cases hh : hasB F.cf F.cc x with
  | true =>
    obtain ⟨q1, q2, q3, q4, q5, q6, q7⟩ := (hasB_iff _ _ _).1 hh
    have h3 : holdB F.cf F.cc x 1 = true := (holdB_iff _ _ _ _).2 ⟨q1, q2, q3, q4, q5, by omega, q6, by omega⟩
    have h4 : bitE F false x 1 = 0 := by unfold bitE rdE; rw [hr, h3, hg]; simp [hn]
    refine .inl ⟨h4, by unfold bitN; rw [if_pos h4]; rfl, ?_⟩
    unfold cB bitL rdF
    rw [show x + ((0 : Nat) : Int) = x by omega, hh, Bool.true_and]
    rfl
  | false =>
    have h3 : holdB F.cf F.cc x 1 = false := by
      cases e : holdB F.cf F.cc x 1 with
      | false => rfl
      | true =>
        obtain ⟨q1, q2, q3, q4, q5, q6, q7, q8⟩ := (holdB_iff _ _ _ _).1 e
        rw [(hasB_iff _ _ _).2 ⟨q1, q2, q3, q4, q5, q7, by omega⟩] at hh
        cases hh
    refine .inr ⟨by unfold bitE rdE; rw [hr, h3, hg]; simp [hn], ?_⟩
    unfold cB
    rw [show x + ((0 : Nat) : Int) = x by omega, hh]; rfl
set_option maxHeartbeats 16000000 in
theorem whoBits.walk0 (K : WhoC) (hR : FRightC 16) (hB : FBitsC 14) (V : FilV) (F : Fil) (x : Int) (w : World) (hf : FilAt w V F) (h1 : F.nC ≤ 1000000000000000) (h2 : F.nI ≤ 1000000000000000) (h3 : F.nH ≤ 1000000000000000) (h4 : F.nR ≤ 1000000000000000) (wx : (Lit.int .i64 x).wf = true) :
    Calls Try.prog 5 #[.agg (filC V F), .int .i64 x] w fun e w' => e = .returned (.bool true) ∧ Ext w w' := by
  obtain ⟨W0, hW0, x0, HG⟩ : ∃ W0, W0 = w.alloc (.cells (filC V F) 29) ∧ Ext w W0 ∧ Hid (∀ W, Ext W0 W → W.heap[w.heap.size]? = some (.cells (filC V F) 29 (0, 0))) := ⟨_, rfl, Ext.alloc _ _, Lib.hid (fun W y => y.block (heap_alloc_new _ _))⟩
  have KFl := Lib.hid (rfew14_any V F W0 h1 h2 h3 h4)
  have HK := Lib.hid K
  have HX := Lib.hid x0
  have gA := HG.out W0 (Ext.refl _)
  cases hfew : decide (F.nC + F.nI + F.nH + F.nR ≤ 4000) with
  | false =>
    rw [hfew] at KFl
    clear K hR hB hf h1 h2 h3 h4 wx x0 hfew
    go_enter Try.func5, Try.ntmps5
    go_upto_region 1 with fail
    rw [← hW0]
    clear hW0
    go_wp2_with (refine wpList_load_row rfl 29 (.tmp 2) rfl w.heap.size rfl 29 (filC V F) (0, 0) _ gA Try.underlying29 rfl (by kernel_rfl) ?_)
    refine KFl.out.mono ?_; rintro e w1 ⟨rfl, x1⟩
    go_wp2_with fail
    refine (sure22 HK.out w1).mono ?_; rintro e w2 ⟨rfl, x2⟩
    go_wp2
    go_ret
    exact ⟨rfl, HX.out.trans (x1.trans x2)⟩
  | true =>
    rw [hfew] at KFl
    have KS := Lib.hid (fun W (y : Ext W0 W) => K.status V F x W (hf.ext (x0.trans y)) wx)
    have KB := Lib.hid (fun W (y : Ext W0 W) => hB V F false x 8 W (hf.ext (x0.trans y)) wx (by decide))
    have KC := Lib.hid (fun W (y : Ext W0 W) => hB V F false x 1 W (hf.ext (x0.trans y)) wx (by decide))
    have KR := Lib.hid (fun W (y : Ext W0 W) => hR V F W (hf.ext (x0.trans y)))
    unfold SlP at KB KC
    obtain ⟨E8, hE8⟩ : ∃ E8, bitE F false x 8 = E8 := ⟨_, rfl⟩
    obtain ⟨N8, hN8⟩ : ∃ N8, bitN F false x 8 = N8 := ⟨_, rfl⟩
    obtain ⟨E1, hE1⟩ : ∃ E1, bitE F false x 1 = E1 := ⟨_, rfl⟩
    obtain ⟨N1, hN1⟩ : ∃ N1, bitN F false x 1 = N1 := ⟨_, rfl⟩
    obtain ⟨S, hS⟩ : ∃ S, stF F x = S := ⟨_, rfl⟩
    obtain ⟨R, hRr⟩ : ∃ R, rightB F = R := ⟨_, rfl⟩
    obtain ⟨L, hL⟩ : ∃ L, bitL F false x = L := ⟨_, rfl⟩
    obtain ⟨cq, hc0⟩ : ∃ cq, cB F x 0 = cq := ⟨_, rfl⟩
    have H8 : Hid (E8 = 0 → S = (flF L 8 : Int) ∧ N8 = 8) := Lib.hid (fun h => by rw [← hS, ← hN8, ← hL]; exact st_eight (hE8.trans h))
    have H0 : Hid (R = false ∨ 65535 < x ∨ x < -8 → S = 0) := Lib.hid (fun h => by
      rw [← hS]
      refine st_none ?_
      unfold stG
      rw [hRr]
      rcases h with h | h | h
      · rw [h]; simp
      · rw [decide_eq_false (by omega)]; rfl
      · rw [decide_eq_false (p := -8 ≤ x) (by omega)]; simp)
    have H1 : Hid (R = true → ¬ 65535 < x → ¬ x < -8 → ∃ s : Nat, S = (s : Int) ∧ s < 256 ∧ s % 2 = (if cq = true then 1 else 0) ∧ ((E1 = 0 ∧ N1 = 1 ∧ L 0 = cq) ∨ (E1 ≠ 0 ∧ cq = false))) := Lib.hid (fun h a b => by
      obtain ⟨u, v⟩ := st_one (hRr.trans h) a b
      rw [hS] at u
      rw [hE1, hN1, hL, hc0] at v
      exact ⟨_, u, bt_lt _ 8, by rw [bt_odd, hc0], v⟩)
    rw [hE8, hN8, hL] at KB
    rw [hE1, hN1, hL] at KC
    rw [hS] at KS
    rw [hRr] at KR
    clear K hR hB hf h1 h2 h3 h4 wx x0 hfew hE8 hN8 hE1 hN1 hS hRr hL hc0
    go_enter Try.func5, Try.ntmps5
    go_upto_region 1 with fail
    rw [← hW0]
    clear hW0
    go_wp2_with (refine wpList_load_row rfl 29 (.tmp 2) rfl w.heap.size rfl 29 (filC V F) (0, 0) _ gA Try.underlying29 rfl (by kernel_rfl) ?_)
    refine KFl.out.mono ?_; rintro e w1 ⟨rfl, x1⟩
    clear gA
    have gA := HG.out w1 x1
    go_wp2_with (refine wpList_load_row rfl 29 (.tmp 2) rfl w.heap.size rfl 29 (filC V F) (0, 0) _ gA Try.underlying29 rfl (by kernel_rfl) ?_)
    refine (KB.out _ x1).mono ?_; rintro e w2 ⟨b, q, rfl, l2, m2, h2, x2, -⟩
    clear gA
    have z2 := x1.trans x2
    have gA := HG.out w2 z2
    go_wp2_with (refine wpList_load_row rfl 29 (.tmp 2) rfl w.heap.size rfl 29 (filC V F) (0, 0) _ gA Try.underlying29 rfl (by kernel_rfl) ?_)
    refine (KS.out _ z2).mono ?_; rintro e w3 ⟨rfl, x3⟩
    clear gA
    have z3 := z2.trans x3
    have H2 := Lib.hid (And.intro (h2.ext x3) (And.intro l2 m2))
    clear h2 l2 m2 x1 x2 x3 z2
    by_cases hE : E8 = 0
    · obtain ⟨hS, hN⟩ := H8.out hE
      subst hE hS hN
      have KF := Lib.hid (flags_any b 8 q L w3 H2.out.1 (by omega) H2.out.2.1 H2.out.2.2)
      clear KB KC KR H0 H1
      go_wp2_with fail
      refine KF.out.mono ?_; rintro e w4 ⟨rfl, rfl⟩
      go_wp2_with fail
      refine (sure22 HK.out _).mono ?_; rintro e w5 ⟨rfl, x5⟩
      go_wp2
      go_ret
      exact ⟨rfl, HX.out.trans (z3.trans x5)⟩
    · have gA := HG.out w3 z3
      clear KB KS H8 H2
      go_wp2_with (refine wpList_load_row rfl 29 (.tmp 2) rfl w.heap.size rfl 29 (filC V F) (0, 0) _ gA Try.underlying29 rfl (by kernel_rfl) ?_)
      refine (KR.out _ z3).mono ?_; rintro e w4 ⟨rfl, x4⟩
      clear gA
      have z4 := z3.trans x4
      clear x4 KR
      rcases (show (R = false ∨ 65535 < x ∨ x < -8) ∨ (R = true ∧ ¬ 65535 < x ∧ ¬ x < -8) by
        cases R
        · exact .inl (.inl rfl)
        · by_cases h1 : 65535 < x
          · exact .inl (.inr (.inl h1))
          · by_cases h2 : x < -8
            · exact .inl (.inr (.inr h2))
            · exact .inr ⟨rfl, h1, h2⟩) with hno | ⟨hR, h1, h2⟩
      · have hS := H0.out hno
        subst hS
        have HN : Hid (R = false ∨ (R = true ∧ 65535 < x) ∨ (R = true ∧ ¬ 65535 < x ∧ x < -8)) := Lib.hid (by
          cases R
          · exact .inl rfl
          · by_cases h1 : 65535 < x
            · exact .inr (.inl ⟨rfl, h1⟩)
            · refine .inr (.inr ⟨rfl, h1, ?_⟩)
              exact (hno.resolve_left (by simp)).resolve_left h1)
        clear H0 H1 hno KC
        rcases HN.out with hR | ⟨hR, h1⟩ | ⟨hR, h1, h2⟩
        all_goals
          subst hR
          clear HN
          go_wp2_with fail
          refine (sure22 HK.out _).mono ?_; rintro e w5 ⟨rfl, x5⟩
          go_wp2
          go_ret
          exact ⟨rfl, HX.out.trans (z4.trans x5)⟩
      · obtain ⟨s, hS, hs, hs2, hw⟩ := H1.out hR (by omega) (by omega)
        subst hR hS
        clear H0 H1
        have HS2 := Lib.hid (And.intro hs hs2)
        have HW := Lib.hid hw
        clear hw hs hs2
        have gA := HG.out w4 z4
        go_wp2_with (refine wpList_load_row rfl 29 (.tmp 2) rfl w.heap.size rfl 29 (filC V F) (0, 0) _ gA Try.underlying29 rfl (by kernel_rfl) ?_)
        refine (KC.out _ z4).mono ?_; rintro e w5 ⟨b5, q5, rfl, l5, m5, h5, x5, -⟩
        clear gA
        have z5 := z4.trans x5
        clear x5 KC z4
        rcases HW.out with ⟨hE1, hN1, hL⟩ | ⟨hE1, hc⟩
        · subst hE1 hN1
          obtain ⟨B, o, rfl, -, hc⟩ := h5.resolve_left (by omega)
          have c0 := hc 0 (by omega)
          rw [hL, Nat.add_zero] at c0
          clear hc hL l5 m5 h5 HW
          cases cq
          all_goals
            have e2 := HS2.out.2
            simp at e2
          · have e3 : (s : Int) % 2 = 0 := by omega
            clear e2
            go_wp2_with fail
            refine (sure22 HK.out _).mono ?_; rintro e w6 ⟨rfl, x6⟩
            go_wp2
            go_ret
            exact ⟨rfl, HX.out.trans (z5.trans x6)⟩
          · have e3 : (s : Int) % 2 = 1 := by omega
            clear e2
            go_wp2_with fail
            refine (sure22 HK.out _).mono ?_; rintro e w6 ⟨rfl, x6⟩
            go_wp2
            go_ret
            exact ⟨rfl, HX.out.trans (z5.trans x6)⟩
        · subst hc
          clear l5 m5 h5 HW
          have e2 := HS2.out.2
          simp at e2
          have e3 : (s : Int) % 2 = 0 := by omega
          clear e2
          go_wp2_with fail
          refine (sure22 HK.out _).mono ?_; rintro e w6 ⟨rfl, x6⟩
          go_wp2
          go_ret
          exact ⟨rfl, HX.out.trans (z5.trans x6)⟩
end Go.Proofs.Ytkgakeknnfnjdaa
