/-
  CONTRACTS: package tell (layer 16): Print.
-/
import Derived.Test.YtejiafihiielgaaTellC
import Derived.Test.YtejiafihiielgaaTellD
namespace Go.Proofs.Ytejiafihiielgaa
open Go.RowKit
set_option linter.unusedVariables false
set_option maxRecDepth 100000

theorem agN_le (Q : Qst) : agN Q ≤ 3 := by unfold agN; repeat' split
                                           all_goals omega
theorem tnum_congr {A B : Tel} (h1 : A.k = B.k) (h2 : A.ad = B.ad) (h3 : A.ct = B.ct) (h4 : A.va = B.va) (h5 : A.an = B.an) (h6 : A.oo = B.oo) : tnumF A = tnumF B := by
  funext i
  unfold tnumF
  rw [h1, h2, h3, h4, h5, h6]
theorem again_nums {Q : Qst} {T : Tel} (h : rightT Q T = true) (hc : T.cd = 0) : agF Q = tnumF T := by
  obtain ⟨ha, hn, hq⟩ := tright_parts h hc
  have e := whole_nums Q T.nb Q.ct.toNat T.B (fun _ => false) T.nr (if Q.k = 23 then Q.mn.toNat else Q.ct.toNat) T.R (fun _ => 0) T
  have e1 : numsT T (wholeT Q T.nb T.B T.nr T.R) = true := (numsT_iff _ _).2 ⟨ha.k, ha.cd, ha.ad, ha.ct, ha.va, ha.an, ha.oo⟩
  rw [e] at e1
  obtain ⟨a1, a2, a3, a4, a5, a6, a7⟩ := (numsT_iff _ _).1 e1
  unfold agF replT
  exact (tnum_congr a1 a3 a4 a5 a6 a7).symm
theorem said_all {Q : Qst} {T : Tel} (h : rightT Q T = true) (hc : T.cd = 0) : [Value.int .u8 T.k] ++ saidL (agN Q) (agF Q) T = lstG (Value.int .u8) (tsayF T) (tsayN T) ∧ 1 + saidN (agN Q) T = tsayN T ∧ szN T.nb + 2 * T.nr ≤ 255 := by
  obtain ⟨c1, c2, c3, c4⟩ := tcnt h hc
  obtain ⟨hTk, hq⟩ := rightT_k h
  have hk := (known_iff Q.k).1 ((rightQ_iff Q).1 hq).1
  have hz : szN 0 = 0 := by unfold szN; rfl
  rw [again_nums h hc]
  unfold saidL saidN
  by_cases h1 : Q.k = 1 ∨ Q.k = 2
  · obtain ⟨d1, d2, d3, d4⟩ := c1 h1
    have hN : agN Q = 0 := by unfold agN; rw [if_neg (by omega), if_neg (by omega)]
    have hp : 1 ≤ szN T.nb ∧ szN T.nb ≤ 250 := by unfold szN; omega
    have hn : tsayN T = 2 + szN T.nb := by unfold tsayN; rw [if_neg (by omega), if_pos (by omega)]
    rw [hN, d4, if_neg (by omega), if_neg (by omega), hn]
    refine ⟨?_, by omega, by omega⟩
    have e := tsay_bits hc (by omega : T.k = 1 ∨ T.k = 2)
    rw [show 1 + 1 + szN T.nb = 2 + szN T.nb by omega, List.append_assoc] at e
    rw [← e]
    have e0 : lstG (Value.int .u8) (putF (tnumF T)) (2 * 0) = [] := rfl
    rw [e0, List.nil_append, Nat.mul_zero, Nat.add_zero]
    have e2 : lstG (Value.int .u8) (catF (szN T.nb) (pkF T.B T.nb) (putF T.R)) (szN T.nb) = lstG (Value.int .u8) (pkF T.B T.nb) (szN T.nb) := lstG_congr fun i hi => by unfold catF; rw [if_pos hi]
    rw [e2]
  by_cases h2 : Q.k = 3 ∨ Q.k = 4 ∨ Q.k = 23
  · have hd : T.nb = 0 ∧ 1 ≤ T.nr ∧ T.nr ≤ 125 := by
      by_cases h3 : Q.k = 23
      · obtain ⟨d1, d2, d3, d4⟩ := c3 h3; omega
      · obtain ⟨d1, d2, d3, d4⟩ := c2 (by omega); omega
    obtain ⟨d1, d2, d3⟩ := hd
    have hN : agN Q = 0 := by unfold agN; rw [if_neg (by omega), if_neg (by omega)]
    have hn : tsayN T = 2 + 2 * T.nr := by unfold tsayN; rw [if_neg (by omega), if_neg (by omega), if_pos (by omega)]
    rw [hN, d1, hz, if_neg (by omega), if_neg (by omega), hn]
    refine ⟨?_, by omega, by omega⟩
    have e := tsay_words hc (by omega : ¬ (T.k = 1 ∨ T.k = 2)) (by omega)
    rw [show 1 + 1 + 2 * T.nr = 2 + 2 * T.nr by omega, List.append_assoc] at e
    rw [← e]
    have e0 : lstG (Value.int .u8) (putF (tnumF T)) (2 * 0) = [] := rfl
    rw [e0, List.nil_append, Nat.zero_add]
    have e2 : lstG (Value.int .u8) (catF 0 (pkF T.B 0) (putF T.R)) (2 * T.nr) = lstG (Value.int .u8) (putF T.R) (2 * T.nr) := lstG_congr fun i hi => by unfold catF; rw [if_neg (Nat.not_lt_zero i), Nat.sub_zero]
    rw [e2]
    have e3 : (fun _ : Nat => ((2 * T.nr : Nat) : Int)) = fun _ => 2 * (T.nr : Int) := by funext _; omega
    rw [e3]
  · obtain ⟨d1, d2⟩ := c4 h1 h2
    rw [d1, d2, hz, if_pos (by omega), if_pos (by omega), List.append_nil, Nat.add_zero]
    have hn : tsayN T = 1 + 2 * agN Q := by
      unfold tsayN agN
      rw [if_neg (by omega), if_neg (by omega), if_neg (by omega)]
      by_cases h22 : Q.k = 22
      · rw [if_pos (by omega), if_neg (by omega), if_pos h22]
      · rw [if_neg (by omega), if_pos (by omega)]
    rw [hn]
    exact ⟨tsay_nums hc (by omega) (by omega) _, rfl, by omega⟩
set_option maxHeartbeats 2000000 in
theorem tref_yes {k c : Int} (h : 1 ≤ k ∧ k ≤ 127 ∧ 1 ≤ c ∧ c ≤ 4) (w : World) : Calls Try.prog 11 #[.int .i64 k, .int .i64 c] w fun e w' => ∃ b, e = .returned (.tuple #[.slice b 2 2, .int .i64 0]) ∧ HoldsG (Value.int .u8) w' b 2 (refF k c) ∧ Ext w w' := by
  have KR := fun w => refuses_v (c := c) (B := true) (by rw [inB_iff]; omega) w
  have d1 : decide (k < 1) = false := decide_eq_false (by omega)
  have d2 : decide (128 ≤ k) = false := decide_eq_false (by omega)
  have w1 : IntKind.i64.wrap (128 + k) = 128 + k := IntWalk.i64_in _ (by omega)
  have w2 : IntKind.u8.wrap (128 + k) = 128 + k := w8 (by omega)
  have w3 : IntKind.u8.wrap c = c := w8 (by omega)
  clear h
  go_enter Try.func11, Try.ntmps11
  go_wp2_with (first | (go_at_call 28; refine (KR _).mono ?_; rintro e W ⟨rfl, rfl⟩))
  go_ret2
  refine ⟨some ⟨_, 0, none⟩, by rfl, HoldsG.new _ _ _ 2 _ (fun i hi => ?_), Ext.alloc _ _⟩
  have h : i = 0 ∨ i = 1 := by omega
  rcases h with rfl | rfl
  · exact congrArg (fun z => some (Value.int .u8 z)) (Int.add_comm 128 k)
  · rfl
set_option maxHeartbeats 4000000 in
theorem tprint_c : TPrintC 9 := by
  intro V Q U T w hQ hW n1 n2 hT m1 m2 hR
  obtain ⟨W2, hW2, e0, HX⟩ : ∃ W2, W2 = (w.alloc (.cells (qstC V Q) 25)).alloc (.cells (telC U T) 28) ∧ Ext w W2 ∧ Hid (∀ W, Ext W2 W → W.heap[w.heap.size]? = some (.cells (qstC V Q) 25 (0, 0)) ∧ W.heap[w.heap.size + 1]? = some (.cells (telC U T) 28 (0, 0))) :=
    ⟨_, rfl, (Ext.alloc w _).trans (Ext.alloc _ _), Lib.hid fun W x => ⟨x.block ((heap_alloc_old _ _ (by simp)).trans (heap_alloc_new w _)), x.block (heap_new_at _ _ (by simp))⟩⟩
  have HK := Lib.hid (fun W (x : Ext W2 W) => (⟨cell_of_heap (HX.out W x).2 rfl, cell_of_heap (HX.out W x).2 rfl⟩ : W.cell? ⟨w.heap.size + 1, 0, none⟩ = some (.int .i64 T.k) ∧ W.cell? ⟨w.heap.size + 1, 1, none⟩ = some (.int .i64 T.cd)))
  obtain ⟨r0, r1⟩ := HX.out W2 (Ext.refl _)
  have HQ := Lib.hid hQ
  have HT := Lib.hid hT
  have HTR := Lib.hid hR
  have KR := Lib.hid (fun W (x : Ext w W) => tright_c V Q U T W (HQ.out.ext x) hW n1 n2 (HT.out.ext x) m1 m2)
  clear hQ hT hR
  obtain ⟨D, hD⟩ : ∃ D, rightT Q T = D := ⟨_, rfl⟩
  rw [hD] at KR
  cases D with
  | false =>
    obtain ⟨hE, hN⟩ := tprE_no hD
    rw [hE, hN]
    clear hD hE hN
    go_enter Try.func9, Try.ntmps9
    go_upto_region 1 with fail
    rw [← hW2]
    clear hW2
    go_wp2_with (first
      | (refine wpList_load_row rfl 25 (.tmp 2) rfl w.heap.size rfl 25 _ (0, 0) _ r0 Try.underlying25 rfl (by kernel_rfl) ?_)
      | (refine wpList_load_row rfl 28 (.tmp 3) rfl (w.heap.size + 1) rfl 28 _ (0, 0) _ r1 Try.underlying28 rfl (by kernel_rfl) ?_)
      | (go_at_call 13; refine (KR.out _ e0).mono ?_; rintro e w3 ⟨rfl, x3⟩))
    go_ret2
    exact ⟨none, 0, by rfl, Nat.le_refl _, Nat.zero_le _, .inl rfl, e0.trans x3⟩
  | true =>
    obtain ⟨hE, hN⟩ := tprE_yes hD
    rw [hE, hN]
    have hkk := (rightT_k hD).1
    have hk9 := (known_iff Q.k).1 ((rightQ_iff Q).1 (rightT_k hD).2).1
    have hkb : 1 ≤ T.k ∧ T.k ≤ 127 := by omega
    by_cases hc : T.cd = 0
    · obtain ⟨s1, s2, s3⟩ := said_all hD hc
      have HSA := Lib.hid (And.intro s1 s2)
      have HLL := Lib.hid s3
      have KY := Lib.hid (fun W => reply_any V Q W (rightT_k hD).2)
      have HAF := Lib.hid (fun i (hi : i < agN Q) => (by rw [again_nums hD hc]; exact tnum_bd hD hc i : 0 ≤ agF Q i ∧ agF Q i < 65536))
      have w8k : IntKind.u8.wrap T.k = T.k := w8 (by omega)
      have dne : (T.cd != 0) = false := by simp [hc]
      clear hD hE hN hkk hk9 hkb hc s1 s2 s3
      go_enter Try.func9, Try.ntmps9
      go_upto_region 1 with fail
      rw [← hW2]
      clear hW2
      go_upto_region 3 with (first
        | (refine wpList_load_row rfl 25 (.tmp 2) rfl w.heap.size rfl 25 _ (0, 0) _ r0 Try.underlying25 rfl (by kernel_rfl) ?_)
        | (refine wpList_load_row rfl 28 (.tmp 3) rfl (w.heap.size + 1) rfl 28 _ (0, 0) _ r1 Try.underlying28 rfl (by kernel_rfl) ?_)
        | (go_at_call 13; refine (KR.out _ e0).mono ?_; rintro e w3 ⟨rfl, x3⟩))
      obtain ⟨c0, c1⟩ := HK.out _ x3
      have xW := e0.trans x3
      obtain ⟨W5, hW5, x35, HS5⟩ : ∃ W5, W5 = (w3.alloc (.cells #[.int .u8 T.k] 5)).alloc (.cells #[.slice (some ⟨w3.heap.size, 0, none⟩) 1 1] 51) ∧ Ext w3 W5 ∧ Hid (Spk w3 W5 (w3.heap.size + 1) 1 [.int .u8 T.k] (.slice (some ⟨w3.heap.size, 0, none⟩) 1 1)) :=
        ⟨_, rfl, (Ext.alloc w3 _).trans (Ext.alloc _ _), Lib.hid ⟨heap_new_at _ _ (by simp), (World.ownsRow_lit w3 #[.int .u8 T.k] 1 (Nat.le_refl _) (by unfold maxLen; omega) rfl).alloc _, by simp [Value.ownBlock], by simp⟩⟩
      go_upto_region 6 with fail
      rw [← hW5]
      clear hW5
      have hs5 : Ext W5 W5.drew := Ext.drew _
      have hs : Ext w3 W5.drew := x35.trans hs5
      have HR := Lib.hid (fun W (hx : Ext w3 W) => HX.out W (x3.trans hx))
      refine wp_region_held_drew (S := fun W => Ext w3 W) (by kernel_rfl) hs (fun _ => ?_)
      refine wpAnyH_takeD (i := 0) (d := 25) rfl rfl (by kernel_rfl) (by kernel_rfl) (by kernel_rfl) (fun _ _ _ h => h) (yieldsIf_load_row (by rfl) 25 (.tmp 2) rfl (w.heap.size) rfl 25 _ (0, 0) _ (fun w' hw' => (HR.out _ hw').1) Try.underlying25 rfl (by kernel_rfl)) hs ?_
      simp only [Act.put, List.setIfInBounds_toArray, List.set_cons_succ, List.set_cons_zero]
      refine wpAnyH_takeD (i := 3) (d := 28) rfl rfl (by kernel_rfl) (by kernel_rfl) (by kernel_rfl) (fun _ _ _ h => h) (yieldsIf_load_row (by rfl) 28 (.tmp 3) rfl (w.heap.size + 1) rfl 28 _ (0, 0) _ (fun w' hw' => (HR.out _ hw').2) Try.underlying28 rfl (by kernel_rfl)) hs ?_
      simp only [Act.put, List.setIfInBounds_toArray, List.set_cons_succ, List.set_cons_zero]
      refine wpAnyH_takeD (i := 4) (d := 29) (v := .func (Fn.func 25) #[.pointer (some ⟨w3.heap.size + 1, 0, none⟩)] #[]) rfl rfl (by kernel_rfl) (by kernel_rfl) (by kernel_rfl) (fun _ _ _ h => h) (Or.inl ⟨by rfl, fun W hW => by go_simp⟩) hs ?_
      simp only [Act.put, List.setIfInBounds_toArray, List.set_cons_succ, List.set_cons_zero]
      refine wpAnyH_ready (rs := [1]) (by kernel_rfl) (by simp) (AllReadyH.cons rfl (fun K hK => ?_) AllReadyH.nil)
      go_simp
      go_at_call 24
      refine (KY.out _).mono ?_; rintro e Wc ⟨⟨X, b5, q5, rfl, ht5, ha5, l5, m5, f5⟩, y⟩
      go_wp2_with fail
      have yc := hs5.trans y
      have HS6 := Lib.hid (HS5.out.ext yc)
      have HA6 := Lib.hid ha5
      have hfd := fun w => again_field w X (replT Q) b5 (agN Q) q5
      have HO6 := Lib.hid (fun p (hp : b5 = some p) (_ : agN Q ≠ 0) => (fun hq => by have z1 := f5 p hp; have z2 := (HS5.out.lt _ hq).2; have z3 := hs5.size; omega : ¬ SpF (w3.heap.size + 1) (.slice (some ⟨w3.heap.size, 0, none⟩) 1 1) p.block))
      refine hK.out _ _ (x35.trans yc) (fun hs => ?_)
      clear hK K y ha5 ht5 f5
      refine wpAnyH_takeD (i := 2) (d := 27) (v := .slice b5 (agN Q) q5) rfl rfl (by kernel_rfl) (by kernel_rfl) (by kernel_rfl) (fun _ _ _ h => h) (Or.inl ⟨by rfl, fun W hW => by go_simp⟩) hs ?_
      simp only [Act.put, List.setIfInBounds_toArray, List.set_cons_succ, List.set_cons_zero]
      refine wpAnyH_ready (rs := [5]) (by kernel_rfl) (by simp) (AllReadyH.cons rfl (fun K hK => ?_) AllReadyH.nil)
      go_simp
      go_at_call 23
      refine (say_c w3 _ (w3.heap.size + 1) 1 _ _ b5 (agN Q) q5 (agF Q) U T HS6.out (x35.trans yc) (by omega) HA6.out HO6.out (agN_le Q) HAF.out (HT.out.ext xW) HLL.out m1 m2 HTR.out).mono ?_; rintro e Wd ⟨rfl, vd, hSd, xd⟩
      go_wp2_with fail
      refine hK.out _ _ xd (fun hs => ?_)
      clear hK K
      refine wpAnyH_done (by kernel_rfl) ?_ _
      obtain ⟨bd, cd', rfl⟩ := own_shape hSd.own
      have cv : Wd.cell? ⟨w3.heap.size + 1, 0, none⟩ = some (.slice bd (1 + saidN (agN Q) T) cd') := cell_of_heap hSd.at_ rfl
      have hown := hSd.own
      rw [HSA.out.1] at hown
      have HOW := Lib.hid hown
      clear hown hSd HR HS5 HS6 HA6 HO6 hfd
      go_wp2
      go_ret2
      have hown := HOW.out
      rw [HSA.out.2] at hown
      obtain ⟨b8, d8, e8, l8, m8, h8⟩ := HoldsG.of_own (mk := Value.int .u8) hown
      cases e8
      exact ⟨_, _, by rw [HSA.out.2]; rfl, l8, m8, h8, xW.trans xd⟩
    · obtain ⟨ha, hcc, -⟩ := tright_code hD hc
      have KF := Lib.hid (fun W => tref_yes (k := T.k) (c := T.cd) ⟨hkb.1, hkb.2, hcc.1, hcc.2⟩ W)
      have hn : tsayN T = 2 := by unfold tsayN; rw [if_pos hc]
      have hf : Hid (∀ i, i < 2 → refF T.k T.cd i = tsayF T i) := Lib.hid fun i hi => by
        unfold refF tsayF
        rw [if_pos hc]
      rw [hn]
      have dne : (T.cd != 0) = true := by simp [hc]
      clear hD hE hN hkk hk9 hkb hc ha hcc hn
      go_enter Try.func9, Try.ntmps9
      go_upto_region 1 with fail
      rw [← hW2]
      clear hW2
      go_upto_region 3 with (first
        | (refine wpList_load_row rfl 25 (.tmp 2) rfl w.heap.size rfl 25 _ (0, 0) _ r0 Try.underlying25 rfl (by kernel_rfl) ?_)
        | (refine wpList_load_row rfl 28 (.tmp 3) rfl (w.heap.size + 1) rfl 28 _ (0, 0) _ r1 Try.underlying28 rfl (by kernel_rfl) ?_)
        | (go_at_call 13; refine (KR.out _ e0).mono ?_; rintro e w3 ⟨rfl, x3⟩))
      obtain ⟨c0, c1⟩ := HK.out _ x3
      go_wp2_with (first
        | (go_at_call 11; refine (KF.out _).mono ?_; rintro e w4 ⟨b4, rfl, h4, x4⟩))
      go_ret2
      exact ⟨b4, 2, rfl, Nat.le_refl _, by unfold maxLen; omega, h4.congr hf.out, (e0.trans x3).trans x4⟩
end Go.Proofs.Ytejiafihiielgaa
