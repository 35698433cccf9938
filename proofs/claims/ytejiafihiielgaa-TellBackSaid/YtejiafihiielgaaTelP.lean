/-
  CONTRACTS: bilgeref16 (layer 16): Print.
-/
import Derived.Test.YtejiafihiielgaaTelQ
import Derived.Test.YtejiafihiielgaaAskP
import Derived.ArgAppend
namespace Go.Proofs.Ytejiafihiielgaa
open Go.RowKit
set_option linter.unusedVariables false
set_option maxRecDepth 100000

theorem tel_parts {Q : Qst} {T : Tel} (h : rightT Q T = true) (hc : T.cd = 0) : Alike16 T (wholeT Q T.nb T.B T.nr T.R) ∧ cntB Q T = true ∧ rightQ Q = true := by
  have hr := (rightT_k h).2
  rw [right16_yes hr, if_pos hc, Bool.and_eq_true] at h
  exact ⟨(sameT_iff _ _).1 h.1, h.2, hr⟩
theorem tel_code {Q : Qst} {T : Tel} (h : rightT Q T = true) (hc : T.cd ≠ 0) : Alike16 T { zeroT with k := Q.k, cd := T.cd } ∧ (1 ≤ T.cd ∧ T.cd ≤ 4) ∧ rightQ Q = true := by
  have hr := (rightT_k h).2
  rw [right16_yes hr, if_neg hc, Bool.and_eq_true, inB_iff] at h
  exact ⟨(sameT_iff _ _).1 h.2, h.1, hr⟩
theorem tnum_bd {Q : Qst} {T : Tel} (h : rightT Q T = true) (hc : T.cd = 0) (i : Nat) : 0 ≤ tnumF T i ∧ tnumF T i < 65536 := by
  obtain ⟨ha, hn, hr⟩ := tel_parts h hc
  obtain ⟨hkn, ho, had, hf⟩ := (rightQ_iff Q).1 hr
  have hk := (known_iff Q.k).1 hkn
  have e1 := ha.ad; have e2 := ha.ct; have e3 := ha.va; have e4 := ha.an; have e5 := ha.oo
  unfold wholeT at e1 e2 e3 e4 e5
  unfold fitsB at hf
  unfold tnumF
  rcases hk with hk | hk | hk | hk | hk | hk | hk | hk | hk | hk <;>
  · simp (config := { decide := true }) only [hk, zeroT, if_true, if_false, Bool.and_eq_true, inB_iff, decide_eq_true_iff] at e1 e2 e3 e4 e5 hf
    rw [e1, e2, e3, e4, e5]
    repeat' split
    all_goals omega
theorem lstG_congr {α : Type} {mk : α → Value} {f g : Nat → α} {n : Nat} (h : ∀ i, i < n → f i = g i) : lstG mk f n = lstG mk g n := by
  unfold lstG
  exact List.map_congr_left fun i hi => by rw [h i (List.mem_range.1 hi)]
theorem tsay_nums {T : Tel} (hc : T.cd = 0) (h1 : ¬ (T.k = 1 ∨ T.k = 2)) (h2 : ¬ (T.k = 3 ∨ T.k = 4 ∨ T.k = 23)) (m : Nat) : [Value.int .u8 T.k] ++ lstG (Value.int .u8) (putF (tnumF T)) (2 * m) = lstG (Value.int .u8) (tsayF T) (1 + 2 * m) := by
  rw [lst_one (Value.int .u8) T.k, lstG_append]
  refine lstG_congr fun i hi => ?_
  have e : tsayF T i = if i = 0 then T.k else putF (tnumF T) (i - 1) := by unfold tsayF; rw [if_neg (by omega), if_neg h1, if_neg h2]
  rw [e]
  by_cases h0 : i = 0
  · rw [if_pos (by omega), if_pos h0]
  · rw [if_neg (by omega), if_neg h0]
theorem tsay_bits {T : Tel} (hc : T.cd = 0) (h1 : T.k = 1 ∨ T.k = 2) : [Value.int .u8 T.k] ++ lstG (Value.int .u8) (fun _ => (szN T.nb : Int)) 1 ++ lstG (Value.int .u8) (pkF T.B T.nb) (szN T.nb) = lstG (Value.int .u8) (tsayF T) (1 + 1 + szN T.nb) := by
  rw [lst_one (Value.int .u8) T.k, lstG_append, lstG_append]
  refine lstG_congr fun i hi => ?_
  have e : tsayF T i = if i = 0 then T.k else if i = 1 then (szN T.nb : Int) else pkF T.B T.nb (i - 2) := by unfold tsayF; rw [if_neg (by omega), if_pos h1]
  rw [e]
  by_cases h0 : i = 0
  · rw [if_pos (by omega), if_pos (by omega), if_pos h0]
  · rw [if_neg h0]
    by_cases hi1 : i = 1
    · rw [if_pos (by omega), if_neg (by omega), if_pos hi1]
    · rw [if_neg (by omega), if_neg hi1]
theorem tsay_words {T : Tel} (hc : T.cd = 0) (h1 : ¬ (T.k = 1 ∨ T.k = 2)) (h2 : T.k = 3 ∨ T.k = 4 ∨ T.k = 23) : [Value.int .u8 T.k] ++ lstG (Value.int .u8) (fun _ => 2 * (T.nr : Int)) 1 ++ lstG (Value.int .u8) (putF T.R) (2 * T.nr) = lstG (Value.int .u8) (tsayF T) (1 + 1 + 2 * T.nr) := by
  rw [lst_one (Value.int .u8) T.k, lstG_append, lstG_append]
  refine lstG_congr fun i hi => ?_
  have e : tsayF T i = if i = 0 then T.k else if i = 1 then 2 * (T.nr : Int) else putF T.R (i - 2) := by unfold tsayF; rw [if_neg (by omega), if_neg h1, if_pos h2]
  rw [e]
  by_cases h0 : i = 0
  · rw [if_pos (by omega), if_pos (by omega), if_pos h0]
  · rw [if_neg h0]
    by_cases hi1 : i = 1
    · rw [if_pos (by omega), if_neg (by omega), if_pos hi1]
    · rw [if_neg (by omega), if_neg hi1]
def PrT (Q : Qst) (T : Tel) (w : World) (e : Ending) (w' : World) : Prop :=
  ∃ b q, e = .returned (.tuple #[.slice b (tprN Q T) q, .bool (rightT Q T)]) ∧ tprN Q T ≤ q ∧ q ≤ maxLen ∧ HoldsG (Value.int .u8) w' b (tprN Q T) (tsayF T) ∧ Ext w w'
/-- append onto a full literal of one: it grows, all else is as it was. -/
theorem wpList_append_lit {P : Program} {w : World} {α : Type} {mk : α → Value} {ops : Array Oper} {rest : List Oper} {o : Oper} {a : Act} {Q : Exit → Act → World → Prop} (hgd : o.guard = none) (s x : Operand) (t : TypeId)
    (ho : o.op = .call { callee := .builtin .append, args := #[s, x], argTypes := #[t, t] })
    (e : TypeId) (i : TypeInfo) (z : Value) (bytes : Nat) (ht : P.underlying t = some (.slice e)) (hi : P.info? e = some i) (hz : i.zero = some z) (hsize : i.size = 1) (hby : i.bytes = bytes) (hzs : z.cells.size = 1)
    (G : Nat) (y : Value) (hs : a.eval s = .slice (some ⟨G, 0, none⟩) 1 1) (hG : w.cell? ⟨G, 0, none⟩ = some y)
    (A : Option Addr) (m c : Nat) (f : Nat → α) (hx : a.eval x = .slice A m c) (hh : HoldsG mk w A m f) (hm : 0 < m) (h1 : ∀ u, (mk u).oneCell' = true) (h63 : 1 + m ≤ maxLen) (hbytes : (1 + m) * bytes ≤ 140737488355328)
    (h : ∀ v' w', w'.ownsRow w.heap.size e 1 v' (1 + m) ([y] ++ lstG mk f m) → Ext w w' → wpList P ops Q rest (a.put o.dst v') w') : wpList P ops Q (o :: rest) a w := by
  obtain ⟨b, off, rfl, hlt, hc⟩ := hh.resolve_left (by omega)
  refine wpList_append_grows w hgd s x t ho e i z 1 bytes ht hi hz hsize hby hzs (by omega) (some ⟨G, 0, none⟩) 1 1 [y] hs (fun h => by cases h) rfl ?_ ⟨b, off, none⟩ m c (lstG mk f m) hx (by rw [lstG_length]; omega) ?_ ?_ (by omega) h63 hbytes ?_
  · intro b' hb' j u hu
    cases hb'
    cases j with
    | zero => cases hu; exact hG
    | succ j => cases hu
  · intro j u hu
    have hj : j < m := by
      rcases Nat.lt_or_ge j m with h | h
      · exact h
      · rw [List.getElem?_eq_none (by rw [lstG_length]; omega)] at hu; cases hu
    rw [lstG_get _ _ _ _ hj] at hu
    have e1 : (⟨b, off, none⟩ : Addr).add j = ⟨b, off + j, none⟩ := by unfold Addr.add; split <;> simp_all
    rw [e1, hc j hj]; exact hu
  · intro u hu
    simp only [lstG, List.mem_map] at hu
    obtain ⟨k, _, rfl⟩ := hu
    exact h1 _
  · intro v' w' h2 h3
    exact h v' w' h2 ((Below.refl _ _).grown h3 (Nat.le_refl _) (fun q hq => by cases hq))
set_option maxHeartbeats 2000000 in
theorem rprint16_no (V : QstV) (Q : Qst) (U : QstV) (T : Tel) (w : World) (h : QstAt w V Q) (n1 : Q.nb ≤ 1000000) (n2 : Q.nr ≤ 1000000) (k : TelAt w U T) (m1 : T.nb ≤ 1000000) (m2 : T.nr ≤ 1000000) (hr : rightT Q T = false) : Calls Try.prog 10 #[.agg (qstC V Q), .agg (telC U T)] w (PrT Q T w) := by
  have KR := Lib.hid (fun W (x : Ext w W) => rright16_v hr W (h.ext x) n1 n2 (k.ext x) m1 m2)
  unfold PrT
  rw [hr, show tprN Q T = 0 from by unfold tprN; rw [hr]; rfl]
  obtain ⟨W2, hW2, e0, HX⟩ : ∃ W2, W2 = (w.alloc (.cells (qstC V Q) 25)).alloc (.cells (telC U T) 28) ∧ Ext w W2 ∧ Hid (∀ W, Ext W2 W → W.heap[w.heap.size]? = some (.cells (qstC V Q) 25 (0, 0)) ∧ W.heap[w.heap.size + 1]? = some (.cells (telC U T) 28 (0, 0))) :=
    ⟨_, rfl, (Ext.alloc w _).trans (Ext.alloc _ _), Lib.hid fun W x => ⟨x.block ((heap_alloc_old _ _ (by simp)).trans (heap_alloc_new w _)), x.block (heap_new_at _ _ (by simp))⟩⟩
  clear h k n1 n2 m1 m2 hr
  go_enter Try.func10, Try.ntmps10
  go_upto_region 1 with fail
  rw [← hW2]
  clear hW2
  obtain ⟨b1, b2⟩ := HX.out _ (Ext.refl W2)
  go_wp2_with (first
    | (refine wpList_load_row rfl 25 (.tmp 2) rfl w.heap.size rfl 25 _ (0, 0) _ b1 Try.underlying25 rfl (by kernel_rfl) ?_)
    | (refine wpList_load_row rfl 28 (.tmp 3) rfl (w.heap.size + 1) rfl 28 _ (0, 0) _ b2 Try.underlying28 rfl (by kernel_rfl) ?_))
  refine (KR.out _ e0).mono ?_; rintro e w3 ⟨rfl, x3⟩
  clear b1 b2
  go_wp2
  go_ret2
  exact ⟨none, 0, rfl, Nat.le_refl _, by decide, .inl rfl, e0.trans x3⟩
set_option maxHeartbeats 8000000 in
theorem rprint16_yes (V : QstV) (Q : Qst) (U : QstV) (T : Tel) (w : World) (h : QstAt w V Q) (n1 : Q.nb ≤ 1000000) (n2 : Q.nr ≤ 1000000) (k : TelAt w U T) (m1 : T.nb ≤ 1000000) (m2 : T.nr ≤ 1000000) (hR : ∀ i, i < T.nr → 0 ≤ T.R i ∧ T.R i < 65536) (hr : rightT Q T = true) : Calls Try.prog 10 #[.agg (qstC V Q), .agg (telC U T)] w (PrT Q T w) := by
  have KR := Lib.hid (fun W (x : Ext w W) => rright16_v hr W (h.ext x) n1 n2 (k.ext x) m1 m2)
  obtain ⟨i8, hi8, hz80, hz81, hz82⟩ := info_parts Try.info8
  have hTk := (rightT_k hr).1
  have hkk := (known_iff Q.k).1 ((rightQ_iff Q).1 (rightT_k hr).2).1
  unfold PrT
  rw [hr, show tprN Q T = tsayN T from by unfold tprN; rw [hr]; rfl]
  obtain ⟨W2, hW2, e0, HX⟩ : ∃ W2, W2 = (w.alloc (.cells (qstC V Q) 25)).alloc (.cells (telC U T) 28) ∧ Ext w W2 ∧ Hid (∀ W, Ext W2 W → W.heap[w.heap.size]? = some (.cells (qstC V Q) 25 (0, 0)) ∧ W.heap[w.heap.size + 1]? = some (.cells (telC U T) 28 (0, 0))) :=
    ⟨_, rfl, (Ext.alloc w _).trans (Ext.alloc _ _), Lib.hid fun W x => ⟨x.block ((heap_alloc_old _ _ (by simp)).trans (heap_alloc_new w _)), x.block (heap_new_at _ _ (by simp))⟩⟩
  have KPk := Lib.hid (fun W (x : Ext w W) => rpack_any U.a1 T.nb U.d1 T.B W (k.h1.ext x) m1)
  have KWp := Lib.hid (fun W (x : Ext w W) => rput_any U.a2 T.nr U.d2 T.R W (k.h2.ext x) m2 hR)
  have HRT := Lib.hid hr
  by_cases hcd : T.cd = 0
  · have hb0 : (T.cd != 0) = false := by simp [hcd]
    have hnb := fun i => tnum_bd hr hcd i
    have HSN : Hid (tsayN T = if T.k = 1 ∨ T.k = 2 then 2 + szN T.nb else if T.k = 3 ∨ T.k = 4 ∨ T.k = 23 then 2 + 2 * T.nr else if T.k = 22 then 7 else 5) := Lib.hid (by unfold tsayN; rw [if_neg (by omega)])
    have HCD := Lib.hid hcd
    have HNB := Lib.hid hnb
    have HTK := Lib.hid hTk
    have hln : szN T.nb ≤ 250 ∧ 2 * T.nr ≤ 250 := by
      obtain ⟨ha, hn, hq⟩ := tel_parts hr hcd
      obtain ⟨-, -, -, hf⟩ := (rightQ_iff Q).1 hq
      have e1 := ha.nb; have e2 := ha.nr
      unfold wholeT at e1 e2
      unfold cntB at hn
      unfold fitsB at hf
      unfold szN
      rcases hkk with hk | hk | hk | hk | hk | hk | hk | hk | hk | hk <;>
      · simp (config := { decide := true }) only [hk, zeroT, if_true, if_false, Bool.and_eq_true, inB_iff, decide_eq_true_iff] at e1 e2 hn hf
        omega
    clear h k n1 n2 m1 m2 hr hcd hnb hTk hR
    rcases hkk with hk | hk | hk | hk | hk | hk | hk | hk | hk | hk
    · have HK := Lib.hid hk
      have hwk : IntKind.u8.wrap 1 = 1 := by decide
      have hTk : T.k = 1 := HTK.out.trans hk
      have HTk := Lib.hid hTk
      clear hk hTk
      go_enter Try.func10, Try.ntmps10
      go_upto_region 1 with fail
      rw [← hW2]
      clear hW2
      obtain ⟨b1, b2⟩ := HX.out _ (Ext.refl W2)
      go_wp2_with (first
        | (refine wpList_load_row rfl 25 (.tmp 2) rfl w.heap.size rfl 25 _ (0, 0) _ b1 Try.underlying25 rfl (by kernel_rfl) ?_)
        | (refine wpList_load_row rfl 28 (.tmp 3) rfl (w.heap.size + 1) rfl 28 _ (0, 0) _ b2 Try.underlying28 rfl (by kernel_rfl) ?_))
      refine (KR.out _ e0).mono ?_; rintro e w3 ⟨rfl, x3⟩
      have c1 : w3.cell? ⟨w.heap.size + 1, 1, none⟩ = some (.int .i64 T.cd) := cell_of_heap (HX.out _ x3).2 rfl
      have c0 : w3.cell? ⟨w.heap.size, 0, none⟩ = some (.int .i64 1) := by rw [← HK.out]; exact cell_of_heap (HX.out _ x3).1 rfl
      clear b1 b2 KR
      obtain ⟨W5, hW5, x5, y5, g5⟩ : ∃ W, W = w3.alloc (.cells #[.int .u8 1] 5) ∧ Ext W2 W ∧ Ext w3 W ∧ W.cell? ⟨w3.heap.size, 0, none⟩ = some (.int .u8 T.k) :=
        ⟨_, rfl, x3.trans (Ext.alloc _ _), Ext.alloc _ _, by rw [HTk.out]; exact cell_of_heap (heap_alloc_new w3 _) rfl⟩
      go_upto_region 6 with fail
      rw [← hW5]
      clear hW5 c0 c1
      have hg5 : w3.heap.size < W5.heap.size := World.block_lt_of_cell? _ _ g5
      generalize w3.heap.size = G at g5 hg5 ⊢
      clear y5
      have c0 : W5.cell? ⟨w.heap.size, 0, none⟩ = some (.int .i64 1) := by rw [← HK.out]; exact cell_of_heap (HX.out _ x5).1 rfl
      have c7 : W5.cell? ⟨w.heap.size + 1, 7, none⟩ = some (.slice U.a1 T.nb U.d1) := cell_of_heap (HX.out _ x5).2 rfl
      go_wp2_with fail
      refine (KPk.out _ (e0.trans x5)).mono ?_; rintro e w6 ⟨pb, pq, rfl, -, -, hp, x6⟩
      have g6 := Ext.cell x6 hg5 g5
      have x6' := x5.trans x6
      clear c0 c7
      have hwl : IntKind.u8.wrap ((szN T.nb : Nat) : Int) = ((szN T.nb : Nat) : Int) := w8 (by omega)
      have hlit := Ext.alloc w6 (.cells #[.int .u8 ((szN T.nb : Nat) : Int)] 5)
      have hlc : HoldsG (Value.int .u8) (w6.alloc (.cells #[.int .u8 ((szN T.nb : Nat) : Int)] 5)) (some ⟨w6.heap.size, 0, none⟩) 1 (fun _ => ((szN T.nb : Nat) : Int)) := one_held (cell_of_heap (heap_alloc_new w6 _) rfl)
      have g7 := Ext.cell hlit (World.block_lt_of_cell? _ _ g6) g6
      have hSL := tsay_bits HCD.out (by rw [HTk.out]; decide)
      have hn1 : tsayN T = 1 + 1 + szN T.nb := by rw [HSN.out, HTk.out]; simp (config := { decide := true }) only [if_true, if_false] <;> omega
      have HP := Lib.hid hp
      obtain ⟨L, hL⟩ : ∃ L, L = szN T.nb := ⟨_, rfl⟩
      have hSL : [Value.int .u8 T.k] ++ lstG (Value.int .u8) (fun _ => (L : Int)) 1 ++ lstG (Value.int .u8) (pkF T.B T.nb) L = lstG (Value.int .u8) (tsayF T) (tsayN T) := by
        rw [hn1, ← hSL, hL]
        try rfl
      have hLb : L ≤ 250 := by rw [hL]; omega
      rw [← hL] at hwl hlit hlc g7 HP hn1 ⊢
      have HSL := Lib.hid (And.intro hSL hn1)
      clear hSL hn1 hL hp
      go_upto_region 10 with fail
      go_wp2_with (first
        | (at_builtin; refine wpList_append_lit (mk := Value.int .u8) rfl (.tmp 36) (.tmp 40) 31 rfl 5 i8 (.int .u8 0) 1 Try.underlying31 hi8 hz80 hz81 hz82 rfl G _ rfl g7 (some ⟨w6.heap.size, 0, none⟩) 1 1 (fun _ => (L : Int)) rfl hlc (by omega) (fun _ => rfl) (by unfold maxLen; omega) (by omega) ?_; intro v9 w9 hown9 x9)
        | (at_builtin; refine wpList_append_holds (mk := Value.int .u8) rfl (.tmp 41) (.tmp 42) 31 rfl (w6.alloc (.cells #[.int .u8 (L : Int)] 5)).heap.size 5 i8 (.int .u8 0) 1 Try.underlying31 hi8 hz80 hz81 hz82 rfl _ (1 + 1) _ rfl hown9 pb L pq (pkF T.B T.nb) rfl (HP.out.ext (hlit.trans x9)) (fun _ => rfl) (by unfold maxLen; omega) (by omega) x9.size ?_; intro vA wA hownA _ hbA))
      rw [HSL.out.1] at hownA
      rw [← HSL.out.2] at hownA
      obtain ⟨b8, d8, rfl, l8, m8, h8⟩ := HoldsG.of_own (mk := Value.int .u8) hownA
      go_ret2
      exact ⟨b8, d8, by rfl, l8, m8, h8, e0.trans (x6'.trans (Below.trans (hlit.trans x9) (Below.mono hbA (hlit.size))))⟩
    · have HK := Lib.hid hk
      have hwk : IntKind.u8.wrap 2 = 2 := by decide
      have hTk : T.k = 2 := HTK.out.trans hk
      have HTk := Lib.hid hTk
      clear hk hTk
      go_enter Try.func10, Try.ntmps10
      go_upto_region 1 with fail
      rw [← hW2]
      clear hW2
      obtain ⟨b1, b2⟩ := HX.out _ (Ext.refl W2)
      go_wp2_with (first
        | (refine wpList_load_row rfl 25 (.tmp 2) rfl w.heap.size rfl 25 _ (0, 0) _ b1 Try.underlying25 rfl (by kernel_rfl) ?_)
        | (refine wpList_load_row rfl 28 (.tmp 3) rfl (w.heap.size + 1) rfl 28 _ (0, 0) _ b2 Try.underlying28 rfl (by kernel_rfl) ?_))
      refine (KR.out _ e0).mono ?_; rintro e w3 ⟨rfl, x3⟩
      have c1 : w3.cell? ⟨w.heap.size + 1, 1, none⟩ = some (.int .i64 T.cd) := cell_of_heap (HX.out _ x3).2 rfl
      have c0 : w3.cell? ⟨w.heap.size, 0, none⟩ = some (.int .i64 2) := by rw [← HK.out]; exact cell_of_heap (HX.out _ x3).1 rfl
      clear b1 b2 KR
      obtain ⟨W5, hW5, x5, y5, g5⟩ : ∃ W, W = w3.alloc (.cells #[.int .u8 2] 5) ∧ Ext W2 W ∧ Ext w3 W ∧ W.cell? ⟨w3.heap.size, 0, none⟩ = some (.int .u8 T.k) :=
        ⟨_, rfl, x3.trans (Ext.alloc _ _), Ext.alloc _ _, by rw [HTk.out]; exact cell_of_heap (heap_alloc_new w3 _) rfl⟩
      go_upto_region 6 with fail
      rw [← hW5]
      clear hW5 c0 c1
      have hg5 : w3.heap.size < W5.heap.size := World.block_lt_of_cell? _ _ g5
      generalize w3.heap.size = G at g5 hg5 ⊢
      clear y5
      have c0 : W5.cell? ⟨w.heap.size, 0, none⟩ = some (.int .i64 2) := by rw [← HK.out]; exact cell_of_heap (HX.out _ x5).1 rfl
      have c7 : W5.cell? ⟨w.heap.size + 1, 7, none⟩ = some (.slice U.a1 T.nb U.d1) := cell_of_heap (HX.out _ x5).2 rfl
      go_wp2_with fail
      refine (KPk.out _ (e0.trans x5)).mono ?_; rintro e w6 ⟨pb, pq, rfl, -, -, hp, x6⟩
      have g6 := Ext.cell x6 hg5 g5
      have x6' := x5.trans x6
      clear c0 c7
      have hwl : IntKind.u8.wrap ((szN T.nb : Nat) : Int) = ((szN T.nb : Nat) : Int) := w8 (by omega)
      have hlit := Ext.alloc w6 (.cells #[.int .u8 ((szN T.nb : Nat) : Int)] 5)
      have hlc : HoldsG (Value.int .u8) (w6.alloc (.cells #[.int .u8 ((szN T.nb : Nat) : Int)] 5)) (some ⟨w6.heap.size, 0, none⟩) 1 (fun _ => ((szN T.nb : Nat) : Int)) := one_held (cell_of_heap (heap_alloc_new w6 _) rfl)
      have g7 := Ext.cell hlit (World.block_lt_of_cell? _ _ g6) g6
      have hSL := tsay_bits HCD.out (by rw [HTk.out]; decide)
      have hn1 : tsayN T = 1 + 1 + szN T.nb := by rw [HSN.out, HTk.out]; simp (config := { decide := true }) only [if_true, if_false] <;> omega
      have HP := Lib.hid hp
      obtain ⟨L, hL⟩ : ∃ L, L = szN T.nb := ⟨_, rfl⟩
      have hSL : [Value.int .u8 T.k] ++ lstG (Value.int .u8) (fun _ => (L : Int)) 1 ++ lstG (Value.int .u8) (pkF T.B T.nb) L = lstG (Value.int .u8) (tsayF T) (tsayN T) := by
        rw [hn1, ← hSL, hL]
        try rfl
      have hLb : L ≤ 250 := by rw [hL]; omega
      rw [← hL] at hwl hlit hlc g7 HP hn1 ⊢
      have HSL := Lib.hid (And.intro hSL hn1)
      clear hSL hn1 hL hp
      go_upto_region 10 with fail
      go_wp2_with (first
        | (at_builtin; refine wpList_append_lit (mk := Value.int .u8) rfl (.tmp 36) (.tmp 40) 31 rfl 5 i8 (.int .u8 0) 1 Try.underlying31 hi8 hz80 hz81 hz82 rfl G _ rfl g7 (some ⟨w6.heap.size, 0, none⟩) 1 1 (fun _ => (L : Int)) rfl hlc (by omega) (fun _ => rfl) (by unfold maxLen; omega) (by omega) ?_; intro v9 w9 hown9 x9)
        | (at_builtin; refine wpList_append_holds (mk := Value.int .u8) rfl (.tmp 41) (.tmp 42) 31 rfl (w6.alloc (.cells #[.int .u8 (L : Int)] 5)).heap.size 5 i8 (.int .u8 0) 1 Try.underlying31 hi8 hz80 hz81 hz82 rfl _ (1 + 1) _ rfl hown9 pb L pq (pkF T.B T.nb) rfl (HP.out.ext (hlit.trans x9)) (fun _ => rfl) (by unfold maxLen; omega) (by omega) x9.size ?_; intro vA wA hownA _ hbA))
      rw [HSL.out.1] at hownA
      rw [← HSL.out.2] at hownA
      obtain ⟨b8, d8, rfl, l8, m8, h8⟩ := HoldsG.of_own (mk := Value.int .u8) hownA
      go_ret2
      exact ⟨b8, d8, by rfl, l8, m8, h8, e0.trans (x6'.trans (Below.trans (hlit.trans x9) (Below.mono hbA (hlit.size))))⟩
    · have HK := Lib.hid hk
      have hwk : IntKind.u8.wrap 3 = 3 := by decide
      have hTk : T.k = 3 := HTK.out.trans hk
      have HTk := Lib.hid hTk
      clear hk hTk
      go_enter Try.func10, Try.ntmps10
      go_upto_region 1 with fail
      rw [← hW2]
      clear hW2
      obtain ⟨b1, b2⟩ := HX.out _ (Ext.refl W2)
      go_wp2_with (first
        | (refine wpList_load_row rfl 25 (.tmp 2) rfl w.heap.size rfl 25 _ (0, 0) _ b1 Try.underlying25 rfl (by kernel_rfl) ?_)
        | (refine wpList_load_row rfl 28 (.tmp 3) rfl (w.heap.size + 1) rfl 28 _ (0, 0) _ b2 Try.underlying28 rfl (by kernel_rfl) ?_))
      refine (KR.out _ e0).mono ?_; rintro e w3 ⟨rfl, x3⟩
      have c1 : w3.cell? ⟨w.heap.size + 1, 1, none⟩ = some (.int .i64 T.cd) := cell_of_heap (HX.out _ x3).2 rfl
      have c0 : w3.cell? ⟨w.heap.size, 0, none⟩ = some (.int .i64 3) := by rw [← HK.out]; exact cell_of_heap (HX.out _ x3).1 rfl
      clear b1 b2 KR
      obtain ⟨W5, hW5, x5, y5, g5⟩ : ∃ W, W = w3.alloc (.cells #[.int .u8 3] 5) ∧ Ext W2 W ∧ Ext w3 W ∧ W.cell? ⟨w3.heap.size, 0, none⟩ = some (.int .u8 T.k) :=
        ⟨_, rfl, x3.trans (Ext.alloc _ _), Ext.alloc _ _, by rw [HTk.out]; exact cell_of_heap (heap_alloc_new w3 _) rfl⟩
      go_upto_region 6 with fail
      rw [← hW5]
      clear hW5 c0 c1
      have hg5 : w3.heap.size < W5.heap.size := World.block_lt_of_cell? _ _ g5
      generalize w3.heap.size = G at g5 hg5 ⊢
      clear y5
      have c0 : W5.cell? ⟨w.heap.size, 0, none⟩ = some (.int .i64 3) := by rw [← HK.out]; exact cell_of_heap (HX.out _ x5).1 rfl
      have c7 : W5.cell? ⟨w.heap.size + 1, 8, none⟩ = some (.slice U.a2 T.nr U.d2) := cell_of_heap (HX.out _ x5).2 rfl
      go_wp2_with fail
      refine (KWp.out _ (e0.trans x5)).mono ?_; rintro e w6 ⟨pb, pq, rfl, hp, x6⟩
      have g6 := Ext.cell x6 hg5 g5
      have x6' := x5.trans x6
      clear c0 c7
      have hwl : IntKind.u8.wrap ((2 * T.nr : Nat) : Int) = ((2 * T.nr : Nat) : Int) := w8 (by omega)
      have hlit := Ext.alloc w6 (.cells #[.int .u8 ((2 * T.nr : Nat) : Int)] 5)
      have hlc : HoldsG (Value.int .u8) (w6.alloc (.cells #[.int .u8 ((2 * T.nr : Nat) : Int)] 5)) (some ⟨w6.heap.size, 0, none⟩) 1 (fun _ => ((2 * T.nr : Nat) : Int)) := one_held (cell_of_heap (heap_alloc_new w6 _) rfl)
      have g7 := Ext.cell hlit (World.block_lt_of_cell? _ _ g6) g6
      have hSL := tsay_words HCD.out (by rw [HTk.out]; decide) (by rw [HTk.out]; decide)
      have hn1 : tsayN T = 1 + 1 + 2 * T.nr := by rw [HSN.out, HTk.out]; simp (config := { decide := true }) only [if_true, if_false] <;> omega
      have HP := Lib.hid hp
      obtain ⟨L, hL⟩ : ∃ L, L = 2 * T.nr := ⟨_, rfl⟩
      have hSL : [Value.int .u8 T.k] ++ lstG (Value.int .u8) (fun _ => (L : Int)) 1 ++ lstG (Value.int .u8) (putF T.R) L = lstG (Value.int .u8) (tsayF T) (tsayN T) := by
        rw [hn1, ← hSL, hL]
        try rfl
      have hLb : L ≤ 250 := by rw [hL]; omega
      rw [← hL] at hwl hlit hlc g7 HP hn1 ⊢
      have HSL := Lib.hid (And.intro hSL hn1)
      clear hSL hn1 hL hp
      go_upto_region 15 with fail
      go_wp2_with (first
        | (at_builtin; refine wpList_append_lit (mk := Value.int .u8) rfl (.tmp 51) (.tmp 55) 31 rfl 5 i8 (.int .u8 0) 1 Try.underlying31 hi8 hz80 hz81 hz82 rfl G _ rfl g7 (some ⟨w6.heap.size, 0, none⟩) 1 1 (fun _ => (L : Int)) rfl hlc (by omega) (fun _ => rfl) (by unfold maxLen; omega) (by omega) ?_; intro v9 w9 hown9 x9)
        | (at_builtin; refine wpList_append_holds (mk := Value.int .u8) rfl (.tmp 56) (.tmp 57) 31 rfl (w6.alloc (.cells #[.int .u8 (L : Int)] 5)).heap.size 5 i8 (.int .u8 0) 1 Try.underlying31 hi8 hz80 hz81 hz82 rfl _ (1 + 1) _ rfl hown9 pb L pq (putF T.R) rfl (HP.out.ext (hlit.trans x9)) (fun _ => rfl) (by unfold maxLen; omega) (by omega) x9.size ?_; intro vA wA hownA _ hbA))
      rw [HSL.out.1] at hownA
      rw [← HSL.out.2] at hownA
      obtain ⟨b8, d8, rfl, l8, m8, h8⟩ := HoldsG.of_own (mk := Value.int .u8) hownA
      go_ret2
      exact ⟨b8, d8, by rfl, l8, m8, h8, e0.trans (x6'.trans (Below.trans (hlit.trans x9) (Below.mono hbA (hlit.size))))⟩
    · have HK := Lib.hid hk
      have hwk : IntKind.u8.wrap 4 = 4 := by decide
      have hTk : T.k = 4 := HTK.out.trans hk
      have HTk := Lib.hid hTk
      clear hk hTk
      go_enter Try.func10, Try.ntmps10
      go_upto_region 1 with fail
      rw [← hW2]
      clear hW2
      obtain ⟨b1, b2⟩ := HX.out _ (Ext.refl W2)
      go_wp2_with (first
        | (refine wpList_load_row rfl 25 (.tmp 2) rfl w.heap.size rfl 25 _ (0, 0) _ b1 Try.underlying25 rfl (by kernel_rfl) ?_)
        | (refine wpList_load_row rfl 28 (.tmp 3) rfl (w.heap.size + 1) rfl 28 _ (0, 0) _ b2 Try.underlying28 rfl (by kernel_rfl) ?_))
      refine (KR.out _ e0).mono ?_; rintro e w3 ⟨rfl, x3⟩
      have c1 : w3.cell? ⟨w.heap.size + 1, 1, none⟩ = some (.int .i64 T.cd) := cell_of_heap (HX.out _ x3).2 rfl
      have c0 : w3.cell? ⟨w.heap.size, 0, none⟩ = some (.int .i64 4) := by rw [← HK.out]; exact cell_of_heap (HX.out _ x3).1 rfl
      clear b1 b2 KR
      obtain ⟨W5, hW5, x5, y5, g5⟩ : ∃ W, W = w3.alloc (.cells #[.int .u8 4] 5) ∧ Ext W2 W ∧ Ext w3 W ∧ W.cell? ⟨w3.heap.size, 0, none⟩ = some (.int .u8 T.k) :=
        ⟨_, rfl, x3.trans (Ext.alloc _ _), Ext.alloc _ _, by rw [HTk.out]; exact cell_of_heap (heap_alloc_new w3 _) rfl⟩
      go_upto_region 6 with fail
      rw [← hW5]
      clear hW5 c0 c1
      have hg5 : w3.heap.size < W5.heap.size := World.block_lt_of_cell? _ _ g5
      generalize w3.heap.size = G at g5 hg5 ⊢
      clear y5
      have c0 : W5.cell? ⟨w.heap.size, 0, none⟩ = some (.int .i64 4) := by rw [← HK.out]; exact cell_of_heap (HX.out _ x5).1 rfl
      have c7 : W5.cell? ⟨w.heap.size + 1, 8, none⟩ = some (.slice U.a2 T.nr U.d2) := cell_of_heap (HX.out _ x5).2 rfl
      go_wp2_with fail
      refine (KWp.out _ (e0.trans x5)).mono ?_; rintro e w6 ⟨pb, pq, rfl, hp, x6⟩
      have g6 := Ext.cell x6 hg5 g5
      have x6' := x5.trans x6
      clear c0 c7
      have hwl : IntKind.u8.wrap ((2 * T.nr : Nat) : Int) = ((2 * T.nr : Nat) : Int) := w8 (by omega)
      have hlit := Ext.alloc w6 (.cells #[.int .u8 ((2 * T.nr : Nat) : Int)] 5)
      have hlc : HoldsG (Value.int .u8) (w6.alloc (.cells #[.int .u8 ((2 * T.nr : Nat) : Int)] 5)) (some ⟨w6.heap.size, 0, none⟩) 1 (fun _ => ((2 * T.nr : Nat) : Int)) := one_held (cell_of_heap (heap_alloc_new w6 _) rfl)
      have g7 := Ext.cell hlit (World.block_lt_of_cell? _ _ g6) g6
      have hSL := tsay_words HCD.out (by rw [HTk.out]; decide) (by rw [HTk.out]; decide)
      have hn1 : tsayN T = 1 + 1 + 2 * T.nr := by rw [HSN.out, HTk.out]; simp (config := { decide := true }) only [if_true, if_false] <;> omega
      have HP := Lib.hid hp
      obtain ⟨L, hL⟩ : ∃ L, L = 2 * T.nr := ⟨_, rfl⟩
      have hSL : [Value.int .u8 T.k] ++ lstG (Value.int .u8) (fun _ => (L : Int)) 1 ++ lstG (Value.int .u8) (putF T.R) L = lstG (Value.int .u8) (tsayF T) (tsayN T) := by
        rw [hn1, ← hSL, hL]
        try rfl
      have hLb : L ≤ 250 := by rw [hL]; omega
      rw [← hL] at hwl hlit hlc g7 HP hn1 ⊢
      have HSL := Lib.hid (And.intro hSL hn1)
      clear hSL hn1 hL hp
      go_upto_region 15 with fail
      go_wp2_with (first
        | (at_builtin; refine wpList_append_lit (mk := Value.int .u8) rfl (.tmp 51) (.tmp 55) 31 rfl 5 i8 (.int .u8 0) 1 Try.underlying31 hi8 hz80 hz81 hz82 rfl G _ rfl g7 (some ⟨w6.heap.size, 0, none⟩) 1 1 (fun _ => (L : Int)) rfl hlc (by omega) (fun _ => rfl) (by unfold maxLen; omega) (by omega) ?_; intro v9 w9 hown9 x9)
        | (at_builtin; refine wpList_append_holds (mk := Value.int .u8) rfl (.tmp 56) (.tmp 57) 31 rfl (w6.alloc (.cells #[.int .u8 (L : Int)] 5)).heap.size 5 i8 (.int .u8 0) 1 Try.underlying31 hi8 hz80 hz81 hz82 rfl _ (1 + 1) _ rfl hown9 pb L pq (putF T.R) rfl (HP.out.ext (hlit.trans x9)) (fun _ => rfl) (by unfold maxLen; omega) (by omega) x9.size ?_; intro vA wA hownA _ hbA))
      rw [HSL.out.1] at hownA
      rw [← HSL.out.2] at hownA
      obtain ⟨b8, d8, rfl, l8, m8, h8⟩ := HoldsG.of_own (mk := Value.int .u8) hownA
      go_ret2
      exact ⟨b8, d8, by rfl, l8, m8, h8, e0.trans (x6'.trans (Below.trans (hlit.trans x9) (Below.mono hbA (hlit.size))))⟩
    · have HK := Lib.hid hk
      have hwk : IntKind.u8.wrap 5 = 5 := by decide
      have hTk : T.k = 5 := HTK.out.trans hk
      have HTk := Lib.hid hTk
      clear hk hTk
      go_enter Try.func10, Try.ntmps10
      go_upto_region 1 with fail
      rw [← hW2]
      clear hW2
      obtain ⟨b1, b2⟩ := HX.out _ (Ext.refl W2)
      go_wp2_with (first
        | (refine wpList_load_row rfl 25 (.tmp 2) rfl w.heap.size rfl 25 _ (0, 0) _ b1 Try.underlying25 rfl (by kernel_rfl) ?_)
        | (refine wpList_load_row rfl 28 (.tmp 3) rfl (w.heap.size + 1) rfl 28 _ (0, 0) _ b2 Try.underlying28 rfl (by kernel_rfl) ?_))
      refine (KR.out _ e0).mono ?_; rintro e w3 ⟨rfl, x3⟩
      have c1 : w3.cell? ⟨w.heap.size + 1, 1, none⟩ = some (.int .i64 T.cd) := cell_of_heap (HX.out _ x3).2 rfl
      have c0 : w3.cell? ⟨w.heap.size, 0, none⟩ = some (.int .i64 5) := by rw [← HK.out]; exact cell_of_heap (HX.out _ x3).1 rfl
      clear b1 b2 KR
      obtain ⟨W5, hW5, x5, y5, g5⟩ : ∃ W, W = w3.alloc (.cells #[.int .u8 5] 5) ∧ Ext W2 W ∧ Ext w3 W ∧ W.cell? ⟨w3.heap.size, 0, none⟩ = some (.int .u8 T.k) :=
        ⟨_, rfl, x3.trans (Ext.alloc _ _), Ext.alloc _ _, by rw [HTk.out]; exact cell_of_heap (heap_alloc_new w3 _) rfl⟩
      go_upto_region 6 with fail
      rw [← hW5]
      clear hW5 c0 c1
      have hg5 : w3.heap.size < W5.heap.size := World.block_lt_of_cell? _ _ g5
      generalize w3.heap.size = G at g5 hg5 ⊢
      clear y5
      have c0 : W5.cell? ⟨w.heap.size, 0, none⟩ = some (.int .i64 5) := by rw [← HK.out]; exact cell_of_heap (HX.out _ x5).1 rfl
      have c2 : W5.cell? ⟨w.heap.size + 1, 2, none⟩ = some (.int .i64 T.ad) := cell_of_heap (HX.out _ x5).2 rfl
      have c4 : W5.cell? ⟨w.heap.size + 1, 4, none⟩ = some (.int .i64 T.va) := cell_of_heap (HX.out _ x5).2 rfl
      have hnf : ∀ i, i < 2 → 0 ≤ tnumF T i ∧ tnumF T i < 65536 := fun i _ => HNB.out i
      have hv0 : tnumF T 0 = T.ad := by unfold tnumF; rw [HTk.out]; rfl
      have hv1 : tnumF T 1 = T.va := by unfold tnumF; rw [HTk.out]; rfl
      have hw0 : IntKind.u16.wrap T.ad = T.ad := w16 (by have := hnf 0 (by omega); rw [hv0] at this; omega)
      have hw1 : IntKind.u16.wrap T.va = T.va := w16 (by have := hnf 1 (by omega); rw [hv1] at this; omega)
      have hlit := Ext.alloc W5 (.cells #[.int .u16 T.ad, .int .u16 T.va] 50)
      have hl : HoldsG (Value.int .u16) (W5.alloc (.cells #[.int .u16 T.ad, .int .u16 T.va] 50)) (some ⟨W5.heap.size, 0, none⟩) 2 (tnumF T) := two_words W5 _ _ (tnumF T) hv0 hv1
      have g6 := Ext.cell hlit hg5 g5
      have hSL := tsay_nums HCD.out (by rw [HTk.out]; decide) (by rw [HTk.out]; decide) 2
      have hn1 : tsayN T = 1 + 2 * 2 := by rw [HSN.out, HTk.out]; rfl
      have HSL := Lib.hid (And.intro hSL hn1)
      clear hSL hn1 hv0 hv1
      go_wp2_with fail
      refine (rput_any (some ⟨W5.heap.size, 0, none⟩) 2 2 (tnumF T) _ hl (by omega) hnf).mono ?_; rintro e w6 ⟨pb, pq, rfl, hp, x6⟩
      have g7 := Ext.cell x6 (World.block_lt_of_cell? _ _ g6) g6
      go_wp2_with (first
        | (at_builtin; refine wpList_append_lit (mk := Value.int .u8) rfl (.tmp 62) (.tmp 70) 31 rfl 5 i8 (.int .u8 0) 1 Try.underlying31 hi8 hz80 hz81 hz82 rfl G _ rfl g7 pb (2 * 2) pq (putF (tnumF T)) rfl hp (by omega) (fun _ => rfl) (by unfold maxLen; omega) (by omega) ?_; intro vA wA hownA xA))
      rw [HSL.out.1, ← HSL.out.2] at hownA
      obtain ⟨b8, d8, rfl, l8, m8, h8⟩ := HoldsG.of_own (mk := Value.int .u8) hownA
      go_ret2
      exact ⟨b8, d8, by rfl, l8, m8, h8, e0.trans (((x5.trans hlit).trans x6).trans xA)⟩
    · have HK := Lib.hid hk
      have hwk : IntKind.u8.wrap 6 = 6 := by decide
      have hTk : T.k = 6 := HTK.out.trans hk
      have HTk := Lib.hid hTk
      clear hk hTk
      go_enter Try.func10, Try.ntmps10
      go_upto_region 1 with fail
      rw [← hW2]
      clear hW2
      obtain ⟨b1, b2⟩ := HX.out _ (Ext.refl W2)
      go_wp2_with (first
        | (refine wpList_load_row rfl 25 (.tmp 2) rfl w.heap.size rfl 25 _ (0, 0) _ b1 Try.underlying25 rfl (by kernel_rfl) ?_)
        | (refine wpList_load_row rfl 28 (.tmp 3) rfl (w.heap.size + 1) rfl 28 _ (0, 0) _ b2 Try.underlying28 rfl (by kernel_rfl) ?_))
      refine (KR.out _ e0).mono ?_; rintro e w3 ⟨rfl, x3⟩
      have c1 : w3.cell? ⟨w.heap.size + 1, 1, none⟩ = some (.int .i64 T.cd) := cell_of_heap (HX.out _ x3).2 rfl
      have c0 : w3.cell? ⟨w.heap.size, 0, none⟩ = some (.int .i64 6) := by rw [← HK.out]; exact cell_of_heap (HX.out _ x3).1 rfl
      clear b1 b2 KR
      obtain ⟨W5, hW5, x5, y5, g5⟩ : ∃ W, W = w3.alloc (.cells #[.int .u8 6] 5) ∧ Ext W2 W ∧ Ext w3 W ∧ W.cell? ⟨w3.heap.size, 0, none⟩ = some (.int .u8 T.k) :=
        ⟨_, rfl, x3.trans (Ext.alloc _ _), Ext.alloc _ _, by rw [HTk.out]; exact cell_of_heap (heap_alloc_new w3 _) rfl⟩
      go_upto_region 6 with fail
      rw [← hW5]
      clear hW5 c0 c1
      have hg5 : w3.heap.size < W5.heap.size := World.block_lt_of_cell? _ _ g5
      generalize w3.heap.size = G at g5 hg5 ⊢
      clear y5
      have c0 : W5.cell? ⟨w.heap.size, 0, none⟩ = some (.int .i64 6) := by rw [← HK.out]; exact cell_of_heap (HX.out _ x5).1 rfl
      have c2 : W5.cell? ⟨w.heap.size + 1, 2, none⟩ = some (.int .i64 T.ad) := cell_of_heap (HX.out _ x5).2 rfl
      have c4 : W5.cell? ⟨w.heap.size + 1, 4, none⟩ = some (.int .i64 T.va) := cell_of_heap (HX.out _ x5).2 rfl
      have hnf : ∀ i, i < 2 → 0 ≤ tnumF T i ∧ tnumF T i < 65536 := fun i _ => HNB.out i
      have hv0 : tnumF T 0 = T.ad := by unfold tnumF; rw [HTk.out]; rfl
      have hv1 : tnumF T 1 = T.va := by unfold tnumF; rw [HTk.out]; rfl
      have hw0 : IntKind.u16.wrap T.ad = T.ad := w16 (by have := hnf 0 (by omega); rw [hv0] at this; omega)
      have hw1 : IntKind.u16.wrap T.va = T.va := w16 (by have := hnf 1 (by omega); rw [hv1] at this; omega)
      have hlit := Ext.alloc W5 (.cells #[.int .u16 T.ad, .int .u16 T.va] 50)
      have hl : HoldsG (Value.int .u16) (W5.alloc (.cells #[.int .u16 T.ad, .int .u16 T.va] 50)) (some ⟨W5.heap.size, 0, none⟩) 2 (tnumF T) := two_words W5 _ _ (tnumF T) hv0 hv1
      have g6 := Ext.cell hlit hg5 g5
      have hSL := tsay_nums HCD.out (by rw [HTk.out]; decide) (by rw [HTk.out]; decide) 2
      have hn1 : tsayN T = 1 + 2 * 2 := by rw [HSN.out, HTk.out]; rfl
      have HSL := Lib.hid (And.intro hSL hn1)
      clear hSL hn1 hv0 hv1
      go_wp2_with fail
      refine (rput_any (some ⟨W5.heap.size, 0, none⟩) 2 2 (tnumF T) _ hl (by omega) hnf).mono ?_; rintro e w6 ⟨pb, pq, rfl, hp, x6⟩
      have g7 := Ext.cell x6 (World.block_lt_of_cell? _ _ g6) g6
      go_wp2_with (first
        | (at_builtin; refine wpList_append_lit (mk := Value.int .u8) rfl (.tmp 62) (.tmp 70) 31 rfl 5 i8 (.int .u8 0) 1 Try.underlying31 hi8 hz80 hz81 hz82 rfl G _ rfl g7 pb (2 * 2) pq (putF (tnumF T)) rfl hp (by omega) (fun _ => rfl) (by unfold maxLen; omega) (by omega) ?_; intro vA wA hownA xA))
      rw [HSL.out.1, ← HSL.out.2] at hownA
      obtain ⟨b8, d8, rfl, l8, m8, h8⟩ := HoldsG.of_own (mk := Value.int .u8) hownA
      go_ret2
      exact ⟨b8, d8, by rfl, l8, m8, h8, e0.trans (((x5.trans hlit).trans x6).trans xA)⟩
    · have HK := Lib.hid hk
      have hwk : IntKind.u8.wrap 15 = 15 := by decide
      have hTk : T.k = 15 := HTK.out.trans hk
      have HTk := Lib.hid hTk
      clear hk hTk
      go_enter Try.func10, Try.ntmps10
      go_upto_region 1 with fail
      rw [← hW2]
      clear hW2
      obtain ⟨b1, b2⟩ := HX.out _ (Ext.refl W2)
      go_wp2_with (first
        | (refine wpList_load_row rfl 25 (.tmp 2) rfl w.heap.size rfl 25 _ (0, 0) _ b1 Try.underlying25 rfl (by kernel_rfl) ?_)
        | (refine wpList_load_row rfl 28 (.tmp 3) rfl (w.heap.size + 1) rfl 28 _ (0, 0) _ b2 Try.underlying28 rfl (by kernel_rfl) ?_))
      refine (KR.out _ e0).mono ?_; rintro e w3 ⟨rfl, x3⟩
      have c1 : w3.cell? ⟨w.heap.size + 1, 1, none⟩ = some (.int .i64 T.cd) := cell_of_heap (HX.out _ x3).2 rfl
      have c0 : w3.cell? ⟨w.heap.size, 0, none⟩ = some (.int .i64 15) := by rw [← HK.out]; exact cell_of_heap (HX.out _ x3).1 rfl
      clear b1 b2 KR
      obtain ⟨W5, hW5, x5, y5, g5⟩ : ∃ W, W = w3.alloc (.cells #[.int .u8 15] 5) ∧ Ext W2 W ∧ Ext w3 W ∧ W.cell? ⟨w3.heap.size, 0, none⟩ = some (.int .u8 T.k) :=
        ⟨_, rfl, x3.trans (Ext.alloc _ _), Ext.alloc _ _, by rw [HTk.out]; exact cell_of_heap (heap_alloc_new w3 _) rfl⟩
      go_upto_region 6 with fail
      rw [← hW5]
      clear hW5 c0 c1
      have hg5 : w3.heap.size < W5.heap.size := World.block_lt_of_cell? _ _ g5
      generalize w3.heap.size = G at g5 hg5 ⊢
      clear y5
      have c0 : W5.cell? ⟨w.heap.size, 0, none⟩ = some (.int .i64 15) := by rw [← HK.out]; exact cell_of_heap (HX.out _ x5).1 rfl
      have c2 : W5.cell? ⟨w.heap.size + 1, 2, none⟩ = some (.int .i64 T.ad) := cell_of_heap (HX.out _ x5).2 rfl
      have c3 : W5.cell? ⟨w.heap.size + 1, 3, none⟩ = some (.int .i64 T.ct) := cell_of_heap (HX.out _ x5).2 rfl
      have hnf : ∀ i, i < 2 → 0 ≤ tnumF T i ∧ tnumF T i < 65536 := fun i _ => HNB.out i
      have hv0 : tnumF T 0 = T.ad := by unfold tnumF; rw [HTk.out]; rfl
      have hv1 : tnumF T 1 = T.ct := by unfold tnumF; rw [HTk.out]; rfl
      have hw0 : IntKind.u16.wrap T.ad = T.ad := w16 (by have := hnf 0 (by omega); rw [hv0] at this; omega)
      have hw1 : IntKind.u16.wrap T.ct = T.ct := w16 (by have := hnf 1 (by omega); rw [hv1] at this; omega)
      have hlit := Ext.alloc W5 (.cells #[.int .u16 T.ad, .int .u16 T.ct] 50)
      have hl : HoldsG (Value.int .u16) (W5.alloc (.cells #[.int .u16 T.ad, .int .u16 T.ct] 50)) (some ⟨W5.heap.size, 0, none⟩) 2 (tnumF T) := two_words W5 _ _ (tnumF T) hv0 hv1
      have g6 := Ext.cell hlit hg5 g5
      have hSL := tsay_nums HCD.out (by rw [HTk.out]; decide) (by rw [HTk.out]; decide) 2
      have hn1 : tsayN T = 1 + 2 * 2 := by rw [HSN.out, HTk.out]; rfl
      have HSL := Lib.hid (And.intro hSL hn1)
      clear hSL hn1 hv0 hv1
      go_wp2_with fail
      refine (rput_any (some ⟨W5.heap.size, 0, none⟩) 2 2 (tnumF T) _ hl (by omega) hnf).mono ?_; rintro e w6 ⟨pb, pq, rfl, hp, x6⟩
      have g7 := Ext.cell x6 (World.block_lt_of_cell? _ _ g6) g6
      go_wp2_with (first
        | (at_builtin; refine wpList_append_lit (mk := Value.int .u8) rfl (.tmp 75) (.tmp 83) 31 rfl 5 i8 (.int .u8 0) 1 Try.underlying31 hi8 hz80 hz81 hz82 rfl G _ rfl g7 pb (2 * 2) pq (putF (tnumF T)) rfl hp (by omega) (fun _ => rfl) (by unfold maxLen; omega) (by omega) ?_; intro vA wA hownA xA))
      rw [HSL.out.1, ← HSL.out.2] at hownA
      obtain ⟨b8, d8, rfl, l8, m8, h8⟩ := HoldsG.of_own (mk := Value.int .u8) hownA
      go_ret2
      exact ⟨b8, d8, by rfl, l8, m8, h8, e0.trans (((x5.trans hlit).trans x6).trans xA)⟩
    · have HK := Lib.hid hk
      have hwk : IntKind.u8.wrap 16 = 16 := by decide
      have hTk : T.k = 16 := HTK.out.trans hk
      have HTk := Lib.hid hTk
      clear hk hTk
      go_enter Try.func10, Try.ntmps10
      go_upto_region 1 with fail
      rw [← hW2]
      clear hW2
      obtain ⟨b1, b2⟩ := HX.out _ (Ext.refl W2)
      go_wp2_with (first
        | (refine wpList_load_row rfl 25 (.tmp 2) rfl w.heap.size rfl 25 _ (0, 0) _ b1 Try.underlying25 rfl (by kernel_rfl) ?_)
        | (refine wpList_load_row rfl 28 (.tmp 3) rfl (w.heap.size + 1) rfl 28 _ (0, 0) _ b2 Try.underlying28 rfl (by kernel_rfl) ?_))
      refine (KR.out _ e0).mono ?_; rintro e w3 ⟨rfl, x3⟩
      have c1 : w3.cell? ⟨w.heap.size + 1, 1, none⟩ = some (.int .i64 T.cd) := cell_of_heap (HX.out _ x3).2 rfl
      have c0 : w3.cell? ⟨w.heap.size, 0, none⟩ = some (.int .i64 16) := by rw [← HK.out]; exact cell_of_heap (HX.out _ x3).1 rfl
      clear b1 b2 KR
      obtain ⟨W5, hW5, x5, y5, g5⟩ : ∃ W, W = w3.alloc (.cells #[.int .u8 16] 5) ∧ Ext W2 W ∧ Ext w3 W ∧ W.cell? ⟨w3.heap.size, 0, none⟩ = some (.int .u8 T.k) :=
        ⟨_, rfl, x3.trans (Ext.alloc _ _), Ext.alloc _ _, by rw [HTk.out]; exact cell_of_heap (heap_alloc_new w3 _) rfl⟩
      go_upto_region 6 with fail
      rw [← hW5]
      clear hW5 c0 c1
      have hg5 : w3.heap.size < W5.heap.size := World.block_lt_of_cell? _ _ g5
      generalize w3.heap.size = G at g5 hg5 ⊢
      clear y5
      have c0 : W5.cell? ⟨w.heap.size, 0, none⟩ = some (.int .i64 16) := by rw [← HK.out]; exact cell_of_heap (HX.out _ x5).1 rfl
      have c2 : W5.cell? ⟨w.heap.size + 1, 2, none⟩ = some (.int .i64 T.ad) := cell_of_heap (HX.out _ x5).2 rfl
      have c3 : W5.cell? ⟨w.heap.size + 1, 3, none⟩ = some (.int .i64 T.ct) := cell_of_heap (HX.out _ x5).2 rfl
      have hnf : ∀ i, i < 2 → 0 ≤ tnumF T i ∧ tnumF T i < 65536 := fun i _ => HNB.out i
      have hv0 : tnumF T 0 = T.ad := by unfold tnumF; rw [HTk.out]; rfl
      have hv1 : tnumF T 1 = T.ct := by unfold tnumF; rw [HTk.out]; rfl
      have hw0 : IntKind.u16.wrap T.ad = T.ad := w16 (by have := hnf 0 (by omega); rw [hv0] at this; omega)
      have hw1 : IntKind.u16.wrap T.ct = T.ct := w16 (by have := hnf 1 (by omega); rw [hv1] at this; omega)
      have hlit := Ext.alloc W5 (.cells #[.int .u16 T.ad, .int .u16 T.ct] 50)
      have hl : HoldsG (Value.int .u16) (W5.alloc (.cells #[.int .u16 T.ad, .int .u16 T.ct] 50)) (some ⟨W5.heap.size, 0, none⟩) 2 (tnumF T) := two_words W5 _ _ (tnumF T) hv0 hv1
      have g6 := Ext.cell hlit hg5 g5
      have hSL := tsay_nums HCD.out (by rw [HTk.out]; decide) (by rw [HTk.out]; decide) 2
      have hn1 : tsayN T = 1 + 2 * 2 := by rw [HSN.out, HTk.out]; rfl
      have HSL := Lib.hid (And.intro hSL hn1)
      clear hSL hn1 hv0 hv1
      go_wp2_with fail
      refine (rput_any (some ⟨W5.heap.size, 0, none⟩) 2 2 (tnumF T) _ hl (by omega) hnf).mono ?_; rintro e w6 ⟨pb, pq, rfl, hp, x6⟩
      have g7 := Ext.cell x6 (World.block_lt_of_cell? _ _ g6) g6
      go_wp2_with (first
        | (at_builtin; refine wpList_append_lit (mk := Value.int .u8) rfl (.tmp 75) (.tmp 83) 31 rfl 5 i8 (.int .u8 0) 1 Try.underlying31 hi8 hz80 hz81 hz82 rfl G _ rfl g7 pb (2 * 2) pq (putF (tnumF T)) rfl hp (by omega) (fun _ => rfl) (by unfold maxLen; omega) (by omega) ?_; intro vA wA hownA xA))
      rw [HSL.out.1, ← HSL.out.2] at hownA
      obtain ⟨b8, d8, rfl, l8, m8, h8⟩ := HoldsG.of_own (mk := Value.int .u8) hownA
      go_ret2
      exact ⟨b8, d8, by rfl, l8, m8, h8, e0.trans (((x5.trans hlit).trans x6).trans xA)⟩
    · have HK := Lib.hid hk
      have hwk : IntKind.u8.wrap 22 = 22 := by decide
      have hTk : T.k = 22 := HTK.out.trans hk
      have HTk := Lib.hid hTk
      clear hk hTk
      go_enter Try.func10, Try.ntmps10
      go_upto_region 1 with fail
      rw [← hW2]
      clear hW2
      obtain ⟨b1, b2⟩ := HX.out _ (Ext.refl W2)
      go_wp2_with (first
        | (refine wpList_load_row rfl 25 (.tmp 2) rfl w.heap.size rfl 25 _ (0, 0) _ b1 Try.underlying25 rfl (by kernel_rfl) ?_)
        | (refine wpList_load_row rfl 28 (.tmp 3) rfl (w.heap.size + 1) rfl 28 _ (0, 0) _ b2 Try.underlying28 rfl (by kernel_rfl) ?_))
      refine (KR.out _ e0).mono ?_; rintro e w3 ⟨rfl, x3⟩
      have c1 : w3.cell? ⟨w.heap.size + 1, 1, none⟩ = some (.int .i64 T.cd) := cell_of_heap (HX.out _ x3).2 rfl
      have c0 : w3.cell? ⟨w.heap.size, 0, none⟩ = some (.int .i64 22) := by rw [← HK.out]; exact cell_of_heap (HX.out _ x3).1 rfl
      clear b1 b2 KR
      obtain ⟨W5, hW5, x5, y5, g5⟩ : ∃ W, W = w3.alloc (.cells #[.int .u8 22] 5) ∧ Ext W2 W ∧ Ext w3 W ∧ W.cell? ⟨w3.heap.size, 0, none⟩ = some (.int .u8 T.k) :=
        ⟨_, rfl, x3.trans (Ext.alloc _ _), Ext.alloc _ _, by rw [HTk.out]; exact cell_of_heap (heap_alloc_new w3 _) rfl⟩
      go_upto_region 6 with fail
      rw [← hW5]
      clear hW5 c0 c1
      have hg5 : w3.heap.size < W5.heap.size := World.block_lt_of_cell? _ _ g5
      generalize w3.heap.size = G at g5 hg5 ⊢
      clear y5
      have c0 : W5.cell? ⟨w.heap.size, 0, none⟩ = some (.int .i64 22) := by rw [← HK.out]; exact cell_of_heap (HX.out _ x5).1 rfl
      have c2 : W5.cell? ⟨w.heap.size + 1, 2, none⟩ = some (.int .i64 T.ad) := cell_of_heap (HX.out _ x5).2 rfl
      have c5 : W5.cell? ⟨w.heap.size + 1, 5, none⟩ = some (.int .i64 T.an) := cell_of_heap (HX.out _ x5).2 rfl
      have c6 : W5.cell? ⟨w.heap.size + 1, 6, none⟩ = some (.int .i64 T.oo) := cell_of_heap (HX.out _ x5).2 rfl
      have hnf : ∀ i, i < 3 → 0 ≤ tnumF T i ∧ tnumF T i < 65536 := fun i _ => HNB.out i
      have hv0 : tnumF T 0 = T.ad := by unfold tnumF; rw [HTk.out]; rfl
      have hv1 : tnumF T 1 = T.an := by unfold tnumF; rw [HTk.out]; rfl
      have hv2 : tnumF T 2 = T.oo := by unfold tnumF; rw [HTk.out]; rfl
      have hw0 : IntKind.u16.wrap T.ad = T.ad := w16 (by have := hnf 0 (by omega); rw [hv0] at this; omega)
      have hw1 : IntKind.u16.wrap T.an = T.an := w16 (by have := hnf 1 (by omega); rw [hv1] at this; omega)
      have hw2 : IntKind.u16.wrap T.oo = T.oo := w16 (by have := hnf 2 (by omega); rw [hv2] at this; omega)
      have hlit := Ext.alloc W5 (.cells #[.int .u16 T.ad, .int .u16 T.an, .int .u16 T.oo] 50)
      have hl : HoldsG (Value.int .u16) (W5.alloc (.cells #[.int .u16 T.ad, .int .u16 T.an, .int .u16 T.oo] 50)) (some ⟨W5.heap.size, 0, none⟩) 3 (tnumF T) := three_words W5 _ _ _ (tnumF T) hv0 hv1 hv2
      have g6 := Ext.cell hlit hg5 g5
      have hSL := tsay_nums HCD.out (by rw [HTk.out]; decide) (by rw [HTk.out]; decide) 3
      have hn1 : tsayN T = 1 + 2 * 3 := by rw [HSN.out, HTk.out]; rfl
      have HSL := Lib.hid (And.intro hSL hn1)
      clear hSL hn1 hv0 hv1 hv2
      go_wp2_with fail
      refine (rput_any (some ⟨W5.heap.size, 0, none⟩) 3 3 (tnumF T) _ hl (by omega) hnf).mono ?_; rintro e w6 ⟨pb, pq, rfl, hp, x6⟩
      have g7 := Ext.cell x6 (World.block_lt_of_cell? _ _ g6) g6
      go_wp2_with (first
        | (at_builtin; refine wpList_append_lit (mk := Value.int .u8) rfl (.tmp 85) (.tmp 96) 31 rfl 5 i8 (.int .u8 0) 1 Try.underlying31 hi8 hz80 hz81 hz82 rfl G _ rfl g7 pb (2 * 3) pq (putF (tnumF T)) rfl hp (by omega) (fun _ => rfl) (by unfold maxLen; omega) (by omega) ?_; intro vA wA hownA xA))
      rw [HSL.out.1, ← HSL.out.2] at hownA
      obtain ⟨b8, d8, rfl, l8, m8, h8⟩ := HoldsG.of_own (mk := Value.int .u8) hownA
      go_ret2
      exact ⟨b8, d8, by rfl, l8, m8, h8, e0.trans (((x5.trans hlit).trans x6).trans xA)⟩
    · have HK := Lib.hid hk
      have hwk : IntKind.u8.wrap 23 = 23 := by decide
      have hTk : T.k = 23 := HTK.out.trans hk
      have HTk := Lib.hid hTk
      clear hk hTk
      go_enter Try.func10, Try.ntmps10
      go_upto_region 1 with fail
      rw [← hW2]
      clear hW2
      obtain ⟨b1, b2⟩ := HX.out _ (Ext.refl W2)
      go_wp2_with (first
        | (refine wpList_load_row rfl 25 (.tmp 2) rfl w.heap.size rfl 25 _ (0, 0) _ b1 Try.underlying25 rfl (by kernel_rfl) ?_)
        | (refine wpList_load_row rfl 28 (.tmp 3) rfl (w.heap.size + 1) rfl 28 _ (0, 0) _ b2 Try.underlying28 rfl (by kernel_rfl) ?_))
      refine (KR.out _ e0).mono ?_; rintro e w3 ⟨rfl, x3⟩
      have c1 : w3.cell? ⟨w.heap.size + 1, 1, none⟩ = some (.int .i64 T.cd) := cell_of_heap (HX.out _ x3).2 rfl
      have c0 : w3.cell? ⟨w.heap.size, 0, none⟩ = some (.int .i64 23) := by rw [← HK.out]; exact cell_of_heap (HX.out _ x3).1 rfl
      clear b1 b2 KR
      obtain ⟨W5, hW5, x5, y5, g5⟩ : ∃ W, W = w3.alloc (.cells #[.int .u8 23] 5) ∧ Ext W2 W ∧ Ext w3 W ∧ W.cell? ⟨w3.heap.size, 0, none⟩ = some (.int .u8 T.k) :=
        ⟨_, rfl, x3.trans (Ext.alloc _ _), Ext.alloc _ _, by rw [HTk.out]; exact cell_of_heap (heap_alloc_new w3 _) rfl⟩
      go_upto_region 6 with fail
      rw [← hW5]
      clear hW5 c0 c1
      have hg5 : w3.heap.size < W5.heap.size := World.block_lt_of_cell? _ _ g5
      generalize w3.heap.size = G at g5 hg5 ⊢
      clear y5
      have c0 : W5.cell? ⟨w.heap.size, 0, none⟩ = some (.int .i64 23) := by rw [← HK.out]; exact cell_of_heap (HX.out _ x5).1 rfl
      have c7 : W5.cell? ⟨w.heap.size + 1, 8, none⟩ = some (.slice U.a2 T.nr U.d2) := cell_of_heap (HX.out _ x5).2 rfl
      go_wp2_with fail
      refine (KWp.out _ (e0.trans x5)).mono ?_; rintro e w6 ⟨pb, pq, rfl, hp, x6⟩
      have g6 := Ext.cell x6 hg5 g5
      have x6' := x5.trans x6
      clear c0 c7
      have hwl : IntKind.u8.wrap ((2 * T.nr : Nat) : Int) = ((2 * T.nr : Nat) : Int) := w8 (by omega)
      have hlit := Ext.alloc w6 (.cells #[.int .u8 ((2 * T.nr : Nat) : Int)] 5)
      have hlc : HoldsG (Value.int .u8) (w6.alloc (.cells #[.int .u8 ((2 * T.nr : Nat) : Int)] 5)) (some ⟨w6.heap.size, 0, none⟩) 1 (fun _ => ((2 * T.nr : Nat) : Int)) := one_held (cell_of_heap (heap_alloc_new w6 _) rfl)
      have g7 := Ext.cell hlit (World.block_lt_of_cell? _ _ g6) g6
      have hSL := tsay_words HCD.out (by rw [HTk.out]; decide) (by rw [HTk.out]; decide)
      have hn1 : tsayN T = 1 + 1 + 2 * T.nr := by rw [HSN.out, HTk.out]; simp (config := { decide := true }) only [if_true, if_false] <;> omega
      have HP := Lib.hid hp
      obtain ⟨L, hL⟩ : ∃ L, L = 2 * T.nr := ⟨_, rfl⟩
      have hSL : [Value.int .u8 T.k] ++ lstG (Value.int .u8) (fun _ => (L : Int)) 1 ++ lstG (Value.int .u8) (putF T.R) L = lstG (Value.int .u8) (tsayF T) (tsayN T) := by
        rw [hn1, ← hSL, hL]
        try rfl
      have hLb : L ≤ 250 := by rw [hL]; omega
      rw [← hL] at hwl hlit hlc g7 HP hn1 ⊢
      have HSL := Lib.hid (And.intro hSL hn1)
      clear hSL hn1 hL hp
      go_upto_region 15 with fail
      go_wp2_with (first
        | (at_builtin; refine wpList_append_lit (mk := Value.int .u8) rfl (.tmp 51) (.tmp 55) 31 rfl 5 i8 (.int .u8 0) 1 Try.underlying31 hi8 hz80 hz81 hz82 rfl G _ rfl g7 (some ⟨w6.heap.size, 0, none⟩) 1 1 (fun _ => (L : Int)) rfl hlc (by omega) (fun _ => rfl) (by unfold maxLen; omega) (by omega) ?_; intro v9 w9 hown9 x9)
        | (at_builtin; refine wpList_append_holds (mk := Value.int .u8) rfl (.tmp 56) (.tmp 57) 31 rfl (w6.alloc (.cells #[.int .u8 (L : Int)] 5)).heap.size 5 i8 (.int .u8 0) 1 Try.underlying31 hi8 hz80 hz81 hz82 rfl _ (1 + 1) _ rfl hown9 pb L pq (putF T.R) rfl (HP.out.ext (hlit.trans x9)) (fun _ => rfl) (by unfold maxLen; omega) (by omega) x9.size ?_; intro vA wA hownA _ hbA))
      rw [HSL.out.1] at hownA
      rw [← HSL.out.2] at hownA
      obtain ⟨b8, d8, rfl, l8, m8, h8⟩ := HoldsG.of_own (mk := Value.int .u8) hownA
      go_ret2
      exact ⟨b8, d8, by rfl, l8, m8, h8, e0.trans (x6'.trans (Below.trans (hlit.trans x9) (Below.mono hbA (hlit.size))))⟩
  · have hb0 : (T.cd != 0) = true := by simp [hcd]
    obtain ⟨ha, hcb, -⟩ := tel_code hr hcd
    have hn2 : tsayN T = 2 := by unfold tsayN; rw [if_pos hcd]
    have hkb : 1 ≤ Q.k ∧ Q.k ≤ 23 := by omega
    have hw1 : IntKind.i64.wrap (Q.k + 128) = Q.k + 128 := IntWalk.i64_in _ (by omega)
    have hw2 : IntKind.u8.wrap (Q.k + 128) = Q.k + 128 := w8 (by omega)
    have hw3 : IntKind.u8.wrap T.cd = T.cd := w8 (by omega)
    have HF : Hid (tsayF T 0 = Q.k + 128 ∧ tsayF T 1 = T.cd) := Lib.hid (by unfold tsayF; rw [if_pos hcd, if_pos hcd, hTk]; exact ⟨rfl, rfl⟩)
    rw [hn2]
    clear h k n1 n2 m1 m2 hr hcd hTk hkk hn2 ha
    go_enter Try.func10, Try.ntmps10
    go_upto_region 1 with fail
    rw [← hW2]
    clear hW2
    obtain ⟨b1, b2⟩ := HX.out _ (Ext.refl W2)
    go_wp2_with (first
      | (refine wpList_load_row rfl 25 (.tmp 2) rfl w.heap.size rfl 25 _ (0, 0) _ b1 Try.underlying25 rfl (by kernel_rfl) ?_)
      | (refine wpList_load_row rfl 28 (.tmp 3) rfl (w.heap.size + 1) rfl 28 _ (0, 0) _ b2 Try.underlying28 rfl (by kernel_rfl) ?_))
    refine (KR.out _ e0).mono ?_; rintro e w3 ⟨rfl, x3⟩
    clear b1 b2
    have c1 : w3.cell? ⟨w.heap.size + 1, 1, none⟩ = some (.int .i64 T.cd) := cell_of_heap (HX.out _ x3).2 rfl
    have c0 : w3.cell? ⟨w.heap.size, 0, none⟩ = some (.int .i64 Q.k) := cell_of_heap (HX.out _ x3).1 rfl
    go_wp2
    go_ret2
    refine ⟨some ⟨w3.heap.size, 0, none⟩, 2, by rfl, Nat.le_refl _, by decide, ?_, e0.trans (x3.trans (Ext.alloc _ _))⟩
    refine HoldsG.new _ _ _ 2 _ (fun i hi => ?_)
    have h : i = 0 ∨ i = 1 := by omega
    rcases h with rfl | rfl
    · rw [HF.out.1]; rfl
    · rw [HF.out.2]; rfl
theorem rprint16_any (V : QstV) (Q : Qst) (U : QstV) (T : Tel) (w : World) (h : QstAt w V Q) (n1 : Q.nb ≤ 1000000) (n2 : Q.nr ≤ 1000000) (k : TelAt w U T) (m1 : T.nb ≤ 1000000) (m2 : T.nr ≤ 1000000) (hR : ∀ i, i < T.nr → 0 ≤ T.R i ∧ T.R i < 65536) : Calls Try.prog 10 #[.agg (qstC V Q), .agg (telC U T)] w (PrT Q T w) := by
  cases hr : rightT Q T with
  | true => exact rprint16_yes V Q U T w h n1 n2 k m1 m2 hR hr
  | false => exact rprint16_no V Q U T w h n1 n2 k m1 m2 hr
end Go.Proofs.Ytejiafihiielgaa
