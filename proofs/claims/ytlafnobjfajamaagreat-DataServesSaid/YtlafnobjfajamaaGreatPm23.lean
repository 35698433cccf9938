/-
  CONTRACTS: bilgeref16 (layer 16): Print.
  CONTRACTS: bilgeref17 (layer 17): Serve.
  THE LAWS OF LAYER 17: the walk of DataServes (package data's contracts and 'sure' as premises).
-/
import Derived.Test.YtlafnobjfajamaaGreatPm21
import Derived.Test.YtlafnobjfajamaaGreatPm22
import Derived.ArgAppend
import Derived.Test.YtlafnobjfajamaaGreatPm15
import Derived.Test.YtlafnobjfajamaaGreatPm19
import Derived.Test.YtlafnobjfajamaaGreatPm24
import Derived.Test.YtlafnobjfajamaaGreatPm16
namespace Go.Proofs.YtlafnobjfajamaaGreat
open Go.RowKit
set_option linter.unusedVariables false
set_option maxRecDepth 100000

theorem tel_parts {Q : Qst} {T : Tel} (h : rightT Q T = true) (hc : T.cd = 0) : Alike16 T (wholeT Q T.nb T.B T.nr T.R) ∧ cntB Q T = true ∧ rightQ Q = true := by
  have hr := (rightT_k h).2
  rw [right16_yes hr, if_pos hc, Bool.and_eq_true] at h
  exact ⟨(sameT_iff _ _).1 h.1, h.2, hr⟩
theorem tel_code {Q : Qst} {T : Tel} (h : rightT Q T = true) (hc : T.cd ≠ 0) : Alike16 T { zeroT with k := Q.k, cd := T.cd } ∧ (1 ≤ T.cd ∧ T.cd ≤ 4) ∧ rightQ Q = true := by
  have hr := (rightT_k h).2
  rw [right16_yes hr, if_neg hc, Bool.and_eq_true, inB_iff] at h
  exact ⟨(sameT_iff _ _).1 h.2, h.1, hr⟩
theorem tnum_bd {Q : Qst} {T : Tel} (h : rightT Q T = true) (hc : T.cd = 0) (i : Nat) : 0 ≤ tnumF T i ∧ tnumF T i < 65536 := by
  obtain ⟨ha, hn, hr⟩ := tel_parts h hc
  obtain ⟨hkn, ho, had, hf⟩ := (rightQ_iff Q).1 hr
  have hk := (known_iff Q.k).1 hkn
  have e1 := ha.ad; have e2 := ha.ct; have e3 := ha.va; have e4 := ha.an; have e5 := ha.oo
  unfold wholeT at e1 e2 e3 e4 e5
  unfold fitsB at hf
  unfold tnumF
  rcases hk with hk | hk | hk | hk | hk | hk | hk | hk | hk | hk <;>
  · simp (config := { decide := true }) only [hk, zeroT, if_true, if_false, Bool.and_eq_true, inB_iff, decide_eq_true_iff] at e1 e2 e3 e4 e5 hf
    rw [e1, e2, e3, e4, e5]
    repeat' split
    all_goals omega
theorem lstG_congr {α : Type} {mk : α → Value} {f g : Nat → α} {n : Nat} (h : ∀ i, i < n → f i = g i) : lstG mk f n = lstG mk g n := by
  unfold lstG
  exact List.map_congr_left fun i hi => by rw [h i (List.mem_range.1 hi)]
theorem tsay_nums {T : Tel} (hc : T.cd = 0) (h1 : ¬ (T.k = 1 ∨ T.k = 2)) (h2 : ¬ (T.k = 3 ∨ T.k = 4 ∨ T.k = 23)) (m : Nat) : [Value.int .u8 T.k] ++ lstG (Value.int .u8) (putF (tnumF T)) (2 * m) = lstG (Value.int .u8) (tsayF T) (1 + 2 * m) := by
  rw [lst_one (Value.int .u8) T.k, lstG_append]
  refine lstG_congr fun i hi => ?_
  have e : tsayF T i = if i = 0 then T.k else putF (tnumF T) (i - 1) := by unfold tsayF; rw [if_neg (by omega), if_neg h1, if_neg h2]
  rw [e]
  by_cases h0 : i = 0
  · rw [if_pos (by omega), if_pos h0]
  · rw [if_neg (by omega), if_neg h0]
theorem tsay_bits {T : Tel} (hc : T.cd = 0) (h1 : T.k = 1 ∨ T.k = 2) : [Value.int .u8 T.k] ++ lstG (Value.int .u8) (fun _ => (szN T.nb : Int)) 1 ++ lstG (Value.int .u8) (pkF T.B T.nb) (szN T.nb) = lstG (Value.int .u8) (tsayF T) (1 + 1 + szN T.nb) := by
  rw [lst_one (Value.int .u8) T.k, lstG_append, lstG_append]
  refine lstG_congr fun i hi => ?_
  have e : tsayF T i = if i = 0 then T.k else if i = 1 then (szN T.nb : Int) else pkF T.B T.nb (i - 2) := by unfold tsayF; rw [if_neg (by omega), if_pos h1]
  rw [e]
  by_cases h0 : i = 0
  · rw [if_pos (by omega), if_pos (by omega), if_pos h0]
  · rw [if_neg h0]
    by_cases hi1 : i = 1
    · rw [if_pos (by omega), if_neg (by omega), if_pos hi1]
    · rw [if_neg (by omega), if_neg hi1]
theorem tsay_words {T : Tel} (hc : T.cd = 0) (h1 : ¬ (T.k = 1 ∨ T.k = 2)) (h2 : T.k = 3 ∨ T.k = 4 ∨ T.k = 23) : [Value.int .u8 T.k] ++ lstG (Value.int .u8) (fun _ => 2 * (T.nr : Int)) 1 ++ lstG (Value.int .u8) (putF T.R) (2 * T.nr) = lstG (Value.int .u8) (tsayF T) (1 + 1 + 2 * T.nr) := by
  rw [lst_one (Value.int .u8) T.k, lstG_append, lstG_append]
  refine lstG_congr fun i hi => ?_
  have e : tsayF T i = if i = 0 then T.k else if i = 1 then 2 * (T.nr : Int) else putF T.R (i - 2) := by unfold tsayF; rw [if_neg (by omega), if_neg h1, if_pos h2]
  rw [e]
  by_cases h0 : i = 0
  · rw [if_pos (by omega), if_pos (by omega), if_pos h0]
  · rw [if_neg h0]
    by_cases hi1 : i = 1
    · rw [if_pos (by omega), if_neg (by omega), if_pos hi1]
    · rw [if_neg (by omega), if_neg hi1]
def PrT (Q : Qst) (T : Tel) (w : World) (e : Ending) (w' : World) : Prop :=
  ∃ b q, e = .returned (.tuple #[.slice b (tprN Q T) q, .bool (rightT Q T)]) ∧ tprN Q T ≤ q ∧ q ≤ maxLen ∧ HoldsG (Value.int .u8) w' b (tprN Q T) (tsayF T) ∧ Ext w w'
/-- append onto a full literal of one: it grows, all else is as it was. -/
theorem wpList_append_lit {P : Program} {w : World} {α : Type} {mk : α → Value} {ops : Array Oper} {rest : List Oper} {o : Oper} {a : Act} {Q : Exit → Act → World → Prop} (hgd : o.guard = none) (s x : Operand) (t : TypeId)
    (ho : o.op = .call { callee := .builtin .append, args := #[s, x], argTypes := #[t, t] })
    (e : TypeId) (i : TypeInfo) (z : Value) (bytes : Nat) (ht : P.underlying t = some (.slice e)) (hi : P.info? e = some i) (hz : i.zero = some z) (hsize : i.size = 1) (hby : i.bytes = bytes) (hzs : z.cells.size = 1)
    (G : Nat) (y : Value) (hs : a.eval s = .slice (some ⟨G, 0, none⟩) 1 1) (hG : w.cell? ⟨G, 0, none⟩ = some y)
    (A : Option Addr) (m c : Nat) (f : Nat → α) (hx : a.eval x = .slice A m c) (hh : HoldsG mk w A m f) (hm : 0 < m) (h1 : ∀ u, (mk u).oneCell' = true) (h63 : 1 + m ≤ maxLen) (hbytes : (1 + m) * bytes ≤ 140737488355328)
    (h : ∀ v' w', w'.ownsRow w.heap.size e 1 v' (1 + m) ([y] ++ lstG mk f m) → Ext w w' → wpList P ops Q rest (a.put o.dst v') w') : wpList P ops Q (o :: rest) a w := by
  obtain ⟨b, off, rfl, hlt, hc⟩ := hh.resolve_left (by omega)
  refine wpList_append_grows w hgd s x t ho e i z 1 bytes ht hi hz hsize hby hzs (by omega) (some ⟨G, 0, none⟩) 1 1 [y] hs (fun h => by cases h) rfl ?_ ⟨b, off, none⟩ m c (lstG mk f m) hx (by rw [lstG_length]; omega) ?_ ?_ (by omega) h63 hbytes ?_
  · intro b' hb' j u hu
    cases hb'
    cases j with
    | zero => cases hu; exact hG
    | succ j => cases hu
  · intro j u hu
    have hj : j < m := by
      rcases Nat.lt_or_ge j m with h | h
      · exact h
      · rw [List.getElem?_eq_none (by rw [lstG_length]; omega)] at hu; cases hu
    rw [lstG_get _ _ _ _ hj] at hu
    have e1 : (⟨b, off, none⟩ : Addr).add j = ⟨b, off + j, none⟩ := by unfold Addr.add; split <;> simp_all
    rw [e1, hc j hj]; exact hu
  · intro u hu
    simp only [lstG, List.mem_map] at hu
    obtain ⟨k, _, rfl⟩ := hu
    exact h1 _
  · intro v' w' h2 h3
    exact h v' w' h2 ((Below.refl _ _).grown h3 (Nat.le_refl _) (fun q hq => by cases hq))
set_option maxHeartbeats 2000000 in
theorem rprint16_no (V : QstV) (Q : Qst) (U : QstV) (T : Tel) (w : World) (h : QstAt w V Q) (n1 : Q.nb ≤ 1000000) (n2 : Q.nr ≤ 1000000) (k : TelAt w U T) (m1 : T.nb ≤ 1000000) (m2 : T.nr ≤ 1000000) (hr : rightT Q T = false) : Calls Tryz.prog 49 #[.agg (qstC V Q), .agg (telC U T)] w (PrT Q T w) := by
  have KR := Lib.hid (fun W (x : Ext w W) => rright16_v hr W (h.ext x) n1 n2 (k.ext x) m1 m2)
  unfold PrT
  rw [hr, show tprN Q T = 0 from by unfold tprN; rw [hr]; rfl]
  obtain ⟨W2, hW2, e0, HX⟩ : ∃ W2, W2 = (w.alloc (.cells (qstC V Q) 31)).alloc (.cells (telC U T) 37) ∧ Ext w W2 ∧ Hid (∀ W, Ext W2 W → W.heap[w.heap.size]? = some (.cells (qstC V Q) 31 (0, 0)) ∧ W.heap[w.heap.size + 1]? = some (.cells (telC U T) 37 (0, 0))) :=
    ⟨_, rfl, (Ext.alloc w _).trans (Ext.alloc _ _), Lib.hid fun W x => ⟨x.block ((heap_alloc_old _ _ (by simp)).trans (heap_alloc_new w _)), x.block (heap_new_at _ _ (by simp))⟩⟩
  clear h k n1 n2 m1 m2 hr
  go_enter Tryz.func49, Tryz.ntmps49
  go_upto_region 1 with fail
  rw [← hW2]
  clear hW2
  obtain ⟨b1, b2⟩ := HX.out _ (Ext.refl W2)
  go_wp2_with (first
    | (refine wpList_load_row rfl 31 (.tmp 2) rfl w.heap.size rfl 31 _ (0, 0) _ b1 Tryz.underlying31 rfl (by kernel_rfl) ?_)
    | (refine wpList_load_row rfl 37 (.tmp 3) rfl (w.heap.size + 1) rfl 37 _ (0, 0) _ b2 Tryz.underlying37 rfl (by kernel_rfl) ?_))
  refine (KR.out _ e0).mono ?_; rintro e w3 ⟨rfl, x3⟩
  clear b1 b2
  go_wp2
  go_ret2
  exact ⟨none, 0, rfl, Nat.le_refl _, by decide, .inl rfl, e0.trans x3⟩
set_option maxHeartbeats 8000000 in
theorem rprint16_yes (V : QstV) (Q : Qst) (U : QstV) (T : Tel) (w : World) (h : QstAt w V Q) (n1 : Q.nb ≤ 1000000) (n2 : Q.nr ≤ 1000000) (k : TelAt w U T) (m1 : T.nb ≤ 1000000) (m2 : T.nr ≤ 1000000) (hR : ∀ i, i < T.nr → 0 ≤ T.R i ∧ T.R i < 65536) (hr : rightT Q T = true) : Calls Tryz.prog 49 #[.agg (qstC V Q), .agg (telC U T)] w (PrT Q T w) := by
  have KR := Lib.hid (fun W (x : Ext w W) => rright16_v hr W (h.ext x) n1 n2 (k.ext x) m1 m2)
  obtain ⟨i8, hi8, hz80, hz81, hz82⟩ := info_parts Tryz.info8
  have hTk := (rightT_k hr).1
  have hkk := (known_iff Q.k).1 ((rightQ_iff Q).1 (rightT_k hr).2).1
  unfold PrT
  rw [hr, show tprN Q T = tsayN T from by unfold tprN; rw [hr]; rfl]
  obtain ⟨W2, hW2, e0, HX⟩ : ∃ W2, W2 = (w.alloc (.cells (qstC V Q) 31)).alloc (.cells (telC U T) 37) ∧ Ext w W2 ∧ Hid (∀ W, Ext W2 W → W.heap[w.heap.size]? = some (.cells (qstC V Q) 31 (0, 0)) ∧ W.heap[w.heap.size + 1]? = some (.cells (telC U T) 37 (0, 0))) :=
    ⟨_, rfl, (Ext.alloc w _).trans (Ext.alloc _ _), Lib.hid fun W x => ⟨x.block ((heap_alloc_old _ _ (by simp)).trans (heap_alloc_new w _)), x.block (heap_new_at _ _ (by simp))⟩⟩
  have KPk := Lib.hid (fun W (x : Ext w W) => rpack_any U.a1 T.nb U.d1 T.B W (k.h1.ext x) m1)
  have KWp := Lib.hid (fun W (x : Ext w W) => rput_any U.a2 T.nr U.d2 T.R W (k.h2.ext x) m2 hR)
  have HRT := Lib.hid hr
  by_cases hcd : T.cd = 0
  · have hb0 : (T.cd != 0) = false := by simp [hcd]
    have hnb := fun i => tnum_bd hr hcd i
    have HSN : Hid (tsayN T = if T.k = 1 ∨ T.k = 2 then 2 + szN T.nb else if T.k = 3 ∨ T.k = 4 ∨ T.k = 23 then 2 + 2 * T.nr else if T.k = 22 then 7 else 5) := Lib.hid (by unfold tsayN; rw [if_neg (by omega)])
    have HCD := Lib.hid hcd
    have HNB := Lib.hid hnb
    have HTK := Lib.hid hTk
    have hln : szN T.nb ≤ 250 ∧ 2 * T.nr ≤ 250 := by
      obtain ⟨ha, hn, hq⟩ := tel_parts hr hcd
      obtain ⟨-, -, -, hf⟩ := (rightQ_iff Q).1 hq
      have e1 := ha.nb; have e2 := ha.nr
      unfold wholeT at e1 e2
      unfold cntB at hn
      unfold fitsB at hf
      unfold szN
      rcases hkk with hk | hk | hk | hk | hk | hk | hk | hk | hk | hk <;>
      · simp (config := { decide := true }) only [hk, zeroT, if_true, if_false, Bool.and_eq_true, inB_iff, decide_eq_true_iff] at e1 e2 hn hf
        omega
    clear h k n1 n2 m1 m2 hr hcd hnb hTk hR
    rcases hkk with hk | hk | hk | hk | hk | hk | hk | hk | hk | hk
    · have HK := Lib.hid hk
      have hwk : IntKind.u8.wrap 1 = 1 := by decide
      have hTk : T.k = 1 := HTK.out.trans hk
      have HTk := Lib.hid hTk
      clear hk hTk
      go_enter Tryz.func49, Tryz.ntmps49
      go_upto_region 1 with fail
      rw [← hW2]
      clear hW2
      obtain ⟨b1, b2⟩ := HX.out _ (Ext.refl W2)
      go_wp2_with (first
        | (refine wpList_load_row rfl 31 (.tmp 2) rfl w.heap.size rfl 31 _ (0, 0) _ b1 Tryz.underlying31 rfl (by kernel_rfl) ?_)
        | (refine wpList_load_row rfl 37 (.tmp 3) rfl (w.heap.size + 1) rfl 37 _ (0, 0) _ b2 Tryz.underlying37 rfl (by kernel_rfl) ?_))
      refine (KR.out _ e0).mono ?_; rintro e w3 ⟨rfl, x3⟩
      have c1 : w3.cell? ⟨w.heap.size + 1, 1, none⟩ = some (.int .i64 T.cd) := cell_of_heap (HX.out _ x3).2 rfl
      have c0 : w3.cell? ⟨w.heap.size, 0, none⟩ = some (.int .i64 1) := by rw [← HK.out]; exact cell_of_heap (HX.out _ x3).1 rfl
      clear b1 b2 KR
      obtain ⟨W5, hW5, x5, y5, g5⟩ : ∃ W, W = w3.alloc (.cells #[.int .u8 1] 5) ∧ Ext W2 W ∧ Ext w3 W ∧ W.cell? ⟨w3.heap.size, 0, none⟩ = some (.int .u8 T.k) :=
        ⟨_, rfl, x3.trans (Ext.alloc _ _), Ext.alloc _ _, by rw [HTk.out]; exact cell_of_heap (heap_alloc_new w3 _) rfl⟩
      go_upto_region 6 with fail
      rw [← hW5]
      clear hW5 c0 c1
      have hg5 : w3.heap.size < W5.heap.size := World.block_lt_of_cell? _ _ g5
      generalize w3.heap.size = G at g5 hg5 ⊢
      clear y5
      have c0 : W5.cell? ⟨w.heap.size, 0, none⟩ = some (.int .i64 1) := by rw [← HK.out]; exact cell_of_heap (HX.out _ x5).1 rfl
      have c7 : W5.cell? ⟨w.heap.size + 1, 7, none⟩ = some (.slice U.a1 T.nb U.d1) := cell_of_heap (HX.out _ x5).2 rfl
      go_wp2_with fail
      refine (KPk.out _ (e0.trans x5)).mono ?_; rintro e w6 ⟨pb, pq, rfl, -, -, hp, x6⟩
      have g6 := Ext.cell x6 hg5 g5
      have x6' := x5.trans x6
      clear c0 c7
      have hwl : IntKind.u8.wrap ((szN T.nb : Nat) : Int) = ((szN T.nb : Nat) : Int) := w8 (by omega)
      have hlit := Ext.alloc w6 (.cells #[.int .u8 ((szN T.nb : Nat) : Int)] 5)
      have hlc : HoldsG (Value.int .u8) (w6.alloc (.cells #[.int .u8 ((szN T.nb : Nat) : Int)] 5)) (some ⟨w6.heap.size, 0, none⟩) 1 (fun _ => ((szN T.nb : Nat) : Int)) := one_held (cell_of_heap (heap_alloc_new w6 _) rfl)
      have g7 := Ext.cell hlit (World.block_lt_of_cell? _ _ g6) g6
      have hSL := tsay_bits HCD.out (by rw [HTk.out]; decide)
      have hn1 : tsayN T = 1 + 1 + szN T.nb := by rw [HSN.out, HTk.out]; simp (config := { decide := true }) only [if_true, if_false] <;> omega
      have HP := Lib.hid hp
      obtain ⟨L, hL⟩ : ∃ L, L = szN T.nb := ⟨_, rfl⟩
      have hSL : [Value.int .u8 T.k] ++ lstG (Value.int .u8) (fun _ => (L : Int)) 1 ++ lstG (Value.int .u8) (pkF T.B T.nb) L = lstG (Value.int .u8) (tsayF T) (tsayN T) := by
        rw [hn1, ← hSL, hL]
        try rfl
      have hLb : L ≤ 250 := by rw [hL]; omega
      rw [← hL] at hwl hlit hlc g7 HP hn1 ⊢
      have HSL := Lib.hid (And.intro hSL hn1)
      clear hSL hn1 hL hp
      go_upto_region 10 with fail
      go_wp2_with (first
        | (at_builtin; refine wpList_append_lit (mk := Value.int .u8) rfl (.tmp 36) (.tmp 40) 48 rfl 5 i8 (.int .u8 0) 1 Tryz.underlying48 hi8 hz80 hz81 hz82 rfl G _ rfl g7 (some ⟨w6.heap.size, 0, none⟩) 1 1 (fun _ => (L : Int)) rfl hlc (by omega) (fun _ => rfl) (by unfold maxLen; omega) (by omega) ?_; intro v9 w9 hown9 x9)
        | (at_builtin; refine wpList_append_holds (mk := Value.int .u8) rfl (.tmp 41) (.tmp 42) 48 rfl (w6.alloc (.cells #[.int .u8 (L : Int)] 5)).heap.size 5 i8 (.int .u8 0) 1 Tryz.underlying48 hi8 hz80 hz81 hz82 rfl _ (1 + 1) _ rfl hown9 pb L pq (pkF T.B T.nb) rfl (HP.out.ext (hlit.trans x9)) (fun _ => rfl) (by unfold maxLen; omega) (by omega) x9.size ?_; intro vA wA hownA _ hbA))
      rw [HSL.out.1] at hownA
      rw [← HSL.out.2] at hownA
      obtain ⟨b8, d8, rfl, l8, m8, h8⟩ := HoldsG.of_own (mk := Value.int .u8) hownA
      go_ret2
      exact ⟨b8, d8, by rfl, l8, m8, h8, e0.trans (x6'.trans (Below.trans (hlit.trans x9) (Below.mono hbA (hlit.size))))⟩
    · have HK := Lib.hid hk
      have hwk : IntKind.u8.wrap 2 = 2 := by decide
      have hTk : T.k = 2 := HTK.out.trans hk
      have HTk := Lib.hid hTk
      clear hk hTk
      go_enter Tryz.func49, Tryz.ntmps49
      go_upto_region 1 with fail
      rw [← hW2]
      clear hW2
      obtain ⟨b1, b2⟩ := HX.out _ (Ext.refl W2)
      go_wp2_with (first
        | (refine wpList_load_row rfl 31 (.tmp 2) rfl w.heap.size rfl 31 _ (0, 0) _ b1 Tryz.underlying31 rfl (by kernel_rfl) ?_)
        | (refine wpList_load_row rfl 37 (.tmp 3) rfl (w.heap.size + 1) rfl 37 _ (0, 0) _ b2 Tryz.underlying37 rfl (by kernel_rfl) ?_))
      refine (KR.out _ e0).mono ?_; rintro e w3 ⟨rfl, x3⟩
      have c1 : w3.cell? ⟨w.heap.size + 1, 1, none⟩ = some (.int .i64 T.cd) := cell_of_heap (HX.out _ x3).2 rfl
      have c0 : w3.cell? ⟨w.heap.size, 0, none⟩ = some (.int .i64 2) := by rw [← HK.out]; exact cell_of_heap (HX.out _ x3).1 rfl
      clear b1 b2 KR
      obtain ⟨W5, hW5, x5, y5, g5⟩ : ∃ W, W = w3.alloc (.cells #[.int .u8 2] 5) ∧ Ext W2 W ∧ Ext w3 W ∧ W.cell? ⟨w3.heap.size, 0, none⟩ = some (.int .u8 T.k) :=
        ⟨_, rfl, x3.trans (Ext.alloc _ _), Ext.alloc _ _, by rw [HTk.out]; exact cell_of_heap (heap_alloc_new w3 _) rfl⟩
      go_upto_region 6 with fail
      rw [← hW5]
      clear hW5 c0 c1
      have hg5 : w3.heap.size < W5.heap.size := World.block_lt_of_cell? _ _ g5
      generalize w3.heap.size = G at g5 hg5 ⊢
      clear y5
      have c0 : W5.cell? ⟨w.heap.size, 0, none⟩ = some (.int .i64 2) := by rw [← HK.out]; exact cell_of_heap (HX.out _ x5).1 rfl
      have c7 : W5.cell? ⟨w.heap.size + 1, 7, none⟩ = some (.slice U.a1 T.nb U.d1) := cell_of_heap (HX.out _ x5).2 rfl
      go_wp2_with fail
      refine (KPk.out _ (e0.trans x5)).mono ?_; rintro e w6 ⟨pb, pq, rfl, -, -, hp, x6⟩
      have g6 := Ext.cell x6 hg5 g5
      have x6' := x5.trans x6
      clear c0 c7
      have hwl : IntKind.u8.wrap ((szN T.nb : Nat) : Int) = ((szN T.nb : Nat) : Int) := w8 (by omega)
      have hlit := Ext.alloc w6 (.cells #[.int .u8 ((szN T.nb : Nat) : Int)] 5)
      have hlc : HoldsG (Value.int .u8) (w6.alloc (.cells #[.int .u8 ((szN T.nb : Nat) : Int)] 5)) (some ⟨w6.heap.size, 0, none⟩) 1 (fun _ => ((szN T.nb : Nat) : Int)) := one_held (cell_of_heap (heap_alloc_new w6 _) rfl)
      have g7 := Ext.cell hlit (World.block_lt_of_cell? _ _ g6) g6
      have hSL := tsay_bits HCD.out (by rw [HTk.out]; decide)
      have hn1 : tsayN T = 1 + 1 + szN T.nb := by rw [HSN.out, HTk.out]; simp (config := { decide := true }) only [if_true, if_false] <;> omega
      have HP := Lib.hid hp
      obtain ⟨L, hL⟩ : ∃ L, L = szN T.nb := ⟨_, rfl⟩
      have hSL : [Value.int .u8 T.k] ++ lstG (Value.int .u8) (fun _ => (L : Int)) 1 ++ lstG (Value.int .u8) (pkF T.B T.nb) L = lstG (Value.int .u8) (tsayF T) (tsayN T) := by
        rw [hn1, ← hSL, hL]
        try rfl
      have hLb : L ≤ 250 := by rw [hL]; omega
      rw [← hL] at hwl hlit hlc g7 HP hn1 ⊢
      have HSL := Lib.hid (And.intro hSL hn1)
      clear hSL hn1 hL hp
      go_upto_region 10 with fail
      go_wp2_with (first
        | (at_builtin; refine wpList_append_lit (mk := Value.int .u8) rfl (.tmp 36) (.tmp 40) 48 rfl 5 i8 (.int .u8 0) 1 Tryz.underlying48 hi8 hz80 hz81 hz82 rfl G _ rfl g7 (some ⟨w6.heap.size, 0, none⟩) 1 1 (fun _ => (L : Int)) rfl hlc (by omega) (fun _ => rfl) (by unfold maxLen; omega) (by omega) ?_; intro v9 w9 hown9 x9)
        | (at_builtin; refine wpList_append_holds (mk := Value.int .u8) rfl (.tmp 41) (.tmp 42) 48 rfl (w6.alloc (.cells #[.int .u8 (L : Int)] 5)).heap.size 5 i8 (.int .u8 0) 1 Tryz.underlying48 hi8 hz80 hz81 hz82 rfl _ (1 + 1) _ rfl hown9 pb L pq (pkF T.B T.nb) rfl (HP.out.ext (hlit.trans x9)) (fun _ => rfl) (by unfold maxLen; omega) (by omega) x9.size ?_; intro vA wA hownA _ hbA))
      rw [HSL.out.1] at hownA
      rw [← HSL.out.2] at hownA
      obtain ⟨b8, d8, rfl, l8, m8, h8⟩ := HoldsG.of_own (mk := Value.int .u8) hownA
      go_ret2
      exact ⟨b8, d8, by rfl, l8, m8, h8, e0.trans (x6'.trans (Below.trans (hlit.trans x9) (Below.mono hbA (hlit.size))))⟩
    · have HK := Lib.hid hk
      have hwk : IntKind.u8.wrap 3 = 3 := by decide
      have hTk : T.k = 3 := HTK.out.trans hk
      have HTk := Lib.hid hTk
      clear hk hTk
      go_enter Tryz.func49, Tryz.ntmps49
      go_upto_region 1 with fail
      rw [← hW2]
      clear hW2
      obtain ⟨b1, b2⟩ := HX.out _ (Ext.refl W2)
      go_wp2_with (first
        | (refine wpList_load_row rfl 31 (.tmp 2) rfl w.heap.size rfl 31 _ (0, 0) _ b1 Tryz.underlying31 rfl (by kernel_rfl) ?_)
        | (refine wpList_load_row rfl 37 (.tmp 3) rfl (w.heap.size + 1) rfl 37 _ (0, 0) _ b2 Tryz.underlying37 rfl (by kernel_rfl) ?_))
      refine (KR.out _ e0).mono ?_; rintro e w3 ⟨rfl, x3⟩
      have c1 : w3.cell? ⟨w.heap.size + 1, 1, none⟩ = some (.int .i64 T.cd) := cell_of_heap (HX.out _ x3).2 rfl
      have c0 : w3.cell? ⟨w.heap.size, 0, none⟩ = some (.int .i64 3) := by rw [← HK.out]; exact cell_of_heap (HX.out _ x3).1 rfl
      clear b1 b2 KR
      obtain ⟨W5, hW5, x5, y5, g5⟩ : ∃ W, W = w3.alloc (.cells #[.int .u8 3] 5) ∧ Ext W2 W ∧ Ext w3 W ∧ W.cell? ⟨w3.heap.size, 0, none⟩ = some (.int .u8 T.k) :=
        ⟨_, rfl, x3.trans (Ext.alloc _ _), Ext.alloc _ _, by rw [HTk.out]; exact cell_of_heap (heap_alloc_new w3 _) rfl⟩
      go_upto_region 6 with fail
      rw [← hW5]
      clear hW5 c0 c1
      have hg5 : w3.heap.size < W5.heap.size := World.block_lt_of_cell? _ _ g5
      generalize w3.heap.size = G at g5 hg5 ⊢
      clear y5
      have c0 : W5.cell? ⟨w.heap.size, 0, none⟩ = some (.int .i64 3) := by rw [← HK.out]; exact cell_of_heap (HX.out _ x5).1 rfl
      have c7 : W5.cell? ⟨w.heap.size + 1, 8, none⟩ = some (.slice U.a2 T.nr U.d2) := cell_of_heap (HX.out _ x5).2 rfl
      go_wp2_with fail
      refine (KWp.out _ (e0.trans x5)).mono ?_; rintro e w6 ⟨pb, pq, rfl, hp, x6⟩
      have g6 := Ext.cell x6 hg5 g5
      have x6' := x5.trans x6
      clear c0 c7
      have hwl : IntKind.u8.wrap ((2 * T.nr : Nat) : Int) = ((2 * T.nr : Nat) : Int) := w8 (by omega)
      have hlit := Ext.alloc w6 (.cells #[.int .u8 ((2 * T.nr : Nat) : Int)] 5)
      have hlc : HoldsG (Value.int .u8) (w6.alloc (.cells #[.int .u8 ((2 * T.nr : Nat) : Int)] 5)) (some ⟨w6.heap.size, 0, none⟩) 1 (fun _ => ((2 * T.nr : Nat) : Int)) := one_held (cell_of_heap (heap_alloc_new w6 _) rfl)
      have g7 := Ext.cell hlit (World.block_lt_of_cell? _ _ g6) g6
      have hSL := tsay_words HCD.out (by rw [HTk.out]; decide) (by rw [HTk.out]; decide)
      have hn1 : tsayN T = 1 + 1 + 2 * T.nr := by rw [HSN.out, HTk.out]; simp (config := { decide := true }) only [if_true, if_false] <;> omega
      have HP := Lib.hid hp
      obtain ⟨L, hL⟩ : ∃ L, L = 2 * T.nr := ⟨_, rfl⟩
      have hSL : [Value.int .u8 T.k] ++ lstG (Value.int .u8) (fun _ => (L : Int)) 1 ++ lstG (Value.int .u8) (putF T.R) L = lstG (Value.int .u8) (tsayF T) (tsayN T) := by
        rw [hn1, ← hSL, hL]
        try rfl
      have hLb : L ≤ 250 := by rw [hL]; omega
      rw [← hL] at hwl hlit hlc g7 HP hn1 ⊢
      have HSL := Lib.hid (And.intro hSL hn1)
      clear hSL hn1 hL hp
      go_upto_region 15 with fail
      go_wp2_with (first
        | (at_builtin; refine wpList_append_lit (mk := Value.int .u8) rfl (.tmp 51) (.tmp 55) 48 rfl 5 i8 (.int .u8 0) 1 Tryz.underlying48 hi8 hz80 hz81 hz82 rfl G _ rfl g7 (some ⟨w6.heap.size, 0, none⟩) 1 1 (fun _ => (L : Int)) rfl hlc (by omega) (fun _ => rfl) (by unfold maxLen; omega) (by omega) ?_; intro v9 w9 hown9 x9)
        | (at_builtin; refine wpList_append_holds (mk := Value.int .u8) rfl (.tmp 56) (.tmp 57) 48 rfl (w6.alloc (.cells #[.int .u8 (L : Int)] 5)).heap.size 5 i8 (.int .u8 0) 1 Tryz.underlying48 hi8 hz80 hz81 hz82 rfl _ (1 + 1) _ rfl hown9 pb L pq (putF T.R) rfl (HP.out.ext (hlit.trans x9)) (fun _ => rfl) (by unfold maxLen; omega) (by omega) x9.size ?_; intro vA wA hownA _ hbA))
      rw [HSL.out.1] at hownA
      rw [← HSL.out.2] at hownA
      obtain ⟨b8, d8, rfl, l8, m8, h8⟩ := HoldsG.of_own (mk := Value.int .u8) hownA
      go_ret2
      exact ⟨b8, d8, by rfl, l8, m8, h8, e0.trans (x6'.trans (Below.trans (hlit.trans x9) (Below.mono hbA (hlit.size))))⟩
    · have HK := Lib.hid hk
      have hwk : IntKind.u8.wrap 4 = 4 := by decide
      have hTk : T.k = 4 := HTK.out.trans hk
      have HTk := Lib.hid hTk
      clear hk hTk
      go_enter Tryz.func49, Tryz.ntmps49
      go_upto_region 1 with fail
      rw [← hW2]
      clear hW2
      obtain ⟨b1, b2⟩ := HX.out _ (Ext.refl W2)
      go_wp2_with (first
        | (refine wpList_load_row rfl 31 (.tmp 2) rfl w.heap.size rfl 31 _ (0, 0) _ b1 Tryz.underlying31 rfl (by kernel_rfl) ?_)
        | (refine wpList_load_row rfl 37 (.tmp 3) rfl (w.heap.size + 1) rfl 37 _ (0, 0) _ b2 Tryz.underlying37 rfl (by kernel_rfl) ?_))
      refine (KR.out _ e0).mono ?_; rintro e w3 ⟨rfl, x3⟩
      have c1 : w3.cell? ⟨w.heap.size + 1, 1, none⟩ = some (.int .i64 T.cd) := cell_of_heap (HX.out _ x3).2 rfl
      have c0 : w3.cell? ⟨w.heap.size, 0, none⟩ = some (.int .i64 4) := by rw [← HK.out]; exact cell_of_heap (HX.out _ x3).1 rfl
      clear b1 b2 KR
      obtain ⟨W5, hW5, x5, y5, g5⟩ : ∃ W, W = w3.alloc (.cells #[.int .u8 4] 5) ∧ Ext W2 W ∧ Ext w3 W ∧ W.cell? ⟨w3.heap.size, 0, none⟩ = some (.int .u8 T.k) :=
        ⟨_, rfl, x3.trans (Ext.alloc _ _), Ext.alloc _ _, by rw [HTk.out]; exact cell_of_heap (heap_alloc_new w3 _) rfl⟩
      go_upto_region 6 with fail
      rw [← hW5]
      clear hW5 c0 c1
      have hg5 : w3.heap.size < W5.heap.size := World.block_lt_of_cell? _ _ g5
      generalize w3.heap.size = G at g5 hg5 ⊢
      clear y5
      have c0 : W5.cell? ⟨w.heap.size, 0, none⟩ = some (.int .i64 4) := by rw [← HK.out]; exact cell_of_heap (HX.out _ x5).1 rfl
      have c7 : W5.cell? ⟨w.heap.size + 1, 8, none⟩ = some (.slice U.a2 T.nr U.d2) := cell_of_heap (HX.out _ x5).2 rfl
      go_wp2_with fail
      refine (KWp.out _ (e0.trans x5)).mono ?_; rintro e w6 ⟨pb, pq, rfl, hp, x6⟩
      have g6 := Ext.cell x6 hg5 g5
      have x6' := x5.trans x6
      clear c0 c7
      have hwl : IntKind.u8.wrap ((2 * T.nr : Nat) : Int) = ((2 * T.nr : Nat) : Int) := w8 (by omega)
      have hlit := Ext.alloc w6 (.cells #[.int .u8 ((2 * T.nr : Nat) : Int)] 5)
      have hlc : HoldsG (Value.int .u8) (w6.alloc (.cells #[.int .u8 ((2 * T.nr : Nat) : Int)] 5)) (some ⟨w6.heap.size, 0, none⟩) 1 (fun _ => ((2 * T.nr : Nat) : Int)) := one_held (cell_of_heap (heap_alloc_new w6 _) rfl)
      have g7 := Ext.cell hlit (World.block_lt_of_cell? _ _ g6) g6
      have hSL := tsay_words HCD.out (by rw [HTk.out]; decide) (by rw [HTk.out]; decide)
      have hn1 : tsayN T = 1 + 1 + 2 * T.nr := by rw [HSN.out, HTk.out]; simp (config := { decide := true }) only [if_true, if_false] <;> omega
      have HP := Lib.hid hp
      obtain ⟨L, hL⟩ : ∃ L, L = 2 * T.nr := ⟨_, rfl⟩
      have hSL : [Value.int .u8 T.k] ++ lstG (Value.int .u8) (fun _ => (L : Int)) 1 ++ lstG (Value.int .u8) (putF T.R) L = lstG (Value.int .u8) (tsayF T) (tsayN T) := by
        rw [hn1, ← hSL, hL]
        try rfl
      have hLb : L ≤ 250 := by rw [hL]; omega
      rw [← hL] at hwl hlit hlc g7 HP hn1 ⊢
      have HSL := Lib.hid (And.intro hSL hn1)
      clear hSL hn1 hL hp
      go_upto_region 15 with fail
      go_wp2_with (first
        | (at_builtin; refine wpList_append_lit (mk := Value.int .u8) rfl (.tmp 51) (.tmp 55) 48 rfl 5 i8 (.int .u8 0) 1 Tryz.underlying48 hi8 hz80 hz81 hz82 rfl G _ rfl g7 (some ⟨w6.heap.size, 0, none⟩) 1 1 (fun _ => (L : Int)) rfl hlc (by omega) (fun _ => rfl) (by unfold maxLen; omega) (by omega) ?_; intro v9 w9 hown9 x9)
        | (at_builtin; refine wpList_append_holds (mk := Value.int .u8) rfl (.tmp 56) (.tmp 57) 48 rfl (w6.alloc (.cells #[.int .u8 (L : Int)] 5)).heap.size 5 i8 (.int .u8 0) 1 Tryz.underlying48 hi8 hz80 hz81 hz82 rfl _ (1 + 1) _ rfl hown9 pb L pq (putF T.R) rfl (HP.out.ext (hlit.trans x9)) (fun _ => rfl) (by unfold maxLen; omega) (by omega) x9.size ?_; intro vA wA hownA _ hbA))
      rw [HSL.out.1] at hownA
      rw [← HSL.out.2] at hownA
      obtain ⟨b8, d8, rfl, l8, m8, h8⟩ := HoldsG.of_own (mk := Value.int .u8) hownA
      go_ret2
      exact ⟨b8, d8, by rfl, l8, m8, h8, e0.trans (x6'.trans (Below.trans (hlit.trans x9) (Below.mono hbA (hlit.size))))⟩
    · have HK := Lib.hid hk
      have hwk : IntKind.u8.wrap 5 = 5 := by decide
      have hTk : T.k = 5 := HTK.out.trans hk
      have HTk := Lib.hid hTk
      clear hk hTk
      go_enter Tryz.func49, Tryz.ntmps49
      go_upto_region 1 with fail
      rw [← hW2]
      clear hW2
      obtain ⟨b1, b2⟩ := HX.out _ (Ext.refl W2)
      go_wp2_with (first
        | (refine wpList_load_row rfl 31 (.tmp 2) rfl w.heap.size rfl 31 _ (0, 0) _ b1 Tryz.underlying31 rfl (by kernel_rfl) ?_)
        | (refine wpList_load_row rfl 37 (.tmp 3) rfl (w.heap.size + 1) rfl 37 _ (0, 0) _ b2 Tryz.underlying37 rfl (by kernel_rfl) ?_))
      refine (KR.out _ e0).mono ?_; rintro e w3 ⟨rfl, x3⟩
      have c1 : w3.cell? ⟨w.heap.size + 1, 1, none⟩ = some (.int .i64 T.cd) := cell_of_heap (HX.out _ x3).2 rfl
      have c0 : w3.cell? ⟨w.heap.size, 0, none⟩ = some (.int .i64 5) := by rw [← HK.out]; exact cell_of_heap (HX.out _ x3).1 rfl
      clear b1 b2 KR
      obtain ⟨W5, hW5, x5, y5, g5⟩ : ∃ W, W = w3.alloc (.cells #[.int .u8 5] 5) ∧ Ext W2 W ∧ Ext w3 W ∧ W.cell? ⟨w3.heap.size, 0, none⟩ = some (.int .u8 T.k) :=
        ⟨_, rfl, x3.trans (Ext.alloc _ _), Ext.alloc _ _, by rw [HTk.out]; exact cell_of_heap (heap_alloc_new w3 _) rfl⟩
      go_upto_region 6 with fail
      rw [← hW5]
      clear hW5 c0 c1
      have hg5 : w3.heap.size < W5.heap.size := World.block_lt_of_cell? _ _ g5
      generalize w3.heap.size = G at g5 hg5 ⊢
      clear y5
      have c0 : W5.cell? ⟨w.heap.size, 0, none⟩ = some (.int .i64 5) := by rw [← HK.out]; exact cell_of_heap (HX.out _ x5).1 rfl
      have c2 : W5.cell? ⟨w.heap.size + 1, 2, none⟩ = some (.int .i64 T.ad) := cell_of_heap (HX.out _ x5).2 rfl
      have c4 : W5.cell? ⟨w.heap.size + 1, 4, none⟩ = some (.int .i64 T.va) := cell_of_heap (HX.out _ x5).2 rfl
      have hnf : ∀ i, i < 2 → 0 ≤ tnumF T i ∧ tnumF T i < 65536 := fun i _ => HNB.out i
      have hv0 : tnumF T 0 = T.ad := by unfold tnumF; rw [HTk.out]; rfl
      have hv1 : tnumF T 1 = T.va := by unfold tnumF; rw [HTk.out]; rfl
      have hw0 : IntKind.u16.wrap T.ad = T.ad := w16 (by have := hnf 0 (by omega); rw [hv0] at this; omega)
      have hw1 : IntKind.u16.wrap T.va = T.va := w16 (by have := hnf 1 (by omega); rw [hv1] at this; omega)
      have hlit := Ext.alloc W5 (.cells #[.int .u16 T.ad, .int .u16 T.va] 59)
      have hl : HoldsG (Value.int .u16) (W5.alloc (.cells #[.int .u16 T.ad, .int .u16 T.va] 59)) (some ⟨W5.heap.size, 0, none⟩) 2 (tnumF T) := two_words W5 _ _ (tnumF T) hv0 hv1
      have g6 := Ext.cell hlit hg5 g5
      have hSL := tsay_nums HCD.out (by rw [HTk.out]; decide) (by rw [HTk.out]; decide) 2
      have hn1 : tsayN T = 1 + 2 * 2 := by rw [HSN.out, HTk.out]; rfl
      have HSL := Lib.hid (And.intro hSL hn1)
      clear hSL hn1 hv0 hv1
      go_wp2_with fail
      refine (rput_any (some ⟨W5.heap.size, 0, none⟩) 2 2 (tnumF T) _ hl (by omega) hnf).mono ?_; rintro e w6 ⟨pb, pq, rfl, hp, x6⟩
      have g7 := Ext.cell x6 (World.block_lt_of_cell? _ _ g6) g6
      go_wp2_with (first
        | (at_builtin; refine wpList_append_lit (mk := Value.int .u8) rfl (.tmp 62) (.tmp 70) 48 rfl 5 i8 (.int .u8 0) 1 Tryz.underlying48 hi8 hz80 hz81 hz82 rfl G _ rfl g7 pb (2 * 2) pq (putF (tnumF T)) rfl hp (by omega) (fun _ => rfl) (by unfold maxLen; omega) (by omega) ?_; intro vA wA hownA xA))
      rw [HSL.out.1, ← HSL.out.2] at hownA
      obtain ⟨b8, d8, rfl, l8, m8, h8⟩ := HoldsG.of_own (mk := Value.int .u8) hownA
      go_ret2
      exact ⟨b8, d8, by rfl, l8, m8, h8, e0.trans (((x5.trans hlit).trans x6).trans xA)⟩
    · have HK := Lib.hid hk
      have hwk : IntKind.u8.wrap 6 = 6 := by decide
      have hTk : T.k = 6 := HTK.out.trans hk
      have HTk := Lib.hid hTk
      clear hk hTk
      go_enter Tryz.func49, Tryz.ntmps49
      go_upto_region 1 with fail
      rw [← hW2]
      clear hW2
      obtain ⟨b1, b2⟩ := HX.out _ (Ext.refl W2)
      go_wp2_with (first
        | (refine wpList_load_row rfl 31 (.tmp 2) rfl w.heap.size rfl 31 _ (0, 0) _ b1 Tryz.underlying31 rfl (by kernel_rfl) ?_)
        | (refine wpList_load_row rfl 37 (.tmp 3) rfl (w.heap.size + 1) rfl 37 _ (0, 0) _ b2 Tryz.underlying37 rfl (by kernel_rfl) ?_))
      refine (KR.out _ e0).mono ?_; rintro e w3 ⟨rfl, x3⟩
      have c1 : w3.cell? ⟨w.heap.size + 1, 1, none⟩ = some (.int .i64 T.cd) := cell_of_heap (HX.out _ x3).2 rfl
      have c0 : w3.cell? ⟨w.heap.size, 0, none⟩ = some (.int .i64 6) := by rw [← HK.out]; exact cell_of_heap (HX.out _ x3).1 rfl
      clear b1 b2 KR
      obtain ⟨W5, hW5, x5, y5, g5⟩ : ∃ W, W = w3.alloc (.cells #[.int .u8 6] 5) ∧ Ext W2 W ∧ Ext w3 W ∧ W.cell? ⟨w3.heap.size, 0, none⟩ = some (.int .u8 T.k) :=
        ⟨_, rfl, x3.trans (Ext.alloc _ _), Ext.alloc _ _, by rw [HTk.out]; exact cell_of_heap (heap_alloc_new w3 _) rfl⟩
      go_upto_region 6 with fail
      rw [← hW5]
      clear hW5 c0 c1
      have hg5 : w3.heap.size < W5.heap.size := World.block_lt_of_cell? _ _ g5
      generalize w3.heap.size = G at g5 hg5 ⊢
      clear y5
      have c0 : W5.cell? ⟨w.heap.size, 0, none⟩ = some (.int .i64 6) := by rw [← HK.out]; exact cell_of_heap (HX.out _ x5).1 rfl
      have c2 : W5.cell? ⟨w.heap.size + 1, 2, none⟩ = some (.int .i64 T.ad) := cell_of_heap (HX.out _ x5).2 rfl
      have c4 : W5.cell? ⟨w.heap.size + 1, 4, none⟩ = some (.int .i64 T.va) := cell_of_heap (HX.out _ x5).2 rfl
      have hnf : ∀ i, i < 2 → 0 ≤ tnumF T i ∧ tnumF T i < 65536 := fun i _ => HNB.out i
      have hv0 : tnumF T 0 = T.ad := by unfold tnumF; rw [HTk.out]; rfl
      have hv1 : tnumF T 1 = T.va := by unfold tnumF; rw [HTk.out]; rfl
      have hw0 : IntKind.u16.wrap T.ad = T.ad := w16 (by have := hnf 0 (by omega); rw [hv0] at this; omega)
      have hw1 : IntKind.u16.wrap T.va = T.va := w16 (by have := hnf 1 (by omega); rw [hv1] at this; omega)
      have hlit := Ext.alloc W5 (.cells #[.int .u16 T.ad, .int .u16 T.va] 59)
      have hl : HoldsG (Value.int .u16) (W5.alloc (.cells #[.int .u16 T.ad, .int .u16 T.va] 59)) (some ⟨W5.heap.size, 0, none⟩) 2 (tnumF T) := two_words W5 _ _ (tnumF T) hv0 hv1
      have g6 := Ext.cell hlit hg5 g5
      have hSL := tsay_nums HCD.out (by rw [HTk.out]; decide) (by rw [HTk.out]; decide) 2
      have hn1 : tsayN T = 1 + 2 * 2 := by rw [HSN.out, HTk.out]; rfl
      have HSL := Lib.hid (And.intro hSL hn1)
      clear hSL hn1 hv0 hv1
      go_wp2_with fail
      refine (rput_any (some ⟨W5.heap.size, 0, none⟩) 2 2 (tnumF T) _ hl (by omega) hnf).mono ?_; rintro e w6 ⟨pb, pq, rfl, hp, x6⟩
      have g7 := Ext.cell x6 (World.block_lt_of_cell? _ _ g6) g6
      go_wp2_with (first
        | (at_builtin; refine wpList_append_lit (mk := Value.int .u8) rfl (.tmp 62) (.tmp 70) 48 rfl 5 i8 (.int .u8 0) 1 Tryz.underlying48 hi8 hz80 hz81 hz82 rfl G _ rfl g7 pb (2 * 2) pq (putF (tnumF T)) rfl hp (by omega) (fun _ => rfl) (by unfold maxLen; omega) (by omega) ?_; intro vA wA hownA xA))
      rw [HSL.out.1, ← HSL.out.2] at hownA
      obtain ⟨b8, d8, rfl, l8, m8, h8⟩ := HoldsG.of_own (mk := Value.int .u8) hownA
      go_ret2
      exact ⟨b8, d8, by rfl, l8, m8, h8, e0.trans (((x5.trans hlit).trans x6).trans xA)⟩
    · have HK := Lib.hid hk
      have hwk : IntKind.u8.wrap 15 = 15 := by decide
      have hTk : T.k = 15 := HTK.out.trans hk
      have HTk := Lib.hid hTk
      clear hk hTk
      go_enter Tryz.func49, Tryz.ntmps49
      go_upto_region 1 with fail
      rw [← hW2]
      clear hW2
      obtain ⟨b1, b2⟩ := HX.out _ (Ext.refl W2)
      go_wp2_with (first
        | (refine wpList_load_row rfl 31 (.tmp 2) rfl w.heap.size rfl 31 _ (0, 0) _ b1 Tryz.underlying31 rfl (by kernel_rfl) ?_)
        | (refine wpList_load_row rfl 37 (.tmp 3) rfl (w.heap.size + 1) rfl 37 _ (0, 0) _ b2 Tryz.underlying37 rfl (by kernel_rfl) ?_))
      refine (KR.out _ e0).mono ?_; rintro e w3 ⟨rfl, x3⟩
      have c1 : w3.cell? ⟨w.heap.size + 1, 1, none⟩ = some (.int .i64 T.cd) := cell_of_heap (HX.out _ x3).2 rfl
      have c0 : w3.cell? ⟨w.heap.size, 0, none⟩ = some (.int .i64 15) := by rw [← HK.out]; exact cell_of_heap (HX.out _ x3).1 rfl
      clear b1 b2 KR
      obtain ⟨W5, hW5, x5, y5, g5⟩ : ∃ W, W = w3.alloc (.cells #[.int .u8 15] 5) ∧ Ext W2 W ∧ Ext w3 W ∧ W.cell? ⟨w3.heap.size, 0, none⟩ = some (.int .u8 T.k) :=
        ⟨_, rfl, x3.trans (Ext.alloc _ _), Ext.alloc _ _, by rw [HTk.out]; exact cell_of_heap (heap_alloc_new w3 _) rfl⟩
      go_upto_region 6 with fail
      rw [← hW5]
      clear hW5 c0 c1
      have hg5 : w3.heap.size < W5.heap.size := World.block_lt_of_cell? _ _ g5
      generalize w3.heap.size = G at g5 hg5 ⊢
      clear y5
      have c0 : W5.cell? ⟨w.heap.size, 0, none⟩ = some (.int .i64 15) := by rw [← HK.out]; exact cell_of_heap (HX.out _ x5).1 rfl
      have c2 : W5.cell? ⟨w.heap.size + 1, 2, none⟩ = some (.int .i64 T.ad) := cell_of_heap (HX.out _ x5).2 rfl
      have c3 : W5.cell? ⟨w.heap.size + 1, 3, none⟩ = some (.int .i64 T.ct) := cell_of_heap (HX.out _ x5).2 rfl
      have hnf : ∀ i, i < 2 → 0 ≤ tnumF T i ∧ tnumF T i < 65536 := fun i _ => HNB.out i
      have hv0 : tnumF T 0 = T.ad := by unfold tnumF; rw [HTk.out]; rfl
      have hv1 : tnumF T 1 = T.ct := by unfold tnumF; rw [HTk.out]; rfl
      have hw0 : IntKind.u16.wrap T.ad = T.ad := w16 (by have := hnf 0 (by omega); rw [hv0] at this; omega)
      have hw1 : IntKind.u16.wrap T.ct = T.ct := w16 (by have := hnf 1 (by omega); rw [hv1] at this; omega)
      have hlit := Ext.alloc W5 (.cells #[.int .u16 T.ad, .int .u16 T.ct] 59)
      have hl : HoldsG (Value.int .u16) (W5.alloc (.cells #[.int .u16 T.ad, .int .u16 T.ct] 59)) (some ⟨W5.heap.size, 0, none⟩) 2 (tnumF T) := two_words W5 _ _ (tnumF T) hv0 hv1
      have g6 := Ext.cell hlit hg5 g5
      have hSL := tsay_nums HCD.out (by rw [HTk.out]; decide) (by rw [HTk.out]; decide) 2
      have hn1 : tsayN T = 1 + 2 * 2 := by rw [HSN.out, HTk.out]; rfl
      have HSL := Lib.hid (And.intro hSL hn1)
      clear hSL hn1 hv0 hv1
      go_wp2_with fail
      refine (rput_any (some ⟨W5.heap.size, 0, none⟩) 2 2 (tnumF T) _ hl (by omega) hnf).mono ?_; rintro e w6 ⟨pb, pq, rfl, hp, x6⟩
      have g7 := Ext.cell x6 (World.block_lt_of_cell? _ _ g6) g6
      go_wp2_with (first
        | (at_builtin; refine wpList_append_lit (mk := Value.int .u8) rfl (.tmp 75) (.tmp 83) 48 rfl 5 i8 (.int .u8 0) 1 Tryz.underlying48 hi8 hz80 hz81 hz82 rfl G _ rfl g7 pb (2 * 2) pq (putF (tnumF T)) rfl hp (by omega) (fun _ => rfl) (by unfold maxLen; omega) (by omega) ?_; intro vA wA hownA xA))
      rw [HSL.out.1, ← HSL.out.2] at hownA
      obtain ⟨b8, d8, rfl, l8, m8, h8⟩ := HoldsG.of_own (mk := Value.int .u8) hownA
      go_ret2
      exact ⟨b8, d8, by rfl, l8, m8, h8, e0.trans (((x5.trans hlit).trans x6).trans xA)⟩
    · have HK := Lib.hid hk
      have hwk : IntKind.u8.wrap 16 = 16 := by decide
      have hTk : T.k = 16 := HTK.out.trans hk
      have HTk := Lib.hid hTk
      clear hk hTk
      go_enter Tryz.func49, Tryz.ntmps49
      go_upto_region 1 with fail
      rw [← hW2]
      clear hW2
      obtain ⟨b1, b2⟩ := HX.out _ (Ext.refl W2)
      go_wp2_with (first
        | (refine wpList_load_row rfl 31 (.tmp 2) rfl w.heap.size rfl 31 _ (0, 0) _ b1 Tryz.underlying31 rfl (by kernel_rfl) ?_)
        | (refine wpList_load_row rfl 37 (.tmp 3) rfl (w.heap.size + 1) rfl 37 _ (0, 0) _ b2 Tryz.underlying37 rfl (by kernel_rfl) ?_))
      refine (KR.out _ e0).mono ?_; rintro e w3 ⟨rfl, x3⟩
      have c1 : w3.cell? ⟨w.heap.size + 1, 1, none⟩ = some (.int .i64 T.cd) := cell_of_heap (HX.out _ x3).2 rfl
      have c0 : w3.cell? ⟨w.heap.size, 0, none⟩ = some (.int .i64 16) := by rw [← HK.out]; exact cell_of_heap (HX.out _ x3).1 rfl
      clear b1 b2 KR
      obtain ⟨W5, hW5, x5, y5, g5⟩ : ∃ W, W = w3.alloc (.cells #[.int .u8 16] 5) ∧ Ext W2 W ∧ Ext w3 W ∧ W.cell? ⟨w3.heap.size, 0, none⟩ = some (.int .u8 T.k) :=
        ⟨_, rfl, x3.trans (Ext.alloc _ _), Ext.alloc _ _, by rw [HTk.out]; exact cell_of_heap (heap_alloc_new w3 _) rfl⟩
      go_upto_region 6 with fail
      rw [← hW5]
      clear hW5 c0 c1
      have hg5 : w3.heap.size < W5.heap.size := World.block_lt_of_cell? _ _ g5
      generalize w3.heap.size = G at g5 hg5 ⊢
      clear y5
      have c0 : W5.cell? ⟨w.heap.size, 0, none⟩ = some (.int .i64 16) := by rw [← HK.out]; exact cell_of_heap (HX.out _ x5).1 rfl
      have c2 : W5.cell? ⟨w.heap.size + 1, 2, none⟩ = some (.int .i64 T.ad) := cell_of_heap (HX.out _ x5).2 rfl
      have c3 : W5.cell? ⟨w.heap.size + 1, 3, none⟩ = some (.int .i64 T.ct) := cell_of_heap (HX.out _ x5).2 rfl
      have hnf : ∀ i, i < 2 → 0 ≤ tnumF T i ∧ tnumF T i < 65536 := fun i _ => HNB.out i
      have hv0 : tnumF T 0 = T.ad := by unfold tnumF; rw [HTk.out]; rfl
      have hv1 : tnumF T 1 = T.ct := by unfold tnumF; rw [HTk.out]; rfl
      have hw0 : IntKind.u16.wrap T.ad = T.ad := w16 (by have := hnf 0 (by omega); rw [hv0] at this; omega)
      have hw1 : IntKind.u16.wrap T.ct = T.ct := w16 (by have := hnf 1 (by omega); rw [hv1] at this; omega)
      have hlit := Ext.alloc W5 (.cells #[.int .u16 T.ad, .int .u16 T.ct] 59)
      have hl : HoldsG (Value.int .u16) (W5.alloc (.cells #[.int .u16 T.ad, .int .u16 T.ct] 59)) (some ⟨W5.heap.size, 0, none⟩) 2 (tnumF T) := two_words W5 _ _ (tnumF T) hv0 hv1
      have g6 := Ext.cell hlit hg5 g5
      have hSL := tsay_nums HCD.out (by rw [HTk.out]; decide) (by rw [HTk.out]; decide) 2
      have hn1 : tsayN T = 1 + 2 * 2 := by rw [HSN.out, HTk.out]; rfl
      have HSL := Lib.hid (And.intro hSL hn1)
      clear hSL hn1 hv0 hv1
      go_wp2_with fail
      refine (rput_any (some ⟨W5.heap.size, 0, none⟩) 2 2 (tnumF T) _ hl (by omega) hnf).mono ?_; rintro e w6 ⟨pb, pq, rfl, hp, x6⟩
      have g7 := Ext.cell x6 (World.block_lt_of_cell? _ _ g6) g6
      go_wp2_with (first
        | (at_builtin; refine wpList_append_lit (mk := Value.int .u8) rfl (.tmp 75) (.tmp 83) 48 rfl 5 i8 (.int .u8 0) 1 Tryz.underlying48 hi8 hz80 hz81 hz82 rfl G _ rfl g7 pb (2 * 2) pq (putF (tnumF T)) rfl hp (by omega) (fun _ => rfl) (by unfold maxLen; omega) (by omega) ?_; intro vA wA hownA xA))
      rw [HSL.out.1, ← HSL.out.2] at hownA
      obtain ⟨b8, d8, rfl, l8, m8, h8⟩ := HoldsG.of_own (mk := Value.int .u8) hownA
      go_ret2
      exact ⟨b8, d8, by rfl, l8, m8, h8, e0.trans (((x5.trans hlit).trans x6).trans xA)⟩
    · have HK := Lib.hid hk
      have hwk : IntKind.u8.wrap 22 = 22 := by decide
      have hTk : T.k = 22 := HTK.out.trans hk
      have HTk := Lib.hid hTk
      clear hk hTk
      go_enter Tryz.func49, Tryz.ntmps49
      go_upto_region 1 with fail
      rw [← hW2]
      clear hW2
      obtain ⟨b1, b2⟩ := HX.out _ (Ext.refl W2)
      go_wp2_with (first
        | (refine wpList_load_row rfl 31 (.tmp 2) rfl w.heap.size rfl 31 _ (0, 0) _ b1 Tryz.underlying31 rfl (by kernel_rfl) ?_)
        | (refine wpList_load_row rfl 37 (.tmp 3) rfl (w.heap.size + 1) rfl 37 _ (0, 0) _ b2 Tryz.underlying37 rfl (by kernel_rfl) ?_))
      refine (KR.out _ e0).mono ?_; rintro e w3 ⟨rfl, x3⟩
      have c1 : w3.cell? ⟨w.heap.size + 1, 1, none⟩ = some (.int .i64 T.cd) := cell_of_heap (HX.out _ x3).2 rfl
      have c0 : w3.cell? ⟨w.heap.size, 0, none⟩ = some (.int .i64 22) := by rw [← HK.out]; exact cell_of_heap (HX.out _ x3).1 rfl
      clear b1 b2 KR
      obtain ⟨W5, hW5, x5, y5, g5⟩ : ∃ W, W = w3.alloc (.cells #[.int .u8 22] 5) ∧ Ext W2 W ∧ Ext w3 W ∧ W.cell? ⟨w3.heap.size, 0, none⟩ = some (.int .u8 T.k) :=
        ⟨_, rfl, x3.trans (Ext.alloc _ _), Ext.alloc _ _, by rw [HTk.out]; exact cell_of_heap (heap_alloc_new w3 _) rfl⟩
      go_upto_region 6 with fail
      rw [← hW5]
      clear hW5 c0 c1
      have hg5 : w3.heap.size < W5.heap.size := World.block_lt_of_cell? _ _ g5
      generalize w3.heap.size = G at g5 hg5 ⊢
      clear y5
      have c0 : W5.cell? ⟨w.heap.size, 0, none⟩ = some (.int .i64 22) := by rw [← HK.out]; exact cell_of_heap (HX.out _ x5).1 rfl
      have c2 : W5.cell? ⟨w.heap.size + 1, 2, none⟩ = some (.int .i64 T.ad) := cell_of_heap (HX.out _ x5).2 rfl
      have c5 : W5.cell? ⟨w.heap.size + 1, 5, none⟩ = some (.int .i64 T.an) := cell_of_heap (HX.out _ x5).2 rfl
      have c6 : W5.cell? ⟨w.heap.size + 1, 6, none⟩ = some (.int .i64 T.oo) := cell_of_heap (HX.out _ x5).2 rfl
      have hnf : ∀ i, i < 3 → 0 ≤ tnumF T i ∧ tnumF T i < 65536 := fun i _ => HNB.out i
      have hv0 : tnumF T 0 = T.ad := by unfold tnumF; rw [HTk.out]; rfl
      have hv1 : tnumF T 1 = T.an := by unfold tnumF; rw [HTk.out]; rfl
      have hv2 : tnumF T 2 = T.oo := by unfold tnumF; rw [HTk.out]; rfl
      have hw0 : IntKind.u16.wrap T.ad = T.ad := w16 (by have := hnf 0 (by omega); rw [hv0] at this; omega)
      have hw1 : IntKind.u16.wrap T.an = T.an := w16 (by have := hnf 1 (by omega); rw [hv1] at this; omega)
      have hw2 : IntKind.u16.wrap T.oo = T.oo := w16 (by have := hnf 2 (by omega); rw [hv2] at this; omega)
      have hlit := Ext.alloc W5 (.cells #[.int .u16 T.ad, .int .u16 T.an, .int .u16 T.oo] 59)
      have hl : HoldsG (Value.int .u16) (W5.alloc (.cells #[.int .u16 T.ad, .int .u16 T.an, .int .u16 T.oo] 59)) (some ⟨W5.heap.size, 0, none⟩) 3 (tnumF T) := three_words W5 _ _ _ (tnumF T) hv0 hv1 hv2
      have g6 := Ext.cell hlit hg5 g5
      have hSL := tsay_nums HCD.out (by rw [HTk.out]; decide) (by rw [HTk.out]; decide) 3
      have hn1 : tsayN T = 1 + 2 * 3 := by rw [HSN.out, HTk.out]; rfl
      have HSL := Lib.hid (And.intro hSL hn1)
      clear hSL hn1 hv0 hv1 hv2
      go_wp2_with fail
      refine (rput_any (some ⟨W5.heap.size, 0, none⟩) 3 3 (tnumF T) _ hl (by omega) hnf).mono ?_; rintro e w6 ⟨pb, pq, rfl, hp, x6⟩
      have g7 := Ext.cell x6 (World.block_lt_of_cell? _ _ g6) g6
      go_wp2_with (first
        | (at_builtin; refine wpList_append_lit (mk := Value.int .u8) rfl (.tmp 85) (.tmp 96) 48 rfl 5 i8 (.int .u8 0) 1 Tryz.underlying48 hi8 hz80 hz81 hz82 rfl G _ rfl g7 pb (2 * 3) pq (putF (tnumF T)) rfl hp (by omega) (fun _ => rfl) (by unfold maxLen; omega) (by omega) ?_; intro vA wA hownA xA))
      rw [HSL.out.1, ← HSL.out.2] at hownA
      obtain ⟨b8, d8, rfl, l8, m8, h8⟩ := HoldsG.of_own (mk := Value.int .u8) hownA
      go_ret2
      exact ⟨b8, d8, by rfl, l8, m8, h8, e0.trans (((x5.trans hlit).trans x6).trans xA)⟩
    · have HK := Lib.hid hk
      have hwk : IntKind.u8.wrap 23 = 23 := by decide
      have hTk : T.k = 23 := HTK.out.trans hk
      have HTk := Lib.hid hTk
      clear hk hTk
      go_enter Tryz.func49, Tryz.ntmps49
      go_upto_region 1 with fail
      rw [← hW2]
      clear hW2
      obtain ⟨b1, b2⟩ := HX.out _ (Ext.refl W2)
      go_wp2_with (first
        | (refine wpList_load_row rfl 31 (.tmp 2) rfl w.heap.size rfl 31 _ (0, 0) _ b1 Tryz.underlying31 rfl (by kernel_rfl) ?_)
        | (refine wpList_load_row rfl 37 (.tmp 3) rfl (w.heap.size + 1) rfl 37 _ (0, 0) _ b2 Tryz.underlying37 rfl (by kernel_rfl) ?_))
      refine (KR.out _ e0).mono ?_; rintro e w3 ⟨rfl, x3⟩
      have c1 : w3.cell? ⟨w.heap.size + 1, 1, none⟩ = some (.int .i64 T.cd) := cell_of_heap (HX.out _ x3).2 rfl
      have c0 : w3.cell? ⟨w.heap.size, 0, none⟩ = some (.int .i64 23) := by rw [← HK.out]; exact cell_of_heap (HX.out _ x3).1 rfl
      clear b1 b2 KR
      obtain ⟨W5, hW5, x5, y5, g5⟩ : ∃ W, W = w3.alloc (.cells #[.int .u8 23] 5) ∧ Ext W2 W ∧ Ext w3 W ∧ W.cell? ⟨w3.heap.size, 0, none⟩ = some (.int .u8 T.k) :=
        ⟨_, rfl, x3.trans (Ext.alloc _ _), Ext.alloc _ _, by rw [HTk.out]; exact cell_of_heap (heap_alloc_new w3 _) rfl⟩
      go_upto_region 6 with fail
      rw [← hW5]
      clear hW5 c0 c1
      have hg5 : w3.heap.size < W5.heap.size := World.block_lt_of_cell? _ _ g5
      generalize w3.heap.size = G at g5 hg5 ⊢
      clear y5
      have c0 : W5.cell? ⟨w.heap.size, 0, none⟩ = some (.int .i64 23) := by rw [← HK.out]; exact cell_of_heap (HX.out _ x5).1 rfl
      have c7 : W5.cell? ⟨w.heap.size + 1, 8, none⟩ = some (.slice U.a2 T.nr U.d2) := cell_of_heap (HX.out _ x5).2 rfl
      go_wp2_with fail
      refine (KWp.out _ (e0.trans x5)).mono ?_; rintro e w6 ⟨pb, pq, rfl, hp, x6⟩
      have g6 := Ext.cell x6 hg5 g5
      have x6' := x5.trans x6
      clear c0 c7
      have hwl : IntKind.u8.wrap ((2 * T.nr : Nat) : Int) = ((2 * T.nr : Nat) : Int) := w8 (by omega)
      have hlit := Ext.alloc w6 (.cells #[.int .u8 ((2 * T.nr : Nat) : Int)] 5)
      have hlc : HoldsG (Value.int .u8) (w6.alloc (.cells #[.int .u8 ((2 * T.nr : Nat) : Int)] 5)) (some ⟨w6.heap.size, 0, none⟩) 1 (fun _ => ((2 * T.nr : Nat) : Int)) := one_held (cell_of_heap (heap_alloc_new w6 _) rfl)
      have g7 := Ext.cell hlit (World.block_lt_of_cell? _ _ g6) g6
      have hSL := tsay_words HCD.out (by rw [HTk.out]; decide) (by rw [HTk.out]; decide)
      have hn1 : tsayN T = 1 + 1 + 2 * T.nr := by rw [HSN.out, HTk.out]; simp (config := { decide := true }) only [if_true, if_false] <;> omega
      have HP := Lib.hid hp
      obtain ⟨L, hL⟩ : ∃ L, L = 2 * T.nr := ⟨_, rfl⟩
      have hSL : [Value.int .u8 T.k] ++ lstG (Value.int .u8) (fun _ => (L : Int)) 1 ++ lstG (Value.int .u8) (putF T.R) L = lstG (Value.int .u8) (tsayF T) (tsayN T) := by
        rw [hn1, ← hSL, hL]
        try rfl
      have hLb : L ≤ 250 := by rw [hL]; omega
      rw [← hL] at hwl hlit hlc g7 HP hn1 ⊢
      have HSL := Lib.hid (And.intro hSL hn1)
      clear hSL hn1 hL hp
      go_upto_region 15 with fail
      go_wp2_with (first
        | (at_builtin; refine wpList_append_lit (mk := Value.int .u8) rfl (.tmp 51) (.tmp 55) 48 rfl 5 i8 (.int .u8 0) 1 Tryz.underlying48 hi8 hz80 hz81 hz82 rfl G _ rfl g7 (some ⟨w6.heap.size, 0, none⟩) 1 1 (fun _ => (L : Int)) rfl hlc (by omega) (fun _ => rfl) (by unfold maxLen; omega) (by omega) ?_; intro v9 w9 hown9 x9)
        | (at_builtin; refine wpList_append_holds (mk := Value.int .u8) rfl (.tmp 56) (.tmp 57) 48 rfl (w6.alloc (.cells #[.int .u8 (L : Int)] 5)).heap.size 5 i8 (.int .u8 0) 1 Tryz.underlying48 hi8 hz80 hz81 hz82 rfl _ (1 + 1) _ rfl hown9 pb L pq (putF T.R) rfl (HP.out.ext (hlit.trans x9)) (fun _ => rfl) (by unfold maxLen; omega) (by omega) x9.size ?_; intro vA wA hownA _ hbA))
      rw [HSL.out.1] at hownA
      rw [← HSL.out.2] at hownA
      obtain ⟨b8, d8, rfl, l8, m8, h8⟩ := HoldsG.of_own (mk := Value.int .u8) hownA
      go_ret2
      exact ⟨b8, d8, by rfl, l8, m8, h8, e0.trans (x6'.trans (Below.trans (hlit.trans x9) (Below.mono hbA (hlit.size))))⟩
  · have hb0 : (T.cd != 0) = true := by simp [hcd]
    obtain ⟨ha, hcb, -⟩ := tel_code hr hcd
    have hn2 : tsayN T = 2 := by unfold tsayN; rw [if_pos hcd]
    have hkb : 1 ≤ Q.k ∧ Q.k ≤ 23 := by omega
    have hw1 : IntKind.i64.wrap (Q.k + 128) = Q.k + 128 := IntWalk.i64_in _ (by omega)
    have hw2 : IntKind.u8.wrap (Q.k + 128) = Q.k + 128 := w8 (by omega)
    have hw3 : IntKind.u8.wrap T.cd = T.cd := w8 (by omega)
    have HF : Hid (tsayF T 0 = Q.k + 128 ∧ tsayF T 1 = T.cd) := Lib.hid (by unfold tsayF; rw [if_pos hcd, if_pos hcd, hTk]; exact ⟨rfl, rfl⟩)
    rw [hn2]
    clear h k n1 n2 m1 m2 hr hcd hTk hkk hn2 ha
    go_enter Tryz.func49, Tryz.ntmps49
    go_upto_region 1 with fail
    rw [← hW2]
    clear hW2
    obtain ⟨b1, b2⟩ := HX.out _ (Ext.refl W2)
    go_wp2_with (first
      | (refine wpList_load_row rfl 31 (.tmp 2) rfl w.heap.size rfl 31 _ (0, 0) _ b1 Tryz.underlying31 rfl (by kernel_rfl) ?_)
      | (refine wpList_load_row rfl 37 (.tmp 3) rfl (w.heap.size + 1) rfl 37 _ (0, 0) _ b2 Tryz.underlying37 rfl (by kernel_rfl) ?_))
    refine (KR.out _ e0).mono ?_; rintro e w3 ⟨rfl, x3⟩
    clear b1 b2
    have c1 : w3.cell? ⟨w.heap.size + 1, 1, none⟩ = some (.int .i64 T.cd) := cell_of_heap (HX.out _ x3).2 rfl
    have c0 : w3.cell? ⟨w.heap.size, 0, none⟩ = some (.int .i64 Q.k) := cell_of_heap (HX.out _ x3).1 rfl
    go_wp2
    go_ret2
    refine ⟨some ⟨w3.heap.size, 0, none⟩, 2, by rfl, Nat.le_refl _, by decide, ?_, e0.trans (x3.trans (Ext.alloc _ _))⟩
    refine HoldsG.new _ _ _ 2 _ (fun i hi => ?_)
    have h : i = 0 ∨ i = 1 := by omega
    rcases h with rfl | rfl
    · rw [HF.out.1]; rfl
    · rw [HF.out.2]; rfl
theorem rprint16_any (V : QstV) (Q : Qst) (U : QstV) (T : Tel) (w : World) (h : QstAt w V Q) (n1 : Q.nb ≤ 1000000) (n2 : Q.nr ≤ 1000000) (k : TelAt w U T) (m1 : T.nb ≤ 1000000) (m2 : T.nr ≤ 1000000) (hR : ∀ i, i < T.nr → 0 ≤ T.R i ∧ T.R i < 65536) : Calls Tryz.prog 49 #[.agg (qstC V Q), .agg (telC U T)] w (PrT Q T w) := by
  cases hr : rightT Q T with
  | true => exact rprint16_yes V Q U T w h n1 n2 k m1 m2 hR hr
  | false => exact rprint16_no V Q U T w h n1 n2 k m1 m2 hr
end Go.Proofs.YtlafnobjfajamaaGreat
namespace Go.Proofs.YtlafnobjfajamaaGreat
open Go.RowKit
set_option linter.unusedVariables false
set_option maxRecDepth 100000

theorem told17 (w : World) (z cs : Array Value) (t : TypeId) : Ext w ((w.alloc (.cells z t)).setRow w.heap.size cs) ∧ ((w.alloc (.cells z t)).setRow w.heap.size cs).heap[w.heap.size]? = some (.cells cs t (0, 0)) :=
  ⟨below_setRow (Ext.alloc _ _) (Nat.le_refl _) _, setRow_heap _ _ _ _ _ _ (heap_alloc_new w _)⟩
theorem plain_fil8 (V : FilV) (F : Fil) (u : Int) : Value.int .u8 u ∉ filC V F := fun h => by simp [filC] at h
theorem QstAt.row {w : World} {V : QstV} {Q : Qst} {g : Nat} {cs : Array Value} {t : TypeId} (h : QstAt w V Q) (hg : w.heap[g]? = some (.cells cs t (0, 0))) (hp : PlainC cs) (ds : Array Value) : QstAt (w.setRow g ds) V Q :=
  have e := fun k (hk : k ≠ g) => setRow_other w g k ds hk
  have s : w.heap.size ≤ (w.setRow g ds).heap.size := by simp [World.setRow]
  ⟨held_off hg hp.1 s e h.h1, h.l1, h.m1, held_off hg hp.2 s e h.h2, h.l2, h.m2⟩
theorem row_held8 {W : World} {g m : Nat} {cs : Array Value} {t : TypeId} {f : Nat → Int} (hg : W.heap[g]? = some (.cells cs t (0, 0))) (h : ∀ i, i < m → cs[i]? = some (.int .u8 (f i))) : HoldsG (Value.int .u8) W (some ⟨g, 0, none⟩) m f :=
  .inr ⟨g, 0, rfl, heap_lt hg, fun i hi => by rw [Nat.zero_add]; exact cell_of_heap hg (h i hi)⟩
set_option maxHeartbeats 4000000 in
theorem rserve17_any (V : FilV) (F : Fil) (a : Option Addr) (n c : Nat) (f : Nat → Int) (w : World) (hF : FilAt w V F) (hFW : FilW F) (ha : Holds .u8 w a n f) (hn : n ≤ 100000) (hnc : n ≤ c) (hcm : c ≤ maxLen) (hf : ∀ i, i < n → 0 ≤ f i ∧ f i < 256) :
    Calls Tryz.prog 22 #[.agg (filC V F), .slice a n c] w (ServeP F n f w) := by
  obtain ⟨W2, hW2, e0, HX⟩ : ∃ W2, W2 = (w.alloc (.cells (filC V F) 29)).alloc (.cells #[.int .i64 0, .int .i64 0, .int .i64 0, .int .i64 0, .int .i64 0, .int .i64 0, .int .i64 0, .int .i64 0, .int .i64 0, .int .i64 0, .slice none 0 0, .slice none 0 0, .slice none 0 0, .slice none 0 0] 29) ∧ Ext w W2 ∧ Hid (∀ W, Ext W2 W → W.heap[w.heap.size]? = some (.cells (filC V F) 29 (0, 0)) ∧ W.heap[w.heap.size + 1]? = some (.cells (filC zeroV zeroF) 29 (0, 0))) :=
    ⟨_, rfl, (Ext.alloc w _).trans (Ext.alloc _ _), Lib.hid fun W x => ⟨x.block ((heap_alloc_old _ _ (by simp)).trans (heap_alloc_new w _)), x.block (heap_new_at _ _ (by simp))⟩⟩
  obtain ⟨r2, -⟩ := HX.out W2 (Ext.refl _)
  have KR : Hid (∀ W, Ext w W → Calls Tryz.prog 15 #[.agg (filC V F)] W fun e w' => e = .returned (.bool (rightB F)) ∧ Ext W w') := Lib.hid (fun W x => rright14_any V F W)
  rcases srvE_ways F n f with ⟨h1, h2⟩ | ⟨h1, h2, h3⟩ | ⟨h1, h2, h3, h4⟩ | ⟨h1, h2, h3, h4⟩
  · rw [h2] at KR
    have HE := Lib.hid (srv_err h1 (by decide))
    clear h1 h2
    go_enter Tryz.func22, Tryz.ntmps22
    go_upto_region 1 with fail
    rw [← hW2]
    clear hW2
    go_upto_region 2 with (first
    | (refine wpList_load_row rfl 29 (.tmp 2) rfl (w.heap.size) rfl 29 _ (0, 0) _ r2 Tryz.underlying29 rfl (by kernel_rfl) ?_)
    | (go_at_call 15; refine (KR.out _ e0).mono ?_; rintro e w3 ⟨rfl, x3⟩))
    obtain ⟨b2, b4⟩ := HX.out _ x3
    have xe := e0.trans x3
    go_wp2_with (first
    | (refine wpList_load_row rfl 29 (.tmp 2) rfl (w.heap.size) rfl 29 _ (0, 0) _ b2 Tryz.underlying29 rfl (by kernel_rfl) ?_)
    | (refine wpList_store_row rfl 29 (.tmp 4) (.tmp 15) rfl (w.heap.size + 1) _ rfl rfl 29 _ b4 (by kernel_rfl) rfl (by simp [filC, Value.oneCell']) ?_)
    | fail)
    refine bodyPost_ret (results_row_tmps _ _ (w.heap.size + 1) 29 _ (0, 0) _ rfl rfl (setRow_heap _ _ _ _ _ _ b4) Tryz.underlying29 rfl (by kernel_rfl)) rfl ?_
    unfold ServeP
    rw [HE.out.1, HE.out.2.2]
    exact ⟨V, F, none, 0, rfl, fun h => absurd rfl h, (hF.ext xe).row b4 (plain_fil zeroV zeroF) _, .inl rfl, below_setRow xe (by omega) _⟩
  · rw [h2] at KR
    clear h2
    subst h3
    have HE := Lib.hid (srv_err h1 (by decide))
    clear h1
    go_enter Tryz.func22, Tryz.ntmps22
    go_upto_region 1 with fail
    rw [← hW2]
    clear hW2
    go_upto_region 3 with (first
    | (refine wpList_load_row rfl 29 (.tmp 2) rfl (w.heap.size) rfl 29 _ (0, 0) _ r2 Tryz.underlying29 rfl (by kernel_rfl) ?_)
    | (go_at_call 15; refine (KR.out _ e0).mono ?_; rintro e w3 ⟨rfl, x3⟩))
    obtain ⟨b2, b4⟩ := HX.out _ x3
    have xe := e0.trans x3
    go_wp2_with (first
    | (refine wpList_load_row rfl 29 (.tmp 2) rfl (w.heap.size) rfl 29 _ (0, 0) _ b2 Tryz.underlying29 rfl (by kernel_rfl) ?_)
    | (refine wpList_store_row rfl 29 (.tmp 4) (.tmp 19) rfl (w.heap.size + 1) _ rfl rfl 29 _ b4 (by kernel_rfl) rfl (by simp [filC, Value.oneCell']) ?_)
    | fail)
    refine bodyPost_ret (results_row_tmps _ _ (w.heap.size + 1) 29 _ (0, 0) _ rfl rfl (setRow_heap _ _ _ _ _ _ b4) Tryz.underlying29 rfl (by kernel_rfl)) rfl ?_
    unfold ServeP
    rw [HE.out.1, HE.out.2.2]
    exact ⟨V, F, none, 0, rfl, fun _ => HE.out.2.1.symm, (hF.ext xe).row b4 (plain_fil zeroV zeroF) _, .inl rfl, below_setRow xe (by omega) _⟩
  · rw [h2] at KR
    clear h2
    obtain ⟨b, off, rfl, hlt, hc⟩ := ha.resolve_left h3
    have hc0 := hc 0 (by omega)
    have h0I : (0 : Int) < n := by omega
    have hb0 : ((n : Int) == 0) = false := by simp; omega
    have hbd := hf 0 (by omega)
    clear h3
    by_cases hz : f 0 = 0
    · have hz0 : (f 0 == 0) = true := by simp [hz]
      clear h4 hbd hz
      have HE := Lib.hid (srv_err h1 (by decide))
      clear h1
      go_enter Tryz.func22, Tryz.ntmps22
      go_upto_region 1 with fail
      rw [← hW2]
      clear hW2
      go_upto_region 3 with (first
      | (refine wpList_load_row rfl 29 (.tmp 2) rfl (w.heap.size) rfl 29 _ (0, 0) _ r2 Tryz.underlying29 rfl (by kernel_rfl) ?_)
      | (go_at_call 15; refine (KR.out _ e0).mono ?_; rintro e w3 ⟨rfl, x3⟩))
      obtain ⟨b2, b4⟩ := HX.out _ x3
      have xe := e0.trans x3
      have cp : w3.cell? ⟨b, off, none⟩ = some (.int .u8 (f 0)) := xe.cell hlt hc0
      go_wp2_with (first
      | (refine wpList_load_row rfl 29 (.tmp 2) rfl (w.heap.size) rfl 29 _ (0, 0) _ b2 Tryz.underlying29 rfl (by kernel_rfl) ?_)
      | (refine wpList_store_row rfl 29 (.tmp 4) (.tmp 30) rfl (w.heap.size + 1) _ rfl rfl 29 _ b4 (by kernel_rfl) rfl (by simp [filC, Value.oneCell']) ?_)
      | fail)
      refine bodyPost_ret (results_row_tmps _ _ (w.heap.size + 1) 29 _ (0, 0) _ rfl rfl (setRow_heap _ _ _ _ _ _ b4) Tryz.underlying29 rfl (by kernel_rfl)) rfl ?_
      unfold ServeP
      rw [HE.out.1, HE.out.2.2]
      exact ⟨V, F, none, 0, rfl, fun _ => HE.out.2.1.symm, (hF.ext xe).row b4 (plain_fil zeroV zeroF) _, .inl rfl, below_setRow xe (by omega) _⟩
    · have hz0 : (f 0 == 0) = false := by simp [hz]
      have hz1 : decide (128 ≤ f 0) = true := decide_eq_true (by omega)
      clear h4 hbd hz
      have HE := Lib.hid (srv_err h1 (by decide))
      clear h1
      go_enter Tryz.func22, Tryz.ntmps22
      go_upto_region 1 with fail
      rw [← hW2]
      clear hW2
      go_upto_region 3 with (first
      | (refine wpList_load_row rfl 29 (.tmp 2) rfl (w.heap.size) rfl 29 _ (0, 0) _ r2 Tryz.underlying29 rfl (by kernel_rfl) ?_)
      | (go_at_call 15; refine (KR.out _ e0).mono ?_; rintro e w3 ⟨rfl, x3⟩))
      obtain ⟨b2, b4⟩ := HX.out _ x3
      have xe := e0.trans x3
      have cp : w3.cell? ⟨b, off, none⟩ = some (.int .u8 (f 0)) := xe.cell hlt hc0
      go_wp2_with (first
      | (refine wpList_load_row rfl 29 (.tmp 2) rfl (w.heap.size) rfl 29 _ (0, 0) _ b2 Tryz.underlying29 rfl (by kernel_rfl) ?_)
      | (refine wpList_store_row rfl 29 (.tmp 4) (.tmp 30) rfl (w.heap.size + 1) _ rfl rfl 29 _ b4 (by kernel_rfl) rfl (by simp [filC, Value.oneCell']) ?_)
      | fail)
      refine bodyPost_ret (results_row_tmps _ _ (w.heap.size + 1) 29 _ (0, 0) _ rfl rfl (setRow_heap _ _ _ _ _ _ b4) Tryz.underlying29 rfl (by kernel_rfl)) rfl ?_
      unfold ServeP
      rw [HE.out.1, HE.out.2.2]
      exact ⟨V, F, none, 0, rfl, fun _ => HE.out.2.1.symm, (hF.ext xe).row b4 (plain_fil zeroV zeroF) _, .inl rfl, below_setRow xe (by omega) _⟩
  · rw [h2] at KR
    obtain ⟨b, off, rfl, hlt, hc⟩ := ha.resolve_left h3
    have hc0 := hc 0 (by omega)
    have h0I : (0 : Int) < n := by omega
    have hb0 : ((n : Int) == 0) = false := by simp; omega
    have hz0 : (f 0 == 0) = false := by simp; omega
    have hz1 : decide (128 ≤ f 0) = false := decide_eq_false (by omega)
    have hbd := hf 0 (by omega)
    have KP := Lib.hid (fun W (x : Ext w W) => rparse15_any (some ⟨b, off, none⟩) n c f W (ha.ext x) hn hnc hcm hf)
    have HP := Lib.hid (paE_ways n f)
    by_cases hp : paE n f = 0
    · obtain ⟨s1, s2, s3⟩ := srv_does h1 hp
      obtain ⟨p1, p2, -, -, -⟩ := parse_parts hp
      obtain ⟨m1, m2, m3⟩ := gue_small hn hf
      rw [← p1] at m1 m2 m3
      have hQW := qst_w p2 m3
      have hT := dat_told (F := F) p2 h2
      obtain ⟨t1, t2⟩ := told_small hT
      have HE := Lib.hid (And.intro h1 (And.intro s1 (And.intro s2 s3)))
      have KD := Lib.hid (fun W VQ (x : Ext w W) (hq : QstAt W VQ (paQ n f)) => rdo17_any V F VQ (paQ n f) W (hF.ext x) hq hQW hFW p2 h2)
      have HTN := Lib.hid (show tprN (paQ n f) (datT F (paQ n f)) = tsayN (datT F (paQ n f)) from by unfold tprN; rw [if_pos hT])
      have KT := Lib.hid (fun W VQ X (hq : QstAt W VQ (paQ n f)) (ht : TelAt W X (datT F (paQ n f))) => rprint16_any VQ (paQ n f) X (datT F (paQ n f)) W hq m1 m2 ht (by omega) (by omega) (told_w p2 h2 hFW m3))
      rw [hp] at KP
      unfold Do17P at KD
      unfold PrT at KT
      generalize datT F (paQ n f) = T at *
      generalize datF F (paQ n f) = G at *
      generalize paQ n f = Q at *
      clear h1 h2 h3 h4 hp p1 p2 m1 m2 m3 s1 s2 s3 hQW hT t1 t2 hbd hc ha hf hn hnc hcm HP
      go_enter Tryz.func22, Tryz.ntmps22
      go_upto_region 1 with fail
      rw [← hW2]
      clear hW2
      go_upto_region 3 with (first
        | (refine wpList_load_row rfl 29 (.tmp 2) rfl (w.heap.size) rfl 29 _ (0, 0) _ r2 Tryz.underlying29 rfl (by kernel_rfl) ?_)
        | (go_at_call 15; refine (KR.out _ e0).mono ?_; rintro e w3 ⟨rfl, x3⟩))
      have xe := e0.trans x3
      have cp : w3.cell? ⟨b, off, none⟩ = some (.int .u8 (f 0)) := xe.cell hlt hc0
      go_upto_region 8 with (first
        | (go_at_call 48; refine (KP.out _ xe).mono ?_; rintro e w4 ⟨VQ, rfl, hQ4, x4⟩)
        | (refine wpList_store_row rfl 31 (.tmp 7) (.tmp 34) rfl w4.heap.size _ rfl rfl 31 _ (heap_alloc_new w4 _) (by kernel_rfl) rfl (by simp [qstC, Value.oneCell']) ?_))
      obtain ⟨W7, hW7, x7, g7⟩ : ∃ W7, W7 = (w4.alloc (.cells #[.int .i64 0, .int .i64 0, .int .i64 0, .int .i64 0, .int .i64 0, .int .i64 0, .int .i64 0, .int .i64 0, .slice none 0 0, .slice none 0 0] 31)).setRow w4.heap.size (qstC VQ Q) ∧ Ext w4 W7 ∧ W7.heap[w4.heap.size]? = some (.cells (qstC VQ Q) 31 (0, 0)) := ⟨_, rfl, (told17 _ _ _ _).1, (told17 _ _ _ _).2⟩
      rw [← hW7]
      clear hW7 cp
      have hG7 : w.heap.size + 2 ≤ w4.heap.size := by have := (HX.out _ (x3.trans x4)).2; have := heap_lt this; omega
      have y7 := (x3.trans x4).trans x7
      have hQ7 := hQ4.ext x7
      generalize w4.heap.size = G7 at g7 hG7 ⊢
      clear x3 x4 x7 hQ4 xe
      obtain ⟨b7, -⟩ := HX.out _ y7
      go_upto_region 11 with (first
        | (refine wpList_load_row rfl 29 (.tmp 2) rfl (w.heap.size) rfl 29 _ (0, 0) _ b7 Tryz.underlying29 rfl (by kernel_rfl) ?_)
        | (refine wpList_load_row rfl 31 (.tmp 7) rfl G7 rfl 31 _ (0, 0) _ g7 Tryz.underlying31 rfl (by kernel_rfl) ?_)
        | (go_at_call 19; refine (KD.out _ VQ (e0.trans y7) hQ7).mono ?_; rintro e w8 ⟨V8, X8, rfl, hF8, hT8, x8⟩; have b8 : (w8.alloc (.cells #[.int .i64 0, .int .i64 0, .int .i64 0, .int .i64 0, .int .i64 0, .int .i64 0, .int .i64 0, .slice none 0 0, .slice none 0 0] 37)).heap[w.heap.size]? = some (.cells (filC V F) 29 (0, 0)) := (x8.trans (Ext.alloc _ _)).block b7; have hl8 : w.heap.size < w8.heap.size := heap_lt (x8.block b7))
        | (refine wpList_store_row rfl 29 (.tmp 2) (.tmp 50) rfl w.heap.size _ rfl rfl 29 _ b8 (by kernel_rfl) rfl (by simp [filC, Value.oneCell']) ?_)
        | (refine wpList_store_row rfl 37 (.tmp 9) (.tmp 51) rfl w8.heap.size _ rfl rfl 37 _ ((setRow_other _ _ _ _ (by omega)).trans (heap_alloc_new w8 _)) (by kernel_rfl) rfl (by simp [telC, Value.oneCell']) ?_))
      obtain ⟨W9, hW9, hF9, hT9, hQ9, k2, k7, k9, k4, x9⟩ : ∃ W9, W9 = ((w8.alloc (.cells #[.int .i64 0, .int .i64 0, .int .i64 0, .int .i64 0, .int .i64 0, .int .i64 0, .int .i64 0, .slice none 0 0, .slice none 0 0] 37)).setRow w.heap.size (filC V8 G)).setRow w8.heap.size (telC X8 T) ∧ FilAt W9 V8 G ∧ TelAt W9 X8 T ∧ QstAt W9 VQ Q ∧ W9.heap[w.heap.size]? = some (.cells (filC V8 G) 29 (0, 0)) ∧ W9.heap[G7]? = some (.cells (qstC VQ Q) 31 (0, 0)) ∧ W9.heap[w8.heap.size]? = some (.cells (telC X8 T) 37 (0, 0)) ∧ W9.heap[w.heap.size + 1]? = some (.cells (filC zeroV zeroF) 29 (0, 0)) ∧ Ext w W9 := by
        have xa := Ext.alloc w8 (.cells #[.int .i64 0, .int .i64 0, .int .i64 0, .int .i64 0, .int .i64 0, .int .i64 0, .int .i64 0, .slice none 0 0, .slice none 0 0] 37)
        have n9 : ((w8.alloc (.cells #[.int .i64 0, .int .i64 0, .int .i64 0, .int .i64 0, .int .i64 0, .int .i64 0, .int .i64 0, .slice none 0 0, .slice none 0 0] 37)).setRow w.heap.size (filC V8 G)).heap[w8.heap.size]? = some (.cells (telC zeroQV zeroT) 37 (0, 0)) := (setRow_other _ _ _ _ (by omega)).trans (heap_alloc_new w8 _)
        have l7 : G7 < w8.heap.size := heap_lt (x8.block g7)
        have q7 : (w8.alloc (.cells #[.int .i64 0, .int .i64 0, .int .i64 0, .int .i64 0, .int .i64 0, .int .i64 0, .int .i64 0, .slice none 0 0, .slice none 0 0] 37)).heap[G7]? = some (.cells (qstC VQ Q) 31 (0, 0)) := (x8.trans xa).block g7
        have q4 := (HX.out _ ((y7.trans x8).trans xa)).2
        have l4 := heap_lt (HX.out _ (y7.trans x8)).2
        refine ⟨_, rfl, ((hF8.ext xa).row b8 (plain_fil _ _) _).row n9 (plain_tel _ _) _, ((hT8.ext xa).row b8 (plain_fil _ _) _).row n9 (plain_tel _ _) _, (((hQ7.ext x8).ext xa).row b8 (plain_fil _ _) _).row n9 (plain_tel _ _) _, ?_, ?_, setRow_heap _ _ _ _ _ _ n9, ?_, below_setRow (below_setRow (((e0.trans y7).trans x8).trans xa) (Nat.le_refl _) _) (by omega) _⟩
        · exact (setRow_other _ _ _ _ (by omega)).trans (setRow_heap _ _ _ _ _ _ b8)
        · exact (setRow_other _ _ _ _ (by omega)).trans ((setRow_other _ _ _ _ (by omega)).trans q7)
        · exact (setRow_other _ _ _ _ (by omega)).trans ((setRow_other _ _ _ _ (by omega)).trans q4)
      rw [← hW9]
      generalize w8.heap.size = G9 at k9 ⊢
      clear hW9 hF8 hT8 b8 hl8 b7 g7 hQ7 x8 y7 KD KP
      go_upto_region 12 with (first
        | (refine wpList_load_row rfl 31 (.tmp 7) rfl G7 rfl 31 _ (0, 0) _ k7 Tryz.underlying31 rfl (by kernel_rfl) ?_)
        | (refine wpList_load_row rfl 37 (.tmp 9) rfl G9 rfl 37 _ (0, 0) _ k9 Tryz.underlying37 rfl (by kernel_rfl) ?_)
        | (go_at_call 49; refine (KT.out _ VQ X8 hQ9 hT9).mono ?_; rintro e wA ⟨pb, pq, rfl, -, -, hpr, xA⟩))
      have f2 := xA.block k2
      have f4 := xA.block k4
      have hFA := hF9.ext xA
      have xf := x9.trans xA
      clear k7 k9 KT
      go_wp2_with (first
        | (refine wpList_load_row rfl 29 (.tmp 2) rfl (w.heap.size) rfl 29 _ (0, 0) _ f2 Tryz.underlying29 rfl (by kernel_rfl) ?_)
        | (refine wpList_store_row rfl 29 (.tmp 4) (.tmp 58) rfl (w.heap.size + 1) _ rfl rfl 29 _ f4 (by kernel_rfl) rfl (by simp [filC, Value.oneCell']) ?_)
        | fail)
      refine bodyPost_ret (results_row_tmps _ _ (w.heap.size + 1) 29 _ (0, 0) _ rfl rfl (setRow_heap _ _ _ _ _ _ f4) Tryz.underlying29 rfl (by kernel_rfl)) rfl ?_
      unfold ServeP
      rw [HE.out.1, HE.out.2.1, HE.out.2.2.1, HE.out.2.2.2, ← HTN.out]
      exact ⟨V8, G, pb, pq, rfl, fun _ => rfl, hFA.row f4 (plain_fil zeroV zeroF) _, held_off f4 (plain_fil8 zeroV zeroF) (by simp) (fun k hk => setRow_other _ _ k _ hk) hpr, below_setRow xf (by omega) _⟩
    · obtain ⟨s1, s2, s3⟩ := srv_not h1 hp
      have HE := Lib.hid (And.intro h1 (And.intro s1 (And.intro s2 s3)))
      have hpe : paE n f = 1 ∨ paE n f = 3 := by
        rcases HP.out with h | h | h | h
        · exact absurd h.2 h3
        · exact .inl h.1
        · exact .inr h.1
        · exact absurd h.1 hp
      obtain ⟨PE, hPE⟩ : ∃ PE, paE n f = PE := ⟨_, rfl⟩
      have HPE := Lib.hid hPE
      rw [hPE] at KP hpe hp
      have hpb : (PE != 0) = true := by simp [hp]
      have hw8 : IntKind.u8.wrap PE = PE := w8 (by omega)
      have hw1 : IntKind.u8.wrap (f 0 + 128) = f 0 + 128 := w8 (by omega)
      clear h1 h2 h4 hp s1 s2 s3 hbd hc ha hf hn hnc hcm HP hpe hPE
      go_enter Tryz.func22, Tryz.ntmps22
      go_upto_region 1 with fail
      rw [← hW2]
      clear hW2
      go_upto_region 3 with (first
        | (refine wpList_load_row rfl 29 (.tmp 2) rfl (w.heap.size) rfl 29 _ (0, 0) _ r2 Tryz.underlying29 rfl (by kernel_rfl) ?_)
        | (go_at_call 15; refine (KR.out _ e0).mono ?_; rintro e w3 ⟨rfl, x3⟩))
      have xe := e0.trans x3
      have cp : w3.cell? ⟨b, off, none⟩ = some (.int .u8 (f 0)) := xe.cell hlt hc0
      go_upto_region 8 with (first
        | (go_at_call 48; refine (KP.out _ xe).mono ?_; rintro e w4 ⟨VQ, rfl, hQ4, x4⟩)
        | (refine wpList_store_row rfl 31 (.tmp 7) (.tmp 34) rfl w4.heap.size _ rfl rfl 31 _ (heap_alloc_new w4 _) (by kernel_rfl) rfl (by simp [qstC, Value.oneCell']) ?_))
      obtain ⟨W7, hW7, x7⟩ : ∃ W7, W7 = (w4.alloc (.cells #[.int .i64 0, .int .i64 0, .int .i64 0, .int .i64 0, .int .i64 0, .int .i64 0, .int .i64 0, .int .i64 0, .slice none 0 0, .slice none 0 0] 31)).setRow w4.heap.size (qstC VQ (paQ n f)) ∧ Ext w4 W7 := ⟨_, rfl, (told17 _ _ _ _).1⟩
      rw [← hW7]
      clear hW7 cp
      have y7 := (x3.trans x4).trans x7
      clear x3 x4 x7 hQ4 xe
      go_upto_region 9 with fail
      obtain ⟨b7, b4⟩ := HX.out _ y7
      have hbg : b ≠ w.heap.size + 1 := by omega
      have hd5 : Ext W7 W7.drew := Ext.drew _
      have cp : W7.cell? ⟨b, off, none⟩ = some (.int .u8 (f 0)) := (e0.trans y7).cell hlt hc0
      have HC := Lib.hid (fun W (hx : Keep (fun i => i = w.heap.size + 1) W7 W) => (⟨(hx.block _ (heap_lt b7) (by omega)).trans b7, hx.cell hbg cp⟩ : W.heap[w.heap.size]? = some (.cells (filC V F) 29 (0, 0)) ∧ W.cell? ⟨b, off, none⟩ = some (.int .u8 (f 0))))
      have hs : Keep (fun i => i = w.heap.size + 1) W7 W7.drew := Keep.of_ext hd5
      have hsz := heap_lt b4
      clear cp
      refine wp_region_held_drew (S := fun W => Keep (fun i => i = w.heap.size + 1) W7 W) (by kernel_rfl) hs (fun _ => ?_)
      refine wpAnyH_takeD (i := 0) (d := 38) rfl rfl (by kernel_rfl) (by kernel_rfl) (by kernel_rfl) (fun _ _ _ h => h) (yieldsIf_load_row (by rfl) 29 (.tmp 2) rfl (w.heap.size) rfl 29 _ (0, 0) _ (fun w' hw' => (HC.out _ hw').1) Tryz.underlying29 rfl (by kernel_rfl)) hs ?_
      simp only [Act.put, tkA, tkB, tkC]
      refine tkG 1 39 (.slice (some ⟨b, off, none⟩) n c) hs ?_
      simp only [Act.put, tkA, tkB, tkC]
      refine tkY 2 40 (.pointer (some ⟨b, off, none⟩)) hs ?_ (y := fun W hW => by obtain ⟨a1, a2⟩ := HC.out W hW; go_simp)
      simp only [Act.put, tkA, tkB, tkC]
      refine tkY 3 41 (.int .u8 (f 0)) hs ?_ (y := fun W hW => by obtain ⟨a1, a2⟩ := HC.out W hW; go_simp)
      simp only [Act.put, tkA, tkB, tkC]
      refine tkG 4 42 (.int .u8 (f 0 + 128)) hs ?_
      simp only [Act.put, tkA, tkB, tkC]
      refine tkG 5 43 (.int .i64 PE) hs ?_
      simp only [Act.put, tkA, tkB, tkC]
      refine tkG 6 44 (.int .u8 PE) hs ?_
      simp only [Act.put, tkA, tkB, tkC]
      refine wpAnyH_ready (rs := [7, 8]) (by kernel_rfl) (by simp) (AllReadyH.cons rfl (fun K hK => ?_) (AllReadyH.cons rfl (fun K hK => ?_) AllReadyH.nil))
      · go_simp
        refine hK.out _ _ (hs.trans (Keep.of_ext (Ext.alloc _ _)) (fun i hi => .inl hi)) (fun hs => ?_)
        clear hK K
        refine wpAnyH_ready (rs := [8]) (by kernel_rfl) (by simp) (AllReadyH.cons rfl (fun K hK => ?_) AllReadyH.nil)
        refine step_store_row rfl 29 (.tmp 4) (.tmp 38) rfl (w.heap.size + 1) _ rfl rfl 29 (filC zeroV zeroF) (by first | exact hd5.block b4 | exact (hd5.trans (Ext.alloc _ _)).block b4) (by kernel_rfl) rfl (by simp [filC, Value.oneCell']) rfl ?_
        refine hK.out _ _ (hs.trans (keep_row _ _ _) (fun i hi => .inl hi)) (fun hs => ?_)
        clear hK K
        simp only [Act.put]
        refine tkG 9 5 (.slice (some ⟨W7.heap.size, 0, none⟩) 2 2) hs ?_
        simp only [Act.put, tkA, tkB, tkC]
        refine tkG 10 6 (.int .i64 0) hs ?_
        simp only [Act.put, tkA, tkB, tkC]
        refine wpAnyH_done (by kernel_rfl) ?_ _
        go_wp2_with fail
        refine bodyPost_ret (results_row_tmps _ _ (w.heap.size + 1) 29 _ (0, 0) _ rfl rfl (setRow_heap _ _ _ _ _ _ (by exact (hd5.trans (Ext.alloc _ _)).block b4)) Tryz.underlying29 rfl (by kernel_rfl)) rfl ?_
        unfold ServeP
        rw [HE.out.1, HE.out.2.1, HE.out.2.2.1, HE.out.2.2.2]
        refine ⟨V, F, some ⟨W7.heap.size, 0, none⟩, 2, rfl, fun _ => rfl, ((hF.ext (e0.trans y7)).ext (hd5.trans (Ext.alloc _ _))).row ((hd5.trans (Ext.alloc _ _)).block b4) (plain_fil zeroV zeroF) _, row_held8 (cs := #[.int .u8 (f 0 + 128), .int .u8 PE]) ((setRow_other _ _ _ _ (by show W7.heap.size ≠ w.heap.size + 1; omega)).trans (heap_alloc_new W7.drew _)) (fun i hi => ?_), below_setRow (((e0.trans y7).trans hd5).trans (Ext.alloc _ _)) (by omega) _⟩
        have h : i = 0 ∨ i = 1 := by omega
        rcases h with rfl | rfl
        · rfl
        · rw [HPE.out]; rfl
      · refine step_store_row rfl 29 (.tmp 4) (.tmp 38) rfl (w.heap.size + 1) _ rfl rfl 29 (filC zeroV zeroF) (by first | exact hd5.block b4 | exact (hd5.trans (Ext.alloc _ _)).block b4) (by kernel_rfl) rfl (by simp [filC, Value.oneCell']) rfl ?_
        refine hK.out _ _ (hs.trans (keep_row _ _ _) (fun i hi => .inl hi)) (fun hs => ?_)
        clear hK K
        simp only [Act.put]
        refine wpAnyH_ready (rs := [7]) (by kernel_rfl) (by simp) (AllReadyH.cons rfl (fun K hK => ?_) AllReadyH.nil)
        go_simp
        refine hK.out _ _ (hs.trans (Keep.of_ext (Ext.alloc _ _)) (fun i hi => .inl hi)) (fun hs => ?_)
        clear hK K
        refine tkG 9 5 (.slice (some ⟨W7.heap.size, 0, none⟩) 2 2) hs ?_
        simp only [Act.put, tkA, tkB, tkC]
        refine tkG 10 6 (.int .i64 0) hs ?_
        simp only [Act.put, tkA, tkB, tkC]
        refine wpAnyH_done (by kernel_rfl) ?_ _
        go_wp2_with fail
        refine bodyPost_ret (results_row_tmps _ _ (w.heap.size + 1) 29 _ (0, 0) _ rfl rfl ((heap_alloc_old _ _ (by simp; omega)).trans (setRow_heap _ _ _ _ _ _ (hd5.block b4))) Tryz.underlying29 rfl (by kernel_rfl)) rfl ?_
        unfold ServeP
        rw [HE.out.1, HE.out.2.1, HE.out.2.2.1, HE.out.2.2.2]
        refine ⟨V, F, some ⟨W7.heap.size, 0, none⟩, 2, rfl, fun _ => rfl, (((hF.ext (e0.trans y7)).ext hd5).row (hd5.block b4) (plain_fil zeroV zeroF) _).ext (Ext.alloc _ _), row_held8 (cs := #[.int .u8 (f 0 + 128), .int .u8 PE]) (heap_new_at _ _ (by simp)) (fun i hi => ?_), Ext.trans (b := W7.drew.setRow (w.heap.size + 1) (filC V F)) (below_setRow ((e0.trans y7).trans hd5) (by omega) _) (Ext.alloc _ _)⟩
        have h : i = 0 ∨ i = 1 := by omega
        rcases h with rfl | rfl
        · rfl
        · rw [HPE.out]; rfl
end Go.Proofs.YtlafnobjfajamaaGreat
namespace Go.Proofs.YtlafnobjfajamaaGreat
open Go.RowKit
set_option linter.unusedVariables false
set_option maxRecDepth 100000

theorem rfew14_v {V : FilV} {F : Fil} {B : Bool} (hB : decide (F.nC + F.nI + F.nH + F.nR ≤ 4000) = B) (h1 : F.nC ≤ 1000000000000000) (h2 : F.nI ≤ 1000000000000000) (h3 : F.nH ≤ 1000000000000000) (h4 : F.nR ≤ 1000000000000000) (w : World) :
    Calls Tryz.prog 9 #[.agg (filC V F)] w fun e w' => e = .returned (.bool B) ∧ Ext w w' := hB ▸ rfew14_any V F w h1 h2 h3 h4
theorem few_small {F : Fil} (h : decide (F.nC + F.nI + F.nH + F.nR ≤ 4000) = true) : Small F := by
  have := of_decide_eq_true h
  exact ⟨by omega, by omega, by omega, by omega⟩
theorem srv_small {F : Fil} (h : Small F) (n : Nat) (f : Nat → Int) : Small (srvF F n f) := by
  rcases srvE_ways F n f with ⟨h1, _⟩ | ⟨h1, _⟩ | ⟨h1, _⟩ | ⟨h1, h2, h3, h4⟩
  · rw [(srv_err h1 (by decide)).2.1]; exact h
  · rw [(srv_err h1 (by decide)).2.1]; exact h
  · rw [(srv_err h1 (by decide)).2.1]; exact h
  · by_cases hp : paE n f = 0
    · rw [(srv_does h1 hp).1]; exact dat_small (parse_parts hp).2.1 h2
    · rw [(srv_not h1 hp).1]; exact h
theorem srv_len {F : Fil} {n : Nat} (f : Nat → Int) : srvN F n f ≤ 1000 := by
  rcases srvE_ways F n f with ⟨h1, _⟩ | ⟨h1, _⟩ | ⟨h1, _⟩ | ⟨h1, h2, h3, h4⟩
  · rw [(srv_err h1 (by decide)).2.2]; omega
  · rw [(srv_err h1 (by decide)).2.2]; omega
  · rw [(srv_err h1 (by decide)).2.2]; omega
  · by_cases hp : paE n f = 0
    · rw [(srv_does h1 hp).2.1]
      have := (tsay_size (dat_told (F := F) (parse_parts hp).2.1 h2)).2
      omega
    · rw [(srv_not h1 hp).2.1]; omega
theorem toldF (w : World) (z cs : Array Value) (t : TypeId) : Ext w ((w.alloc (.cells z t)).setRow w.heap.size cs) ∧ ((w.alloc (.cells z t)).setRow w.heap.size cs).heap[w.heap.size]? = some (.cells cs t (0, 0)) :=
  ⟨below_setRow (Ext.alloc _ _) (Nat.le_refl _) _, setRow_heap _ _ _ _ _ _ (heap_alloc_new w _)⟩
set_option maxHeartbeats 8000000 in
theorem dataServes.walk0 (V : FilV) (F : Fil) (w : World) (h : FilAt w V F) (hw : FilW F) (f1 : F.nC ≤ 1000000000000000) (f2 : F.nI ≤ 1000000000000000) (f3 : F.nH ≤ 1000000000000000) (f4 : F.nR ≤ 1000000000000000) (a : Option Addr) (n c : Nat) (f : Nat → Int) (ha : Holds .u8 w a n f) (hnc : n ≤ c) (hcr : c * 1 ≤ 140737488351232) (hwf : ∀ i, i < n → (Lit.int .u8 (f i)).wf = true)
    (hS : DServeC 21) (sure : ∀ w, Calls Tryz.prog 11 #[] w fun e w' => e = .returned (.bool true) ∧ Ext w w') :
    Calls Tryz.prog 4 #[.agg (filC V F), .slice a n c] w fun e w' => e = .returned (.bool true) ∧ Ext w w' := by
  have HSU := Lib.hid sure
  have hf : ∀ i, i < n → 0 ≤ f i ∧ f i < 256 := fun i hi => by have := hwf i hi; simp [Lit.wf, IntKind.min, IntKind.max, IntKind.signed, IntKind.bits] at this; omega
  have hcm : c ≤ maxLen := by unfold maxLen; omega
  clear hwf sure
  obtain ⟨W0, hW0, e0, HX⟩ : ∃ W0, W0 = w.alloc (.cells (filC V F) 29) ∧ Ext w W0 ∧ Hid (∀ W, Ext W0 W → W.heap[w.heap.size]? = some (.cells (filC V F) 29 (0, 0))) := ⟨_, rfl, Ext.alloc w _, Lib.hid fun W hx => hx.block (heap_alloc_new w _)⟩
  have b1 := HX.out _ (Ext.refl W0)
  cases hfw : decide (F.nC + F.nI + F.nH + F.nR ≤ 4000) with
  | false =>
    have KF := Lib.hid (fun W => rfew14_v (V := V) hfw f1 f2 f3 f4 W)
    clear h hw ha hf hfw hS
    go_enter Tryz.func4, Tryz.ntmps4
    go_upto_region 1 with fail
    rw [← hW0]
    clear hW0
    go_wp2_with (first
    | (refine wpList_load_row rfl 29 (.tmp 2) rfl (w.heap.size) rfl 29 _ (0, 0) _ b1 Tryz.underlying29 rfl (by kernel_rfl) ?_)
    | fail)
    refine (KF.out _).mono ?_; rintro e w3 ⟨rfl, x3⟩
    go_wp2_with fail
    refine (HSU.out _).mono ?_; rintro e w4 ⟨rfl, x4⟩
    go_wp2
    go_ret
    exact ⟨rfl, (e0.trans x3).trans x4⟩
  | true =>
   have KF := Lib.hid (fun W => rfew14_v (V := V) hfw f1 f2 f3 f4 W)
   have hsm := few_small hfw
   by_cases h6 : 600 < n
   · have h6I : (600 : Int) < n := by omega
     clear h hw ha hf hfw hS
     go_enter Tryz.func4, Tryz.ntmps4
     go_upto_region 1 with fail
     rw [← hW0]
     clear hW0
     go_wp2_with (first
     | (refine wpList_load_row rfl 29 (.tmp 2) rfl (w.heap.size) rfl 29 _ (0, 0) _ b1 Tryz.underlying29 rfl (by kernel_rfl) ?_)
     | fail)
     refine (KF.out _).mono ?_; rintro e w3 ⟨rfl, x3⟩
     go_wp2_with fail
     refine (HSU.out _).mono ?_; rintro e w4 ⟨rfl, x4⟩
     go_wp2
     go_ret
     exact ⟨rfl, (e0.trans x3).trans x4⟩
   · have h6I : ¬ (600 : Int) < n := by omega
     have h6d : decide ((600 : Int) < n) = false := decide_eq_false h6I
     have KS := Lib.hid (fun W (x : Ext w W) => hS V F a n c f W (h.ext x) hw hsm (ha.ext x) (by omega) hnc hcm hf)
     have KR := Lib.hid (fun W (x : Ext w W) => rserve17_any V F a n c f W (h.ext x) hw (ha.ext x) (by omega) hnc hcm hf)
     have hsl := srv_len (F := F) (n := n) f
     have hss := srv_small hsm n f
     have HSF := Lib.hid (And.intro hss hsl)
     clear h hw ha hf hfw hS h6 hsl hss
     unfold ServeP at KS KR
     generalize srvE F n f = E at *
     generalize srvN F n f = N at *
     generalize srvF F n f = G at *
     generalize srvB F n f = B at *
     go_enter Tryz.func4, Tryz.ntmps4
     go_upto_region 1 with fail
     rw [← hW0]
     clear hW0
     go_upto_region 3 with (first
     | (refine wpList_load_row rfl 29 (.tmp 2) rfl (w.heap.size) rfl 29 _ (0, 0) _ b1 Tryz.underlying29 rfl (by kernel_rfl) ?_)
     | (go_at_call 9; refine (KF.out _).mono ?_; rintro e w3 ⟨rfl, x3⟩))
     have b3 := HX.out _ x3
     have y3 := e0.trans x3
     clear b1 KF
     go_upto_region 4 with (first
     | (refine wpList_load_row rfl 29 (.tmp 2) rfl (w.heap.size) rfl 29 _ (0, 0) _ b3 Tryz.underlying29 rfl (by kernel_rfl) ?_)
     | (go_at_call 21; refine (KS.out _ y3).mono ?_; rintro e w4 ⟨V4, G4, pb, pq, rfl, hG4, hF4, hp, x4⟩)
     | (refine wpList_store_row rfl 29 (.tmp 5) (.tmp 24) rfl w4.heap.size _ rfl rfl 29 _ (heap_alloc_new w4 _) (by kernel_rfl) rfl (by simp [filC, Value.oneCell']) ?_))
     obtain ⟨W4, hW4, z4, g5⟩ : ∃ W, W = ((w4.alloc (.cells #[.int .i64 0, .int .i64 0, .int .i64 0, .int .i64 0, .int .i64 0, .int .i64 0, .int .i64 0, .int .i64 0, .int .i64 0, .int .i64 0, .slice none 0 0, .slice none 0 0, .slice none 0 0, .slice none 0 0] 29)).setRow w4.heap.size (filC V4 G4)) ∧ Ext w4 W ∧ W.heap[w4.heap.size]? = some (.cells (filC V4 G4) 29 (0, 0)) := ⟨_, rfl, toldF _ _ _ _⟩
     rw [← hW4]
     clear hW4
     have y4 := x4.trans z4
     have b4 := HX.out _ (x3.trans y4)
     have hF4 := hF4.ext z4
     have hp := hp.ext z4
     have y5 := y3.trans y4
     generalize w4.heap.size = G5 at g5 ⊢
     clear b3 y3 z4 KS
     go_upto_region 5 with (first
     | (refine wpList_load_row rfl 29 (.tmp 2) rfl (w.heap.size) rfl 29 _ (0, 0) _ b4 Tryz.underlying29 rfl (by kernel_rfl) ?_)
     | (go_at_call 22; refine (KR.out _ y5).mono ?_; rintro e w6 ⟨V6, G6, qb, qq, rfl, hG6, hF6, hq, x6⟩)
     | (refine wpList_store_row rfl 29 (.tmp 8) (.tmp 31) rfl w6.heap.size _ rfl rfl 29 _ (heap_alloc_new w6 _) (by kernel_rfl) rfl (by simp [filC, Value.oneCell']) ?_))
     obtain ⟨W6, hW6, z6, g8⟩ : ∃ W, W = ((w6.alloc (.cells #[.int .i64 0, .int .i64 0, .int .i64 0, .int .i64 0, .int .i64 0, .int .i64 0, .int .i64 0, .int .i64 0, .int .i64 0, .int .i64 0, .slice none 0 0, .slice none 0 0, .slice none 0 0, .slice none 0 0] 29)).setRow w6.heap.size (filC V6 G6)) ∧ Ext w6 W ∧ W.heap[w6.heap.size]? = some (.cells (filC V6 G6) 29 (0, 0)) := ⟨_, rfl, toldF _ _ _ _⟩
     rw [← hW6]
     clear hW6
     have y6 := x6.trans z6
     have g5 := y6.block g5
     have hF4 := hF4.ext y6
     have hp := hp.ext y6
     have hF6 := hF6.ext z6
     have hq := hq.ext z6
     have y7 := y5.trans y6
     generalize w6.heap.size = G8 at g8 ⊢
     clear b4 y4 x4 x3 z6 x6 y6 y5 KR
     go_upto_region 7 with (first
       | (go_at_call 23; refine (bytes_eq pb qb N N pq qq B B _ hp hq (by have := HSF.out.2; omega) ⟨rfl, fun _ _ => rfl⟩).mono ?_; rintro e w7 ⟨rfl, x7⟩))
     have g5 := x7.block g5
     have g8 := x7.block g8
     have hF4 := hF4.ext x7
     have hF6 := hF6.ext x7
     have y8 := y7.trans x7
     clear hp hq y7 x7
     by_cases hE : E = 11
     · have hb : (E == 11) = true := by simp [hE]
       clear hE hG4 hG6
       go_wp2_with fail
       refine (HSU.out _).mono ?_; rintro e w8 ⟨rfl, x8⟩
       go_wp2
       go_ret
       exact ⟨rfl, y8.trans x8⟩
     · have hb : (E == 11) = false := by simp [hE]
       have h4 := hG4 hE
       have h6 := hG6 hE
       subst h4
       subst h6
       clear hE hG4
       go_wp2_with (first
      | (refine wpList_load_row rfl 29 (.tmp 5) rfl (G5) rfl 29 _ (0, 0) _ g5 Tryz.underlying29 rfl (by kernel_rfl) ?_)
      | (refine wpList_load_row rfl 29 (.tmp 8) rfl (G8) rfl 29 _ (0, 0) _ g8 Tryz.underlying29 rfl (by kernel_rfl) ?_)
         | (go_at_call 17; refine (rsame14_v (sameF_self _) _ hF4 hF6 HSF.out.1.all HSF.out.1.all).mono ?_; rintro e w8 ⟨rfl, x8⟩))
       refine (HSU.out _).mono ?_; rintro e w9 ⟨rfl, x9⟩
       go_wp2
       go_ret
       exact ⟨rfl, (y8.trans x8).trans x9⟩
end Go.Proofs.YtlafnobjfajamaaGreat
