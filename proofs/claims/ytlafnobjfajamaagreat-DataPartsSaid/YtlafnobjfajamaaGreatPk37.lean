/-
  LAYER 17, PLAIN: many written at once, and cell by cell.
  THE LAWS OF LAYER 17: the walk of DataParts (package data's contracts and 'sure' as premises).
-/
import Derived.Test.YtlafnobjfajamaaGreatPk15
import Derived.Test.YtlafnobjfajamaaGreatPk25
import Derived.Test.YtlafnobjfajamaaGreatPk19
import Derived.Test.YtlafnobjfajamaaGreatPk16
import Derived.Deep.DeepCutAuto
namespace Go.Proofs.YtlafnobjfajamaaGreat
open Go.RowKit
set_option linter.unusedVariables false

/-- The file when i cells are written; the ask that writes the next one. -/
def parF (F : Fil) (Q : Qst) (i : Nat) : Fil := if Q.k = 15 then { F with C := wrF F.C Q.B F.cf Q.ad i } else { F with H := wrF F.H Q.R F.hf Q.ad i }
def oneQ (Q : Qst) (i : Nat) : Qst := { zeroQ with k := if Q.k = 15 then 5 else 6, ad := Q.ad + i, va := if Q.k = 15 then (if Q.B i = true then 65280 else 0) else Q.R i }
theorem wr_none {α : Type} (l v : Nat → α) (f x : Int) : wrF l v f x 0 = l := by
  funext i; unfold wrF; split
  · rfl
  · rw [if_neg (by omega)]
theorem wr_next {α : Type} (l v : Nat → α) {f x : Int} (i : Nat) (h : f ≤ x) : wrF (wrF l v f x i) (fun _ => v i) f (x + i) 1 = wrF l v f x (i + 1) := by
  funext j
  unfold wrF
  obtain ⟨p, hp⟩ : ∃ p : Nat, p = (x - f).toNat := ⟨_, rfl⟩
  have e : (x + i - f).toNat = p + i := by omega
  rw [e, ← hp]
  by_cases h1 : j < p
  · rw [if_pos (by omega), if_pos h1, if_pos h1]
  · by_cases h2 : j < p + i
    · rw [if_pos h2, if_neg h1, if_pos h2, if_neg h1, if_pos (by omega)]
    · by_cases h3 : j = p + i
      · subst h3
        rw [if_neg (by omega), if_pos (by omega), if_neg h1, if_pos (by omega), show p + i - p = i by omega]
      · rw [if_neg h2, if_neg (by omega), if_neg h1, if_neg h2, if_neg h1, if_neg (by omega)]
theorem par_zero (F : Fil) (Q : Qst) : parF F Q 0 = F := by
  unfold parF; split
  · rw [wr_none]
  · rw [wr_none]
theorem par_same (F : Fil) (Q : Qst) (i : Nat) : rightB (parF F Q i) = rightB F ∧ (∀ A, datE (parF F Q i) A = datE F A) ∧ (Small F → Small (parF F Q i)) := by
  unfold parF; split
  · exact ⟨rfl, fun _ => rfl, fun h => ⟨h.1, h.2, h.3, h.4⟩⟩
  · exact ⟨rfl, fun _ => rfl, fun h => ⟨h.1, h.2, h.3, h.4⟩⟩
section
variable {F : Fil} {Q : Qst}
theorem par_w (hw : FilW F) (hR : ∀ i, i < Q.nr → 0 ≤ Q.R i ∧ Q.R i < 65536) {i : Nat} (hi : i ≤ Q.nr ∨ Q.k = 15) : FilW (parF F Q i) := by
  unfold parF; split
  · exact ⟨hw.h, hw.r⟩
  · rename_i h15
    refine ⟨fun j hj => ?_, hw.r⟩
    show 0 ≤ wrF F.H Q.R F.hf Q.ad i j ∧ wrF F.H Q.R F.hf Q.ad i j < 65536
    unfold wrF
    split
    · exact hw.h j hj
    · split
      · exact hR _ (by rcases hi with h | h; omega; exact absurd h h15)
      · exact hw.h j hj
theorem one_k (hk : Q.k = 15 ∨ Q.k = 16) (i : Nat) : (Q.k = 15 ∧ (oneQ Q i).k = 5 ∧ (oneQ Q i).va = (if Q.B i = true then 65280 else 0)) ∨ (Q.k = 16 ∧ (oneQ Q i).k = 6 ∧ (oneQ Q i).va = Q.R i) := by
  unfold oneQ
  by_cases h : Q.k = 15
  · exact .inl ⟨h, if_pos h, if_pos h⟩
  · exact .inr ⟨by omega, if_neg h, if_neg h⟩
theorem one_right (hq : rightQ Q = true) (hk : Q.k = 15 ∨ Q.k = 16) (hR : ∀ i, i < Q.nr → 0 ≤ Q.R i ∧ Q.R i < 65536) {i : Nat} (hi : (i : Int) < Q.ct) : rightQ (oneQ Q i) = true ↔ Q.ad + i ≤ 65535 := by
  have a := ask_facts hq
  have had : (oneQ Q i).ad = Q.ad + i := rfl
  rw [rightQ_iff, had]
  constructor
  · rintro ⟨-, -, h, -⟩; exact h.2
  · intro h
    have h0 := a.ad
    rcases one_k hk i with ⟨k1, k2, k3⟩ | ⟨k1, k2, k3⟩
    · refine ⟨(known_iff _).2 (by omega), ?_, by omega, ?_⟩
      · unfold onlyP
        rw [k2]
        simp (config := { decide := true }) only [true_implies, false_implies, true_and, and_true]
        exact ⟨rfl, rfl, rfl, rfl, rfl, rfl, rfl⟩
      · unfold fitsB
        rw [k2, k3]
        simp (config := { decide := true }) only [if_true, if_false]
        cases Q.B i <;> decide
    · have hr := hR i (by have := a.wd (.inl k1); omega)
      refine ⟨(known_iff _).2 (by omega), ?_, by omega, ?_⟩
      · unfold onlyP
        rw [k2]
        simp (config := { decide := true }) only [true_implies, false_implies, true_and, and_true]
        exact ⟨rfl, rfl, rfl, rfl, rfl, rfl, rfl⟩
      · unfold fitsB
        rw [k2, k3]
        simp (config := { decide := true }) only [if_true, if_false]
        exact (inB_iff _ _ _).2 (by omega)
theorem one_err (hk : Q.k = 15 ∨ Q.k = 16) (i : Nat) : datE F (oneQ Q i) = if Q.k = 15 then bitE F false (Q.ad + i) 1 else wrdE F false (Q.ad + i) 1 := by
  have had : (oneQ Q i).ad = Q.ad + i := rfl
  unfold datE
  rw [had]
  rcases one_k hk i with ⟨k1, k2, -⟩ | ⟨k1, k2, -⟩
  · simp (config := { decide := true }) only [k2, k1, if_true, if_false]
  · simp (config := { decide := true }) only [k2, k1, if_true, if_false]
theorem many_err (hk : Q.k = 15 ∨ Q.k = 16) : datE F Q = if Q.k = 15 then bitE F false Q.ad Q.ct else wrdE F false Q.ad Q.ct := by
  unfold datE
  rcases hk with h | h
  · rw [h]; simp (config := { decide := true }) only [if_true, if_false]
  · rw [h]; simp (config := { decide := true }) only [if_true, if_false]
/-- All of them can be written, if each one can. -/
theorem many_ok (hq : rightQ Q = true) (hr : rightB F = true) (hk : Q.k = 15 ∨ Q.k = 16) (h : ∀ i : Nat, (i : Int) < Q.ct → datE F (oneQ Q i) = 0) : datE F Q = 0 := by
  have a := ask_facts hq
  have hct : 1 ≤ Q.ct := by
    rcases hk with h | h
    · exact (a.bt h).1
    · exact (a.wd (.inl h)).1
  have h0 := h 0 (by omega)
  have hl := h (Q.ct - 1).toNat (by omega)
  rw [one_err hk] at h0 hl
  rw [many_err hk]
  by_cases h15 : Q.k = 15
  · rw [if_pos h15] at h0 hl ⊢
    have b0 := (holdB_iff _ _ _ _).1 (bit_holds h0).2.1
    have bl := (holdB_iff _ _ _ _).1 (bit_holds hl).2.1
    exact bit_ok hr ((holdB_iff _ _ _ _).2 ⟨b0.1, b0.2.1, b0.2.2.1, b0.2.2.2.1, b0.2.2.2.2.1, hct, by omega, by omega⟩)
  · rw [if_neg h15] at h0 hl ⊢
    have b0 := (holdB_iff _ _ _ _).1 (wrd_holds h0).2.1
    have bl := (holdB_iff _ _ _ _).1 (wrd_holds hl).2.1
    refine wrd_ok hr ((holdB_iff _ _ _ _).2 ⟨b0.1, b0.2.1, b0.2.2.1, b0.2.2.2.1, b0.2.2.2.2.1, hct, by omega, by omega⟩) ?_
    cases hm : meetB F.bf F.bc Q.ad Q.ct with
    | false => rfl
    | true =>
      have m := (meetB_iff _ _ _ _).1 hm
      have hi := h (max Q.ad F.bf - Q.ad).toNat (by omega)
      rw [one_err hk, if_neg h15] at hi
      have hn := (meetB_no _ _ _ _).1 (wrd_holds hi).2.2.1
      exfalso
      exact hn ⟨m.1, m.2.1, m.2.2.1, m.2.2.2.1, m.2.2.2.2.1, by omega, m.2.2.2.2.2.2.1, by omega, by omega⟩
/-- None is written, if one cannot be. -/
theorem many_no (hq : rightQ Q = true) (hk : Q.k = 15 ∨ Q.k = 16) {i : Nat} (hi : (i : Int) < Q.ct) (h : ¬ Q.ad + i ≤ 65535 ∨ datE F (oneQ Q i) ≠ 0) : datE F Q ≠ 0 := by
  intro h0
  rw [many_err hk] at h0
  rw [one_err hk] at h
  by_cases h15 : Q.k = 15
  · rw [if_pos h15] at h0 h
    obtain ⟨r1, r2, -⟩ := bit_holds h0
    have b := (holdB_iff _ _ _ _).1 r2
    rcases h with h | h
    · omega
    · exact h (bit_ok r1 ((holdB_iff _ _ _ _).2 ⟨b.1, b.2.1, b.2.2.1, b.2.2.2.1, b.2.2.2.2.1, by omega, by omega, by omega⟩))
  · rw [if_neg h15] at h0 h
    obtain ⟨r1, r2, r3, -⟩ := wrd_holds h0
    have b := (holdB_iff _ _ _ _).1 r2
    rcases h with h | h
    · omega
    · refine h (wrd_ok r1 ((holdB_iff _ _ _ _).2 ⟨b.1, b.2.1, b.2.2.1, b.2.2.2.1, b.2.2.2.2.1, by omega, by omega, by omega⟩) ?_)
      have m := (meetB_no _ _ _ _).1 r3
      exact (meetB_no _ _ _ _).2 fun hm => m ⟨hm.1, hm.2.1, hm.2.2.1, hm.2.2.2.1, hm.2.2.2.2.1, by omega, hm.2.2.2.2.2.2.1, by omega, by omega⟩
/-- One more is written. -/
theorem par_step (hr : rightB F = true) (hk : Q.k = 15 ∨ Q.k = 16) {i : Nat} (h1 : rightQ (oneQ Q i) = true) (h0 : datE F (oneQ Q i) = 0) (hlo : i = 0 ∨ datE F (oneQ Q 0) = 0) : datF (parF F Q i) (oneQ Q i) = parF F Q (i + 1) := by
  obtain ⟨p1, p2, -⟩ := par_same F Q i
  have hE : datE (parF F Q i) (oneQ Q i) = 0 := (p2 _).trans h0
  have hz : datE F (oneQ Q 0) = 0 := by rcases hlo with h | h; subst h; exact h0; exact h
  rw [one_err hk] at hz
  rcases one_k hk i with ⟨k1, k2, k3⟩ | ⟨k1, k2, k3⟩
  · rw [if_pos k1] at hz
    have b := (holdB_iff _ _ _ _).1 (bit_holds hz).2.1
    rw [(dat_bits h1 (p1.trans hr) hE (.inl k2)).1]
    have e1 : wrN (oneQ Q i) = 1 := by unfold wrN; rw [if_neg (by omega), if_neg (by omega)]
    have e2 : wrB (oneQ Q i) = fun _ => Q.B i := by
      unfold wrB; rw [if_pos k2, k3]
      cases Q.B i <;> rfl
    rw [e1, e2]
    have e3 : parF F Q i = { F with C := wrF F.C Q.B F.cf Q.ad i } := by unfold parF; rw [if_pos k1]
    have e4 : parF F Q (i + 1) = { F with C := wrF F.C Q.B F.cf Q.ad (i + 1) } := by unfold parF; rw [if_pos k1]
    rw [e3, e4]
    show { F with C := wrF (wrF F.C Q.B F.cf Q.ad i) (fun _ => Q.B i) F.cf (Q.ad + i) 1 } = _
    rw [wr_next _ _ _ (by have := b.2.2.2.2.2.2.1; omega)]
  · rw [if_neg (by omega)] at hz
    have b := (holdB_iff _ _ _ _).1 (wrd_holds hz).2.1
    rw [(dat_words h1 (p1.trans hr) hE (.inl k2)).1]
    have e1 : wrN (oneQ Q i) = 1 := by unfold wrN; rw [if_neg (by omega), if_neg (by omega)]
    have e2 : wrW (parF F Q i) (oneQ Q i) = fun _ => Q.R i := by unfold wrW; rw [if_pos k2, k3]
    rw [e1, e2]
    have e3 : parF F Q i = { F with H := wrF F.H Q.R F.hf Q.ad i } := by unfold parF; rw [if_neg (by omega)]
    have e4 : parF F Q (i + 1) = { F with H := wrF F.H Q.R F.hf Q.ad (i + 1) } := by unfold parF; rw [if_neg (by omega)]
    rw [e3, e4]
    show { F with H := wrF (wrF F.H Q.R F.hf Q.ad i) (fun _ => Q.R i) F.hf (Q.ad + i) 1 } = _
    rw [wr_next _ _ _ (by have := b.2.2.2.2.2.2.1; omega)]
/-- All are written. -/
theorem par_all (hq : rightQ Q = true) (hr : rightB F = true) (hk : Q.k = 15 ∨ Q.k = 16) (h0 : datE F Q = 0) {i : Nat} (hi : (i : Int) = Q.ct) : parF F Q i = datF F Q := by
  have a := ask_facts hq
  rcases hk with k | k
  · have hn := (a.bt k).2.2
    rw [(dat_bits hq hr h0 (.inr k)).1]
    have e1 : wrN Q = i := by unfold wrN; rw [if_pos k]; omega
    have e2 : wrB Q = Q.B := by unfold wrB; rw [if_neg (by omega)]
    rw [e1, e2]; unfold parF; rw [if_pos k]
  · have hn := (a.wd (.inl k)).2.2
    rw [(dat_words hq hr h0 (by omega)).1]
    have e1 : wrN Q = i := by unfold wrN; rw [if_neg (by omega), if_pos (.inl k)]; omega
    have e2 : wrW F Q = Q.R := by unfold wrW; rw [if_neg (by omega), if_neg (by omega)]
    rw [e1, e2]; unfold parF; rw [if_neg (by omega)]
theorem one_w (hq : rightQ Q = true) (hk : Q.k = 15 ∨ Q.k = 16) (hR : ∀ i, i < Q.nr → 0 ≤ Q.R i ∧ Q.R i < 65536) {i : Nat} (hi : (i : Int) < Q.ct) : QstW (oneQ Q i) := by
  have a := ask_facts hq
  have h0 := a.ad
  have hct : Q.ct ≤ 2000 := by
    rcases hk with h | h
    · exact (a.bt h).2.1
    · have := (a.wd (.inl h)).2.1; omega
  have w1 : (Lit.int .i64 (oneQ Q i).ad).wf = true := by
    show (Lit.int .i64 (Q.ad + i)).wf = true
    simp [Lit.wf, IntKind.min, IntKind.max, IntKind.signed, IntKind.bits]; omega
  rcases one_k hk i with ⟨k1, k2, k3⟩ | ⟨k1, k2, k3⟩
  · exact ⟨by rw [k2]; decide, w1, (by decide : (Lit.int .i64 0).wf = true), by rw [k3]; split <;> decide, (by decide : (Lit.int .i64 0).wf = true), (by decide : (Lit.int .i64 0).wf = true), (by decide : (Lit.int .i64 0).wf = true), (by decide : (Lit.int .i64 0).wf = true), fun j hj => absurd hj (Nat.not_lt_zero j)⟩
  · have hr := hR i (by have := a.wd (.inl k1); omega)
    exact ⟨by rw [k2]; decide, w1, (by decide : (Lit.int .i64 0).wf = true), by rw [k3]; exact wf_small hr.1 (by omega), (by decide : (Lit.int .i64 0).wf = true), (by decide : (Lit.int .i64 0).wf = true), (by decide : (Lit.int .i64 0).wf = true), (by decide : (Lit.int .i64 0).wf = true), fun j hj => absurd hj (Nat.not_lt_zero j)⟩
end
end Go.Proofs.YtlafnobjfajamaaGreat
namespace Go.Proofs.YtlafnobjfajamaaGreat
open Go.RowKit
set_option linter.unusedVariables false
set_option maxRecDepth 100000

theorem datT_cd' (F : Fil) (Q : Qst) : (datT F Q).cd = datE F Q := by
  by_cases h : datE F Q = 0
  · rw [h]
    unfold datT
    rw [if_neg (fun hh => hh h)]
    repeat' split
    all_goals rfl
  · rw [(datF_no h).2]
/-- The loop's file, in a box of the call's own. -/
structure ParS (w0 wr : World) (g : Nat) (V : FilV) (M : Fil) : Prop where
  x : Ext w0 wr
  b : wr.heap[g]? = some (.cells (filC V M) 29 (0, 0))
  f : FilAt wr V M
  lo : w0.heap.size ≤ g
theorem ParS.ext {w0 wr wr' : World} {g : Nat} {V : FilV} {M : Fil} (h : ParS w0 wr g V M) (x : Ext wr wr') : ParS w0 wr' g V M := ⟨h.x.trans x, x.block h.b, h.f.ext x, h.lo⟩
theorem ParS.set {w0 wr : World} {g : Nat} {V V' : FilV} {M M' : Fil} (h : ParS w0 wr g V M) (hf : FilAt wr V' M') : ParS w0 (wr.setRow g (filC V' M')) g V' M' := ⟨below_setRow h.x h.lo _, setRow_heap _ _ _ _ _ _ h.b, hf.row h.b (plain_fil _ _) _, h.lo⟩
set_option maxHeartbeats 16000000 in
theorem dataParts.walk0 (V : FilV) (F : Fil) (w : World) (h : FilAt w V F) (hw : FilW F) (f1 : F.nC ≤ 1000000000000000) (f2 : F.nI ≤ 1000000000000000) (f3 : F.nH ≤ 1000000000000000) (f4 : F.nR ≤ 1000000000000000) (U : QstV) (Q : Qst) (k : QstAt w U Q) (kq : QstW Q) (nb1 : Q.nb ≤ 1000000000000000) (nr1 : Q.nr ≤ 1000000000000000)
    (hDo : DDoC 12) (hSa : FSameC 27) (sure : ∀ w, Calls Tryz.prog 11 #[] w fun e w' => e = .returned (.bool true) ∧ Ext w w') :
    Calls Tryz.prog 7 #[.agg (filC V F), .agg (qstC U Q)] w fun e w' => e = .returned (.bool true) ∧ Ext w w' := by
  have HSU := Lib.hid sure
  clear sure
  obtain ⟨W0, hW0, e0, HX⟩ : ∃ W0, W0 = (w.alloc (.cells (filC V F) 29)).alloc (.cells (qstC U Q) 31) ∧ Ext w W0 ∧ Hid (∀ W, Ext W0 W → W.heap[w.heap.size]? = some (.cells (filC V F) 29 (0, 0)) ∧ W.heap[w.heap.size + 1]? = some (.cells (qstC U Q) 31 (0, 0))) := ⟨_, rfl, (Ext.alloc w _).trans (Ext.alloc _ _), Lib.hid fun W x => ⟨x.block ((heap_alloc_old _ _ (by simp)).trans (heap_alloc_new w _)), x.block (heap_new_at _ _ (by simp))⟩⟩
  obtain ⟨b1, -⟩ := HX.out _ (Ext.refl W0)
  obtain ⟨A, hA⟩ : ∃ A, decide (F.nC + F.nI + F.nH + F.nR ≤ 4000) = A := ⟨_, rfl⟩
  obtain ⟨B, hB⟩ : ∃ B, fewQA Q = B := ⟨_, rfl⟩
  obtain ⟨K, hK⟩ : ∃ K, decide (Q.k = 15 ∨ Q.k = 16) = K := ⟨_, rfl⟩
  obtain ⟨R, hR⟩ : ∃ R, rightQ Q = R := ⟨_, rfl⟩
  obtain ⟨T, hT⟩ : ∃ T, rightB F = T := ⟨_, rfl⟩
  have KF := Lib.hid (fun W => rfew14_v (V := V) hA f1 f2 f3 f4 W)
  have KG := Lib.hid (fun W => rfew16A_v (V := U) hB nb1 nr1 W)
  have HB := Lib.hid hB
  have KA := Lib.hid (fun W (x : Ext w W) (hb : B = true) => rright15_v hR W (k.ext x) (by have := (fewQA_iff Q).1 (hB.trans hb); omega) (by have := (fewQA_iff Q).1 (hB.trans hb); omega))
  have KR : Hid (∀ W, Calls Tryz.prog 15 #[.agg (filC V F)] W fun e w' => e = .returned (.bool T) ∧ Ext W w') := Lib.hid (fun W => by rw [← hT]; exact rright14_any V F W)
  have HK := Lib.hid hK
  have HA := Lib.hid hA
  have HR := Lib.hid hR
  have HT := Lib.hid hT
  have HQ := Lib.hid k
  have HF := Lib.hid h
  have HDo := Lib.hid hDo
  have HSa := Lib.hid hSa
  have HKQ := Lib.hid kq
  have HFW := Lib.hid hw
  clear hA hB hK hR hT k h hDo hSa kq hw f1 f2 f3 f4 nb1 nr1
  obtain ⟨C, hC⟩ : ∃ C, (!((((A && B) && K) && R) && T)) = C := ⟨_, rfl⟩
  have HC := Lib.hid hC
  clear hC
  go_enter Tryz.func7, Tryz.ntmps7
  go_upto_region 1 with fail
  rw [← hW0]
  clear hW0
  go_cut [42] from 15 to 43 (fun v wx => v = .bool C ∧ Ext W0 wx)
  case first => as_aux_lemma =>
    cases A with
    | false =>
      go_wp2_with (first
        | (refine wpList_load_row rfl 29 (.tmp 2) rfl (w.heap.size) rfl 29 _ (0, 0) _ b1 Tryz.underlying29 rfl (by kernel_rfl) ?_)
        | (go_at_call 9; refine (KF.out _).mono ?_; rintro e w2 ⟨rfl, x2⟩; have c2 := (HX.out _ x2).2; have xx := x2)
        | (refine wpList_load_row_g (by rfl) 31 (.tmp 3) rfl (w.heap.size + 1) rfl 31 _ (0, 0) _ c2 Tryz.underlying31 rfl (by kernel_rfl) ?_)
        | (go_at_call 10; refine (KG.out _).mono ?_; rintro e w3 ⟨rfl, x3⟩; have xx := xx.trans x3; have c2 := (HX.out _ xx).2; have ck : w3.cell? ⟨w.heap.size + 1, 0, none⟩ = some (.int .i64 Q.k) := cell_of_heap c2 rfl)
        | (go_at_call 16; refine (KA.out _ (e0.trans xx) (by trivial)).mono ?_; rintro e w4 ⟨rfl, x4⟩; have xx := xx.trans x4; have b4 := (HX.out _ xx).1)
        | (refine wpList_load_row_g (by rfl) 29 (.tmp 2) rfl (w.heap.size) rfl 29 _ (0, 0) _ b4 Tryz.underlying29 rfl (by kernel_rfl) ?_)
        | (go_at_call 15; refine (KR.out _).mono ?_; rintro e w5 ⟨rfl, x5⟩; have xx := xx.trans x5))
      go_meet
      exact ⟨by rw [← HC.out]; rfl, xx⟩
    | true =>
     cases B with
     | false =>
       go_wp2_with (first
         | (refine wpList_load_row rfl 29 (.tmp 2) rfl (w.heap.size) rfl 29 _ (0, 0) _ b1 Tryz.underlying29 rfl (by kernel_rfl) ?_)
         | (go_at_call 9; refine (KF.out _).mono ?_; rintro e w2 ⟨rfl, x2⟩; have c2 := (HX.out _ x2).2; have xx := x2)
         | (refine wpList_load_row_g (by rfl) 31 (.tmp 3) rfl (w.heap.size + 1) rfl 31 _ (0, 0) _ c2 Tryz.underlying31 rfl (by kernel_rfl) ?_)
         | (go_at_call 10; refine (KG.out _).mono ?_; rintro e w3 ⟨rfl, x3⟩; have xx := xx.trans x3; have c2 := (HX.out _ xx).2; have ck : w3.cell? ⟨w.heap.size + 1, 0, none⟩ = some (.int .i64 Q.k) := cell_of_heap c2 rfl)
         | (go_at_call 16; refine (KA.out _ (e0.trans xx) (by trivial)).mono ?_; rintro e w4 ⟨rfl, x4⟩; have xx := xx.trans x4; have b4 := (HX.out _ xx).1)
         | (refine wpList_load_row_g (by rfl) 29 (.tmp 2) rfl (w.heap.size) rfl 29 _ (0, 0) _ b4 Tryz.underlying29 rfl (by kernel_rfl) ?_)
         | (go_at_call 15; refine (KR.out _).mono ?_; rintro e w5 ⟨rfl, x5⟩; have xx := xx.trans x5))
       go_meet
       exact ⟨by rw [← HC.out]; rfl, xx⟩
     | true =>
      by_cases k15 : Q.k = 15
      · have q1 : (Q.k != 15) = false := by simp [k15]
        obtain rfl : K = true := by rw [← HK.out]; exact decide_eq_true (.inl k15)
        clear k15
        cases R with
        | false =>
          go_wp2_with (first
            | (refine wpList_load_row rfl 29 (.tmp 2) rfl (w.heap.size) rfl 29 _ (0, 0) _ b1 Tryz.underlying29 rfl (by kernel_rfl) ?_)
            | (go_at_call 9; refine (KF.out _).mono ?_; rintro e w2 ⟨rfl, x2⟩; have c2 := (HX.out _ x2).2; have xx := x2)
            | (refine wpList_load_row_g (by rfl) 31 (.tmp 3) rfl (w.heap.size + 1) rfl 31 _ (0, 0) _ c2 Tryz.underlying31 rfl (by kernel_rfl) ?_)
            | (go_at_call 10; refine (KG.out _).mono ?_; rintro e w3 ⟨rfl, x3⟩; have xx := xx.trans x3; have c2 := (HX.out _ xx).2; have ck : w3.cell? ⟨w.heap.size + 1, 0, none⟩ = some (.int .i64 Q.k) := cell_of_heap c2 rfl)
            | (go_at_call 16; refine (KA.out _ (e0.trans xx) (by trivial)).mono ?_; rintro e w4 ⟨rfl, x4⟩; have xx := xx.trans x4; have b4 := (HX.out _ xx).1)
            | (refine wpList_load_row_g (by rfl) 29 (.tmp 2) rfl (w.heap.size) rfl 29 _ (0, 0) _ b4 Tryz.underlying29 rfl (by kernel_rfl) ?_)
            | (go_at_call 15; refine (KR.out _).mono ?_; rintro e w5 ⟨rfl, x5⟩; have xx := xx.trans x5))
          go_meet
          exact ⟨by rw [← HC.out]; rfl, xx⟩
        | true =>
         cases T with
         | false =>
           go_wp2_with (first
             | (refine wpList_load_row rfl 29 (.tmp 2) rfl (w.heap.size) rfl 29 _ (0, 0) _ b1 Tryz.underlying29 rfl (by kernel_rfl) ?_)
             | (go_at_call 9; refine (KF.out _).mono ?_; rintro e w2 ⟨rfl, x2⟩; have c2 := (HX.out _ x2).2; have xx := x2)
             | (refine wpList_load_row_g (by rfl) 31 (.tmp 3) rfl (w.heap.size + 1) rfl 31 _ (0, 0) _ c2 Tryz.underlying31 rfl (by kernel_rfl) ?_)
             | (go_at_call 10; refine (KG.out _).mono ?_; rintro e w3 ⟨rfl, x3⟩; have xx := xx.trans x3; have c2 := (HX.out _ xx).2; have ck : w3.cell? ⟨w.heap.size + 1, 0, none⟩ = some (.int .i64 Q.k) := cell_of_heap c2 rfl)
             | (go_at_call 16; refine (KA.out _ (e0.trans xx) (by trivial)).mono ?_; rintro e w4 ⟨rfl, x4⟩; have xx := xx.trans x4; have b4 := (HX.out _ xx).1)
             | (refine wpList_load_row_g (by rfl) 29 (.tmp 2) rfl (w.heap.size) rfl 29 _ (0, 0) _ b4 Tryz.underlying29 rfl (by kernel_rfl) ?_)
             | (go_at_call 15; refine (KR.out _).mono ?_; rintro e w5 ⟨rfl, x5⟩; have xx := xx.trans x5))
           go_meet
           exact ⟨by rw [← HC.out]; rfl, xx⟩
         | true =>
           go_wp2_with (first
             | (refine wpList_load_row rfl 29 (.tmp 2) rfl (w.heap.size) rfl 29 _ (0, 0) _ b1 Tryz.underlying29 rfl (by kernel_rfl) ?_)
             | (go_at_call 9; refine (KF.out _).mono ?_; rintro e w2 ⟨rfl, x2⟩; have c2 := (HX.out _ x2).2; have xx := x2)
             | (refine wpList_load_row_g (by rfl) 31 (.tmp 3) rfl (w.heap.size + 1) rfl 31 _ (0, 0) _ c2 Tryz.underlying31 rfl (by kernel_rfl) ?_)
             | (go_at_call 10; refine (KG.out _).mono ?_; rintro e w3 ⟨rfl, x3⟩; have xx := xx.trans x3; have c2 := (HX.out _ xx).2; have ck : w3.cell? ⟨w.heap.size + 1, 0, none⟩ = some (.int .i64 Q.k) := cell_of_heap c2 rfl)
             | (go_at_call 16; refine (KA.out _ (e0.trans xx) (by trivial)).mono ?_; rintro e w4 ⟨rfl, x4⟩; have xx := xx.trans x4; have b4 := (HX.out _ xx).1)
             | (refine wpList_load_row_g (by rfl) 29 (.tmp 2) rfl (w.heap.size) rfl 29 _ (0, 0) _ b4 Tryz.underlying29 rfl (by kernel_rfl) ?_)
             | (go_at_call 15; refine (KR.out _).mono ?_; rintro e w5 ⟨rfl, x5⟩; have xx := xx.trans x5))
           go_meet
           exact ⟨by rw [← HC.out]; rfl, xx⟩
      by_cases k16 : Q.k = 16
      · have q1 : (Q.k != 15) = true := by simp [k16]
        have q2 : (Q.k != 16) = false := by simp [k16]
        obtain rfl : K = true := by rw [← HK.out]; exact decide_eq_true (.inr k16)
        clear k16 k15
        cases R with
        | false =>
          go_wp2_with (first
            | (refine wpList_load_row rfl 29 (.tmp 2) rfl (w.heap.size) rfl 29 _ (0, 0) _ b1 Tryz.underlying29 rfl (by kernel_rfl) ?_)
            | (go_at_call 9; refine (KF.out _).mono ?_; rintro e w2 ⟨rfl, x2⟩; have c2 := (HX.out _ x2).2; have xx := x2)
            | (refine wpList_load_row_g (by rfl) 31 (.tmp 3) rfl (w.heap.size + 1) rfl 31 _ (0, 0) _ c2 Tryz.underlying31 rfl (by kernel_rfl) ?_)
            | (go_at_call 10; refine (KG.out _).mono ?_; rintro e w3 ⟨rfl, x3⟩; have xx := xx.trans x3; have c2 := (HX.out _ xx).2; have ck : w3.cell? ⟨w.heap.size + 1, 0, none⟩ = some (.int .i64 Q.k) := cell_of_heap c2 rfl)
            | (go_at_call 16; refine (KA.out _ (e0.trans xx) (by trivial)).mono ?_; rintro e w4 ⟨rfl, x4⟩; have xx := xx.trans x4; have b4 := (HX.out _ xx).1)
            | (refine wpList_load_row_g (by rfl) 29 (.tmp 2) rfl (w.heap.size) rfl 29 _ (0, 0) _ b4 Tryz.underlying29 rfl (by kernel_rfl) ?_)
            | (go_at_call 15; refine (KR.out _).mono ?_; rintro e w5 ⟨rfl, x5⟩; have xx := xx.trans x5))
          go_meet
          exact ⟨by rw [← HC.out]; rfl, xx⟩
        | true =>
         cases T with
         | false =>
           go_wp2_with (first
             | (refine wpList_load_row rfl 29 (.tmp 2) rfl (w.heap.size) rfl 29 _ (0, 0) _ b1 Tryz.underlying29 rfl (by kernel_rfl) ?_)
             | (go_at_call 9; refine (KF.out _).mono ?_; rintro e w2 ⟨rfl, x2⟩; have c2 := (HX.out _ x2).2; have xx := x2)
             | (refine wpList_load_row_g (by rfl) 31 (.tmp 3) rfl (w.heap.size + 1) rfl 31 _ (0, 0) _ c2 Tryz.underlying31 rfl (by kernel_rfl) ?_)
             | (go_at_call 10; refine (KG.out _).mono ?_; rintro e w3 ⟨rfl, x3⟩; have xx := xx.trans x3; have c2 := (HX.out _ xx).2; have ck : w3.cell? ⟨w.heap.size + 1, 0, none⟩ = some (.int .i64 Q.k) := cell_of_heap c2 rfl)
             | (go_at_call 16; refine (KA.out _ (e0.trans xx) (by trivial)).mono ?_; rintro e w4 ⟨rfl, x4⟩; have xx := xx.trans x4; have b4 := (HX.out _ xx).1)
             | (refine wpList_load_row_g (by rfl) 29 (.tmp 2) rfl (w.heap.size) rfl 29 _ (0, 0) _ b4 Tryz.underlying29 rfl (by kernel_rfl) ?_)
             | (go_at_call 15; refine (KR.out _).mono ?_; rintro e w5 ⟨rfl, x5⟩; have xx := xx.trans x5))
           go_meet
           exact ⟨by rw [← HC.out]; rfl, xx⟩
         | true =>
           go_wp2_with (first
             | (refine wpList_load_row rfl 29 (.tmp 2) rfl (w.heap.size) rfl 29 _ (0, 0) _ b1 Tryz.underlying29 rfl (by kernel_rfl) ?_)
             | (go_at_call 9; refine (KF.out _).mono ?_; rintro e w2 ⟨rfl, x2⟩; have c2 := (HX.out _ x2).2; have xx := x2)
             | (refine wpList_load_row_g (by rfl) 31 (.tmp 3) rfl (w.heap.size + 1) rfl 31 _ (0, 0) _ c2 Tryz.underlying31 rfl (by kernel_rfl) ?_)
             | (go_at_call 10; refine (KG.out _).mono ?_; rintro e w3 ⟨rfl, x3⟩; have xx := xx.trans x3; have c2 := (HX.out _ xx).2; have ck : w3.cell? ⟨w.heap.size + 1, 0, none⟩ = some (.int .i64 Q.k) := cell_of_heap c2 rfl)
             | (go_at_call 16; refine (KA.out _ (e0.trans xx) (by trivial)).mono ?_; rintro e w4 ⟨rfl, x4⟩; have xx := xx.trans x4; have b4 := (HX.out _ xx).1)
             | (refine wpList_load_row_g (by rfl) 29 (.tmp 2) rfl (w.heap.size) rfl 29 _ (0, 0) _ b4 Tryz.underlying29 rfl (by kernel_rfl) ?_)
             | (go_at_call 15; refine (KR.out _).mono ?_; rintro e w5 ⟨rfl, x5⟩; have xx := xx.trans x5))
           go_meet
           exact ⟨by rw [← HC.out]; rfl, xx⟩
      · have q1 : (Q.k != 15) = true := by simp [k15]
        have q2 : (Q.k != 16) = true := by simp [k16]
        obtain rfl : K = false := by rw [← HK.out]; exact decide_eq_false (by omega)
        clear k15 k16
        go_wp2_with (first
          | (refine wpList_load_row rfl 29 (.tmp 2) rfl (w.heap.size) rfl 29 _ (0, 0) _ b1 Tryz.underlying29 rfl (by kernel_rfl) ?_)
          | (go_at_call 9; refine (KF.out _).mono ?_; rintro e w2 ⟨rfl, x2⟩; have c2 := (HX.out _ x2).2; have xx := x2)
          | (refine wpList_load_row_g (by rfl) 31 (.tmp 3) rfl (w.heap.size + 1) rfl 31 _ (0, 0) _ c2 Tryz.underlying31 rfl (by kernel_rfl) ?_)
          | (go_at_call 10; refine (KG.out _).mono ?_; rintro e w3 ⟨rfl, x3⟩; have xx := xx.trans x3; have c2 := (HX.out _ xx).2; have ck : w3.cell? ⟨w.heap.size + 1, 0, none⟩ = some (.int .i64 Q.k) := cell_of_heap c2 rfl)
          | (go_at_call 16; refine (KA.out _ (e0.trans xx) (by trivial)).mono ?_; rintro e w4 ⟨rfl, x4⟩; have xx := xx.trans x4; have b4 := (HX.out _ xx).1)
          | (refine wpList_load_row_g (by rfl) 29 (.tmp 2) rfl (w.heap.size) rfl 29 _ (0, 0) _ b4 Tryz.underlying29 rfl (by kernel_rfl) ?_)
          | (go_at_call 15; refine (KR.out _).mono ?_; rintro e w5 ⟨rfl, x5⟩; have xx := xx.trans x5))
        go_meet
        exact ⟨by rw [← HC.out]; rfl, xx⟩
  case rest =>
    obtain ⟨rfl, y3⟩ := hcut
    have y3 : Ext W0 wc := y3
    clear KF KG KA KR b1
    cases C with
    | true =>
      clear HC
      go_wp2_with fail
      refine (HSU.out _).mono ?_; rintro e w4 ⟨rfl, x4⟩
      go_wp2
      go_ret
      exact ⟨rfl, (e0.trans y3).trans x4⟩
    | false =>
      have hall : A = true ∧ B = true ∧ K = true ∧ R = true ∧ T = true := by
        have := HC.out
        cases A <;> cases B <;> cases K <;> cases R <;> cases T <;> (first | (cases this; done) | exact ⟨rfl, rfl, rfl, rfl, rfl⟩)
      obtain ⟨rfl, rfl, rfl, rfl, rfl⟩ := hall
      have hsm := few_small HA.out
      have n12 := (fewQA_iff Q).1 HB.out
      have hkk : Q.k = 15 ∨ Q.k = 16 := of_decide_eq_true HK.out
      have hq := HR.out
      have hr := HT.out
      have af := ask_facts hq
      have hok : okB F Q = true := by unfold okB; rw [hr, hq]; rfl
      obtain ⟨-, -, -, o2, o3, o4⟩ := okB_yes hok
      have KD : Hid (∀ W, Ext w W → Calls Tryz.prog 12 #[.agg (filC V F), .agg (qstC U Q)] W fun e w' => ∃ V' X, e = .returned (.tuple #[.agg (filC V' (datF F Q)), .agg (telC X (datT F Q)), .int .i64 0]) ∧ FilAt w' V' (datF F Q) ∧ TelAt w' X (datT F Q) ∧ Ext W w') := Lib.hid (fun W x => by have hh := HDo.out V F U Q W (HF.out.ext x) HFW.out hsm (HQ.out.ext x) HKQ.out (by omega) (by omega); rw [o2, o3, o4] at hh; exact hh)
      have hct : 1 ≤ Q.ct ∧ Q.ct ≤ 2000 := by
        rcases hkk with h | h
        · have := af.bt h; omega
        · have := af.wd (.inl h); omega
      have had := af.ad
      have hRb := HKQ.out.wR
      have hsm2 := dat_small (F := F) hq hr
      have HNB : Hid ((Q.k = 15 → (Q.nb : Int) = Q.ct) ∧ (Q.k = 16 → (Q.nr : Int) = Q.ct)) := Lib.hid ⟨fun h => (af.bt h).2.2, fun h => (af.wd (.inl h)).2.2⟩
      have K1 : Hid (∀ (i : Nat) (M : FilV) (W : World), (i : Int) < Q.ct → FilAt W M (parF F Q i) → Calls Tryz.prog 12 #[.agg (filC M (parF F Q i)), .agg (qstC zeroQV (oneQ Q i))] W fun e w' => ∃ V' X, e = .returned (.tuple #[.agg (filC V' (dooF (parF F Q i) (oneQ Q i))), .agg (telC X (dooT (parF F Q i) (oneQ Q i))), .int .i64 (dooE (parF F Q i) (oneQ Q i))]) ∧ FilAt w' V' (dooF (parF F Q i) (oneQ Q i)) ∧ TelAt w' X (dooT (parF F Q i) (oneQ Q i)) ∧ Ext W w') := Lib.hid (fun i M W hi hf => HDo.out M (parF F Q i) zeroQV (oneQ Q i) W hf (par_w HFW.out hRb (by
        rcases hkk with h | h
        · exact .inr h
        · have := (af.wd (.inl h)).2.2; exact .inl (by omega))) ((par_same F Q i).2.2 hsm) (none_at _ rfl rfl) (one_w hq hkk hRb hi) (Nat.zero_le _) (Nat.zero_le _))
      have HRB := Lib.hid hRb
      have HGD := Lib.hid (And.intro hq hr)
      have HKK := Lib.hid hkk
      clear hok o2 o3 o4 HDo HFW HKQ HC HA HB HK HR HT n12 hq hr af hkk hRb
      have b3 := (HX.out _ y3).1
      have c3 := (HX.out _ y3).2
      go_upto_region 4 with (first
        | (refine wpList_load_row rfl 29 (.tmp 2) rfl (w.heap.size) rfl 29 _ (0, 0) _ b3 Tryz.underlying29 rfl (by kernel_rfl) ?_)
        | (refine wpList_load_row rfl 31 (.tmp 3) rfl (w.heap.size + 1) rfl 31 _ (0, 0) _ c3 Tryz.underlying31 rfl (by kernel_rfl) ?_)
        | (go_at_call 12; refine (KD.out _ (e0.trans y3)).mono ?_; rintro e w5 ⟨V4, X4, rfl, hF4, hT4, x5⟩; have r5 := toldFT w5 #[.int .i64 0, .int .i64 0, .int .i64 0, .int .i64 0, .int .i64 0, .int .i64 0, .int .i64 0, .int .i64 0, .int .i64 0, .int .i64 0, .slice none 0 0, .slice none 0 0, .slice none 0 0, .slice none 0 0] (filC V4 (datF F Q)) #[.int .i64 0, .int .i64 0, .int .i64 0, .int .i64 0, .int .i64 0, .int .i64 0, .int .i64 0, .slice none 0 0, .slice none 0 0] (telC X4 (datT F Q)) 29 37)
        | (refine wpList_store_row rfl 29 (.tmp 5) (.tmp 48) rfl w5.heap.size _ rfl rfl 29 _ r5.2.2.2.1 (by kernel_rfl) rfl (by simp [filC, Value.oneCell']) ?_)
        | (refine wpList_store_row rfl 37 (.tmp 6) (.tmp 49) rfl (w5.heap.size + 1) _ rfl rfl 37 _ r5.2.2.2.2 (by kernel_rfl) rfl (by simp [telC, Value.oneCell']) ?_))
      obtain ⟨W5, hW5, z5, g5, g6⟩ : ∃ W, W = ((((w5.alloc (.cells #[.int .i64 0, .int .i64 0, .int .i64 0, .int .i64 0, .int .i64 0, .int .i64 0, .int .i64 0, .int .i64 0, .int .i64 0, .int .i64 0, .slice none 0 0, .slice none 0 0, .slice none 0 0, .slice none 0 0] 29)).alloc (.cells #[.int .i64 0, .int .i64 0, .int .i64 0, .int .i64 0, .int .i64 0, .int .i64 0, .int .i64 0, .slice none 0 0, .slice none 0 0] 37)).setRow w5.heap.size (filC V4 (datF F Q))).setRow (w5.heap.size + 1) (telC X4 (datT F Q))) ∧ Ext w5 W ∧ W.heap[w5.heap.size]? = some (.cells (filC V4 (datF F Q)) 29 (0, 0)) ∧ W.heap[w5.heap.size + 1]? = some (.cells (telC X4 (datT F Q)) 37 (0, 0)) := ⟨_, rfl, r5.1, r5.2.1, r5.2.2.1⟩
      rw [← hW5]
      clear hW5 r5
      generalize w5.heap.size = G5 at g5 g6 ⊢
      have hF4 := hF4.ext z5
      have y5 := y3.trans (x5.trans z5)
      have e5 := e0.trans y5
      have b5 := (HX.out _ y5).1
      clear b3 c3 y3 x5 z5 KD hT4
      go_upto_region 5 with (first
        | (refine wpList_load_row rfl 29 (.tmp 2) rfl (w.heap.size) rfl 29 _ (0, 0) _ b5 Tryz.underlying29 rfl (by kernel_rfl) ?_)
        | (refine wpList_store_row rfl 29 (.tmp 8) (.tmp 51) rfl W5.heap.size _ rfl rfl 29 _ (heap_alloc_new W5 _) (by kernel_rfl) rfl (by simp [filC, Value.oneCell']) ?_))
      obtain ⟨W8, hW8, z8, g8⟩ : ∃ W, W = ((W5.alloc (.cells #[.int .i64 0, .int .i64 0, .int .i64 0, .int .i64 0, .int .i64 0, .int .i64 0, .int .i64 0, .int .i64 0, .int .i64 0, .int .i64 0, .slice none 0 0, .slice none 0 0, .slice none 0 0, .slice none 0 0] 29)).setRow W5.heap.size (filC V F)) ∧ Ext W5 W ∧ W.heap[W5.heap.size]? = some (.cells (filC V F) 29 (0, 0)) := ⟨_, rfl, toldF _ _ _ _⟩
      rw [← hW8]
      clear hW8 b5
      have hS0 : ParS W5 W8 W5.heap.size V (parF F Q 0) := by rw [par_zero]; exact ⟨z8, g8, (HF.out.ext e5).ext z8, Nat.le_refl _⟩
      have HG5 := Lib.hid g5
      have HG6 := Lib.hid g6
      have HF4 := Lib.hid hF4
      generalize hG8 : W5.heap.size = G8 at hS0 ⊢
      have HL8 := Lib.hid hG8
      clear g5 g6 hF4 z8 g8 hG8
      go_wp2_with fail
      go_loopw [9, 10] (fun av iv wr => ∃ (i : Nat) (VV : FilV), (i : Int) ≤ Q.ct ∧ av = .bool true ∧ iv = .int .i64 i ∧ ParS W5 wr G8 VV (parF F Q i) ∧ (∀ j : Nat, j < i → datE F (oneQ Q j) = 0)) (fun _ iv _ => Q.ct.toNat - (intOf iv).toNat)
      case atStart => exact ⟨0, V, by omega, rfl, rfl, hS0, fun j hj => absurd hj (Nat.not_lt_zero j)⟩
      case round =>
        clear hS0
        obtain ⟨i, VV, hi, rfl, rfl, hs, hdone⟩ := hrel
        have HS := Lib.hid hs
        have HD := Lib.hid hdone
        clear hs hdone
        have yr := y5.trans HS.out.x
        have cr := (HX.out _ yr).2
        have p2 : wr.cell? ⟨w.heap.size + 1, 2, none⟩ = some (.int .i64 Q.ct) := cell_of_heap cr rfl
        by_cases hlt : (i : Int) < Q.ct
        · have had2 : IntKind.i64.wrap (Q.ad + i) = Q.ad + i := IntWalk.i64_in _ (by omega)
          have p1 : wr.cell? ⟨w.heap.size + 1, 1, none⟩ = some (.int .i64 Q.ad) := cell_of_heap cr rfl
          have pk : ∀ o, (wr.alloc o).cell? ⟨w.heap.size + 1, 0, none⟩ = some (.int .i64 Q.k) := fun o => (Ext.alloc wr o).cell (heap_lt cr) (cell_of_heap cr rfl)
          go_upto_if 65 with fail
          go_cut [11] from 65 to 81 (fun v wx => v = .pointer (some ⟨wr.heap.size, 0, none⟩) ∧ Ext wr wx ∧ wx.heap[wr.heap.size]? = some (.cells (qstC zeroQV (oneQ Q i)) 31 (0, 0)))
          case first => as_aux_lemma =>
            have hok := HKK.out
            by_cases h15 : Q.k = 15
            · have hnb : i < Q.nb := by have := HNB.out.1 h15; omega
              have hbk : (Q.k == 15) = true := by simp [h15]
              have p8 : ∀ o, (wr.alloc o).cell? ⟨w.heap.size + 1, 8, none⟩ = some (.slice U.a1 Q.nb U.d1) := fun o => (Ext.alloc wr o).cell (heap_lt cr) (cell_of_heap cr rfl)
              obtain ⟨sb, so, ea, hsl, hsc⟩ := ((HQ.out.ext (e0.trans yr)).h1).resolve_left (by omega)
              rw [ea] at p8
              have ps : ∀ o, (wr.alloc o).cell? ⟨sb, so + i, none⟩ = some (.bool (Q.B i)) := fun o => (Ext.alloc wr o).cell hsl (hsc i hnb)
              have hnbI : (i : Int) < Q.nb := by omega
              have HO : Hid (∀ v : Int, v = (if Q.B i = true then 65280 else 0) → qstC zeroQV (oneQ Q i) = #[.int .i64 5, .int .i64 (Q.ad + i), .int .i64 0, .int .i64 v, .int .i64 0, .int .i64 0, .int .i64 0, .int .i64 0, .slice none 0 0, .slice none 0 0]) := Lib.hid (fun v hv => by unfold qstC oneQ; rw [if_pos h15, if_pos h15, hv]; rfl)
              obtain ⟨X, hX⟩ : ∃ X, Q.B i = X := ⟨_, rfl⟩
              rw [hX] at ps HO
              clear hsc hX h15 hok ea
              cases X with
              | true =>
                go_wp2_with fail
                go_meet
                refine ⟨rfl, Ext.alloc _ _, ?_⟩
                rw [HO.out 65280 rfl]; exact heap_alloc_new _ _
              | false =>
                go_wp2_with fail
                go_meet
                refine ⟨rfl, Ext.alloc _ _, ?_⟩
                rw [HO.out 0 rfl]; exact heap_alloc_new _ _
            · have h16 : Q.k = 16 := by omega
              have hnb : i < Q.nr := by have := HNB.out.2 h16; omega
              have hbk : (Q.k == 15) = false := by simp [h15]
              have p8 : ∀ o, (wr.alloc o).cell? ⟨w.heap.size + 1, 9, none⟩ = some (.slice U.a2 Q.nr U.d2) := fun o => (Ext.alloc wr o).cell (heap_lt cr) (cell_of_heap cr rfl)
              obtain ⟨sb, so, ea, hsl, hsc⟩ := ((HQ.out.ext (e0.trans yr)).h2).resolve_left (by omega)
              rw [ea] at p8
              have ps : ∀ o, (wr.alloc o).cell? ⟨sb, so + i, none⟩ = some (.int .u16 (Q.R i)) := fun o => (Ext.alloc wr o).cell hsl (hsc i hnb)
              have hnbI : (i : Int) < Q.nr := by omega
              have hbd := HRB.out i hnb
              have hwr : IntKind.i64.wrap (Q.R i) = Q.R i := IntWalk.i64_in _ (by omega)
              have HO : Hid (qstC zeroQV (oneQ Q i) = #[.int .i64 6, .int .i64 (Q.ad + i), .int .i64 0, .int .i64 (Q.R i), .int .i64 0, .int .i64 0, .int .i64 0, .int .i64 0, .slice none 0 0, .slice none 0 0]) := Lib.hid (by unfold qstC oneQ; rw [if_neg h15, if_neg h15]; rfl)
              clear hsc h15 h16 hok ea hbd
              go_wp2_with fail
              go_meet
              refine ⟨rfl, Ext.alloc _ _, ?_⟩
              rw [HO.out]; exact heap_alloc_new _ _
          case rest =>
            obtain ⟨rfl, xc, gc⟩ := hcut
            have xc : Ext wr wc := xc
            have HSc := Lib.hid (HS.out.ext xc)
            have b8 := HSc.out.b
            clear p1 p2 cr HS pk
            go_upto_region 15 with (first
              | (refine wpList_load_row rfl 29 (.tmp 8) rfl (G8) rfl 29 _ (0, 0) _ b8 Tryz.underlying29 rfl (by kernel_rfl) ?_)
              | (refine wpList_load_row rfl 31 (.tmp 11) rfl (wr.heap.size) rfl 31 _ (0, 0) _ gc Tryz.underlying31 rfl (by kernel_rfl) ?_)
              | (go_at_call 12; refine (K1.out i VV _ hlt HSc.out.f).mono ?_; rintro e wd ⟨Vd, Xd, rfl, hFd, hTd, xd⟩; have rd := toldFT wd #[.int .i64 0, .int .i64 0, .int .i64 0, .int .i64 0, .int .i64 0, .int .i64 0, .int .i64 0, .int .i64 0, .int .i64 0, .int .i64 0, .slice none 0 0, .slice none 0 0, .slice none 0 0, .slice none 0 0] (filC Vd (dooF (parF F Q i) (oneQ Q i))) #[.int .i64 0, .int .i64 0, .int .i64 0, .int .i64 0, .int .i64 0, .int .i64 0, .int .i64 0, .slice none 0 0, .slice none 0 0] (telC Xd (dooT (parF F Q i) (oneQ Q i))) 29 37)
              | (refine wpList_store_row rfl 29 (.tmp 12) (.tmp 84) rfl wd.heap.size _ rfl rfl 29 _ rd.2.2.2.1 (by kernel_rfl) rfl (by simp [filC, Value.oneCell']) ?_)
              | (refine wpList_store_row rfl 37 (.tmp 13) (.tmp 85) rfl (wd.heap.size + 1) _ rfl rfl 37 _ rd.2.2.2.2 (by kernel_rfl) rfl (by simp [telC, Value.oneCell']) ?_))
            obtain ⟨We, hWe, ze, gd, ge⟩ : ∃ W, W = ((((wd.alloc (.cells #[.int .i64 0, .int .i64 0, .int .i64 0, .int .i64 0, .int .i64 0, .int .i64 0, .int .i64 0, .int .i64 0, .int .i64 0, .int .i64 0, .slice none 0 0, .slice none 0 0, .slice none 0 0, .slice none 0 0] 29)).alloc (.cells #[.int .i64 0, .int .i64 0, .int .i64 0, .int .i64 0, .int .i64 0, .int .i64 0, .int .i64 0, .slice none 0 0, .slice none 0 0] 37)).setRow wd.heap.size (filC Vd (dooF (parF F Q i) (oneQ Q i)))).setRow (wd.heap.size + 1) (telC Xd (dooT (parF F Q i) (oneQ Q i)))) ∧ Ext wd W ∧ W.heap[wd.heap.size]? = some (.cells (filC Vd (dooF (parF F Q i) (oneQ Q i))) 29 (0, 0)) ∧ W.heap[wd.heap.size + 1]? = some (.cells (telC Xd (dooT (parF F Q i) (oneQ Q i))) 37 (0, 0)) := ⟨_, rfl, rd.1, rd.2.1, rd.2.2.1⟩
            rw [← hWe]
            clear hWe rd b8 gc
            generalize wd.heap.size = GD at gd ge ⊢
            have xe := xd.trans ze
            have HSe := Lib.hid (HSc.out.ext xe)
            have hFd := hFd.ext ze
            clear ze xd hTd HSc
            obtain ⟨hq, hr⟩ := HGD.out
            have hpar := par_same F Q i
            cases hok : okB (parF F Q i) (oneQ Q i) with
            | false =>
              obtain ⟨-, o2, -, -⟩ := okB_no hok
              have hno : datE F Q ≠ 0 := many_no hq HKK.out hlt (.inl fun h => by
                have h1 := (one_right hq HKK.out HRB.out hlt).2 h
                unfold okB at hok
                rw [hpar.1, hr, h1] at hok
                cases hok)
              rw [o2]
              have HNo := Lib.hid hno
              clear hok o2 hno hq hr hpar gd ge hFd
              have yf := y5.trans HSe.out.x
              have hc := datT_cd' F Q
              have cE : We.cell? ⟨G5 + 1, 1, none⟩ = some (.int .i64 (datE F Q)) := num_cell hc (cell_of_heap (HSe.out.x.block HG6.out) rfl)
              have hEb : (datE F Q != 0) = true := by simp [HNo.out]
              have g5 := HSe.out.x.block HG5.out
              have b2 := (HX.out _ yf).1
              have hf4 := HF4.out.ext HSe.out.x
              have hgf := (datF_no HNo.out).1
              rw [hgf] at g5 hf4
              have hfF := HF.out.ext (e0.trans yf)
              generalize datE F Q = EE at cE hEb
              clear hc hgf
              go_wp2_with (first
                | (refine wpList_load_row_g (by rfl) 29 (.tmp 5) rfl (G5) rfl 29 _ (0, 0) _ g5 Tryz.underlying29 rfl (by kernel_rfl) ?_)
                | (refine wpList_load_row_g (by rfl) 29 (.tmp 2) rfl (w.heap.size) rfl 29 _ (0, 0) _ b2 Tryz.underlying29 rfl (by kernel_rfl) ?_)
                | (go_at_call 27; refine (HSa.out V4 _ V _ _ hf4 hfF hsm hsm).mono ?_; rintro e wf ⟨rfl, xf⟩; rw [sameF_self])
                | (go_at_call 11; refine (HSU.out _).mono ?_; rintro e wg ⟨rfl, xg⟩))
              go_ret
              exact ⟨rfl, ((e0.trans yf).trans xf).trans xg⟩
            | true =>
              obtain ⟨-, hone, o1, o2, o3, o4⟩ := okB_yes hok
              rw [o4] at ge
              rw [o2]
              have hcd := datT_cd' (parF F Q i) (oneQ Q i)
              rw [hpar.2.1] at hcd
              have pe : We.cell? ⟨GD + 1, 1, none⟩ = some (.int .i64 (datE F (oneQ Q i))) := num_cell hcd (cell_of_heap ge rfl)
              by_cases hz : datE F (oneQ Q i) = 0
              · have hst := par_step hr HKK.out hone hz (by
                  rcases Nat.eq_zero_or_pos i with h | h
                  · exact .inl h
                  · exact .inr (HD.out 0 h))
                rw [o3, hst] at gd hFd
                rw [hz] at pe
                have HZ := Lib.hid hz
                have b8 := HSe.out.b
                clear hok o1 o2 o3 o4 hone hcd hz hst hq hr hpar ge
                go_wp2_with (first
                  | (refine wpList_load_row rfl 29 (.tmp 12) rfl (GD) rfl 29 _ (0, 0) _ gd Tryz.underlying29 rfl (by kernel_rfl) ?_)
                  | (refine wpList_store_row rfl 29 (.tmp 8) (.tmp 94) rfl G8 _ rfl rfl 29 _ b8 (by kernel_rfl) rfl (by simp [filC, Value.oneCell']) ?_))
                go_roundw
                case rel => exact ⟨i + 1, Vd, by omega, rfl, by go_num, HSe.out.set hFd, fun j hj => by
                                rcases Nat.lt_or_ge j i with h | h
                                · exact HD.out j h
                                · obtain rfl : j = i := by omega
                                  exact HZ.out⟩
                case measure => simp [intOf]; omega
              · have hno : datE F Q ≠ 0 := many_no hq HKK.out hlt (.inr hz)
                have hzb : (datE F (oneQ Q i) != 0) = true := by simp [hz]
                have HNo := Lib.hid hno
                clear hok o1 o2 o3 o4 hone hcd hz hno hq hr hpar gd ge hFd
                have yf := y5.trans HSe.out.x
                have hc := datT_cd' F Q
                have cE : We.cell? ⟨G5 + 1, 1, none⟩ = some (.int .i64 (datE F Q)) := num_cell hc (cell_of_heap (HSe.out.x.block HG6.out) rfl)
                have hEb : (datE F Q != 0) = true := by simp [HNo.out]
                have g5 := HSe.out.x.block HG5.out
                have b2 := (HX.out _ yf).1
                have hf4 := HF4.out.ext HSe.out.x
                have hgf := (datF_no HNo.out).1
                rw [hgf] at g5 hf4
                have hfF := HF.out.ext (e0.trans yf)
                generalize datE F Q = EE at cE hEb
                clear hc hgf
                go_wp2_with (first
                  | (refine wpList_load_row_g (by rfl) 29 (.tmp 5) rfl (G5) rfl 29 _ (0, 0) _ g5 Tryz.underlying29 rfl (by kernel_rfl) ?_)
                  | (refine wpList_load_row_g (by rfl) 29 (.tmp 2) rfl (w.heap.size) rfl 29 _ (0, 0) _ b2 Tryz.underlying29 rfl (by kernel_rfl) ?_)
                  | (go_at_call 27; refine (HSa.out V4 _ V _ _ hf4 hfF hsm hsm).mono ?_; rintro e wf ⟨rfl, xf⟩; rw [sameF_self])
                  | (go_at_call 11; refine (HSU.out _).mono ?_; rintro e wg ⟨rfl, xg⟩))
                go_ret
                exact ⟨rfl, ((e0.trans yf).trans xf).trans xg⟩
        · have hii : (i : Int) = Q.ct := by omega
          obtain ⟨hq, hr⟩ := HGD.out
          have h0 : datE F Q = 0 := many_ok hq hr HKK.out fun j hj => HD.out j (by omega)
          have hpa := par_all hq hr HKK.out h0 hii
          have hc := datT_cd' F Q
          have c0 : wr.cell? ⟨G5 + 1, 1, none⟩ = some (.int .i64 0) := num_cell (hc.trans h0) (cell_of_heap (HS.out.x.block HG6.out) rfl)
          have g5 := HS.out.x.block HG5.out
          have b8 := HS.out.b
          have hfr := HS.out.f
          rw [hpa] at b8 hfr
          have hf4 := HF4.out.ext HS.out.x
          have hlt2 : decide ((i : Int) < Q.ct) = false := decide_eq_false hlt
          clear hpa h0 hc hii hq hr HD
          go_wp2_with (first
            | (refine wpList_load_row_g (by rfl) 29 (.tmp 5) rfl (G5) rfl 29 _ (0, 0) _ g5 Tryz.underlying29 rfl (by kernel_rfl) ?_)
            | (refine wpList_load_row_g (by rfl) 29 (.tmp 8) rfl (G8) rfl 29 _ (0, 0) _ b8 Tryz.underlying29 rfl (by kernel_rfl) ?_)
            | (go_at_call 27; refine (HSa.out V4 _ VV _ _ hf4 hfr hsm2 hsm2).mono ?_; rintro e wf ⟨rfl, xf⟩; rw [sameF_self])
            | (go_at_call 11; refine (HSU.out _).mono ?_; rintro e wg ⟨rfl, xg⟩))
          go_ret
          exact ⟨rfl, ((e0.trans yr).trans xf).trans xg⟩
end Go.Proofs.YtlafnobjfajamaaGreat
