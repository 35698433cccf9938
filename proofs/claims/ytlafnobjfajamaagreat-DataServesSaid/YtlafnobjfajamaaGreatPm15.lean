/-
  LAYER 17, PLAIN: what is done with the tables by an ask, and what is told then.
  LAYER 17, PLAIN: what follows of what is done with the tables.
  LAYER 17: what Serve tells, plain; package data's contracts, as definitions over the function's number: what the laws take.
  CONTRACTS: bilgeref17 (layer 17): Code; answers through more cells than one.
-/
import Derived.Test.YtlafnobjfajamaaGreatPm7
import Derived.Test.YtlafnobjfajamaaGreatPm13
import Derived.Test.YtlafnobjfajamaaGreatPm14
import Derived.Test.YtlafnobjfajamaaGreatPm17
import Derived.Test.YtlafnobjfajamaaGreatPm1
namespace Go.Proofs.YtlafnobjfajamaaGreat
open Go.RowKit
set_option linter.unusedVariables false

def writesB (k : Int) : Bool := decide (k = 5 ∨ k = 6 ∨ k = 15 ∨ k = 16 ∨ k = 22 ∨ k = 23)
theorem writes_iff (k : Int) : writesB k = true ↔ k = 5 ∨ k = 6 ∨ k = 15 ∨ k = 16 ∨ k = 22 ∨ k = 23 := by unfold writesB; rw [decide_eq_true_iff]
/-- Of 23: the error of what is written and the one of what is read. -/
def bothE (e g : Int) : Int := if e = 2 ∨ g = 2 then 2 else if g ≠ 0 then g else e
/-- By which exception an ask is refused. -/
def datE (F : Fil) (Q : Qst) : Int :=
  if Q.k = 1 ∨ Q.k = 2 then bitE F (decide (Q.k = 2)) Q.ad Q.ct
  else if Q.k = 3 ∨ Q.k = 4 then wrdE F (decide (Q.k = 4)) Q.ad Q.ct
  else if Q.k = 5 then bitE F false Q.ad 1
  else if Q.k = 6 ∨ Q.k = 22 then wrdE F false Q.ad 1
  else if Q.k = 15 then bitE F false Q.ad Q.ct
  else if Q.k = 16 then wrdE F false Q.ad Q.ct
  else if Q.k = 23 then bothE (wrdE F false Q.ad Q.ct) (wrdE F false Q.fr Q.mn)
  else 0
/-- A word masked: cells.Mask's, as a number. -/
def mskQ (x a o : Int) : Int := vM (mskV (BitVec.ofInt 16 x) (BitVec.ofInt 16 a) (BitVec.ofInt 16 o))
/-- The tables behind what is asked. -/
def datF (F : Fil) (Q : Qst) : Fil :=
  if datE F Q ≠ 0 then F
  else if Q.k = 5 then sbF F Q.ad 1 (fun _ => decide (Q.va = 65280))
  else if Q.k = 6 then swF F Q.ad 1 (fun _ => Q.va)
  else if Q.k = 15 then sbF F Q.ad Q.nb Q.B
  else if Q.k = 16 ∨ Q.k = 23 then swF F Q.ad Q.nr Q.R
  else if Q.k = 22 then swF F Q.ad 1 (fun _ => mskQ (wrdL F false Q.ad 0) Q.an Q.oo)
  else F
/-- What is told then. -/
def datT (F : Fil) (Q : Qst) : Tel :=
  if datE F Q ≠ 0 then { zeroT with k := Q.k, cd := datE F Q }
  else if Q.k = 1 ∨ Q.k = 2 then { zeroT with k := Q.k, nb := bitN F (decide (Q.k = 2)) Q.ad Q.ct, B := bitL F (decide (Q.k = 2)) Q.ad }
  else if Q.k = 3 ∨ Q.k = 4 then { zeroT with k := Q.k, nr := wrdN F (decide (Q.k = 4)) Q.ad Q.ct, R := wrdL F (decide (Q.k = 4)) Q.ad }
  else if Q.k = 5 ∨ Q.k = 6 then { zeroT with k := Q.k, ad := Q.ad, va := Q.va }
  else if Q.k = 15 ∨ Q.k = 16 then { zeroT with k := Q.k, ad := Q.ad, ct := Q.ct }
  else if Q.k = 22 then { zeroT with k := Q.k, ad := Q.ad, an := Q.an, oo := Q.oo }
  else if Q.k = 23 then { zeroT with k := Q.k, nr := wrdN (datF F Q) false Q.fr Q.mn, R := wrdL (datF F Q) false Q.fr }
  else { zeroT with k := Q.k }
theorem datF_no {F : Fil} {Q : Qst} (h : datE F Q ≠ 0) : datF F Q = F ∧ datT F Q = { zeroT with k := Q.k, cd := datE F Q } := by unfold datF datT; rw [if_pos h, if_pos h]; exact ⟨rfl, rfl⟩
theorem dat_reads {F : Fil} {Q : Qst} (h : writesB Q.k = false) : datF F Q = F := by
  have hn : ¬ (Q.k = 5 ∨ Q.k = 6 ∨ Q.k = 15 ∨ Q.k = 16 ∨ Q.k = 22 ∨ Q.k = 23) := fun hh => by have := (writes_iff Q.k).2 hh; rw [h] at this; cases this
  unfold datF
  split
  · rfl
  · rw [if_neg (by omega), if_neg (by omega), if_neg (by omega), if_neg (by omega), if_neg (by omega)]
end Go.Proofs.YtlafnobjfajamaaGreat
namespace Go.Proofs.YtlafnobjfajamaaGreat
open Go.RowKit
set_option linter.unusedVariables false

theorem ofInt_vM (x : BitVec 16) : BitVec.ofInt 16 (vM x) = x := by unfold vM; simp
/-- What an ask that may be has. -/
structure AskF (Q : Qst) : Prop where
  kn : Q.k = 1 ∨ Q.k = 2 ∨ Q.k = 3 ∨ Q.k = 4 ∨ Q.k = 5 ∨ Q.k = 6 ∨ Q.k = 15 ∨ Q.k = 16 ∨ Q.k = 22 ∨ Q.k = 23
  ad : 0 ≤ Q.ad ∧ Q.ad ≤ 65535
  rd : Q.k = 1 ∨ Q.k = 2 ∨ Q.k = 3 ∨ Q.k = 4 → 1 ≤ Q.ct ∧ Q.ct ≤ 2000
  bt : Q.k = 15 → 1 ≤ Q.ct ∧ Q.ct ≤ 2000 ∧ (Q.nb : Int) = Q.ct
  wd : Q.k = 16 ∨ Q.k = 23 → 1 ≤ Q.ct ∧ Q.ct ≤ 125 ∧ (Q.nr : Int) = Q.ct
  mn : Q.k = 23 → 1 ≤ Q.mn ∧ Q.mn ≤ 125
  v5 : Q.k = 5 → Q.va = 0 ∨ Q.va = 65280
  v6 : Q.k = 6 → 0 ≤ Q.va ∧ Q.va ≤ 65535
  ms : Q.k = 22 → 0 ≤ Q.an ∧ Q.an ≤ 65535 ∧ 0 ≤ Q.oo ∧ Q.oo ≤ 65535
  c0 : Q.k = 5 ∨ Q.k = 6 ∨ Q.k = 22 → Q.ct = 0
theorem ask_facts {Q : Qst} (h : rightQ Q = true) : AskF Q := by
  obtain ⟨hkn, ho, had, hf⟩ := (rightQ_iff Q).1 h
  have hk := (known_iff Q.k).1 hkn
  unfold onlyP at ho
  unfold fitsB at hf
  rcases hk with hk | hk | hk | hk | hk | hk | hk | hk | hk | hk <;>
  · simp (config := { decide := true }) only [hk, if_true, if_false, Bool.and_eq_true, inB_iff, decide_eq_true_iff, true_implies, false_implies, true_and, and_true, or_true, or_false] at ho hf
    constructor <;> omega
theorem rd_ways {f c n x k : Int} (h : rgtB f c = true) (hn : n = c) (hk : 1 ≤ k) : rdE f c n x k = 0 ∨ rdE f c n x k = 2 := by
  unfold rdE; rw [if_pos ⟨h, hn, hk⟩]; split
  · exact .inl rfl
  · exact .inr rfl
theorem brk_ways {F : Fil} {e x k : Int} (h : e = 0 ∨ e = 2) : brkE F e x k = 0 ∨ brkE F e x k = 2 ∨ brkE F e x k = 4 := by
  unfold brkE; split
  · exact .inr (.inr rfl)
  · rcases h with h | h
    · exact .inl h
    · exact .inr (.inl h)
theorem bit_ways {F : Fil} (hr : rightB F = true) (i : Bool) (x k : Int) (hk : 1 ≤ k) : bitE F i x k = 0 ∨ bitE F i x k = 2 := by
  obtain ⟨hb, h1, h2, h3, h4⟩ := (rightB_iff F).1 hr
  obtain ⟨b1, b2, b3, b4, b5⟩ := (bankB_iff F).1 hb
  cases i
  · rw [(bitE_out hr).1]; exact rd_ways b1 h1 hk
  · rw [(bitE_in hr).1]; exact rd_ways b2 h2 hk
theorem wrd_ways {F : Fil} (hr : rightB F = true) (i : Bool) (x k : Int) (hk : 1 ≤ k) : wrdE F i x k = 0 ∨ wrdE F i x k = 2 ∨ wrdE F i x k = 4 := by
  obtain ⟨hb, h1, h2, h3, h4⟩ := (rightB_iff F).1 hr
  obtain ⟨b1, b2, b3, b4, b5⟩ := (bankB_iff F).1 hb
  unfold wrdE
  rw [if_pos hr]
  cases i
  · rw [if_neg (by decide)]; exact brk_ways (rd_ways b3 h3 hk)
  · rw [if_pos rfl]
    rcases rd_ways (x := x) b4 h4 hk with h | h
    · exact .inl h
    · exact .inr (.inl h)
theorem datE_ways {F : Fil} {Q : Qst} (hr : rightB F = true) (hq : rightQ Q = true) : datE F Q = 0 ∨ datE F Q = 2 ∨ datE F Q = 4 := by
  have a := ask_facts hq
  have two : ∀ {e : Int}, e = 0 ∨ e = 2 → e = 0 ∨ e = 2 ∨ e = 4 := fun h => by omega
  unfold datE
  by_cases h1 : Q.k = 1 ∨ Q.k = 2
  · rw [if_pos h1]; exact two (bit_ways hr _ _ _ (a.rd (by omega)).1)
  rw [if_neg h1]
  by_cases h2 : Q.k = 3 ∨ Q.k = 4
  · rw [if_pos h2]; exact wrd_ways hr _ _ _ (a.rd (by omega)).1
  rw [if_neg h2]
  by_cases h3 : Q.k = 5
  · rw [if_pos h3]; exact two (bit_ways hr _ _ _ (by omega))
  rw [if_neg h3]
  by_cases h4 : Q.k = 6 ∨ Q.k = 22
  · rw [if_pos h4]; exact wrd_ways hr _ _ _ (by omega)
  rw [if_neg h4]
  by_cases h5 : Q.k = 15
  · rw [if_pos h5]; exact two (bit_ways hr _ _ _ (a.bt h5).1)
  rw [if_neg h5]
  by_cases h6 : Q.k = 16
  · rw [if_pos h6]; exact wrd_ways hr _ _ _ (a.wd (.inl h6)).1
  rw [if_neg h6]
  by_cases h7 : Q.k = 23
  · rw [if_pos h7]
    have g1 := wrd_ways hr false Q.ad Q.ct (a.wd (.inr h7)).1
    have g2 := wrd_ways hr false Q.fr Q.mn (a.mn h7).1
    unfold bothE
    split
    · exact .inr (.inl rfl)
    · split
      · exact g2
      · exact g1
  · rw [if_neg h7]; exact .inl rfl
theorem both_zero {e g : Int} (h : bothE e g = 0) : e = 0 ∧ g = 0 := by
  unfold bothE at h
  split at h
  · cases h
  · split at h <;> omega
/-- How many are written, and which. -/
def wrN (Q : Qst) : Nat := if Q.k = 15 then Q.nb else if Q.k = 16 ∨ Q.k = 23 then Q.nr else 1
def wrB (Q : Qst) : Nat → Bool := if Q.k = 5 then fun _ => decide (Q.va = 65280) else Q.B
def wrW (F : Fil) (Q : Qst) : Nat → Int := if Q.k = 6 then fun _ => Q.va else if Q.k = 22 then fun _ => mskQ (wrdL F false Q.ad 0) Q.an Q.oo else Q.R
/-- Writing bits, as done. -/
theorem dat_bits {F : Fil} {Q : Qst} (hq : rightQ Q = true) (hr : rightB F = true) (h0 : datE F Q = 0) (hk : Q.k = 5 ∨ Q.k = 15) : datF F Q = { F with C := wrF F.C (wrB Q) F.cf Q.ad (wrN Q) } ∧ bitE F false Q.ad (wrN Q) = 0 := by
  have a := ask_facts hq
  by_cases h5 : Q.k = 5
  · have e1 : wrN Q = 1 := by unfold wrN; rw [if_neg (by omega), if_neg (by omega)]
    have e2 : wrB Q = fun _ => decide (Q.va = 65280) := by unfold wrB; rw [if_pos h5]
    have e3 : bitE F false Q.ad 1 = 0 := by unfold datE at h0; rw [if_neg (by omega), if_neg (by omega), if_pos h5] at h0; exact h0
    have e4 : sbE F Q.ad 1 = 0 := e3
    rw [e1, e2]
    refine ⟨?_, e3⟩
    unfold datF
    rw [if_neg (by omega), if_pos h5]
    unfold sbF
    rw [if_pos e4]
  · have h15 : Q.k = 15 := by omega
    have hn := (a.bt h15).2.2
    have e1 : wrN Q = Q.nb := by unfold wrN; rw [if_pos h15]
    have e2 : wrB Q = Q.B := by unfold wrB; rw [if_neg h5]
    have e3 : bitE F false Q.ad (Q.nb : Nat) = 0 := by unfold datE at h0; rw [if_neg (by omega), if_neg (by omega), if_neg h5, if_neg (by omega), if_pos h15] at h0; rw [hn]; exact h0
    have e4 : sbE F Q.ad Q.nb = 0 := e3
    rw [e1, e2]
    refine ⟨?_, e3⟩
    unfold datF
    rw [if_neg (by omega), if_neg h5, if_neg (by omega), if_pos h15]
    unfold sbF
    rw [if_pos e4]
/-- Writing words, as done. -/
theorem dat_words {F : Fil} {Q : Qst} (hq : rightQ Q = true) (hr : rightB F = true) (h0 : datE F Q = 0) (hk : Q.k = 6 ∨ Q.k = 16 ∨ Q.k = 22 ∨ Q.k = 23) : datF F Q = { F with H := wrF F.H (wrW F Q) F.hf Q.ad (wrN Q) } ∧ wrdE F false Q.ad (wrN Q) = 0 := by
  have a := ask_facts hq
  by_cases h6 : Q.k = 6
  · have e1 : wrN Q = 1 := by unfold wrN; rw [if_neg (by omega), if_neg (by omega)]
    have e2 : wrW F Q = fun _ => Q.va := by unfold wrW; rw [if_pos h6]
    have e3 : wrdE F false Q.ad 1 = 0 := by unfold datE at h0; rw [if_neg (by omega), if_neg (by omega), if_neg (by omega), if_pos (by omega)] at h0; exact h0
    have e4 : swE F Q.ad 1 = 0 := e3
    rw [e1, e2]
    refine ⟨?_, e3⟩
    unfold datF
    rw [if_neg (by omega), if_neg (by omega), if_pos h6]
    unfold swF
    rw [if_pos e4]
  by_cases h22 : Q.k = 22
  · have e1 : wrN Q = 1 := by unfold wrN; rw [if_neg (by omega), if_neg (by omega)]
    have e2 : wrW F Q = fun _ => mskQ (wrdL F false Q.ad 0) Q.an Q.oo := by unfold wrW; rw [if_neg h6, if_pos h22]
    have e3 : wrdE F false Q.ad 1 = 0 := by unfold datE at h0; rw [if_neg (by omega), if_neg (by omega), if_neg (by omega), if_pos (by omega)] at h0; exact h0
    have e4 : swE F Q.ad 1 = 0 := e3
    rw [e1, e2]
    refine ⟨?_, e3⟩
    unfold datF
    rw [if_neg (by omega), if_neg (by omega), if_neg h6, if_neg (by omega), if_neg (by omega), if_pos h22]
    unfold swF
    rw [if_pos e4]
  · have hw : Q.k = 16 ∨ Q.k = 23 := by omega
    have hn := (a.wd hw).2.2
    have e1 : wrN Q = Q.nr := by unfold wrN; rw [if_neg (by omega), if_pos hw]
    have e2 : wrW F Q = Q.R := by unfold wrW; rw [if_neg h6, if_neg h22]
    have e3 : wrdE F false Q.ad (Q.nr : Nat) = 0 := by
      unfold datE at h0; rw [if_neg (by omega), if_neg (by omega), if_neg (by omega), if_neg (by omega), if_neg (by omega)] at h0
      rw [hn]
      by_cases h16 : Q.k = 16
      · rw [if_pos h16] at h0; exact h0
      · rw [if_neg h16, if_pos (by omega)] at h0; exact (both_zero h0).1
    have e4 : swE F Q.ad Q.nr = 0 := e3
    rw [e1, e2]
    refine ⟨?_, e3⟩
    unfold datF
    rw [if_neg (by omega), if_neg (by omega), if_neg h6, if_neg (by omega), if_pos hw]
    unfold swF
    rw [if_pos e4]
/-- The ways of what is done: nothing, bits, or words. -/
theorem dat_ways {F : Fil} {Q : Qst} (hq : rightQ Q = true) (hr : rightB F = true) : datF F Q = F ∨ (∃ C, datF F Q = { F with C := C }) ∨ ∃ H, datF F Q = { F with H := H } := by
  by_cases h0 : datE F Q = 0
  · cases hw : writesB Q.k with
    | false => exact .inl (dat_reads hw)
    | true =>
      have hk := (writes_iff Q.k).1 hw
      by_cases h5 : Q.k = 5 ∨ Q.k = 15
      · exact .inr (.inl ⟨_, (dat_bits hq hr h0 h5).1⟩)
      · exact .inr (.inr ⟨_, (dat_words hq hr h0 (by omega)).1⟩)
  · exact .inl (datF_no h0).1
theorem dat_right {F : Fil} {Q : Qst} (hq : rightQ Q = true) (hr : rightB F = true) : rightB (datF F Q) = true ∧ sbankB (datF F Q) F = true ∧ (∀ Q', datE (datF F Q) Q' = datE F Q') := by
  have hb : sbankB F F = true := by unfold sbankB; simp [eqW_self]
  rcases dat_ways hq hr with h | ⟨C, h⟩ | ⟨H, h⟩
  · rw [h]; exact ⟨hr, hb, fun _ => rfl⟩
  · rw [h]; exact ⟨hr, hb, fun _ => rfl⟩
  · rw [h]; exact ⟨hr, hb, fun _ => rfl⟩
theorem dat_small {F : Fil} {Q : Qst} (hq : rightQ Q = true) (hr : rightB F = true) : Small (datF F Q) := Small.of_right (dat_right hq hr).1
theorem told_right {Q : Qst} {T : Tel} (hq : rightQ Q = true) (hc : T.cd = 0) (h1 : Alike16 T (wholeT Q T.nb T.B T.nr T.R)) (h2 : cntB Q T = true) : rightT Q T = true := by
  rw [tright_yes hq, if_pos hc, (sameT_iff _ _).2 h1, h2]; rfl
/-- What is told answers what was asked. -/
theorem dat_told {F : Fil} {Q : Qst} (hq : rightQ Q = true) (hr : rightB F = true) : rightT Q (datT F Q) = true := by
  have a := ask_facts hq
  by_cases h0 : datE F Q = 0
  · have hne : ¬ datE F Q ≠ 0 := fun h => h h0
    have h0' := h0
    unfold datE at h0
    by_cases k1 : Q.k = 1 ∨ Q.k = 2
    · rw [if_pos k1] at h0
      have hT : datT F Q = { zeroT with k := Q.k, nb := bitN F (decide (Q.k = 2)) Q.ad Q.ct, B := bitL F (decide (Q.k = 2)) Q.ad } := by unfold datT; rw [if_neg hne, if_pos k1]
      have hN : bitN F (decide (Q.k = 2)) Q.ad Q.ct = Q.ct.toNat := by unfold bitN; rw [if_pos h0]
      have hc := (a.rd (by omega)).1
      rw [hT, hN]
      refine told_right hq rfl ?_ ?_
      · unfold wholeT; rw [if_pos k1]; exact ⟨rfl, rfl, rfl, rfl, rfl, rfl, rfl, rfl, fun _ _ => rfl, rfl, fun _ _ => rfl⟩
      · unfold cntB; rw [if_pos k1]; exact decide_eq_true (by show (Q.ct.toNat : Int) = Q.ct; omega)
    rw [if_neg k1] at h0
    by_cases k3 : Q.k = 3 ∨ Q.k = 4
    · rw [if_pos k3] at h0
      have hT : datT F Q = { zeroT with k := Q.k, nr := wrdN F (decide (Q.k = 4)) Q.ad Q.ct, R := wrdL F (decide (Q.k = 4)) Q.ad } := by unfold datT; rw [if_neg hne, if_neg k1, if_pos k3]
      have hN : wrdN F (decide (Q.k = 4)) Q.ad Q.ct = Q.ct.toNat := by unfold wrdN; rw [if_pos h0]
      have hc := (a.rd (by omega)).1
      rw [hT, hN]
      refine told_right hq rfl ?_ ?_
      · unfold wholeT; rw [if_neg k1, if_pos (by omega)]; exact ⟨rfl, rfl, rfl, rfl, rfl, rfl, rfl, rfl, fun _ _ => rfl, rfl, fun _ _ => rfl⟩
      · unfold cntB; rw [if_neg k1, if_pos k3]; exact decide_eq_true (by show (Q.ct.toNat : Int) = Q.ct; omega)
    rw [if_neg k3] at h0
    by_cases k5 : Q.k = 5 ∨ Q.k = 6
    · have hT : datT F Q = { zeroT with k := Q.k, ad := Q.ad, va := Q.va } := by unfold datT; rw [if_neg hne, if_neg k1, if_neg k3, if_pos k5]
      rw [hT]
      refine told_right hq rfl ?_ ?_
      · unfold wholeT; rw [if_neg k1, if_neg (by omega), if_pos k5]; exact ⟨rfl, rfl, rfl, rfl, rfl, rfl, rfl, rfl, fun _ _ => rfl, rfl, fun _ _ => rfl⟩
      · unfold cntB; rw [if_neg k1, if_neg k3, if_neg (by omega)]
    by_cases k15 : Q.k = 15 ∨ Q.k = 16
    · have hT : datT F Q = { zeroT with k := Q.k, ad := Q.ad, ct := Q.ct } := by unfold datT; rw [if_neg hne, if_neg k1, if_neg k3, if_neg k5, if_pos k15]
      rw [hT]
      refine told_right hq rfl ?_ ?_
      · unfold wholeT; rw [if_neg k1, if_neg (by omega), if_neg k5, if_pos k15]; exact ⟨rfl, rfl, rfl, rfl, rfl, rfl, rfl, rfl, fun _ _ => rfl, rfl, fun _ _ => rfl⟩
      · unfold cntB; rw [if_neg k1, if_neg k3, if_neg (by omega)]
    by_cases k22 : Q.k = 22
    · have hT : datT F Q = { zeroT with k := Q.k, ad := Q.ad, an := Q.an, oo := Q.oo } := by unfold datT; rw [if_neg hne, if_neg k1, if_neg k3, if_neg k5, if_neg k15, if_pos k22]
      rw [hT]
      refine told_right hq rfl ?_ ?_
      · unfold wholeT; rw [if_neg k1, if_neg (by omega), if_neg k5, if_neg k15, if_pos k22]; exact ⟨rfl, rfl, rfl, rfl, rfl, rfl, rfl, rfl, fun _ _ => rfl, rfl, fun _ _ => rfl⟩
      · unfold cntB; rw [if_neg k1, if_neg k3, if_neg (by omega)]
    · have k23 : Q.k = 23 := by have := a.kn; omega
      rw [if_neg (by omega), if_neg (by omega), if_neg (by omega), if_neg (by omega), if_pos k23] at h0
      have hT : datT F Q = { zeroT with k := Q.k, nr := wrdN (datF F Q) false Q.fr Q.mn, R := wrdL (datF F Q) false Q.fr } := by unfold datT; rw [if_neg hne, if_neg k1, if_neg k3, if_neg k5, if_neg k15, if_neg k22, if_pos k23]
      have hN : wrdN (datF F Q) false Q.fr Q.mn = Q.mn.toNat := by
        have e : wrdE (datF F Q) false Q.fr Q.mn = 0 := by rw [(dat_words hq hr h0' (by omega)).1]; exact (both_zero h0).2
        unfold wrdN; rw [if_pos e]
      have hc := (a.mn k23).1
      rw [hT, hN]
      refine told_right hq rfl ?_ ?_
      · unfold wholeT; rw [if_neg k1, if_pos (by omega)]; exact ⟨rfl, rfl, rfl, rfl, rfl, rfl, rfl, rfl, fun _ _ => rfl, rfl, fun _ _ => rfl⟩
      · unfold cntB; rw [if_neg k1, if_neg k3, if_pos k23]; exact decide_eq_true (by show (Q.mn.toNat : Int) = Q.mn; omega)
  · have hw := datE_ways hr hq
    rw [(datF_no h0).2, tright_yes hq, if_neg h0, (sameT_iff _ _).2 ⟨rfl, rfl, rfl, rfl, rfl, rfl, rfl, rfl, fun _ _ => rfl, rfl, fun _ _ => rfl⟩, Bool.and_true, inB_iff]
    show 1 ≤ datE F Q ∧ datE F Q ≤ 4
    omega
/-- Each word is one. -/
structure FilW (F : Fil) : Prop where
  h : ∀ i, i < F.nH → 0 ≤ F.H i ∧ F.H i < 65536
  r : ∀ i, i < F.nR → 0 ≤ F.R i ∧ F.R i < 65536
theorem mskQ_bd (x a o : Int) : 0 ≤ mskQ x a o ∧ mskQ x a o < 65536 := ⟨vM_lo _, vM_hi _⟩
theorem dat_w {F : Fil} {Q : Qst} (hq : rightQ Q = true) (hr : rightB F = true) (hw : FilW F) (hR : ∀ i, i < Q.nr → 0 ≤ Q.R i ∧ Q.R i < 65536) : FilW (datF F Q) := by
  have a := ask_facts hq
  by_cases h0 : datE F Q = 0
  · cases hw' : writesB Q.k with
    | false => rw [dat_reads hw']; exact hw
    | true =>
      have hk := (writes_iff Q.k).1 hw'
      by_cases h5 : Q.k = 5 ∨ Q.k = 15
      · rw [(dat_bits hq hr h0 h5).1]; exact ⟨hw.h, hw.r⟩
      · rw [(dat_words hq hr h0 (by omega)).1]
        refine ⟨fun i hi => ?_, hw.r⟩
        show 0 ≤ wrF F.H (wrW F Q) F.hf Q.ad (wrN Q) i ∧ wrF F.H (wrW F Q) F.hf Q.ad (wrN Q) i < 65536
        unfold wrF
        split
        · exact hw.h i hi
        · split
          · rename_i h1 h2
            unfold wrW
            split
            · have h6 := a.v6 (by omega); exact ⟨h6.1, by show Q.va < 65536; omega⟩
            · split
              · exact mskQ_bd _ _ _
              · refine hR _ ?_
                unfold wrN at h2
                rw [if_neg (by omega), if_pos (by omega)] at h2
                omega
          · exact hw.h i hi
  · rw [(datF_no h0).1]; exact hw
theorem wrd_bd {F : Fil} (hw : FilW F) (i : Bool) (x k : Int) (hk : 1 ≤ k) (j : Nat) (hj : j < wrdN F i x k) : 0 ≤ wrdL F i x j ∧ wrdL F i x j < 65536 := by
  unfold wrdN at hj
  by_cases h0 : wrdE F i x k = 0
  · rw [if_pos h0] at hj
    cases hr : rightB F with
    | false => rw [(wrdE_no i hr).1] at h0; cases h0
    | true =>
      unfold wrdE at h0
      rw [if_pos hr] at h0
      unfold wrdL
      cases i with
      | true =>
        rw [if_pos rfl] at h0 ⊢
        unfold rdE at h0
        split at h0
        · rename_i h1
          split at h0
          · rename_i h2
            have := (holdB_iff _ _ _ _).1 h2
            unfold rdF
            exact hw.r _ (by have := h1.2.1; omega)
          · cases h0
        · cases h0
      | false =>
        rw [if_neg (by decide)] at h0 ⊢
        unfold brkE at h0
        split at h0
        · cases h0
        · unfold rdE at h0
          split at h0
          · rename_i h1
            split at h0
            · rename_i h2
              have := (holdB_iff _ _ _ _).1 h2
              unfold rdF
              exact hw.h _ (by have := h1.2.1; omega)
            · cases h0
          · cases h0
  · rw [if_neg h0] at hj; exact absurd hj (Nat.not_lt_zero j)
theorem told_w {F : Fil} {Q : Qst} (hq : rightQ Q = true) (hr : rightB F = true) (hw : FilW F) (hR : ∀ i, i < Q.nr → 0 ≤ Q.R i ∧ Q.R i < 65536) : ∀ i, i < (datT F Q).nr → 0 ≤ (datT F Q).R i ∧ (datT F Q).R i < 65536 := by
  have a := ask_facts hq
  have hw' := dat_w hq hr hw hR
  unfold datT
  split
  · intro i hi; exact absurd hi (Nat.not_lt_zero i)
  split
  · intro i hi; exact absurd hi (Nat.not_lt_zero i)
  split
  · intro i hi; exact wrd_bd hw _ _ _ (a.rd (by omega)).1 i hi
  split
  · intro i hi; exact absurd hi (Nat.not_lt_zero i)
  split
  · intro i hi; exact absurd hi (Nat.not_lt_zero i)
  split
  · intro i hi; exact absurd hi (Nat.not_lt_zero i)
  split
  · intro i hi; exact wrd_bd hw' _ _ _ (a.mn (by omega)).1 i hi
  · intro i hi; exact absurd hi (Nat.not_lt_zero i)
end Go.Proofs.YtlafnobjfajamaaGreat
namespace Go.Proofs.YtlafnobjfajamaaGreat
open Go.RowKit
set_option linter.unusedVariables false

theorem told_small {Q : Qst} {T : Tel} (h : rightT Q T = true) : T.nb ≤ 2000 ∧ T.nr ≤ 125 := by
  by_cases hc : T.cd = 0
  · obtain ⟨c1, c2, c3, c4⟩ := tcnt h hc
    by_cases k1 : Q.k = 1 ∨ Q.k = 2
    · have := c1 k1; omega
    by_cases k3 : Q.k = 3 ∨ Q.k = 4
    · have := c2 k3; omega
    by_cases k23 : Q.k = 23
    · have := c3 k23; omega
    · have := c4 k1 (by omega); omega
  · obtain ⟨ha, -, -⟩ := tright_code h hc
    have h1 : T.nb = 0 := ha.nb
    have h2 : T.nr = 0 := ha.nr
    omega
theorem wf_small {x : Int} (h0 : 0 ≤ x) (h1 : x ≤ 65535) : (Lit.int .i64 x).wf = true := by simp [Lit.wf, IntKind.min, IntKind.max, IntKind.signed, IntKind.bits]; omega
theorem qst_w {Q : Qst} (h : rightQ Q = true) (hR : ∀ i, i < Q.nr → 0 ≤ Q.R i ∧ Q.R i < 65536) : QstW Q := by
  have a := ask_facts h
  obtain ⟨-, ho, -, hf⟩ := (rightQ_iff Q).1 h
  have hk := a.kn
  unfold onlyP at ho
  unfold fitsB at hf
  have key : (0 ≤ Q.k ∧ Q.k ≤ 65535) ∧ (0 ≤ Q.ct ∧ Q.ct ≤ 65535) ∧ (0 ≤ Q.va ∧ Q.va ≤ 65535) ∧ (0 ≤ Q.an ∧ Q.an ≤ 65535) ∧ (0 ≤ Q.oo ∧ Q.oo ≤ 65535) ∧ (0 ≤ Q.fr ∧ Q.fr ≤ 65535) ∧ (0 ≤ Q.mn ∧ Q.mn ≤ 65535) := by
    rcases hk with hk | hk | hk | hk | hk | hk | hk | hk | hk | hk <;>
    · simp (config := { decide := true }) only [hk, if_true, if_false, Bool.and_eq_true, inB_iff, decide_eq_true_iff, true_implies, false_implies, true_and, and_true, or_true, or_false] at ho hf
      omega
  obtain ⟨k1, k2, k3, k4, k5, k6, k7⟩ := key
  exact ⟨wf_small k1.1 k1.2, wf_small a.ad.1 a.ad.2, wf_small k2.1 k2.2, wf_small k3.1 k3.2, wf_small k4.1 k4.2, wf_small k5.1 k5.2, wf_small k6.1 k6.2, wf_small k7.1 k7.2, hR⟩
/-- Code's, Do's, of whatever there is. -/
def okB (F : Fil) (Q : Qst) : Bool := rightB F && rightQ Q
def codE (F : Fil) (Q : Qst) : Int := if okB F Q = true then datE F Q else 11
def dooE (F : Fil) (Q : Qst) : Int := if okB F Q = true then 0 else 11
def dooF (F : Fil) (Q : Qst) : Fil := if okB F Q = true then datF F Q else zeroF
def dooT (F : Fil) (Q : Qst) : Tel := if okB F Q = true then datT F Q else zeroT
theorem okB_yes {F : Fil} {Q : Qst} (h : okB F Q = true) : rightB F = true ∧ rightQ Q = true ∧ codE F Q = datE F Q ∧ dooE F Q = 0 ∧ dooF F Q = datF F Q ∧ dooT F Q = datT F Q := by
  have h2 : rightB F = true ∧ rightQ Q = true := by unfold okB at h; rwa [Bool.and_eq_true] at h
  exact ⟨h2.1, h2.2, if_pos h, if_pos h, if_pos h, if_pos h⟩
theorem okB_no {F : Fil} {Q : Qst} (h : okB F Q = false) : codE F Q = 11 ∧ dooE F Q = 11 ∧ dooF F Q = zeroF ∧ dooT F Q = zeroT := by
  have h' : ¬ okB F Q = true := by rw [h]; decide
  exact ⟨if_neg h', if_neg h', if_neg h', if_neg h'⟩
/-- Serve's. -/
def srvE (F : Fil) (n : Nat) (f : Nat → Int) : Int := if rightB F = false then 11 else if n = 0 then 12 else if f 0 = 0 ∨ 128 ≤ f 0 then 15 else 0
def srvF (F : Fil) (n : Nat) (f : Nat → Int) : Fil := if srvE F n f ≠ 0 then F else if paE n f = 0 then datF F (paQ n f) else F
def srvN (F : Fil) (n : Nat) (f : Nat → Int) : Nat := if srvE F n f ≠ 0 then 0 else if paE n f = 0 then tsayN (datT F (paQ n f)) else 2
def srvB (F : Fil) (n : Nat) (f : Nat → Int) : Nat → Int := if paE n f = 0 then tsayF (datT F (paQ n f)) else fun i => if i = 0 then f 0 + 128 else paE n f
theorem srvE_ways (F : Fil) (n : Nat) (f : Nat → Int) : (srvE F n f = 11 ∧ rightB F = false) ∨ (srvE F n f = 12 ∧ rightB F = true ∧ n = 0) ∨ (srvE F n f = 15 ∧ rightB F = true ∧ n ≠ 0 ∧ (f 0 = 0 ∨ 128 ≤ f 0)) ∨ (srvE F n f = 0 ∧ rightB F = true ∧ n ≠ 0 ∧ ¬ (f 0 = 0 ∨ 128 ≤ f 0)) := by
  unfold srvE
  cases hr : rightB F with
  | false => rw [if_pos rfl]; exact .inl ⟨rfl, rfl⟩
  | true =>
    rw [if_neg (by decide)]
    by_cases h0 : n = 0
    · rw [if_pos h0]; exact .inr (.inl ⟨rfl, rfl, h0⟩)
    · rw [if_neg h0]
      by_cases h1 : f 0 = 0 ∨ 128 ≤ f 0
      · rw [if_pos h1]; exact .inr (.inr (.inl ⟨rfl, rfl, h0, h1⟩))
      · rw [if_neg h1]; exact .inr (.inr (.inr ⟨rfl, rfl, h0, h1⟩))
theorem srv_err {F : Fil} {n : Nat} {f : Nat → Int} {E : Int} (h : srvE F n f = E) (h0 : E ≠ 0) : srvE F n f = E ∧ srvF F n f = F ∧ srvN F n f = 0 := by
  have : srvE F n f ≠ 0 := by rw [h]; exact h0
  exact ⟨h, if_pos this, if_pos this⟩
theorem srv_not {F : Fil} {n : Nat} {f : Nat → Int} (h : srvE F n f = 0) (hp : paE n f ≠ 0) : srvF F n f = F ∧ srvN F n f = 2 ∧ srvB F n f = fun i => if i = 0 then f 0 + 128 else paE n f := by
  have : ¬ srvE F n f ≠ 0 := fun hh => hh h
  exact ⟨by unfold srvF; rw [if_neg this, if_neg hp], by unfold srvN; rw [if_neg this, if_neg hp], by unfold srvB; rw [if_neg hp]⟩
theorem srv_does {F : Fil} {n : Nat} {f : Nat → Int} (h : srvE F n f = 0) (hp : paE n f = 0) : srvF F n f = datF F (paQ n f) ∧ srvN F n f = tsayN (datT F (paQ n f)) ∧ srvB F n f = tsayF (datT F (paQ n f)) := by
  have : ¬ srvE F n f ≠ 0 := fun hh => hh h
  exact ⟨by unfold srvF; rw [if_neg this, if_pos hp], by unfold srvN; rw [if_neg this, if_pos hp], by unfold srvB; rw [if_pos hp]⟩
def DWritesC (Fn : FuncId) : Prop := ∀ (k : Int) (w : World), Calls Tryz.prog Fn #[.int .i64 k] w fun e w' => e = .returned (.bool (writesB k)) ∧ Ext w w'
def DCodeC (Fn : FuncId) : Prop := ∀ (V : FilV) (F : Fil) (U : QstV) (Q : Qst) (w : World), FilAt w V F → FilW F → Small F → QstAt w U Q → QstW Q → Q.nb ≤ 1000000 → Q.nr ≤ 1000000 →
    Calls Tryz.prog Fn #[.agg (filC V F), .agg (qstC U Q)] w fun e w' => e = .returned (.int .i64 (codE F Q)) ∧ Ext w w'
def DDoC (Fn : FuncId) : Prop := ∀ (V : FilV) (F : Fil) (U : QstV) (Q : Qst) (w : World), FilAt w V F → FilW F → Small F → QstAt w U Q → QstW Q → Q.nb ≤ 1000000 → Q.nr ≤ 1000000 →
    Calls Tryz.prog Fn #[.agg (filC V F), .agg (qstC U Q)] w fun e w' => ∃ V' X, e = .returned (.tuple #[.agg (filC V' (dooF F Q)), .agg (telC X (dooT F Q)), .int .i64 (dooE F Q)]) ∧ FilAt w' V' (dooF F Q) ∧ TelAt w' X (dooT F Q) ∧ Ext w w'
def ServeP (F : Fil) (n : Nat) (f : Nat → Int) (w : World) (e : Ending) (w' : World) : Prop := ∃ V' G b q, e = .returned (.tuple #[.agg (filC V' G), .slice b (srvN F n f) q, .int .i64 (srvE F n f)]) ∧ (srvE F n f ≠ 11 → G = srvF F n f) ∧ FilAt w' V' G ∧ HoldsG (Value.int .u8) w' b (srvN F n f) (srvB F n f) ∧ Ext w w'
def DServeC (Fn : FuncId) : Prop := ∀ (V : FilV) (F : Fil) (a : Option Addr) (n c : Nat) (f : Nat → Int) (w : World), FilAt w V F → FilW F → Small F → Holds .u8 w a n f → n ≤ 100000 → n ≤ c → c ≤ maxLen → (∀ i, i < n → 0 ≤ f i ∧ f i < 256) →
    Calls Tryz.prog Fn #[.agg (filC V F), .slice a n c] w (ServeP F n f w)
end Go.Proofs.YtlafnobjfajamaaGreat
namespace Go.Proofs.YtlafnobjfajamaaGreat
open Go.RowKit
set_option linter.unusedVariables false
set_option maxRecDepth 100000

section
variable {P : Program} {fn : Func} {p q u v : Tmp} {ty tz : TypeId} (tmps : Array Value) (w : World) (g h : Nat) (t s : TypeId) (cs ds : Array Value) (fr gr : Nat × Nat) (d e : TypeDesc)
theorem results_rows (hr : fn.results = #[.cell p ty, .cell q tz])
    (hp : tmps.getD p undef = .pointer (some ⟨g, 0, none⟩)) (hg : w.heap[g]? = some (.cells cs t fr)) (hu : P.underlying ty = some d) (hd : (match d with | .struct _ | .array _ _ => true | _ => false) = true) (hi : (P.info? ty).map (·.size) = some cs.size)
    (hq : tmps.getD q undef = .pointer (some ⟨h, 0, none⟩)) (hh : w.heap[h]? = some (.cells ds s gr)) (hv : P.underlying tz = some e) (he : (match e with | .struct _ | .array _ _ => true | _ => false) = true) (hj : (P.info? tz).map (·.size) = some ds.size) :
    (results fn tmps).run P w = .ok (.tuple #[.agg cs, .agg ds]) w := by
  have hp' : tmps[p]?.getD undef = .pointer (some ⟨g, 0, none⟩) := by simpa using hp
  have hq' : tmps[q]?.getD undef = .pointer (some ⟨h, 0, none⟩) := by simpa using hq
  simp [results, hr, hp', hq', asAddr, Sem.run_bind, Result.andThen, run_loadVar_row w g t ty cs fr d hg hu hd hi, run_loadVar_row w h s tz ds gr e hh hv he hj]
theorem results_rows_tmp (hr : fn.results = #[.cell p ty, .cell q tz, .tmp u])
    (hp : tmps.getD p undef = .pointer (some ⟨g, 0, none⟩)) (hg : w.heap[g]? = some (.cells cs t fr)) (hu : P.underlying ty = some d) (hd : (match d with | .struct _ | .array _ _ => true | _ => false) = true) (hi : (P.info? ty).map (·.size) = some cs.size)
    (hq : tmps.getD q undef = .pointer (some ⟨h, 0, none⟩)) (hh : w.heap[h]? = some (.cells ds s gr)) (hv : P.underlying tz = some e) (he : (match e with | .struct _ | .array _ _ => true | _ => false) = true) (hj : (P.info? tz).map (·.size) = some ds.size) :
    (results fn tmps).run P w = .ok (.tuple #[.agg cs, .agg ds, tmps.getD u undef]) w := by
  have hp' : tmps[p]?.getD undef = .pointer (some ⟨g, 0, none⟩) := by simpa using hp
  have hq' : tmps[q]?.getD undef = .pointer (some ⟨h, 0, none⟩) := by simpa using hq
  simp [results, hr, hp', hq', asAddr, Sem.run_bind, Result.andThen, run_loadVar_row w g t ty cs fr d hg hu hd hi, run_loadVar_row w h s tz ds gr e hh hv he hj]
theorem results_row_tmps (hr : fn.results = #[.cell p ty, .tmp u, .tmp v])
    (hp : tmps.getD p undef = .pointer (some ⟨g, 0, none⟩)) (hg : w.heap[g]? = some (.cells cs t fr)) (hu : P.underlying ty = some d) (hd : (match d with | .struct _ | .array _ _ => true | _ => false) = true) (hi : (P.info? ty).map (·.size) = some cs.size) :
    (results fn tmps).run P w = .ok (.tuple #[.agg cs, tmps.getD u undef, tmps.getD v undef]) w := by
  have hp' : tmps[p]?.getD undef = .pointer (some ⟨g, 0, none⟩) := by simpa using hp
  simp [results, hr, hp', asAddr, Result.andThen, run_loadVar_row w g t ty cs fr d hg hu hd hi]
end
/-- A row that holds no bool and no word: nobody's cells lie there. -/
def PlainC (cs : Array Value) : Prop := (∀ b, .bool b ∉ cs) ∧ ∀ y, .int .u16 y ∉ cs
theorem plain_fil (V : FilV) (F : Fil) : PlainC (filC V F) := ⟨fun b h => by simp [filC] at h, fun b h => by simp [filC] at h⟩
theorem plain_tel (V : QstV) (T : Tel) : PlainC (telC V T) := ⟨fun b h => by simp [telC] at h, fun b h => by simp [telC] at h⟩
theorem held_off {α : Type} {mk : α → Value} {w w' : World} {g : Nat} {cs : Array Value} {t : TypeId} {x : Option Addr} {m : Nat} {B : Nat → α} (hg : w.heap[g]? = some (.cells cs t (0, 0))) (hn : ∀ u, mk u ∉ cs) (hs : w.heap.size ≤ w'.heap.size) (hk : ∀ k, k ≠ g → w'.heap[k]? = w.heap[k]?) (h : HoldsG mk w x m B) : HoldsG mk w' x m B := by
  by_cases hm : m = 0
  · exact .inl hm
  · obtain ⟨b, off, ha, hlt, hc⟩ := h.resolve_left hm
    have hb : b ≠ g := by
      rintro rfl
      have h0 := hc 0 (by omega)
      rw [cell_of_row _ _ _ _ _ _ hg] at h0
      exact hn _ (Array.mem_of_getElem? h0)
    refine .inr ⟨b, off, ha, Nat.lt_of_lt_of_le hlt hs, fun i hi => ?_⟩
    rw [← hc i hi]
    simp only [World.cell?, hk b hb]
theorem FilAt.row {w : World} {V : FilV} {F : Fil} {g : Nat} {cs : Array Value} {t : TypeId} (h : FilAt w V F) (hg : w.heap[g]? = some (.cells cs t (0, 0))) (hp : PlainC cs) (ds : Array Value) : FilAt (w.setRow g ds) V F :=
  have e := fun k (hk : k ≠ g) => setRow_other w g k ds hk
  have s : w.heap.size ≤ (w.setRow g ds).heap.size := by simp [World.setRow]
  ⟨held_off hg hp.1 s e h.h1, h.l1, h.m1, held_off hg hp.1 s e h.h2, h.l2, h.m2, held_off hg hp.2 s e h.h3, h.l3, h.m3, held_off hg hp.2 s e h.h4, h.l4, h.m4⟩
theorem FilAt.cell {w : World} {V : FilV} {F : Fil} {g : Nat} {cs : Array Value} {t : TypeId} (h : FilAt w V F) (hg : w.heap[g]? = some (.cells cs t (0, 0))) (hp : PlainC cs) (o : Nat) (v : Value) : FilAt (w.setCell ⟨g, o, none⟩ v) V F :=
  have e := fun k (hk : k ≠ g) => heap_setCell_other w ⟨g, o, none⟩ k v hk
  have s : w.heap.size ≤ (w.setCell ⟨g, o, none⟩ v).heap.size := by simp [World.setCell]
  ⟨held_off hg hp.1 s e h.h1, h.l1, h.m1, held_off hg hp.1 s e h.h2, h.l2, h.m2, held_off hg hp.2 s e h.h3, h.l3, h.m3, held_off hg hp.2 s e h.h4, h.l4, h.m4⟩
theorem TelAt.row {w : World} {V : QstV} {T : Tel} {g : Nat} {cs : Array Value} {t : TypeId} (h : TelAt w V T) (hg : w.heap[g]? = some (.cells cs t (0, 0))) (hp : PlainC cs) (ds : Array Value) : TelAt (w.setRow g ds) V T :=
  have e := fun k (hk : k ≠ g) => setRow_other w g k ds hk
  have s : w.heap.size ≤ (w.setRow g ds).heap.size := by simp [World.setRow]
  ⟨held_off hg hp.1 s e h.h1, h.l1, h.m1, held_off hg hp.2 s e h.h2, h.l2, h.m2⟩
theorem TelAt.cell {w : World} {V : QstV} {T : Tel} {g : Nat} {cs : Array Value} {t : TypeId} (h : TelAt w V T) (hg : w.heap[g]? = some (.cells cs t (0, 0))) (hp : PlainC cs) (o : Nat) (v : Value) : TelAt (w.setCell ⟨g, o, none⟩ v) V T :=
  have e := fun k (hk : k ≠ g) => heap_setCell_other w ⟨g, o, none⟩ k v hk
  have s : w.heap.size ≤ (w.setCell ⟨g, o, none⟩ v).heap.size := by simp [World.setCell]
  ⟨held_off hg hp.1 s e h.h1, h.l1, h.m1, held_off hg hp.2 s e h.h2, h.l2, h.m2⟩
theorem num_cell {w : World} {a : Addr} {k n : Int} (hk : k = n) (h : w.cell? a = some (.int .i64 k)) : w.cell? a = some (.int .i64 n) := by rw [← hk]; exact h
theorem frozen0 {w : World} {B j : Nat} {cs : Array Value} {t : TypeId} (h : w.heap[B]? = some (.cells cs t (0, 0))) : w.frozen? ⟨B, j, none⟩ = false := by simp [World.frozen?, h]

set_option maxHeartbeats 2000000 in
theorem rcode17_1 (V : FilV) (F : Fil) (U : QstV) (Q : Qst) (w : World) (hF : FilAt w V F) (hW : QstW Q) (hk : Q.k = 1) : Calls Tryz.prog 20 #[.agg (filC V F), .agg (qstC U Q)] w fun e w' => e = .returned (.int .i64 (datE F Q)) ∧ Ext w w' := by
  have hE : datE F Q = bitE F false Q.ad (Q.ct) := by unfold datE; simp (config := { decide := true }) only [hk, if_true, if_false] <;> rfl
  rw [hE]
  have K := Lib.hid (fun W (x : Ext w W) => rbits14_any V F false Q.ad (Q.ct) W (hF.ext x))
  obtain ⟨W2, hW2, e0, HX⟩ : ∃ W2, W2 = (w.alloc (.cells (filC V F) 29)).alloc (.cells (qstC U Q) 31) ∧ Ext w W2 ∧ Hid (∀ W, Ext W2 W → W.heap[w.heap.size]? = some (.cells (filC V F) 29 (0, 0)) ∧ W.heap[w.heap.size + 1]? = some (.cells (qstC U Q) 31 (0, 0))) :=
    ⟨_, rfl, (Ext.alloc w _).trans (Ext.alloc _ _), Lib.hid fun W x => ⟨x.block ((heap_alloc_old _ _ (by simp)).trans (heap_alloc_new w _)), x.block (heap_new_at _ _ (by simp))⟩⟩
  have HC := Lib.hid (fun W (x : Ext W2 W) => (⟨num_cell hk (cell_of_heap (HX.out W x).2 rfl), cell_of_heap (HX.out W x).2 rfl, cell_of_heap (HX.out W x).2 rfl, cell_of_heap (HX.out W x).2 rfl, cell_of_heap (HX.out W x).2 rfl⟩ : W.cell? ⟨w.heap.size + 1, 0, none⟩ = some (.int .i64 1) ∧ W.cell? ⟨w.heap.size + 1, 1, none⟩ = some (.int .i64 Q.ad) ∧ W.cell? ⟨w.heap.size + 1, 2, none⟩ = some (.int .i64 Q.ct) ∧ W.cell? ⟨w.heap.size + 1, 6, none⟩ = some (.int .i64 Q.fr) ∧ W.cell? ⟨w.heap.size + 1, 7, none⟩ = some (.int .i64 Q.mn)))
  obtain ⟨b1, -⟩ := HX.out _ (Ext.refl W2)
  obtain ⟨c0, c1, c2, c6, c7⟩ := HC.out _ (Ext.refl W2)
  clear hE hF hW hk
  go_enter Tryz.func20, Tryz.ntmps20
  go_upto_region 1 with fail
  rw [← hW2]
  clear hW2
  go_wp2_with (first
    | (refine wpList_load_row rfl 29 (.tmp 2) rfl w.heap.size rfl 29 _ (0, 0) _ b1 Tryz.underlying29 rfl (by kernel_rfl) ?_)
    | (go_at_call 39; refine (K.out _ e0).mono ?_; rintro e w3 ⟨b, q, rfl, -, -, -, x3, -⟩))
  go_ret
  exact ⟨rfl, e0.trans x3⟩

set_option maxHeartbeats 2000000 in
theorem rcode17_2 (V : FilV) (F : Fil) (U : QstV) (Q : Qst) (w : World) (hF : FilAt w V F) (hW : QstW Q) (hk : Q.k = 2) : Calls Tryz.prog 20 #[.agg (filC V F), .agg (qstC U Q)] w fun e w' => e = .returned (.int .i64 (datE F Q)) ∧ Ext w w' := by
  have hE : datE F Q = bitE F true Q.ad (Q.ct) := by unfold datE; simp (config := { decide := true }) only [hk, if_true, if_false] <;> rfl
  rw [hE]
  have K := Lib.hid (fun W (x : Ext w W) => rbits14_any V F true Q.ad (Q.ct) W (hF.ext x))
  obtain ⟨W2, hW2, e0, HX⟩ : ∃ W2, W2 = (w.alloc (.cells (filC V F) 29)).alloc (.cells (qstC U Q) 31) ∧ Ext w W2 ∧ Hid (∀ W, Ext W2 W → W.heap[w.heap.size]? = some (.cells (filC V F) 29 (0, 0)) ∧ W.heap[w.heap.size + 1]? = some (.cells (qstC U Q) 31 (0, 0))) :=
    ⟨_, rfl, (Ext.alloc w _).trans (Ext.alloc _ _), Lib.hid fun W x => ⟨x.block ((heap_alloc_old _ _ (by simp)).trans (heap_alloc_new w _)), x.block (heap_new_at _ _ (by simp))⟩⟩
  have HC := Lib.hid (fun W (x : Ext W2 W) => (⟨num_cell hk (cell_of_heap (HX.out W x).2 rfl), cell_of_heap (HX.out W x).2 rfl, cell_of_heap (HX.out W x).2 rfl, cell_of_heap (HX.out W x).2 rfl, cell_of_heap (HX.out W x).2 rfl⟩ : W.cell? ⟨w.heap.size + 1, 0, none⟩ = some (.int .i64 2) ∧ W.cell? ⟨w.heap.size + 1, 1, none⟩ = some (.int .i64 Q.ad) ∧ W.cell? ⟨w.heap.size + 1, 2, none⟩ = some (.int .i64 Q.ct) ∧ W.cell? ⟨w.heap.size + 1, 6, none⟩ = some (.int .i64 Q.fr) ∧ W.cell? ⟨w.heap.size + 1, 7, none⟩ = some (.int .i64 Q.mn)))
  obtain ⟨b1, -⟩ := HX.out _ (Ext.refl W2)
  obtain ⟨c0, c1, c2, c6, c7⟩ := HC.out _ (Ext.refl W2)
  clear hE hF hW hk
  go_enter Tryz.func20, Tryz.ntmps20
  go_upto_region 1 with fail
  rw [← hW2]
  clear hW2
  go_wp2_with (first
    | (refine wpList_load_row rfl 29 (.tmp 2) rfl w.heap.size rfl 29 _ (0, 0) _ b1 Tryz.underlying29 rfl (by kernel_rfl) ?_)
    | (go_at_call 39; refine (K.out _ e0).mono ?_; rintro e w3 ⟨b, q, rfl, -, -, -, x3, -⟩))
  go_ret
  exact ⟨rfl, e0.trans x3⟩

set_option maxHeartbeats 2000000 in
theorem rcode17_3 (V : FilV) (F : Fil) (U : QstV) (Q : Qst) (w : World) (hF : FilAt w V F) (hW : QstW Q) (hk : Q.k = 3) : Calls Tryz.prog 20 #[.agg (filC V F), .agg (qstC U Q)] w fun e w' => e = .returned (.int .i64 (datE F Q)) ∧ Ext w w' := by
  have hE : datE F Q = wrdE F false Q.ad (Q.ct) := by unfold datE; simp (config := { decide := true }) only [hk, if_true, if_false] <;> rfl
  rw [hE]
  have K := Lib.hid (fun W (x : Ext w W) => rwords14_any V F false Q.ad (Q.ct) W (hF.ext x) hW.wad hW.wct)
  obtain ⟨W2, hW2, e0, HX⟩ : ∃ W2, W2 = (w.alloc (.cells (filC V F) 29)).alloc (.cells (qstC U Q) 31) ∧ Ext w W2 ∧ Hid (∀ W, Ext W2 W → W.heap[w.heap.size]? = some (.cells (filC V F) 29 (0, 0)) ∧ W.heap[w.heap.size + 1]? = some (.cells (qstC U Q) 31 (0, 0))) :=
    ⟨_, rfl, (Ext.alloc w _).trans (Ext.alloc _ _), Lib.hid fun W x => ⟨x.block ((heap_alloc_old _ _ (by simp)).trans (heap_alloc_new w _)), x.block (heap_new_at _ _ (by simp))⟩⟩
  have HC := Lib.hid (fun W (x : Ext W2 W) => (⟨num_cell hk (cell_of_heap (HX.out W x).2 rfl), cell_of_heap (HX.out W x).2 rfl, cell_of_heap (HX.out W x).2 rfl, cell_of_heap (HX.out W x).2 rfl, cell_of_heap (HX.out W x).2 rfl⟩ : W.cell? ⟨w.heap.size + 1, 0, none⟩ = some (.int .i64 3) ∧ W.cell? ⟨w.heap.size + 1, 1, none⟩ = some (.int .i64 Q.ad) ∧ W.cell? ⟨w.heap.size + 1, 2, none⟩ = some (.int .i64 Q.ct) ∧ W.cell? ⟨w.heap.size + 1, 6, none⟩ = some (.int .i64 Q.fr) ∧ W.cell? ⟨w.heap.size + 1, 7, none⟩ = some (.int .i64 Q.mn)))
  obtain ⟨b1, -⟩ := HX.out _ (Ext.refl W2)
  obtain ⟨c0, c1, c2, c6, c7⟩ := HC.out _ (Ext.refl W2)
  clear hE hF hW hk
  go_enter Tryz.func20, Tryz.ntmps20
  go_upto_region 1 with fail
  rw [← hW2]
  clear hW2
  go_wp2_with (first
    | (refine wpList_load_row rfl 29 (.tmp 2) rfl w.heap.size rfl 29 _ (0, 0) _ b1 Tryz.underlying29 rfl (by kernel_rfl) ?_)
    | (go_at_call 40; refine (K.out _ e0).mono ?_; rintro e w3 ⟨b, q, rfl, -, -, -, x3, -⟩))
  go_ret
  exact ⟨rfl, e0.trans x3⟩

set_option maxHeartbeats 2000000 in
theorem rcode17_4 (V : FilV) (F : Fil) (U : QstV) (Q : Qst) (w : World) (hF : FilAt w V F) (hW : QstW Q) (hk : Q.k = 4) : Calls Tryz.prog 20 #[.agg (filC V F), .agg (qstC U Q)] w fun e w' => e = .returned (.int .i64 (datE F Q)) ∧ Ext w w' := by
  have hE : datE F Q = wrdE F true Q.ad (Q.ct) := by unfold datE; simp (config := { decide := true }) only [hk, if_true, if_false] <;> rfl
  rw [hE]
  have K := Lib.hid (fun W (x : Ext w W) => rwords14_any V F true Q.ad (Q.ct) W (hF.ext x) hW.wad hW.wct)
  obtain ⟨W2, hW2, e0, HX⟩ : ∃ W2, W2 = (w.alloc (.cells (filC V F) 29)).alloc (.cells (qstC U Q) 31) ∧ Ext w W2 ∧ Hid (∀ W, Ext W2 W → W.heap[w.heap.size]? = some (.cells (filC V F) 29 (0, 0)) ∧ W.heap[w.heap.size + 1]? = some (.cells (qstC U Q) 31 (0, 0))) :=
    ⟨_, rfl, (Ext.alloc w _).trans (Ext.alloc _ _), Lib.hid fun W x => ⟨x.block ((heap_alloc_old _ _ (by simp)).trans (heap_alloc_new w _)), x.block (heap_new_at _ _ (by simp))⟩⟩
  have HC := Lib.hid (fun W (x : Ext W2 W) => (⟨num_cell hk (cell_of_heap (HX.out W x).2 rfl), cell_of_heap (HX.out W x).2 rfl, cell_of_heap (HX.out W x).2 rfl, cell_of_heap (HX.out W x).2 rfl, cell_of_heap (HX.out W x).2 rfl⟩ : W.cell? ⟨w.heap.size + 1, 0, none⟩ = some (.int .i64 4) ∧ W.cell? ⟨w.heap.size + 1, 1, none⟩ = some (.int .i64 Q.ad) ∧ W.cell? ⟨w.heap.size + 1, 2, none⟩ = some (.int .i64 Q.ct) ∧ W.cell? ⟨w.heap.size + 1, 6, none⟩ = some (.int .i64 Q.fr) ∧ W.cell? ⟨w.heap.size + 1, 7, none⟩ = some (.int .i64 Q.mn)))
  obtain ⟨b1, -⟩ := HX.out _ (Ext.refl W2)
  obtain ⟨c0, c1, c2, c6, c7⟩ := HC.out _ (Ext.refl W2)
  clear hE hF hW hk
  go_enter Tryz.func20, Tryz.ntmps20
  go_upto_region 1 with fail
  rw [← hW2]
  clear hW2
  go_wp2_with (first
    | (refine wpList_load_row rfl 29 (.tmp 2) rfl w.heap.size rfl 29 _ (0, 0) _ b1 Tryz.underlying29 rfl (by kernel_rfl) ?_)
    | (go_at_call 40; refine (K.out _ e0).mono ?_; rintro e w3 ⟨b, q, rfl, -, -, -, x3, -⟩))
  go_ret
  exact ⟨rfl, e0.trans x3⟩

set_option maxHeartbeats 2000000 in
theorem rcode17_5 (V : FilV) (F : Fil) (U : QstV) (Q : Qst) (w : World) (hF : FilAt w V F) (hW : QstW Q) (hk : Q.k = 5) : Calls Tryz.prog 20 #[.agg (filC V F), .agg (qstC U Q)] w fun e w' => e = .returned (.int .i64 (datE F Q)) ∧ Ext w w' := by
  have hE : datE F Q = bitE F false Q.ad (1) := by unfold datE; simp (config := { decide := true }) only [hk, if_true, if_false] <;> rfl
  rw [hE]
  have K := Lib.hid (fun W (x : Ext w W) => rbits14_any V F false Q.ad (1) W (hF.ext x))
  obtain ⟨W2, hW2, e0, HX⟩ : ∃ W2, W2 = (w.alloc (.cells (filC V F) 29)).alloc (.cells (qstC U Q) 31) ∧ Ext w W2 ∧ Hid (∀ W, Ext W2 W → W.heap[w.heap.size]? = some (.cells (filC V F) 29 (0, 0)) ∧ W.heap[w.heap.size + 1]? = some (.cells (qstC U Q) 31 (0, 0))) :=
    ⟨_, rfl, (Ext.alloc w _).trans (Ext.alloc _ _), Lib.hid fun W x => ⟨x.block ((heap_alloc_old _ _ (by simp)).trans (heap_alloc_new w _)), x.block (heap_new_at _ _ (by simp))⟩⟩
  have HC := Lib.hid (fun W (x : Ext W2 W) => (⟨num_cell hk (cell_of_heap (HX.out W x).2 rfl), cell_of_heap (HX.out W x).2 rfl, cell_of_heap (HX.out W x).2 rfl, cell_of_heap (HX.out W x).2 rfl, cell_of_heap (HX.out W x).2 rfl⟩ : W.cell? ⟨w.heap.size + 1, 0, none⟩ = some (.int .i64 5) ∧ W.cell? ⟨w.heap.size + 1, 1, none⟩ = some (.int .i64 Q.ad) ∧ W.cell? ⟨w.heap.size + 1, 2, none⟩ = some (.int .i64 Q.ct) ∧ W.cell? ⟨w.heap.size + 1, 6, none⟩ = some (.int .i64 Q.fr) ∧ W.cell? ⟨w.heap.size + 1, 7, none⟩ = some (.int .i64 Q.mn)))
  obtain ⟨b1, -⟩ := HX.out _ (Ext.refl W2)
  obtain ⟨c0, c1, c2, c6, c7⟩ := HC.out _ (Ext.refl W2)
  clear hE hF hW hk
  go_enter Tryz.func20, Tryz.ntmps20
  go_upto_region 1 with fail
  rw [← hW2]
  clear hW2
  go_wp2_with (first
    | (refine wpList_load_row rfl 29 (.tmp 2) rfl w.heap.size rfl 29 _ (0, 0) _ b1 Tryz.underlying29 rfl (by kernel_rfl) ?_)
    | (go_at_call 39; refine (K.out _ e0).mono ?_; rintro e w3 ⟨b, q, rfl, -, -, -, x3, -⟩))
  go_ret
  exact ⟨rfl, e0.trans x3⟩

set_option maxHeartbeats 2000000 in
theorem rcode17_6 (V : FilV) (F : Fil) (U : QstV) (Q : Qst) (w : World) (hF : FilAt w V F) (hW : QstW Q) (hk : Q.k = 6) : Calls Tryz.prog 20 #[.agg (filC V F), .agg (qstC U Q)] w fun e w' => e = .returned (.int .i64 (datE F Q)) ∧ Ext w w' := by
  have hE : datE F Q = wrdE F false Q.ad (1) := by unfold datE; simp (config := { decide := true }) only [hk, if_true, if_false] <;> rfl
  rw [hE]
  have K := Lib.hid (fun W (x : Ext w W) => rwords14_any V F false Q.ad (1) W (hF.ext x) hW.wad (by decide))
  obtain ⟨W2, hW2, e0, HX⟩ : ∃ W2, W2 = (w.alloc (.cells (filC V F) 29)).alloc (.cells (qstC U Q) 31) ∧ Ext w W2 ∧ Hid (∀ W, Ext W2 W → W.heap[w.heap.size]? = some (.cells (filC V F) 29 (0, 0)) ∧ W.heap[w.heap.size + 1]? = some (.cells (qstC U Q) 31 (0, 0))) :=
    ⟨_, rfl, (Ext.alloc w _).trans (Ext.alloc _ _), Lib.hid fun W x => ⟨x.block ((heap_alloc_old _ _ (by simp)).trans (heap_alloc_new w _)), x.block (heap_new_at _ _ (by simp))⟩⟩
  have HC := Lib.hid (fun W (x : Ext W2 W) => (⟨num_cell hk (cell_of_heap (HX.out W x).2 rfl), cell_of_heap (HX.out W x).2 rfl, cell_of_heap (HX.out W x).2 rfl, cell_of_heap (HX.out W x).2 rfl, cell_of_heap (HX.out W x).2 rfl⟩ : W.cell? ⟨w.heap.size + 1, 0, none⟩ = some (.int .i64 6) ∧ W.cell? ⟨w.heap.size + 1, 1, none⟩ = some (.int .i64 Q.ad) ∧ W.cell? ⟨w.heap.size + 1, 2, none⟩ = some (.int .i64 Q.ct) ∧ W.cell? ⟨w.heap.size + 1, 6, none⟩ = some (.int .i64 Q.fr) ∧ W.cell? ⟨w.heap.size + 1, 7, none⟩ = some (.int .i64 Q.mn)))
  obtain ⟨b1, -⟩ := HX.out _ (Ext.refl W2)
  obtain ⟨c0, c1, c2, c6, c7⟩ := HC.out _ (Ext.refl W2)
  clear hE hF hW hk
  go_enter Tryz.func20, Tryz.ntmps20
  go_upto_region 1 with fail
  rw [← hW2]
  clear hW2
  go_wp2_with (first
    | (refine wpList_load_row rfl 29 (.tmp 2) rfl w.heap.size rfl 29 _ (0, 0) _ b1 Tryz.underlying29 rfl (by kernel_rfl) ?_)
    | (go_at_call 40; refine (K.out _ e0).mono ?_; rintro e w3 ⟨b, q, rfl, -, -, -, x3, -⟩))
  go_ret
  exact ⟨rfl, e0.trans x3⟩

set_option maxHeartbeats 2000000 in
theorem rcode17_22 (V : FilV) (F : Fil) (U : QstV) (Q : Qst) (w : World) (hF : FilAt w V F) (hW : QstW Q) (hk : Q.k = 22) : Calls Tryz.prog 20 #[.agg (filC V F), .agg (qstC U Q)] w fun e w' => e = .returned (.int .i64 (datE F Q)) ∧ Ext w w' := by
  have hE : datE F Q = wrdE F false Q.ad (1) := by unfold datE; simp (config := { decide := true }) only [hk, if_true, if_false] <;> rfl
  rw [hE]
  have K := Lib.hid (fun W (x : Ext w W) => rwords14_any V F false Q.ad (1) W (hF.ext x) hW.wad (by decide))
  obtain ⟨W2, hW2, e0, HX⟩ : ∃ W2, W2 = (w.alloc (.cells (filC V F) 29)).alloc (.cells (qstC U Q) 31) ∧ Ext w W2 ∧ Hid (∀ W, Ext W2 W → W.heap[w.heap.size]? = some (.cells (filC V F) 29 (0, 0)) ∧ W.heap[w.heap.size + 1]? = some (.cells (qstC U Q) 31 (0, 0))) :=
    ⟨_, rfl, (Ext.alloc w _).trans (Ext.alloc _ _), Lib.hid fun W x => ⟨x.block ((heap_alloc_old _ _ (by simp)).trans (heap_alloc_new w _)), x.block (heap_new_at _ _ (by simp))⟩⟩
  have HC := Lib.hid (fun W (x : Ext W2 W) => (⟨num_cell hk (cell_of_heap (HX.out W x).2 rfl), cell_of_heap (HX.out W x).2 rfl, cell_of_heap (HX.out W x).2 rfl, cell_of_heap (HX.out W x).2 rfl, cell_of_heap (HX.out W x).2 rfl⟩ : W.cell? ⟨w.heap.size + 1, 0, none⟩ = some (.int .i64 22) ∧ W.cell? ⟨w.heap.size + 1, 1, none⟩ = some (.int .i64 Q.ad) ∧ W.cell? ⟨w.heap.size + 1, 2, none⟩ = some (.int .i64 Q.ct) ∧ W.cell? ⟨w.heap.size + 1, 6, none⟩ = some (.int .i64 Q.fr) ∧ W.cell? ⟨w.heap.size + 1, 7, none⟩ = some (.int .i64 Q.mn)))
  obtain ⟨b1, -⟩ := HX.out _ (Ext.refl W2)
  obtain ⟨c0, c1, c2, c6, c7⟩ := HC.out _ (Ext.refl W2)
  clear hE hF hW hk
  go_enter Tryz.func20, Tryz.ntmps20
  go_upto_region 1 with fail
  rw [← hW2]
  clear hW2
  go_wp2_with (first
    | (refine wpList_load_row rfl 29 (.tmp 2) rfl w.heap.size rfl 29 _ (0, 0) _ b1 Tryz.underlying29 rfl (by kernel_rfl) ?_)
    | (go_at_call 40; refine (K.out _ e0).mono ?_; rintro e w3 ⟨b, q, rfl, -, -, -, x3, -⟩))
  go_ret
  exact ⟨rfl, e0.trans x3⟩

set_option maxHeartbeats 2000000 in
theorem rcode17_15 (V : FilV) (F : Fil) (U : QstV) (Q : Qst) (w : World) (hF : FilAt w V F) (hW : QstW Q) (hk : Q.k = 15) : Calls Tryz.prog 20 #[.agg (filC V F), .agg (qstC U Q)] w fun e w' => e = .returned (.int .i64 (datE F Q)) ∧ Ext w w' := by
  have hE : datE F Q = bitE F false Q.ad (Q.ct) := by unfold datE; simp (config := { decide := true }) only [hk, if_true, if_false] <;> rfl
  rw [hE]
  have K := Lib.hid (fun W (x : Ext w W) => rbits14_any V F false Q.ad (Q.ct) W (hF.ext x))
  obtain ⟨W2, hW2, e0, HX⟩ : ∃ W2, W2 = (w.alloc (.cells (filC V F) 29)).alloc (.cells (qstC U Q) 31) ∧ Ext w W2 ∧ Hid (∀ W, Ext W2 W → W.heap[w.heap.size]? = some (.cells (filC V F) 29 (0, 0)) ∧ W.heap[w.heap.size + 1]? = some (.cells (qstC U Q) 31 (0, 0))) :=
    ⟨_, rfl, (Ext.alloc w _).trans (Ext.alloc _ _), Lib.hid fun W x => ⟨x.block ((heap_alloc_old _ _ (by simp)).trans (heap_alloc_new w _)), x.block (heap_new_at _ _ (by simp))⟩⟩
  have HC := Lib.hid (fun W (x : Ext W2 W) => (⟨num_cell hk (cell_of_heap (HX.out W x).2 rfl), cell_of_heap (HX.out W x).2 rfl, cell_of_heap (HX.out W x).2 rfl, cell_of_heap (HX.out W x).2 rfl, cell_of_heap (HX.out W x).2 rfl⟩ : W.cell? ⟨w.heap.size + 1, 0, none⟩ = some (.int .i64 15) ∧ W.cell? ⟨w.heap.size + 1, 1, none⟩ = some (.int .i64 Q.ad) ∧ W.cell? ⟨w.heap.size + 1, 2, none⟩ = some (.int .i64 Q.ct) ∧ W.cell? ⟨w.heap.size + 1, 6, none⟩ = some (.int .i64 Q.fr) ∧ W.cell? ⟨w.heap.size + 1, 7, none⟩ = some (.int .i64 Q.mn)))
  obtain ⟨b1, -⟩ := HX.out _ (Ext.refl W2)
  obtain ⟨c0, c1, c2, c6, c7⟩ := HC.out _ (Ext.refl W2)
  clear hE hF hW hk
  go_enter Tryz.func20, Tryz.ntmps20
  go_upto_region 1 with fail
  rw [← hW2]
  clear hW2
  go_wp2_with (first
    | (refine wpList_load_row rfl 29 (.tmp 2) rfl w.heap.size rfl 29 _ (0, 0) _ b1 Tryz.underlying29 rfl (by kernel_rfl) ?_)
    | (go_at_call 39; refine (K.out _ e0).mono ?_; rintro e w3 ⟨b, q, rfl, -, -, -, x3, -⟩))
  go_ret
  exact ⟨rfl, e0.trans x3⟩

set_option maxHeartbeats 2000000 in
theorem rcode17_16 (V : FilV) (F : Fil) (U : QstV) (Q : Qst) (w : World) (hF : FilAt w V F) (hW : QstW Q) (hk : Q.k = 16) : Calls Tryz.prog 20 #[.agg (filC V F), .agg (qstC U Q)] w fun e w' => e = .returned (.int .i64 (datE F Q)) ∧ Ext w w' := by
  have hE : datE F Q = wrdE F false Q.ad (Q.ct) := by unfold datE; simp (config := { decide := true }) only [hk, if_true, if_false] <;> rfl
  rw [hE]
  have K := Lib.hid (fun W (x : Ext w W) => rwords14_any V F false Q.ad (Q.ct) W (hF.ext x) hW.wad hW.wct)
  obtain ⟨W2, hW2, e0, HX⟩ : ∃ W2, W2 = (w.alloc (.cells (filC V F) 29)).alloc (.cells (qstC U Q) 31) ∧ Ext w W2 ∧ Hid (∀ W, Ext W2 W → W.heap[w.heap.size]? = some (.cells (filC V F) 29 (0, 0)) ∧ W.heap[w.heap.size + 1]? = some (.cells (qstC U Q) 31 (0, 0))) :=
    ⟨_, rfl, (Ext.alloc w _).trans (Ext.alloc _ _), Lib.hid fun W x => ⟨x.block ((heap_alloc_old _ _ (by simp)).trans (heap_alloc_new w _)), x.block (heap_new_at _ _ (by simp))⟩⟩
  have HC := Lib.hid (fun W (x : Ext W2 W) => (⟨num_cell hk (cell_of_heap (HX.out W x).2 rfl), cell_of_heap (HX.out W x).2 rfl, cell_of_heap (HX.out W x).2 rfl, cell_of_heap (HX.out W x).2 rfl, cell_of_heap (HX.out W x).2 rfl⟩ : W.cell? ⟨w.heap.size + 1, 0, none⟩ = some (.int .i64 16) ∧ W.cell? ⟨w.heap.size + 1, 1, none⟩ = some (.int .i64 Q.ad) ∧ W.cell? ⟨w.heap.size + 1, 2, none⟩ = some (.int .i64 Q.ct) ∧ W.cell? ⟨w.heap.size + 1, 6, none⟩ = some (.int .i64 Q.fr) ∧ W.cell? ⟨w.heap.size + 1, 7, none⟩ = some (.int .i64 Q.mn)))
  obtain ⟨b1, -⟩ := HX.out _ (Ext.refl W2)
  obtain ⟨c0, c1, c2, c6, c7⟩ := HC.out _ (Ext.refl W2)
  clear hE hF hW hk
  go_enter Tryz.func20, Tryz.ntmps20
  go_upto_region 1 with fail
  rw [← hW2]
  clear hW2
  go_wp2_with (first
    | (refine wpList_load_row rfl 29 (.tmp 2) rfl w.heap.size rfl 29 _ (0, 0) _ b1 Tryz.underlying29 rfl (by kernel_rfl) ?_)
    | (go_at_call 40; refine (K.out _ e0).mono ?_; rintro e w3 ⟨b, q, rfl, -, -, -, x3, -⟩))
  go_ret
  exact ⟨rfl, e0.trans x3⟩

theorem bothE_ways (e g : Int) : (e = 2 ∧ bothE e g = 2) ∨ (e ≠ 2 ∧ g = 2 ∧ bothE e g = 2) ∨ (e ≠ 2 ∧ g ≠ 2 ∧ g ≠ 0 ∧ bothE e g = g) ∨ (e ≠ 2 ∧ g ≠ 2 ∧ g = 0 ∧ bothE e g = e) := by
  unfold bothE
  by_cases h1 : e = 2
  · exact .inl ⟨h1, by rw [if_pos (.inl h1)]⟩
  by_cases h2 : g = 2
  · exact .inr (.inl ⟨h1, h2, by rw [if_pos (.inr h2)]⟩)
  by_cases h3 : g = 0
  · exact .inr (.inr (.inr ⟨h1, h2, h3, by rw [if_neg (by omega), if_neg (by omega)]⟩))
  · exact .inr (.inr (.inl ⟨h1, h2, h3, by rw [if_neg (by omega), if_pos h3]⟩))
set_option maxHeartbeats 4000000 in
theorem rcode17_23 (V : FilV) (F : Fil) (U : QstV) (Q : Qst) (w : World) (hF : FilAt w V F) (hW : QstW Q) (hk : Q.k = 23) : Calls Tryz.prog 20 #[.agg (filC V F), .agg (qstC U Q)] w fun e w' => e = .returned (.int .i64 (datE F Q)) ∧ Ext w w' := by
  have hE : datE F Q = bothE (wrdE F false Q.ad Q.ct) (wrdE F false Q.fr Q.mn) := by unfold datE; simp (config := { decide := true }) only [hk, if_true, if_false]
  rw [hE]
  have K := Lib.hid (fun W (x : Ext w W) => rwords14_any V F false Q.ad Q.ct W (hF.ext x) hW.wad hW.wct)
  have L := Lib.hid (fun W (x : Ext w W) => rwords14_any V F false Q.fr Q.mn W (hF.ext x) hW.wfr hW.wmn)
  generalize wrdE F false Q.ad Q.ct = A at *
  generalize wrdE F false Q.fr Q.mn = B at *
  obtain ⟨W2, hW2, e0, HX⟩ : ∃ W2, W2 = (w.alloc (.cells (filC V F) 29)).alloc (.cells (qstC U Q) 31) ∧ Ext w W2 ∧ Hid (∀ W, Ext W2 W → W.heap[w.heap.size]? = some (.cells (filC V F) 29 (0, 0)) ∧ W.heap[w.heap.size + 1]? = some (.cells (qstC U Q) 31 (0, 0))) :=
    ⟨_, rfl, (Ext.alloc w _).trans (Ext.alloc _ _), Lib.hid fun W x => ⟨x.block ((heap_alloc_old _ _ (by simp)).trans (heap_alloc_new w _)), x.block (heap_new_at _ _ (by simp))⟩⟩
  have HC := Lib.hid (fun W (x : Ext W2 W) => (⟨num_cell hk (cell_of_heap (HX.out W x).2 rfl), cell_of_heap (HX.out W x).2 rfl, cell_of_heap (HX.out W x).2 rfl, cell_of_heap (HX.out W x).2 rfl, cell_of_heap (HX.out W x).2 rfl⟩ : W.cell? ⟨w.heap.size + 1, 0, none⟩ = some (.int .i64 23) ∧ W.cell? ⟨w.heap.size + 1, 1, none⟩ = some (.int .i64 Q.ad) ∧ W.cell? ⟨w.heap.size + 1, 2, none⟩ = some (.int .i64 Q.ct) ∧ W.cell? ⟨w.heap.size + 1, 6, none⟩ = some (.int .i64 Q.fr) ∧ W.cell? ⟨w.heap.size + 1, 7, none⟩ = some (.int .i64 Q.mn)))
  obtain ⟨b1, -⟩ := HX.out _ (Ext.refl W2)
  obtain ⟨c0, c1, c2, c6, c7⟩ := HC.out _ (Ext.refl W2)
  have hw := bothE_ways A B
  clear hE hF hW hk
  go_enter Tryz.func20, Tryz.ntmps20
  go_upto_region 1 with fail
  rw [← hW2]
  clear hW2
  go_upto_region 20 with (first
    | (refine wpList_load_row rfl 29 (.tmp 2) rfl w.heap.size rfl 29 _ (0, 0) _ b1 Tryz.underlying29 rfl (by kernel_rfl) ?_)
    | (go_at_call 40; refine (K.out _ e0).mono ?_; rintro e w3 ⟨b, q, rfl, -, -, -, x3, -⟩))
  obtain ⟨b3, -⟩ := HX.out _ x3
  obtain ⟨d0, d1, d2, d6, d7⟩ := HC.out _ x3
  clear c0 c1 c2 c6 c7 b1
  go_upto_region 21 with (first
    | (refine wpList_load_row rfl 29 (.tmp 2) rfl w.heap.size rfl 29 _ (0, 0) _ b3 Tryz.underlying29 rfl (by kernel_rfl) ?_)
    | (go_at_call 40; refine (L.out _ (e0.trans x3)).mono ?_; rintro e w4 ⟨b', q', rfl, -, -, -, x4, -⟩))
  have x5 := (e0.trans x3).trans x4
  clear d0 d1 d2 d6 d7 b3 x3 x4 HX HC K L
  rcases hw with ⟨h1, h⟩ | ⟨h1, h2, h⟩ | ⟨h1, h2, h3, h⟩ | ⟨h1, h2, h3, h⟩
  · have f1 : (A == 2) = true := by simp [h1]
    have H := Lib.hid h
    clear h1 h
    go_wp2
    go_ret
    exact ⟨by rw [H.out]; rfl, x5⟩
  · have f1 : (A == 2) = false := by simp [h1]
    have f2 : (B == 2) = true := by simp [h2]
    have H := Lib.hid h
    clear h1 h2 h
    go_wp2
    go_ret
    exact ⟨by rw [H.out]; rfl, x5⟩
  · have f1 : (A == 2) = false := by simp [h1]
    have f2 : (B == 2) = false := by simp [h2]
    have f3 : (B != 0) = true := by simp [h3]
    have H := Lib.hid h
    clear h1 h2 h3 h
    go_wp2
    go_ret
    exact ⟨by rw [H.out]; rfl, x5⟩
  · have f1 : (A == 2) = false := by simp [h1]
    have f2 : (B == 2) = false := by simp [h2]
    have f3 : (B != 0) = false := by simp [h3]
    have H := Lib.hid h
    clear h1 h2 h3 h
    go_wp2
    go_ret
    exact ⟨by rw [H.out]; rfl, x5⟩
theorem rcode17_any (V : FilV) (F : Fil) (U : QstV) (Q : Qst) (w : World) (hF : FilAt w V F) (hW : QstW Q) (hk : knownB Q.k = true) : Calls Tryz.prog 20 #[.agg (filC V F), .agg (qstC U Q)] w fun e w' => e = .returned (.int .i64 (datE F Q)) ∧ Ext w w' := by
  rcases (known_iff Q.k).1 hk with h | h | h | h | h | h | h | h | h | h
  · exact rcode17_1 V F U Q w hF hW h
  · exact rcode17_2 V F U Q w hF hW h
  · exact rcode17_3 V F U Q w hF hW h
  · exact rcode17_4 V F U Q w hF hW h
  · exact rcode17_5 V F U Q w hF hW h
  · exact rcode17_6 V F U Q w hF hW h
  · exact rcode17_15 V F U Q w hF hW h
  · exact rcode17_16 V F U Q w hF hW h
  · exact rcode17_22 V F U Q w hF hW h
  · exact rcode17_23 V F U Q w hF hW h
end Go.Proofs.YtlafnobjfajamaaGreat
