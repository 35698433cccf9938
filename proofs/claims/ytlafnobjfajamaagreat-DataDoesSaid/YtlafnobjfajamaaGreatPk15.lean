/-
  LAYER 17, PLAIN: what is done with the tables by an ask, and what is told then.
  LAYER 17, PLAIN: what follows of what is done with the tables.
  LAYER 17: what Serve tells, plain; package data's contracts, as definitions over the function's number: what the laws take.
  CONTRACTS: bilgeref17 (layer 17): Code; answers through more cells than one.
  CONTRACTS: bilgeref17 (layer 17): Do.
  CONTRACTS: bilgeref17 (layer 17): Do, what writes.
  CONTRACTS: bilgeref17 (layer 17): Do, 23, 22.
-/
import Derived.Test.YtlafnobjfajamaaGreatPk7
import Derived.Test.YtlafnobjfajamaaGreatPk13
import Derived.Test.YtlafnobjfajamaaGreatPk14
import Derived.Test.YtlafnobjfajamaaGreatPk17
import Derived.Test.YtlafnobjfajamaaGreatPk1
import Derived.Test.YtlafnobjfajamaaGreatPk6
import Derived.Laws.CopyOwn
import Derived.Laws.Rows
namespace Go.Proofs.YtlafnobjfajamaaGreat
open Go.RowKit
set_option linter.unusedVariables false

def writesB (k : Int) : Bool := decide (k = 5 ∨ k = 6 ∨ k = 15 ∨ k = 16 ∨ k = 22 ∨ k = 23)
theorem writes_iff (k : Int) : writesB k = true ↔ k = 5 ∨ k = 6 ∨ k = 15 ∨ k = 16 ∨ k = 22 ∨ k = 23 := by unfold writesB; rw [decide_eq_true_iff]
/-- Of 23: the error of what is written and the one of what is read. -/
def bothE (e g : Int) : Int := if e = 2 ∨ g = 2 then 2 else if g ≠ 0 then g else e
/-- By which exception an ask is refused. -/
def datE (F : Fil) (Q : Qst) : Int :=
  if Q.k = 1 ∨ Q.k = 2 then bitE F (decide (Q.k = 2)) Q.ad Q.ct
  else if Q.k = 3 ∨ Q.k = 4 then wrdE F (decide (Q.k = 4)) Q.ad Q.ct
  else if Q.k = 5 then bitE F false Q.ad 1
  else if Q.k = 6 ∨ Q.k = 22 then wrdE F false Q.ad 1
  else if Q.k = 15 then bitE F false Q.ad Q.ct
  else if Q.k = 16 then wrdE F false Q.ad Q.ct
  else if Q.k = 23 then bothE (wrdE F false Q.ad Q.ct) (wrdE F false Q.fr Q.mn)
  else 0
/-- A word masked: cells.Mask's, as a number. -/
def mskQ (x a o : Int) : Int := vM (mskV (BitVec.ofInt 16 x) (BitVec.ofInt 16 a) (BitVec.ofInt 16 o))
/-- The tables behind what is asked. -/
def datF (F : Fil) (Q : Qst) : Fil :=
  if datE F Q ≠ 0 then F
  else if Q.k = 5 then sbF F Q.ad 1 (fun _ => decide (Q.va = 65280))
  else if Q.k = 6 then swF F Q.ad 1 (fun _ => Q.va)
  else if Q.k = 15 then sbF F Q.ad Q.nb Q.B
  else if Q.k = 16 ∨ Q.k = 23 then swF F Q.ad Q.nr Q.R
  else if Q.k = 22 then swF F Q.ad 1 (fun _ => mskQ (wrdL F false Q.ad 0) Q.an Q.oo)
  else F
/-- What is told then. -/
def datT (F : Fil) (Q : Qst) : Tel :=
  if datE F Q ≠ 0 then { zeroT with k := Q.k, cd := datE F Q }
  else if Q.k = 1 ∨ Q.k = 2 then { zeroT with k := Q.k, nb := bitN F (decide (Q.k = 2)) Q.ad Q.ct, B := bitL F (decide (Q.k = 2)) Q.ad }
  else if Q.k = 3 ∨ Q.k = 4 then { zeroT with k := Q.k, nr := wrdN F (decide (Q.k = 4)) Q.ad Q.ct, R := wrdL F (decide (Q.k = 4)) Q.ad }
  else if Q.k = 5 ∨ Q.k = 6 then { zeroT with k := Q.k, ad := Q.ad, va := Q.va }
  else if Q.k = 15 ∨ Q.k = 16 then { zeroT with k := Q.k, ad := Q.ad, ct := Q.ct }
  else if Q.k = 22 then { zeroT with k := Q.k, ad := Q.ad, an := Q.an, oo := Q.oo }
  else if Q.k = 23 then { zeroT with k := Q.k, nr := wrdN (datF F Q) false Q.fr Q.mn, R := wrdL (datF F Q) false Q.fr }
  else { zeroT with k := Q.k }
theorem datF_no {F : Fil} {Q : Qst} (h : datE F Q ≠ 0) : datF F Q = F ∧ datT F Q = { zeroT with k := Q.k, cd := datE F Q } := by unfold datF datT; rw [if_pos h, if_pos h]; exact ⟨rfl, rfl⟩
theorem dat_reads {F : Fil} {Q : Qst} (h : writesB Q.k = false) : datF F Q = F := by
  have hn : ¬ (Q.k = 5 ∨ Q.k = 6 ∨ Q.k = 15 ∨ Q.k = 16 ∨ Q.k = 22 ∨ Q.k = 23) := fun hh => by have := (writes_iff Q.k).2 hh; rw [h] at this; cases this
  unfold datF
  split
  · rfl
  · rw [if_neg (by omega), if_neg (by omega), if_neg (by omega), if_neg (by omega), if_neg (by omega)]
end Go.Proofs.YtlafnobjfajamaaGreat
namespace Go.Proofs.YtlafnobjfajamaaGreat
open Go.RowKit
set_option linter.unusedVariables false

theorem ofInt_vM (x : BitVec 16) : BitVec.ofInt 16 (vM x) = x := by unfold vM; simp
/-- What an ask that may be has. -/
structure AskF (Q : Qst) : Prop where
  kn : Q.k = 1 ∨ Q.k = 2 ∨ Q.k = 3 ∨ Q.k = 4 ∨ Q.k = 5 ∨ Q.k = 6 ∨ Q.k = 15 ∨ Q.k = 16 ∨ Q.k = 22 ∨ Q.k = 23
  ad : 0 ≤ Q.ad ∧ Q.ad ≤ 65535
  rd : Q.k = 1 ∨ Q.k = 2 ∨ Q.k = 3 ∨ Q.k = 4 → 1 ≤ Q.ct ∧ Q.ct ≤ 2000
  bt : Q.k = 15 → 1 ≤ Q.ct ∧ Q.ct ≤ 2000 ∧ (Q.nb : Int) = Q.ct
  wd : Q.k = 16 ∨ Q.k = 23 → 1 ≤ Q.ct ∧ Q.ct ≤ 125 ∧ (Q.nr : Int) = Q.ct
  mn : Q.k = 23 → 1 ≤ Q.mn ∧ Q.mn ≤ 125
  v5 : Q.k = 5 → Q.va = 0 ∨ Q.va = 65280
  v6 : Q.k = 6 → 0 ≤ Q.va ∧ Q.va ≤ 65535
  ms : Q.k = 22 → 0 ≤ Q.an ∧ Q.an ≤ 65535 ∧ 0 ≤ Q.oo ∧ Q.oo ≤ 65535
  c0 : Q.k = 5 ∨ Q.k = 6 ∨ Q.k = 22 → Q.ct = 0
theorem ask_facts {Q : Qst} (h : rightQ Q = true) : AskF Q := by
  obtain ⟨hkn, ho, had, hf⟩ := (rightQ_iff Q).1 h
  have hk := (known_iff Q.k).1 hkn
  unfold onlyP at ho
  unfold fitsB at hf
  rcases hk with hk | hk | hk | hk | hk | hk | hk | hk | hk | hk <;>
  · simp (config := { decide := true }) only [hk, if_true, if_false, Bool.and_eq_true, inB_iff, decide_eq_true_iff, true_implies, false_implies, true_and, and_true, or_true, or_false] at ho hf
    constructor <;> omega
theorem rd_ways {f c n x k : Int} (h : rgtB f c = true) (hn : n = c) (hk : 1 ≤ k) : rdE f c n x k = 0 ∨ rdE f c n x k = 2 := by
  unfold rdE; rw [if_pos ⟨h, hn, hk⟩]; split
  · exact .inl rfl
  · exact .inr rfl
theorem brk_ways {F : Fil} {e x k : Int} (h : e = 0 ∨ e = 2) : brkE F e x k = 0 ∨ brkE F e x k = 2 ∨ brkE F e x k = 4 := by
  unfold brkE; split
  · exact .inr (.inr rfl)
  · rcases h with h | h
    · exact .inl h
    · exact .inr (.inl h)
theorem bit_ways {F : Fil} (hr : rightB F = true) (i : Bool) (x k : Int) (hk : 1 ≤ k) : bitE F i x k = 0 ∨ bitE F i x k = 2 := by
  obtain ⟨hb, h1, h2, h3, h4⟩ := (rightB_iff F).1 hr
  obtain ⟨b1, b2, b3, b4, b5⟩ := (bankB_iff F).1 hb
  cases i
  · rw [(bitE_out hr).1]; exact rd_ways b1 h1 hk
  · rw [(bitE_in hr).1]; exact rd_ways b2 h2 hk
theorem wrd_ways {F : Fil} (hr : rightB F = true) (i : Bool) (x k : Int) (hk : 1 ≤ k) : wrdE F i x k = 0 ∨ wrdE F i x k = 2 ∨ wrdE F i x k = 4 := by
  obtain ⟨hb, h1, h2, h3, h4⟩ := (rightB_iff F).1 hr
  obtain ⟨b1, b2, b3, b4, b5⟩ := (bankB_iff F).1 hb
  unfold wrdE
  rw [if_pos hr]
  cases i
  · rw [if_neg (by decide)]; exact brk_ways (rd_ways b3 h3 hk)
  · rw [if_pos rfl]
    rcases rd_ways (x := x) b4 h4 hk with h | h
    · exact .inl h
    · exact .inr (.inl h)
theorem datE_ways {F : Fil} {Q : Qst} (hr : rightB F = true) (hq : rightQ Q = true) : datE F Q = 0 ∨ datE F Q = 2 ∨ datE F Q = 4 := by
  have a := ask_facts hq
  have two : ∀ {e : Int}, e = 0 ∨ e = 2 → e = 0 ∨ e = 2 ∨ e = 4 := fun h => by omega
  unfold datE
  by_cases h1 : Q.k = 1 ∨ Q.k = 2
  · rw [if_pos h1]; exact two (bit_ways hr _ _ _ (a.rd (by omega)).1)
  rw [if_neg h1]
  by_cases h2 : Q.k = 3 ∨ Q.k = 4
  · rw [if_pos h2]; exact wrd_ways hr _ _ _ (a.rd (by omega)).1
  rw [if_neg h2]
  by_cases h3 : Q.k = 5
  · rw [if_pos h3]; exact two (bit_ways hr _ _ _ (by omega))
  rw [if_neg h3]
  by_cases h4 : Q.k = 6 ∨ Q.k = 22
  · rw [if_pos h4]; exact wrd_ways hr _ _ _ (by omega)
  rw [if_neg h4]
  by_cases h5 : Q.k = 15
  · rw [if_pos h5]; exact two (bit_ways hr _ _ _ (a.bt h5).1)
  rw [if_neg h5]
  by_cases h6 : Q.k = 16
  · rw [if_pos h6]; exact wrd_ways hr _ _ _ (a.wd (.inl h6)).1
  rw [if_neg h6]
  by_cases h7 : Q.k = 23
  · rw [if_pos h7]
    have g1 := wrd_ways hr false Q.ad Q.ct (a.wd (.inr h7)).1
    have g2 := wrd_ways hr false Q.fr Q.mn (a.mn h7).1
    unfold bothE
    split
    · exact .inr (.inl rfl)
    · split
      · exact g2
      · exact g1
  · rw [if_neg h7]; exact .inl rfl
theorem both_zero {e g : Int} (h : bothE e g = 0) : e = 0 ∧ g = 0 := by
  unfold bothE at h
  split at h
  · cases h
  · split at h <;> omega
/-- How many are written, and which. -/
def wrN (Q : Qst) : Nat := if Q.k = 15 then Q.nb else if Q.k = 16 ∨ Q.k = 23 then Q.nr else 1
def wrB (Q : Qst) : Nat → Bool := if Q.k = 5 then fun _ => decide (Q.va = 65280) else Q.B
def wrW (F : Fil) (Q : Qst) : Nat → Int := if Q.k = 6 then fun _ => Q.va else if Q.k = 22 then fun _ => mskQ (wrdL F false Q.ad 0) Q.an Q.oo else Q.R
theorem wrN_int {Q : Qst} (a : AskF Q) : (Q.k = 15 ∨ Q.k = 16 ∨ Q.k = 23 → (wrN Q : Int) = Q.ct) ∧ (Q.k = 5 ∨ Q.k = 6 ∨ Q.k = 22 → wrN Q = 1) ∧ (writesB Q.k = true → 1 ≤ wrN Q) := by
  have h1 := a.bt
  have h2 := a.wd
  unfold wrN
  rw [writes_iff]
  by_cases k1 : Q.k = 15
  · rw [if_pos k1]; omega
  rw [if_neg k1]
  by_cases k2 : Q.k = 16 ∨ Q.k = 23
  · rw [if_pos k2]; omega
  · rw [if_neg k2]; omega
/-- Writing bits, as done. -/
theorem dat_bits {F : Fil} {Q : Qst} (hq : rightQ Q = true) (hr : rightB F = true) (h0 : datE F Q = 0) (hk : Q.k = 5 ∨ Q.k = 15) : datF F Q = { F with C := wrF F.C (wrB Q) F.cf Q.ad (wrN Q) } ∧ bitE F false Q.ad (wrN Q) = 0 := by
  have a := ask_facts hq
  by_cases h5 : Q.k = 5
  · have e1 : wrN Q = 1 := by unfold wrN; rw [if_neg (by omega), if_neg (by omega)]
    have e2 : wrB Q = fun _ => decide (Q.va = 65280) := by unfold wrB; rw [if_pos h5]
    have e3 : bitE F false Q.ad 1 = 0 := by unfold datE at h0; rw [if_neg (by omega), if_neg (by omega), if_pos h5] at h0; exact h0
    have e4 : sbE F Q.ad 1 = 0 := e3
    rw [e1, e2]
    refine ⟨?_, e3⟩
    unfold datF
    rw [if_neg (by omega), if_pos h5]
    unfold sbF
    rw [if_pos e4]
  · have h15 : Q.k = 15 := by omega
    have hn := (a.bt h15).2.2
    have e1 : wrN Q = Q.nb := by unfold wrN; rw [if_pos h15]
    have e2 : wrB Q = Q.B := by unfold wrB; rw [if_neg h5]
    have e3 : bitE F false Q.ad (Q.nb : Nat) = 0 := by unfold datE at h0; rw [if_neg (by omega), if_neg (by omega), if_neg h5, if_neg (by omega), if_pos h15] at h0; rw [hn]; exact h0
    have e4 : sbE F Q.ad Q.nb = 0 := e3
    rw [e1, e2]
    refine ⟨?_, e3⟩
    unfold datF
    rw [if_neg (by omega), if_neg h5, if_neg (by omega), if_pos h15]
    unfold sbF
    rw [if_pos e4]
/-- Writing words, as done. -/
theorem dat_words {F : Fil} {Q : Qst} (hq : rightQ Q = true) (hr : rightB F = true) (h0 : datE F Q = 0) (hk : Q.k = 6 ∨ Q.k = 16 ∨ Q.k = 22 ∨ Q.k = 23) : datF F Q = { F with H := wrF F.H (wrW F Q) F.hf Q.ad (wrN Q) } ∧ wrdE F false Q.ad (wrN Q) = 0 := by
  have a := ask_facts hq
  by_cases h6 : Q.k = 6
  · have e1 : wrN Q = 1 := by unfold wrN; rw [if_neg (by omega), if_neg (by omega)]
    have e2 : wrW F Q = fun _ => Q.va := by unfold wrW; rw [if_pos h6]
    have e3 : wrdE F false Q.ad 1 = 0 := by unfold datE at h0; rw [if_neg (by omega), if_neg (by omega), if_neg (by omega), if_pos (by omega)] at h0; exact h0
    have e4 : swE F Q.ad 1 = 0 := e3
    rw [e1, e2]
    refine ⟨?_, e3⟩
    unfold datF
    rw [if_neg (by omega), if_neg (by omega), if_pos h6]
    unfold swF
    rw [if_pos e4]
  by_cases h22 : Q.k = 22
  · have e1 : wrN Q = 1 := by unfold wrN; rw [if_neg (by omega), if_neg (by omega)]
    have e2 : wrW F Q = fun _ => mskQ (wrdL F false Q.ad 0) Q.an Q.oo := by unfold wrW; rw [if_neg h6, if_pos h22]
    have e3 : wrdE F false Q.ad 1 = 0 := by unfold datE at h0; rw [if_neg (by omega), if_neg (by omega), if_neg (by omega), if_pos (by omega)] at h0; exact h0
    have e4 : swE F Q.ad 1 = 0 := e3
    rw [e1, e2]
    refine ⟨?_, e3⟩
    unfold datF
    rw [if_neg (by omega), if_neg (by omega), if_neg h6, if_neg (by omega), if_neg (by omega), if_pos h22]
    unfold swF
    rw [if_pos e4]
  · have hw : Q.k = 16 ∨ Q.k = 23 := by omega
    have hn := (a.wd hw).2.2
    have e1 : wrN Q = Q.nr := by unfold wrN; rw [if_neg (by omega), if_pos hw]
    have e2 : wrW F Q = Q.R := by unfold wrW; rw [if_neg h6, if_neg h22]
    have e3 : wrdE F false Q.ad (Q.nr : Nat) = 0 := by
      unfold datE at h0; rw [if_neg (by omega), if_neg (by omega), if_neg (by omega), if_neg (by omega), if_neg (by omega)] at h0
      rw [hn]
      by_cases h16 : Q.k = 16
      · rw [if_pos h16] at h0; exact h0
      · rw [if_neg h16, if_pos (by omega)] at h0; exact (both_zero h0).1
    have e4 : swE F Q.ad Q.nr = 0 := e3
    rw [e1, e2]
    refine ⟨?_, e3⟩
    unfold datF
    rw [if_neg (by omega), if_neg (by omega), if_neg h6, if_neg (by omega), if_pos hw]
    unfold swF
    rw [if_pos e4]
/-- The ways of what is done: nothing, bits, or words. -/
theorem dat_ways {F : Fil} {Q : Qst} (hq : rightQ Q = true) (hr : rightB F = true) : datF F Q = F ∨ (∃ C, datF F Q = { F with C := C }) ∨ ∃ H, datF F Q = { F with H := H } := by
  by_cases h0 : datE F Q = 0
  · cases hw : writesB Q.k with
    | false => exact .inl (dat_reads hw)
    | true =>
      have hk := (writes_iff Q.k).1 hw
      by_cases h5 : Q.k = 5 ∨ Q.k = 15
      · exact .inr (.inl ⟨_, (dat_bits hq hr h0 h5).1⟩)
      · exact .inr (.inr ⟨_, (dat_words hq hr h0 (by omega)).1⟩)
  · exact .inl (datF_no h0).1
theorem dat_right {F : Fil} {Q : Qst} (hq : rightQ Q = true) (hr : rightB F = true) : rightB (datF F Q) = true ∧ sbankB (datF F Q) F = true ∧ (∀ Q', datE (datF F Q) Q' = datE F Q') := by
  have hb : sbankB F F = true := by unfold sbankB; simp [eqW_self]
  rcases dat_ways hq hr with h | ⟨C, h⟩ | ⟨H, h⟩
  · rw [h]; exact ⟨hr, hb, fun _ => rfl⟩
  · rw [h]; exact ⟨hr, hb, fun _ => rfl⟩
  · rw [h]; exact ⟨hr, hb, fun _ => rfl⟩
theorem dat_small {F : Fil} {Q : Qst} (hq : rightQ Q = true) (hr : rightB F = true) : Small (datF F Q) := Small.of_right (dat_right hq hr).1
theorem told_right {Q : Qst} {T : Tel} (hq : rightQ Q = true) (hc : T.cd = 0) (h1 : Alike16 T (wholeT Q T.nb T.B T.nr T.R)) (h2 : cntB Q T = true) : rightT Q T = true := by
  rw [tright_yes hq, if_pos hc, (sameT_iff _ _).2 h1, h2]; rfl
/-- What is told answers what was asked. -/
theorem dat_told {F : Fil} {Q : Qst} (hq : rightQ Q = true) (hr : rightB F = true) : rightT Q (datT F Q) = true := by
  have a := ask_facts hq
  by_cases h0 : datE F Q = 0
  · have hne : ¬ datE F Q ≠ 0 := fun h => h h0
    have h0' := h0
    unfold datE at h0
    by_cases k1 : Q.k = 1 ∨ Q.k = 2
    · rw [if_pos k1] at h0
      have hT : datT F Q = { zeroT with k := Q.k, nb := bitN F (decide (Q.k = 2)) Q.ad Q.ct, B := bitL F (decide (Q.k = 2)) Q.ad } := by unfold datT; rw [if_neg hne, if_pos k1]
      have hN : bitN F (decide (Q.k = 2)) Q.ad Q.ct = Q.ct.toNat := by unfold bitN; rw [if_pos h0]
      have hc := (a.rd (by omega)).1
      rw [hT, hN]
      refine told_right hq rfl ?_ ?_
      · unfold wholeT; rw [if_pos k1]; exact ⟨rfl, rfl, rfl, rfl, rfl, rfl, rfl, rfl, fun _ _ => rfl, rfl, fun _ _ => rfl⟩
      · unfold cntB; rw [if_pos k1]; exact decide_eq_true (by show (Q.ct.toNat : Int) = Q.ct; omega)
    rw [if_neg k1] at h0
    by_cases k3 : Q.k = 3 ∨ Q.k = 4
    · rw [if_pos k3] at h0
      have hT : datT F Q = { zeroT with k := Q.k, nr := wrdN F (decide (Q.k = 4)) Q.ad Q.ct, R := wrdL F (decide (Q.k = 4)) Q.ad } := by unfold datT; rw [if_neg hne, if_neg k1, if_pos k3]
      have hN : wrdN F (decide (Q.k = 4)) Q.ad Q.ct = Q.ct.toNat := by unfold wrdN; rw [if_pos h0]
      have hc := (a.rd (by omega)).1
      rw [hT, hN]
      refine told_right hq rfl ?_ ?_
      · unfold wholeT; rw [if_neg k1, if_pos (by omega)]; exact ⟨rfl, rfl, rfl, rfl, rfl, rfl, rfl, rfl, fun _ _ => rfl, rfl, fun _ _ => rfl⟩
      · unfold cntB; rw [if_neg k1, if_pos k3]; exact decide_eq_true (by show (Q.ct.toNat : Int) = Q.ct; omega)
    rw [if_neg k3] at h0
    by_cases k5 : Q.k = 5 ∨ Q.k = 6
    · have hT : datT F Q = { zeroT with k := Q.k, ad := Q.ad, va := Q.va } := by unfold datT; rw [if_neg hne, if_neg k1, if_neg k3, if_pos k5]
      rw [hT]
      refine told_right hq rfl ?_ ?_
      · unfold wholeT; rw [if_neg k1, if_neg (by omega), if_pos k5]; exact ⟨rfl, rfl, rfl, rfl, rfl, rfl, rfl, rfl, fun _ _ => rfl, rfl, fun _ _ => rfl⟩
      · unfold cntB; rw [if_neg k1, if_neg k3, if_neg (by omega)]
    by_cases k15 : Q.k = 15 ∨ Q.k = 16
    · have hT : datT F Q = { zeroT with k := Q.k, ad := Q.ad, ct := Q.ct } := by unfold datT; rw [if_neg hne, if_neg k1, if_neg k3, if_neg k5, if_pos k15]
      rw [hT]
      refine told_right hq rfl ?_ ?_
      · unfold wholeT; rw [if_neg k1, if_neg (by omega), if_neg k5, if_pos k15]; exact ⟨rfl, rfl, rfl, rfl, rfl, rfl, rfl, rfl, fun _ _ => rfl, rfl, fun _ _ => rfl⟩
      · unfold cntB; rw [if_neg k1, if_neg k3, if_neg (by omega)]
    by_cases k22 : Q.k = 22
    · have hT : datT F Q = { zeroT with k := Q.k, ad := Q.ad, an := Q.an, oo := Q.oo } := by unfold datT; rw [if_neg hne, if_neg k1, if_neg k3, if_neg k5, if_neg k15, if_pos k22]
      rw [hT]
      refine told_right hq rfl ?_ ?_
      · unfold wholeT; rw [if_neg k1, if_neg (by omega), if_neg k5, if_neg k15, if_pos k22]; exact ⟨rfl, rfl, rfl, rfl, rfl, rfl, rfl, rfl, fun _ _ => rfl, rfl, fun _ _ => rfl⟩
      · unfold cntB; rw [if_neg k1, if_neg k3, if_neg (by omega)]
    · have k23 : Q.k = 23 := by have := a.kn; omega
      rw [if_neg (by omega), if_neg (by omega), if_neg (by omega), if_neg (by omega), if_pos k23] at h0
      have hT : datT F Q = { zeroT with k := Q.k, nr := wrdN (datF F Q) false Q.fr Q.mn, R := wrdL (datF F Q) false Q.fr } := by unfold datT; rw [if_neg hne, if_neg k1, if_neg k3, if_neg k5, if_neg k15, if_neg k22, if_pos k23]
      have hN : wrdN (datF F Q) false Q.fr Q.mn = Q.mn.toNat := by
        have e : wrdE (datF F Q) false Q.fr Q.mn = 0 := by rw [(dat_words hq hr h0' (by omega)).1]; exact (both_zero h0).2
        unfold wrdN; rw [if_pos e]
      have hc := (a.mn k23).1
      rw [hT, hN]
      refine told_right hq rfl ?_ ?_
      · unfold wholeT; rw [if_neg k1, if_pos (by omega)]; exact ⟨rfl, rfl, rfl, rfl, rfl, rfl, rfl, rfl, fun _ _ => rfl, rfl, fun _ _ => rfl⟩
      · unfold cntB; rw [if_neg k1, if_neg k3, if_pos k23]; exact decide_eq_true (by show (Q.mn.toNat : Int) = Q.mn; omega)
  · have hw := datE_ways hr hq
    rw [(datF_no h0).2, tright_yes hq, if_neg h0, (sameT_iff _ _).2 ⟨rfl, rfl, rfl, rfl, rfl, rfl, rfl, rfl, fun _ _ => rfl, rfl, fun _ _ => rfl⟩, Bool.and_true, inB_iff]
    show 1 ≤ datE F Q ∧ datE F Q ≤ 4
    omega
/-- Each word is one. -/
structure FilW (F : Fil) : Prop where
  h : ∀ i, i < F.nH → 0 ≤ F.H i ∧ F.H i < 65536
  r : ∀ i, i < F.nR → 0 ≤ F.R i ∧ F.R i < 65536
theorem mskQ_bd (x a o : Int) : 0 ≤ mskQ x a o ∧ mskQ x a o < 65536 := ⟨vM_lo _, vM_hi _⟩
theorem dat_w {F : Fil} {Q : Qst} (hq : rightQ Q = true) (hr : rightB F = true) (hw : FilW F) (hR : ∀ i, i < Q.nr → 0 ≤ Q.R i ∧ Q.R i < 65536) : FilW (datF F Q) := by
  have a := ask_facts hq
  by_cases h0 : datE F Q = 0
  · cases hw' : writesB Q.k with
    | false => rw [dat_reads hw']; exact hw
    | true =>
      have hk := (writes_iff Q.k).1 hw'
      by_cases h5 : Q.k = 5 ∨ Q.k = 15
      · rw [(dat_bits hq hr h0 h5).1]; exact ⟨hw.h, hw.r⟩
      · rw [(dat_words hq hr h0 (by omega)).1]
        refine ⟨fun i hi => ?_, hw.r⟩
        show 0 ≤ wrF F.H (wrW F Q) F.hf Q.ad (wrN Q) i ∧ wrF F.H (wrW F Q) F.hf Q.ad (wrN Q) i < 65536
        unfold wrF
        split
        · exact hw.h i hi
        · split
          · rename_i h1 h2
            unfold wrW
            split
            · have h6 := a.v6 (by omega); exact ⟨h6.1, by show Q.va < 65536; omega⟩
            · split
              · exact mskQ_bd _ _ _
              · refine hR _ ?_
                unfold wrN at h2
                rw [if_neg (by omega), if_pos (by omega)] at h2
                omega
          · exact hw.h i hi
  · rw [(datF_no h0).1]; exact hw
theorem wrd_bd {F : Fil} (hw : FilW F) (i : Bool) (x k : Int) (hk : 1 ≤ k) (j : Nat) (hj : j < wrdN F i x k) : 0 ≤ wrdL F i x j ∧ wrdL F i x j < 65536 := by
  unfold wrdN at hj
  by_cases h0 : wrdE F i x k = 0
  · rw [if_pos h0] at hj
    cases hr : rightB F with
    | false => rw [(wrdE_no i hr).1] at h0; cases h0
    | true =>
      unfold wrdE at h0
      rw [if_pos hr] at h0
      unfold wrdL
      cases i with
      | true =>
        rw [if_pos rfl] at h0 ⊢
        unfold rdE at h0
        split at h0
        · rename_i h1
          split at h0
          · rename_i h2
            have := (holdB_iff _ _ _ _).1 h2
            unfold rdF
            exact hw.r _ (by have := h1.2.1; omega)
          · cases h0
        · cases h0
      | false =>
        rw [if_neg (by decide)] at h0 ⊢
        unfold brkE at h0
        split at h0
        · cases h0
        · unfold rdE at h0
          split at h0
          · rename_i h1
            split at h0
            · rename_i h2
              have := (holdB_iff _ _ _ _).1 h2
              unfold rdF
              exact hw.h _ (by have := h1.2.1; omega)
            · cases h0
          · cases h0
  · rw [if_neg h0] at hj; exact absurd hj (Nat.not_lt_zero j)
theorem told_w {F : Fil} {Q : Qst} (hq : rightQ Q = true) (hr : rightB F = true) (hw : FilW F) (hR : ∀ i, i < Q.nr → 0 ≤ Q.R i ∧ Q.R i < 65536) : ∀ i, i < (datT F Q).nr → 0 ≤ (datT F Q).R i ∧ (datT F Q).R i < 65536 := by
  have a := ask_facts hq
  have hw' := dat_w hq hr hw hR
  unfold datT
  split
  · intro i hi; exact absurd hi (Nat.not_lt_zero i)
  split
  · intro i hi; exact absurd hi (Nat.not_lt_zero i)
  split
  · intro i hi; exact wrd_bd hw _ _ _ (a.rd (by omega)).1 i hi
  split
  · intro i hi; exact absurd hi (Nat.not_lt_zero i)
  split
  · intro i hi; exact absurd hi (Nat.not_lt_zero i)
  split
  · intro i hi; exact absurd hi (Nat.not_lt_zero i)
  split
  · intro i hi; exact wrd_bd hw' _ _ _ (a.mn (by omega)).1 i hi
  · intro i hi; exact absurd hi (Nat.not_lt_zero i)
end Go.Proofs.YtlafnobjfajamaaGreat
namespace Go.Proofs.YtlafnobjfajamaaGreat
open Go.RowKit
set_option linter.unusedVariables false

theorem told_small {Q : Qst} {T : Tel} (h : rightT Q T = true) : T.nb ≤ 2000 ∧ T.nr ≤ 125 := by
  by_cases hc : T.cd = 0
  · obtain ⟨c1, c2, c3, c4⟩ := tcnt h hc
    by_cases k1 : Q.k = 1 ∨ Q.k = 2
    · have := c1 k1; omega
    by_cases k3 : Q.k = 3 ∨ Q.k = 4
    · have := c2 k3; omega
    by_cases k23 : Q.k = 23
    · have := c3 k23; omega
    · have := c4 k1 (by omega); omega
  · obtain ⟨ha, -, -⟩ := tright_code h hc
    have h1 : T.nb = 0 := ha.nb
    have h2 : T.nr = 0 := ha.nr
    omega
theorem wf_small {x : Int} (h0 : 0 ≤ x) (h1 : x ≤ 65535) : (Lit.int .i64 x).wf = true := by simp [Lit.wf, IntKind.min, IntKind.max, IntKind.signed, IntKind.bits]; omega
theorem qst_w {Q : Qst} (h : rightQ Q = true) (hR : ∀ i, i < Q.nr → 0 ≤ Q.R i ∧ Q.R i < 65536) : QstW Q := by
  have a := ask_facts h
  obtain ⟨-, ho, -, hf⟩ := (rightQ_iff Q).1 h
  have hk := a.kn
  unfold onlyP at ho
  unfold fitsB at hf
  have key : (0 ≤ Q.k ∧ Q.k ≤ 65535) ∧ (0 ≤ Q.ct ∧ Q.ct ≤ 65535) ∧ (0 ≤ Q.va ∧ Q.va ≤ 65535) ∧ (0 ≤ Q.an ∧ Q.an ≤ 65535) ∧ (0 ≤ Q.oo ∧ Q.oo ≤ 65535) ∧ (0 ≤ Q.fr ∧ Q.fr ≤ 65535) ∧ (0 ≤ Q.mn ∧ Q.mn ≤ 65535) := by
    rcases hk with hk | hk | hk | hk | hk | hk | hk | hk | hk | hk <;>
    · simp (config := { decide := true }) only [hk, if_true, if_false, Bool.and_eq_true, inB_iff, decide_eq_true_iff, true_implies, false_implies, true_and, and_true, or_true, or_false] at ho hf
      omega
  obtain ⟨k1, k2, k3, k4, k5, k6, k7⟩ := key
  exact ⟨wf_small k1.1 k1.2, wf_small a.ad.1 a.ad.2, wf_small k2.1 k2.2, wf_small k3.1 k3.2, wf_small k4.1 k4.2, wf_small k5.1 k5.2, wf_small k6.1 k6.2, wf_small k7.1 k7.2, hR⟩
/-- Code's, Do's, of whatever there is. -/
def okB (F : Fil) (Q : Qst) : Bool := rightB F && rightQ Q
def codE (F : Fil) (Q : Qst) : Int := if okB F Q = true then datE F Q else 11
def dooE (F : Fil) (Q : Qst) : Int := if okB F Q = true then 0 else 11
def dooF (F : Fil) (Q : Qst) : Fil := if okB F Q = true then datF F Q else zeroF
def dooT (F : Fil) (Q : Qst) : Tel := if okB F Q = true then datT F Q else zeroT
theorem okB_yes {F : Fil} {Q : Qst} (h : okB F Q = true) : rightB F = true ∧ rightQ Q = true ∧ codE F Q = datE F Q ∧ dooE F Q = 0 ∧ dooF F Q = datF F Q ∧ dooT F Q = datT F Q := by
  have h2 : rightB F = true ∧ rightQ Q = true := by unfold okB at h; rwa [Bool.and_eq_true] at h
  exact ⟨h2.1, h2.2, if_pos h, if_pos h, if_pos h, if_pos h⟩
theorem okB_no {F : Fil} {Q : Qst} (h : okB F Q = false) : codE F Q = 11 ∧ dooE F Q = 11 ∧ dooF F Q = zeroF ∧ dooT F Q = zeroT := by
  have h' : ¬ okB F Q = true := by rw [h]; decide
  exact ⟨if_neg h', if_neg h', if_neg h', if_neg h'⟩
/-- Serve's. -/
def srvE (F : Fil) (n : Nat) (f : Nat → Int) : Int := if rightB F = false then 11 else if n = 0 then 12 else if f 0 = 0 ∨ 128 ≤ f 0 then 15 else 0
def srvF (F : Fil) (n : Nat) (f : Nat → Int) : Fil := if srvE F n f ≠ 0 then F else if paE n f = 0 then datF F (paQ n f) else F
def srvN (F : Fil) (n : Nat) (f : Nat → Int) : Nat := if srvE F n f ≠ 0 then 0 else if paE n f = 0 then tsayN (datT F (paQ n f)) else 2
def srvB (F : Fil) (n : Nat) (f : Nat → Int) : Nat → Int := if paE n f = 0 then tsayF (datT F (paQ n f)) else fun i => if i = 0 then f 0 + 128 else paE n f
theorem srv_err {F : Fil} {n : Nat} {f : Nat → Int} {E : Int} (h : srvE F n f = E) (h0 : E ≠ 0) : srvE F n f = E ∧ srvF F n f = F ∧ srvN F n f = 0 := by
  have : srvE F n f ≠ 0 := by rw [h]; exact h0
  exact ⟨h, if_pos this, if_pos this⟩
theorem srv_not {F : Fil} {n : Nat} {f : Nat → Int} (h : srvE F n f = 0) (hp : paE n f ≠ 0) : srvF F n f = F ∧ srvN F n f = 2 ∧ srvB F n f = fun i => if i = 0 then f 0 + 128 else paE n f := by
  have : ¬ srvE F n f ≠ 0 := fun hh => hh h
  exact ⟨by unfold srvF; rw [if_neg this, if_neg hp], by unfold srvN; rw [if_neg this, if_neg hp], by unfold srvB; rw [if_neg hp]⟩
theorem srv_does {F : Fil} {n : Nat} {f : Nat → Int} (h : srvE F n f = 0) (hp : paE n f = 0) : srvF F n f = datF F (paQ n f) ∧ srvN F n f = tsayN (datT F (paQ n f)) ∧ srvB F n f = tsayF (datT F (paQ n f)) := by
  have : ¬ srvE F n f ≠ 0 := fun hh => hh h
  exact ⟨by unfold srvF; rw [if_neg this, if_pos hp], by unfold srvN; rw [if_neg this, if_pos hp], by unfold srvB; rw [if_pos hp]⟩
def DWritesC (Fn : FuncId) : Prop := ∀ (k : Int) (w : World), Calls Tryz.prog Fn #[.int .i64 k] w fun e w' => e = .returned (.bool (writesB k)) ∧ Ext w w'
def DCodeC (Fn : FuncId) : Prop := ∀ (V : FilV) (F : Fil) (U : QstV) (Q : Qst) (w : World), FilAt w V F → FilW F → Small F → QstAt w U Q → QstW Q → Q.nb ≤ 1000000 → Q.nr ≤ 1000000 →
    Calls Tryz.prog Fn #[.agg (filC V F), .agg (qstC U Q)] w fun e w' => e = .returned (.int .i64 (codE F Q)) ∧ Ext w w'
def DDoC (Fn : FuncId) : Prop := ∀ (V : FilV) (F : Fil) (U : QstV) (Q : Qst) (w : World), FilAt w V F → FilW F → Small F → QstAt w U Q → QstW Q → Q.nb ≤ 1000000 → Q.nr ≤ 1000000 →
    Calls Tryz.prog Fn #[.agg (filC V F), .agg (qstC U Q)] w fun e w' => ∃ V' X, e = .returned (.tuple #[.agg (filC V' (dooF F Q)), .agg (telC X (dooT F Q)), .int .i64 (dooE F Q)]) ∧ FilAt w' V' (dooF F Q) ∧ TelAt w' X (dooT F Q) ∧ Ext w w'
def ServeP (F : Fil) (n : Nat) (f : Nat → Int) (w : World) (e : Ending) (w' : World) : Prop := ∃ V' G b q, e = .returned (.tuple #[.agg (filC V' G), .slice b (srvN F n f) q, .int .i64 (srvE F n f)]) ∧ (srvE F n f ≠ 11 → G = srvF F n f) ∧ FilAt w' V' G ∧ HoldsG (Value.int .u8) w' b (srvN F n f) (srvB F n f) ∧ Ext w w'
def DServeC (Fn : FuncId) : Prop := ∀ (V : FilV) (F : Fil) (a : Option Addr) (n c : Nat) (f : Nat → Int) (w : World), FilAt w V F → FilW F → Small F → Holds .u8 w a n f → n ≤ 100000 → n ≤ c → c ≤ maxLen → (∀ i, i < n → 0 ≤ f i ∧ f i < 256) →
    Calls Tryz.prog Fn #[.agg (filC V F), .slice a n c] w (ServeP F n f w)
theorem doo_small {F : Fil} {Q : Qst} : Small (dooF F Q) ∧ (dooT F Q).nb ≤ 2000 ∧ (dooT F Q).nr ≤ 125 := by
  cases h : okB F Q with
  | false => obtain ⟨-, -, h3, h4⟩ := okB_no h; rw [h3, h4]; exact ⟨small_zero, Nat.zero_le _, Nat.zero_le _⟩
  | true => obtain ⟨h1, h2, -, -, h3, h4⟩ := okB_yes h; rw [h3, h4]; exact ⟨dat_small h2 h1, told_small (dat_told h2 h1)⟩
end Go.Proofs.YtlafnobjfajamaaGreat
namespace Go.Proofs.YtlafnobjfajamaaGreat
open Go.RowKit
set_option linter.unusedVariables false
set_option maxRecDepth 100000

section
variable {P : Program} {fn : Func} {p q u v : Tmp} {ty tz : TypeId} (tmps : Array Value) (w : World) (g h : Nat) (t s : TypeId) (cs ds : Array Value) (fr gr : Nat × Nat) (d e : TypeDesc)
theorem results_rows (hr : fn.results = #[.cell p ty, .cell q tz])
    (hp : tmps.getD p undef = .pointer (some ⟨g, 0, none⟩)) (hg : w.heap[g]? = some (.cells cs t fr)) (hu : P.underlying ty = some d) (hd : (match d with | .struct _ | .array _ _ => true | _ => false) = true) (hi : (P.info? ty).map (·.size) = some cs.size)
    (hq : tmps.getD q undef = .pointer (some ⟨h, 0, none⟩)) (hh : w.heap[h]? = some (.cells ds s gr)) (hv : P.underlying tz = some e) (he : (match e with | .struct _ | .array _ _ => true | _ => false) = true) (hj : (P.info? tz).map (·.size) = some ds.size) :
    (results fn tmps).run P w = .ok (.tuple #[.agg cs, .agg ds]) w := by
  have hp' : tmps[p]?.getD undef = .pointer (some ⟨g, 0, none⟩) := by simpa using hp
  have hq' : tmps[q]?.getD undef = .pointer (some ⟨h, 0, none⟩) := by simpa using hq
  simp [results, hr, hp', hq', asAddr, Sem.run_bind, Result.andThen, run_loadVar_row w g t ty cs fr d hg hu hd hi, run_loadVar_row w h s tz ds gr e hh hv he hj]
theorem results_rows_tmp (hr : fn.results = #[.cell p ty, .cell q tz, .tmp u])
    (hp : tmps.getD p undef = .pointer (some ⟨g, 0, none⟩)) (hg : w.heap[g]? = some (.cells cs t fr)) (hu : P.underlying ty = some d) (hd : (match d with | .struct _ | .array _ _ => true | _ => false) = true) (hi : (P.info? ty).map (·.size) = some cs.size)
    (hq : tmps.getD q undef = .pointer (some ⟨h, 0, none⟩)) (hh : w.heap[h]? = some (.cells ds s gr)) (hv : P.underlying tz = some e) (he : (match e with | .struct _ | .array _ _ => true | _ => false) = true) (hj : (P.info? tz).map (·.size) = some ds.size) :
    (results fn tmps).run P w = .ok (.tuple #[.agg cs, .agg ds, tmps.getD u undef]) w := by
  have hp' : tmps[p]?.getD undef = .pointer (some ⟨g, 0, none⟩) := by simpa using hp
  have hq' : tmps[q]?.getD undef = .pointer (some ⟨h, 0, none⟩) := by simpa using hq
  simp [results, hr, hp', hq', asAddr, Sem.run_bind, Result.andThen, run_loadVar_row w g t ty cs fr d hg hu hd hi, run_loadVar_row w h s tz ds gr e hh hv he hj]
theorem results_row_tmps (hr : fn.results = #[.cell p ty, .tmp u, .tmp v])
    (hp : tmps.getD p undef = .pointer (some ⟨g, 0, none⟩)) (hg : w.heap[g]? = some (.cells cs t fr)) (hu : P.underlying ty = some d) (hd : (match d with | .struct _ | .array _ _ => true | _ => false) = true) (hi : (P.info? ty).map (·.size) = some cs.size) :
    (results fn tmps).run P w = .ok (.tuple #[.agg cs, tmps.getD u undef, tmps.getD v undef]) w := by
  have hp' : tmps[p]?.getD undef = .pointer (some ⟨g, 0, none⟩) := by simpa using hp
  simp [results, hr, hp', asAddr, Result.andThen, run_loadVar_row w g t ty cs fr d hg hu hd hi]
end
/-- A row that holds no bool and no word: nobody's cells lie there. -/
def PlainC (cs : Array Value) : Prop := (∀ b, .bool b ∉ cs) ∧ ∀ y, .int .u16 y ∉ cs
theorem plain_fil (V : FilV) (F : Fil) : PlainC (filC V F) := ⟨fun b h => by simp [filC] at h, fun b h => by simp [filC] at h⟩
theorem plain_tel (V : QstV) (T : Tel) : PlainC (telC V T) := ⟨fun b h => by simp [telC] at h, fun b h => by simp [telC] at h⟩
theorem held_off {α : Type} {mk : α → Value} {w w' : World} {g : Nat} {cs : Array Value} {t : TypeId} {x : Option Addr} {m : Nat} {B : Nat → α} (hg : w.heap[g]? = some (.cells cs t (0, 0))) (hn : ∀ u, mk u ∉ cs) (hs : w.heap.size ≤ w'.heap.size) (hk : ∀ k, k ≠ g → w'.heap[k]? = w.heap[k]?) (h : HoldsG mk w x m B) : HoldsG mk w' x m B := by
  by_cases hm : m = 0
  · exact .inl hm
  · obtain ⟨b, off, ha, hlt, hc⟩ := h.resolve_left hm
    have hb : b ≠ g := by
      rintro rfl
      have h0 := hc 0 (by omega)
      rw [cell_of_row _ _ _ _ _ _ hg] at h0
      exact hn _ (Array.mem_of_getElem? h0)
    refine .inr ⟨b, off, ha, Nat.lt_of_lt_of_le hlt hs, fun i hi => ?_⟩
    rw [← hc i hi]
    simp only [World.cell?, hk b hb]
theorem FilAt.row {w : World} {V : FilV} {F : Fil} {g : Nat} {cs : Array Value} {t : TypeId} (h : FilAt w V F) (hg : w.heap[g]? = some (.cells cs t (0, 0))) (hp : PlainC cs) (ds : Array Value) : FilAt (w.setRow g ds) V F :=
  have e := fun k (hk : k ≠ g) => setRow_other w g k ds hk
  have s : w.heap.size ≤ (w.setRow g ds).heap.size := by simp [World.setRow]
  ⟨held_off hg hp.1 s e h.h1, h.l1, h.m1, held_off hg hp.1 s e h.h2, h.l2, h.m2, held_off hg hp.2 s e h.h3, h.l3, h.m3, held_off hg hp.2 s e h.h4, h.l4, h.m4⟩
theorem FilAt.cell {w : World} {V : FilV} {F : Fil} {g : Nat} {cs : Array Value} {t : TypeId} (h : FilAt w V F) (hg : w.heap[g]? = some (.cells cs t (0, 0))) (hp : PlainC cs) (o : Nat) (v : Value) : FilAt (w.setCell ⟨g, o, none⟩ v) V F :=
  have e := fun k (hk : k ≠ g) => heap_setCell_other w ⟨g, o, none⟩ k v hk
  have s : w.heap.size ≤ (w.setCell ⟨g, o, none⟩ v).heap.size := by simp [World.setCell]
  ⟨held_off hg hp.1 s e h.h1, h.l1, h.m1, held_off hg hp.1 s e h.h2, h.l2, h.m2, held_off hg hp.2 s e h.h3, h.l3, h.m3, held_off hg hp.2 s e h.h4, h.l4, h.m4⟩
theorem TelAt.row {w : World} {V : QstV} {T : Tel} {g : Nat} {cs : Array Value} {t : TypeId} (h : TelAt w V T) (hg : w.heap[g]? = some (.cells cs t (0, 0))) (hp : PlainC cs) (ds : Array Value) : TelAt (w.setRow g ds) V T :=
  have e := fun k (hk : k ≠ g) => setRow_other w g k ds hk
  have s : w.heap.size ≤ (w.setRow g ds).heap.size := by simp [World.setRow]
  ⟨held_off hg hp.1 s e h.h1, h.l1, h.m1, held_off hg hp.2 s e h.h2, h.l2, h.m2⟩
theorem TelAt.cell {w : World} {V : QstV} {T : Tel} {g : Nat} {cs : Array Value} {t : TypeId} (h : TelAt w V T) (hg : w.heap[g]? = some (.cells cs t (0, 0))) (hp : PlainC cs) (o : Nat) (v : Value) : TelAt (w.setCell ⟨g, o, none⟩ v) V T :=
  have e := fun k (hk : k ≠ g) => heap_setCell_other w ⟨g, o, none⟩ k v hk
  have s : w.heap.size ≤ (w.setCell ⟨g, o, none⟩ v).heap.size := by simp [World.setCell]
  ⟨held_off hg hp.1 s e h.h1, h.l1, h.m1, held_off hg hp.2 s e h.h2, h.l2, h.m2⟩
theorem num_cell {w : World} {a : Addr} {k n : Int} (hk : k = n) (h : w.cell? a = some (.int .i64 k)) : w.cell? a = some (.int .i64 n) := by rw [← hk]; exact h
theorem frozen0 {w : World} {B j : Nat} {cs : Array Value} {t : TypeId} (h : w.heap[B]? = some (.cells cs t (0, 0))) : w.frozen? ⟨B, j, none⟩ = false := by simp [World.frozen?, h]

set_option maxHeartbeats 2000000 in
theorem rcode17_1 (V : FilV) (F : Fil) (U : QstV) (Q : Qst) (w : World) (hF : FilAt w V F) (hW : QstW Q) (hk : Q.k = 1) : Calls Tryz.prog 20 #[.agg (filC V F), .agg (qstC U Q)] w fun e w' => e = .returned (.int .i64 (datE F Q)) ∧ Ext w w' := by
  have hE : datE F Q = bitE F false Q.ad (Q.ct) := by unfold datE; simp (config := { decide := true }) only [hk, if_true, if_false] <;> rfl
  rw [hE]
  have K := Lib.hid (fun W (x : Ext w W) => rbits14_any V F false Q.ad (Q.ct) W (hF.ext x))
  obtain ⟨W2, hW2, e0, HX⟩ : ∃ W2, W2 = (w.alloc (.cells (filC V F) 29)).alloc (.cells (qstC U Q) 31) ∧ Ext w W2 ∧ Hid (∀ W, Ext W2 W → W.heap[w.heap.size]? = some (.cells (filC V F) 29 (0, 0)) ∧ W.heap[w.heap.size + 1]? = some (.cells (qstC U Q) 31 (0, 0))) :=
    ⟨_, rfl, (Ext.alloc w _).trans (Ext.alloc _ _), Lib.hid fun W x => ⟨x.block ((heap_alloc_old _ _ (by simp)).trans (heap_alloc_new w _)), x.block (heap_new_at _ _ (by simp))⟩⟩
  have HC := Lib.hid (fun W (x : Ext W2 W) => (⟨num_cell hk (cell_of_heap (HX.out W x).2 rfl), cell_of_heap (HX.out W x).2 rfl, cell_of_heap (HX.out W x).2 rfl, cell_of_heap (HX.out W x).2 rfl, cell_of_heap (HX.out W x).2 rfl⟩ : W.cell? ⟨w.heap.size + 1, 0, none⟩ = some (.int .i64 1) ∧ W.cell? ⟨w.heap.size + 1, 1, none⟩ = some (.int .i64 Q.ad) ∧ W.cell? ⟨w.heap.size + 1, 2, none⟩ = some (.int .i64 Q.ct) ∧ W.cell? ⟨w.heap.size + 1, 6, none⟩ = some (.int .i64 Q.fr) ∧ W.cell? ⟨w.heap.size + 1, 7, none⟩ = some (.int .i64 Q.mn)))
  obtain ⟨b1, -⟩ := HX.out _ (Ext.refl W2)
  obtain ⟨c0, c1, c2, c6, c7⟩ := HC.out _ (Ext.refl W2)
  clear hE hF hW hk
  go_enter Tryz.func20, Tryz.ntmps20
  go_upto_region 1 with fail
  rw [← hW2]
  clear hW2
  go_wp2_with (first
    | (refine wpList_load_row rfl 29 (.tmp 2) rfl w.heap.size rfl 29 _ (0, 0) _ b1 Tryz.underlying29 rfl (by kernel_rfl) ?_)
    | (go_at_call 39; refine (K.out _ e0).mono ?_; rintro e w3 ⟨b, q, rfl, -, -, -, x3, -⟩))
  go_ret
  exact ⟨rfl, e0.trans x3⟩

set_option maxHeartbeats 2000000 in
theorem rcode17_2 (V : FilV) (F : Fil) (U : QstV) (Q : Qst) (w : World) (hF : FilAt w V F) (hW : QstW Q) (hk : Q.k = 2) : Calls Tryz.prog 20 #[.agg (filC V F), .agg (qstC U Q)] w fun e w' => e = .returned (.int .i64 (datE F Q)) ∧ Ext w w' := by
  have hE : datE F Q = bitE F true Q.ad (Q.ct) := by unfold datE; simp (config := { decide := true }) only [hk, if_true, if_false] <;> rfl
  rw [hE]
  have K := Lib.hid (fun W (x : Ext w W) => rbits14_any V F true Q.ad (Q.ct) W (hF.ext x))
  obtain ⟨W2, hW2, e0, HX⟩ : ∃ W2, W2 = (w.alloc (.cells (filC V F) 29)).alloc (.cells (qstC U Q) 31) ∧ Ext w W2 ∧ Hid (∀ W, Ext W2 W → W.heap[w.heap.size]? = some (.cells (filC V F) 29 (0, 0)) ∧ W.heap[w.heap.size + 1]? = some (.cells (qstC U Q) 31 (0, 0))) :=
    ⟨_, rfl, (Ext.alloc w _).trans (Ext.alloc _ _), Lib.hid fun W x => ⟨x.block ((heap_alloc_old _ _ (by simp)).trans (heap_alloc_new w _)), x.block (heap_new_at _ _ (by simp))⟩⟩
  have HC := Lib.hid (fun W (x : Ext W2 W) => (⟨num_cell hk (cell_of_heap (HX.out W x).2 rfl), cell_of_heap (HX.out W x).2 rfl, cell_of_heap (HX.out W x).2 rfl, cell_of_heap (HX.out W x).2 rfl, cell_of_heap (HX.out W x).2 rfl⟩ : W.cell? ⟨w.heap.size + 1, 0, none⟩ = some (.int .i64 2) ∧ W.cell? ⟨w.heap.size + 1, 1, none⟩ = some (.int .i64 Q.ad) ∧ W.cell? ⟨w.heap.size + 1, 2, none⟩ = some (.int .i64 Q.ct) ∧ W.cell? ⟨w.heap.size + 1, 6, none⟩ = some (.int .i64 Q.fr) ∧ W.cell? ⟨w.heap.size + 1, 7, none⟩ = some (.int .i64 Q.mn)))
  obtain ⟨b1, -⟩ := HX.out _ (Ext.refl W2)
  obtain ⟨c0, c1, c2, c6, c7⟩ := HC.out _ (Ext.refl W2)
  clear hE hF hW hk
  go_enter Tryz.func20, Tryz.ntmps20
  go_upto_region 1 with fail
  rw [← hW2]
  clear hW2
  go_wp2_with (first
    | (refine wpList_load_row rfl 29 (.tmp 2) rfl w.heap.size rfl 29 _ (0, 0) _ b1 Tryz.underlying29 rfl (by kernel_rfl) ?_)
    | (go_at_call 39; refine (K.out _ e0).mono ?_; rintro e w3 ⟨b, q, rfl, -, -, -, x3, -⟩))
  go_ret
  exact ⟨rfl, e0.trans x3⟩

set_option maxHeartbeats 2000000 in
theorem rcode17_3 (V : FilV) (F : Fil) (U : QstV) (Q : Qst) (w : World) (hF : FilAt w V F) (hW : QstW Q) (hk : Q.k = 3) : Calls Tryz.prog 20 #[.agg (filC V F), .agg (qstC U Q)] w fun e w' => e = .returned (.int .i64 (datE F Q)) ∧ Ext w w' := by
  have hE : datE F Q = wrdE F false Q.ad (Q.ct) := by unfold datE; simp (config := { decide := true }) only [hk, if_true, if_false] <;> rfl
  rw [hE]
  have K := Lib.hid (fun W (x : Ext w W) => rwords14_any V F false Q.ad (Q.ct) W (hF.ext x) hW.wad hW.wct)
  obtain ⟨W2, hW2, e0, HX⟩ : ∃ W2, W2 = (w.alloc (.cells (filC V F) 29)).alloc (.cells (qstC U Q) 31) ∧ Ext w W2 ∧ Hid (∀ W, Ext W2 W → W.heap[w.heap.size]? = some (.cells (filC V F) 29 (0, 0)) ∧ W.heap[w.heap.size + 1]? = some (.cells (qstC U Q) 31 (0, 0))) :=
    ⟨_, rfl, (Ext.alloc w _).trans (Ext.alloc _ _), Lib.hid fun W x => ⟨x.block ((heap_alloc_old _ _ (by simp)).trans (heap_alloc_new w _)), x.block (heap_new_at _ _ (by simp))⟩⟩
  have HC := Lib.hid (fun W (x : Ext W2 W) => (⟨num_cell hk (cell_of_heap (HX.out W x).2 rfl), cell_of_heap (HX.out W x).2 rfl, cell_of_heap (HX.out W x).2 rfl, cell_of_heap (HX.out W x).2 rfl, cell_of_heap (HX.out W x).2 rfl⟩ : W.cell? ⟨w.heap.size + 1, 0, none⟩ = some (.int .i64 3) ∧ W.cell? ⟨w.heap.size + 1, 1, none⟩ = some (.int .i64 Q.ad) ∧ W.cell? ⟨w.heap.size + 1, 2, none⟩ = some (.int .i64 Q.ct) ∧ W.cell? ⟨w.heap.size + 1, 6, none⟩ = some (.int .i64 Q.fr) ∧ W.cell? ⟨w.heap.size + 1, 7, none⟩ = some (.int .i64 Q.mn)))
  obtain ⟨b1, -⟩ := HX.out _ (Ext.refl W2)
  obtain ⟨c0, c1, c2, c6, c7⟩ := HC.out _ (Ext.refl W2)
  clear hE hF hW hk
  go_enter Tryz.func20, Tryz.ntmps20
  go_upto_region 1 with fail
  rw [← hW2]
  clear hW2
  go_wp2_with (first
    | (refine wpList_load_row rfl 29 (.tmp 2) rfl w.heap.size rfl 29 _ (0, 0) _ b1 Tryz.underlying29 rfl (by kernel_rfl) ?_)
    | (go_at_call 40; refine (K.out _ e0).mono ?_; rintro e w3 ⟨b, q, rfl, -, -, -, x3, -⟩))
  go_ret
  exact ⟨rfl, e0.trans x3⟩

set_option maxHeartbeats 2000000 in
theorem rcode17_4 (V : FilV) (F : Fil) (U : QstV) (Q : Qst) (w : World) (hF : FilAt w V F) (hW : QstW Q) (hk : Q.k = 4) : Calls Tryz.prog 20 #[.agg (filC V F), .agg (qstC U Q)] w fun e w' => e = .returned (.int .i64 (datE F Q)) ∧ Ext w w' := by
  have hE : datE F Q = wrdE F true Q.ad (Q.ct) := by unfold datE; simp (config := { decide := true }) only [hk, if_true, if_false] <;> rfl
  rw [hE]
  have K := Lib.hid (fun W (x : Ext w W) => rwords14_any V F true Q.ad (Q.ct) W (hF.ext x) hW.wad hW.wct)
  obtain ⟨W2, hW2, e0, HX⟩ : ∃ W2, W2 = (w.alloc (.cells (filC V F) 29)).alloc (.cells (qstC U Q) 31) ∧ Ext w W2 ∧ Hid (∀ W, Ext W2 W → W.heap[w.heap.size]? = some (.cells (filC V F) 29 (0, 0)) ∧ W.heap[w.heap.size + 1]? = some (.cells (qstC U Q) 31 (0, 0))) :=
    ⟨_, rfl, (Ext.alloc w _).trans (Ext.alloc _ _), Lib.hid fun W x => ⟨x.block ((heap_alloc_old _ _ (by simp)).trans (heap_alloc_new w _)), x.block (heap_new_at _ _ (by simp))⟩⟩
  have HC := Lib.hid (fun W (x : Ext W2 W) => (⟨num_cell hk (cell_of_heap (HX.out W x).2 rfl), cell_of_heap (HX.out W x).2 rfl, cell_of_heap (HX.out W x).2 rfl, cell_of_heap (HX.out W x).2 rfl, cell_of_heap (HX.out W x).2 rfl⟩ : W.cell? ⟨w.heap.size + 1, 0, none⟩ = some (.int .i64 4) ∧ W.cell? ⟨w.heap.size + 1, 1, none⟩ = some (.int .i64 Q.ad) ∧ W.cell? ⟨w.heap.size + 1, 2, none⟩ = some (.int .i64 Q.ct) ∧ W.cell? ⟨w.heap.size + 1, 6, none⟩ = some (.int .i64 Q.fr) ∧ W.cell? ⟨w.heap.size + 1, 7, none⟩ = some (.int .i64 Q.mn)))
  obtain ⟨b1, -⟩ := HX.out _ (Ext.refl W2)
  obtain ⟨c0, c1, c2, c6, c7⟩ := HC.out _ (Ext.refl W2)
  clear hE hF hW hk
  go_enter Tryz.func20, Tryz.ntmps20
  go_upto_region 1 with fail
  rw [← hW2]
  clear hW2
  go_wp2_with (first
    | (refine wpList_load_row rfl 29 (.tmp 2) rfl w.heap.size rfl 29 _ (0, 0) _ b1 Tryz.underlying29 rfl (by kernel_rfl) ?_)
    | (go_at_call 40; refine (K.out _ e0).mono ?_; rintro e w3 ⟨b, q, rfl, -, -, -, x3, -⟩))
  go_ret
  exact ⟨rfl, e0.trans x3⟩

set_option maxHeartbeats 2000000 in
theorem rcode17_5 (V : FilV) (F : Fil) (U : QstV) (Q : Qst) (w : World) (hF : FilAt w V F) (hW : QstW Q) (hk : Q.k = 5) : Calls Tryz.prog 20 #[.agg (filC V F), .agg (qstC U Q)] w fun e w' => e = .returned (.int .i64 (datE F Q)) ∧ Ext w w' := by
  have hE : datE F Q = bitE F false Q.ad (1) := by unfold datE; simp (config := { decide := true }) only [hk, if_true, if_false] <;> rfl
  rw [hE]
  have K := Lib.hid (fun W (x : Ext w W) => rbits14_any V F false Q.ad (1) W (hF.ext x))
  obtain ⟨W2, hW2, e0, HX⟩ : ∃ W2, W2 = (w.alloc (.cells (filC V F) 29)).alloc (.cells (qstC U Q) 31) ∧ Ext w W2 ∧ Hid (∀ W, Ext W2 W → W.heap[w.heap.size]? = some (.cells (filC V F) 29 (0, 0)) ∧ W.heap[w.heap.size + 1]? = some (.cells (qstC U Q) 31 (0, 0))) :=
    ⟨_, rfl, (Ext.alloc w _).trans (Ext.alloc _ _), Lib.hid fun W x => ⟨x.block ((heap_alloc_old _ _ (by simp)).trans (heap_alloc_new w _)), x.block (heap_new_at _ _ (by simp))⟩⟩
  have HC := Lib.hid (fun W (x : Ext W2 W) => (⟨num_cell hk (cell_of_heap (HX.out W x).2 rfl), cell_of_heap (HX.out W x).2 rfl, cell_of_heap (HX.out W x).2 rfl, cell_of_heap (HX.out W x).2 rfl, cell_of_heap (HX.out W x).2 rfl⟩ : W.cell? ⟨w.heap.size + 1, 0, none⟩ = some (.int .i64 5) ∧ W.cell? ⟨w.heap.size + 1, 1, none⟩ = some (.int .i64 Q.ad) ∧ W.cell? ⟨w.heap.size + 1, 2, none⟩ = some (.int .i64 Q.ct) ∧ W.cell? ⟨w.heap.size + 1, 6, none⟩ = some (.int .i64 Q.fr) ∧ W.cell? ⟨w.heap.size + 1, 7, none⟩ = some (.int .i64 Q.mn)))
  obtain ⟨b1, -⟩ := HX.out _ (Ext.refl W2)
  obtain ⟨c0, c1, c2, c6, c7⟩ := HC.out _ (Ext.refl W2)
  clear hE hF hW hk
  go_enter Tryz.func20, Tryz.ntmps20
  go_upto_region 1 with fail
  rw [← hW2]
  clear hW2
  go_wp2_with (first
    | (refine wpList_load_row rfl 29 (.tmp 2) rfl w.heap.size rfl 29 _ (0, 0) _ b1 Tryz.underlying29 rfl (by kernel_rfl) ?_)
    | (go_at_call 39; refine (K.out _ e0).mono ?_; rintro e w3 ⟨b, q, rfl, -, -, -, x3, -⟩))
  go_ret
  exact ⟨rfl, e0.trans x3⟩

set_option maxHeartbeats 2000000 in
theorem rcode17_6 (V : FilV) (F : Fil) (U : QstV) (Q : Qst) (w : World) (hF : FilAt w V F) (hW : QstW Q) (hk : Q.k = 6) : Calls Tryz.prog 20 #[.agg (filC V F), .agg (qstC U Q)] w fun e w' => e = .returned (.int .i64 (datE F Q)) ∧ Ext w w' := by
  have hE : datE F Q = wrdE F false Q.ad (1) := by unfold datE; simp (config := { decide := true }) only [hk, if_true, if_false] <;> rfl
  rw [hE]
  have K := Lib.hid (fun W (x : Ext w W) => rwords14_any V F false Q.ad (1) W (hF.ext x) hW.wad (by decide))
  obtain ⟨W2, hW2, e0, HX⟩ : ∃ W2, W2 = (w.alloc (.cells (filC V F) 29)).alloc (.cells (qstC U Q) 31) ∧ Ext w W2 ∧ Hid (∀ W, Ext W2 W → W.heap[w.heap.size]? = some (.cells (filC V F) 29 (0, 0)) ∧ W.heap[w.heap.size + 1]? = some (.cells (qstC U Q) 31 (0, 0))) :=
    ⟨_, rfl, (Ext.alloc w _).trans (Ext.alloc _ _), Lib.hid fun W x => ⟨x.block ((heap_alloc_old _ _ (by simp)).trans (heap_alloc_new w _)), x.block (heap_new_at _ _ (by simp))⟩⟩
  have HC := Lib.hid (fun W (x : Ext W2 W) => (⟨num_cell hk (cell_of_heap (HX.out W x).2 rfl), cell_of_heap (HX.out W x).2 rfl, cell_of_heap (HX.out W x).2 rfl, cell_of_heap (HX.out W x).2 rfl, cell_of_heap (HX.out W x).2 rfl⟩ : W.cell? ⟨w.heap.size + 1, 0, none⟩ = some (.int .i64 6) ∧ W.cell? ⟨w.heap.size + 1, 1, none⟩ = some (.int .i64 Q.ad) ∧ W.cell? ⟨w.heap.size + 1, 2, none⟩ = some (.int .i64 Q.ct) ∧ W.cell? ⟨w.heap.size + 1, 6, none⟩ = some (.int .i64 Q.fr) ∧ W.cell? ⟨w.heap.size + 1, 7, none⟩ = some (.int .i64 Q.mn)))
  obtain ⟨b1, -⟩ := HX.out _ (Ext.refl W2)
  obtain ⟨c0, c1, c2, c6, c7⟩ := HC.out _ (Ext.refl W2)
  clear hE hF hW hk
  go_enter Tryz.func20, Tryz.ntmps20
  go_upto_region 1 with fail
  rw [← hW2]
  clear hW2
  go_wp2_with (first
    | (refine wpList_load_row rfl 29 (.tmp 2) rfl w.heap.size rfl 29 _ (0, 0) _ b1 Tryz.underlying29 rfl (by kernel_rfl) ?_)
    | (go_at_call 40; refine (K.out _ e0).mono ?_; rintro e w3 ⟨b, q, rfl, -, -, -, x3, -⟩))
  go_ret
  exact ⟨rfl, e0.trans x3⟩

set_option maxHeartbeats 2000000 in
theorem rcode17_22 (V : FilV) (F : Fil) (U : QstV) (Q : Qst) (w : World) (hF : FilAt w V F) (hW : QstW Q) (hk : Q.k = 22) : Calls Tryz.prog 20 #[.agg (filC V F), .agg (qstC U Q)] w fun e w' => e = .returned (.int .i64 (datE F Q)) ∧ Ext w w' := by
  have hE : datE F Q = wrdE F false Q.ad (1) := by unfold datE; simp (config := { decide := true }) only [hk, if_true, if_false] <;> rfl
  rw [hE]
  have K := Lib.hid (fun W (x : Ext w W) => rwords14_any V F false Q.ad (1) W (hF.ext x) hW.wad (by decide))
  obtain ⟨W2, hW2, e0, HX⟩ : ∃ W2, W2 = (w.alloc (.cells (filC V F) 29)).alloc (.cells (qstC U Q) 31) ∧ Ext w W2 ∧ Hid (∀ W, Ext W2 W → W.heap[w.heap.size]? = some (.cells (filC V F) 29 (0, 0)) ∧ W.heap[w.heap.size + 1]? = some (.cells (qstC U Q) 31 (0, 0))) :=
    ⟨_, rfl, (Ext.alloc w _).trans (Ext.alloc _ _), Lib.hid fun W x => ⟨x.block ((heap_alloc_old _ _ (by simp)).trans (heap_alloc_new w _)), x.block (heap_new_at _ _ (by simp))⟩⟩
  have HC := Lib.hid (fun W (x : Ext W2 W) => (⟨num_cell hk (cell_of_heap (HX.out W x).2 rfl), cell_of_heap (HX.out W x).2 rfl, cell_of_heap (HX.out W x).2 rfl, cell_of_heap (HX.out W x).2 rfl, cell_of_heap (HX.out W x).2 rfl⟩ : W.cell? ⟨w.heap.size + 1, 0, none⟩ = some (.int .i64 22) ∧ W.cell? ⟨w.heap.size + 1, 1, none⟩ = some (.int .i64 Q.ad) ∧ W.cell? ⟨w.heap.size + 1, 2, none⟩ = some (.int .i64 Q.ct) ∧ W.cell? ⟨w.heap.size + 1, 6, none⟩ = some (.int .i64 Q.fr) ∧ W.cell? ⟨w.heap.size + 1, 7, none⟩ = some (.int .i64 Q.mn)))
  obtain ⟨b1, -⟩ := HX.out _ (Ext.refl W2)
  obtain ⟨c0, c1, c2, c6, c7⟩ := HC.out _ (Ext.refl W2)
  clear hE hF hW hk
  go_enter Tryz.func20, Tryz.ntmps20
  go_upto_region 1 with fail
  rw [← hW2]
  clear hW2
  go_wp2_with (first
    | (refine wpList_load_row rfl 29 (.tmp 2) rfl w.heap.size rfl 29 _ (0, 0) _ b1 Tryz.underlying29 rfl (by kernel_rfl) ?_)
    | (go_at_call 40; refine (K.out _ e0).mono ?_; rintro e w3 ⟨b, q, rfl, -, -, -, x3, -⟩))
  go_ret
  exact ⟨rfl, e0.trans x3⟩

set_option maxHeartbeats 2000000 in
theorem rcode17_15 (V : FilV) (F : Fil) (U : QstV) (Q : Qst) (w : World) (hF : FilAt w V F) (hW : QstW Q) (hk : Q.k = 15) : Calls Tryz.prog 20 #[.agg (filC V F), .agg (qstC U Q)] w fun e w' => e = .returned (.int .i64 (datE F Q)) ∧ Ext w w' := by
  have hE : datE F Q = bitE F false Q.ad (Q.ct) := by unfold datE; simp (config := { decide := true }) only [hk, if_true, if_false] <;> rfl
  rw [hE]
  have K := Lib.hid (fun W (x : Ext w W) => rbits14_any V F false Q.ad (Q.ct) W (hF.ext x))
  obtain ⟨W2, hW2, e0, HX⟩ : ∃ W2, W2 = (w.alloc (.cells (filC V F) 29)).alloc (.cells (qstC U Q) 31) ∧ Ext w W2 ∧ Hid (∀ W, Ext W2 W → W.heap[w.heap.size]? = some (.cells (filC V F) 29 (0, 0)) ∧ W.heap[w.heap.size + 1]? = some (.cells (qstC U Q) 31 (0, 0))) :=
    ⟨_, rfl, (Ext.alloc w _).trans (Ext.alloc _ _), Lib.hid fun W x => ⟨x.block ((heap_alloc_old _ _ (by simp)).trans (heap_alloc_new w _)), x.block (heap_new_at _ _ (by simp))⟩⟩
  have HC := Lib.hid (fun W (x : Ext W2 W) => (⟨num_cell hk (cell_of_heap (HX.out W x).2 rfl), cell_of_heap (HX.out W x).2 rfl, cell_of_heap (HX.out W x).2 rfl, cell_of_heap (HX.out W x).2 rfl, cell_of_heap (HX.out W x).2 rfl⟩ : W.cell? ⟨w.heap.size + 1, 0, none⟩ = some (.int .i64 15) ∧ W.cell? ⟨w.heap.size + 1, 1, none⟩ = some (.int .i64 Q.ad) ∧ W.cell? ⟨w.heap.size + 1, 2, none⟩ = some (.int .i64 Q.ct) ∧ W.cell? ⟨w.heap.size + 1, 6, none⟩ = some (.int .i64 Q.fr) ∧ W.cell? ⟨w.heap.size + 1, 7, none⟩ = some (.int .i64 Q.mn)))
  obtain ⟨b1, -⟩ := HX.out _ (Ext.refl W2)
  obtain ⟨c0, c1, c2, c6, c7⟩ := HC.out _ (Ext.refl W2)
  clear hE hF hW hk
  go_enter Tryz.func20, Tryz.ntmps20
  go_upto_region 1 with fail
  rw [← hW2]
  clear hW2
  go_wp2_with (first
    | (refine wpList_load_row rfl 29 (.tmp 2) rfl w.heap.size rfl 29 _ (0, 0) _ b1 Tryz.underlying29 rfl (by kernel_rfl) ?_)
    | (go_at_call 39; refine (K.out _ e0).mono ?_; rintro e w3 ⟨b, q, rfl, -, -, -, x3, -⟩))
  go_ret
  exact ⟨rfl, e0.trans x3⟩

set_option maxHeartbeats 2000000 in
theorem rcode17_16 (V : FilV) (F : Fil) (U : QstV) (Q : Qst) (w : World) (hF : FilAt w V F) (hW : QstW Q) (hk : Q.k = 16) : Calls Tryz.prog 20 #[.agg (filC V F), .agg (qstC U Q)] w fun e w' => e = .returned (.int .i64 (datE F Q)) ∧ Ext w w' := by
  have hE : datE F Q = wrdE F false Q.ad (Q.ct) := by unfold datE; simp (config := { decide := true }) only [hk, if_true, if_false] <;> rfl
  rw [hE]
  have K := Lib.hid (fun W (x : Ext w W) => rwords14_any V F false Q.ad (Q.ct) W (hF.ext x) hW.wad hW.wct)
  obtain ⟨W2, hW2, e0, HX⟩ : ∃ W2, W2 = (w.alloc (.cells (filC V F) 29)).alloc (.cells (qstC U Q) 31) ∧ Ext w W2 ∧ Hid (∀ W, Ext W2 W → W.heap[w.heap.size]? = some (.cells (filC V F) 29 (0, 0)) ∧ W.heap[w.heap.size + 1]? = some (.cells (qstC U Q) 31 (0, 0))) :=
    ⟨_, rfl, (Ext.alloc w _).trans (Ext.alloc _ _), Lib.hid fun W x => ⟨x.block ((heap_alloc_old _ _ (by simp)).trans (heap_alloc_new w _)), x.block (heap_new_at _ _ (by simp))⟩⟩
  have HC := Lib.hid (fun W (x : Ext W2 W) => (⟨num_cell hk (cell_of_heap (HX.out W x).2 rfl), cell_of_heap (HX.out W x).2 rfl, cell_of_heap (HX.out W x).2 rfl, cell_of_heap (HX.out W x).2 rfl, cell_of_heap (HX.out W x).2 rfl⟩ : W.cell? ⟨w.heap.size + 1, 0, none⟩ = some (.int .i64 16) ∧ W.cell? ⟨w.heap.size + 1, 1, none⟩ = some (.int .i64 Q.ad) ∧ W.cell? ⟨w.heap.size + 1, 2, none⟩ = some (.int .i64 Q.ct) ∧ W.cell? ⟨w.heap.size + 1, 6, none⟩ = some (.int .i64 Q.fr) ∧ W.cell? ⟨w.heap.size + 1, 7, none⟩ = some (.int .i64 Q.mn)))
  obtain ⟨b1, -⟩ := HX.out _ (Ext.refl W2)
  obtain ⟨c0, c1, c2, c6, c7⟩ := HC.out _ (Ext.refl W2)
  clear hE hF hW hk
  go_enter Tryz.func20, Tryz.ntmps20
  go_upto_region 1 with fail
  rw [← hW2]
  clear hW2
  go_wp2_with (first
    | (refine wpList_load_row rfl 29 (.tmp 2) rfl w.heap.size rfl 29 _ (0, 0) _ b1 Tryz.underlying29 rfl (by kernel_rfl) ?_)
    | (go_at_call 40; refine (K.out _ e0).mono ?_; rintro e w3 ⟨b, q, rfl, -, -, -, x3, -⟩))
  go_ret
  exact ⟨rfl, e0.trans x3⟩

theorem bothE_ways (e g : Int) : (e = 2 ∧ bothE e g = 2) ∨ (e ≠ 2 ∧ g = 2 ∧ bothE e g = 2) ∨ (e ≠ 2 ∧ g ≠ 2 ∧ g ≠ 0 ∧ bothE e g = g) ∨ (e ≠ 2 ∧ g ≠ 2 ∧ g = 0 ∧ bothE e g = e) := by
  unfold bothE
  by_cases h1 : e = 2
  · exact .inl ⟨h1, by rw [if_pos (.inl h1)]⟩
  by_cases h2 : g = 2
  · exact .inr (.inl ⟨h1, h2, by rw [if_pos (.inr h2)]⟩)
  by_cases h3 : g = 0
  · exact .inr (.inr (.inr ⟨h1, h2, h3, by rw [if_neg (by omega), if_neg (by omega)]⟩))
  · exact .inr (.inr (.inl ⟨h1, h2, h3, by rw [if_neg (by omega), if_pos h3]⟩))
set_option maxHeartbeats 4000000 in
theorem rcode17_23 (V : FilV) (F : Fil) (U : QstV) (Q : Qst) (w : World) (hF : FilAt w V F) (hW : QstW Q) (hk : Q.k = 23) : Calls Tryz.prog 20 #[.agg (filC V F), .agg (qstC U Q)] w fun e w' => e = .returned (.int .i64 (datE F Q)) ∧ Ext w w' := by
  have hE : datE F Q = bothE (wrdE F false Q.ad Q.ct) (wrdE F false Q.fr Q.mn) := by unfold datE; simp (config := { decide := true }) only [hk, if_true, if_false]
  rw [hE]
  have K := Lib.hid (fun W (x : Ext w W) => rwords14_any V F false Q.ad Q.ct W (hF.ext x) hW.wad hW.wct)
  have L := Lib.hid (fun W (x : Ext w W) => rwords14_any V F false Q.fr Q.mn W (hF.ext x) hW.wfr hW.wmn)
  generalize wrdE F false Q.ad Q.ct = A at *
  generalize wrdE F false Q.fr Q.mn = B at *
  obtain ⟨W2, hW2, e0, HX⟩ : ∃ W2, W2 = (w.alloc (.cells (filC V F) 29)).alloc (.cells (qstC U Q) 31) ∧ Ext w W2 ∧ Hid (∀ W, Ext W2 W → W.heap[w.heap.size]? = some (.cells (filC V F) 29 (0, 0)) ∧ W.heap[w.heap.size + 1]? = some (.cells (qstC U Q) 31 (0, 0))) :=
    ⟨_, rfl, (Ext.alloc w _).trans (Ext.alloc _ _), Lib.hid fun W x => ⟨x.block ((heap_alloc_old _ _ (by simp)).trans (heap_alloc_new w _)), x.block (heap_new_at _ _ (by simp))⟩⟩
  have HC := Lib.hid (fun W (x : Ext W2 W) => (⟨num_cell hk (cell_of_heap (HX.out W x).2 rfl), cell_of_heap (HX.out W x).2 rfl, cell_of_heap (HX.out W x).2 rfl, cell_of_heap (HX.out W x).2 rfl, cell_of_heap (HX.out W x).2 rfl⟩ : W.cell? ⟨w.heap.size + 1, 0, none⟩ = some (.int .i64 23) ∧ W.cell? ⟨w.heap.size + 1, 1, none⟩ = some (.int .i64 Q.ad) ∧ W.cell? ⟨w.heap.size + 1, 2, none⟩ = some (.int .i64 Q.ct) ∧ W.cell? ⟨w.heap.size + 1, 6, none⟩ = some (.int .i64 Q.fr) ∧ W.cell? ⟨w.heap.size + 1, 7, none⟩ = some (.int .i64 Q.mn)))
  obtain ⟨b1, -⟩ := HX.out _ (Ext.refl W2)
  obtain ⟨c0, c1, c2, c6, c7⟩ := HC.out _ (Ext.refl W2)
  have hw := bothE_ways A B
  clear hE hF hW hk
  go_enter Tryz.func20, Tryz.ntmps20
  go_upto_region 1 with fail
  rw [← hW2]
  clear hW2
  go_upto_region 20 with (first
    | (refine wpList_load_row rfl 29 (.tmp 2) rfl w.heap.size rfl 29 _ (0, 0) _ b1 Tryz.underlying29 rfl (by kernel_rfl) ?_)
    | (go_at_call 40; refine (K.out _ e0).mono ?_; rintro e w3 ⟨b, q, rfl, -, -, -, x3, -⟩))
  obtain ⟨b3, -⟩ := HX.out _ x3
  obtain ⟨d0, d1, d2, d6, d7⟩ := HC.out _ x3
  clear c0 c1 c2 c6 c7 b1
  go_upto_region 21 with (first
    | (refine wpList_load_row rfl 29 (.tmp 2) rfl w.heap.size rfl 29 _ (0, 0) _ b3 Tryz.underlying29 rfl (by kernel_rfl) ?_)
    | (go_at_call 40; refine (L.out _ (e0.trans x3)).mono ?_; rintro e w4 ⟨b', q', rfl, -, -, -, x4, -⟩))
  have x5 := (e0.trans x3).trans x4
  clear d0 d1 d2 d6 d7 b3 x3 x4 HX HC K L
  rcases hw with ⟨h1, h⟩ | ⟨h1, h2, h⟩ | ⟨h1, h2, h3, h⟩ | ⟨h1, h2, h3, h⟩
  · have f1 : (A == 2) = true := by simp [h1]
    have H := Lib.hid h
    clear h1 h
    go_wp2
    go_ret
    exact ⟨by rw [H.out]; rfl, x5⟩
  · have f1 : (A == 2) = false := by simp [h1]
    have f2 : (B == 2) = true := by simp [h2]
    have H := Lib.hid h
    clear h1 h2 h
    go_wp2
    go_ret
    exact ⟨by rw [H.out]; rfl, x5⟩
  · have f1 : (A == 2) = false := by simp [h1]
    have f2 : (B == 2) = false := by simp [h2]
    have f3 : (B != 0) = true := by simp [h3]
    have H := Lib.hid h
    clear h1 h2 h3 h
    go_wp2
    go_ret
    exact ⟨by rw [H.out]; rfl, x5⟩
  · have f1 : (A == 2) = false := by simp [h1]
    have f2 : (B == 2) = false := by simp [h2]
    have f3 : (B != 0) = false := by simp [h3]
    have H := Lib.hid h
    clear h1 h2 h3 h
    go_wp2
    go_ret
    exact ⟨by rw [H.out]; rfl, x5⟩
theorem rcode17_any (V : FilV) (F : Fil) (U : QstV) (Q : Qst) (w : World) (hF : FilAt w V F) (hW : QstW Q) (hk : knownB Q.k = true) : Calls Tryz.prog 20 #[.agg (filC V F), .agg (qstC U Q)] w fun e w' => e = .returned (.int .i64 (datE F Q)) ∧ Ext w w' := by
  rcases (known_iff Q.k).1 hk with h | h | h | h | h | h | h | h | h | h
  · exact rcode17_1 V F U Q w hF hW h
  · exact rcode17_2 V F U Q w hF hW h
  · exact rcode17_3 V F U Q w hF hW h
  · exact rcode17_4 V F U Q w hF hW h
  · exact rcode17_5 V F U Q w hF hW h
  · exact rcode17_6 V F U Q w hF hW h
  · exact rcode17_15 V F U Q w hF hW h
  · exact rcode17_16 V F U Q w hF hW h
  · exact rcode17_22 V F U Q w hF hW h
  · exact rcode17_23 V F U Q w hF hW h
end Go.Proofs.YtlafnobjfajamaaGreat
namespace Go.Proofs.YtlafnobjfajamaaGreat
open Go.RowKit
set_option linter.unusedVariables false
set_option maxRecDepth 100000

/-- What Do's boxes hold. -/
structure Do17 (w wr : World) (V : FilV) (F : Fil) (U : QstV) (Q : Qst) (X : QstV) (T : Tel) : Prop where
  x : Ext w wr
  b2 : wr.heap[w.heap.size]? = some (.cells (filC V F) 29 (0, 0))
  b3 : wr.heap[w.heap.size + 1]? = some (.cells (qstC U Q) 31 (0, 0))
  b4 : wr.heap[w.heap.size + 1 + 1]? = some (.cells (filC zeroV zeroF) 29 (0, 0))
  b5 : wr.heap[w.heap.size + 1 + 1 + 1]? = some (.cells (telC zeroQV zeroT) 37 (0, 0))
  b6 : wr.heap[w.heap.size + 1 + 1 + 1 + 1]? = some (.cells (telC X T) 37 (0, 0))
  f : FilAt wr V F
  t : TelAt wr X T
section
variable {w wr : World} {V : FilV} {F : Fil} {U : QstV} {Q : Qst} {X : QstV} {T : Tel}
theorem Do17.ext {wr' : World} (h : Do17 w wr V F U Q X T) (x : Ext wr wr') : Do17 w wr' V F U Q X T := ⟨h.x.trans x, x.block h.b2, x.block h.b3, x.block h.b4, x.block h.b5, x.block h.b6, h.f.ext x, h.t.ext x⟩
theorem Do17.setF {V' : FilV} {F' : Fil} (h : Do17 w wr V F U Q X T) (hf : FilAt wr V' F') : Do17 w (wr.setRow (w.heap.size) (filC V' F')) V' F' U Q X T :=
  ⟨below_setRow h.x (Nat.le_refl _) _, setRow_heap _ _ _ _ _ _ h.b2, (setRow_other _ _ _ _ (by omega)).trans h.b3, (setRow_other _ _ _ _ (by omega)).trans h.b4, (setRow_other _ _ _ _ (by omega)).trans h.b5, (setRow_other _ _ _ _ (by omega)).trans h.b6, hf.row h.b2 (plain_fil _ _) _, h.t.row h.b2 (plain_fil _ _) _⟩
theorem Do17.setT {X' : QstV} {T' : Tel} (h : Do17 w wr V F U Q X T) (j : Nat) (v : Value) (hc : (telC X T).setIfInBounds j v = telC X' T') (ht : TelAt wr X' T') : Do17 w (wr.setCell ⟨w.heap.size + 1 + 1 + 1 + 1, j, none⟩ v) V F U Q X' T' :=
  ⟨Below.setCell h.x (by show w.heap.size ≤ w.heap.size + 1 + 1 + 1 + 1; omega) _, (heap_setCell_other _ _ _ _ (by show w.heap.size ≠ w.heap.size + 1 + 1 + 1 + 1; omega)).trans h.b2, (heap_setCell_other _ _ _ _ (by show w.heap.size + 1 ≠ w.heap.size + 1 + 1 + 1 + 1; omega)).trans h.b3, (heap_setCell_other _ _ _ _ (by show w.heap.size + 1 + 1 ≠ w.heap.size + 1 + 1 + 1 + 1; omega)).trans h.b4, (heap_setCell_other _ _ _ _ (by show w.heap.size + 1 + 1 + 1 ≠ w.heap.size + 1 + 1 + 1 + 1; omega)).trans h.b5, by rw [← hc]; exact heap_setCell_same _ _ j _ _ v h.b6, h.f.cell h.b6 (plain_tel _ _) j v, ht.cell h.b6 (plain_tel _ _) j v⟩
theorem do_begin (V : FilV) (F : Fil) (U : QstV) (Q : Qst) (w : World) (hf : FilAt w V F) : ∃ W5, W5 = ((((w.alloc (.cells (filC V F) 29)).alloc (.cells (qstC U Q) 31)).alloc (.cells #[.int .i64 0, .int .i64 0, .int .i64 0, .int .i64 0, .int .i64 0, .int .i64 0, .int .i64 0, .int .i64 0, .int .i64 0, .int .i64 0, .slice none 0 0, .slice none 0 0, .slice none 0 0, .slice none 0 0] 29)).alloc (.cells #[.int .i64 0, .int .i64 0, .int .i64 0, .int .i64 0, .int .i64 0, .int .i64 0, .int .i64 0, .slice none 0 0, .slice none 0 0] 37)) ∧ W5.heap.size = w.heap.size + 1 + 1 + 1 + 1 ∧ W5.heap[w.heap.size + 1]? = some (.cells (qstC U Q) 31 (0, 0)) ∧ Do17 w (W5.alloc (.cells #[.int .i64 Q.k, .int .i64 0, .int .i64 0, .int .i64 0, .int .i64 0, .int .i64 0, .int .i64 0, .slice none 0 0, .slice none 0 0] 37)) V F U Q zeroQV { zeroT with k := Q.k } := by
  refine ⟨_, rfl, ?_⟩
  have x1 := Ext.alloc w (.cells (filC V F) 29)
  have h1 := heap_alloc_new w (.cells (filC V F) 29)
  have s1 : (w.alloc (.cells (filC V F) 29)).heap.size = w.heap.size + 1 := by simp
  generalize w.alloc (.cells (filC V F) 29) = wa at *
  have x2 := Ext.alloc wa (.cells (qstC U Q) 31)
  have h2 := heap_alloc_new wa (.cells (qstC U Q) 31)
  have s2 : (wa.alloc (.cells (qstC U Q) 31)).heap.size = wa.heap.size + 1 := by simp
  generalize wa.alloc (.cells (qstC U Q) 31) = wb at *
  have x3 := Ext.alloc wb (.cells #[.int .i64 0, .int .i64 0, .int .i64 0, .int .i64 0, .int .i64 0, .int .i64 0, .int .i64 0, .int .i64 0, .int .i64 0, .int .i64 0, .slice none 0 0, .slice none 0 0, .slice none 0 0, .slice none 0 0] 29)
  have h3 := heap_alloc_new wb (.cells #[.int .i64 0, .int .i64 0, .int .i64 0, .int .i64 0, .int .i64 0, .int .i64 0, .int .i64 0, .int .i64 0, .int .i64 0, .int .i64 0, .slice none 0 0, .slice none 0 0, .slice none 0 0, .slice none 0 0] 29)
  have s3 : (wb.alloc (.cells #[.int .i64 0, .int .i64 0, .int .i64 0, .int .i64 0, .int .i64 0, .int .i64 0, .int .i64 0, .int .i64 0, .int .i64 0, .int .i64 0, .slice none 0 0, .slice none 0 0, .slice none 0 0, .slice none 0 0] 29)).heap.size = wb.heap.size + 1 := by simp
  generalize wb.alloc (.cells #[.int .i64 0, .int .i64 0, .int .i64 0, .int .i64 0, .int .i64 0, .int .i64 0, .int .i64 0, .int .i64 0, .int .i64 0, .int .i64 0, .slice none 0 0, .slice none 0 0, .slice none 0 0, .slice none 0 0] 29) = wc at *
  have x4 := Ext.alloc wc (.cells #[.int .i64 0, .int .i64 0, .int .i64 0, .int .i64 0, .int .i64 0, .int .i64 0, .int .i64 0, .slice none 0 0, .slice none 0 0] 37)
  have h4 := heap_alloc_new wc (.cells #[.int .i64 0, .int .i64 0, .int .i64 0, .int .i64 0, .int .i64 0, .int .i64 0, .int .i64 0, .slice none 0 0, .slice none 0 0] 37)
  have s4 : (wc.alloc (.cells #[.int .i64 0, .int .i64 0, .int .i64 0, .int .i64 0, .int .i64 0, .int .i64 0, .int .i64 0, .slice none 0 0, .slice none 0 0] 37)).heap.size = wc.heap.size + 1 := by simp
  generalize wc.alloc (.cells #[.int .i64 0, .int .i64 0, .int .i64 0, .int .i64 0, .int .i64 0, .int .i64 0, .int .i64 0, .slice none 0 0, .slice none 0 0] 37) = wd at *
  have x5 := Ext.alloc wd (.cells #[.int .i64 Q.k, .int .i64 0, .int .i64 0, .int .i64 0, .int .i64 0, .int .i64 0, .int .i64 0, .slice none 0 0, .slice none 0 0] 37)
  have h5 := heap_alloc_new wd (.cells #[.int .i64 Q.k, .int .i64 0, .int .i64 0, .int .i64 0, .int .i64 0, .int .i64 0, .int .i64 0, .slice none 0 0, .slice none 0 0] 37)
  rw [s1] at h2 s2
  rw [s2] at h3 s3
  rw [s3] at h4 s4
  rw [s4] at h5
  exact ⟨s4, x4.block (x3.block h2), (((x1.trans x2).trans x3).trans x4).trans x5, x5.block (x4.block (x3.block (x2.block h1))), x5.block (x4.block (x3.block h2)), x5.block (x4.block h3), x5.block h4, h5, hf.ext ((((x1.trans x2).trans x3).trans x4).trans x5), telnone_at _ rfl rfl⟩
end
/-- What Do tells. -/
def Do17P (F : Fil) (Q : Qst) (w : World) (e : Ending) (w' : World) : Prop := ∃ V X, e = .returned (.tuple #[.agg (filC V (datF F Q)), .agg (telC X (datT F Q))]) ∧ FilAt w' V (datF F Q) ∧ TelAt w' X (datT F Q) ∧ Ext w w'
theorem do_told {w wr : World} {V : FilV} {F : Fil} {U : QstV} {Q : Qst} {X : QstV} {T : Tel} (h : Do17 w wr V F U Q X T) : FilAt ((wr.setRow (w.heap.size + 1 + 1) (filC V F)).setRow (w.heap.size + 1 + 1 + 1) (telC X T)) V F ∧ TelAt ((wr.setRow (w.heap.size + 1 + 1) (filC V F)).setRow (w.heap.size + 1 + 1 + 1) (telC X T)) X T ∧ Ext w ((wr.setRow (w.heap.size + 1 + 1) (filC V F)).setRow (w.heap.size + 1 + 1 + 1) (telC X T)) ∧
    ((wr.setRow (w.heap.size + 1 + 1) (filC V F)).setRow (w.heap.size + 1 + 1 + 1) (telC X T)).heap[w.heap.size + 1 + 1]? = some (.cells (filC V F) 29 (0, 0)) ∧ ((wr.setRow (w.heap.size + 1 + 1) (filC V F)).setRow (w.heap.size + 1 + 1 + 1) (telC X T)).heap[w.heap.size + 1 + 1 + 1]? = some (.cells (telC X T) 37 (0, 0)) := by
  have b5 : (wr.setRow (w.heap.size + 1 + 1) (filC V F)).heap[w.heap.size + 1 + 1 + 1]? = some (.cells (telC zeroQV zeroT) 37 (0, 0)) := (setRow_other _ _ _ _ (by omega)).trans h.b5
  refine ⟨(h.f.row h.b4 (plain_fil _ _) _).row b5 (plain_tel _ _) _, (h.t.row h.b4 (plain_fil _ _) _).row b5 (plain_tel _ _) _, below_setRow (below_setRow h.x (by omega) _) (by omega) _, ?_, setRow_heap _ _ _ _ _ _ b5⟩
  exact (setRow_other _ _ _ _ (by omega)).trans (setRow_heap _ _ _ _ _ _ h.b4)

theorem keep_row (w : World) (g : Nat) (cs : Array Value) : Keep (fun i => i = g) w (w.setRow g cs) := ⟨rfl, rfl, rfl, by simp, fun k _ hn => setRow_other w _ k _ hn⟩
set_option maxHeartbeats 4000000 in
theorem rdo17_no (V : FilV) (F : Fil) (U : QstV) (Q : Qst) (w : World) (hF : FilAt w V F) (hQ : QstAt w U Q) (hW : QstW Q) (hFW : FilW F) (hq : rightQ Q = true) (hr : rightB F = true) (h0 : datE F Q ≠ 0) : Calls Tryz.prog 19 #[.agg (filC V F), .agg (qstC U Q)] w (Do17P F Q w) := by
  obtain ⟨W5, hW5, k5, k3, D0⟩ := do_begin V F U Q w hF
  have KC := Lib.hid (fun W (x : Ext w W) => rcode17_any V F U Q W (hF.ext x) hW ((rightQ_iff Q).1 hq).1)
  have c0 : W5.cell? ⟨w.heap.size + 1, 0, none⟩ = some (.int .i64 Q.k) := cell_of_heap k3 rfl
  obtain ⟨E, hE⟩ : ∃ E, datE F Q = E := ⟨_, rfl⟩
  have hne : (E != 0) = true := by rw [← hE]; simp [h0]
  have HD := Lib.hid (datF_no h0)
  rw [hE] at KC HD
  clear h0 hE hq hr hW hFW hF hQ
  go_enter Tryz.func19, Tryz.ntmps19
  go_upto_region 1 with fail
  rw [← hW5]
  clear hW5
  go_upto_region 2 with fail
  obtain ⟨W6, hW6⟩ : ∃ W6, W6 = W5.alloc (.cells #[.int .i64 Q.k, .int .i64 0, .int .i64 0, .int .i64 0, .int .i64 0, .int .i64 0, .int .i64 0, .slice none 0 0, .slice none 0 0] 37) := ⟨_, rfl⟩
  rw [← hW6] at D0 ⊢
  clear hW6 c0 k3 k5
  have c2 := D0.b2
  have c3 := D0.b3
  have xw := D0.x
  go_upto_region 4 with (first
    | (refine wpList_load_row rfl 29 (.tmp 2) rfl (w.heap.size) rfl 29 _ (0, 0) _ c2 Tryz.underlying29 rfl (by kernel_rfl) ?_)
    | (refine wpList_load_row rfl 31 (.tmp 3) rfl (w.heap.size + 1) rfl 31 _ (0, 0) _ c3 Tryz.underlying31 rfl (by kernel_rfl) ?_)
    | (go_at_call 20; refine (KC.out _ xw).mono ?_; rintro e w7 ⟨rfl, x7⟩))
  have D1 := D0.ext x7
  clear D0 c2 c3 xw
  have p1 : w7.cell? ⟨w.heap.size + 1 + 1 + 1 + 1, 1, none⟩ = some (.int .i64 0) := cell_of_heap D1.b6 rfl
  have q1 : w7.frozen? ⟨w.heap.size + 1 + 1 + 1 + 1, 1, none⟩ = false := frozen0 D1.b6
  have D2 := D1.setT (X' := zeroQV) (T' := { zeroT with k := Q.k, cd := E }) 1 (.int .i64 E) rfl (telnone_at _ rfl rfl)
  go_upto_region 5 with fail
  obtain ⟨WN, hWN⟩ : ∃ WN, WN = w7.setCell ⟨w.heap.size + 1 + 1 + 1 + 1, 1, none⟩ (.int .i64 E) := ⟨_, rfl⟩
  rw [← hWN] at D2 ⊢
  clear hWN p1 q1 D1 x7
  go_wp2_with fail
  have hd5 : Ext WN WN.drew := Ext.drew _
  have HL := Lib.hid (fun W (hx : Keep (fun i => i = w.heap.size + 1 + 1 ∨ i = w.heap.size + 1 + 1 + 1) WN W) => (⟨(hx.block _ (heap_lt D2.b2) (by omega)).trans D2.b2, (hx.block _ (heap_lt D2.b6) (by omega)).trans D2.b6⟩ : W.heap[w.heap.size]? = some (.cells (filC V F) 29 (0, 0)) ∧ W.heap[w.heap.size + 1 + 1 + 1 + 1]? = some (.cells (telC zeroQV { zeroT with k := Q.k, cd := E }) 37 (0, 0))))
  have hs : Keep (fun i => i = w.heap.size + 1 + 1 ∨ i = w.heap.size + 1 + 1 + 1) WN WN.drew := Keep.of_ext hd5
  refine wp_region_held_drew (S := fun W => Keep (fun i => i = w.heap.size + 1 + 1 ∨ i = w.heap.size + 1 + 1 + 1) WN W) (by kernel_rfl) hs (fun _ => ?_)
  refine wpAnyH_takeD (i := 0) (d := 20) rfl rfl (by kernel_rfl) (by kernel_rfl) (by kernel_rfl) (fun _ _ _ h => h) (yieldsIf_load_row (by rfl) 29 (.tmp 2) rfl (w.heap.size) rfl 29 _ (0, 0) _ (fun w' hw' => (HL.out _ hw').1) Tryz.underlying29 rfl (by kernel_rfl)) hs ?_
  simp only [Act.put, List.setIfInBounds_toArray, List.set_cons_succ, List.set_cons_zero]
  refine wpAnyH_takeD (i := 1) (d := 21) rfl rfl (by kernel_rfl) (by kernel_rfl) (by kernel_rfl) (fun _ _ _ h => h) (yieldsIf_load_row (by rfl) 37 (.tmp 6) rfl (w.heap.size + 1 + 1 + 1 + 1) rfl 37 _ (0, 0) _ (fun w' hw' => (HL.out _ hw').2) Tryz.underlying37 rfl (by kernel_rfl)) hs ?_
  simp only [Act.put, List.setIfInBounds_toArray, List.set_cons_succ, List.set_cons_zero]
  refine wpAnyH_ready (rs := [2]) (by kernel_rfl) (by simp) (AllReadyH.cons rfl (fun K hK => ?_) AllReadyH.nil)
  refine step_store_row rfl 29 (.tmp 4) (.tmp 20) rfl (w.heap.size + 1 + 1) _ rfl rfl 29 _ (hd5.block D2.b4) (by kernel_rfl) rfl (by simp [filC, Value.oneCell']) rfl ?_
  refine hK.out _ _ ((Keep.of_ext hd5).trans (keep_row _ _ _) (fun i hi => .inl (.inl hi))) (fun hs => ?_)
  clear hK K
  simp only [Act.put]
  refine wpAnyH_ready (rs := [3]) (by kernel_rfl) (by simp) (AllReadyH.cons rfl (fun K hK => ?_) AllReadyH.nil)
  refine step_store_row rfl 37 (.tmp 5) (.tmp 21) rfl (w.heap.size + 1 + 1 + 1) _ rfl rfl 37 _ ((setRow_other _ _ _ _ (by omega)).trans (hd5.block D2.b5)) (by kernel_rfl) rfl (by simp [telC, Value.oneCell']) rfl ?_
  refine hK.out _ _ (hs.trans (keep_row _ _ _) (fun i hi => .inl (.inr hi))) (fun hs => ?_)
  clear hK K
  simp only [Act.put]
  refine wpAnyH_done (by kernel_rfl) ?_ _
  go_wp2_with fail
  have DE := D2.ext hd5
  obtain ⟨q1, q2, q3, q4, q5⟩ := do_told DE
  refine bodyPost_ret (results_rows _ _ (w.heap.size + 1 + 1) (w.heap.size + 1 + 1 + 1) 29 37 _ _ (0, 0) (0, 0) _ _ rfl rfl q4 Tryz.underlying29 rfl (by kernel_rfl) rfl q5 Tryz.underlying37 rfl (by kernel_rfl)) rfl ?_
  unfold Do17P
  rw [HD.out.1, HD.out.2]
  exact ⟨V, zeroQV, rfl, q1, q2, q3⟩

theorem rmask_v (x a o : Int) (w : World) (hx : 0 ≤ x ∧ x < 65536) (ha : 0 ≤ a ∧ a < 65536) (ho : 0 ≤ o ∧ o < 65536) : Calls Tryz.prog 43 #[.int .u16 x, .int .u16 a, .int .u16 o] w fun e w' => e = .returned (.int .u16 (mskQ x a o)) ∧ w' = w := by
  obtain ⟨X, rfl⟩ := vM_of hx.1 hx.2
  obtain ⟨A, rfl⟩ := vM_of ha.1 ha.2
  obtain ⟨O, rfl⟩ := vM_of ho.1 ho.2
  refine (r13mask_any X A O w).mono fun e w' h => ⟨?_, h.2.symm⟩
  rw [h.1]
  unfold mskQ
  rw [ofInt_vM, ofInt_vM, ofInt_vM]

set_option maxHeartbeats 4000000 in
theorem rdo17_1 (V : FilV) (F : Fil) (U : QstV) (Q : Qst) (w : World) (hF : FilAt w V F) (hQ : QstAt w U Q) (hW : QstW Q) (hFW : FilW F) (hq : rightQ Q = true) (hr : rightB F = true) (h0 : datE F Q = 0) (hk : Q.k = 1) : Calls Tryz.prog 19 #[.agg (filC V F), .agg (qstC U Q)] w (Do17P F Q w) := by
  have hne : ¬ datE F Q ≠ 0 := fun h => h h0
  have af := ask_facts hq
  have hE : True := trivial
  have HD : Hid (datF F Q = F ∧ datT F Q = { zeroT with k := Q.k, nb := (bitN F false Q.ad Q.ct), B := (bitL F false Q.ad) }) := Lib.hid (by
    have e1 : datF F Q = F := by unfold datF; rw [if_neg hne]; simp (config := { decide := true }) only [hk, if_false]
    refine ⟨e1, ?_⟩
    unfold datT; rw [if_neg hne]; simp (config := { decide := true }) only [hk, if_true, if_false] <;> rfl)
  obtain ⟨W5, hW5, k5, k3, D0⟩ := do_begin V F U Q w hF
  have KC := Lib.hid (fun W (x : Ext w W) => rcode17_any V F U Q W (hF.ext x) hW ((rightQ_iff Q).1 hq).1)
  have c0 : W5.cell? ⟨w.heap.size + 1, 0, none⟩ = some (.int .i64 Q.k) := cell_of_heap k3 rfl
  have KB := Lib.hid (fun W (x : Ext w W) => rbits14_any V F false Q.ad Q.ct W (hF.ext x))
  rw [h0] at KC
  have HK := Lib.hid hk
  clear h0 hne af hq hr hW hFW hF hQ hE hk
  go_enter Tryz.func19, Tryz.ntmps19
  go_upto_region 1 with fail
  rw [← hW5]
  clear hW5
  go_upto_region 2 with fail
  obtain ⟨W6, hW6⟩ : ∃ W6, W6 = W5.alloc (.cells #[.int .i64 Q.k, .int .i64 0, .int .i64 0, .int .i64 0, .int .i64 0, .int .i64 0, .int .i64 0, .slice none 0 0, .slice none 0 0] 37) := ⟨_, rfl⟩
  rw [← hW6] at D0 ⊢
  clear hW6 c0 k3 k5
  have c2 := D0.b2
  have c3 := D0.b3
  have xw := D0.x
  go_upto_region 6 with (first
    | (refine wpList_load_row rfl 29 (.tmp 2) rfl (w.heap.size) rfl 29 _ (0, 0) _ c2 Tryz.underlying29 rfl (by kernel_rfl) ?_)
    | (refine wpList_load_row rfl 31 (.tmp 3) rfl (w.heap.size + 1) rfl 31 _ (0, 0) _ c3 Tryz.underlying31 rfl (by kernel_rfl) ?_)
    | (go_at_call 20; refine (KC.out _ xw).mono ?_; rintro e w7 ⟨rfl, x7⟩))
  have D1 := D0.ext x7
  have x1 := xw.trans x7
  clear D0 c2 c3 xw KC x7
  have c2 := D1.b2
  have c0 : w7.cell? ⟨w.heap.size + 1, 0, none⟩ = some (.int .i64 1) := num_cell HK.out (cell_of_heap D1.b3 rfl)
  have c1 : w7.cell? ⟨w.heap.size + 1, 1, none⟩ = some (.int .i64 Q.ad) := cell_of_heap D1.b3 rfl
  have cc : w7.cell? ⟨w.heap.size + 1, 2, none⟩ = some (.int .i64 Q.ct) := cell_of_heap D1.b3 rfl
  go_upto_region 38 with (first
    | (refine wpList_load_row rfl 29 (.tmp 2) rfl w.heap.size rfl 29 _ (0, 0) _ c2 Tryz.underlying29 rfl (by kernel_rfl) ?_)
    | (go_at_call 39; refine (KB.out _ x1).mono ?_; rintro e w8 ⟨bb, qq, rfl, lb, mb, hb, x8, -⟩; have D2 := D1.ext x8; have p7 : w8.cell? ⟨w.heap.size + 1 + 1 + 1 + 1, 7, none⟩ = some (.slice none 0 0) := cell_of_heap D2.b6 rfl; have q7 : w8.frozen? ⟨w.heap.size + 1 + 1 + 1 + 1, 7, none⟩ = false := frozen0 D2.b6; clear c1 cc c0 c2 D1))
  have D3 := D2.setT (X' := ⟨bb, qq, none, 0⟩) (T' := { zeroT with k := Q.k, nb := (bitN F false Q.ad Q.ct), B := (bitL F false Q.ad) }) 7 (.slice bb (bitN F false Q.ad Q.ct) qq) rfl ⟨hb, lb, mb, .inl rfl, Nat.le_refl _, Nat.zero_le _⟩
  obtain ⟨WN, hWN⟩ : ∃ WN, WN = w8.setCell ⟨w.heap.size + 1 + 1 + 1 + 1, 7, none⟩ (.slice bb (bitN F false Q.ad Q.ct) qq) := ⟨_, rfl⟩
  rw [← hWN] at D3 ⊢
  clear hWN p7 q7 D2 x8
  go_wp2_with fail
  have hd5 : Ext WN WN.drew := Ext.drew _
  have HL := Lib.hid (fun W (hx : Keep (fun i => i = w.heap.size + 1 + 1 ∨ i = w.heap.size + 1 + 1 + 1) WN W) => (⟨(hx.block _ (heap_lt D3.b2) (by omega)).trans D3.b2, (hx.block _ (heap_lt D3.b6) (by omega)).trans D3.b6⟩ : W.heap[w.heap.size]? = some (.cells (filC V (F)) 29 (0, 0)) ∧ W.heap[w.heap.size + 1 + 1 + 1 + 1]? = some (.cells (telC ⟨bb, qq, none, 0⟩ { zeroT with k := Q.k, nb := (bitN F false Q.ad Q.ct), B := (bitL F false Q.ad) }) 37 (0, 0))))
  have hs : Keep (fun i => i = w.heap.size + 1 + 1 ∨ i = w.heap.size + 1 + 1 + 1) WN WN.drew := Keep.of_ext hd5
  refine wp_region_held_drew (S := fun W => Keep (fun i => i = w.heap.size + 1 + 1 ∨ i = w.heap.size + 1 + 1 + 1) WN W) (by kernel_rfl) hs (fun _ => ?_)
  refine wpAnyH_takeD (i := 0) (d := 185) rfl rfl (by kernel_rfl) (by kernel_rfl) (by kernel_rfl) (fun _ _ _ h => h) (yieldsIf_load_row (by rfl) 29 (.tmp 2) rfl (w.heap.size) rfl 29 _ (0, 0) _ (fun w' hw' => (HL.out _ hw').1) Tryz.underlying29 rfl (by kernel_rfl)) hs ?_
  simp only [Act.put, List.setIfInBounds_toArray, List.set_cons_succ, List.set_cons_zero]
  refine wpAnyH_takeD (i := 1) (d := 186) rfl rfl (by kernel_rfl) (by kernel_rfl) (by kernel_rfl) (fun _ _ _ h => h) (yieldsIf_load_row (by rfl) 37 (.tmp 6) rfl (w.heap.size + 1 + 1 + 1 + 1) rfl 37 _ (0, 0) _ (fun w' hw' => (HL.out _ hw').2) Tryz.underlying37 rfl (by kernel_rfl)) hs ?_
  simp only [Act.put, List.setIfInBounds_toArray, List.set_cons_succ, List.set_cons_zero]
  refine wpAnyH_ready (rs := [2]) (by kernel_rfl) (by simp) (AllReadyH.cons rfl (fun K hK => ?_) AllReadyH.nil)
  refine step_store_row rfl 29 (.tmp 4) (.tmp 185) rfl (w.heap.size + 1 + 1) _ rfl rfl 29 _ (hd5.block D3.b4) (by kernel_rfl) rfl (by simp [filC, Value.oneCell']) rfl ?_
  refine hK.out _ _ ((Keep.of_ext hd5).trans (keep_row _ _ _) (fun i hi => .inl (.inl hi))) (fun hs => ?_)
  clear hK K
  simp only [Act.put]
  refine wpAnyH_ready (rs := [3]) (by kernel_rfl) (by simp) (AllReadyH.cons rfl (fun K hK => ?_) AllReadyH.nil)
  refine step_store_row rfl 37 (.tmp 5) (.tmp 186) rfl (w.heap.size + 1 + 1 + 1) _ rfl rfl 37 _ ((setRow_other _ _ _ _ (by omega)).trans (hd5.block D3.b5)) (by kernel_rfl) rfl (by simp [telC, Value.oneCell']) rfl ?_
  refine hK.out _ _ (hs.trans (keep_row _ _ _) (fun i hi => .inl (.inr hi))) (fun hs => ?_)
  clear hK K
  simp only [Act.put]
  refine wpAnyH_done (by kernel_rfl) ?_ _
  go_wp2_with fail
  have DE := D3.ext hd5
  obtain ⟨q1, q2, q3, q4, q5⟩ := do_told DE
  refine bodyPost_ret (results_rows _ _ (w.heap.size + 1 + 1) (w.heap.size + 1 + 1 + 1) 29 37 _ _ (0, 0) (0, 0) _ _ rfl rfl q4 Tryz.underlying29 rfl (by kernel_rfl) rfl q5 Tryz.underlying37 rfl (by kernel_rfl)) rfl ?_
  unfold Do17P
  rw [HD.out.1, HD.out.2]
  exact ⟨V, ⟨bb, qq, none, 0⟩, rfl, q1, q2, q3⟩

set_option maxHeartbeats 4000000 in
theorem rdo17_2 (V : FilV) (F : Fil) (U : QstV) (Q : Qst) (w : World) (hF : FilAt w V F) (hQ : QstAt w U Q) (hW : QstW Q) (hFW : FilW F) (hq : rightQ Q = true) (hr : rightB F = true) (h0 : datE F Q = 0) (hk : Q.k = 2) : Calls Tryz.prog 19 #[.agg (filC V F), .agg (qstC U Q)] w (Do17P F Q w) := by
  have hne : ¬ datE F Q ≠ 0 := fun h => h h0
  have af := ask_facts hq
  have hE : True := trivial
  have HD : Hid (datF F Q = F ∧ datT F Q = { zeroT with k := Q.k, nb := (bitN F true Q.ad Q.ct), B := (bitL F true Q.ad) }) := Lib.hid (by
    have e1 : datF F Q = F := by unfold datF; rw [if_neg hne]; simp (config := { decide := true }) only [hk, if_false]
    refine ⟨e1, ?_⟩
    unfold datT; rw [if_neg hne]; simp (config := { decide := true }) only [hk, if_true, if_false] <;> rfl)
  obtain ⟨W5, hW5, k5, k3, D0⟩ := do_begin V F U Q w hF
  have KC := Lib.hid (fun W (x : Ext w W) => rcode17_any V F U Q W (hF.ext x) hW ((rightQ_iff Q).1 hq).1)
  have c0 : W5.cell? ⟨w.heap.size + 1, 0, none⟩ = some (.int .i64 Q.k) := cell_of_heap k3 rfl
  have KB := Lib.hid (fun W (x : Ext w W) => rbits14_any V F true Q.ad Q.ct W (hF.ext x))
  rw [h0] at KC
  have HK := Lib.hid hk
  clear h0 hne af hq hr hW hFW hF hQ hE hk
  go_enter Tryz.func19, Tryz.ntmps19
  go_upto_region 1 with fail
  rw [← hW5]
  clear hW5
  go_upto_region 2 with fail
  obtain ⟨W6, hW6⟩ : ∃ W6, W6 = W5.alloc (.cells #[.int .i64 Q.k, .int .i64 0, .int .i64 0, .int .i64 0, .int .i64 0, .int .i64 0, .int .i64 0, .slice none 0 0, .slice none 0 0] 37) := ⟨_, rfl⟩
  rw [← hW6] at D0 ⊢
  clear hW6 c0 k3 k5
  have c2 := D0.b2
  have c3 := D0.b3
  have xw := D0.x
  go_upto_region 6 with (first
    | (refine wpList_load_row rfl 29 (.tmp 2) rfl (w.heap.size) rfl 29 _ (0, 0) _ c2 Tryz.underlying29 rfl (by kernel_rfl) ?_)
    | (refine wpList_load_row rfl 31 (.tmp 3) rfl (w.heap.size + 1) rfl 31 _ (0, 0) _ c3 Tryz.underlying31 rfl (by kernel_rfl) ?_)
    | (go_at_call 20; refine (KC.out _ xw).mono ?_; rintro e w7 ⟨rfl, x7⟩))
  have D1 := D0.ext x7
  have x1 := xw.trans x7
  clear D0 c2 c3 xw KC x7
  have c2 := D1.b2
  have c0 : w7.cell? ⟨w.heap.size + 1, 0, none⟩ = some (.int .i64 2) := num_cell HK.out (cell_of_heap D1.b3 rfl)
  have c1 : w7.cell? ⟨w.heap.size + 1, 1, none⟩ = some (.int .i64 Q.ad) := cell_of_heap D1.b3 rfl
  have cc : w7.cell? ⟨w.heap.size + 1, 2, none⟩ = some (.int .i64 Q.ct) := cell_of_heap D1.b3 rfl
  go_upto_region 38 with (first
    | (refine wpList_load_row rfl 29 (.tmp 2) rfl w.heap.size rfl 29 _ (0, 0) _ c2 Tryz.underlying29 rfl (by kernel_rfl) ?_)
    | (go_at_call 39; refine (KB.out _ x1).mono ?_; rintro e w8 ⟨bb, qq, rfl, lb, mb, hb, x8, -⟩; have D2 := D1.ext x8; have p7 : w8.cell? ⟨w.heap.size + 1 + 1 + 1 + 1, 7, none⟩ = some (.slice none 0 0) := cell_of_heap D2.b6 rfl; have q7 : w8.frozen? ⟨w.heap.size + 1 + 1 + 1 + 1, 7, none⟩ = false := frozen0 D2.b6; clear c1 cc c0 c2 D1))
  have D3 := D2.setT (X' := ⟨bb, qq, none, 0⟩) (T' := { zeroT with k := Q.k, nb := (bitN F true Q.ad Q.ct), B := (bitL F true Q.ad) }) 7 (.slice bb (bitN F true Q.ad Q.ct) qq) rfl ⟨hb, lb, mb, .inl rfl, Nat.le_refl _, Nat.zero_le _⟩
  obtain ⟨WN, hWN⟩ : ∃ WN, WN = w8.setCell ⟨w.heap.size + 1 + 1 + 1 + 1, 7, none⟩ (.slice bb (bitN F true Q.ad Q.ct) qq) := ⟨_, rfl⟩
  rw [← hWN] at D3 ⊢
  clear hWN p7 q7 D2 x8
  go_wp2_with fail
  have hd5 : Ext WN WN.drew := Ext.drew _
  have HL := Lib.hid (fun W (hx : Keep (fun i => i = w.heap.size + 1 + 1 ∨ i = w.heap.size + 1 + 1 + 1) WN W) => (⟨(hx.block _ (heap_lt D3.b2) (by omega)).trans D3.b2, (hx.block _ (heap_lt D3.b6) (by omega)).trans D3.b6⟩ : W.heap[w.heap.size]? = some (.cells (filC V (F)) 29 (0, 0)) ∧ W.heap[w.heap.size + 1 + 1 + 1 + 1]? = some (.cells (telC ⟨bb, qq, none, 0⟩ { zeroT with k := Q.k, nb := (bitN F true Q.ad Q.ct), B := (bitL F true Q.ad) }) 37 (0, 0))))
  have hs : Keep (fun i => i = w.heap.size + 1 + 1 ∨ i = w.heap.size + 1 + 1 + 1) WN WN.drew := Keep.of_ext hd5
  refine wp_region_held_drew (S := fun W => Keep (fun i => i = w.heap.size + 1 + 1 ∨ i = w.heap.size + 1 + 1 + 1) WN W) (by kernel_rfl) hs (fun _ => ?_)
  refine wpAnyH_takeD (i := 0) (d := 185) rfl rfl (by kernel_rfl) (by kernel_rfl) (by kernel_rfl) (fun _ _ _ h => h) (yieldsIf_load_row (by rfl) 29 (.tmp 2) rfl (w.heap.size) rfl 29 _ (0, 0) _ (fun w' hw' => (HL.out _ hw').1) Tryz.underlying29 rfl (by kernel_rfl)) hs ?_
  simp only [Act.put, List.setIfInBounds_toArray, List.set_cons_succ, List.set_cons_zero]
  refine wpAnyH_takeD (i := 1) (d := 186) rfl rfl (by kernel_rfl) (by kernel_rfl) (by kernel_rfl) (fun _ _ _ h => h) (yieldsIf_load_row (by rfl) 37 (.tmp 6) rfl (w.heap.size + 1 + 1 + 1 + 1) rfl 37 _ (0, 0) _ (fun w' hw' => (HL.out _ hw').2) Tryz.underlying37 rfl (by kernel_rfl)) hs ?_
  simp only [Act.put, List.setIfInBounds_toArray, List.set_cons_succ, List.set_cons_zero]
  refine wpAnyH_ready (rs := [2]) (by kernel_rfl) (by simp) (AllReadyH.cons rfl (fun K hK => ?_) AllReadyH.nil)
  refine step_store_row rfl 29 (.tmp 4) (.tmp 185) rfl (w.heap.size + 1 + 1) _ rfl rfl 29 _ (hd5.block D3.b4) (by kernel_rfl) rfl (by simp [filC, Value.oneCell']) rfl ?_
  refine hK.out _ _ ((Keep.of_ext hd5).trans (keep_row _ _ _) (fun i hi => .inl (.inl hi))) (fun hs => ?_)
  clear hK K
  simp only [Act.put]
  refine wpAnyH_ready (rs := [3]) (by kernel_rfl) (by simp) (AllReadyH.cons rfl (fun K hK => ?_) AllReadyH.nil)
  refine step_store_row rfl 37 (.tmp 5) (.tmp 186) rfl (w.heap.size + 1 + 1 + 1) _ rfl rfl 37 _ ((setRow_other _ _ _ _ (by omega)).trans (hd5.block D3.b5)) (by kernel_rfl) rfl (by simp [telC, Value.oneCell']) rfl ?_
  refine hK.out _ _ (hs.trans (keep_row _ _ _) (fun i hi => .inl (.inr hi))) (fun hs => ?_)
  clear hK K
  simp only [Act.put]
  refine wpAnyH_done (by kernel_rfl) ?_ _
  go_wp2_with fail
  have DE := D3.ext hd5
  obtain ⟨q1, q2, q3, q4, q5⟩ := do_told DE
  refine bodyPost_ret (results_rows _ _ (w.heap.size + 1 + 1) (w.heap.size + 1 + 1 + 1) 29 37 _ _ (0, 0) (0, 0) _ _ rfl rfl q4 Tryz.underlying29 rfl (by kernel_rfl) rfl q5 Tryz.underlying37 rfl (by kernel_rfl)) rfl ?_
  unfold Do17P
  rw [HD.out.1, HD.out.2]
  exact ⟨V, ⟨bb, qq, none, 0⟩, rfl, q1, q2, q3⟩

set_option maxHeartbeats 4000000 in
theorem rdo17_3 (V : FilV) (F : Fil) (U : QstV) (Q : Qst) (w : World) (hF : FilAt w V F) (hQ : QstAt w U Q) (hW : QstW Q) (hFW : FilW F) (hq : rightQ Q = true) (hr : rightB F = true) (h0 : datE F Q = 0) (hk : Q.k = 3) : Calls Tryz.prog 19 #[.agg (filC V F), .agg (qstC U Q)] w (Do17P F Q w) := by
  have hne : ¬ datE F Q ≠ 0 := fun h => h h0
  have af := ask_facts hq
  have hE : True := trivial
  have HD : Hid (datF F Q = F ∧ datT F Q = { zeroT with k := Q.k, nr := (wrdN F false Q.ad Q.ct), R := (wrdL F false Q.ad) }) := Lib.hid (by
    have e1 : datF F Q = F := by unfold datF; rw [if_neg hne]; simp (config := { decide := true }) only [hk, if_false]
    refine ⟨e1, ?_⟩
    unfold datT; rw [if_neg hne]; simp (config := { decide := true }) only [hk, if_true, if_false] <;> rfl)
  obtain ⟨W5, hW5, k5, k3, D0⟩ := do_begin V F U Q w hF
  have KC := Lib.hid (fun W (x : Ext w W) => rcode17_any V F U Q W (hF.ext x) hW ((rightQ_iff Q).1 hq).1)
  have c0 : W5.cell? ⟨w.heap.size + 1, 0, none⟩ = some (.int .i64 Q.k) := cell_of_heap k3 rfl
  have KB := Lib.hid (fun W (x : Ext w W) => rwords14_any V F false Q.ad Q.ct W (hF.ext x) hW.wad hW.wct)
  rw [h0] at KC
  have HK := Lib.hid hk
  clear h0 hne af hq hr hW hFW hF hQ hE hk
  go_enter Tryz.func19, Tryz.ntmps19
  go_upto_region 1 with fail
  rw [← hW5]
  clear hW5
  go_upto_region 2 with fail
  obtain ⟨W6, hW6⟩ : ∃ W6, W6 = W5.alloc (.cells #[.int .i64 Q.k, .int .i64 0, .int .i64 0, .int .i64 0, .int .i64 0, .int .i64 0, .int .i64 0, .slice none 0 0, .slice none 0 0] 37) := ⟨_, rfl⟩
  rw [← hW6] at D0 ⊢
  clear hW6 c0 k3 k5
  have c2 := D0.b2
  have c3 := D0.b3
  have xw := D0.x
  go_upto_region 6 with (first
    | (refine wpList_load_row rfl 29 (.tmp 2) rfl (w.heap.size) rfl 29 _ (0, 0) _ c2 Tryz.underlying29 rfl (by kernel_rfl) ?_)
    | (refine wpList_load_row rfl 31 (.tmp 3) rfl (w.heap.size + 1) rfl 31 _ (0, 0) _ c3 Tryz.underlying31 rfl (by kernel_rfl) ?_)
    | (go_at_call 20; refine (KC.out _ xw).mono ?_; rintro e w7 ⟨rfl, x7⟩))
  have D1 := D0.ext x7
  have x1 := xw.trans x7
  clear D0 c2 c3 xw KC x7
  have c2 := D1.b2
  have c0 : w7.cell? ⟨w.heap.size + 1, 0, none⟩ = some (.int .i64 3) := num_cell HK.out (cell_of_heap D1.b3 rfl)
  have c1 : w7.cell? ⟨w.heap.size + 1, 1, none⟩ = some (.int .i64 Q.ad) := cell_of_heap D1.b3 rfl
  have cc : w7.cell? ⟨w.heap.size + 1, 2, none⟩ = some (.int .i64 Q.ct) := cell_of_heap D1.b3 rfl
  go_upto_region 38 with (first
    | (refine wpList_load_row rfl 29 (.tmp 2) rfl w.heap.size rfl 29 _ (0, 0) _ c2 Tryz.underlying29 rfl (by kernel_rfl) ?_)
    | (go_at_call 40; refine (KB.out _ x1).mono ?_; rintro e w8 ⟨bb, qq, rfl, lb, mb, hb, x8, -⟩; have D2 := D1.ext x8; have p7 : w8.cell? ⟨w.heap.size + 1 + 1 + 1 + 1, 8, none⟩ = some (.slice none 0 0) := cell_of_heap D2.b6 rfl; have q7 : w8.frozen? ⟨w.heap.size + 1 + 1 + 1 + 1, 8, none⟩ = false := frozen0 D2.b6; clear c1 cc c0 c2 D1))
  have D3 := D2.setT (X' := ⟨none, 0, bb, qq⟩) (T' := { zeroT with k := Q.k, nr := (wrdN F false Q.ad Q.ct), R := (wrdL F false Q.ad) }) 8 (.slice bb (wrdN F false Q.ad Q.ct) qq) rfl ⟨.inl rfl, Nat.le_refl _, Nat.zero_le _, hb, lb, mb⟩
  obtain ⟨WN, hWN⟩ : ∃ WN, WN = w8.setCell ⟨w.heap.size + 1 + 1 + 1 + 1, 8, none⟩ (.slice bb (wrdN F false Q.ad Q.ct) qq) := ⟨_, rfl⟩
  rw [← hWN] at D3 ⊢
  clear hWN p7 q7 D2 x8
  go_wp2_with fail
  have hd5 : Ext WN WN.drew := Ext.drew _
  have HL := Lib.hid (fun W (hx : Keep (fun i => i = w.heap.size + 1 + 1 ∨ i = w.heap.size + 1 + 1 + 1) WN W) => (⟨(hx.block _ (heap_lt D3.b2) (by omega)).trans D3.b2, (hx.block _ (heap_lt D3.b6) (by omega)).trans D3.b6⟩ : W.heap[w.heap.size]? = some (.cells (filC V (F)) 29 (0, 0)) ∧ W.heap[w.heap.size + 1 + 1 + 1 + 1]? = some (.cells (telC ⟨none, 0, bb, qq⟩ { zeroT with k := Q.k, nr := (wrdN F false Q.ad Q.ct), R := (wrdL F false Q.ad) }) 37 (0, 0))))
  have hs : Keep (fun i => i = w.heap.size + 1 + 1 ∨ i = w.heap.size + 1 + 1 + 1) WN WN.drew := Keep.of_ext hd5
  refine wp_region_held_drew (S := fun W => Keep (fun i => i = w.heap.size + 1 + 1 ∨ i = w.heap.size + 1 + 1 + 1) WN W) (by kernel_rfl) hs (fun _ => ?_)
  refine wpAnyH_takeD (i := 0) (d := 185) rfl rfl (by kernel_rfl) (by kernel_rfl) (by kernel_rfl) (fun _ _ _ h => h) (yieldsIf_load_row (by rfl) 29 (.tmp 2) rfl (w.heap.size) rfl 29 _ (0, 0) _ (fun w' hw' => (HL.out _ hw').1) Tryz.underlying29 rfl (by kernel_rfl)) hs ?_
  simp only [Act.put, List.setIfInBounds_toArray, List.set_cons_succ, List.set_cons_zero]
  refine wpAnyH_takeD (i := 1) (d := 186) rfl rfl (by kernel_rfl) (by kernel_rfl) (by kernel_rfl) (fun _ _ _ h => h) (yieldsIf_load_row (by rfl) 37 (.tmp 6) rfl (w.heap.size + 1 + 1 + 1 + 1) rfl 37 _ (0, 0) _ (fun w' hw' => (HL.out _ hw').2) Tryz.underlying37 rfl (by kernel_rfl)) hs ?_
  simp only [Act.put, List.setIfInBounds_toArray, List.set_cons_succ, List.set_cons_zero]
  refine wpAnyH_ready (rs := [2]) (by kernel_rfl) (by simp) (AllReadyH.cons rfl (fun K hK => ?_) AllReadyH.nil)
  refine step_store_row rfl 29 (.tmp 4) (.tmp 185) rfl (w.heap.size + 1 + 1) _ rfl rfl 29 _ (hd5.block D3.b4) (by kernel_rfl) rfl (by simp [filC, Value.oneCell']) rfl ?_
  refine hK.out _ _ ((Keep.of_ext hd5).trans (keep_row _ _ _) (fun i hi => .inl (.inl hi))) (fun hs => ?_)
  clear hK K
  simp only [Act.put]
  refine wpAnyH_ready (rs := [3]) (by kernel_rfl) (by simp) (AllReadyH.cons rfl (fun K hK => ?_) AllReadyH.nil)
  refine step_store_row rfl 37 (.tmp 5) (.tmp 186) rfl (w.heap.size + 1 + 1 + 1) _ rfl rfl 37 _ ((setRow_other _ _ _ _ (by omega)).trans (hd5.block D3.b5)) (by kernel_rfl) rfl (by simp [telC, Value.oneCell']) rfl ?_
  refine hK.out _ _ (hs.trans (keep_row _ _ _) (fun i hi => .inl (.inr hi))) (fun hs => ?_)
  clear hK K
  simp only [Act.put]
  refine wpAnyH_done (by kernel_rfl) ?_ _
  go_wp2_with fail
  have DE := D3.ext hd5
  obtain ⟨q1, q2, q3, q4, q5⟩ := do_told DE
  refine bodyPost_ret (results_rows _ _ (w.heap.size + 1 + 1) (w.heap.size + 1 + 1 + 1) 29 37 _ _ (0, 0) (0, 0) _ _ rfl rfl q4 Tryz.underlying29 rfl (by kernel_rfl) rfl q5 Tryz.underlying37 rfl (by kernel_rfl)) rfl ?_
  unfold Do17P
  rw [HD.out.1, HD.out.2]
  exact ⟨V, ⟨none, 0, bb, qq⟩, rfl, q1, q2, q3⟩

set_option maxHeartbeats 4000000 in
theorem rdo17_4 (V : FilV) (F : Fil) (U : QstV) (Q : Qst) (w : World) (hF : FilAt w V F) (hQ : QstAt w U Q) (hW : QstW Q) (hFW : FilW F) (hq : rightQ Q = true) (hr : rightB F = true) (h0 : datE F Q = 0) (hk : Q.k = 4) : Calls Tryz.prog 19 #[.agg (filC V F), .agg (qstC U Q)] w (Do17P F Q w) := by
  have hne : ¬ datE F Q ≠ 0 := fun h => h h0
  have af := ask_facts hq
  have hE : True := trivial
  have HD : Hid (datF F Q = F ∧ datT F Q = { zeroT with k := Q.k, nr := (wrdN F true Q.ad Q.ct), R := (wrdL F true Q.ad) }) := Lib.hid (by
    have e1 : datF F Q = F := by unfold datF; rw [if_neg hne]; simp (config := { decide := true }) only [hk, if_false]
    refine ⟨e1, ?_⟩
    unfold datT; rw [if_neg hne]; simp (config := { decide := true }) only [hk, if_true, if_false] <;> rfl)
  obtain ⟨W5, hW5, k5, k3, D0⟩ := do_begin V F U Q w hF
  have KC := Lib.hid (fun W (x : Ext w W) => rcode17_any V F U Q W (hF.ext x) hW ((rightQ_iff Q).1 hq).1)
  have c0 : W5.cell? ⟨w.heap.size + 1, 0, none⟩ = some (.int .i64 Q.k) := cell_of_heap k3 rfl
  have KB := Lib.hid (fun W (x : Ext w W) => rwords14_any V F true Q.ad Q.ct W (hF.ext x) hW.wad hW.wct)
  rw [h0] at KC
  have HK := Lib.hid hk
  clear h0 hne af hq hr hW hFW hF hQ hE hk
  go_enter Tryz.func19, Tryz.ntmps19
  go_upto_region 1 with fail
  rw [← hW5]
  clear hW5
  go_upto_region 2 with fail
  obtain ⟨W6, hW6⟩ : ∃ W6, W6 = W5.alloc (.cells #[.int .i64 Q.k, .int .i64 0, .int .i64 0, .int .i64 0, .int .i64 0, .int .i64 0, .int .i64 0, .slice none 0 0, .slice none 0 0] 37) := ⟨_, rfl⟩
  rw [← hW6] at D0 ⊢
  clear hW6 c0 k3 k5
  have c2 := D0.b2
  have c3 := D0.b3
  have xw := D0.x
  go_upto_region 6 with (first
    | (refine wpList_load_row rfl 29 (.tmp 2) rfl (w.heap.size) rfl 29 _ (0, 0) _ c2 Tryz.underlying29 rfl (by kernel_rfl) ?_)
    | (refine wpList_load_row rfl 31 (.tmp 3) rfl (w.heap.size + 1) rfl 31 _ (0, 0) _ c3 Tryz.underlying31 rfl (by kernel_rfl) ?_)
    | (go_at_call 20; refine (KC.out _ xw).mono ?_; rintro e w7 ⟨rfl, x7⟩))
  have D1 := D0.ext x7
  have x1 := xw.trans x7
  clear D0 c2 c3 xw KC x7
  have c2 := D1.b2
  have c0 : w7.cell? ⟨w.heap.size + 1, 0, none⟩ = some (.int .i64 4) := num_cell HK.out (cell_of_heap D1.b3 rfl)
  have c1 : w7.cell? ⟨w.heap.size + 1, 1, none⟩ = some (.int .i64 Q.ad) := cell_of_heap D1.b3 rfl
  have cc : w7.cell? ⟨w.heap.size + 1, 2, none⟩ = some (.int .i64 Q.ct) := cell_of_heap D1.b3 rfl
  go_upto_region 38 with (first
    | (refine wpList_load_row rfl 29 (.tmp 2) rfl w.heap.size rfl 29 _ (0, 0) _ c2 Tryz.underlying29 rfl (by kernel_rfl) ?_)
    | (go_at_call 40; refine (KB.out _ x1).mono ?_; rintro e w8 ⟨bb, qq, rfl, lb, mb, hb, x8, -⟩; have D2 := D1.ext x8; have p7 : w8.cell? ⟨w.heap.size + 1 + 1 + 1 + 1, 8, none⟩ = some (.slice none 0 0) := cell_of_heap D2.b6 rfl; have q7 : w8.frozen? ⟨w.heap.size + 1 + 1 + 1 + 1, 8, none⟩ = false := frozen0 D2.b6; clear c1 cc c0 c2 D1))
  have D3 := D2.setT (X' := ⟨none, 0, bb, qq⟩) (T' := { zeroT with k := Q.k, nr := (wrdN F true Q.ad Q.ct), R := (wrdL F true Q.ad) }) 8 (.slice bb (wrdN F true Q.ad Q.ct) qq) rfl ⟨.inl rfl, Nat.le_refl _, Nat.zero_le _, hb, lb, mb⟩
  obtain ⟨WN, hWN⟩ : ∃ WN, WN = w8.setCell ⟨w.heap.size + 1 + 1 + 1 + 1, 8, none⟩ (.slice bb (wrdN F true Q.ad Q.ct) qq) := ⟨_, rfl⟩
  rw [← hWN] at D3 ⊢
  clear hWN p7 q7 D2 x8
  go_wp2_with fail
  have hd5 : Ext WN WN.drew := Ext.drew _
  have HL := Lib.hid (fun W (hx : Keep (fun i => i = w.heap.size + 1 + 1 ∨ i = w.heap.size + 1 + 1 + 1) WN W) => (⟨(hx.block _ (heap_lt D3.b2) (by omega)).trans D3.b2, (hx.block _ (heap_lt D3.b6) (by omega)).trans D3.b6⟩ : W.heap[w.heap.size]? = some (.cells (filC V (F)) 29 (0, 0)) ∧ W.heap[w.heap.size + 1 + 1 + 1 + 1]? = some (.cells (telC ⟨none, 0, bb, qq⟩ { zeroT with k := Q.k, nr := (wrdN F true Q.ad Q.ct), R := (wrdL F true Q.ad) }) 37 (0, 0))))
  have hs : Keep (fun i => i = w.heap.size + 1 + 1 ∨ i = w.heap.size + 1 + 1 + 1) WN WN.drew := Keep.of_ext hd5
  refine wp_region_held_drew (S := fun W => Keep (fun i => i = w.heap.size + 1 + 1 ∨ i = w.heap.size + 1 + 1 + 1) WN W) (by kernel_rfl) hs (fun _ => ?_)
  refine wpAnyH_takeD (i := 0) (d := 185) rfl rfl (by kernel_rfl) (by kernel_rfl) (by kernel_rfl) (fun _ _ _ h => h) (yieldsIf_load_row (by rfl) 29 (.tmp 2) rfl (w.heap.size) rfl 29 _ (0, 0) _ (fun w' hw' => (HL.out _ hw').1) Tryz.underlying29 rfl (by kernel_rfl)) hs ?_
  simp only [Act.put, List.setIfInBounds_toArray, List.set_cons_succ, List.set_cons_zero]
  refine wpAnyH_takeD (i := 1) (d := 186) rfl rfl (by kernel_rfl) (by kernel_rfl) (by kernel_rfl) (fun _ _ _ h => h) (yieldsIf_load_row (by rfl) 37 (.tmp 6) rfl (w.heap.size + 1 + 1 + 1 + 1) rfl 37 _ (0, 0) _ (fun w' hw' => (HL.out _ hw').2) Tryz.underlying37 rfl (by kernel_rfl)) hs ?_
  simp only [Act.put, List.setIfInBounds_toArray, List.set_cons_succ, List.set_cons_zero]
  refine wpAnyH_ready (rs := [2]) (by kernel_rfl) (by simp) (AllReadyH.cons rfl (fun K hK => ?_) AllReadyH.nil)
  refine step_store_row rfl 29 (.tmp 4) (.tmp 185) rfl (w.heap.size + 1 + 1) _ rfl rfl 29 _ (hd5.block D3.b4) (by kernel_rfl) rfl (by simp [filC, Value.oneCell']) rfl ?_
  refine hK.out _ _ ((Keep.of_ext hd5).trans (keep_row _ _ _) (fun i hi => .inl (.inl hi))) (fun hs => ?_)
  clear hK K
  simp only [Act.put]
  refine wpAnyH_ready (rs := [3]) (by kernel_rfl) (by simp) (AllReadyH.cons rfl (fun K hK => ?_) AllReadyH.nil)
  refine step_store_row rfl 37 (.tmp 5) (.tmp 186) rfl (w.heap.size + 1 + 1 + 1) _ rfl rfl 37 _ ((setRow_other _ _ _ _ (by omega)).trans (hd5.block D3.b5)) (by kernel_rfl) rfl (by simp [telC, Value.oneCell']) rfl ?_
  refine hK.out _ _ (hs.trans (keep_row _ _ _) (fun i hi => .inl (.inr hi))) (fun hs => ?_)
  clear hK K
  simp only [Act.put]
  refine wpAnyH_done (by kernel_rfl) ?_ _
  go_wp2_with fail
  have DE := D3.ext hd5
  obtain ⟨q1, q2, q3, q4, q5⟩ := do_told DE
  refine bodyPost_ret (results_rows _ _ (w.heap.size + 1 + 1) (w.heap.size + 1 + 1 + 1) 29 37 _ _ (0, 0) (0, 0) _ _ rfl rfl q4 Tryz.underlying29 rfl (by kernel_rfl) rfl q5 Tryz.underlying37 rfl (by kernel_rfl)) rfl ?_
  unfold Do17P
  rw [HD.out.1, HD.out.2]
  exact ⟨V, ⟨none, 0, bb, qq⟩, rfl, q1, q2, q3⟩
end Go.Proofs.YtlafnobjfajamaaGreat
namespace Go.Proofs.YtlafnobjfajamaaGreat
open Go.RowKit
set_option linter.unusedVariables false
set_option maxRecDepth 100000

set_option maxHeartbeats 4000000 in
theorem rdo17_5 (V : FilV) (F : Fil) (U : QstV) (Q : Qst) (w : World) (hF : FilAt w V F) (hQ : QstAt w U Q) (hW : QstW Q) (hFW : FilW F) (hq : rightQ Q = true) (hr : rightB F = true) (h0 : datE F Q = 0) (hk : Q.k = 5) : Calls Tryz.prog 19 #[.agg (filC V F), .agg (qstC U Q)] w (Do17P F Q w) := by
  have hne : ¬ datE F Q ≠ 0 := fun h => h h0
  have af := ask_facts hq
  have hE : True := trivial
  have HD : Hid (datF F Q = (sbF F Q.ad 1 (fun _ => decide (Q.va = 65280))) ∧ datT F Q = { zeroT with k := Q.k, ad := Q.ad, va := Q.va }) := Lib.hid (by
    have e1 : datF F Q = (sbF F Q.ad 1 (fun _ => decide (Q.va = 65280))) := by unfold datF; rw [if_neg hne]; simp (config := { decide := true }) only [hk, if_true, if_false]
    refine ⟨e1, ?_⟩
    unfold datT; rw [if_neg hne]; simp (config := { decide := true }) only [hk, if_true, if_false] <;> rfl)
  obtain ⟨W5, hW5, k5, k3, D0⟩ := do_begin V F U Q w hF
  have KC := Lib.hid (fun W (x : Ext w W) => rcode17_any V F U Q W (hF.ext x) hW ((rightQ_iff Q).1 hq).1)
  have c0 : W5.cell? ⟨w.heap.size + 1, 0, none⟩ = some (.int .i64 Q.k) := cell_of_heap k3 rfl
  obtain ⟨B, hB⟩ : ∃ B, decide (Q.va = 65280) = B := ⟨_, rfl⟩
  have hB' : (Q.va == 65280) = B := hB
  rw [hB] at HD
  clear hB
  have KB := Lib.hid (fun W (x : Ext w W) (g : Nat) (h : HoldsG Value.bool W (some ⟨g, 0, none⟩) 1 (fun _ => B)) => rsetbits14_any V F Q.ad (some ⟨g, 0, none⟩) 1 1 (fun _ => B) W (hF.ext x) h (by omega))
  rw [h0] at KC
  have HK := Lib.hid hk
  clear h0 hne af hq hr hW hFW hF hQ hE hk
  go_enter Tryz.func19, Tryz.ntmps19
  go_upto_region 1 with fail
  rw [← hW5]
  clear hW5
  go_upto_region 2 with fail
  obtain ⟨W6, hW6⟩ : ∃ W6, W6 = W5.alloc (.cells #[.int .i64 Q.k, .int .i64 0, .int .i64 0, .int .i64 0, .int .i64 0, .int .i64 0, .int .i64 0, .slice none 0 0, .slice none 0 0] 37) := ⟨_, rfl⟩
  rw [← hW6] at D0 ⊢
  clear hW6 c0 k3 k5
  have c2 := D0.b2
  have c3 := D0.b3
  have xw := D0.x
  go_upto_region 6 with (first
    | (refine wpList_load_row rfl 29 (.tmp 2) rfl (w.heap.size) rfl 29 _ (0, 0) _ c2 Tryz.underlying29 rfl (by kernel_rfl) ?_)
    | (refine wpList_load_row rfl 31 (.tmp 3) rfl (w.heap.size + 1) rfl 31 _ (0, 0) _ c3 Tryz.underlying31 rfl (by kernel_rfl) ?_)
    | (go_at_call 20; refine (KC.out _ xw).mono ?_; rintro e w7 ⟨rfl, x7⟩))
  have D1 := D0.ext x7
  have x1 := xw.trans x7
  clear D0 c2 c3 xw KC x7
  have c2 := D1.b2
  have c0 : w7.cell? ⟨w.heap.size + 1, 0, none⟩ = some (.int .i64 5) := num_cell HK.out (cell_of_heap D1.b3 rfl)
  have c1 : w7.cell? ⟨w.heap.size + 1, 1, none⟩ = some (.int .i64 Q.ad) := cell_of_heap D1.b3 rfl
  have cv : w7.cell? ⟨w.heap.size + 1, 3, none⟩ = some (.int .i64 Q.va) := cell_of_heap D1.b3 rfl
  go_upto_region 15 with (first
    | (refine wpList_load_row rfl 29 (.tmp 2) rfl w.heap.size rfl 29 _ (0, 0) _ c2 Tryz.underlying29 rfl (by kernel_rfl) ?_)
    | (go_at_call 41; refine (KB.out _ (x1.trans (Ext.alloc _ _)) _ (one_cell (mk := Value.bool) w7 B _)).mono ?_; rintro e w8 ⟨V8, rfl, hf8, x8, -⟩; have D2 := D1.ext ((Ext.alloc _ _).trans x8); have b2 := D2.b2; clear c2 c0 c1)
    | (refine wpList_store_row rfl 29 (.tmp 2) (.tmp 67) rfl w.heap.size _ rfl rfl 29 _ b2 (by kernel_rfl) rfl (by simp [filC, Value.oneCell']) ?_))
  have D3 := D2.setF hf8
  obtain ⟨w9, hw9⟩ : ∃ W, W = w8.setRow w.heap.size (filC V8 (sbF F Q.ad 1 (fun _ => B))) := ⟨_, rfl⟩
  rw [← hw9] at D3 ⊢
  clear hw9 b2 D2 hf8 D1 x8
  have a0 : w9.cell? ⟨w.heap.size + 1, 1, none⟩ = some (.int .i64 Q.ad) := cell_of_heap D3.b3 rfl
  have p0 : w9.cell? ⟨w.heap.size + 1 + 1 + 1 + 1, 2, none⟩ = some (.int .i64 0) := cell_of_heap D3.b6 rfl
  have q0 : w9.frozen? ⟨w.heap.size + 1 + 1 + 1 + 1, 2, none⟩ = false := frozen0 D3.b6
  have Df0 := D3.setT (X' := zeroQV) (T' := { zeroT with k := Q.k, ad := Q.ad }) 2 (.int .i64 Q.ad) rfl (telnone_at _ rfl rfl)
  go_upto_region 16 with fail
  obtain ⟨wf0, hwf0⟩ : ∃ W, W = w9.setCell ⟨w.heap.size + 1 + 1 + 1 + 1, 2, none⟩ (.int .i64 Q.ad) := ⟨_, rfl⟩
  rw [← hwf0] at Df0 ⊢
  clear hwf0 a0 p0 q0 D3
  have a1 : wf0.cell? ⟨w.heap.size + 1, 3, none⟩ = some (.int .i64 Q.va) := cell_of_heap Df0.b3 rfl
  have p1 : wf0.cell? ⟨w.heap.size + 1 + 1 + 1 + 1, 4, none⟩ = some (.int .i64 0) := cell_of_heap Df0.b6 rfl
  have q1 : wf0.frozen? ⟨w.heap.size + 1 + 1 + 1 + 1, 4, none⟩ = false := frozen0 Df0.b6
  have Df1 := Df0.setT (X' := zeroQV) (T' := { zeroT with k := Q.k, ad := Q.ad, va := Q.va }) 4 (.int .i64 Q.va) rfl (telnone_at _ rfl rfl)
  go_upto_region 38 with fail
  obtain ⟨wf1, hwf1⟩ : ∃ W, W = wf0.setCell ⟨w.heap.size + 1 + 1 + 1 + 1, 4, none⟩ (.int .i64 Q.va) := ⟨_, rfl⟩
  rw [← hwf1] at Df1 ⊢
  clear hwf1 a1 p1 q1 Df0
  go_wp2_with fail
  have hd5 : Ext wf1 wf1.drew := Ext.drew _
  have HL := Lib.hid (fun W (hx : Keep (fun i => i = w.heap.size + 1 + 1 ∨ i = w.heap.size + 1 + 1 + 1) wf1 W) => (⟨(hx.block _ (heap_lt Df1.b2) (by omega)).trans Df1.b2, (hx.block _ (heap_lt Df1.b6) (by omega)).trans Df1.b6⟩ : W.heap[w.heap.size]? = some (.cells (filC V8 (sbF F Q.ad 1 (fun _ => B))) 29 (0, 0)) ∧ W.heap[w.heap.size + 1 + 1 + 1 + 1]? = some (.cells (telC zeroQV { zeroT with k := Q.k, ad := Q.ad, va := Q.va }) 37 (0, 0))))
  have hs : Keep (fun i => i = w.heap.size + 1 + 1 ∨ i = w.heap.size + 1 + 1 + 1) wf1 wf1.drew := Keep.of_ext hd5
  refine wp_region_held_drew (S := fun W => Keep (fun i => i = w.heap.size + 1 + 1 ∨ i = w.heap.size + 1 + 1 + 1) wf1 W) (by kernel_rfl) hs (fun _ => ?_)
  refine wpAnyH_takeD (i := 0) (d := 185) rfl rfl (by kernel_rfl) (by kernel_rfl) (by kernel_rfl) (fun _ _ _ h => h) (yieldsIf_load_row (by rfl) 29 (.tmp 2) rfl (w.heap.size) rfl 29 _ (0, 0) _ (fun w' hw' => (HL.out _ hw').1) Tryz.underlying29 rfl (by kernel_rfl)) hs ?_
  simp only [Act.put, List.setIfInBounds_toArray, List.set_cons_succ, List.set_cons_zero]
  refine wpAnyH_takeD (i := 1) (d := 186) rfl rfl (by kernel_rfl) (by kernel_rfl) (by kernel_rfl) (fun _ _ _ h => h) (yieldsIf_load_row (by rfl) 37 (.tmp 6) rfl (w.heap.size + 1 + 1 + 1 + 1) rfl 37 _ (0, 0) _ (fun w' hw' => (HL.out _ hw').2) Tryz.underlying37 rfl (by kernel_rfl)) hs ?_
  simp only [Act.put, List.setIfInBounds_toArray, List.set_cons_succ, List.set_cons_zero]
  refine wpAnyH_ready (rs := [2]) (by kernel_rfl) (by simp) (AllReadyH.cons rfl (fun K hK => ?_) AllReadyH.nil)
  refine step_store_row rfl 29 (.tmp 4) (.tmp 185) rfl (w.heap.size + 1 + 1) _ rfl rfl 29 _ (hd5.block Df1.b4) (by kernel_rfl) rfl (by simp [filC, Value.oneCell']) rfl ?_
  refine hK.out _ _ ((Keep.of_ext hd5).trans (keep_row _ _ _) (fun i hi => .inl (.inl hi))) (fun hs => ?_)
  clear hK K
  simp only [Act.put]
  refine wpAnyH_ready (rs := [3]) (by kernel_rfl) (by simp) (AllReadyH.cons rfl (fun K hK => ?_) AllReadyH.nil)
  refine step_store_row rfl 37 (.tmp 5) (.tmp 186) rfl (w.heap.size + 1 + 1 + 1) _ rfl rfl 37 _ ((setRow_other _ _ _ _ (by omega)).trans (hd5.block Df1.b5)) (by kernel_rfl) rfl (by simp [telC, Value.oneCell']) rfl ?_
  refine hK.out _ _ (hs.trans (keep_row _ _ _) (fun i hi => .inl (.inr hi))) (fun hs => ?_)
  clear hK K
  simp only [Act.put]
  refine wpAnyH_done (by kernel_rfl) ?_ _
  go_wp2_with fail
  have DE := Df1.ext hd5
  obtain ⟨q1, q2, q3, q4, q5⟩ := do_told DE
  refine bodyPost_ret (results_rows _ _ (w.heap.size + 1 + 1) (w.heap.size + 1 + 1 + 1) 29 37 _ _ (0, 0) (0, 0) _ _ rfl rfl q4 Tryz.underlying29 rfl (by kernel_rfl) rfl q5 Tryz.underlying37 rfl (by kernel_rfl)) rfl ?_
  unfold Do17P
  rw [HD.out.1, HD.out.2]
  exact ⟨V8, zeroQV, rfl, q1, q2, q3⟩

set_option maxHeartbeats 4000000 in
theorem rdo17_6 (V : FilV) (F : Fil) (U : QstV) (Q : Qst) (w : World) (hF : FilAt w V F) (hQ : QstAt w U Q) (hW : QstW Q) (hFW : FilW F) (hq : rightQ Q = true) (hr : rightB F = true) (h0 : datE F Q = 0) (hk : Q.k = 6) : Calls Tryz.prog 19 #[.agg (filC V F), .agg (qstC U Q)] w (Do17P F Q w) := by
  have hne : ¬ datE F Q ≠ 0 := fun h => h h0
  have af := ask_facts hq
  have hE : True := trivial
  have HD : Hid (datF F Q = (swF F Q.ad 1 (fun _ => Q.va)) ∧ datT F Q = { zeroT with k := Q.k, ad := Q.ad, va := Q.va }) := Lib.hid (by
    have e1 : datF F Q = (swF F Q.ad 1 (fun _ => Q.va)) := by unfold datF; rw [if_neg hne]; simp (config := { decide := true }) only [hk, if_true, if_false]
    refine ⟨e1, ?_⟩
    unfold datT; rw [if_neg hne]; simp (config := { decide := true }) only [hk, if_true, if_false] <;> rfl)
  obtain ⟨W5, hW5, k5, k3, D0⟩ := do_begin V F U Q w hF
  have KC := Lib.hid (fun W (x : Ext w W) => rcode17_any V F U Q W (hF.ext x) hW ((rightQ_iff Q).1 hq).1)
  have c0 : W5.cell? ⟨w.heap.size + 1, 0, none⟩ = some (.int .i64 Q.k) := cell_of_heap k3 rfl
  have hv16 : IntKind.u16.wrap Q.va = Q.va := by have := af.v6 hk; rw [IntKind.wrap_u16]; omega
  have KB := Lib.hid (fun W (x : Ext w W) (g : Nat) (h : HoldsG (Value.int .u16) W (some ⟨g, 0, none⟩) 1 (fun _ => Q.va)) => rsetwords14_any V F Q.ad (some ⟨g, 0, none⟩) 1 1 (fun _ => Q.va) W (hF.ext x) h (by omega) hW.wad)
  rw [h0] at KC
  have HK := Lib.hid hk
  clear h0 hne af hq hr hW hFW hF hQ hE hk
  go_enter Tryz.func19, Tryz.ntmps19
  go_upto_region 1 with fail
  rw [← hW5]
  clear hW5
  go_upto_region 2 with fail
  obtain ⟨W6, hW6⟩ : ∃ W6, W6 = W5.alloc (.cells #[.int .i64 Q.k, .int .i64 0, .int .i64 0, .int .i64 0, .int .i64 0, .int .i64 0, .int .i64 0, .slice none 0 0, .slice none 0 0] 37) := ⟨_, rfl⟩
  rw [← hW6] at D0 ⊢
  clear hW6 c0 k3 k5
  have c2 := D0.b2
  have c3 := D0.b3
  have xw := D0.x
  go_upto_region 6 with (first
    | (refine wpList_load_row rfl 29 (.tmp 2) rfl (w.heap.size) rfl 29 _ (0, 0) _ c2 Tryz.underlying29 rfl (by kernel_rfl) ?_)
    | (refine wpList_load_row rfl 31 (.tmp 3) rfl (w.heap.size + 1) rfl 31 _ (0, 0) _ c3 Tryz.underlying31 rfl (by kernel_rfl) ?_)
    | (go_at_call 20; refine (KC.out _ xw).mono ?_; rintro e w7 ⟨rfl, x7⟩))
  have D1 := D0.ext x7
  have x1 := xw.trans x7
  clear D0 c2 c3 xw KC x7
  have c2 := D1.b2
  have c0 : w7.cell? ⟨w.heap.size + 1, 0, none⟩ = some (.int .i64 6) := num_cell HK.out (cell_of_heap D1.b3 rfl)
  have c1 : w7.cell? ⟨w.heap.size + 1, 1, none⟩ = some (.int .i64 Q.ad) := cell_of_heap D1.b3 rfl
  have cv : w7.cell? ⟨w.heap.size + 1, 3, none⟩ = some (.int .i64 Q.va) := cell_of_heap D1.b3 rfl
  go_upto_region 19 with (first
    | (refine wpList_load_row rfl 29 (.tmp 2) rfl w.heap.size rfl 29 _ (0, 0) _ c2 Tryz.underlying29 rfl (by kernel_rfl) ?_)
    | (go_at_call 42; refine (KB.out _ (x1.trans (Ext.alloc _ _)) _ (one_cell (mk := Value.int .u16) w7 Q.va _)).mono ?_; rintro e w8 ⟨V8, rfl, hf8, x8, -⟩; have D2 := D1.ext ((Ext.alloc _ _).trans x8); have b2 := D2.b2; clear c2 c0 c1)
    | (refine wpList_store_row rfl 29 (.tmp 2) (.tmp 86) rfl w.heap.size _ rfl rfl 29 _ b2 (by kernel_rfl) rfl (by simp [filC, Value.oneCell']) ?_))
  have D3 := D2.setF hf8
  obtain ⟨w9, hw9⟩ : ∃ W, W = w8.setRow w.heap.size (filC V8 (swF F Q.ad 1 (fun _ => Q.va))) := ⟨_, rfl⟩
  rw [← hw9] at D3 ⊢
  clear hw9 b2 D2 hf8 D1 x8
  have a0 : w9.cell? ⟨w.heap.size + 1, 1, none⟩ = some (.int .i64 Q.ad) := cell_of_heap D3.b3 rfl
  have p0 : w9.cell? ⟨w.heap.size + 1 + 1 + 1 + 1, 2, none⟩ = some (.int .i64 0) := cell_of_heap D3.b6 rfl
  have q0 : w9.frozen? ⟨w.heap.size + 1 + 1 + 1 + 1, 2, none⟩ = false := frozen0 D3.b6
  have Df0 := D3.setT (X' := zeroQV) (T' := { zeroT with k := Q.k, ad := Q.ad }) 2 (.int .i64 Q.ad) rfl (telnone_at _ rfl rfl)
  go_upto_region 20 with fail
  obtain ⟨wf0, hwf0⟩ : ∃ W, W = w9.setCell ⟨w.heap.size + 1 + 1 + 1 + 1, 2, none⟩ (.int .i64 Q.ad) := ⟨_, rfl⟩
  rw [← hwf0] at Df0 ⊢
  clear hwf0 a0 p0 q0 D3
  have a1 : wf0.cell? ⟨w.heap.size + 1, 3, none⟩ = some (.int .i64 Q.va) := cell_of_heap Df0.b3 rfl
  have p1 : wf0.cell? ⟨w.heap.size + 1 + 1 + 1 + 1, 4, none⟩ = some (.int .i64 0) := cell_of_heap Df0.b6 rfl
  have q1 : wf0.frozen? ⟨w.heap.size + 1 + 1 + 1 + 1, 4, none⟩ = false := frozen0 Df0.b6
  have Df1 := Df0.setT (X' := zeroQV) (T' := { zeroT with k := Q.k, ad := Q.ad, va := Q.va }) 4 (.int .i64 Q.va) rfl (telnone_at _ rfl rfl)
  go_upto_region 38 with fail
  obtain ⟨wf1, hwf1⟩ : ∃ W, W = wf0.setCell ⟨w.heap.size + 1 + 1 + 1 + 1, 4, none⟩ (.int .i64 Q.va) := ⟨_, rfl⟩
  rw [← hwf1] at Df1 ⊢
  clear hwf1 a1 p1 q1 Df0
  go_wp2_with fail
  have hd5 : Ext wf1 wf1.drew := Ext.drew _
  have HL := Lib.hid (fun W (hx : Keep (fun i => i = w.heap.size + 1 + 1 ∨ i = w.heap.size + 1 + 1 + 1) wf1 W) => (⟨(hx.block _ (heap_lt Df1.b2) (by omega)).trans Df1.b2, (hx.block _ (heap_lt Df1.b6) (by omega)).trans Df1.b6⟩ : W.heap[w.heap.size]? = some (.cells (filC V8 (swF F Q.ad 1 (fun _ => Q.va))) 29 (0, 0)) ∧ W.heap[w.heap.size + 1 + 1 + 1 + 1]? = some (.cells (telC zeroQV { zeroT with k := Q.k, ad := Q.ad, va := Q.va }) 37 (0, 0))))
  have hs : Keep (fun i => i = w.heap.size + 1 + 1 ∨ i = w.heap.size + 1 + 1 + 1) wf1 wf1.drew := Keep.of_ext hd5
  refine wp_region_held_drew (S := fun W => Keep (fun i => i = w.heap.size + 1 + 1 ∨ i = w.heap.size + 1 + 1 + 1) wf1 W) (by kernel_rfl) hs (fun _ => ?_)
  refine wpAnyH_takeD (i := 0) (d := 185) rfl rfl (by kernel_rfl) (by kernel_rfl) (by kernel_rfl) (fun _ _ _ h => h) (yieldsIf_load_row (by rfl) 29 (.tmp 2) rfl (w.heap.size) rfl 29 _ (0, 0) _ (fun w' hw' => (HL.out _ hw').1) Tryz.underlying29 rfl (by kernel_rfl)) hs ?_
  simp only [Act.put, List.setIfInBounds_toArray, List.set_cons_succ, List.set_cons_zero]
  refine wpAnyH_takeD (i := 1) (d := 186) rfl rfl (by kernel_rfl) (by kernel_rfl) (by kernel_rfl) (fun _ _ _ h => h) (yieldsIf_load_row (by rfl) 37 (.tmp 6) rfl (w.heap.size + 1 + 1 + 1 + 1) rfl 37 _ (0, 0) _ (fun w' hw' => (HL.out _ hw').2) Tryz.underlying37 rfl (by kernel_rfl)) hs ?_
  simp only [Act.put, List.setIfInBounds_toArray, List.set_cons_succ, List.set_cons_zero]
  refine wpAnyH_ready (rs := [2]) (by kernel_rfl) (by simp) (AllReadyH.cons rfl (fun K hK => ?_) AllReadyH.nil)
  refine step_store_row rfl 29 (.tmp 4) (.tmp 185) rfl (w.heap.size + 1 + 1) _ rfl rfl 29 _ (hd5.block Df1.b4) (by kernel_rfl) rfl (by simp [filC, Value.oneCell']) rfl ?_
  refine hK.out _ _ ((Keep.of_ext hd5).trans (keep_row _ _ _) (fun i hi => .inl (.inl hi))) (fun hs => ?_)
  clear hK K
  simp only [Act.put]
  refine wpAnyH_ready (rs := [3]) (by kernel_rfl) (by simp) (AllReadyH.cons rfl (fun K hK => ?_) AllReadyH.nil)
  refine step_store_row rfl 37 (.tmp 5) (.tmp 186) rfl (w.heap.size + 1 + 1 + 1) _ rfl rfl 37 _ ((setRow_other _ _ _ _ (by omega)).trans (hd5.block Df1.b5)) (by kernel_rfl) rfl (by simp [telC, Value.oneCell']) rfl ?_
  refine hK.out _ _ (hs.trans (keep_row _ _ _) (fun i hi => .inl (.inr hi))) (fun hs => ?_)
  clear hK K
  simp only [Act.put]
  refine wpAnyH_done (by kernel_rfl) ?_ _
  go_wp2_with fail
  have DE := Df1.ext hd5
  obtain ⟨q1, q2, q3, q4, q5⟩ := do_told DE
  refine bodyPost_ret (results_rows _ _ (w.heap.size + 1 + 1) (w.heap.size + 1 + 1 + 1) 29 37 _ _ (0, 0) (0, 0) _ _ rfl rfl q4 Tryz.underlying29 rfl (by kernel_rfl) rfl q5 Tryz.underlying37 rfl (by kernel_rfl)) rfl ?_
  unfold Do17P
  rw [HD.out.1, HD.out.2]
  exact ⟨V8, zeroQV, rfl, q1, q2, q3⟩

set_option maxHeartbeats 4000000 in
theorem rdo17_15 (V : FilV) (F : Fil) (U : QstV) (Q : Qst) (w : World) (hF : FilAt w V F) (hQ : QstAt w U Q) (hW : QstW Q) (hFW : FilW F) (hq : rightQ Q = true) (hr : rightB F = true) (h0 : datE F Q = 0) (hk : Q.k = 15) : Calls Tryz.prog 19 #[.agg (filC V F), .agg (qstC U Q)] w (Do17P F Q w) := by
  have hne : ¬ datE F Q ≠ 0 := fun h => h h0
  have af := ask_facts hq
  have hE : True := trivial
  have HD : Hid (datF F Q = (sbF F Q.ad Q.nb Q.B) ∧ datT F Q = { zeroT with k := Q.k, ad := Q.ad, ct := Q.ct }) := Lib.hid (by
    have e1 : datF F Q = (sbF F Q.ad Q.nb Q.B) := by unfold datF; rw [if_neg hne]; simp (config := { decide := true }) only [hk, if_true, if_false]
    refine ⟨e1, ?_⟩
    unfold datT; rw [if_neg hne]; simp (config := { decide := true }) only [hk, if_true, if_false] <;> rfl)
  obtain ⟨W5, hW5, k5, k3, D0⟩ := do_begin V F U Q w hF
  have KC := Lib.hid (fun W (x : Ext w W) => rcode17_any V F U Q W (hF.ext x) hW ((rightQ_iff Q).1 hq).1)
  have c0 : W5.cell? ⟨w.heap.size + 1, 0, none⟩ = some (.int .i64 Q.k) := cell_of_heap k3 rfl
  have KB := Lib.hid (fun W (x : Ext w W) => rsetbits14_any V F Q.ad U.a1 Q.nb U.d1 Q.B W (hF.ext x) (hQ.h1.ext x) (by have := af.bt hk; omega))
  rw [h0] at KC
  have HK := Lib.hid hk
  clear h0 hne af hq hr hW hFW hF hQ hE hk
  go_enter Tryz.func19, Tryz.ntmps19
  go_upto_region 1 with fail
  rw [← hW5]
  clear hW5
  go_upto_region 2 with fail
  obtain ⟨W6, hW6⟩ : ∃ W6, W6 = W5.alloc (.cells #[.int .i64 Q.k, .int .i64 0, .int .i64 0, .int .i64 0, .int .i64 0, .int .i64 0, .int .i64 0, .slice none 0 0, .slice none 0 0] 37) := ⟨_, rfl⟩
  rw [← hW6] at D0 ⊢
  clear hW6 c0 k3 k5
  have c2 := D0.b2
  have c3 := D0.b3
  have xw := D0.x
  go_upto_region 6 with (first
    | (refine wpList_load_row rfl 29 (.tmp 2) rfl (w.heap.size) rfl 29 _ (0, 0) _ c2 Tryz.underlying29 rfl (by kernel_rfl) ?_)
    | (refine wpList_load_row rfl 31 (.tmp 3) rfl (w.heap.size + 1) rfl 31 _ (0, 0) _ c3 Tryz.underlying31 rfl (by kernel_rfl) ?_)
    | (go_at_call 20; refine (KC.out _ xw).mono ?_; rintro e w7 ⟨rfl, x7⟩))
  have D1 := D0.ext x7
  have x1 := xw.trans x7
  clear D0 c2 c3 xw KC x7
  have c2 := D1.b2
  have c0 : w7.cell? ⟨w.heap.size + 1, 0, none⟩ = some (.int .i64 15) := num_cell HK.out (cell_of_heap D1.b3 rfl)
  have c1 : w7.cell? ⟨w.heap.size + 1, 1, none⟩ = some (.int .i64 Q.ad) := cell_of_heap D1.b3 rfl
  have cl : w7.cell? ⟨w.heap.size + 1, 8, none⟩ = some (.slice U.a1 Q.nb U.d1) := cell_of_heap D1.b3 rfl
  go_upto_region 23 with (first
    | (refine wpList_load_row rfl 29 (.tmp 2) rfl w.heap.size rfl 29 _ (0, 0) _ c2 Tryz.underlying29 rfl (by kernel_rfl) ?_)
    | (go_at_call 41; refine (KB.out _ x1).mono ?_; rintro e w8 ⟨V8, rfl, hf8, x8, -⟩; have D2 := D1.ext x8; have b2 := D2.b2; clear c2 c0 c1)
    | (refine wpList_store_row rfl 29 (.tmp 2) (.tmp 103) rfl w.heap.size _ rfl rfl 29 _ b2 (by kernel_rfl) rfl (by simp [filC, Value.oneCell']) ?_))
  have D3 := D2.setF hf8
  obtain ⟨w9, hw9⟩ : ∃ W, W = w8.setRow w.heap.size (filC V8 (sbF F Q.ad Q.nb Q.B)) := ⟨_, rfl⟩
  rw [← hw9] at D3 ⊢
  clear hw9 b2 D2 hf8 D1 x8
  have a0 : w9.cell? ⟨w.heap.size + 1, 1, none⟩ = some (.int .i64 Q.ad) := cell_of_heap D3.b3 rfl
  have p0 : w9.cell? ⟨w.heap.size + 1 + 1 + 1 + 1, 2, none⟩ = some (.int .i64 0) := cell_of_heap D3.b6 rfl
  have q0 : w9.frozen? ⟨w.heap.size + 1 + 1 + 1 + 1, 2, none⟩ = false := frozen0 D3.b6
  have Df0 := D3.setT (X' := zeroQV) (T' := { zeroT with k := Q.k, ad := Q.ad }) 2 (.int .i64 Q.ad) rfl (telnone_at _ rfl rfl)
  go_upto_region 24 with fail
  obtain ⟨wf0, hwf0⟩ : ∃ W, W = w9.setCell ⟨w.heap.size + 1 + 1 + 1 + 1, 2, none⟩ (.int .i64 Q.ad) := ⟨_, rfl⟩
  rw [← hwf0] at Df0 ⊢
  clear hwf0 a0 p0 q0 D3
  have a1 : wf0.cell? ⟨w.heap.size + 1, 2, none⟩ = some (.int .i64 Q.ct) := cell_of_heap Df0.b3 rfl
  have p1 : wf0.cell? ⟨w.heap.size + 1 + 1 + 1 + 1, 3, none⟩ = some (.int .i64 0) := cell_of_heap Df0.b6 rfl
  have q1 : wf0.frozen? ⟨w.heap.size + 1 + 1 + 1 + 1, 3, none⟩ = false := frozen0 Df0.b6
  have Df1 := Df0.setT (X' := zeroQV) (T' := { zeroT with k := Q.k, ad := Q.ad, ct := Q.ct }) 3 (.int .i64 Q.ct) rfl (telnone_at _ rfl rfl)
  go_upto_region 38 with fail
  obtain ⟨wf1, hwf1⟩ : ∃ W, W = wf0.setCell ⟨w.heap.size + 1 + 1 + 1 + 1, 3, none⟩ (.int .i64 Q.ct) := ⟨_, rfl⟩
  rw [← hwf1] at Df1 ⊢
  clear hwf1 a1 p1 q1 Df0
  go_wp2_with fail
  have hd5 : Ext wf1 wf1.drew := Ext.drew _
  have HL := Lib.hid (fun W (hx : Keep (fun i => i = w.heap.size + 1 + 1 ∨ i = w.heap.size + 1 + 1 + 1) wf1 W) => (⟨(hx.block _ (heap_lt Df1.b2) (by omega)).trans Df1.b2, (hx.block _ (heap_lt Df1.b6) (by omega)).trans Df1.b6⟩ : W.heap[w.heap.size]? = some (.cells (filC V8 (sbF F Q.ad Q.nb Q.B)) 29 (0, 0)) ∧ W.heap[w.heap.size + 1 + 1 + 1 + 1]? = some (.cells (telC zeroQV { zeroT with k := Q.k, ad := Q.ad, ct := Q.ct }) 37 (0, 0))))
  have hs : Keep (fun i => i = w.heap.size + 1 + 1 ∨ i = w.heap.size + 1 + 1 + 1) wf1 wf1.drew := Keep.of_ext hd5
  refine wp_region_held_drew (S := fun W => Keep (fun i => i = w.heap.size + 1 + 1 ∨ i = w.heap.size + 1 + 1 + 1) wf1 W) (by kernel_rfl) hs (fun _ => ?_)
  refine wpAnyH_takeD (i := 0) (d := 185) rfl rfl (by kernel_rfl) (by kernel_rfl) (by kernel_rfl) (fun _ _ _ h => h) (yieldsIf_load_row (by rfl) 29 (.tmp 2) rfl (w.heap.size) rfl 29 _ (0, 0) _ (fun w' hw' => (HL.out _ hw').1) Tryz.underlying29 rfl (by kernel_rfl)) hs ?_
  simp only [Act.put, List.setIfInBounds_toArray, List.set_cons_succ, List.set_cons_zero]
  refine wpAnyH_takeD (i := 1) (d := 186) rfl rfl (by kernel_rfl) (by kernel_rfl) (by kernel_rfl) (fun _ _ _ h => h) (yieldsIf_load_row (by rfl) 37 (.tmp 6) rfl (w.heap.size + 1 + 1 + 1 + 1) rfl 37 _ (0, 0) _ (fun w' hw' => (HL.out _ hw').2) Tryz.underlying37 rfl (by kernel_rfl)) hs ?_
  simp only [Act.put, List.setIfInBounds_toArray, List.set_cons_succ, List.set_cons_zero]
  refine wpAnyH_ready (rs := [2]) (by kernel_rfl) (by simp) (AllReadyH.cons rfl (fun K hK => ?_) AllReadyH.nil)
  refine step_store_row rfl 29 (.tmp 4) (.tmp 185) rfl (w.heap.size + 1 + 1) _ rfl rfl 29 _ (hd5.block Df1.b4) (by kernel_rfl) rfl (by simp [filC, Value.oneCell']) rfl ?_
  refine hK.out _ _ ((Keep.of_ext hd5).trans (keep_row _ _ _) (fun i hi => .inl (.inl hi))) (fun hs => ?_)
  clear hK K
  simp only [Act.put]
  refine wpAnyH_ready (rs := [3]) (by kernel_rfl) (by simp) (AllReadyH.cons rfl (fun K hK => ?_) AllReadyH.nil)
  refine step_store_row rfl 37 (.tmp 5) (.tmp 186) rfl (w.heap.size + 1 + 1 + 1) _ rfl rfl 37 _ ((setRow_other _ _ _ _ (by omega)).trans (hd5.block Df1.b5)) (by kernel_rfl) rfl (by simp [telC, Value.oneCell']) rfl ?_
  refine hK.out _ _ (hs.trans (keep_row _ _ _) (fun i hi => .inl (.inr hi))) (fun hs => ?_)
  clear hK K
  simp only [Act.put]
  refine wpAnyH_done (by kernel_rfl) ?_ _
  go_wp2_with fail
  have DE := Df1.ext hd5
  obtain ⟨q1, q2, q3, q4, q5⟩ := do_told DE
  refine bodyPost_ret (results_rows _ _ (w.heap.size + 1 + 1) (w.heap.size + 1 + 1 + 1) 29 37 _ _ (0, 0) (0, 0) _ _ rfl rfl q4 Tryz.underlying29 rfl (by kernel_rfl) rfl q5 Tryz.underlying37 rfl (by kernel_rfl)) rfl ?_
  unfold Do17P
  rw [HD.out.1, HD.out.2]
  exact ⟨V8, zeroQV, rfl, q1, q2, q3⟩

set_option maxHeartbeats 4000000 in
theorem rdo17_16 (V : FilV) (F : Fil) (U : QstV) (Q : Qst) (w : World) (hF : FilAt w V F) (hQ : QstAt w U Q) (hW : QstW Q) (hFW : FilW F) (hq : rightQ Q = true) (hr : rightB F = true) (h0 : datE F Q = 0) (hk : Q.k = 16) : Calls Tryz.prog 19 #[.agg (filC V F), .agg (qstC U Q)] w (Do17P F Q w) := by
  have hne : ¬ datE F Q ≠ 0 := fun h => h h0
  have af := ask_facts hq
  have hE : True := trivial
  have HD : Hid (datF F Q = (swF F Q.ad Q.nr Q.R) ∧ datT F Q = { zeroT with k := Q.k, ad := Q.ad, ct := Q.ct }) := Lib.hid (by
    have e1 : datF F Q = (swF F Q.ad Q.nr Q.R) := by unfold datF; rw [if_neg hne]; simp (config := { decide := true }) only [hk, if_true, if_false]
    refine ⟨e1, ?_⟩
    unfold datT; rw [if_neg hne]; simp (config := { decide := true }) only [hk, if_true, if_false] <;> rfl)
  obtain ⟨W5, hW5, k5, k3, D0⟩ := do_begin V F U Q w hF
  have KC := Lib.hid (fun W (x : Ext w W) => rcode17_any V F U Q W (hF.ext x) hW ((rightQ_iff Q).1 hq).1)
  have c0 : W5.cell? ⟨w.heap.size + 1, 0, none⟩ = some (.int .i64 Q.k) := cell_of_heap k3 rfl
  have KB := Lib.hid (fun W (x : Ext w W) => rsetwords14_any V F Q.ad U.a2 Q.nr U.d2 Q.R W (hF.ext x) (hQ.h2.ext x) (by have := af.wd (.inl hk); omega) hW.wad)
  rw [h0] at KC
  have HK := Lib.hid hk
  clear h0 hne af hq hr hW hFW hF hQ hE hk
  go_enter Tryz.func19, Tryz.ntmps19
  go_upto_region 1 with fail
  rw [← hW5]
  clear hW5
  go_upto_region 2 with fail
  obtain ⟨W6, hW6⟩ : ∃ W6, W6 = W5.alloc (.cells #[.int .i64 Q.k, .int .i64 0, .int .i64 0, .int .i64 0, .int .i64 0, .int .i64 0, .int .i64 0, .slice none 0 0, .slice none 0 0] 37) := ⟨_, rfl⟩
  rw [← hW6] at D0 ⊢
  clear hW6 c0 k3 k5
  have c2 := D0.b2
  have c3 := D0.b3
  have xw := D0.x
  go_upto_region 6 with (first
    | (refine wpList_load_row rfl 29 (.tmp 2) rfl (w.heap.size) rfl 29 _ (0, 0) _ c2 Tryz.underlying29 rfl (by kernel_rfl) ?_)
    | (refine wpList_load_row rfl 31 (.tmp 3) rfl (w.heap.size + 1) rfl 31 _ (0, 0) _ c3 Tryz.underlying31 rfl (by kernel_rfl) ?_)
    | (go_at_call 20; refine (KC.out _ xw).mono ?_; rintro e w7 ⟨rfl, x7⟩))
  have D1 := D0.ext x7
  have x1 := xw.trans x7
  clear D0 c2 c3 xw KC x7
  have c2 := D1.b2
  have c0 : w7.cell? ⟨w.heap.size + 1, 0, none⟩ = some (.int .i64 16) := num_cell HK.out (cell_of_heap D1.b3 rfl)
  have c1 : w7.cell? ⟨w.heap.size + 1, 1, none⟩ = some (.int .i64 Q.ad) := cell_of_heap D1.b3 rfl
  have cl : w7.cell? ⟨w.heap.size + 1, 9, none⟩ = some (.slice U.a2 Q.nr U.d2) := cell_of_heap D1.b3 rfl
  go_upto_region 27 with (first
    | (refine wpList_load_row rfl 29 (.tmp 2) rfl w.heap.size rfl 29 _ (0, 0) _ c2 Tryz.underlying29 rfl (by kernel_rfl) ?_)
    | (go_at_call 42; refine (KB.out _ x1).mono ?_; rintro e w8 ⟨V8, rfl, hf8, x8, -⟩; have D2 := D1.ext x8; have b2 := D2.b2; clear c2 c0 c1)
    | (refine wpList_store_row rfl 29 (.tmp 2) (.tmp 120) rfl w.heap.size _ rfl rfl 29 _ b2 (by kernel_rfl) rfl (by simp [filC, Value.oneCell']) ?_))
  have D3 := D2.setF hf8
  obtain ⟨w9, hw9⟩ : ∃ W, W = w8.setRow w.heap.size (filC V8 (swF F Q.ad Q.nr Q.R)) := ⟨_, rfl⟩
  rw [← hw9] at D3 ⊢
  clear hw9 b2 D2 hf8 D1 x8
  have a0 : w9.cell? ⟨w.heap.size + 1, 1, none⟩ = some (.int .i64 Q.ad) := cell_of_heap D3.b3 rfl
  have p0 : w9.cell? ⟨w.heap.size + 1 + 1 + 1 + 1, 2, none⟩ = some (.int .i64 0) := cell_of_heap D3.b6 rfl
  have q0 : w9.frozen? ⟨w.heap.size + 1 + 1 + 1 + 1, 2, none⟩ = false := frozen0 D3.b6
  have Df0 := D3.setT (X' := zeroQV) (T' := { zeroT with k := Q.k, ad := Q.ad }) 2 (.int .i64 Q.ad) rfl (telnone_at _ rfl rfl)
  go_upto_region 28 with fail
  obtain ⟨wf0, hwf0⟩ : ∃ W, W = w9.setCell ⟨w.heap.size + 1 + 1 + 1 + 1, 2, none⟩ (.int .i64 Q.ad) := ⟨_, rfl⟩
  rw [← hwf0] at Df0 ⊢
  clear hwf0 a0 p0 q0 D3
  have a1 : wf0.cell? ⟨w.heap.size + 1, 2, none⟩ = some (.int .i64 Q.ct) := cell_of_heap Df0.b3 rfl
  have p1 : wf0.cell? ⟨w.heap.size + 1 + 1 + 1 + 1, 3, none⟩ = some (.int .i64 0) := cell_of_heap Df0.b6 rfl
  have q1 : wf0.frozen? ⟨w.heap.size + 1 + 1 + 1 + 1, 3, none⟩ = false := frozen0 Df0.b6
  have Df1 := Df0.setT (X' := zeroQV) (T' := { zeroT with k := Q.k, ad := Q.ad, ct := Q.ct }) 3 (.int .i64 Q.ct) rfl (telnone_at _ rfl rfl)
  go_upto_region 38 with fail
  obtain ⟨wf1, hwf1⟩ : ∃ W, W = wf0.setCell ⟨w.heap.size + 1 + 1 + 1 + 1, 3, none⟩ (.int .i64 Q.ct) := ⟨_, rfl⟩
  rw [← hwf1] at Df1 ⊢
  clear hwf1 a1 p1 q1 Df0
  go_wp2_with fail
  have hd5 : Ext wf1 wf1.drew := Ext.drew _
  have HL := Lib.hid (fun W (hx : Keep (fun i => i = w.heap.size + 1 + 1 ∨ i = w.heap.size + 1 + 1 + 1) wf1 W) => (⟨(hx.block _ (heap_lt Df1.b2) (by omega)).trans Df1.b2, (hx.block _ (heap_lt Df1.b6) (by omega)).trans Df1.b6⟩ : W.heap[w.heap.size]? = some (.cells (filC V8 (swF F Q.ad Q.nr Q.R)) 29 (0, 0)) ∧ W.heap[w.heap.size + 1 + 1 + 1 + 1]? = some (.cells (telC zeroQV { zeroT with k := Q.k, ad := Q.ad, ct := Q.ct }) 37 (0, 0))))
  have hs : Keep (fun i => i = w.heap.size + 1 + 1 ∨ i = w.heap.size + 1 + 1 + 1) wf1 wf1.drew := Keep.of_ext hd5
  refine wp_region_held_drew (S := fun W => Keep (fun i => i = w.heap.size + 1 + 1 ∨ i = w.heap.size + 1 + 1 + 1) wf1 W) (by kernel_rfl) hs (fun _ => ?_)
  refine wpAnyH_takeD (i := 0) (d := 185) rfl rfl (by kernel_rfl) (by kernel_rfl) (by kernel_rfl) (fun _ _ _ h => h) (yieldsIf_load_row (by rfl) 29 (.tmp 2) rfl (w.heap.size) rfl 29 _ (0, 0) _ (fun w' hw' => (HL.out _ hw').1) Tryz.underlying29 rfl (by kernel_rfl)) hs ?_
  simp only [Act.put, List.setIfInBounds_toArray, List.set_cons_succ, List.set_cons_zero]
  refine wpAnyH_takeD (i := 1) (d := 186) rfl rfl (by kernel_rfl) (by kernel_rfl) (by kernel_rfl) (fun _ _ _ h => h) (yieldsIf_load_row (by rfl) 37 (.tmp 6) rfl (w.heap.size + 1 + 1 + 1 + 1) rfl 37 _ (0, 0) _ (fun w' hw' => (HL.out _ hw').2) Tryz.underlying37 rfl (by kernel_rfl)) hs ?_
  simp only [Act.put, List.setIfInBounds_toArray, List.set_cons_succ, List.set_cons_zero]
  refine wpAnyH_ready (rs := [2]) (by kernel_rfl) (by simp) (AllReadyH.cons rfl (fun K hK => ?_) AllReadyH.nil)
  refine step_store_row rfl 29 (.tmp 4) (.tmp 185) rfl (w.heap.size + 1 + 1) _ rfl rfl 29 _ (hd5.block Df1.b4) (by kernel_rfl) rfl (by simp [filC, Value.oneCell']) rfl ?_
  refine hK.out _ _ ((Keep.of_ext hd5).trans (keep_row _ _ _) (fun i hi => .inl (.inl hi))) (fun hs => ?_)
  clear hK K
  simp only [Act.put]
  refine wpAnyH_ready (rs := [3]) (by kernel_rfl) (by simp) (AllReadyH.cons rfl (fun K hK => ?_) AllReadyH.nil)
  refine step_store_row rfl 37 (.tmp 5) (.tmp 186) rfl (w.heap.size + 1 + 1 + 1) _ rfl rfl 37 _ ((setRow_other _ _ _ _ (by omega)).trans (hd5.block Df1.b5)) (by kernel_rfl) rfl (by simp [telC, Value.oneCell']) rfl ?_
  refine hK.out _ _ (hs.trans (keep_row _ _ _) (fun i hi => .inl (.inr hi))) (fun hs => ?_)
  clear hK K
  simp only [Act.put]
  refine wpAnyH_done (by kernel_rfl) ?_ _
  go_wp2_with fail
  have DE := Df1.ext hd5
  obtain ⟨q1, q2, q3, q4, q5⟩ := do_told DE
  refine bodyPost_ret (results_rows _ _ (w.heap.size + 1 + 1) (w.heap.size + 1 + 1 + 1) 29 37 _ _ (0, 0) (0, 0) _ _ rfl rfl q4 Tryz.underlying29 rfl (by kernel_rfl) rfl q5 Tryz.underlying37 rfl (by kernel_rfl)) rfl ?_
  unfold Do17P
  rw [HD.out.1, HD.out.2]
  exact ⟨V8, zeroQV, rfl, q1, q2, q3⟩
end Go.Proofs.YtlafnobjfajamaaGreat
namespace Go.Proofs.YtlafnobjfajamaaGreat
open Go.RowKit
set_option linter.unusedVariables false
set_option maxRecDepth 100000

set_option maxHeartbeats 4000000 in
theorem rdo17_23 (V : FilV) (F : Fil) (U : QstV) (Q : Qst) (w : World) (hF : FilAt w V F) (hQ : QstAt w U Q) (hW : QstW Q) (hFW : FilW F) (hq : rightQ Q = true) (hr : rightB F = true) (h0 : datE F Q = 0) (hk : Q.k = 23) : Calls Tryz.prog 19 #[.agg (filC V F), .agg (qstC U Q)] w (Do17P F Q w) := by
  have hne : ¬ datE F Q ≠ 0 := fun h => h h0
  have af := ask_facts hq
  have hE : True := trivial
  have HD : Hid (datF F Q = (swF F Q.ad Q.nr Q.R) ∧ datT F Q = { zeroT with k := Q.k, nr := (wrdN (swF F Q.ad Q.nr Q.R) false Q.fr Q.mn), R := (wrdL (swF F Q.ad Q.nr Q.R) false Q.fr) }) := Lib.hid (by
    have e1 : datF F Q = (swF F Q.ad Q.nr Q.R) := by unfold datF; rw [if_neg hne]; simp (config := { decide := true }) only [hk, if_true, if_false]
    refine ⟨e1, ?_⟩
    unfold datT; rw [if_neg hne]; rw [e1]; simp (config := { decide := true }) only [hk, if_true, if_false] <;> rfl)
  obtain ⟨W5, hW5, k5, k3, D0⟩ := do_begin V F U Q w hF
  have KC := Lib.hid (fun W (x : Ext w W) => rcode17_any V F U Q W (hF.ext x) hW ((rightQ_iff Q).1 hq).1)
  have c0 : W5.cell? ⟨w.heap.size + 1, 0, none⟩ = some (.int .i64 Q.k) := cell_of_heap k3 rfl
  have KB := Lib.hid (fun W (x : Ext w W) => rsetwords14_any V F Q.ad U.a2 Q.nr U.d2 Q.R W (hF.ext x) (hQ.h2.ext x) (by have := af.wd (.inr hk); omega) hW.wad)
  have KR := Lib.hid (fun W V8 (h : FilAt W V8 (swF F Q.ad Q.nr Q.R)) => rwords14_any V8 (swF F Q.ad Q.nr Q.R) false Q.fr Q.mn W h hW.wfr hW.wmn)
  rw [h0] at KC
  have HK := Lib.hid hk
  clear h0 hne af hq hr hW hFW hF hQ hE hk
  go_enter Tryz.func19, Tryz.ntmps19
  go_upto_region 1 with fail
  rw [← hW5]
  clear hW5
  go_upto_region 2 with fail
  obtain ⟨W6, hW6⟩ : ∃ W6, W6 = W5.alloc (.cells #[.int .i64 Q.k, .int .i64 0, .int .i64 0, .int .i64 0, .int .i64 0, .int .i64 0, .int .i64 0, .slice none 0 0, .slice none 0 0] 37) := ⟨_, rfl⟩
  rw [← hW6] at D0 ⊢
  clear hW6 c0 k3 k5
  have c2 := D0.b2
  have c3 := D0.b3
  have xw := D0.x
  go_upto_region 6 with (first
    | (refine wpList_load_row rfl 29 (.tmp 2) rfl (w.heap.size) rfl 29 _ (0, 0) _ c2 Tryz.underlying29 rfl (by kernel_rfl) ?_)
    | (refine wpList_load_row rfl 31 (.tmp 3) rfl (w.heap.size + 1) rfl 31 _ (0, 0) _ c3 Tryz.underlying31 rfl (by kernel_rfl) ?_)
    | (go_at_call 20; refine (KC.out _ xw).mono ?_; rintro e w7 ⟨rfl, x7⟩))
  have D1 := D0.ext x7
  have x1 := xw.trans x7
  clear D0 c2 c3 xw KC x7
  have c2 := D1.b2
  have c0 : w7.cell? ⟨w.heap.size + 1, 0, none⟩ = some (.int .i64 23) := num_cell HK.out (cell_of_heap D1.b3 rfl)
  have c1 : w7.cell? ⟨w.heap.size + 1, 1, none⟩ = some (.int .i64 Q.ad) := cell_of_heap D1.b3 rfl
  have cl : w7.cell? ⟨w.heap.size + 1, 9, none⟩ = some (.slice U.a2 Q.nr U.d2) := cell_of_heap D1.b3 rfl
  go_upto_region 37 with (first
    | (refine wpList_load_row rfl 29 (.tmp 2) rfl w.heap.size rfl 29 _ (0, 0) _ c2 Tryz.underlying29 rfl (by kernel_rfl) ?_)
    | (go_at_call 42; refine (KB.out _ x1).mono ?_; rintro e w8 ⟨V8, rfl, hf8, x8, -⟩; have D2 := D1.ext x8; have b2 := D2.b2; clear c2 c0 c1 cl)
    | (refine wpList_store_row rfl 29 (.tmp 2) (.tmp 173) rfl w.heap.size _ rfl rfl 29 _ b2 (by kernel_rfl) rfl (by simp [filC, Value.oneCell']) ?_))
  have D3 := D2.setF hf8
  obtain ⟨w9, hw9⟩ : ∃ W, W = w8.setRow w.heap.size (filC V8 (swF F Q.ad Q.nr Q.R)) := ⟨_, rfl⟩
  rw [← hw9] at D3 ⊢
  clear hw9 b2 D2 hf8 D1 x8
  have f2 := D3.b2
  have hf9 := D3.f
  have c6 : w9.cell? ⟨w.heap.size + 1, 6, none⟩ = some (.int .i64 Q.fr) := cell_of_heap D3.b3 rfl
  have c7 : w9.cell? ⟨w.heap.size + 1, 7, none⟩ = some (.int .i64 Q.mn) := cell_of_heap D3.b3 rfl
  go_upto_region 38 with (first
    | (refine wpList_load_row rfl 29 (.tmp 2) rfl w.heap.size rfl 29 _ (0, 0) _ f2 Tryz.underlying29 rfl (by kernel_rfl) ?_)
    | (go_at_call 40; refine (KR.out _ _ hf9).mono ?_; rintro e wA ⟨bb, qq, rfl, lb, mb, hb, xA, -⟩; have D4 := D3.ext xA; have p7 : wA.cell? ⟨w.heap.size + 1 + 1 + 1 + 1, 8, none⟩ = some (.slice none 0 0) := cell_of_heap D4.b6 rfl; have q7 : wA.frozen? ⟨w.heap.size + 1 + 1 + 1 + 1, 8, none⟩ = false := frozen0 D4.b6; clear c6 c7 f2 hf9 D3))
  have D5 := D4.setT (X' := ⟨none, 0, bb, qq⟩) (T' := { zeroT with k := Q.k, nr := (wrdN (swF F Q.ad Q.nr Q.R) false Q.fr Q.mn), R := (wrdL (swF F Q.ad Q.nr Q.R) false Q.fr) }) 8 (.slice bb (wrdN (swF F Q.ad Q.nr Q.R) false Q.fr Q.mn) qq) rfl ⟨.inl rfl, Nat.le_refl _, Nat.zero_le _, hb, lb, mb⟩
  obtain ⟨WN, hWN⟩ : ∃ WN, WN = wA.setCell ⟨w.heap.size + 1 + 1 + 1 + 1, 8, none⟩ (.slice bb (wrdN (swF F Q.ad Q.nr Q.R) false Q.fr Q.mn) qq) := ⟨_, rfl⟩
  rw [← hWN] at D5 ⊢
  clear hWN p7 q7 D4 xA
  go_wp2_with fail
  have hd5 : Ext WN WN.drew := Ext.drew _
  have HL := Lib.hid (fun W (hx : Keep (fun i => i = w.heap.size + 1 + 1 ∨ i = w.heap.size + 1 + 1 + 1) WN W) => (⟨(hx.block _ (heap_lt D5.b2) (by omega)).trans D5.b2, (hx.block _ (heap_lt D5.b6) (by omega)).trans D5.b6⟩ : W.heap[w.heap.size]? = some (.cells (filC V8 (swF F Q.ad Q.nr Q.R)) 29 (0, 0)) ∧ W.heap[w.heap.size + 1 + 1 + 1 + 1]? = some (.cells (telC ⟨none, 0, bb, qq⟩ { zeroT with k := Q.k, nr := (wrdN (swF F Q.ad Q.nr Q.R) false Q.fr Q.mn), R := (wrdL (swF F Q.ad Q.nr Q.R) false Q.fr) }) 37 (0, 0))))
  have hs : Keep (fun i => i = w.heap.size + 1 + 1 ∨ i = w.heap.size + 1 + 1 + 1) WN WN.drew := Keep.of_ext hd5
  refine wp_region_held_drew (S := fun W => Keep (fun i => i = w.heap.size + 1 + 1 ∨ i = w.heap.size + 1 + 1 + 1) WN W) (by kernel_rfl) hs (fun _ => ?_)
  refine wpAnyH_takeD (i := 0) (d := 185) rfl rfl (by kernel_rfl) (by kernel_rfl) (by kernel_rfl) (fun _ _ _ h => h) (yieldsIf_load_row (by rfl) 29 (.tmp 2) rfl (w.heap.size) rfl 29 _ (0, 0) _ (fun w' hw' => (HL.out _ hw').1) Tryz.underlying29 rfl (by kernel_rfl)) hs ?_
  simp only [Act.put, List.setIfInBounds_toArray, List.set_cons_succ, List.set_cons_zero]
  refine wpAnyH_takeD (i := 1) (d := 186) rfl rfl (by kernel_rfl) (by kernel_rfl) (by kernel_rfl) (fun _ _ _ h => h) (yieldsIf_load_row (by rfl) 37 (.tmp 6) rfl (w.heap.size + 1 + 1 + 1 + 1) rfl 37 _ (0, 0) _ (fun w' hw' => (HL.out _ hw').2) Tryz.underlying37 rfl (by kernel_rfl)) hs ?_
  simp only [Act.put, List.setIfInBounds_toArray, List.set_cons_succ, List.set_cons_zero]
  refine wpAnyH_ready (rs := [2]) (by kernel_rfl) (by simp) (AllReadyH.cons rfl (fun K hK => ?_) AllReadyH.nil)
  refine step_store_row rfl 29 (.tmp 4) (.tmp 185) rfl (w.heap.size + 1 + 1) _ rfl rfl 29 _ (hd5.block D5.b4) (by kernel_rfl) rfl (by simp [filC, Value.oneCell']) rfl ?_
  refine hK.out _ _ ((Keep.of_ext hd5).trans (keep_row _ _ _) (fun i hi => .inl (.inl hi))) (fun hs => ?_)
  clear hK K
  simp only [Act.put]
  refine wpAnyH_ready (rs := [3]) (by kernel_rfl) (by simp) (AllReadyH.cons rfl (fun K hK => ?_) AllReadyH.nil)
  refine step_store_row rfl 37 (.tmp 5) (.tmp 186) rfl (w.heap.size + 1 + 1 + 1) _ rfl rfl 37 _ ((setRow_other _ _ _ _ (by omega)).trans (hd5.block D5.b5)) (by kernel_rfl) rfl (by simp [telC, Value.oneCell']) rfl ?_
  refine hK.out _ _ (hs.trans (keep_row _ _ _) (fun i hi => .inl (.inr hi))) (fun hs => ?_)
  clear hK K
  simp only [Act.put]
  refine wpAnyH_done (by kernel_rfl) ?_ _
  go_wp2_with fail
  have DE := D5.ext hd5
  obtain ⟨q1, q2, q3, q4, q5⟩ := do_told DE
  refine bodyPost_ret (results_rows _ _ (w.heap.size + 1 + 1) (w.heap.size + 1 + 1 + 1) 29 37 _ _ (0, 0) (0, 0) _ _ rfl rfl q4 Tryz.underlying29 rfl (by kernel_rfl) rfl q5 Tryz.underlying37 rfl (by kernel_rfl)) rfl ?_
  unfold Do17P
  rw [HD.out.1, HD.out.2]
  exact ⟨V8, ⟨none, 0, bb, qq⟩, rfl, q1, q2, q3⟩

set_option maxHeartbeats 4000000 in
theorem rdo17_22 (V : FilV) (F : Fil) (U : QstV) (Q : Qst) (w : World) (hF : FilAt w V F) (hQ : QstAt w U Q) (hW : QstW Q) (hFW : FilW F) (hq : rightQ Q = true) (hr : rightB F = true) (h0 : datE F Q = 0) (hk : Q.k = 22) : Calls Tryz.prog 19 #[.agg (filC V F), .agg (qstC U Q)] w (Do17P F Q w) := by
  have hne : ¬ datE F Q ≠ 0 := fun h => h h0
  have af := ask_facts hq
  have hE : True := trivial
  have HD : Hid (datF F Q = (swF F Q.ad 1 (fun _ => mskQ (wrdL F false Q.ad 0) Q.an Q.oo)) ∧ datT F Q = { zeroT with k := Q.k, ad := Q.ad, an := Q.an, oo := Q.oo }) := Lib.hid (by
    have e1 : datF F Q = (swF F Q.ad 1 (fun _ => mskQ (wrdL F false Q.ad 0) Q.an Q.oo)) := by unfold datF; rw [if_neg hne]; simp (config := { decide := true }) only [hk, if_true, if_false]
    refine ⟨e1, ?_⟩
    unfold datT; rw [if_neg hne]; simp (config := { decide := true }) only [hk, if_true, if_false] <;> rfl)
  obtain ⟨W5, hW5, k5, k3, D0⟩ := do_begin V F U Q w hF
  have KC := Lib.hid (fun W (x : Ext w W) => rcode17_any V F U Q W (hF.ext x) hW ((rightQ_iff Q).1 hq).1)
  have c0 : W5.cell? ⟨w.heap.size + 1, 0, none⟩ = some (.int .i64 Q.k) := cell_of_heap k3 rfl
  have h00 := h0
  have hN : wrdN F false Q.ad 1 = 1 := by
    have e : wrdE F false Q.ad 1 = 0 := by unfold datE at h00; simp (config := { decide := true }) only [hk, if_true, if_false] at h00; exact h00
    unfold wrdN; rw [if_pos e]; rfl
  have hbx := wrd_bd hFW false Q.ad 1 (by omega) 0 (by omega)
  have hms := af.ms hk
  have KW : Hid (∀ W, Ext w W → Calls Tryz.prog 40 #[.agg (filC V F), .bool false, .int .i64 Q.ad, .int .i64 1] W (SlP (Value.int .u16) (wrdE F false Q.ad 1) 1 (wrdL F false Q.ad) W)) := Lib.hid (fun W x => by have h := rwords14_any V F false Q.ad 1 W (hF.ext x) hW.wad (by decide); rw [hN] at h; exact h)
  have KM := Lib.hid (fun W => rmask_v (wrdL F false Q.ad 0) Q.an Q.oo W hbx ⟨hms.1, by omega⟩ ⟨hms.2.2.1, by omega⟩)
  have KS := Lib.hid (fun W (g : Nat) (x : Ext w W) (h : HoldsG (Value.int .u16) W (some ⟨g, 0, none⟩) 1 (fun _ => mskQ (wrdL F false Q.ad 0) Q.an Q.oo)) => rsetwords14_any V F Q.ad (some ⟨g, 0, none⟩) 1 1 (fun _ => mskQ (wrdL F false Q.ad 0) Q.an Q.oo) W (hF.ext x) h (by omega) hW.wad)
  have hw1 : IntKind.u16.wrap Q.an = Q.an := by rw [IntKind.wrap_u16]; omega
  have hw2 : IntKind.u16.wrap Q.oo = Q.oo := by rw [IntKind.wrap_u16]; omega
  clear h00 hN hbx hms
  rw [h0] at KC
  have HK := Lib.hid hk
  clear h0 hne af hq hr hW hFW hF hQ hE hk
  go_enter Tryz.func19, Tryz.ntmps19
  go_upto_region 1 with fail
  rw [← hW5]
  clear hW5
  go_upto_region 2 with fail
  obtain ⟨W6, hW6⟩ : ∃ W6, W6 = W5.alloc (.cells #[.int .i64 Q.k, .int .i64 0, .int .i64 0, .int .i64 0, .int .i64 0, .int .i64 0, .int .i64 0, .slice none 0 0, .slice none 0 0] 37) := ⟨_, rfl⟩
  rw [← hW6] at D0 ⊢
  clear hW6 c0 k3 k5
  have c2 := D0.b2
  have c3 := D0.b3
  have xw := D0.x
  go_upto_region 6 with (first
    | (refine wpList_load_row rfl 29 (.tmp 2) rfl (w.heap.size) rfl 29 _ (0, 0) _ c2 Tryz.underlying29 rfl (by kernel_rfl) ?_)
    | (refine wpList_load_row rfl 31 (.tmp 3) rfl (w.heap.size + 1) rfl 31 _ (0, 0) _ c3 Tryz.underlying31 rfl (by kernel_rfl) ?_)
    | (go_at_call 20; refine (KC.out _ xw).mono ?_; rintro e w7 ⟨rfl, x7⟩))
  have D1 := D0.ext x7
  have x1 := xw.trans x7
  clear D0 c2 c3 xw KC x7
  have c2 := D1.b2
  have c0 : w7.cell? ⟨w.heap.size + 1, 0, none⟩ = some (.int .i64 22) := num_cell HK.out (cell_of_heap D1.b3 rfl)
  have c1 : w7.cell? ⟨w.heap.size + 1, 1, none⟩ = some (.int .i64 Q.ad) := cell_of_heap D1.b3 rfl
  go_upto_region 31 with (first
    | (refine wpList_load_row rfl 29 (.tmp 2) rfl w.heap.size rfl 29 _ (0, 0) _ c2 Tryz.underlying29 rfl (by kernel_rfl) ?_)
    | (go_at_call 40; refine (KW.out _ x1).mono ?_; rintro e w8 ⟨bb, qq, rfl, lb, mb, hb, x8, -⟩; have D2 := D1.ext x8; clear c2 c0 c1))
  have x8w := x1.trans x8
  obtain ⟨bb, ob, rfl, hbl, hbc⟩ := hb.resolve_left (by omega)
  have cx : w8.cell? ⟨bb, ob, none⟩ = some (.int .u16 (wrdL F false Q.ad 0)) := hbc 0 (by omega)
  have hbg : bb ≠ w.heap.size := by
    rintro rfl
    rw [cell_of_row _ _ _ _ _ _ D2.b2] at cx
    have := Array.mem_of_getElem? cx
    simp [filC] at this
  have he : Ext w8 w8.drew := Ext.drew _
  have hs : Keep (fun i => i = w.heap.size) w8 w8.drew := Keep.of_ext he
  have HC := Lib.hid (fun W (hx : Keep (fun i => i = w.heap.size) w8 W) => (by
    have hr := (hx.block _ (heap_lt D2.b3) (by omega)).trans D2.b3
    exact ⟨cell_of_heap hr rfl, cell_of_heap hr rfl, cell_of_heap hr rfl, hx.cell hbg cx⟩ : W.cell? ⟨w.heap.size + 1, 1, none⟩ = some (.int .i64 Q.ad) ∧ W.cell? ⟨w.heap.size + 1, 4, none⟩ = some (.int .i64 Q.an) ∧ W.cell? ⟨w.heap.size + 1, 5, none⟩ = some (.int .i64 Q.oo) ∧ W.cell? ⟨bb, ob, none⟩ = some (.int .u16 (wrdL F false Q.ad 0))))
  clear hbc cx hbl lb mb hb D1 x8
  refine wp_region_held_drew (S := fun W => Keep (fun i => i = w.heap.size) w8 W) (by kernel_rfl) hs (fun _ => ?_)
  refine wpAnyH_takeD (i := 1) (d := 139) (v := .pointer (some ⟨w.heap.size + 1, 1, none⟩)) rfl rfl (by kernel_rfl) (by kernel_rfl) (by kernel_rfl) (fun _ _ _ h => h) (Or.inl ⟨by rfl, fun W hW => by go_simp⟩) hs ?_
  simp only [Act.put, List.setIfInBounds_toArray, List.set_cons_succ, List.set_cons_zero]
  refine wpAnyH_takeD (i := 2) (d := 140) (v := .int .i64 Q.ad) rfl rfl (by kernel_rfl) (by kernel_rfl) (by kernel_rfl) (fun _ _ _ h => h) (Or.inl ⟨by rfl, fun W hW => by obtain ⟨a1, a4, a5, a9⟩ := HC.out W hW; go_simp⟩) hs ?_
  simp only [Act.put, List.setIfInBounds_toArray, List.set_cons_succ, List.set_cons_zero]
  refine wpAnyH_takeD (i := 3) (d := 141) (v := .slice (some ⟨bb, ob, none⟩) 1 qq) rfl rfl (by kernel_rfl) (by kernel_rfl) (by kernel_rfl) (fun _ _ _ h => h) (Or.inl ⟨by rfl, fun W hW => by go_simp⟩) hs ?_
  simp only [Act.put, List.setIfInBounds_toArray, List.set_cons_succ, List.set_cons_zero]
  refine wpAnyH_takeD (i := 4) (d := 142) (v := .pointer (some ⟨bb, ob, none⟩)) rfl rfl (by kernel_rfl) (by kernel_rfl) (by kernel_rfl) (fun _ _ _ h => h) (Or.inl ⟨by rfl, fun W hW => by obtain ⟨a1, a4, a5, a9⟩ := HC.out W hW; go_simp⟩) hs ?_
  simp only [Act.put, List.setIfInBounds_toArray, List.set_cons_succ, List.set_cons_zero]
  refine wpAnyH_takeD (i := 5) (d := 143) (v := .int .u16 (wrdL F false Q.ad 0)) rfl rfl (by kernel_rfl) (by kernel_rfl) (by kernel_rfl) (fun _ _ _ h => h) (Or.inl ⟨by rfl, fun W hW => by obtain ⟨a1, a4, a5, a9⟩ := HC.out W hW; go_simp⟩) hs ?_
  simp only [Act.put, List.setIfInBounds_toArray, List.set_cons_succ, List.set_cons_zero]
  refine wpAnyH_takeD (i := 6) (d := 144) (v := .pointer (some ⟨w.heap.size + 1, 4, none⟩)) rfl rfl (by kernel_rfl) (by kernel_rfl) (by kernel_rfl) (fun _ _ _ h => h) (Or.inl ⟨by rfl, fun W hW => by go_simp⟩) hs ?_
  simp only [Act.put, List.setIfInBounds_toArray, List.set_cons_succ, List.set_cons_zero]
  refine wpAnyH_takeD (i := 7) (d := 145) (v := .int .i64 Q.an) rfl rfl (by kernel_rfl) (by kernel_rfl) (by kernel_rfl) (fun _ _ _ h => h) (Or.inl ⟨by rfl, fun W hW => by obtain ⟨a1, a4, a5, a9⟩ := HC.out W hW; go_simp⟩) hs ?_
  simp only [Act.put, List.setIfInBounds_toArray, List.set_cons_succ, List.set_cons_zero]
  refine wpAnyH_takeD (i := 8) (d := 146) (v := .int .u16 Q.an) rfl rfl (by kernel_rfl) (by kernel_rfl) (by kernel_rfl) (fun _ _ _ h => h) (Or.inl ⟨by rfl, fun W hW => by go_simp⟩) hs ?_
  simp only [Act.put, List.setIfInBounds_toArray, List.set_cons_succ, List.set_cons_zero]
  refine wpAnyH_takeD (i := 9) (d := 147) (v := .pointer (some ⟨w.heap.size + 1, 5, none⟩)) rfl rfl (by kernel_rfl) (by kernel_rfl) (by kernel_rfl) (fun _ _ _ h => h) (Or.inl ⟨by rfl, fun W hW => by go_simp⟩) hs ?_
  simp only [Act.put, List.setIfInBounds_toArray, List.set_cons_succ, List.set_cons_zero]
  refine wpAnyH_takeD (i := 10) (d := 148) (v := .int .i64 Q.oo) rfl rfl (by kernel_rfl) (by kernel_rfl) (by kernel_rfl) (fun _ _ _ h => h) (Or.inl ⟨by rfl, fun W hW => by obtain ⟨a1, a4, a5, a9⟩ := HC.out W hW; go_simp⟩) hs ?_
  simp only [Act.put, List.setIfInBounds_toArray, List.set_cons_succ, List.set_cons_zero]
  refine wpAnyH_takeD (i := 11) (d := 149) (v := .int .u16 Q.oo) rfl rfl (by kernel_rfl) (by kernel_rfl) (by kernel_rfl) (fun _ _ _ h => h) (Or.inl ⟨by rfl, fun W hW => by go_simp⟩) hs ?_
  simp only [Act.put, List.setIfInBounds_toArray, List.set_cons_succ, List.set_cons_zero]
  refine wpAnyH_ready (rs := [0, 12]) (by kernel_rfl) (by simp) (AllReadyH.cons rfl (fun K hK => ?_) (AllReadyH.cons rfl (fun K hK => ?_) AllReadyH.nil))
  · refine wp_load_row 29 (.tmp 2) rfl w.heap.size rfl 29 _ (0, 0) _ (he.block D2.b2) Tryz.underlying29 rfl (by kernel_rfl) ?_
    refine hK.out _ _ hs (fun hs => ?_)
    clear hK K
    simp only [Act.put, List.setIfInBounds_toArray]
    refine wpAnyH_ready (rs := [12]) (by kernel_rfl) (by simp) (AllReadyH.cons rfl (fun K hK => ?_) AllReadyH.nil)
    go_simp
    go_at_call 43
    refine (KM.out _).mono ?_; rintro e Wm ⟨rfl, rfl⟩
    go_wp2_with fail
    refine hK.out _ _ hs (fun hs => ?_)
    clear hK K
    refine wpAnyH_ready (rs := [13]) (by kernel_rfl) (by simp) (AllReadyH.cons rfl (fun K hK => ?_) AllReadyH.nil)
    go_simp
    have he := he.trans (Ext.alloc _ (.cells #[.int .u16 (mskQ (wrdL F false Q.ad 0) Q.an Q.oo)] 59))
    have h1 := one_cell (mk := Value.int .u16) w8.drew (mskQ (wrdL F false Q.ad 0) Q.an Q.oo) 59
    refine hK.out _ _ (Keep.of_ext he) (fun hs => ?_)
    clear hK K
    refine wpAnyH_ready (rs := [14]) (by kernel_rfl) (by simp) (AllReadyH.cons rfl (fun K hK => ?_) AllReadyH.nil)
    go_simp
    go_at_call 42
    refine (KS.out _ _ (x8w.trans he) h1).mono ?_; rintro e W9 ⟨V9, rfl, hf9, x9, -⟩
    go_wp2_with fail
    have he := he.trans x9
    refine hK.out _ _ (Keep.of_ext he) (fun hs => ?_)
    clear hK K
    refine wpAnyH_takeD (i := 15) (d := 137) (v := .tuple #[.agg (filC V9 (swF F Q.ad 1 (fun _ => mskQ (wrdL F false Q.ad 0) Q.an Q.oo))), .int .i64 (swE F Q.ad 1)]) rfl rfl (by kernel_rfl) (by kernel_rfl) (by kernel_rfl) (fun _ _ _ h => h) (Or.inl ⟨by rfl, fun W hW => by go_simp⟩) hs ?_
    simp only [Act.put, List.setIfInBounds_toArray, List.set_cons_succ, List.set_cons_zero]
    refine wpAnyH_takeD (i := 16) (d := 153) (v := .agg (filC V9 (swF F Q.ad 1 (fun _ => mskQ (wrdL F false Q.ad 0) Q.an Q.oo)))) rfl rfl (by kernel_rfl) (by kernel_rfl) (by kernel_rfl) (fun _ _ _ h => h) (Or.inl ⟨by rfl, fun W hW => by go_simp⟩) hs ?_
    simp only [Act.put, List.setIfInBounds_toArray, List.set_cons_succ, List.set_cons_zero]
    refine wpAnyH_takeD (i := 17) (d := 154) (v := .int .i64 (swE F Q.ad 1)) rfl rfl (by kernel_rfl) (by kernel_rfl) (by kernel_rfl) (fun _ _ _ h => h) (Or.inl ⟨by rfl, fun W hW => by go_simp⟩) hs ?_
    simp only [Act.put, List.setIfInBounds_toArray, List.set_cons_succ, List.set_cons_zero]
    refine wpAnyH_ready (rs := [18]) (by kernel_rfl) (by simp) (AllReadyH.cons rfl (fun K hK => ?_) AllReadyH.nil)
    refine step_store_row rfl 29 (.tmp 2) (.tmp 153) rfl w.heap.size _ rfl rfl 29 _ (he.block D2.b2) (by kernel_rfl) rfl (by simp [filC, Value.oneCell']) rfl ?_
    refine hK.out _ _ ((Keep.of_ext he).trans (keep_row _ _ _) (fun i hi => .inl hi)) (fun hs => ?_)
    clear hK K
    simp only [Act.put]
    refine wpAnyH_done (by kernel_rfl) ?_ _
    have D3 := (D2.ext he).setF hf9
    obtain ⟨w9, hw9⟩ : ∃ W, W = W9.setRow w.heap.size (filC V9 (swF F Q.ad 1 (fun _ => mskQ (wrdL F false Q.ad 0) Q.an Q.oo))) := ⟨_, rfl⟩
    rw [← hw9] at D3 ⊢
    clear hw9 D2 hf9 x9 he h1 hs
    go_upto_region 32 with fail
    have a0 : w9.cell? ⟨w.heap.size + 1, 1, none⟩ = some (.int .i64 Q.ad) := cell_of_heap D3.b3 rfl
    have p0 : w9.cell? ⟨w.heap.size + 1 + 1 + 1 + 1, 2, none⟩ = some (.int .i64 0) := cell_of_heap D3.b6 rfl
    have q0 : w9.frozen? ⟨w.heap.size + 1 + 1 + 1 + 1, 2, none⟩ = false := frozen0 D3.b6
    have Df0 := D3.setT (X' := zeroQV) (T' := { zeroT with k := Q.k, ad := Q.ad }) 2 (.int .i64 Q.ad) rfl (telnone_at _ rfl rfl)
    go_upto_region 33 with fail
    obtain ⟨wf0, hwf0⟩ : ∃ W, W = w9.setCell ⟨w.heap.size + 1 + 1 + 1 + 1, 2, none⟩ (.int .i64 Q.ad) := ⟨_, rfl⟩
    rw [← hwf0] at Df0 ⊢
    clear hwf0 a0 p0 q0 D3
    have a1 : wf0.cell? ⟨w.heap.size + 1, 4, none⟩ = some (.int .i64 Q.an) := cell_of_heap Df0.b3 rfl
    have p1 : wf0.cell? ⟨w.heap.size + 1 + 1 + 1 + 1, 5, none⟩ = some (.int .i64 0) := cell_of_heap Df0.b6 rfl
    have q1 : wf0.frozen? ⟨w.heap.size + 1 + 1 + 1 + 1, 5, none⟩ = false := frozen0 Df0.b6
    have Df1 := Df0.setT (X' := zeroQV) (T' := { zeroT with k := Q.k, ad := Q.ad, an := Q.an }) 5 (.int .i64 Q.an) rfl (telnone_at _ rfl rfl)
    go_upto_region 34 with fail
    obtain ⟨wf1, hwf1⟩ : ∃ W, W = wf0.setCell ⟨w.heap.size + 1 + 1 + 1 + 1, 5, none⟩ (.int .i64 Q.an) := ⟨_, rfl⟩
    rw [← hwf1] at Df1 ⊢
    clear hwf1 a1 p1 q1 Df0
    have a2 : wf1.cell? ⟨w.heap.size + 1, 5, none⟩ = some (.int .i64 Q.oo) := cell_of_heap Df1.b3 rfl
    have p2 : wf1.cell? ⟨w.heap.size + 1 + 1 + 1 + 1, 6, none⟩ = some (.int .i64 0) := cell_of_heap Df1.b6 rfl
    have q2 : wf1.frozen? ⟨w.heap.size + 1 + 1 + 1 + 1, 6, none⟩ = false := frozen0 Df1.b6
    have Df2 := Df1.setT (X' := zeroQV) (T' := { zeroT with k := Q.k, ad := Q.ad, an := Q.an, oo := Q.oo }) 6 (.int .i64 Q.oo) rfl (telnone_at _ rfl rfl)
    go_upto_region 38 with fail
    obtain ⟨wf2, hwf2⟩ : ∃ W, W = wf1.setCell ⟨w.heap.size + 1 + 1 + 1 + 1, 6, none⟩ (.int .i64 Q.oo) := ⟨_, rfl⟩
    rw [← hwf2] at Df2 ⊢
    clear hwf2 a2 p2 q2 Df1
    go_wp2_with fail
    have hd5 : Ext wf2 wf2.drew := Ext.drew _
    have HL := Lib.hid (fun W (hx : Keep (fun i => i = w.heap.size + 1 + 1 ∨ i = w.heap.size + 1 + 1 + 1) wf2 W) => (⟨(hx.block _ (heap_lt Df2.b2) (by omega)).trans Df2.b2, (hx.block _ (heap_lt Df2.b6) (by omega)).trans Df2.b6⟩ : W.heap[w.heap.size]? = some (.cells (filC V9 (swF F Q.ad 1 (fun _ => mskQ (wrdL F false Q.ad 0) Q.an Q.oo))) 29 (0, 0)) ∧ W.heap[w.heap.size + 1 + 1 + 1 + 1]? = some (.cells (telC zeroQV { zeroT with k := Q.k, ad := Q.ad, an := Q.an, oo := Q.oo }) 37 (0, 0))))
    have hs : Keep (fun i => i = w.heap.size + 1 + 1 ∨ i = w.heap.size + 1 + 1 + 1) wf2 wf2.drew := Keep.of_ext hd5
    refine wp_region_held_drew (S := fun W => Keep (fun i => i = w.heap.size + 1 + 1 ∨ i = w.heap.size + 1 + 1 + 1) wf2 W) (by kernel_rfl) hs (fun _ => ?_)
    refine wpAnyH_takeD (i := 0) (d := 185) rfl rfl (by kernel_rfl) (by kernel_rfl) (by kernel_rfl) (fun _ _ _ h => h) (yieldsIf_load_row (by rfl) 29 (.tmp 2) rfl (w.heap.size) rfl 29 _ (0, 0) _ (fun w' hw' => (HL.out _ hw').1) Tryz.underlying29 rfl (by kernel_rfl)) hs ?_
    simp only [Act.put, List.setIfInBounds_toArray, List.set_cons_succ, List.set_cons_zero]
    refine wpAnyH_takeD (i := 1) (d := 186) rfl rfl (by kernel_rfl) (by kernel_rfl) (by kernel_rfl) (fun _ _ _ h => h) (yieldsIf_load_row (by rfl) 37 (.tmp 6) rfl (w.heap.size + 1 + 1 + 1 + 1) rfl 37 _ (0, 0) _ (fun w' hw' => (HL.out _ hw').2) Tryz.underlying37 rfl (by kernel_rfl)) hs ?_
    simp only [Act.put, List.setIfInBounds_toArray, List.set_cons_succ, List.set_cons_zero]
    refine wpAnyH_ready (rs := [2]) (by kernel_rfl) (by simp) (AllReadyH.cons rfl (fun K hK => ?_) AllReadyH.nil)
    refine step_store_row rfl 29 (.tmp 4) (.tmp 185) rfl (w.heap.size + 1 + 1) _ rfl rfl 29 _ (hd5.block Df2.b4) (by kernel_rfl) rfl (by simp [filC, Value.oneCell']) rfl ?_
    refine hK.out _ _ ((Keep.of_ext hd5).trans (keep_row _ _ _) (fun i hi => .inl (.inl hi))) (fun hs => ?_)
    clear hK K
    simp only [Act.put]
    refine wpAnyH_ready (rs := [3]) (by kernel_rfl) (by simp) (AllReadyH.cons rfl (fun K hK => ?_) AllReadyH.nil)
    refine step_store_row rfl 37 (.tmp 5) (.tmp 186) rfl (w.heap.size + 1 + 1 + 1) _ rfl rfl 37 _ ((setRow_other _ _ _ _ (by omega)).trans (hd5.block Df2.b5)) (by kernel_rfl) rfl (by simp [telC, Value.oneCell']) rfl ?_
    refine hK.out _ _ (hs.trans (keep_row _ _ _) (fun i hi => .inl (.inr hi))) (fun hs => ?_)
    clear hK K
    simp only [Act.put]
    refine wpAnyH_done (by kernel_rfl) ?_ _
    go_wp2_with fail
    have DE := Df2.ext hd5
    obtain ⟨q1, q2, q3, q4, q5⟩ := do_told DE
    refine bodyPost_ret (results_rows _ _ (w.heap.size + 1 + 1) (w.heap.size + 1 + 1 + 1) 29 37 _ _ (0, 0) (0, 0) _ _ rfl rfl q4 Tryz.underlying29 rfl (by kernel_rfl) rfl q5 Tryz.underlying37 rfl (by kernel_rfl)) rfl ?_
    unfold Do17P
    rw [HD.out.1, HD.out.2]
    exact ⟨V9, zeroQV, rfl, q1, q2, q3⟩
  · go_simp
    go_at_call 43
    refine (KM.out _).mono ?_; rintro e Wm ⟨rfl, rfl⟩
    go_wp2_with fail
    refine hK.out _ _ hs (fun hs => ?_)
    clear hK K
    refine wpAnyH_ready (rs := [0, 13]) (by kernel_rfl) (by simp) (AllReadyH.cons rfl (fun K hK => ?_) (AllReadyH.cons rfl (fun K hK => ?_) AllReadyH.nil))
    · refine wp_load_row 29 (.tmp 2) rfl w.heap.size rfl 29 _ (0, 0) _ (he.block D2.b2) Tryz.underlying29 rfl (by kernel_rfl) ?_
      refine hK.out _ _ hs (fun hs => ?_)
      clear hK K
      simp only [Act.put, List.setIfInBounds_toArray]
      refine wpAnyH_ready (rs := [13]) (by kernel_rfl) (by simp) (AllReadyH.cons rfl (fun K hK => ?_) AllReadyH.nil)
      go_simp
      have he := he.trans (Ext.alloc _ (.cells #[.int .u16 (mskQ (wrdL F false Q.ad 0) Q.an Q.oo)] 59))
      have h1 := one_cell (mk := Value.int .u16) w8.drew (mskQ (wrdL F false Q.ad 0) Q.an Q.oo) 59
      refine hK.out _ _ (Keep.of_ext he) (fun hs => ?_)
      clear hK K
      refine wpAnyH_ready (rs := [14]) (by kernel_rfl) (by simp) (AllReadyH.cons rfl (fun K hK => ?_) AllReadyH.nil)
      go_simp
      go_at_call 42
      refine (KS.out _ _ (x8w.trans he) h1).mono ?_; rintro e W9 ⟨V9, rfl, hf9, x9, -⟩
      go_wp2_with fail
      have he := he.trans x9
      refine hK.out _ _ (Keep.of_ext he) (fun hs => ?_)
      clear hK K
      refine wpAnyH_takeD (i := 15) (d := 137) (v := .tuple #[.agg (filC V9 (swF F Q.ad 1 (fun _ => mskQ (wrdL F false Q.ad 0) Q.an Q.oo))), .int .i64 (swE F Q.ad 1)]) rfl rfl (by kernel_rfl) (by kernel_rfl) (by kernel_rfl) (fun _ _ _ h => h) (Or.inl ⟨by rfl, fun W hW => by go_simp⟩) hs ?_
      simp only [Act.put, List.setIfInBounds_toArray, List.set_cons_succ, List.set_cons_zero]
      refine wpAnyH_takeD (i := 16) (d := 153) (v := .agg (filC V9 (swF F Q.ad 1 (fun _ => mskQ (wrdL F false Q.ad 0) Q.an Q.oo)))) rfl rfl (by kernel_rfl) (by kernel_rfl) (by kernel_rfl) (fun _ _ _ h => h) (Or.inl ⟨by rfl, fun W hW => by go_simp⟩) hs ?_
      simp only [Act.put, List.setIfInBounds_toArray, List.set_cons_succ, List.set_cons_zero]
      refine wpAnyH_takeD (i := 17) (d := 154) (v := .int .i64 (swE F Q.ad 1)) rfl rfl (by kernel_rfl) (by kernel_rfl) (by kernel_rfl) (fun _ _ _ h => h) (Or.inl ⟨by rfl, fun W hW => by go_simp⟩) hs ?_
      simp only [Act.put, List.setIfInBounds_toArray, List.set_cons_succ, List.set_cons_zero]
      refine wpAnyH_ready (rs := [18]) (by kernel_rfl) (by simp) (AllReadyH.cons rfl (fun K hK => ?_) AllReadyH.nil)
      refine step_store_row rfl 29 (.tmp 2) (.tmp 153) rfl w.heap.size _ rfl rfl 29 _ (he.block D2.b2) (by kernel_rfl) rfl (by simp [filC, Value.oneCell']) rfl ?_
      refine hK.out _ _ ((Keep.of_ext he).trans (keep_row _ _ _) (fun i hi => .inl hi)) (fun hs => ?_)
      clear hK K
      simp only [Act.put]
      refine wpAnyH_done (by kernel_rfl) ?_ _
      have D3 := (D2.ext he).setF hf9
      obtain ⟨w9, hw9⟩ : ∃ W, W = W9.setRow w.heap.size (filC V9 (swF F Q.ad 1 (fun _ => mskQ (wrdL F false Q.ad 0) Q.an Q.oo))) := ⟨_, rfl⟩
      rw [← hw9] at D3 ⊢
      clear hw9 D2 hf9 x9 he h1 hs
      go_upto_region 32 with fail
      have a0 : w9.cell? ⟨w.heap.size + 1, 1, none⟩ = some (.int .i64 Q.ad) := cell_of_heap D3.b3 rfl
      have p0 : w9.cell? ⟨w.heap.size + 1 + 1 + 1 + 1, 2, none⟩ = some (.int .i64 0) := cell_of_heap D3.b6 rfl
      have q0 : w9.frozen? ⟨w.heap.size + 1 + 1 + 1 + 1, 2, none⟩ = false := frozen0 D3.b6
      have Df0 := D3.setT (X' := zeroQV) (T' := { zeroT with k := Q.k, ad := Q.ad }) 2 (.int .i64 Q.ad) rfl (telnone_at _ rfl rfl)
      go_upto_region 33 with fail
      obtain ⟨wf0, hwf0⟩ : ∃ W, W = w9.setCell ⟨w.heap.size + 1 + 1 + 1 + 1, 2, none⟩ (.int .i64 Q.ad) := ⟨_, rfl⟩
      rw [← hwf0] at Df0 ⊢
      clear hwf0 a0 p0 q0 D3
      have a1 : wf0.cell? ⟨w.heap.size + 1, 4, none⟩ = some (.int .i64 Q.an) := cell_of_heap Df0.b3 rfl
      have p1 : wf0.cell? ⟨w.heap.size + 1 + 1 + 1 + 1, 5, none⟩ = some (.int .i64 0) := cell_of_heap Df0.b6 rfl
      have q1 : wf0.frozen? ⟨w.heap.size + 1 + 1 + 1 + 1, 5, none⟩ = false := frozen0 Df0.b6
      have Df1 := Df0.setT (X' := zeroQV) (T' := { zeroT with k := Q.k, ad := Q.ad, an := Q.an }) 5 (.int .i64 Q.an) rfl (telnone_at _ rfl rfl)
      go_upto_region 34 with fail
      obtain ⟨wf1, hwf1⟩ : ∃ W, W = wf0.setCell ⟨w.heap.size + 1 + 1 + 1 + 1, 5, none⟩ (.int .i64 Q.an) := ⟨_, rfl⟩
      rw [← hwf1] at Df1 ⊢
      clear hwf1 a1 p1 q1 Df0
      have a2 : wf1.cell? ⟨w.heap.size + 1, 5, none⟩ = some (.int .i64 Q.oo) := cell_of_heap Df1.b3 rfl
      have p2 : wf1.cell? ⟨w.heap.size + 1 + 1 + 1 + 1, 6, none⟩ = some (.int .i64 0) := cell_of_heap Df1.b6 rfl
      have q2 : wf1.frozen? ⟨w.heap.size + 1 + 1 + 1 + 1, 6, none⟩ = false := frozen0 Df1.b6
      have Df2 := Df1.setT (X' := zeroQV) (T' := { zeroT with k := Q.k, ad := Q.ad, an := Q.an, oo := Q.oo }) 6 (.int .i64 Q.oo) rfl (telnone_at _ rfl rfl)
      go_upto_region 38 with fail
      obtain ⟨wf2, hwf2⟩ : ∃ W, W = wf1.setCell ⟨w.heap.size + 1 + 1 + 1 + 1, 6, none⟩ (.int .i64 Q.oo) := ⟨_, rfl⟩
      rw [← hwf2] at Df2 ⊢
      clear hwf2 a2 p2 q2 Df1
      go_wp2_with fail
      have hd5 : Ext wf2 wf2.drew := Ext.drew _
      have HL := Lib.hid (fun W (hx : Keep (fun i => i = w.heap.size + 1 + 1 ∨ i = w.heap.size + 1 + 1 + 1) wf2 W) => (⟨(hx.block _ (heap_lt Df2.b2) (by omega)).trans Df2.b2, (hx.block _ (heap_lt Df2.b6) (by omega)).trans Df2.b6⟩ : W.heap[w.heap.size]? = some (.cells (filC V9 (swF F Q.ad 1 (fun _ => mskQ (wrdL F false Q.ad 0) Q.an Q.oo))) 29 (0, 0)) ∧ W.heap[w.heap.size + 1 + 1 + 1 + 1]? = some (.cells (telC zeroQV { zeroT with k := Q.k, ad := Q.ad, an := Q.an, oo := Q.oo }) 37 (0, 0))))
      have hs : Keep (fun i => i = w.heap.size + 1 + 1 ∨ i = w.heap.size + 1 + 1 + 1) wf2 wf2.drew := Keep.of_ext hd5
      refine wp_region_held_drew (S := fun W => Keep (fun i => i = w.heap.size + 1 + 1 ∨ i = w.heap.size + 1 + 1 + 1) wf2 W) (by kernel_rfl) hs (fun _ => ?_)
      refine wpAnyH_takeD (i := 0) (d := 185) rfl rfl (by kernel_rfl) (by kernel_rfl) (by kernel_rfl) (fun _ _ _ h => h) (yieldsIf_load_row (by rfl) 29 (.tmp 2) rfl (w.heap.size) rfl 29 _ (0, 0) _ (fun w' hw' => (HL.out _ hw').1) Tryz.underlying29 rfl (by kernel_rfl)) hs ?_
      simp only [Act.put, List.setIfInBounds_toArray, List.set_cons_succ, List.set_cons_zero]
      refine wpAnyH_takeD (i := 1) (d := 186) rfl rfl (by kernel_rfl) (by kernel_rfl) (by kernel_rfl) (fun _ _ _ h => h) (yieldsIf_load_row (by rfl) 37 (.tmp 6) rfl (w.heap.size + 1 + 1 + 1 + 1) rfl 37 _ (0, 0) _ (fun w' hw' => (HL.out _ hw').2) Tryz.underlying37 rfl (by kernel_rfl)) hs ?_
      simp only [Act.put, List.setIfInBounds_toArray, List.set_cons_succ, List.set_cons_zero]
      refine wpAnyH_ready (rs := [2]) (by kernel_rfl) (by simp) (AllReadyH.cons rfl (fun K hK => ?_) AllReadyH.nil)
      refine step_store_row rfl 29 (.tmp 4) (.tmp 185) rfl (w.heap.size + 1 + 1) _ rfl rfl 29 _ (hd5.block Df2.b4) (by kernel_rfl) rfl (by simp [filC, Value.oneCell']) rfl ?_
      refine hK.out _ _ ((Keep.of_ext hd5).trans (keep_row _ _ _) (fun i hi => .inl (.inl hi))) (fun hs => ?_)
      clear hK K
      simp only [Act.put]
      refine wpAnyH_ready (rs := [3]) (by kernel_rfl) (by simp) (AllReadyH.cons rfl (fun K hK => ?_) AllReadyH.nil)
      refine step_store_row rfl 37 (.tmp 5) (.tmp 186) rfl (w.heap.size + 1 + 1 + 1) _ rfl rfl 37 _ ((setRow_other _ _ _ _ (by omega)).trans (hd5.block Df2.b5)) (by kernel_rfl) rfl (by simp [telC, Value.oneCell']) rfl ?_
      refine hK.out _ _ (hs.trans (keep_row _ _ _) (fun i hi => .inl (.inr hi))) (fun hs => ?_)
      clear hK K
      simp only [Act.put]
      refine wpAnyH_done (by kernel_rfl) ?_ _
      go_wp2_with fail
      have DE := Df2.ext hd5
      obtain ⟨q1, q2, q3, q4, q5⟩ := do_told DE
      refine bodyPost_ret (results_rows _ _ (w.heap.size + 1 + 1) (w.heap.size + 1 + 1 + 1) 29 37 _ _ (0, 0) (0, 0) _ _ rfl rfl q4 Tryz.underlying29 rfl (by kernel_rfl) rfl q5 Tryz.underlying37 rfl (by kernel_rfl)) rfl ?_
      unfold Do17P
      rw [HD.out.1, HD.out.2]
      exact ⟨V9, zeroQV, rfl, q1, q2, q3⟩
    · go_simp
      have he := he.trans (Ext.alloc _ (.cells #[.int .u16 (mskQ (wrdL F false Q.ad 0) Q.an Q.oo)] 59))
      have h1 := one_cell (mk := Value.int .u16) w8.drew (mskQ (wrdL F false Q.ad 0) Q.an Q.oo) 59
      refine hK.out _ _ (Keep.of_ext he) (fun hs => ?_)
      clear hK K
      refine wpAnyH_ready (rs := [0]) (by kernel_rfl) (by simp) (AllReadyH.cons rfl (fun K hK => ?_) AllReadyH.nil)
      refine wp_load_row 29 (.tmp 2) rfl w.heap.size rfl 29 _ (0, 0) _ (he.block D2.b2) Tryz.underlying29 rfl (by kernel_rfl) ?_
      refine hK.out _ _ hs (fun hs => ?_)
      clear hK K
      simp only [Act.put, List.setIfInBounds_toArray]
      refine wpAnyH_ready (rs := [14]) (by kernel_rfl) (by simp) (AllReadyH.cons rfl (fun K hK => ?_) AllReadyH.nil)
      go_simp
      go_at_call 42
      refine (KS.out _ _ (x8w.trans he) h1).mono ?_; rintro e W9 ⟨V9, rfl, hf9, x9, -⟩
      go_wp2_with fail
      have he := he.trans x9
      refine hK.out _ _ (Keep.of_ext he) (fun hs => ?_)
      clear hK K
      refine wpAnyH_takeD (i := 15) (d := 137) (v := .tuple #[.agg (filC V9 (swF F Q.ad 1 (fun _ => mskQ (wrdL F false Q.ad 0) Q.an Q.oo))), .int .i64 (swE F Q.ad 1)]) rfl rfl (by kernel_rfl) (by kernel_rfl) (by kernel_rfl) (fun _ _ _ h => h) (Or.inl ⟨by rfl, fun W hW => by go_simp⟩) hs ?_
      simp only [Act.put, List.setIfInBounds_toArray, List.set_cons_succ, List.set_cons_zero]
      refine wpAnyH_takeD (i := 16) (d := 153) (v := .agg (filC V9 (swF F Q.ad 1 (fun _ => mskQ (wrdL F false Q.ad 0) Q.an Q.oo)))) rfl rfl (by kernel_rfl) (by kernel_rfl) (by kernel_rfl) (fun _ _ _ h => h) (Or.inl ⟨by rfl, fun W hW => by go_simp⟩) hs ?_
      simp only [Act.put, List.setIfInBounds_toArray, List.set_cons_succ, List.set_cons_zero]
      refine wpAnyH_takeD (i := 17) (d := 154) (v := .int .i64 (swE F Q.ad 1)) rfl rfl (by kernel_rfl) (by kernel_rfl) (by kernel_rfl) (fun _ _ _ h => h) (Or.inl ⟨by rfl, fun W hW => by go_simp⟩) hs ?_
      simp only [Act.put, List.setIfInBounds_toArray, List.set_cons_succ, List.set_cons_zero]
      refine wpAnyH_ready (rs := [18]) (by kernel_rfl) (by simp) (AllReadyH.cons rfl (fun K hK => ?_) AllReadyH.nil)
      refine step_store_row rfl 29 (.tmp 2) (.tmp 153) rfl w.heap.size _ rfl rfl 29 _ (he.block D2.b2) (by kernel_rfl) rfl (by simp [filC, Value.oneCell']) rfl ?_
      refine hK.out _ _ ((Keep.of_ext he).trans (keep_row _ _ _) (fun i hi => .inl hi)) (fun hs => ?_)
      clear hK K
      simp only [Act.put]
      refine wpAnyH_done (by kernel_rfl) ?_ _
      have D3 := (D2.ext he).setF hf9
      obtain ⟨w9, hw9⟩ : ∃ W, W = W9.setRow w.heap.size (filC V9 (swF F Q.ad 1 (fun _ => mskQ (wrdL F false Q.ad 0) Q.an Q.oo))) := ⟨_, rfl⟩
      rw [← hw9] at D3 ⊢
      clear hw9 D2 hf9 x9 he h1 hs
      go_upto_region 32 with fail
      have a0 : w9.cell? ⟨w.heap.size + 1, 1, none⟩ = some (.int .i64 Q.ad) := cell_of_heap D3.b3 rfl
      have p0 : w9.cell? ⟨w.heap.size + 1 + 1 + 1 + 1, 2, none⟩ = some (.int .i64 0) := cell_of_heap D3.b6 rfl
      have q0 : w9.frozen? ⟨w.heap.size + 1 + 1 + 1 + 1, 2, none⟩ = false := frozen0 D3.b6
      have Df0 := D3.setT (X' := zeroQV) (T' := { zeroT with k := Q.k, ad := Q.ad }) 2 (.int .i64 Q.ad) rfl (telnone_at _ rfl rfl)
      go_upto_region 33 with fail
      obtain ⟨wf0, hwf0⟩ : ∃ W, W = w9.setCell ⟨w.heap.size + 1 + 1 + 1 + 1, 2, none⟩ (.int .i64 Q.ad) := ⟨_, rfl⟩
      rw [← hwf0] at Df0 ⊢
      clear hwf0 a0 p0 q0 D3
      have a1 : wf0.cell? ⟨w.heap.size + 1, 4, none⟩ = some (.int .i64 Q.an) := cell_of_heap Df0.b3 rfl
      have p1 : wf0.cell? ⟨w.heap.size + 1 + 1 + 1 + 1, 5, none⟩ = some (.int .i64 0) := cell_of_heap Df0.b6 rfl
      have q1 : wf0.frozen? ⟨w.heap.size + 1 + 1 + 1 + 1, 5, none⟩ = false := frozen0 Df0.b6
      have Df1 := Df0.setT (X' := zeroQV) (T' := { zeroT with k := Q.k, ad := Q.ad, an := Q.an }) 5 (.int .i64 Q.an) rfl (telnone_at _ rfl rfl)
      go_upto_region 34 with fail
      obtain ⟨wf1, hwf1⟩ : ∃ W, W = wf0.setCell ⟨w.heap.size + 1 + 1 + 1 + 1, 5, none⟩ (.int .i64 Q.an) := ⟨_, rfl⟩
      rw [← hwf1] at Df1 ⊢
      clear hwf1 a1 p1 q1 Df0
      have a2 : wf1.cell? ⟨w.heap.size + 1, 5, none⟩ = some (.int .i64 Q.oo) := cell_of_heap Df1.b3 rfl
      have p2 : wf1.cell? ⟨w.heap.size + 1 + 1 + 1 + 1, 6, none⟩ = some (.int .i64 0) := cell_of_heap Df1.b6 rfl
      have q2 : wf1.frozen? ⟨w.heap.size + 1 + 1 + 1 + 1, 6, none⟩ = false := frozen0 Df1.b6
      have Df2 := Df1.setT (X' := zeroQV) (T' := { zeroT with k := Q.k, ad := Q.ad, an := Q.an, oo := Q.oo }) 6 (.int .i64 Q.oo) rfl (telnone_at _ rfl rfl)
      go_upto_region 38 with fail
      obtain ⟨wf2, hwf2⟩ : ∃ W, W = wf1.setCell ⟨w.heap.size + 1 + 1 + 1 + 1, 6, none⟩ (.int .i64 Q.oo) := ⟨_, rfl⟩
      rw [← hwf2] at Df2 ⊢
      clear hwf2 a2 p2 q2 Df1
      go_wp2_with fail
      have hd5 : Ext wf2 wf2.drew := Ext.drew _
      have HL := Lib.hid (fun W (hx : Keep (fun i => i = w.heap.size + 1 + 1 ∨ i = w.heap.size + 1 + 1 + 1) wf2 W) => (⟨(hx.block _ (heap_lt Df2.b2) (by omega)).trans Df2.b2, (hx.block _ (heap_lt Df2.b6) (by omega)).trans Df2.b6⟩ : W.heap[w.heap.size]? = some (.cells (filC V9 (swF F Q.ad 1 (fun _ => mskQ (wrdL F false Q.ad 0) Q.an Q.oo))) 29 (0, 0)) ∧ W.heap[w.heap.size + 1 + 1 + 1 + 1]? = some (.cells (telC zeroQV { zeroT with k := Q.k, ad := Q.ad, an := Q.an, oo := Q.oo }) 37 (0, 0))))
      have hs : Keep (fun i => i = w.heap.size + 1 + 1 ∨ i = w.heap.size + 1 + 1 + 1) wf2 wf2.drew := Keep.of_ext hd5
      refine wp_region_held_drew (S := fun W => Keep (fun i => i = w.heap.size + 1 + 1 ∨ i = w.heap.size + 1 + 1 + 1) wf2 W) (by kernel_rfl) hs (fun _ => ?_)
      refine wpAnyH_takeD (i := 0) (d := 185) rfl rfl (by kernel_rfl) (by kernel_rfl) (by kernel_rfl) (fun _ _ _ h => h) (yieldsIf_load_row (by rfl) 29 (.tmp 2) rfl (w.heap.size) rfl 29 _ (0, 0) _ (fun w' hw' => (HL.out _ hw').1) Tryz.underlying29 rfl (by kernel_rfl)) hs ?_
      simp only [Act.put, List.setIfInBounds_toArray, List.set_cons_succ, List.set_cons_zero]
      refine wpAnyH_takeD (i := 1) (d := 186) rfl rfl (by kernel_rfl) (by kernel_rfl) (by kernel_rfl) (fun _ _ _ h => h) (yieldsIf_load_row (by rfl) 37 (.tmp 6) rfl (w.heap.size + 1 + 1 + 1 + 1) rfl 37 _ (0, 0) _ (fun w' hw' => (HL.out _ hw').2) Tryz.underlying37 rfl (by kernel_rfl)) hs ?_
      simp only [Act.put, List.setIfInBounds_toArray, List.set_cons_succ, List.set_cons_zero]
      refine wpAnyH_ready (rs := [2]) (by kernel_rfl) (by simp) (AllReadyH.cons rfl (fun K hK => ?_) AllReadyH.nil)
      refine step_store_row rfl 29 (.tmp 4) (.tmp 185) rfl (w.heap.size + 1 + 1) _ rfl rfl 29 _ (hd5.block Df2.b4) (by kernel_rfl) rfl (by simp [filC, Value.oneCell']) rfl ?_
      refine hK.out _ _ ((Keep.of_ext hd5).trans (keep_row _ _ _) (fun i hi => .inl (.inl hi))) (fun hs => ?_)
      clear hK K
      simp only [Act.put]
      refine wpAnyH_ready (rs := [3]) (by kernel_rfl) (by simp) (AllReadyH.cons rfl (fun K hK => ?_) AllReadyH.nil)
      refine step_store_row rfl 37 (.tmp 5) (.tmp 186) rfl (w.heap.size + 1 + 1 + 1) _ rfl rfl 37 _ ((setRow_other _ _ _ _ (by omega)).trans (hd5.block Df2.b5)) (by kernel_rfl) rfl (by simp [telC, Value.oneCell']) rfl ?_
      refine hK.out _ _ (hs.trans (keep_row _ _ _) (fun i hi => .inl (.inr hi))) (fun hs => ?_)
      clear hK K
      simp only [Act.put]
      refine wpAnyH_done (by kernel_rfl) ?_ _
      go_wp2_with fail
      have DE := Df2.ext hd5
      obtain ⟨q1, q2, q3, q4, q5⟩ := do_told DE
      refine bodyPost_ret (results_rows _ _ (w.heap.size + 1 + 1) (w.heap.size + 1 + 1 + 1) 29 37 _ _ (0, 0) (0, 0) _ _ rfl rfl q4 Tryz.underlying29 rfl (by kernel_rfl) rfl q5 Tryz.underlying37 rfl (by kernel_rfl)) rfl ?_
      unfold Do17P
      rw [HD.out.1, HD.out.2]
      exact ⟨V9, zeroQV, rfl, q1, q2, q3⟩

theorem rdo17_any (V : FilV) (F : Fil) (U : QstV) (Q : Qst) (w : World) (hF : FilAt w V F) (hQ : QstAt w U Q) (hW : QstW Q) (hFW : FilW F) (hq : rightQ Q = true) (hr : rightB F = true) : Calls Tryz.prog 19 #[.agg (filC V F), .agg (qstC U Q)] w (Do17P F Q w) := by
  by_cases h0 : datE F Q = 0
  · rcases (ask_facts hq).kn with h | h | h | h | h | h | h | h | h | h
    · exact rdo17_1 V F U Q w hF hQ hW hFW hq hr h0 h
    · exact rdo17_2 V F U Q w hF hQ hW hFW hq hr h0 h
    · exact rdo17_3 V F U Q w hF hQ hW hFW hq hr h0 h
    · exact rdo17_4 V F U Q w hF hQ hW hFW hq hr h0 h
    · exact rdo17_5 V F U Q w hF hQ hW hFW hq hr h0 h
    · exact rdo17_6 V F U Q w hF hQ hW hFW hq hr h0 h
    · exact rdo17_15 V F U Q w hF hQ hW hFW hq hr h0 h
    · exact rdo17_16 V F U Q w hF hQ hW hFW hq hr h0 h
    · exact rdo17_22 V F U Q w hF hQ hW hFW hq hr h0 h
    · exact rdo17_23 V F U Q w hF hQ hW hFW hq hr h0 h
  · exact rdo17_no V F U Q w hF hQ hW hFW hq hr h0
end Go.Proofs.YtlafnobjfajamaaGreat
