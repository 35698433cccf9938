/-
  LAYER 16: package tell's contracts, as definitions over the function's number: what the laws take.
-/
import Derived.Test.YtejiafihiielgaaTelN
namespace Go.Proofs.Ytejiafihiielgaa
open Go.RowKit
set_option linter.unusedVariables false

def TSameC (F : FuncId) : Prop := ∀ (V : QstV) (T : Tel) (U : QstV) (S : Tel) (w : World), TelAt w V T → TelAt w U S → T.nb ≤ 1000000 → T.nr ≤ 1000000 → S.nb ≤ 1000000 → S.nr ≤ 1000000 →
    Calls Try.prog F #[.agg (telC V T), .agg (telC U S)] w fun e w' => e = .returned (.bool (sameT T S)) ∧ Ext w w'
def TRightC (F : FuncId) : Prop := ∀ (V : QstV) (Q : Qst) (U : QstV) (T : Tel) (w : World), QstAt w V Q → QstW Q → Q.nb ≤ 1000000 → Q.nr ≤ 1000000 → TelAt w U T → T.nb ≤ 1000000 → T.nr ≤ 1000000 →
    Calls Try.prog F #[.agg (qstC V Q), .agg (telC U T)] w fun e w' => e = .returned (.bool (rightT Q T)) ∧ Ext w w'
def TPrintC (F : FuncId) : Prop := ∀ (V : QstV) (Q : Qst) (U : QstV) (T : Tel) (w : World), QstAt w V Q → QstW Q → Q.nb ≤ 1000000 → Q.nr ≤ 1000000 → TelAt w U T → T.nb ≤ 1000000 → T.nr ≤ 1000000 → (∀ i, i < T.nr → 0 ≤ T.R i ∧ T.R i < 65536) →
    Calls Try.prog F #[.agg (qstC V Q), .agg (telC U T)] w fun e w' => ∃ b q, e = .returned (.tuple #[.slice b (tprN Q T) q, .int .i64 (tprE Q T)]) ∧ tprN Q T ≤ q ∧ q ≤ maxLen ∧ HoldsG (Value.int .u8) w' b (tprN Q T) (tsayF T) ∧ Ext w w'
def TParseC (F : FuncId) : Prop := ∀ (V : QstV) (Q : Qst) (a : Option Addr) (n c : Nat) (f : Nat → Int) (w : World), QstAt w V Q → QstW Q → Q.nb ≤ 1000000 → Q.nr ≤ 1000000 → Holds .u8 w a n f → n ≤ 100000 → n ≤ c → c ≤ maxLen → (∀ i, i < n → 0 ≤ f i ∧ f i < 256) →
    Calls Try.prog F #[.agg (qstC V Q), .slice a n c] w fun e w' => ∃ X, e = .returned (.tuple #[.agg (telC X (tpaT Q n f)), .int .i64 (tpaE Q n f)]) ∧ TelAt w' X (tpaT Q n f) ∧ Ext w w'
def refB (k c : Int) : Bool := decide (1 ≤ k ∧ k ≤ 127 ∧ 1 ≤ c ∧ c ≤ 4)
def refF (k c : Int) : Nat → Int := fun i => if i = 0 then k + 128 else c
def TRefC (F : FuncId) : Prop := ∀ (k c : Int) (w : World), Calls Try.prog F #[.int .i64 k, .int .i64 c] w fun e w' => ∃ b q, e = .returned (.tuple #[.slice b (if refB k c = true then 2 else 0) q, .int .i64 (if refB k c = true then 0 else 11)]) ∧ HoldsG (Value.int .u8) w' b (if refB k c = true then 2 else 0) (refF k c) ∧ Ext w w'
theorem tpa_R {Q : Qst} {n : Nat} {f : Nat → Int} (hn : n ≤ 100000) (hf : ∀ i, i < n → 0 ≤ f i ∧ f i < 256) : (tpaT Q n f).nb ≤ 1000000 ∧ (tpaT Q n f).nr ≤ 1000000 ∧ ∀ i, i < (tpaT Q n f).nr → 0 ≤ (tpaT Q n f).R i ∧ (tpaT Q n f).R i < 65536 := by
  unfold tpaT
  split
  · exact tgue_small hn hf
  · exact ⟨Nat.zero_le _, Nat.zero_le _, fun i hi => absurd hi (Nat.not_lt_zero i)⟩
theorem tprE_no {Q : Qst} {T : Tel} (h : rightT Q T = false) : tprE Q T = 11 ∧ tprN Q T = 0 := by unfold tprE tprN; rw [h]; exact ⟨rfl, rfl⟩
theorem tprE_yes {Q : Qst} {T : Tel} (h : rightT Q T = true) : tprE Q T = 0 ∧ tprN Q T = tsayN T := by unfold tprE tprN; rw [h]; exact ⟨rfl, rfl⟩
theorem fewQA_iff' (Q : Qst) (T : Tel) : (fewQA Q && fewQT T) = true ↔ (Q.nb ≤ 2100 ∧ Q.nr ≤ 300) ∧ T.nb ≤ 2100 ∧ T.nr ≤ 300 := by rw [Bool.and_eq_true, fewQA_iff, fewQT_iff]
end Go.Proofs.Ytejiafihiielgaa
