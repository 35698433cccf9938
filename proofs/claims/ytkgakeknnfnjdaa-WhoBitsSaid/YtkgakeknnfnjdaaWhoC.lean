/-
  LAYER 22: package who's contracts, as one structure.
-/
import Derived.Test.YtkgakeknnfnjdaaWhoR
namespace Go.Proofs.Ytkgakeknnfnjdaa
open Go.RowKit
set_option linter.unusedVariables false

structure WhoC : Prop where
  status : ∀ (V : FilV) (F : Fil) (x : Int) (w : World), FilAt w V F → (Lit.int .i64 x).wf = true → Calls Try.prog 10 #[.agg (filC V F), .int .i64 x] w fun e w' => e = .returned (.int .u8 (stF F x)) ∧ Ext w w'
  report : ∀ (a : Option Addr) (n c : Nat) (f : Nat → Int) (r : Bool) (w : World), Holds .u8 w a n f → n ≤ 1000 → n ≤ c → c ≤ maxLen → Calls Try.prog 8 #[.slice a n c, .bool r] w fun e w' => ∃ b q, e = .returned (.tuple #[.slice b (repK n) q, .int .i64 (repE n)]) ∧ Holds .u8 w' b (repK n) (ofL (repL n f r)) ∧ repK n ≤ q ∧ q ≤ maxLen ∧ Ext w w'
  read : ∀ (a : Option Addr) (n c : Nat) (f : Nat → Int) (w : World), Holds .u8 w a n f → n ≤ 1000 → n ≤ c → c ≤ maxLen → (∀ i, i < n → 0 ≤ f i ∧ f i < 256) → Calls Try.prog 13 #[.slice a n c] w fun e w' => ∃ b q, e = .returned (.tuple #[.slice b (rrN n f) q, .bool (rrR n f), .int .i64 (rrE n f)]) ∧ Holds .u8 w' b (rrN n f) (rrF f) ∧ rrN n f ≤ q ∧ q ≤ maxLen ∧ Ext w w'
theorem repK_le (n : Nat) : repK n ≤ 242 := by unfold repK; split <;> omega
theorem rrN_le (n : Nat) (f : Nat → Int) : rrN n f ≤ 240 := by
  unfold rrN
  split
  · rename_i h
    obtain ⟨_, h2, _⟩ := of_decide_eq_true h
    omega
  · omega
end Go.Proofs.Ytkgakeknnfnjdaa
