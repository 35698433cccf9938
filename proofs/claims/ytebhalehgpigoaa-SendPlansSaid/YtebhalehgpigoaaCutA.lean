/-
  CONTRACTS: bilgeref09.All.
-/
import Derived.Test.YtebhalehgpigoaaCutR
import Derived.Test.YtebhalehgpigoaaClock
import Derived.StillTailTactics
import Derived.Deep.LoopGhost
namespace Go.Proofs.Ytebhalehgpigoaa
open Go.RowKit
set_option linter.unusedVariables false

theorem Try.infoSeg : (Try.prog.info? 44).map (fun i => (i.zero, i.size, i.bytes)) = some (some (.agg #[.slice none 0 0, .int .i64 0, .int .i64 0, .int .i64 0, .bool false, .bool false]), 6, 56) := by kernel_rfl
theorem seg_zero : segC none 0 zeroS = #[.slice none 0 0, .int .i64 0, .int .i64 0, .int .i64 0, .bool false, .bool false] := rfl
theorem rising_drop {f : Int} {b : Byt} {l : List Byt} (h : risingI f (b :: l) = true) : f ≤ b.1 ∧ b.1 ≤ 1099511627776 ∧ risingI b.1 l = true := by
  unfold risingI at h
  simp only [Bool.and_eq_true, decide_eq_true_eq] at h
  exact ⟨h.1.1, h.1.2, h.2⟩
end Go.Proofs.Ytebhalehgpigoaa
