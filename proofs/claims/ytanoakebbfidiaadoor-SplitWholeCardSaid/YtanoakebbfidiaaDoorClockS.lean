/-
  CONTRACTS: bilgeref05.Of.
-/
import Derived.Test.YtanoakebbfidiaaDoorClockR
import Derived.Test.YtanoakebbfidiaaDoorStructs
import Derived.Laws.CopyOwn
namespace Go.Proofs.YtanoakebbfidiaaDoor
open Go.RowKit

/-- What is told of a line, and whether. -/
def ofRes (b t u : Int) (yes no : Value) : Array Value := if CkOk b t u then #[.agg #[.int .i64 (ckC b t), .int .i64 (ckC b t + ckS b t), .int .i64 (ckC b t + ckL b t), .int .i64 u], yes] else #[.agg #[.int .i64 0, .int .i64 0, .int .i64 0, .int .i64 0], no]
theorem ofRes_no {b t u : Int} (yes no : Value) (h : ¬ CkOk b t u) : ofRes b t u yes no = #[.agg #[.int .i64 0, .int .i64 0, .int .i64 0, .int .i64 0], no] := if_neg h
theorem ofRes_yes {b t u : Int} (yes no : Value) (h : CkOk b t u) : ofRes b t u yes no = #[.agg #[.int .i64 (ckC b t), .int .i64 (ckC b t + ckS b t), .int .i64 (ckC b t + ckL b t), .int .i64 u], yes] := if_pos h
/-- The first of the six that is not so. -/
theorem not_in {b t u : Int} (h : ¬ CkIn b t u) : b < 1 ∨ (1 ≤ b ∧ 1000000 < b) ∨ (1 ≤ b ∧ b ≤ 1000000 ∧ t < 1) ∨ (1 ≤ b ∧ b ≤ 1000000 ∧ 1 ≤ t ∧ 1000000000 < t) ∨ (1 ≤ b ∧ b ≤ 1000000 ∧ 1 ≤ t ∧ t ≤ 1000000000 ∧ u < 0) ∨ (1 ≤ b ∧ b ≤ 1000000 ∧ 1 ≤ t ∧ t ≤ 1000000000 ∧ 0 ≤ u ∧ 16777216 < u) := by
  unfold CkIn at h; omega
end Go.Proofs.YtanoakebbfidiaaDoor
