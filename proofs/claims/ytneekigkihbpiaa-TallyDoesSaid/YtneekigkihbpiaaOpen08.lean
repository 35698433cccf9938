/-
  WHAT COMES IN, OPENED: calls of counters.
-/
import Derived.Test.YtneekigkihbpiaaOpenS
import Derived.Test.YtneekigkihbpiaaLaw08B
namespace Go.Proofs.Ytneekigkihbpiaa
open Go.RowKit Go.ChangeShapes Go.WideShapes Go.ChangeAt Go.Joins Go.Deep

theorem ops8_in {H : Type} {enc : TypeId × Value → H} {w : World} {fuel : Nat} {a : Option Addr} {len cap : Nat} {y : DataW H × List MemPlace} (h : DataW.trod enc Try.prog w 0 (fun _ => true) true fuel 22 [.slice a len cap] = some y) (hl : Light Try.prog 22 y.1) :
    ∃ O : List (Int × Int × Int), HoldsL 3 three w a O ∧ O.length = len ∧ len ≤ maxLen ∧ Wf3 O := by
  obtain ⟨V, hV, hle, hr, hf⟩ := rows_in (sz := 3) (B := 24) Try.underlying22 Try.underlying29 (by kernel_rfl) rfl (by kernel_rfl) (by omega) (by kernel_rfl) h hl
  have hn : ∀ i, i < len → ∀ j, j < 3 → V i j = .int .i64 (numOf (V i j)) ∧ (Lit.int .i64 (numOf (V i j))).wf = true := by
    intro i hi j hj
    rcases (show j = 0 ∨ j = 1 ∨ j = 2 by omega) with rfl | rfl | rfl
    · obtain ⟨n, z, e⟩ := hf i hi 0 _ rfl; exact num_in Try.underlying3 e
    · obtain ⟨n, z, e⟩ := hf i hi 1 _ rfl; exact num_in Try.underlying3 e
    · obtain ⟨n, z, e⟩ := hf i hi 2 _ rfl; exact num_in Try.underlying3 e
  refine ⟨((List.range len).map V).map (fun x => (numOf (x 0), numOf (x 1), numOf (x 2))), hV.map _ ?_, by simp, by unfold maxLen; omega, ?_⟩
  · intro x hx
    obtain ⟨i, hi, rfl⟩ := List.mem_map.1 hx
    have hi := List.mem_range.1 hi
    have e0 := (hn i hi 0 (by omega)).1
    have e1 := (hn i hi 1 (by omega)).1
    have e2 := (hn i hi 2 (by omega)).1
    show [V i 0, V i 1, V i 2] = _
    unfold three
    rw [← e0, ← e1, ← e2]
  · intro x hx
    obtain ⟨v, hv, rfl⟩ := List.mem_map.1 hx
    obtain ⟨i, hi, rfl⟩ := List.mem_map.1 hv
    have hi := List.mem_range.1 hi
    exact ⟨(hn i hi 0 (by omega)).2, (hn i hi 1 (by omega)).2, (hn i hi 2 (by omega)).2⟩
end Go.Proofs.Ytneekigkihbpiaa
