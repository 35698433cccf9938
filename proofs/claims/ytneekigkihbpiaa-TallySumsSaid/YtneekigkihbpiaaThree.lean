/-
  STRUCTS OF THREE INTEGERS.
-/
import Derived.Test.YtneekigkihbpiaaLists
namespace Go.Proofs.Ytneekigkihbpiaa
open Go.RowKit

/-- A struct of three integers. -/
def three (x : Int × Int × Int) : List Value := [.int .i64 x.1, .int .i64 x.2.1, .int .i64 x.2.2]
theorem three_length (x : Int × Int × Int) : (three x).length = 3 := rfl
theorem HoldsL.three_at {w : World} {b off : Nat} {L : List (Int × Int × Int)} (h : HoldsL 3 three w (some ⟨b, off, none⟩) L) (i : Nat) (hi : i < L.length) :
    w.cell? ⟨b, off + i * 3, none⟩ = some (.int .i64 (L[i]).1) ∧ w.cell? ⟨b, off + i * 3 + 1, none⟩ = some (.int .i64 (L[i]).2.1) ∧ w.cell? ⟨b, off + i * 3 + 2, none⟩ = some (.int .i64 (L[i]).2.2) := by
  rcases h with h | ⟨b', off', ha, hlt, hc⟩
  · subst h; simp at hi
  · cases ha
    exact ⟨hc i L[i] (by simp [hi]) 0 _ rfl, hc i L[i] (by simp [hi]) 1 _ rfl, hc i L[i] (by simp [hi]) 2 _ rfl⟩
/-- All that came in may be. -/
def Wf3 (O : List (Int × Int × Int)) : Prop := ∀ x ∈ O, (Lit.int .i64 x.1).wf = true ∧ (Lit.int .i64 x.2.1).wf = true ∧ (Lit.int .i64 x.2.2).wf = true
end Go.Proofs.Ytneekigkihbpiaa
