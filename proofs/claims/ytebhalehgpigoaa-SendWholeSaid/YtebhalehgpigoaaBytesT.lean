/-
  BYTES IN THEIR TIMES (api.Byte): lists of (time, byte, spoilt); bilgeref09.Right.
-/
import Derived.Test.YtebhalehgpigoaaRows
import Derived.Test.YtebhalehgpigoaaLists
import Derived.Test.YtebhalehgpigoaaLater
import Derived.WalkLawsBesides
import Derived.WalkSpells
import Derived.Deep.QuietTactic
import Derived.BigQuiet
import Derived.RegionTactic
import Derived.Outline
import Derived.Lib.Hide
import Derived.Handy
import Derived.IntWalk
namespace Go.Proofs.Ytebhalehgpigoaa
open Go.RowKit

/-- A byte in its time: when, which, spoilt. -/
def byt (x : Int × Int × Bool) : List Value := [.int .i64 x.1, .int .u8 x.2.1, .bool x.2.2]
theorem byt_length (x : Int × Int × Bool) : (byt x).length = 3 := rfl
theorem HoldsL.byt_at {w : World} {b off : Nat} {L : List (Int × Int × Bool)} (h : HoldsL 3 byt w (some ⟨b, off, none⟩) L) (i : Nat) (hi : i < L.length) :
    w.cell? ⟨b, off + i * 3, none⟩ = some (.int .i64 (L[i]).1) ∧ w.cell? ⟨b, off + i * 3 + 1, none⟩ = some (.int .u8 (L[i]).2.1) ∧ w.cell? ⟨b, off + i * 3 + 2, none⟩ = some (.bool (L[i]).2.2) := by
  rcases h with h | ⟨b', off', ha, hlt, hc⟩
  · subst h; simp at hi
  · cases ha
    exact ⟨hc i L[i] (by simp [hi]) 0 _ rfl, hc i L[i] (by simp [hi]) 1 _ rfl, hc i L[i] (by simp [hi]) 2 _ rfl⟩
/-- All that came in may be. -/
def WfB (O : List (Int × Int × Bool)) : Prop := ∀ x ∈ O, (Lit.int .i64 x.1).wf = true ∧ (Lit.int .u8 x.2.1).wf = true
/-- Do they come one behind the other from f on, each at a time that may be? -/
def risingI : Int → List (Int × Int × Bool) → Bool
  | _, [] => true
  | f, x :: l => decide (f ≤ x.1 ∧ x.1 ≤ 1099511627776) && risingI x.1 l
/-- .. and does f? -/
def rightI (l : List (Int × Int × Bool)) (f : Int) : Bool := decide (0 ≤ f ∧ f ≤ 1099511627776) && risingI f l
theorem risingI_no {f : Int} {x : Int × Int × Bool} {l : List (Int × Int × Bool)} (h : x.1 < f ∨ 1099511627776 < x.1) : risingI f (x :: l) = false := by
  unfold risingI
  rw [decide_eq_false (by omega)]; rfl
theorem risingI_yes {f : Int} {x : Int × Int × Bool} {l : List (Int × Int × Bool)} (h : ¬ x.1 < f) (k : ¬ 1099511627776 < x.1) : risingI f (x :: l) = risingI x.1 l := by
  conv => lhs; unfold risingI
  rw [decide_eq_true (by omega)]; rfl
end Go.Proofs.Ytebhalehgpigoaa
