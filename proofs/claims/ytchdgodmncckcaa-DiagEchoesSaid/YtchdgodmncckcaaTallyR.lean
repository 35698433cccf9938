/-
  CONTRACTS: bilgeref08.Add.
-/
import Derived.Test.YtchdgodmncckcaaRows
import Derived.Test.YtchdgodmncckcaaKeep
import Derived.Test.YtchdgodmncckcaaLater
import Derived.Test.YtchdgodmncckcaaStructs
import Derived.Laws.CopyOwn
import Derived.WalkLawsBesides
import Derived.WalkSpells
import Derived.Deep.QuietTactic
import Derived.BigQuiet
import Derived.RegionTactic
import Derived.Outline
import Derived.Lib.Hide
import Derived.Handy
import Derived.IntWalk
namespace Go.Proofs.Ytchdgodmncckcaa
open Go.RowKit

/-- Eight counters, as an array's cells. -/
def Eight (cs : Array Value) (f : Nat → Int) : Prop := cs.size = 8 ∧ ∀ i, i < 8 → cs[i]? = some (.int .u16 (f i))
def Small8 (f : Nat → Int) : Prop := ∀ i, i < 8 → 0 ≤ f i ∧ f i < 65536
theorem Eight.set {cs : Array Value} {f : Nat → Int} (h : Eight cs f) (j : Nat) (v : Int) : Eight (cs.setIfInBounds j (.int .u16 v)) (upd f j v) := by
  refine ⟨by simpa using h.1, fun i hi => ?_⟩
  by_cases e : i = j
  · subst e; rw [upd_same]; simp [h.1, hi]
  · rw [upd_other _ _ _ _ e, Array.getElem?_setIfInBounds_ne (Ne.symm e)]; exact h.2 i hi
theorem Eight.one {cs : Array Value} {f : Nat → Int} (h : Eight cs f) : cs.all (·.oneCell') = true := by
  rw [Array.all_eq_true]
  intro i hi
  have h8 : i < 8 := by rw [← h.1]; exact hi
  have := h.2 i h8
  rw [Array.getElem?_eq_getElem hi] at this
  rw [Option.some.inj this]; rfl
theorem set_block {w : World} {B : Nat} {cs : Array Value} {t : TypeId} (h : w.heap[B]? = some (.cells cs t (0, 0))) (j : Nat) (v : Value) : (w.setCell ⟨B, j, none⟩ v).heap[B]? = some (.cells (cs.setIfInBounds j v) t (0, 0)) := by
  simp [World.setCell, Array.getElem?_modify, h]
end Go.Proofs.Ytchdgodmncckcaa
