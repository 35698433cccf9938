/-
  CONTRACTS: bilgeref09.one: a segment with a byte more.
-/
import Derived.Test.YtebhalehgpigoaaSegsR
import Derived.Test.YtebhalehgpigoaaAppend
import Derived.Test.YtebhalehgpigoaaStepAppend
import Derived.Test.YtebhalehgpigoaaStructs
import Derived.Test.YtebhalehgpigoaaKeep
import Derived.Deep.RegionLaw
import Derived.Deep.DeepMust
import Derived.Deep.DeepCutAuto
import Derived.Laws.CopyOwn
namespace Go.Proofs.Ytebhalehgpigoaa
open Go.RowKit
set_option linter.unusedVariables false

theorem Try.info8s : (Try.prog.info? 5).map (fun i => (i.zero, i.size, i.bytes)) = some (some (.int .u8 0), 1, 1) := by kernel_rfl
theorem hid_row {w : World} {g : Nat} {cs : Array Value} {t : TypeId} (h : w.heap[g]? = some (.cells cs t (0, 0))) {w' : World} (x : Ext w w') : w'.heap[g]? = some (.cells cs t (0, 0)) := x.block h
/-- A segment with a byte more. -/
def oneS (s : Seg) (b : Int × Int × Bool) : Seg :=
  ⟨if s.n < 256 then s.n + 1 else s.n, if s.n < 256 then upd s.f s.n b.2.1 else s.f, if s.count = 0 then b.1 else s.first, b.1, s.count + 1, s.gap, s.bad || b.2.2⟩
theorem Holds.blocks {k : IntKind} {w w' : World} {a : Option Addr} {n : Nat} {f : Nat → Int} (h : Holds k w a n f) (e : ∀ q o, a = some ⟨q, o, none⟩ → n ≠ 0 → q < w.heap.size → w'.heap[q]? = w.heap[q]?) : Holds k w' a n f := by
  rcases h with h | ⟨b, off, ha, hlt, hc⟩
  · exact .inl h
  · by_cases hn : n = 0
    · exact .inl hn
    · have hb := e b off ha hn hlt
      refine .inr ⟨b, off, ha, ?_, fun i hi => ?_⟩
      · rw [Array.getElem?_eq_getElem hlt] at hb
        exact heap_lt hb
      · rw [← hc i hi]; unfold World.cell?; simp only [hb]
end Go.Proofs.Ytebhalehgpigoaa
