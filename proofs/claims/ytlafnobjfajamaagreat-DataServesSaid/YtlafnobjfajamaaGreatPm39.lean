/-
  WHAT COMES IN, OPENED: an ask (api.Ask) by value.
-/
import Derived.Test.YtlafnobjfajamaaGreatPm37
import Derived.Test.YtlafnobjfajamaaGreatPm13
namespace Go.Proofs.YtlafnobjfajamaaGreat
open Go.RowKit Go.ChangeShapes Go.WideShapes Go.ChangeAt Go.Joins Go.Deep
set_option linter.unusedVariables false
set_option maxRecDepth 100000

theorem words15_cell {H : Type} {enc : TypeId × Value → H} {w : World} {n : Nat} {u : Value} {y : DataW H × List MemPlace} (e : DataW.trod enc Tryz.prog w 0 (fun _ => true) true n 27 [u] = some y) (l : Light Tryz.prog 27 y.1) :
    ∃ (a : Option Addr) (m d : Nat) (f : Nat → Int), u = .slice a m d ∧ HoldsG (Value.int .u16) w a m f ∧ m ≤ d ∧ d ≤ maxLen ∧ m ≤ 1000000000000000 ∧ ∀ i, i < m → (Lit.int .u16 (f i)).wf = true := by
  obtain ⟨a, m, d, hc⟩ := Joins.slice_form Tryz.underlying27 e
  rw [hc] at e
  simp only [List.cons.injEq, and_true] at hc
  obtain ⟨f, hh, hle, hz, hw⟩ := row_in (k := .u16) (B := 2) Tryz.underlying27 Tryz.underlying59 (by kernel_rfl) (by kernel_rfl) e l
  exact ⟨a, m, d, f, hc, hh, hle, by unfold maxLen; omega, by omega, hw⟩
end Go.Proofs.YtlafnobjfajamaaGreat
