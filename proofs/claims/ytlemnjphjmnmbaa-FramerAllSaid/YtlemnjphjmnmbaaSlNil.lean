/-
  A slice held against nil.
-/
import Derived.Test.YtlemnjphjmnmbaaStructs
import Derived.Laws.Externs
namespace Go.Proofs.Ytlemnjphjmnmbaa
open Go.RowKit

theorem run_equalIn_slice_nil {P : Program} (w : World) (d : Nat) (t e : TypeId) (p : Option Addr) (n c : Nat) (h : P.underlying t = some (.slice e)) :
    (Op.equalIn (d + 1) t (.slice p n c) (.slice none 0 0)).run P w = .ok p.isNone w := by
  cases p <;> simp [Op.equalIn, run_underlying h]
theorem run_eql_slice_nil {P : Program} (w : World) (t e : TypeId) (p : Option Addr) (n c : Nat) (h : P.underlying t = some (.slice e)) :
    (binOp .eql t (.slice p n c) (.slice none 0 0)).run P w = .ok (.bool p.isNone) w := by
  simp only [binOp]
  simp [show Op.equal t (.slice p n c) (.slice none 0 0) = Op.equalIn (9999 + 1) t (.slice p n c) (.slice none 0 0) from rfl, run_equalIn_slice_nil w 9999 t e p n c h]
end Go.Proofs.Ytlemnjphjmnmbaa
