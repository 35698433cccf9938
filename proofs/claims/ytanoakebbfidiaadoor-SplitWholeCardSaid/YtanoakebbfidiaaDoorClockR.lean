/-
  CONTRACTS: bilgeref05.
-/
import Derived.Test.YtanoakebbfidiaaDoorRows
import Derived.Test.YtanoakebbfidiaaDoorBools
import Derived.Test.YtanoakebbfidiaaDoorLater
import Derived.Test.YtanoakebbfidiaaDoorClockMath
import Derived.WalkLawsBesides
import Derived.WalkSpells
import Derived.Deep.QuietTactic
import Derived.BigQuiet
import Derived.RegionTactic
import Derived.Outline
import Derived.Lib.Hide
import Derived.Handy
import Derived.IntWalk
namespace Go.Proofs.YtanoakebbfidiaaDoor
open Go.RowKit

set_option maxHeartbeats 1000000 in
theorem rright_any (c s l u : Int) (w : World) : Calls Tryd.prog 20 #[.agg #[.int .i64 c, .int .i64 s, .int .i64 l, .int .i64 u]] w fun e w' => e = .returned (.bool (rightB c s l u)) ∧ Ext w w' := by
  have H := Lib.hid (rightB_iff c s l u)
  generalize rightB c s l u = B at H ⊢
  go_enter Tryd.func20, Tryd.ntmps20
  go_wp2
  all_goals
    go_ret
    first
      | exact ⟨ret_b (b_false H.out (by omega)), Ext.alloc _ _⟩
      | exact ⟨ret_b (b_dec H.out (by omega)), Ext.alloc _ _⟩
end Go.Proofs.YtanoakebbfidiaaDoor
