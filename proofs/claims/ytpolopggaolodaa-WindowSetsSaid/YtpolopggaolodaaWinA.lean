/-
  CONTRACTS: package window (layer 12).
-/
import Derived.Test.YtpolopggaolodaaChecked
import Derived.Test.YtpolopggaolodaaWinMath
import Derived.Test.YtpolopggaolodaaStructs
import Derived.Test.YtpolopggaolodaaLater
import Derived.Laws.StructEq
import Derived.Laws.Tables
import Derived.Lib.Hide
namespace Go.Proofs.Ytpolopggaolodaa
open Go.RowKit
set_option linter.unusedVariables false

/-- A window as its two cells. -/
def winC (f c : Int) : Array Value := #[.int .i64 f, .int .i64 c]
set_option maxHeartbeats 1000000 in
theorem wright_any (f c : Int) (w : World) : Calls Try.prog 8 #[.agg #[.int .i64 f, .int .i64 c]] w fun e w' => e = .returned (.bool (rgtB f c)) ∧ Ext w w' := by
  have H := Lib.hid (rgtB_iff f c)
  generalize rgtB f c = B at H ⊢
  go_enter Try.func8, Try.ntmps8
  go_wp2
  all_goals
    go_ret
    first
      | exact ⟨ret_b (b_false H.out (by omega)), Ext.alloc _ _⟩
      | exact ⟨ret_b (b_dec H.out (by omega)), Ext.alloc _ _⟩
theorem wright_v {f c : Int} {B : Bool} (h : rgtB f c = B) (w : World) : Calls Try.prog 8 #[.agg #[.int .i64 f, .int .i64 c]] w fun e w' => e = .returned (.bool B) ∧ Ext w w' := h ▸ wright_any f c w
set_option maxHeartbeats 1000000 in
theorem whas_any (f c x : Int) (w : World) : Calls Try.prog 10 #[.agg #[.int .i64 f, .int .i64 c], .int .i64 x] w fun e w' => e = .returned (.bool (hasB f c x)) ∧ Ext w w' := by
  have H := Lib.hid (hasB_iff f c x)
  generalize hasB f c x = B at H ⊢
  have e0 := Ext.alloc w (.cells #[.int .i64 f, .int .i64 c] 23)
  cases hr : rgtB f c with
  | false =>
    have h1 := (rgtB_no f c).1 hr
    have HR := Lib.hid hr
    have HN := Lib.hid h1
    clear hr h1
    go_enter Try.func10, Try.ntmps10
    go_wp2_with fail
    refine (wright_v HR.out _).mono ?_; rintro e w1 ⟨rfl, x1⟩
    have c0 := x1.made 0 _ rfl
    have c1 := x1.made 1 _ rfl
    have x2 := e0.trans x1
    go_wp2
    go_ret
    exact ⟨ret_b (b_false H.out (by have := HN.out; omega)), x2⟩
  | true =>
    obtain ⟨h1, h2, h3, h4, h5⟩ := (rgtB_iff f c).1 hr
    have HR := Lib.hid hr
    clear hr
    go_enter Try.func10, Try.ntmps10
    go_wp2_with fail
    refine (wright_v HR.out _).mono ?_; rintro e w1 ⟨rfl, x1⟩
    have c0 := x1.made 0 _ rfl
    have c1 := x1.made 1 _ rfl
    have x2 := e0.trans x1
    clear e0 x1
    go_wp2
    all_goals
      go_ret
      first
        | exact ⟨ret_b (b_false H.out (by omega)), x2⟩
        | exact ⟨ret_b (b_dec H.out (by omega)), x2⟩
theorem whas_v {f c x : Int} {B : Bool} (h : hasB f c x = B) (w : World) : Calls Try.prog 10 #[.agg #[.int .i64 f, .int .i64 c], .int .i64 x] w fun e w' => e = .returned (.bool B) ∧ Ext w w' := h ▸ whas_any f c x w
/-- 'Place': at less From, where it is one. -/
def plcI (f c x : Int) : Int := if hasB f c x = true then x - f else 0
set_option maxHeartbeats 1000000 in
theorem wplace_any (f c x : Int) (w : World) : Calls Try.prog 6 #[.agg #[.int .i64 f, .int .i64 c], .int .i64 x] w fun e w' => e = .returned (.tuple #[.int .i64 (plcI f c x), .bool (hasB f c x)]) ∧ Ext w w' := by
  have e0 := Ext.alloc w (.cells #[.int .i64 f, .int .i64 c] 23)
  cases hr : hasB f c x with
  | false =>
    have hp : plcI f c x = 0 := by unfold plcI; rw [if_neg (by rw [hr]; decide)]
    have HP := Lib.hid hp
    have HR := Lib.hid hr
    clear hr hp
    go_enter Try.func6, Try.ntmps6
    go_wp2_with fail
    refine (whas_v HR.out _).mono ?_; rintro e w1 ⟨rfl, x1⟩
    have x2 := e0.trans x1
    go_wp2
    go_ret2
    exact ⟨by rw [HP.out]; rfl, x2⟩
  | true =>
    have hp : plcI f c x = x - f := by unfold plcI; rw [if_pos hr]
    obtain ⟨h1, h2, h3, h4, h5, h6, h7⟩ := (hasB_iff f c x).1 hr
    have HP := Lib.hid hp
    have HR := Lib.hid hr
    clear hr hp
    go_enter Try.func6, Try.ntmps6
    go_wp2_with fail
    refine (whas_v HR.out _).mono ?_; rintro e w1 ⟨rfl, x1⟩
    have c0 := x1.made 0 _ rfl
    have c1 := x1.made 1 _ rfl
    have x2 := e0.trans x1
    clear e0 x1
    go_wp2
    go_ret2
    exact ⟨by rw [HP.out]; rfl, x2⟩
end Go.Proofs.Ytpolopggaolodaa
