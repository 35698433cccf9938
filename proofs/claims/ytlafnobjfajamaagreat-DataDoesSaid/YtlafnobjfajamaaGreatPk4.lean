/-
  CONTRACTS: bilgeref12 (layer 12).
  CONTRACTS: bilgeref12 (layer 12): Meets and Cut, place by place.
  CONTRACTS: bilgeref12.Cut (layer 12), place by place.
-/
import Derived.Test.YtlafnobjfajamaaGreatPk3
import Derived.Deep.LoopGhost
import Derived.Deep.DeepCutAuto
import Derived.Deep.DeepMust
namespace Go.Proofs.YtlafnobjfajamaaGreat
open Go.RowKit
set_option linter.unusedVariables false

set_option maxHeartbeats 1000000 in
theorem rwright_any (f c : Int) (w : World) : Calls Tryz.prog 75 #[.agg #[.int .i64 f, .int .i64 c]] w fun e w' => e = .returned (.bool (rgtB f c)) ∧ Ext w w' := by
  have H := Lib.hid (rgtB_iff f c)
  generalize rgtB f c = B at H ⊢
  go_enter Tryz.func75, Tryz.ntmps75
  go_wp2
  all_goals
    go_ret
    first
      | exact ⟨ret_b (b_false H.out (by omega)), Ext.alloc _ _⟩
      | exact ⟨ret_b (b_dec H.out (by omega)), Ext.alloc _ _⟩
theorem rwright_v {f c : Int} {B : Bool} (h : rgtB f c = B) (w : World) : Calls Tryz.prog 75 #[.agg #[.int .i64 f, .int .i64 c]] w fun e w' => e = .returned (.bool B) ∧ Ext w w' := h ▸ rwright_any f c w
set_option maxHeartbeats 1000000 in
theorem rwhas_any (f c x : Int) (w : World) : Calls Tryz.prog 139 #[.agg #[.int .i64 f, .int .i64 c], .int .i64 x] w fun e w' => e = .returned (.bool (hasB f c x)) ∧ Ext w w' := by
  have H := Lib.hid (hasB_iff f c x)
  generalize hasB f c x = B at H ⊢
  have e0 := Ext.alloc w (.cells #[.int .i64 f, .int .i64 c] 23)
  cases hr : rgtB f c with
  | false =>
    have h1 := (rgtB_no f c).1 hr
    have HR := Lib.hid hr
    have HN := Lib.hid h1
    clear hr h1
    go_enter Tryz.func139, Tryz.ntmps139
    go_wp2_with fail
    refine (rwright_v HR.out _).mono ?_; rintro e w1 ⟨rfl, x1⟩
    have c0 := x1.made 0 _ rfl
    have c1 := x1.made 1 _ rfl
    have x2 := e0.trans x1
    go_wp2
    go_ret
    exact ⟨ret_b (b_false H.out (by have := HN.out; omega)), x2⟩
  | true =>
    obtain ⟨h1, h2, h3, h4, h5⟩ := (rgtB_iff f c).1 hr
    have HR := Lib.hid hr
    clear hr
    go_enter Tryz.func139, Tryz.ntmps139
    go_wp2_with fail
    refine (rwright_v HR.out _).mono ?_; rintro e w1 ⟨rfl, x1⟩
    have c0 := x1.made 0 _ rfl
    have c1 := x1.made 1 _ rfl
    have x2 := e0.trans x1
    clear e0 x1
    go_wp2
    all_goals
      go_ret
      first
        | exact ⟨ret_b (b_false H.out (by omega)), x2⟩
        | exact ⟨ret_b (b_dec H.out (by omega)), x2⟩
theorem rwhas_v {f c x : Int} {B : Bool} (h : hasB f c x = B) (w : World) : Calls Tryz.prog 139 #[.agg #[.int .i64 f, .int .i64 c], .int .i64 x] w fun e w' => e = .returned (.bool B) ∧ Ext w w' := h ▸ rwhas_any f c x w
set_option maxHeartbeats 1000000 in
theorem rwholds_any (f c x n : Int) (w : World) : Calls Tryz.prog 119 #[.agg #[.int .i64 f, .int .i64 c], .int .i64 x, .int .i64 n] w fun e w' => e = .returned (.bool (holdB f c x n)) ∧ Ext w w' := by
  have H := Lib.hid (holdB_iff f c x n)
  have e0 := Ext.alloc w (.cells #[.int .i64 f, .int .i64 c] 23)
  by_cases h1 : 1 ≤ n
  · by_cases h2 : n ≤ 65536
    · cases hr : hasB f c x with
      | false =>
        have hv : holdB f c x n = false := by have := (hasB_no f c x).1 hr; rw [holdB_no]; omega
        rw [hv]
        have HR := Lib.hid hr
        clear hr hv H
        go_enter Tryz.func119, Tryz.ntmps119
        go_wp2_with fail
        refine (rwhas_v HR.out _).mono ?_; rintro e w1 ⟨rfl, x1⟩
        have x2 := e0.trans x1
        go_wp2
        go_ret
        exact ⟨rfl, x2⟩
      | true =>
        obtain ⟨k1, k2, k3, k4, k5, k6, k7⟩ := (hasB_iff f c x).1 hr
        have hv : holdB f c x n = hasB f c (x + n - 1) := by apply bool_same; rw [holdB_iff, hasB_iff]; omega
        rw [hv]
        have HR := Lib.hid hr
        clear hr hv H
        go_enter Tryz.func119, Tryz.ntmps119
        go_wp2_with fail
        refine (rwhas_v HR.out _).mono ?_; rintro e w1 ⟨rfl, x1⟩
        have c0 := x1.made 0 _ rfl
        have c1 := x1.made 1 _ rfl
        have x2 := e0.trans x1
        clear e0 x1
        go_wp2_with fail
        refine (rwhas_any f c (x + n - 1) _).mono ?_; rintro e w3 ⟨rfl, x3⟩
        go_wp2
        go_ret
        exact ⟨rfl, x2.trans x3⟩
    · have hv : holdB f c x n = false := by rw [holdB_no]; omega
      rw [hv]
      clear hv H
      go_enter Tryz.func119, Tryz.ntmps119
      go_wp2
      go_ret
      exact ⟨rfl, e0⟩
  · have hv : holdB f c x n = false := by rw [holdB_no]; omega
    rw [hv]
    clear hv H
    go_enter Tryz.func119, Tryz.ntmps119
    go_wp2
    go_ret
    exact ⟨rfl, e0⟩
theorem rwholds_v {f c x n : Int} {B : Bool} (h : holdB f c x n = B) (w : World) : Calls Tryz.prog 119 #[.agg #[.int .i64 f, .int .i64 c], .int .i64 x, .int .i64 n] w fun e w' => e = .returned (.bool B) ∧ Ext w w' := h ▸ rwholds_any f c x n w
end Go.Proofs.YtlafnobjfajamaaGreat
namespace Go.Proofs.YtlafnobjfajamaaGreat
open Go.RowKit
set_option linter.unusedVariables false

set_option maxHeartbeats 2000000 in
theorem rwmeets_any (f c x n : Int) (w : World) (hb : -9223372036854775808 ≤ n ∧ n ≤ 9223372036854775807 ∧ -9223372036854775808 ≤ x ∧ x ≤ 9223372036854775807) :
    Calls Tryz.prog 78 #[.agg #[.int .i64 f, .int .i64 c], .int .i64 x, .int .i64 n] w fun e w' => e = .returned (.bool (meetB f c x n)) ∧ Ext w w' := by
  have e0 := Ext.alloc w (.cells #[.int .i64 f, .int .i64 c] 23)
  obtain ⟨b0, b1, b2, b3⟩ := hb
  cases hr : rgtB f c with
  | false =>
    have hv : meetB f c x n = false := by have := (rgtB_no f c).1 hr; rw [meetB_no]; omega
    rw [hv]
    have HR := Lib.hid hr
    clear hr hv
    go_enter Tryz.func78, Tryz.ntmps78
    go_wp2_with fail
    refine (rwright_v HR.out _).mono ?_; rintro e w1 ⟨rfl, x1⟩
    have x2 := e0.trans x1
    go_wp2
    go_ret
    exact ⟨rfl, x2⟩
  | true =>
    obtain ⟨k1, k2, k3, k4, k5⟩ := (rgtB_iff f c).1 hr
    have HR := Lib.hid hr
    clear hr
    by_cases h1 : n < 1
    · have hv : meetB f c x n = false := by rw [meetB_no]; omega
      rw [hv]
      clear hv
      go_enter Tryz.func78, Tryz.ntmps78
      go_wp2_with fail
      refine (rwright_v HR.out _).mono ?_; rintro e w1 ⟨rfl, x1⟩
      have x2 := e0.trans x1
      go_wp2
      go_ret
      exact ⟨rfl, x2⟩
    · by_cases h2 : 65535 < x
      · have hv : meetB f c x n = false := by rw [meetB_no]; omega
        rw [hv]
        clear hv
        go_enter Tryz.func78, Tryz.ntmps78
        go_wp2_with fail
        refine (rwright_v HR.out _).mono ?_; rintro e w1 ⟨rfl, x1⟩
        have x2 := e0.trans x1
        go_wp2
        go_ret
        exact ⟨rfl, x2⟩
      · have hyes : ∀ q, f ≤ q → q < f + c → x ≤ q → q < x + n → meetB f c x n = true := fun q _ _ _ _ => by rw [meetB_iff]; omega
        have hno : (f + c ≤ f ∨ f + c ≤ x ∨ x + n ≤ f) → meetB f c x n = false := fun _ => by rw [meetB_no]; omega
        generalize meetB f c x n = M at hyes hno ⊢
        have HY := Lib.hid hyes
        have HN := Lib.hid hno
        clear hyes hno
        go_enter Tryz.func78, Tryz.ntmps78
        go_wp2_with fail
        refine (rwright_v HR.out _).mono ?_; rintro e w1 ⟨rfl, x1⟩
        have c0 := x1.made 0 _ rfl
        have c1 := x1.made 1 _ rfl
        have x2 := e0.trans x1
        clear e0 x1
        go_wp2
        go_loop [7] (fun i => ∃ q : Int, f ≤ q ∧ q ≤ f + c ∧ i = .int .i64 q ∧ Hid (q ≤ f ∨ q ≤ x ∨ x + n ≤ f)) (fun i => (f + c - intOf i).toNat)
        case atStart => exact ⟨f, by omega, by omega, rfl, Lib.hid (.inl (by omega))⟩
        case round =>
          obtain ⟨q, hq0, hq1, rfl, hq⟩ := hrel
          by_cases hlt : q < f + c
          · by_cases hx : x ≤ q
            · by_cases hx0 : 0 ≤ x
              · by_cases hin : q - x < n
                · have hv := Lib.hid (HY.out q hq0 hlt hx (by omega))
                  go_wp2
                  go_ret
                  exact ⟨ret_b hv.out.symm, x2⟩
                · go_wp2
                  go_round
                  case rel => exact ⟨q + 1, by omega, by omega, by go_num, Lib.hid (by have := hq.out; omega)⟩
                  case measure => simp [intOf]; omega
              · by_cases hin : q < x + n
                · have hv := Lib.hid (HY.out q hq0 hlt hx (by omega))
                  go_wp2
                  go_ret
                  exact ⟨ret_b hv.out.symm, x2⟩
                · go_wp2
                  go_round
                  case rel => exact ⟨q + 1, by omega, by omega, by go_num, Lib.hid (by have := hq.out; omega)⟩
                  case measure => simp [intOf]; omega
            · go_wp2
              go_round
              case rel => exact ⟨q + 1, by omega, by omega, by go_num, Lib.hid (by have := hq.out; omega)⟩
              case measure => simp [intOf]; omega
          · obtain rfl : q = f + c := by omega
            have hv := Lib.hid (HN.out hq.out)
            go_wp2
            go_ret
            exact ⟨ret_b hv.out.symm, x2⟩
theorem rwmeets_v {f c x n : Int} {B : Bool} (h : meetB f c x n = B) (hb : -9223372036854775808 ≤ n ∧ n ≤ 9223372036854775807 ∧ -9223372036854775808 ≤ x ∧ x ≤ 9223372036854775807) (w : World) : Calls Tryz.prog 78 #[.agg #[.int .i64 f, .int .i64 c], .int .i64 x, .int .i64 n] w fun e w' => e = .returned (.bool B) ∧ Ext w w' := h ▸ rwmeets_any f c x n w hb
end Go.Proofs.YtlafnobjfajamaaGreat
namespace Go.Proofs.YtlafnobjfajamaaGreat
open Go.RowKit
set_option linter.unusedVariables false

end Go.Proofs.YtlafnobjfajamaaGreat
