/-
  CONTRACTS: bilgeref05.
-/
import Derived.Test.YtdegndoggmlhhaaRows
import Derived.Test.YtdegndoggmlhhaaBools
import Derived.Test.YtdegndoggmlhhaaLater
import Derived.Test.YtdegndoggmlhhaaClockMath
import Derived.WalkLawsBesides
import Derived.WalkSpells
import Derived.Deep.QuietTactic
import Derived.BigQuiet
import Derived.RegionTactic
import Derived.Outline
import Derived.Lib.Hide
import Derived.Handy
import Derived.IntWalk
namespace Go.Proofs.Ytdegndoggmlhhaa
open Go.RowKit

theorem rclamp_any (z : Int) (w : World) : Calls Try.prog 13 #[.int .i64 z] w fun e w' => e = .returned (.int .i64 (clampI z)) ∧ w = w' := by
  by_cases h0 : z < 0
  · rw [clampI_neg h0]
    go_enter Try.func13, Try.ntmps13
    go_wp2
    go_ret
    exact ⟨rfl, rfl⟩
  · by_cases h1 : 1099511627776 < z
    · rw [clampI_big h1]
      go_enter Try.func13, Try.ntmps13
      go_wp2
      go_ret
      exact ⟨rfl, rfl⟩
    · rw [clampI_in (by omega) (by omega)]
      go_enter Try.func13, Try.ntmps13
      go_wp2
      go_ret
      exact ⟨rfl, rfl⟩
theorem radd_any (a d : Int) (w : World) : Calls Try.prog 15 #[.int .i64 a, .int .i64 d] w fun e w' => e = .returned (.int .i64 (addI a d)) ∧ w = w' := by
  have h0 := clampI_lo a; have h1 := clampI_hi a; have h2 := clampI_lo d; have h3 := clampI_hi d
  have e0 : addI a d = clampI (clampI a + clampI d) := rfl
  generalize hA : clampI a = A at *
  generalize hD : clampI d = D at *
  rw [e0]
  have HA := Lib.hid hA
  have HD := Lib.hid hD
  clear hA hD e0
  go_enter Try.func15, Try.ntmps15
  go_wp2_with fail
  refine (rclamp_any a _).mono ?_; rintro e w' ⟨rfl, rfl⟩
  rw [HA.out]
  go_wp2_with fail
  refine (rclamp_any d _).mono ?_; rintro e w' ⟨rfl, rfl⟩
  rw [HD.out]
  go_wp2_with fail
  refine (rclamp_any (A + D) _).mono ?_; rintro e w' ⟨rfl, rfl⟩
  go_wp2
  go_ret
  exact ⟨rfl, rfl⟩
theorem rsince_any (a d : Int) (w : World) : Calls Try.prog 17 #[.int .i64 a, .int .i64 d] w fun e w' => e = .returned (.int .i64 (sinceI a d)) ∧ w = w' := by
  have h0 := clampI_lo a; have h1 := clampI_hi a; have h2 := clampI_lo d; have h3 := clampI_hi d
  have e0 : sinceI a d = clampI (clampI d - clampI a) := rfl
  generalize hA : clampI a = A at *
  generalize hD : clampI d = D at *
  rw [e0]
  have HA := Lib.hid hA
  have HD := Lib.hid hD
  clear hA hD e0
  go_enter Try.func17, Try.ntmps17
  go_wp2_with fail
  refine (rclamp_any d _).mono ?_; rintro e w' ⟨rfl, rfl⟩
  rw [HD.out]
  go_wp2_with fail
  refine (rclamp_any a _).mono ?_; rintro e w' ⟨rfl, rfl⟩
  rw [HA.out]
  go_wp2_with fail
  refine (rclamp_any (D - A) _).mono ?_; rintro e w' ⟨rfl, rfl⟩
  go_wp2
  go_ret
  exact ⟨rfl, rfl⟩
set_option maxHeartbeats 1000000 in
theorem rright_any (c s l u : Int) (w : World) : Calls Try.prog 11 #[.agg #[.int .i64 c, .int .i64 s, .int .i64 l, .int .i64 u]] w fun e w' => e = .returned (.bool (rightB c s l u)) ∧ Ext w w' := by
  have H := Lib.hid (rightB_iff c s l u)
  generalize rightB c s l u = B at H ⊢
  go_enter Try.func11, Try.ntmps11
  go_wp2
  all_goals
    go_ret
    first
      | exact ⟨ret_b (b_false H.out (by omega)), Ext.alloc _ _⟩
      | exact ⟨ret_b (b_dec H.out (by omega)), Ext.alloc _ _⟩
set_option maxHeartbeats 1000000 in
theorem rspan_any (c s l u n : Int) (w : World) : Calls Try.prog 19 #[.agg #[.int .i64 c, .int .i64 s, .int .i64 l, .int .i64 u], .int .i64 n] w fun e w' => e = .returned (.int .i64 (spanI c s l u n)) ∧ Ext w w' := by
  by_cases h : rightB c s l u = true
  · have hp := (rightB_iff c s l u).1 h
    have hc : 1 ≤ c := by omega
    have hc2 : c ≤ 16777216 := by omega
    have HR := Lib.hid h
    by_cases h1 : 1 ≤ n
    · by_cases h2 : 1099511627776 < n
      · have hv : spanI c s l u n = 1099511627776 := by
          unfold spanI; rw [if_pos ⟨h, h1⟩, if_pos]
          have : 1099511627776 / c ≤ 1099511627776 := Int.ediv_le_self _ (by omega)
          omega
        rw [hv]
        clear h hv hp
        go_enter Try.func19, Try.ntmps19
        go_wp2_with fail
        refine (rright_any c s l u _).mono ?_; rintro e w1 ⟨rfl, x1⟩
        rw [HR.out]
        go_wp2
        go_ret
        exact ⟨rfl, (Ext.alloc _ _).trans x1⟩
      · obtain ⟨q, hq⟩ : ∃ q, q = 1099511627776 / c := ⟨_, rfl⟩
        have hq' : (1099511627776 : Int) / c = q := hq.symm
        have q0 : 0 ≤ q := by rw [hq]; exact Int.ediv_nonneg (by decide) (by omega)
        by_cases h3 : q < n
        · have hv : spanI c s l u n = 1099511627776 := by unfold spanI; rw [if_pos ⟨h, h1⟩, if_pos (by omega)]
          rw [hv]
          clear h hv hq hp
          go_enter Try.func19, Try.ntmps19
          go_wp2_with fail
          refine (rright_any c s l u _).mono ?_; rintro e w1 ⟨rfl, x1⟩
          rw [HR.out]
          have x2 := (Ext.alloc w _).trans x1
          have c0 := x1.made 0 _ rfl
          go_wp2
          go_ret
          exact ⟨rfl, x2⟩
        · have hv : spanI c s l u n = n * c := by unfold spanI; rw [if_pos ⟨h, h1⟩, if_neg (by omega)]
          have hm1 : n * c ≤ 1099511627776 := by
            have a1 := Int.mul_le_mul_of_nonneg_right (show n ≤ q by omega) (show 0 ≤ c by omega)
            have a2 := Int.ediv_mul_le 1099511627776 (show c ≠ 0 by omega)
            rw [hq'] at a2
            omega
          have hm0 : 0 ≤ n * c := Int.mul_nonneg (by omega) (by omega)
          rw [hv]
          clear h hv hq hp
          go_enter Try.func19, Try.ntmps19
          go_wp2_with fail
          refine (rright_any c s l u _).mono ?_; rintro e w1 ⟨rfl, x1⟩
          rw [HR.out]
          have x2 := (Ext.alloc w _).trans x1
          have c0 := x1.made 0 _ rfl
          go_wp2
          go_ret
          exact ⟨rfl, x2⟩
    · have hv : spanI c s l u n = 0 := by unfold spanI; rw [if_neg (fun x => h1 x.2)]
      rw [hv]
      clear h hv hp
      go_enter Try.func19, Try.ntmps19
      go_wp2_with fail
      refine (rright_any c s l u _).mono ?_; rintro e w1 ⟨rfl, x1⟩
      rw [HR.out]
      go_wp2
      go_ret
      exact ⟨rfl, (Ext.alloc _ _).trans x1⟩
  · have hv : spanI c s l u n = 0 := by unfold spanI; rw [if_neg (fun x => h x.1)]
    have HR : Hid (rightB c s l u = false) := Lib.hid (by simpa using h)
    rw [hv]
    clear h hv
    go_enter Try.func19, Try.ntmps19
    go_wp2_with fail
    refine (rright_any c s l u _).mono ?_; rintro e w1 ⟨rfl, x1⟩
    rw [HR.out]
    go_wp2
    go_ret
    exact ⟨rfl, (Ext.alloc _ _).trans x1⟩

theorem rup_any (a b : Int) (w : World) (ha : 0 ≤ a) (ha1 : a ≤ 10000000000000) (hb : 0 < b) (hb1 : b ≤ 10000000) : Calls Try.prog 23 #[.int .i64 a, .int .i64 b] w fun e w' => e = .returned (.int .i64 (upI a b)) ∧ w = w' := by
  have e1 := Int.tdiv_eq_ediv_of_nonneg (b := b) ha
  have e2 := Int.tmod_eq_emod_of_nonneg (b := b) ha
  have q0 := Int.ediv_nonneg ha (show 0 ≤ b by omega)
  have q1 : a / b ≤ a := Int.ediv_le_self _ ha
  have r0 := Int.emod_nonneg a (show b ≠ 0 by omega)
  have r1 := Int.emod_lt_of_pos a hb
  by_cases h : 0 < a % b
  · have hv : upI a b = a / b + 1 := if_pos h
    rw [hv]
    clear hv
    go_enter Try.func23, Try.ntmps23
    go_wp2
    go_ret
    exact ⟨rfl, rfl⟩
  · have hv : upI a b = a / b := if_neg h
    rw [hv]
    clear hv
    go_enter Try.func23, Try.ntmps23
    go_wp2
    go_ret
    exact ⟨rfl, rfl⟩
end Go.Proofs.Ytdegndoggmlhhaa
