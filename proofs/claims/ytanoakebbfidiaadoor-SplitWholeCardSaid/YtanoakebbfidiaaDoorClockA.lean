/-
  CONTRACTS: package clock, the small ones.
-/
import Derived.Test.YtanoakebbfidiaaDoorClockS
namespace Go.Proofs.YtanoakebbfidiaaDoor
open Go.RowKit

theorem kclamped_any (z : Int) (w : World) : Calls Tryd.prog 42 #[.int .i64 z] w fun e w' => e = .returned (.int .i64 (clampI z)) ∧ w = w' := by
  by_cases h0 : z < 0
  · rw [clampI_neg h0]
    go_enter Tryd.func42, Tryd.ntmps42
    go_wp2
    go_ret
    exact ⟨rfl, rfl⟩
  · by_cases h1 : 1099511627776 < z
    · rw [clampI_big h1]
      go_enter Tryd.func42, Tryd.ntmps42
      go_wp2
      go_ret
      exact ⟨rfl, rfl⟩
    · rw [clampI_in (by omega) (by omega)]
      go_enter Tryd.func42, Tryd.ntmps42
      go_wp2
      go_ret
      exact ⟨rfl, rfl⟩
theorem kless_any (a d : Int) (w : World) (ha : 0 ≤ a) (ha1 : a ≤ 1099511627776) (hd : 0 ≤ d) (hd1 : d ≤ 1099511627776) : Calls Tryd.prog 44 #[.int .i64 a, .int .i64 d] w fun e w' => e = .returned (.int .i64 (a - d)) ∧ w = w' := by
  go_enter Tryd.func44, Tryd.ntmps44
  go_wp2
  go_ret
  exact ⟨rfl, rfl⟩
theorem ksince_in (d a : Int) (w : World) : Calls Tryd.prog 43 #[.int .i64 d, .int .i64 a, .func (.func 44) #[] #[]] w fun e w' => e = .returned (.int .i64 (sinceI a d)) ∧ w = w' := by
  have h0 := clampI_lo a; have h1 := clampI_hi a; have h2 := clampI_lo d; have h3 := clampI_hi d
  have e0 : sinceI a d = clampI (clampI d - clampI a) := rfl
  generalize hA : clampI a = A at *
  generalize hD : clampI d = D at *
  rw [e0]
  have HA := Lib.hid hA
  have HD := Lib.hid hD
  clear hA hD e0
  go_enter Tryd.func43, Tryd.ntmps43
  go_wp2_with fail
  refine (kclamped_any d _).mono ?_; rintro e w' ⟨rfl, rfl⟩
  rw [HD.out]
  go_wp2_with fail
  refine (kclamped_any a _).mono ?_; rintro e w' ⟨rfl, rfl⟩
  rw [HA.out]
  go_wp2_with fail
  refine (kless_any D A _ h2 h3 h0 h1).mono ?_; rintro e w' ⟨rfl, rfl⟩
  go_wp2_with fail
  refine (kclamped_any (D - A) _).mono ?_; rintro e w' ⟨rfl, rfl⟩
  go_wp2
  go_ret
  exact ⟨rfl, rfl⟩
theorem kclamp_in (z : Int) (w : World) : Calls Tryd.prog 33 #[.int .i64 z] w fun e w' => e = .returned (.int .i64 (clampI z)) ∧ w = w' := by
  obtain ⟨Z, hZ⟩ : ∃ Z, clampI z = Z := ⟨_, rfl⟩
  rw [hZ]
  have HZ := Lib.hid hZ
  clear hZ
  go_enter Tryd.func33, Tryd.ntmps33
  go_wp2_with fail
  refine (kclamped_any z _).mono ?_; rintro e w' ⟨rfl, rfl⟩
  rw [HZ.out]
  go_wp2
  go_ret
  exact ⟨rfl, rfl⟩
theorem kclamp_any (z : Int) (w : World) (_hz : (Lit.int .i64 z).wf = true) : Calls Tryd.prog 33 #[.int .i64 z] w fun e w' => e = .returned (.int .i64 (clampI z)) ∧ Ext w w' :=
  (kclamp_in z w).mono fun _ _ h => ⟨h.1, Ext.of_eq h.2⟩
theorem ksince_any (a d : Int) (w : World) (_ha : (Lit.int .i64 a).wf = true) (_hd : (Lit.int .i64 d).wf = true) : Calls Tryd.prog 38 #[.int .i64 a, .int .i64 d] w fun e w' => e = .returned (.int .i64 (sinceI a d)) ∧ Ext w w' := by
  go_enter Tryd.func38, Tryd.ntmps38
  go_wp2_with fail
  refine (ksince_in d a _).mono ?_; rintro e w' ⟨rfl, rfl⟩
  go_wp2
  go_ret
  exact ⟨rfl, Ext.refl _⟩
theorem b_two {B : Bool} {P Q R : Prop} [Decidable Q] [Decidable R] (h : B = true ↔ P) (hq : P ↔ Q ∧ R) : (decide Q && decide R) = B := by
  rw [Bool.eq_iff_iff, Bool.and_eq_true, decide_eq_true_iff, decide_eq_true_iff]; exact (h.trans hq).symm
theorem kwithin_any (n a b : Int) (w : World) : Calls Tryd.prog 34 #[.int .i64 n, .int .i64 a, .int .i64 b] w fun e w' => e = .returned (.bool (decide (a ≤ n ∧ n ≤ b))) ∧ w = w' := by
  obtain ⟨B, hB⟩ : ∃ B, B = decide (a ≤ n ∧ n ≤ b) := ⟨_, rfl⟩
  have H : B = true ↔ (a ≤ n ∧ n ≤ b) := by rw [hB, decide_eq_true_iff]
  rw [← hB]
  have H := Lib.hid H
  clear hB
  go_enter Tryd.func34, Tryd.ntmps34
  go_wp2
  all_goals
    go_ret
    first
      | exact ⟨ret_b (b_false H.out (by omega)), rfl⟩
      | exact ⟨ret_b (b_dec H.out (by omega)), rfl⟩
set_option maxHeartbeats 1000000 in
theorem kright0 (c s l u : Int) (w : World) : Calls Tryd.prog 23 #[.agg #[.int .i64 c, .int .i64 s, .int .i64 l, .int .i64 u]] w fun e w' => e = .returned (.bool (rightB c s l u)) ∧ Ext w w' := by
  have H := Lib.hid (rightB_iff c s l u)
  generalize rightB c s l u = B at H ⊢
  go_enter Tryd.func23, Tryd.ntmps23
  go_wp2_with (first | (go_at_call 34; refine (kwithin_any u 0 16777216 _).mono ?_; rintro e w' ⟨rfl, rfl⟩))
  all_goals
    go_ret
    first
      | exact ⟨ret_b (b_false H.out (by omega)), Ext.alloc _ _⟩
      | exact ⟨ret_b (b_dec H.out (by omega)), Ext.alloc _ _⟩
      | exact ⟨ret_b (b_two H.out (by omega)), Ext.alloc _ _⟩
theorem kright_any (c s l u : Int) (w : World) (_hc : (Lit.int .i64 c).wf = true) (_hs : (Lit.int .i64 s).wf = true) (_hl : (Lit.int .i64 l).wf = true) (_hu : (Lit.int .i64 u).wf = true) : Calls Tryd.prog 23 #[.agg #[.int .i64 c, .int .i64 s, .int .i64 l, .int .i64 u]] w fun e w' => e = .returned (.bool (rightB c s l u)) ∧ Ext w w' :=
  kright0 c s l u w
theorem span_le {c s l u n q : Int} (h : rightB c s l u = true) (h1 : 1 ≤ n) (hq : 1099511627776 / c = q) (hn : n ≤ q + 1) : 0 ≤ n * c ∧ n * c ≤ 1099528404992 ∧ clampI (n * c) = spanI c s l u n := by
  have hp := (rightB_iff c s l u).1 h
  have d1 := Int.lt_ediv_add_one_mul_self 1099511627776 (show 0 < c by omega)
  have d2 := Int.ediv_mul_le 1099511627776 (show c ≠ 0 by omega)
  rw [hq] at d1 d2
  have a0 : 0 ≤ n * c := Int.mul_nonneg (by omega) (by omega)
  have a1 : n * c ≤ (q + 1) * c := Int.mul_le_mul_of_nonneg_right hn (by omega)
  have a2 : (q + 1) * c = q * c + c := by rw [Int.add_mul, Int.one_mul]
  refine ⟨a0, by omega, ?_⟩
  unfold spanI
  rw [if_pos ⟨h, h1⟩, hq]
  by_cases e : q < n
  · have : n = q + 1 := by omega
    subst this
    rw [if_pos e]; exact clampI_big (by omega)
  · rw [if_neg e]
    have a3 : n * c ≤ q * c := Int.mul_le_mul_of_nonneg_right (by omega) (by omega)
    exact clampI_in a0 (by omega)
theorem span_gt {c s l u n q : Int} (h : rightB c s l u = true) (hq : 1099511627776 / c = q) (q0 : 0 ≤ q) (hn : q + 1 < n) : 0 ≤ (q + 1) * c ∧ (q + 1) * c ≤ 1099528404992 ∧ clampI ((q + 1) * c) = spanI c s l u n := by
  obtain ⟨h1, h2, h3⟩ := span_le (n := q + 1) h (by omega) hq (Int.le_refl _)
  refine ⟨h1, h2, h3.trans ?_⟩
  unfold spanI
  have e1 : (1 : Int) ≤ q + 1 := by omega
  have e2 : (1 : Int) ≤ n := by omega
  rw [if_pos ⟨h, e1⟩, hq, if_pos (show q < q + 1 by omega), if_pos ⟨h, e2⟩, if_pos (show q < n by omega)]
end Go.Proofs.YtanoakebbfidiaaDoor
