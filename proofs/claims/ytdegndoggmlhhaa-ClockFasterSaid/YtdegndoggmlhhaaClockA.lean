/-
  CONTRACTS: package clock, the small ones.
-/
import Derived.Test.YtdegndoggmlhhaaClockS
namespace Go.Proofs.Ytdegndoggmlhhaa
open Go.RowKit

theorem kclamped_any (z : Int) (w : World) : Calls Try.prog 24 #[.int .i64 z] w fun e w' => e = .returned (.int .i64 (clampI z)) ∧ w = w' := by
  by_cases h0 : z < 0
  · rw [clampI_neg h0]
    go_enter Try.func24, Try.ntmps24
    go_wp2
    go_ret
    exact ⟨rfl, rfl⟩
  · by_cases h1 : 1099511627776 < z
    · rw [clampI_big h1]
      go_enter Try.func24, Try.ntmps24
      go_wp2
      go_ret
      exact ⟨rfl, rfl⟩
    · rw [clampI_in (by omega) (by omega)]
      go_enter Try.func24, Try.ntmps24
      go_wp2
      go_ret
      exact ⟨rfl, rfl⟩
theorem kplus_any (a d : Int) (w : World) (ha : 0 ≤ a) (ha1 : a ≤ 1099511627776) (hd : 0 ≤ d) (hd1 : d ≤ 1099511627776) : Calls Try.prog 26 #[.int .i64 a, .int .i64 d] w fun e w' => e = .returned (.int .i64 (a + d)) ∧ w = w' := by
  go_enter Try.func26, Try.ntmps26
  go_wp2
  go_ret
  exact ⟨rfl, rfl⟩
theorem kless_any (a d : Int) (w : World) (ha : 0 ≤ a) (ha1 : a ≤ 1099511627776) (hd : 0 ≤ d) (hd1 : d ≤ 1099511627776) : Calls Try.prog 27 #[.int .i64 a, .int .i64 d] w fun e w' => e = .returned (.int .i64 (a - d)) ∧ w = w' := by
  go_enter Try.func27, Try.ntmps27
  go_wp2
  go_ret
  exact ⟨rfl, rfl⟩
theorem kadd_in (a d : Int) (w : World) : Calls Try.prog 25 #[.int .i64 a, .int .i64 d, .func (.func 26) #[] #[]] w fun e w' => e = .returned (.int .i64 (addI a d)) ∧ w = w' := by
  have h0 := clampI_lo a; have h1 := clampI_hi a; have h2 := clampI_lo d; have h3 := clampI_hi d
  have e0 : addI a d = clampI (clampI a + clampI d) := rfl
  generalize hA : clampI a = A at *
  generalize hD : clampI d = D at *
  rw [e0]
  have HA := Lib.hid hA
  have HD := Lib.hid hD
  clear hA hD e0
  go_enter Try.func25, Try.ntmps25
  go_wp2_with fail
  refine (kclamped_any a _).mono ?_; rintro e w' ⟨rfl, rfl⟩
  rw [HA.out]
  go_wp2_with fail
  refine (kclamped_any d _).mono ?_; rintro e w' ⟨rfl, rfl⟩
  rw [HD.out]
  go_wp2_with fail
  refine (kplus_any A D _ h0 h1 h2 h3).mono ?_; rintro e w' ⟨rfl, rfl⟩
  go_wp2_with fail
  refine (kclamped_any (A + D) _).mono ?_; rintro e w' ⟨rfl, rfl⟩
  go_wp2
  go_ret
  exact ⟨rfl, rfl⟩
theorem ksince_in (d a : Int) (w : World) : Calls Try.prog 25 #[.int .i64 d, .int .i64 a, .func (.func 27) #[] #[]] w fun e w' => e = .returned (.int .i64 (sinceI a d)) ∧ w = w' := by
  have h0 := clampI_lo a; have h1 := clampI_hi a; have h2 := clampI_lo d; have h3 := clampI_hi d
  have e0 : sinceI a d = clampI (clampI d - clampI a) := rfl
  generalize hA : clampI a = A at *
  generalize hD : clampI d = D at *
  rw [e0]
  have HA := Lib.hid hA
  have HD := Lib.hid hD
  clear hA hD e0
  go_enter Try.func25, Try.ntmps25
  go_wp2_with fail
  refine (kclamped_any d _).mono ?_; rintro e w' ⟨rfl, rfl⟩
  rw [HD.out]
  go_wp2_with fail
  refine (kclamped_any a _).mono ?_; rintro e w' ⟨rfl, rfl⟩
  rw [HA.out]
  go_wp2_with fail
  refine (kless_any D A _ h2 h3 h0 h1).mono ?_; rintro e w' ⟨rfl, rfl⟩
  go_wp2_with fail
  refine (kclamped_any (D - A) _).mono ?_; rintro e w' ⟨rfl, rfl⟩
  go_wp2
  go_ret
  exact ⟨rfl, rfl⟩
theorem kclamp_in (z : Int) (w : World) : Calls Try.prog 12 #[.int .i64 z] w fun e w' => e = .returned (.int .i64 (clampI z)) ∧ w = w' := by
  obtain ⟨Z, hZ⟩ : ∃ Z, clampI z = Z := ⟨_, rfl⟩
  rw [hZ]
  have HZ := Lib.hid hZ
  clear hZ
  go_enter Try.func12, Try.ntmps12
  go_wp2_with fail
  refine (kclamped_any z _).mono ?_; rintro e w' ⟨rfl, rfl⟩
  rw [HZ.out]
  go_wp2
  go_ret
  exact ⟨rfl, rfl⟩
theorem kclamp_any (z : Int) (w : World) (_hz : (Lit.int .i64 z).wf = true) : Calls Try.prog 12 #[.int .i64 z] w fun e w' => e = .returned (.int .i64 (clampI z)) ∧ Ext w w' :=
  (kclamp_in z w).mono fun _ _ h => ⟨h.1, Ext.of_eq h.2⟩
theorem kadd_any (a d : Int) (w : World) (_ha : (Lit.int .i64 a).wf = true) (_hd : (Lit.int .i64 d).wf = true) : Calls Try.prog 14 #[.int .i64 a, .int .i64 d] w fun e w' => e = .returned (.int .i64 (addI a d)) ∧ Ext w w' := by
  go_enter Try.func14, Try.ntmps14
  go_wp2_with fail
  refine (kadd_in a d _).mono ?_; rintro e w' ⟨rfl, rfl⟩
  go_wp2
  go_ret
  exact ⟨rfl, Ext.refl _⟩
theorem ksince_any (a d : Int) (w : World) (_ha : (Lit.int .i64 a).wf = true) (_hd : (Lit.int .i64 d).wf = true) : Calls Try.prog 16 #[.int .i64 a, .int .i64 d] w fun e w' => e = .returned (.int .i64 (sinceI a d)) ∧ Ext w w' := by
  go_enter Try.func16, Try.ntmps16
  go_wp2_with fail
  refine (ksince_in d a _).mono ?_; rintro e w' ⟨rfl, rfl⟩
  go_wp2
  go_ret
  exact ⟨rfl, Ext.refl _⟩
theorem b_two {B : Bool} {P Q R : Prop} [Decidable Q] [Decidable R] (h : B = true ↔ P) (hq : P ↔ Q ∧ R) : (decide Q && decide R) = B := by
  rw [Bool.eq_iff_iff, Bool.and_eq_true, decide_eq_true_iff, decide_eq_true_iff]; exact (h.trans hq).symm
theorem kwithin_any (n a b : Int) (w : World) : Calls Try.prog 20 #[.int .i64 n, .int .i64 a, .int .i64 b] w fun e w' => e = .returned (.bool (decide (a ≤ n ∧ n ≤ b))) ∧ w = w' := by
  obtain ⟨B, hB⟩ : ∃ B, B = decide (a ≤ n ∧ n ≤ b) := ⟨_, rfl⟩
  have H : B = true ↔ (a ≤ n ∧ n ≤ b) := by rw [hB, decide_eq_true_iff]
  rw [← hB]
  have H := Lib.hid H
  clear hB
  go_enter Try.func20, Try.ntmps20
  go_wp2
  all_goals
    go_ret
    first
      | exact ⟨ret_b (b_false H.out (by omega)), rfl⟩
      | exact ⟨ret_b (b_dec H.out (by omega)), rfl⟩
set_option maxHeartbeats 1000000 in
theorem kright0 (c s l u : Int) (w : World) : Calls Try.prog 10 #[.agg #[.int .i64 c, .int .i64 s, .int .i64 l, .int .i64 u]] w fun e w' => e = .returned (.bool (rightB c s l u)) ∧ Ext w w' := by
  have H := Lib.hid (rightB_iff c s l u)
  generalize rightB c s l u = B at H ⊢
  go_enter Try.func10, Try.ntmps10
  go_wp2_with (first | (go_at_call 20; refine (kwithin_any u 0 16777216 _).mono ?_; rintro e w' ⟨rfl, rfl⟩))
  all_goals
    go_ret
    first
      | exact ⟨ret_b (b_false H.out (by omega)), Ext.alloc _ _⟩
      | exact ⟨ret_b (b_dec H.out (by omega)), Ext.alloc _ _⟩
      | exact ⟨ret_b (b_two H.out (by omega)), Ext.alloc _ _⟩
theorem kright_any (c s l u : Int) (w : World) (_hc : (Lit.int .i64 c).wf = true) (_hs : (Lit.int .i64 s).wf = true) (_hl : (Lit.int .i64 l).wf = true) (_hu : (Lit.int .i64 u).wf = true) : Calls Try.prog 10 #[.agg #[.int .i64 c, .int .i64 s, .int .i64 l, .int .i64 u]] w fun e w' => e = .returned (.bool (rightB c s l u)) ∧ Ext w w' :=
  kright0 c s l u w
theorem span_le {c s l u n q : Int} (h : rightB c s l u = true) (h1 : 1 ≤ n) (hq : 1099511627776 / c = q) (hn : n ≤ q + 1) : 0 ≤ n * c ∧ n * c ≤ 1099528404992 ∧ clampI (n * c) = spanI c s l u n := by
  have hp := (rightB_iff c s l u).1 h
  have d1 := Int.lt_ediv_add_one_mul_self 1099511627776 (show 0 < c by omega)
  have d2 := Int.ediv_mul_le 1099511627776 (show c ≠ 0 by omega)
  rw [hq] at d1 d2
  have a0 : 0 ≤ n * c := Int.mul_nonneg (by omega) (by omega)
  have a1 : n * c ≤ (q + 1) * c := Int.mul_le_mul_of_nonneg_right hn (by omega)
  have a2 : (q + 1) * c = q * c + c := by rw [Int.add_mul, Int.one_mul]
  refine ⟨a0, by omega, ?_⟩
  unfold spanI
  rw [if_pos ⟨h, h1⟩, hq]
  by_cases e : q < n
  · have : n = q + 1 := by omega
    subst this
    rw [if_pos e]; exact clampI_big (by omega)
  · rw [if_neg e]
    have a3 : n * c ≤ q * c := Int.mul_le_mul_of_nonneg_right (by omega) (by omega)
    exact clampI_in a0 (by omega)
theorem span_gt {c s l u n q : Int} (h : rightB c s l u = true) (hq : 1099511627776 / c = q) (q0 : 0 ≤ q) (hn : q + 1 < n) : 0 ≤ (q + 1) * c ∧ (q + 1) * c ≤ 1099528404992 ∧ clampI ((q + 1) * c) = spanI c s l u n := by
  obtain ⟨h1, h2, h3⟩ := span_le (n := q + 1) h (by omega) hq (Int.le_refl _)
  refine ⟨h1, h2, h3.trans ?_⟩
  unfold spanI
  have e1 : (1 : Int) ≤ q + 1 := by omega
  have e2 : (1 : Int) ≤ n := by omega
  rw [if_pos ⟨h, e1⟩, hq, if_pos (show q < q + 1 by omega), if_pos ⟨h, e2⟩, if_pos (show q < n by omega)]
set_option maxHeartbeats 1000000 in
theorem kspan_any (c s l u n : Int) (w : World) (hc : (Lit.int .i64 c).wf = true) (hs : (Lit.int .i64 s).wf = true) (hl : (Lit.int .i64 l).wf = true) (hu : (Lit.int .i64 u).wf = true) (_hn : (Lit.int .i64 n).wf = true) : Calls Try.prog 18 #[.agg #[.int .i64 c, .int .i64 s, .int .i64 l, .int .i64 u], .int .i64 n] w fun e w' => e = .returned (.int .i64 (spanI c s l u n)) ∧ Ext w w' := by
  by_cases h1 : n < 1
  · have hv : spanI c s l u n = 0 := by unfold spanI; rw [if_neg (fun x => by omega)]
    rw [hv]
    clear hv hc hs hl hu
    go_enter Try.func18, Try.ntmps18
    go_wp2
    go_ret
    exact ⟨rfl, Ext.alloc _ _⟩
  · have HR0 := Lib.hid (fun w => kright_any c s l u w hc hs hl hu)
    clear hc hs hl hu
    by_cases h : rightB c s l u = true
    · have hp := (rightB_iff c s l u).1 h
      have hc1 : 1 ≤ c := by omega
      have hc2 : c ≤ 16777216 := by omega
      have HR := Lib.hid h
      obtain ⟨q, hq⟩ : ∃ q, 1099511627776 / c = q := ⟨_, rfl⟩
      have q0 : 0 ≤ q := by rw [← hq]; exact Int.ediv_nonneg (by decide) (by omega)
      have q1 : q ≤ 1099511627776 := by rw [← hq]; exact Int.ediv_le_self _ (by decide)
      have et : (1099511627776 : Int).tdiv c = q := by rw [Int.tdiv_eq_ediv_of_nonneg (by decide), hq]
      by_cases h3 : n ≤ q + 1
      · obtain ⟨m0, m1, hv⟩ := span_le h (by omega) hq h3
        have HV := Lib.hid hv
        clear h hv hq hp
        generalize spanI c s l u n = R at HV ⊢
        go_enter Try.func18, Try.ntmps18
        go_wp2_with fail
        refine (HR0.out _).mono ?_; rintro e w1 ⟨rfl, x1⟩
        rw [HR.out]
        have x2 := (Ext.alloc w _).trans x1
        have c0 := x1.made 0 _ rfl
        go_wp2_with fail
        go_quiet ((go_at_call 12; exact Calls.quiet_of_same ((kclamp_in _ _).mono fun e w' h => ⟨h.1, h.2.symm⟩)))
        go_wp2
        go_ret
        exact ⟨congrArg (fun z => Ending.returned (.int .i64 z)) HV.out, x2.trans (Ext.drewN _ _)⟩
      · obtain ⟨m0, m1, hv⟩ := span_gt h hq q0 (show q + 1 < n by omega)
        have HV := Lib.hid hv
        clear h hv hq hp
        generalize spanI c s l u n = R at HV ⊢
        go_enter Try.func18, Try.ntmps18
        go_wp2_with fail
        refine (HR0.out _).mono ?_; rintro e w1 ⟨rfl, x1⟩
        rw [HR.out]
        have x2 := (Ext.alloc w _).trans x1
        have c0 := x1.made 0 _ rfl
        go_wp2_with fail
        go_quiet ((go_at_call 12; exact Calls.quiet_of_same ((kclamp_in _ _).mono fun e w' h => ⟨h.1, h.2.symm⟩)))
        go_wp2
        go_ret
        exact ⟨congrArg (fun z => Ending.returned (.int .i64 z)) HV.out, x2.trans (Ext.drewN _ _)⟩
    · have hv : spanI c s l u n = 0 := by unfold spanI; rw [if_neg (fun x => h x.1)]
      have HR : Hid (rightB c s l u = false) := Lib.hid (by simpa using h)
      rw [hv]
      clear h hv
      go_enter Try.func18, Try.ntmps18
      go_wp2_with fail
      refine (HR0.out _).mono ?_; rintro e w1 ⟨rfl, x1⟩
      rw [HR.out]
      go_wp2
      go_ret
      exact ⟨rfl, (Ext.alloc _ _).trans x1⟩
theorem kup_any (n d t : Int) (T : Nat) (w : World) (h0 : 0 ≤ n * t) (h1 : n * t ≤ 2000000000000) (hd : 1 ≤ d) (hd1 : d ≤ 2000000) (hT : w.cell? ⟨T, 0, none⟩ = some (.int .i64 t)) : Calls Try.prog 21 #[.int .i64 n, .int .i64 d, .pointer (some ⟨T, 0, none⟩)] w fun e w' => e = .returned (.int .i64 (upI (n * t) d)) ∧ w = w' := by
  have e0 := upI_eq (a := n * t) (b := d) (by omega)
  have e1 : (n * t + d - 1).tdiv d = upI (n * t) d := by rw [Int.tdiv_eq_ediv_of_nonneg (by omega), e0]
  have b0 := upI_lo (a := n * t) (b := d) h0 (by omega)
  have b1 := upI_hi (a := n * t) (b := d) h0 (by omega)
  generalize upI (n * t) d = R at e0 e1 b0 b1 ⊢
  clear e0
  go_enter Try.func21, Try.ntmps21
  go_wp2
  go_ret
  exact ⟨rfl, rfl⟩
end Go.Proofs.Ytdegndoggmlhhaa
