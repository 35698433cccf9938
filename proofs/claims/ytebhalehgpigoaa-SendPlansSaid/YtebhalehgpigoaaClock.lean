/-
  TIMES, PLAIN.
  CONTRACTS: bilgeref05.
  CONTRACTS: bilgeref05.Of.
  CONTRACTS: package clock, the small ones.
  CONTRACTS: package clock, Of.
-/
import Derived.Laws.BitsAllLaws
import Derived.Test.YtebhalehgpigoaaRows
import Derived.Test.YtebhalehgpigoaaBools
import Derived.Test.YtebhalehgpigoaaLater
import Derived.WalkLawsBesides
import Derived.WalkSpells
import Derived.Deep.QuietTactic
import Derived.BigQuiet
import Derived.RegionTactic
import Derived.Outline
import Derived.Lib.Hide
import Derived.Handy
import Derived.IntWalk
import Derived.Test.YtebhalehgpigoaaStructs
import Derived.Laws.CopyOwn
namespace Go.Proofs.Ytebhalehgpigoaa
open Go

def clampI (z : Int) : Int := if z < 0 then 0 else if 1099511627776 < z then 1099511627776 else z
theorem clampI_lo (z : Int) : 0 ≤ clampI z := by unfold clampI; split; omega; split <;> omega
theorem clampI_hi (z : Int) : clampI z ≤ 1099511627776 := by unfold clampI; split; omega; split <;> omega
theorem clampI_neg {z : Int} (h : z < 0) : clampI z = 0 := if_pos h
theorem clampI_big {z : Int} (h : 1099511627776 < z) : clampI z = 1099511627776 := by unfold clampI; rw [if_neg (by omega), if_pos h]
theorem clampI_in {z : Int} (h0 : 0 ≤ z) (h1 : z ≤ 1099511627776) : clampI z = z := by unfold clampI; rw [if_neg (by omega), if_neg (by omega)]
def addI (a d : Int) : Int := clampI (clampI a + clampI d)
def sinceI (a b : Int) : Int := clampI (clampI b - clampI a)
def RightP (c s l u : Int) : Prop := 1 ≤ c ∧ c ≤ s ∧ s < l ∧ 0 ≤ u ∧ l ≤ 16777216 ∧ u ≤ 16777216
instance (c s l u : Int) : Decidable (RightP c s l u) := by unfold RightP; infer_instance
def rightB (c s l u : Int) : Bool := decide (RightP c s l u)
theorem rightB_iff (c s l u : Int) : rightB c s l u = true ↔ (1 ≤ c ∧ c ≤ s ∧ s < l ∧ 0 ≤ u ∧ l ≤ 16777216 ∧ u ≤ 16777216) := by unfold rightB; rw [decide_eq_true_iff]; exact Iff.rfl
def spanI (c s l u n : Int) : Int := if rightB c s l u = true ∧ 1 ≤ n then (if 1099511627776 / c < n then 1099511627776 else n * c) else 0
/-- a over b, rounded up. -/
def upI (a b : Int) : Int := if 0 < a % b then a / b + 1 else a / b
theorem upI_eq {a b : Int} (hb : 0 < b) : (a + b - 1) / b = upI a b := by
  have h := Int.emod_add_mul_ediv a b
  have h0 := Int.emod_nonneg a (show b ≠ 0 by omega)
  have h1 := Int.emod_lt_of_pos a hb
  unfold upI
  split
  · have e : a + b - 1 = (a % b - 1) + b * (a / b + 1) := by rw [Int.mul_add, Int.mul_one]; omega
    rw [e, Int.add_mul_ediv_left _ _ (by omega), Int.ediv_eq_zero_of_lt (by omega) (by omega)]; omega
  · have e : a + b - 1 = (b - 1) + b * (a / b) := by omega
    rw [e, Int.add_mul_ediv_left _ _ (by omega), Int.ediv_eq_zero_of_lt (by omega) (by omega)]; omega
theorem upI_lo {a b : Int} (ha : 0 ≤ a) (hb : 0 < b) : 0 ≤ upI a b := by
  have := Int.ediv_nonneg ha (show 0 ≤ b by omega)
  unfold upI; split <;> omega
theorem upI_hi {a b : Int} (ha : 0 ≤ a) (hb : 0 < b) : upI a b ≤ a := by
  unfold upI
  have h := Int.emod_add_mul_ediv a b
  have h1 : a / b ≤ b * (a / b) := by
    have := Int.mul_le_mul_of_nonneg_right (show 1 ≤ b by omega) (Int.ediv_nonneg ha (show 0 ≤ b by omega))
    omega
  split
  · omega
  · have := Int.emod_nonneg a (show b ≠ 0 by omega); omega
/-- Up to a number of wholes. -/
theorem upI_le_iff {a b k : Int} (hb : 0 < b) : upI a b ≤ k ↔ a ≤ k * b := by
  have h := Int.emod_add_mul_ediv a b
  have h0 := Int.emod_nonneg a (show b ≠ 0 by omega)
  have h1 := Int.emod_lt_of_pos a hb
  rw [← upI_eq hb]
  constructor
  · intro h2
    have h3 : (a + b - 1) / b < k + 1 := by omega
    have := (Int.ediv_lt_iff_lt_mul hb).1 h3
    rw [Int.add_mul, Int.one_mul] at this
    omega
  · intro h2
    have : (a + b - 1) / b < k + 1 := (Int.ediv_lt_iff_lt_mul hb).2 (by rw [Int.add_mul, Int.one_mul]; omega)
    omega
theorem upI_anti {a b c : Int} (ha : 0 ≤ a) (hb : 0 < b) (hbc : b ≤ c) : upI a c ≤ upI a b := by
  rw [upI_le_iff (by omega)]
  have h1 := (upI_le_iff (a := a) (k := upI a b) hb).1 (Int.le_refl _)
  have h2 := Int.mul_le_mul_of_nonneg_left hbc (upI_lo ha hb)
  omega

def CkIn (b t u : Int) : Prop := 1 ≤ b ∧ b ≤ 1000000 ∧ 1 ≤ t ∧ t ≤ 1000000000 ∧ 0 ≤ u ∧ u ≤ 16777216
instance (b t u : Int) : Decidable (CkIn b t u) := by unfold CkIn; infer_instance
def ckC (b t : Int) : Int := upI (11 * t) b
def ckS (b t : Int) : Int := if 19200 < b then upI (t * 750) 1000000 else upI (33 * t) (2 * b)
def ckL (b t : Int) : Int := if 19200 < b then upI (t * 1750) 1000000 else upI (77 * t) (2 * b)
theorem ck_bds {b t u : Int} (h : CkIn b t u) : (0 ≤ ckC b t ∧ ckC b t ≤ 11000000000) ∧ (0 ≤ ckS b t ∧ ckS b t ≤ 750000000000) ∧ (0 ≤ ckL b t ∧ ckL b t ≤ 1750000000000) := by
  obtain ⟨h1, h2, h3, h4, _, _⟩ := h
  refine ⟨⟨upI_lo (by omega) (by omega), ?_⟩, ?_, ?_⟩
  · have := upI_hi (a := 11 * t) (b := b) (by omega) (by omega); unfold ckC; omega
  · unfold ckS; split
    · have := upI_hi (a := t * 750) (b := 1000000) (by omega) (by omega); exact ⟨upI_lo (by omega) (by omega), by omega⟩
    · have := upI_hi (a := 33 * t) (b := 2 * b) (by omega) (by omega); exact ⟨upI_lo (by omega) (by omega), by omega⟩
  · unfold ckL; split
    · have := upI_hi (a := t * 1750) (b := 1000000) (by omega) (by omega); exact ⟨upI_lo (by omega) (by omega), by omega⟩
    · have := upI_hi (a := 77 * t) (b := 2 * b) (by omega) (by omega); exact ⟨upI_lo (by omega) (by omega), by omega⟩
/-- Times that are told. -/
def CkOk (b t u : Int) : Prop := CkIn b t u ∧ RightP (ckC b t) (ckC b t + ckS b t) (ckC b t + ckL b t) u
instance (b t u : Int) : Decidable (CkOk b t u) := by unfold CkOk; infer_instance
/-- A faster line has none that are longer. -/
theorem ck_anti {b c t : Int} (ht : 0 ≤ t) (hb : 1 ≤ b) (hbc : b ≤ c) (h : 19200 < c ↔ 19200 < b) : ckC c t ≤ ckC b t ∧ ckC c t + ckS c t ≤ ckC b t + ckS b t ∧ ckC c t + ckL c t ≤ ckC b t + ckL b t := by
  have hC : ckC c t ≤ ckC b t := upI_anti (by omega) (by omega) hbc
  have hS : ckS c t ≤ ckS b t := by
    unfold ckS
    by_cases e : 19200 < b
    · rw [if_pos e, if_pos (h.2 e)]; exact Int.le_refl _
    · rw [if_neg e, if_neg (fun x => e (h.1 x))]; exact upI_anti (by omega) (by omega) (by omega)
  have hL : ckL c t ≤ ckL b t := by
    unfold ckL
    by_cases e : 19200 < b
    · rw [if_pos e, if_pos (h.2 e)]; exact Int.le_refl _
    · rw [if_neg e, if_neg (fun x => e (h.1 x))]; exact upI_anti (by omega) (by omega) (by omega)
  exact ⟨hC, by omega, by omega⟩
theorem clampI_sum {A D : Int} (hA : 0 ≤ A) (hD : 0 ≤ D) : clampI (A + D) = min (A + D) 1099511627776 := by unfold clampI; split; omega; split <;> omega
theorem addI_min (a d : Int) : addI a d = min (clampI a + clampI d) 1099511627776 := clampI_sum (clampI_lo a) (clampI_lo d)
theorem addI_lo (a d : Int) : 0 ≤ addI a d := clampI_lo _
theorem addI_hi (a d : Int) : addI a d ≤ 1099511627776 := clampI_hi _
theorem clamp_add (a d : Int) : clampI (addI a d) = addI a d := clampI_in (addI_lo a d) (addI_hi a d)
theorem clamp_clamp (a : Int) : clampI (clampI a) = clampI a := clampI_in (clampI_lo a) (clampI_hi a)
theorem ck_add_le (a d : Int) : clampI a ≤ addI a d := by
  have h0 := clampI_lo a; have h1 := clampI_hi a; have h2 := clampI_lo d
  rw [addI_min]; omega
theorem ck_add_assoc (a d e : Int) : addI (addI a d) e = addI a (addI d e) := by
  have h0 := clampI_lo a; have h1 := clampI_hi a; have h2 := clampI_lo d; have h3 := clampI_hi d; have h4 := clampI_lo e; have h5 := clampI_hi e
  rw [addI_min (addI a d) e, addI_min a (addI d e), clamp_add, clamp_add, addI_min, addI_min]
  omega
theorem since_add (a d : Int) (h : addI a d ≠ 1099511627776) : sinceI a (addI a d) = clampI d := by
  have h0 := clampI_lo a; have h1 := clampI_hi a; have h2 := clampI_lo d; have h3 := clampI_hi d
  unfold sinceI
  rw [clamp_add]
  have e : addI a d - clampI a = clampI d := by rw [addI_min] at h ⊢; omega
  rw [e, clamp_clamp]
theorem since_back (a d : Int) : sinceI (addI a d) (clampI a) = 0 := by
  have h := ck_add_le a d
  have h0 := clampI_lo a; have h1 := clampI_hi a
  unfold sinceI
  rw [clamp_add, clamp_clamp]
  by_cases e : clampI a - addI a d < 0
  · exact clampI_neg e
  · rw [clampI_in (z := clampI a - addI a d) (by omega) (by omega)]; omega
end Go.Proofs.Ytebhalehgpigoaa
namespace Go.Proofs.Ytebhalehgpigoaa
open Go.RowKit

theorem rclamp_any (z : Int) (w : World) : Calls Try.prog 33 #[.int .i64 z] w fun e w' => e = .returned (.int .i64 (clampI z)) ∧ w = w' := by
  by_cases h0 : z < 0
  · rw [clampI_neg h0]
    go_enter Try.func33, Try.ntmps33
    go_wp2
    go_ret
    exact ⟨rfl, rfl⟩
  · by_cases h1 : 1099511627776 < z
    · rw [clampI_big h1]
      go_enter Try.func33, Try.ntmps33
      go_wp2
      go_ret
      exact ⟨rfl, rfl⟩
    · rw [clampI_in (by omega) (by omega)]
      go_enter Try.func33, Try.ntmps33
      go_wp2
      go_ret
      exact ⟨rfl, rfl⟩
theorem radd_any (a d : Int) (w : World) : Calls Try.prog 23 #[.int .i64 a, .int .i64 d] w fun e w' => e = .returned (.int .i64 (addI a d)) ∧ w = w' := by
  have h0 := clampI_lo a; have h1 := clampI_hi a; have h2 := clampI_lo d; have h3 := clampI_hi d
  have e0 : addI a d = clampI (clampI a + clampI d) := rfl
  generalize hA : clampI a = A at *
  generalize hD : clampI d = D at *
  rw [e0]
  have HA := Lib.hid hA
  have HD := Lib.hid hD
  clear hA hD e0
  go_enter Try.func23, Try.ntmps23
  go_wp2_with fail
  refine (rclamp_any a _).mono ?_; rintro e w' ⟨rfl, rfl⟩
  rw [HA.out]
  go_wp2_with fail
  refine (rclamp_any d _).mono ?_; rintro e w' ⟨rfl, rfl⟩
  rw [HD.out]
  go_wp2_with fail
  refine (rclamp_any (A + D) _).mono ?_; rintro e w' ⟨rfl, rfl⟩
  go_wp2
  go_ret
  exact ⟨rfl, rfl⟩
set_option maxHeartbeats 1000000 in
theorem rright_any (c s l u : Int) (w : World) : Calls Try.prog 15 #[.agg #[.int .i64 c, .int .i64 s, .int .i64 l, .int .i64 u]] w fun e w' => e = .returned (.bool (rightB c s l u)) ∧ Ext w w' := by
  have H := Lib.hid (rightB_iff c s l u)
  generalize rightB c s l u = B at H ⊢
  go_enter Try.func15, Try.ntmps15
  go_wp2
  all_goals
    go_ret
    first
      | exact ⟨ret_b (b_false H.out (by omega)), Ext.alloc _ _⟩
      | exact ⟨ret_b (b_dec H.out (by omega)), Ext.alloc _ _⟩
end Go.Proofs.Ytebhalehgpigoaa
namespace Go.Proofs.Ytebhalehgpigoaa
open Go.RowKit

/-- What is told of a line, and whether. -/
def ofRes (b t u : Int) (yes no : Value) : Array Value := if CkOk b t u then #[.agg #[.int .i64 (ckC b t), .int .i64 (ckC b t + ckS b t), .int .i64 (ckC b t + ckL b t), .int .i64 u], yes] else #[.agg #[.int .i64 0, .int .i64 0, .int .i64 0, .int .i64 0], no]
theorem ofRes_no {b t u : Int} (yes no : Value) (h : ¬ CkOk b t u) : ofRes b t u yes no = #[.agg #[.int .i64 0, .int .i64 0, .int .i64 0, .int .i64 0], no] := if_neg h
theorem ofRes_yes {b t u : Int} (yes no : Value) (h : CkOk b t u) : ofRes b t u yes no = #[.agg #[.int .i64 (ckC b t), .int .i64 (ckC b t + ckS b t), .int .i64 (ckC b t + ckL b t), .int .i64 u], yes] := if_pos h
/-- The first of the six that is not so. -/
theorem not_in {b t u : Int} (h : ¬ CkIn b t u) : b < 1 ∨ (1 ≤ b ∧ 1000000 < b) ∨ (1 ≤ b ∧ b ≤ 1000000 ∧ t < 1) ∨ (1 ≤ b ∧ b ≤ 1000000 ∧ 1 ≤ t ∧ 1000000000 < t) ∨ (1 ≤ b ∧ b ≤ 1000000 ∧ 1 ≤ t ∧ t ≤ 1000000000 ∧ u < 0) ∨ (1 ≤ b ∧ b ≤ 1000000 ∧ 1 ≤ t ∧ t ≤ 1000000000 ∧ 0 ≤ u ∧ 16777216 < u) := by
  unfold CkIn at h; omega
end Go.Proofs.Ytebhalehgpigoaa
namespace Go.Proofs.Ytebhalehgpigoaa
open Go.RowKit

theorem kclamped_any (z : Int) (w : World) : Calls Try.prog 34 #[.int .i64 z] w fun e w' => e = .returned (.int .i64 (clampI z)) ∧ w = w' := by
  by_cases h0 : z < 0
  · rw [clampI_neg h0]
    go_enter Try.func34, Try.ntmps34
    go_wp2
    go_ret
    exact ⟨rfl, rfl⟩
  · by_cases h1 : 1099511627776 < z
    · rw [clampI_big h1]
      go_enter Try.func34, Try.ntmps34
      go_wp2
      go_ret
      exact ⟨rfl, rfl⟩
    · rw [clampI_in (by omega) (by omega)]
      go_enter Try.func34, Try.ntmps34
      go_wp2
      go_ret
      exact ⟨rfl, rfl⟩
theorem kplus_any (a d : Int) (w : World) (ha : 0 ≤ a) (ha1 : a ≤ 1099511627776) (hd : 0 ≤ d) (hd1 : d ≤ 1099511627776) : Calls Try.prog 32 #[.int .i64 a, .int .i64 d] w fun e w' => e = .returned (.int .i64 (a + d)) ∧ w = w' := by
  go_enter Try.func32, Try.ntmps32
  go_wp2
  go_ret
  exact ⟨rfl, rfl⟩
theorem kless_any (a d : Int) (w : World) (ha : 0 ≤ a) (ha1 : a ≤ 1099511627776) (hd : 0 ≤ d) (hd1 : d ≤ 1099511627776) : Calls Try.prog 40 #[.int .i64 a, .int .i64 d] w fun e w' => e = .returned (.int .i64 (a - d)) ∧ w = w' := by
  go_enter Try.func40, Try.ntmps40
  go_wp2
  go_ret
  exact ⟨rfl, rfl⟩
theorem kadd_in (a d : Int) (w : World) : Calls Try.prog 31 #[.int .i64 a, .int .i64 d, .func (.func 32) #[] #[]] w fun e w' => e = .returned (.int .i64 (addI a d)) ∧ w = w' := by
  have h0 := clampI_lo a; have h1 := clampI_hi a; have h2 := clampI_lo d; have h3 := clampI_hi d
  have e0 : addI a d = clampI (clampI a + clampI d) := rfl
  generalize hA : clampI a = A at *
  generalize hD : clampI d = D at *
  rw [e0]
  have HA := Lib.hid hA
  have HD := Lib.hid hD
  clear hA hD e0
  go_enter Try.func31, Try.ntmps31
  go_wp2_with fail
  refine (kclamped_any a _).mono ?_; rintro e w' ⟨rfl, rfl⟩
  rw [HA.out]
  go_wp2_with fail
  refine (kclamped_any d _).mono ?_; rintro e w' ⟨rfl, rfl⟩
  rw [HD.out]
  go_wp2_with fail
  refine (kplus_any A D _ h0 h1 h2 h3).mono ?_; rintro e w' ⟨rfl, rfl⟩
  go_wp2_with fail
  refine (kclamped_any (A + D) _).mono ?_; rintro e w' ⟨rfl, rfl⟩
  go_wp2
  go_ret
  exact ⟨rfl, rfl⟩
theorem ksince_in (d a : Int) (w : World) : Calls Try.prog 31 #[.int .i64 d, .int .i64 a, .func (.func 40) #[] #[]] w fun e w' => e = .returned (.int .i64 (sinceI a d)) ∧ w = w' := by
  have h0 := clampI_lo a; have h1 := clampI_hi a; have h2 := clampI_lo d; have h3 := clampI_hi d
  have e0 : sinceI a d = clampI (clampI d - clampI a) := rfl
  generalize hA : clampI a = A at *
  generalize hD : clampI d = D at *
  rw [e0]
  have HA := Lib.hid hA
  have HD := Lib.hid hD
  clear hA hD e0
  go_enter Try.func31, Try.ntmps31
  go_wp2_with fail
  refine (kclamped_any d _).mono ?_; rintro e w' ⟨rfl, rfl⟩
  rw [HD.out]
  go_wp2_with fail
  refine (kclamped_any a _).mono ?_; rintro e w' ⟨rfl, rfl⟩
  rw [HA.out]
  go_wp2_with fail
  refine (kless_any D A _ h2 h3 h0 h1).mono ?_; rintro e w' ⟨rfl, rfl⟩
  go_wp2_with fail
  refine (kclamped_any (D - A) _).mono ?_; rintro e w' ⟨rfl, rfl⟩
  go_wp2
  go_ret
  exact ⟨rfl, rfl⟩
theorem kclamp_in (z : Int) (w : World) : Calls Try.prog 25 #[.int .i64 z] w fun e w' => e = .returned (.int .i64 (clampI z)) ∧ w = w' := by
  obtain ⟨Z, hZ⟩ : ∃ Z, clampI z = Z := ⟨_, rfl⟩
  rw [hZ]
  have HZ := Lib.hid hZ
  clear hZ
  go_enter Try.func25, Try.ntmps25
  go_wp2_with fail
  refine (kclamped_any z _).mono ?_; rintro e w' ⟨rfl, rfl⟩
  rw [HZ.out]
  go_wp2
  go_ret
  exact ⟨rfl, rfl⟩
theorem kclamp_any (z : Int) (w : World) (_hz : (Lit.int .i64 z).wf = true) : Calls Try.prog 25 #[.int .i64 z] w fun e w' => e = .returned (.int .i64 (clampI z)) ∧ Ext w w' :=
  (kclamp_in z w).mono fun _ _ h => ⟨h.1, Ext.of_eq h.2⟩
theorem kadd_any (a d : Int) (w : World) (_ha : (Lit.int .i64 a).wf = true) (_hd : (Lit.int .i64 d).wf = true) : Calls Try.prog 22 #[.int .i64 a, .int .i64 d] w fun e w' => e = .returned (.int .i64 (addI a d)) ∧ Ext w w' := by
  go_enter Try.func22, Try.ntmps22
  go_wp2_with fail
  refine (kadd_in a d _).mono ?_; rintro e w' ⟨rfl, rfl⟩
  go_wp2
  go_ret
  exact ⟨rfl, Ext.refl _⟩
theorem ksince_any (a d : Int) (w : World) (_ha : (Lit.int .i64 a).wf = true) (_hd : (Lit.int .i64 d).wf = true) : Calls Try.prog 39 #[.int .i64 a, .int .i64 d] w fun e w' => e = .returned (.int .i64 (sinceI a d)) ∧ Ext w w' := by
  go_enter Try.func39, Try.ntmps39
  go_wp2_with fail
  refine (ksince_in d a _).mono ?_; rintro e w' ⟨rfl, rfl⟩
  go_wp2
  go_ret
  exact ⟨rfl, Ext.refl _⟩
theorem b_two {B : Bool} {P Q R : Prop} [Decidable Q] [Decidable R] (h : B = true ↔ P) (hq : P ↔ Q ∧ R) : (decide Q && decide R) = B := by
  rw [Bool.eq_iff_iff, Bool.and_eq_true, decide_eq_true_iff, decide_eq_true_iff]; exact (h.trans hq).symm
theorem kwithin_any (n a b : Int) (w : World) : Calls Try.prog 28 #[.int .i64 n, .int .i64 a, .int .i64 b] w fun e w' => e = .returned (.bool (decide (a ≤ n ∧ n ≤ b))) ∧ w = w' := by
  obtain ⟨B, hB⟩ : ∃ B, B = decide (a ≤ n ∧ n ≤ b) := ⟨_, rfl⟩
  have H : B = true ↔ (a ≤ n ∧ n ≤ b) := by rw [hB, decide_eq_true_iff]
  rw [← hB]
  have H := Lib.hid H
  clear hB
  go_enter Try.func28, Try.ntmps28
  go_wp2
  all_goals
    go_ret
    first
      | exact ⟨ret_b (b_false H.out (by omega)), rfl⟩
      | exact ⟨ret_b (b_dec H.out (by omega)), rfl⟩
set_option maxHeartbeats 1000000 in
theorem kright0 (c s l u : Int) (w : World) : Calls Try.prog 18 #[.agg #[.int .i64 c, .int .i64 s, .int .i64 l, .int .i64 u]] w fun e w' => e = .returned (.bool (rightB c s l u)) ∧ Ext w w' := by
  have H := Lib.hid (rightB_iff c s l u)
  generalize rightB c s l u = B at H ⊢
  go_enter Try.func18, Try.ntmps18
  go_wp2_with (first | (go_at_call 28; refine (kwithin_any u 0 16777216 _).mono ?_; rintro e w' ⟨rfl, rfl⟩))
  all_goals
    go_ret
    first
      | exact ⟨ret_b (b_false H.out (by omega)), Ext.alloc _ _⟩
      | exact ⟨ret_b (b_dec H.out (by omega)), Ext.alloc _ _⟩
      | exact ⟨ret_b (b_two H.out (by omega)), Ext.alloc _ _⟩
theorem kright_any (c s l u : Int) (w : World) (_hc : (Lit.int .i64 c).wf = true) (_hs : (Lit.int .i64 s).wf = true) (_hl : (Lit.int .i64 l).wf = true) (_hu : (Lit.int .i64 u).wf = true) : Calls Try.prog 18 #[.agg #[.int .i64 c, .int .i64 s, .int .i64 l, .int .i64 u]] w fun e w' => e = .returned (.bool (rightB c s l u)) ∧ Ext w w' :=
  kright0 c s l u w
theorem span_le {c s l u n q : Int} (h : rightB c s l u = true) (h1 : 1 ≤ n) (hq : 1099511627776 / c = q) (hn : n ≤ q + 1) : 0 ≤ n * c ∧ n * c ≤ 1099528404992 ∧ clampI (n * c) = spanI c s l u n := by
  have hp := (rightB_iff c s l u).1 h
  have d1 := Int.lt_ediv_add_one_mul_self 1099511627776 (show 0 < c by omega)
  have d2 := Int.ediv_mul_le 1099511627776 (show c ≠ 0 by omega)
  rw [hq] at d1 d2
  have a0 : 0 ≤ n * c := Int.mul_nonneg (by omega) (by omega)
  have a1 : n * c ≤ (q + 1) * c := Int.mul_le_mul_of_nonneg_right hn (by omega)
  have a2 : (q + 1) * c = q * c + c := by rw [Int.add_mul, Int.one_mul]
  refine ⟨a0, by omega, ?_⟩
  unfold spanI
  rw [if_pos ⟨h, h1⟩, hq]
  by_cases e : q < n
  · have : n = q + 1 := by omega
    subst this
    rw [if_pos e]; exact clampI_big (by omega)
  · rw [if_neg e]
    have a3 : n * c ≤ q * c := Int.mul_le_mul_of_nonneg_right (by omega) (by omega)
    exact clampI_in a0 (by omega)
theorem span_gt {c s l u n q : Int} (h : rightB c s l u = true) (hq : 1099511627776 / c = q) (q0 : 0 ≤ q) (hn : q + 1 < n) : 0 ≤ (q + 1) * c ∧ (q + 1) * c ≤ 1099528404992 ∧ clampI ((q + 1) * c) = spanI c s l u n := by
  obtain ⟨h1, h2, h3⟩ := span_le (n := q + 1) h (by omega) hq (Int.le_refl _)
  refine ⟨h1, h2, h3.trans ?_⟩
  unfold spanI
  have e1 : (1 : Int) ≤ q + 1 := by omega
  have e2 : (1 : Int) ≤ n := by omega
  rw [if_pos ⟨h, e1⟩, hq, if_pos (show q < q + 1 by omega), if_pos ⟨h, e2⟩, if_pos (show q < n by omega)]
set_option maxHeartbeats 1000000 in
theorem kspan_any (c s l u n : Int) (w : World) (hc : (Lit.int .i64 c).wf = true) (hs : (Lit.int .i64 s).wf = true) (hl : (Lit.int .i64 l).wf = true) (hu : (Lit.int .i64 u).wf = true) (_hn : (Lit.int .i64 n).wf = true) : Calls Try.prog 16 #[.agg #[.int .i64 c, .int .i64 s, .int .i64 l, .int .i64 u], .int .i64 n] w fun e w' => e = .returned (.int .i64 (spanI c s l u n)) ∧ Ext w w' := by
  by_cases h1 : n < 1
  · have hv : spanI c s l u n = 0 := by unfold spanI; rw [if_neg (fun x => by omega)]
    rw [hv]
    clear hv hc hs hl hu
    go_enter Try.func16, Try.ntmps16
    go_wp2
    go_ret
    exact ⟨rfl, Ext.alloc _ _⟩
  · have HR0 := Lib.hid (fun w => kright_any c s l u w hc hs hl hu)
    clear hc hs hl hu
    by_cases h : rightB c s l u = true
    · have hp := (rightB_iff c s l u).1 h
      have hc1 : 1 ≤ c := by omega
      have hc2 : c ≤ 16777216 := by omega
      have HR := Lib.hid h
      obtain ⟨q, hq⟩ : ∃ q, 1099511627776 / c = q := ⟨_, rfl⟩
      have q0 : 0 ≤ q := by rw [← hq]; exact Int.ediv_nonneg (by decide) (by omega)
      have q1 : q ≤ 1099511627776 := by rw [← hq]; exact Int.ediv_le_self _ (by decide)
      have et : (1099511627776 : Int).tdiv c = q := by rw [Int.tdiv_eq_ediv_of_nonneg (by decide), hq]
      by_cases h3 : n ≤ q + 1
      · obtain ⟨m0, m1, hv⟩ := span_le h (by omega) hq h3
        have HV := Lib.hid hv
        clear h hv hq hp
        generalize spanI c s l u n = R at HV ⊢
        go_enter Try.func16, Try.ntmps16
        go_wp2_with fail
        refine (HR0.out _).mono ?_; rintro e w1 ⟨rfl, x1⟩
        rw [HR.out]
        have x2 := (Ext.alloc w _).trans x1
        have c0 := x1.made 0 _ rfl
        go_wp2_with fail
        go_quiet ((go_at_call 25; exact Calls.quiet_of_same ((kclamp_in _ _).mono fun e w' h => ⟨h.1, h.2.symm⟩)))
        go_wp2
        go_ret
        exact ⟨congrArg (fun z => Ending.returned (.int .i64 z)) HV.out, x2.trans (Ext.drewN _ _)⟩
      · obtain ⟨m0, m1, hv⟩ := span_gt h hq q0 (show q + 1 < n by omega)
        have HV := Lib.hid hv
        clear h hv hq hp
        generalize spanI c s l u n = R at HV ⊢
        go_enter Try.func16, Try.ntmps16
        go_wp2_with fail
        refine (HR0.out _).mono ?_; rintro e w1 ⟨rfl, x1⟩
        rw [HR.out]
        have x2 := (Ext.alloc w _).trans x1
        have c0 := x1.made 0 _ rfl
        go_wp2_with fail
        go_quiet ((go_at_call 25; exact Calls.quiet_of_same ((kclamp_in _ _).mono fun e w' h => ⟨h.1, h.2.symm⟩)))
        go_wp2
        go_ret
        exact ⟨congrArg (fun z => Ending.returned (.int .i64 z)) HV.out, x2.trans (Ext.drewN _ _)⟩
    · have hv : spanI c s l u n = 0 := by unfold spanI; rw [if_neg (fun x => h x.1)]
      have HR : Hid (rightB c s l u = false) := Lib.hid (by simpa using h)
      rw [hv]
      clear h hv
      go_enter Try.func16, Try.ntmps16
      go_wp2_with fail
      refine (HR0.out _).mono ?_; rintro e w1 ⟨rfl, x1⟩
      rw [HR.out]
      go_wp2
      go_ret
      exact ⟨rfl, (Ext.alloc _ _).trans x1⟩
end Go.Proofs.Ytebhalehgpigoaa
namespace Go.Proofs.Ytebhalehgpigoaa
open Go.RowKit

theorem kwithin_v (n a b : Int) (B : Bool) (w : World) (h : decide (a ≤ n ∧ n ≤ b) = B) : Calls Try.prog 28 #[.int .i64 n, .int .i64 a, .int .i64 b] w fun e w' => e = .returned (.bool B) ∧ w = w' := h ▸ kwithin_any n a b w
theorem in_no {b t u : Int} (h : ¬ CkIn b t u) : decide (1 ≤ b ∧ b ≤ 1000000) = false ∨ (decide (1 ≤ b ∧ b ≤ 1000000) = true ∧ decide (1 ≤ t ∧ t ≤ 1000000000) = false) ∨ (decide (1 ≤ b ∧ b ≤ 1000000) = true ∧ decide (1 ≤ t ∧ t ≤ 1000000000) = true ∧ decide (0 ≤ u ∧ u ≤ 16777216) = false) := by
  simp only [decide_eq_false_iff_not, decide_eq_true_eq]; unfold CkIn at h; omega
theorem in_yes {b t u : Int} (h : CkIn b t u) : decide (1 ≤ b ∧ b ≤ 1000000) = true ∧ decide (1 ≤ t ∧ t ≤ 1000000000) = true ∧ decide (0 ≤ u ∧ u ≤ 16777216) = true := by
  simp only [decide_eq_true_eq]; unfold CkIn at h; omega
end Go.Proofs.Ytebhalehgpigoaa
