/-
  TIMES, PLAIN.
-/
import Derived.Laws.BitsAllLaws
namespace Go.Proofs.YtanoakebbfidiaaDoor
open Go

def clampI (z : Int) : Int := if z < 0 then 0 else if 1099511627776 < z then 1099511627776 else z
theorem clampI_lo (z : Int) : 0 ≤ clampI z := by unfold clampI; split; omega; split <;> omega
theorem clampI_hi (z : Int) : clampI z ≤ 1099511627776 := by unfold clampI; split; omega; split <;> omega
theorem clampI_neg {z : Int} (h : z < 0) : clampI z = 0 := if_pos h
theorem clampI_big {z : Int} (h : 1099511627776 < z) : clampI z = 1099511627776 := by unfold clampI; rw [if_neg (by omega), if_pos h]
theorem clampI_in {z : Int} (h0 : 0 ≤ z) (h1 : z ≤ 1099511627776) : clampI z = z := by unfold clampI; rw [if_neg (by omega), if_neg (by omega)]
def addI (a d : Int) : Int := clampI (clampI a + clampI d)
def sinceI (a b : Int) : Int := clampI (clampI b - clampI a)
def RightP (c s l u : Int) : Prop := 1 ≤ c ∧ c ≤ s ∧ s < l ∧ 0 ≤ u ∧ l ≤ 16777216 ∧ u ≤ 16777216
instance (c s l u : Int) : Decidable (RightP c s l u) := by unfold RightP; infer_instance
def rightB (c s l u : Int) : Bool := decide (RightP c s l u)
theorem rightB_iff (c s l u : Int) : rightB c s l u = true ↔ (1 ≤ c ∧ c ≤ s ∧ s < l ∧ 0 ≤ u ∧ l ≤ 16777216 ∧ u ≤ 16777216) := by unfold rightB; rw [decide_eq_true_iff]; exact Iff.rfl
def spanI (c s l u n : Int) : Int := if rightB c s l u = true ∧ 1 ≤ n then (if 1099511627776 / c < n then 1099511627776 else n * c) else 0
/-- a over b, rounded up. -/
def upI (a b : Int) : Int := if 0 < a % b then a / b + 1 else a / b
theorem upI_eq {a b : Int} (hb : 0 < b) : (a + b - 1) / b = upI a b := by
  have h := Int.emod_add_mul_ediv a b
  have h0 := Int.emod_nonneg a (show b ≠ 0 by omega)
  have h1 := Int.emod_lt_of_pos a hb
  unfold upI
  split
  · have e : a + b - 1 = (a % b - 1) + b * (a / b + 1) := by rw [Int.mul_add, Int.mul_one]; omega
    rw [e, Int.add_mul_ediv_left _ _ (by omega), Int.ediv_eq_zero_of_lt (by omega) (by omega)]; omega
  · have e : a + b - 1 = (b - 1) + b * (a / b) := by omega
    rw [e, Int.add_mul_ediv_left _ _ (by omega), Int.ediv_eq_zero_of_lt (by omega) (by omega)]; omega
theorem upI_lo {a b : Int} (ha : 0 ≤ a) (hb : 0 < b) : 0 ≤ upI a b := by
  have := Int.ediv_nonneg ha (show 0 ≤ b by omega)
  unfold upI; split <;> omega
theorem upI_hi {a b : Int} (ha : 0 ≤ a) (hb : 0 < b) : upI a b ≤ a := by
  unfold upI
  have h := Int.emod_add_mul_ediv a b
  have h1 : a / b ≤ b * (a / b) := by
    have := Int.mul_le_mul_of_nonneg_right (show 1 ≤ b by omega) (Int.ediv_nonneg ha (show 0 ≤ b by omega))
    omega
  split
  · omega
  · have := Int.emod_nonneg a (show b ≠ 0 by omega); omega
/-- Up to a number of wholes. -/
theorem upI_le_iff {a b k : Int} (hb : 0 < b) : upI a b ≤ k ↔ a ≤ k * b := by
  have h := Int.emod_add_mul_ediv a b
  have h0 := Int.emod_nonneg a (show b ≠ 0 by omega)
  have h1 := Int.emod_lt_of_pos a hb
  rw [← upI_eq hb]
  constructor
  · intro h2
    have h3 : (a + b - 1) / b < k + 1 := by omega
    have := (Int.ediv_lt_iff_lt_mul hb).1 h3
    rw [Int.add_mul, Int.one_mul] at this
    omega
  · intro h2
    have : (a + b - 1) / b < k + 1 := (Int.ediv_lt_iff_lt_mul hb).2 (by rw [Int.add_mul, Int.one_mul]; omega)
    omega
theorem upI_anti {a b c : Int} (ha : 0 ≤ a) (hb : 0 < b) (hbc : b ≤ c) : upI a c ≤ upI a b := by
  rw [upI_le_iff (by omega)]
  have h1 := (upI_le_iff (a := a) (k := upI a b) hb).1 (Int.le_refl _)
  have h2 := Int.mul_le_mul_of_nonneg_left hbc (upI_lo ha hb)
  omega

def CkIn (b t u : Int) : Prop := 1 ≤ b ∧ b ≤ 1000000 ∧ 1 ≤ t ∧ t ≤ 1000000000 ∧ 0 ≤ u ∧ u ≤ 16777216
instance (b t u : Int) : Decidable (CkIn b t u) := by unfold CkIn; infer_instance
def ckC (b t : Int) : Int := upI (11 * t) b
def ckS (b t : Int) : Int := if 19200 < b then upI (t * 750) 1000000 else upI (33 * t) (2 * b)
def ckL (b t : Int) : Int := if 19200 < b then upI (t * 1750) 1000000 else upI (77 * t) (2 * b)
theorem ck_bds {b t u : Int} (h : CkIn b t u) : (0 ≤ ckC b t ∧ ckC b t ≤ 11000000000) ∧ (0 ≤ ckS b t ∧ ckS b t ≤ 750000000000) ∧ (0 ≤ ckL b t ∧ ckL b t ≤ 1750000000000) := by
  obtain ⟨h1, h2, h3, h4, _, _⟩ := h
  refine ⟨⟨upI_lo (by omega) (by omega), ?_⟩, ?_, ?_⟩
  · have := upI_hi (a := 11 * t) (b := b) (by omega) (by omega); unfold ckC; omega
  · unfold ckS; split
    · have := upI_hi (a := t * 750) (b := 1000000) (by omega) (by omega); exact ⟨upI_lo (by omega) (by omega), by omega⟩
    · have := upI_hi (a := 33 * t) (b := 2 * b) (by omega) (by omega); exact ⟨upI_lo (by omega) (by omega), by omega⟩
  · unfold ckL; split
    · have := upI_hi (a := t * 1750) (b := 1000000) (by omega) (by omega); exact ⟨upI_lo (by omega) (by omega), by omega⟩
    · have := upI_hi (a := 77 * t) (b := 2 * b) (by omega) (by omega); exact ⟨upI_lo (by omega) (by omega), by omega⟩
/-- Times that are told. -/
def CkOk (b t u : Int) : Prop := CkIn b t u ∧ RightP (ckC b t) (ckC b t + ckS b t) (ckC b t + ckL b t) u
instance (b t u : Int) : Decidable (CkOk b t u) := by unfold CkOk; infer_instance
/-- A faster line has none that are longer. -/
theorem ck_anti {b c t : Int} (ht : 0 ≤ t) (hb : 1 ≤ b) (hbc : b ≤ c) (h : 19200 < c ↔ 19200 < b) : ckC c t ≤ ckC b t ∧ ckC c t + ckS c t ≤ ckC b t + ckS b t ∧ ckC c t + ckL c t ≤ ckC b t + ckL b t := by
  have hC : ckC c t ≤ ckC b t := upI_anti (by omega) (by omega) hbc
  have hS : ckS c t ≤ ckS b t := by
    unfold ckS
    by_cases e : 19200 < b
    · rw [if_pos e, if_pos (h.2 e)]; exact Int.le_refl _
    · rw [if_neg e, if_neg (fun x => e (h.1 x))]; exact upI_anti (by omega) (by omega) (by omega)
  have hL : ckL c t ≤ ckL b t := by
    unfold ckL
    by_cases e : 19200 < b
    · rw [if_pos e, if_pos (h.2 e)]; exact Int.le_refl _
    · rw [if_neg e, if_neg (fun x => e (h.1 x))]; exact upI_anti (by omega) (by omega) (by omega)
  exact ⟨hC, by omega, by omega⟩
theorem clampI_sum {A D : Int} (hA : 0 ≤ A) (hD : 0 ≤ D) : clampI (A + D) = min (A + D) 1099511627776 := by unfold clampI; split; omega; split <;> omega
theorem addI_min (a d : Int) : addI a d = min (clampI a + clampI d) 1099511627776 := clampI_sum (clampI_lo a) (clampI_lo d)
theorem addI_lo (a d : Int) : 0 ≤ addI a d := clampI_lo _
theorem addI_hi (a d : Int) : addI a d ≤ 1099511627776 := clampI_hi _
theorem clamp_add (a d : Int) : clampI (addI a d) = addI a d := clampI_in (addI_lo a d) (addI_hi a d)
theorem clamp_clamp (a : Int) : clampI (clampI a) = clampI a := clampI_in (clampI_lo a) (clampI_hi a)
theorem ck_add_le (a d : Int) : clampI a ≤ addI a d := by
  have h0 := clampI_lo a; have h1 := clampI_hi a; have h2 := clampI_lo d
  rw [addI_min]; omega
theorem ck_add_assoc (a d e : Int) : addI (addI a d) e = addI a (addI d e) := by
  have h0 := clampI_lo a; have h1 := clampI_hi a; have h2 := clampI_lo d; have h3 := clampI_hi d; have h4 := clampI_lo e; have h5 := clampI_hi e
  rw [addI_min (addI a d) e, addI_min a (addI d e), clamp_add, clamp_add, addI_min, addI_min]
  omega
theorem since_add (a d : Int) (h : addI a d ≠ 1099511627776) : sinceI a (addI a d) = clampI d := by
  have h0 := clampI_lo a; have h1 := clampI_hi a; have h2 := clampI_lo d; have h3 := clampI_hi d
  unfold sinceI
  rw [clamp_add]
  have e : addI a d - clampI a = clampI d := by rw [addI_min] at h ⊢; omega
  rw [e, clamp_clamp]
theorem since_back (a d : Int) : sinceI (addI a d) (clampI a) = 0 := by
  have h := ck_add_le a d
  have h0 := clampI_lo a; have h1 := clampI_hi a
  unfold sinceI
  rw [clamp_add, clamp_clamp]
  by_cases e : clampI a - addI a d < 0
  · exact clampI_neg e
  · rw [clampI_in (z := clampI a - addI a d) (by omega) (by omega)]; omega
end Go.Proofs.YtanoakebbfidiaaDoor
