/-
  LAYER 25, PLAIN: what is planned is heard as one segment.
-/
import Derived.Test.YtebhalehgpigoaaSendR
namespace Go.Proofs.Ytebhalehgpigoaa
open Go.RowKit
set_option linter.unusedVariables false

theorem addI_in {a b : Int} (h0 : 0 ≤ a) (h1 : 0 ≤ b) (h2 : a + b ≤ 1099511627776) : addI a b = a + b := by
  unfold addI; rw [clampI_in h0 (by omega), clampI_in h1 (by omega), clampI_in (by omega) h2]
/-- Bytes, one behind the other, with no silence. -/
def evB (t c : Int) (f : Nat → Int) (k : Nat) : Byt := (t + ((k : Int) + 1) * c, f k, false)
theorem mul_bd {k n : Nat} {c : Int} (h0 : 0 ≤ c) (h : k ≤ n) : 0 ≤ (k : Int) * c ∧ (k : Int) * c ≤ (n : Int) * c :=
  ⟨Int.mul_nonneg (by omega) h0, Int.mul_le_mul_of_nonneg_right (by omega) h0⟩
theorem mul_256 {n : Nat} {c : Int} (h0 : 0 ≤ c) (h1 : c ≤ 16777216) (h : n ≤ 256) : (n : Int) * c ≤ 4294967296 := by
  have := Int.mul_le_mul (show (n : Int) ≤ 256 by omega) h1 h0 (by omega)
  omega
theorem plan_at {c s l u T : Int} (hr : rightB c s l u = true) (h0 : 0 ≤ T) (h1 : T ≤ 549755813888) {k : Nat} (hk : k ≤ 256) : addI T (u + k * c) = T + u + k * c := by
  have hc := (rightB_iff c s l u).1 hr
  have h3 := mul_bd (k := k) (n := k) (c := c) (by omega) (Nat.le_refl _)
  have h4 := mul_256 (n := k) (c := c) (by omega) (by omega) hk
  rw [addI_in h0 (by omega) (by omega)]; omega
theorem hear_at {c s l u T : Int} (hr : rightB c s l u = true) (h0 : 0 ≤ T) (h1 : T ≤ 549755813888) {k : Nat} (hk : k ≤ 256) : addI (addI T (u + k * c)) c = T + u + ((k : Int) + 1) * c := by
  have hc := (rightB_iff c s l u).1 hr
  have h3 := mul_bd (k := k) (n := k) (c := c) (by omega) (Nat.le_refl _)
  have h4 := mul_256 (n := k) (c := c) (by omega) (by omega) hk
  rw [plan_at hr h0 h1 hk, addI_in (by omega) (by omega) (by omega), Int.add_mul, Int.one_mul]; omega
theorem hear_plan {c s l u T : Int} (f : Nat → Int) {n : Nat} (hr : rightB c s l u = true) (h0 : 0 ≤ T) (h1 : T ≤ 549755813888) (hn : n ≤ 256) : hearL c (planL T c u f n) = (List.range n).map (evB (T + u) c f) := by
  unfold hearL planL
  rw [List.map_map]
  refine List.map_congr_left fun k hk => ?_
  have hk' : k < n := List.mem_range.1 hk
  simp only [Function.comp]
  rw [hear_at hr h0 h1 (by omega)]; rfl
theorem cut_even {s l c : Int} (h1 : c ≤ s) (h2 : s < l) (t : Int) (f : Nat → Int) : ∀ (n j : Nat) (g : Seg), 0 < g.count → cutG s l false (t + (j : Int) * c) g ((List.range' j n).map (evB t c f)) = [((List.range' j n).map (evB t c f)).foldl oneS g]
  | 0, j, g, hg => by rw [List.range'_zero, List.map_nil, cutG_nil, if_pos hg]; rfl
  | n + 1, j, g, hg => by
    rw [List.range'_succ, List.map_cons, List.foldl_cons]
    have e : (evB t c f j).1 - (t + (j : Int) * c) = c := by unfold evB; simp only; rw [Int.add_mul, Int.one_mul]; omega
    rw [cutG_on (by rw [e]; omega) (by rw [e]; omega)]
    have e2 : (evB t c f j).1 = t + ((j + 1 : Nat) : Int) * c := by unfold evB; simp only; congr 2
    rw [e2]
    exact cut_even h1 h2 t f n (j + 1) _ (by unfold oneS; simp only; omega)
theorem rising_even {c : Int} (h0 : 1 ≤ c) (t : Int) (f : Nat → Int) : ∀ (n j : Nat) (z : Int), z ≤ t + ((j : Int) + 1) * c → t + ((j + n : Nat) : Int) * c ≤ 1099511627776 → risingI z ((List.range' j n).map (evB t c f)) = true
  | 0, j, z, h1, h2 => rfl
  | n + 1, j, z, h1, h2 => by
    rw [List.range'_succ, List.map_cons]
    have h3 := mul_bd (k := j + 1) (n := j + (n + 1)) (c := c) (by omega) (by omega)
    have e : ((j + 1 : Nat) : Int) * c = ((j : Int) + 1) * c := by congr 1
    rw [e] at h3
    rw [risingI_yes (by show ¬ (t + ((j : Int) + 1) * c < z); omega) (by show ¬ (1099511627776 < t + ((j : Int) + 1) * c); omega)]
    refine rising_even h0 t f n (j + 1) _ ?_ (by rw [show j + 1 + n = j + (n + 1) by omega]; exact h2)
    show t + ((j : Int) + 1) * c ≤ t + (((j + 1 : Nat) : Int) + 1) * c
    have : (((j + 1 : Nat) : Int) + 1) * c = ((j : Int) + 1) * c + c := by rw [Int.add_mul, Int.one_mul, ← e]
    omega
theorem fold_even (g : Bool) (t c : Int) (f : Nat → Int) : ∀ n, n ≤ 256 → ∃ S, ((List.range n).map (evB t c f)).foldl oneS (gapS zeroS g) = S ∧ S.n = n ∧ (∀ i, i < n → S.f i = f i) ∧ S.count = n ∧ S.gap = g ∧ S.bad = false ∧ (0 < n → S.last = t + (n : Int) * c)
  | 0, _ => ⟨_, rfl, rfl, fun i hi => absurd hi (Nat.not_lt_zero _), rfl, rfl, rfl, fun h => absurd h (Nat.lt_irrefl _)⟩
  | n + 1, hn => by
    obtain ⟨S, e, h1, h2, h3, h4, h5, -⟩ := fold_even g t c f n (by omega)
    rw [List.range_succ, List.map_append, List.foldl_append, e]
    refine ⟨_, rfl, ?_, ?_, ?_, ?_, ?_, fun _ => ?_⟩
    · show (if S.n < 256 then S.n + 1 else S.n) = n + 1
      rw [h1, if_pos (by omega)]
    · intro i hi
      show (if S.n < 256 then upd S.f S.n (f n) else S.f) i = f i
      rw [h1, if_pos (by omega)]
      unfold upd
      split
      · rename_i h; rw [h]
      · exact h2 i (by omega)
    · show S.count + 1 = n + 1
      rw [h3]
    · exact h4
    · show (S.bad || false) = false
      rw [h5]; rfl
    · show t + ((n : Int) + 1) * c = _
      congr 2
/-- One segment. -/
theorem plan_whole {c s l u T : Int} (f : Nat → Int) {n : Nat} (hr : rightB c s l u = true) (h0 : 0 ≤ T) (h1 : T ≤ 549755813888) (hn : n ≤ 256) (hn0 : 0 < n) :
    ∃ S, allS c s l u T (hearL c (planL T c u f n)) = [S] ∧ S.n = n ∧ (∀ i, i < n → S.f i = f i) ∧ S.count = n ∧ S.gap = decide (u + c < l) ∧ S.bad = false ∧ S.last = T + u + (n : Int) * c := by
  have hc := (rightB_iff c s l u).1 hr
  have h4 := mul_256 (n := n) (c := c) (by omega) (by omega) hn
  rw [hear_plan f hr h0 h1 hn]
  have hR : rightI ((List.range n).map (evB (T + u) c f)) T = true := by
    unfold rightI
    rw [List.range_eq_range', rising_even (by omega) (T + u) f n 0 T (by simp; omega) (by rw [Nat.zero_add]; omega), decide_eq_true (by omega)]; rfl
  obtain ⟨S, e, k1, k2, k3, k4, k5, k6⟩ := fold_even (decide (u + c < l)) (T + u) c f n hn
  refine ⟨S, ?_, k1, k2, k3, k4, k5, k6 hn0⟩
  unfold allS
  rw [if_pos ⟨hr, hR⟩]
  obtain ⟨m, rfl⟩ : ∃ m, n = m + 1 := ⟨n - 1, by omega⟩
  rw [← e, List.range_eq_range', List.range'_succ, List.map_cons, List.foldl_cons, cutG_first]
  have e1 : (evB (T + u) c f 0).1 = T + u + ((0 + 1 : Nat) : Int) * c := by unfold evB; simp
  have e2 : (evB (T + u) c f 0).1 - T = u + c := by rw [e1]; simp; omega
  rw [e2, e1]
  exact cut_even hc.2.1 hc.2.2.1 (T + u) f m (0 + 1) _ (by show 0 < 0 + 1; omega)
theorem plan_last {c s l u T : Int} (f : Nat → Int) {n : Nat} (hr : rightB c s l u = true) (h0 : 0 ≤ T) (h1 : T ≤ 549755813888) (hn : n ≤ 256) (hn0 : 0 < n) : endO c s l u (planL T c u f n) = T + u + (n : Int) * c := by
  unfold endO
  rw [planL_length, if_neg (by rw [hr]; rintro (h | h); omega; cases h), lastO_at (k := n - 1) (by rw [planL_length]; omega)]
  unfold planL
  simp only [List.getElem_map, List.getElem_range]
  rw [hear_at hr h0 h1 (by omega)]
  congr 2; omega
theorem plan_first {c s l u T : Int} (f : Nat → Int) {n : Nat} (hr : rightB c s l u = true) (h0 : 0 ≤ T) (h1 : T ≤ 549755813888) (hn0 : 0 < n) : (planL T c u f n)[0]'(by rw [planL_length]; exact hn0) = (T + u, f 0) := by
  unfold planL
  simp only [List.getElem_map, List.getElem_range]
  rw [plan_at hr h0 h1 (by omega)]; simp
theorem span_of {c s l u : Int} {n : Nat} (hr : rightB c s l u = true) (hn : n ≤ 256) (hn0 : 0 < n) : spanI c s l u n = (n : Int) * c := by
  have hc := (rightB_iff c s l u).1 hr
  unfold spanI
  rw [if_pos ⟨hr, by omega⟩, if_neg]
  have : (65536 : Int) ≤ 1099511627776 / c := by
    rw [Int.le_ediv_iff_mul_le (by omega)]; omega
  omega
end Go.Proofs.Ytebhalehgpigoaa
