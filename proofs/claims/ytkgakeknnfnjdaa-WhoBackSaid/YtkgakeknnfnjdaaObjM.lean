/-
  LAYER 20, PLAIN: what follows of objects that may be a device's: IDs rise, each sort has those of the sorts ahead, the level is the least sort that has all.
-/
import Derived.Test.YtkgakeknnfnjdaaObj
namespace Go.Proofs.Ytkgakeknnfnjdaa
open Go.RowKit
set_option linter.unusedVariables false

theorem okO_iff {z : Ob} : okO z = true ↔ 0 ≤ z.id ∧ z.id ≤ 255 ∧ (z.id ≤ 6 ∨ 128 ≤ z.id) ∧ z.n ≤ 240 := by unfold okO; rw [decide_eq_true_iff]
theorem risO_cons {p : Int} {z : Ob} {L : List Ob} : risO p (z :: L) = true ↔ okO z = true ∧ p < z.id ∧ risO z.id L = true := by
  show (okO z && decide (p < z.id) && risO z.id L) = true ↔ _
  rw [Bool.and_eq_true, Bool.and_eq_true, decide_eq_true_iff, and_assoc]
theorem risO_le : ∀ {L : List Ob} {p q : Int}, risO p L = true → q ≤ p → risO q L = true
  | [], _, _, _, _ => rfl
  | z :: L, p, q, h, hq => by
    obtain ⟨h1, h2, h3⟩ := risO_cons.1 h
    exact risO_cons.2 ⟨h1, by omega, h3⟩
theorem risO_mem : ∀ {L : List Ob} {p : Int}, risO p L = true → ∀ z ∈ L, p < z.id ∧ okO z = true
  | x :: L, p, h, z, hz => by
    obtain ⟨h1, h2, h3⟩ := risO_cons.1 h
    rcases List.mem_cons.1 hz with rfl | hz
    · exact ⟨h2, h1⟩
    · have := risO_mem h3 z hz; exact ⟨by omega, this.2⟩
theorem risO_filter {P : Ob → Bool} : ∀ {L : List Ob} {p : Int}, risO p L = true → risO p (L.filter P) = true
  | [], _, _ => rfl
  | x :: L, p, h => by
    obtain ⟨h1, h2, h3⟩ := risO_cons.1 h
    rw [List.filter_cons]
    split
    · exact risO_cons.2 ⟨h1, h2, risO_filter h3⟩
    · exact risO_le (risO_filter h3) (by omega)
theorem risO_find : ∀ {L : List Ob} {p : Int}, risO p L = true → ∀ z ∈ L, findO z.id L = some z
  | x :: L, p, h, z, hz => by
    obtain ⟨h1, h2, h3⟩ := risO_cons.1 h
    unfold findO
    rcases List.mem_cons.1 hz with rfl | hz
    · rw [if_pos rfl]
    · rw [if_neg (by have := (risO_mem h3 z hz).1; omega)]; exact risO_find h3 z hz
theorem risO_last : ∀ {L : List Ob} {p : Int}, risO p L = true → ∀ (x : Ob), L[L.length - 1]? = some x → ∀ z ∈ L, z.id ≤ x.id
  | y :: L, p, h, x, hx, z, hz => by
    obtain ⟨h1, h2, h3⟩ := risO_cons.1 h
    cases L with
    | nil =>
      simp at hx hz
      rw [hz, hx]; exact Int.le_refl _
    | cons u L =>
      have hx' : (u :: L)[(u :: L).length - 1]? = some x := by
        rw [show (y :: u :: L).length - 1 = ((u :: L).length - 1) + 1 by simp] at hx
        rw [List.getElem?_cons_succ] at hx; exact hx
      have hm : x ∈ u :: L := List.mem_of_getElem? hx'
      rcases List.mem_cons.1 hz with rfl | hz
      · have := (risO_mem h3 x hm).1; omega
      · exact risO_last h3 x hx' z hz
theorem right_ris {L : List Ob} (h : rightO L = true) : risO (-1) L = true := by unfold rightO at h; rw [Bool.and_eq_true] at h; exact h.1
theorem right_fir {L : List Ob} (h : rightO L = true) : ∃ x y z M, L = x :: y :: z :: M ∧ x.id = 0 ∧ y.id = 1 ∧ z.id = 2 := by
  unfold rightO at h
  rw [Bool.and_eq_true] at h
  match L, h.2 with
  | x :: y :: z :: M, hf =>
    obtain ⟨h1, h2, h3⟩ := of_decide_eq_true hf
    exact ⟨x, y, z, M, rfl, h1, h2, h3⟩
theorem right_len {L : List Ob} (h : rightO L = true) : 3 ≤ L.length := by
  obtain ⟨x, y, z, M, rfl, _⟩ := right_fir h
  simp
theorem of_len {L : List Ob} (h : rightO L = true) {s : Int} (h1 : 1 ≤ s) (h3 : s ≤ 3) : 3 ≤ (ofO s L).length := by
  obtain ⟨x, y, z, M, rfl, e0, e1, e2⟩ := right_fir h
  have key : ∀ i : Int, 0 ≤ i → i ≤ 2 → ofI s i = true := by
    intro i a b
    unfold ofI
    rcases (show s = 1 ∨ s = 2 ∨ s = 3 by omega) with rfl | rfl | rfl
    · rw [if_pos rfl]; exact decide_eq_true ⟨a, b⟩
    · rw [if_neg (by decide), if_pos rfl]; exact decide_eq_true ⟨a, by omega⟩
    · rw [if_neg (by decide), if_neg (by decide)]; rfl
  unfold ofO
  rw [List.filter_cons, List.filter_cons, List.filter_cons, if_pos (key _ (by omega) (by omega)), if_pos (key _ (by omega) (by omega)), if_pos (key _ (by omega) (by omega))]
  simp
theorem last_mem {L : List Ob} (h : rightO L = true) : ∃ x, L[L.length - 1]? = some x ∧ lastO L = x.id ∧ x ∈ L := by
  have hl := right_len h
  have e := List.getElem?_eq_getElem (l := L) (i := L.length - 1) (by omega)
  exact ⟨_, e, by unfold lastO; rw [e]; rfl, List.getElem_mem _⟩
theorem level_bd {L : List Ob} (h : rightO L = true) : 1 ≤ levelO L ∧ levelO L ≤ 3 := by
  unfold levelO; rw [if_pos h]
  split
  · omega
  · split <;> omega
/-- From the level on, a sort has all. -/
theorem of_all {L : List Ob} (h : rightO L = true) {s : Int} (h3 : s ≤ 3) (hs : levelO L ≤ s) : ofO s L = L := by
  obtain ⟨x, hx, hl, hm⟩ := last_mem h
  have hr := right_ris h
  unfold ofO
  rw [List.filter_eq_self]
  intro z hz
  have hle := risO_last hr x hx z hz
  obtain ⟨hgt, hok⟩ := risO_mem hr z hz
  have hok := okO_iff.1 hok
  have hokx := okO_iff.1 (risO_mem hr x hm).2
  unfold levelO at hs
  rw [if_pos h, hl] at hs
  unfold ofI
  by_cases e1 : s = 1
  · rw [if_pos e1]
    refine decide_eq_true ⟨by omega, ?_⟩
    split at hs
    · omega
    · split at hs <;> omega
  · rw [if_neg e1]
    by_cases e2 : s = 2
    · rw [if_pos e2]
      refine decide_eq_true ⟨by omega, ?_⟩
      split at hs
      · omega
      · omega
    · rw [if_neg e2]
      refine decide_eq_true ?_
      split at hs
      · omega
      · split at hs <;> omega
/-- Below the level, it lacks the last one. -/
theorem of_less {L : List Ob} (h : rightO L = true) {s : Int} (h1 : 1 ≤ s) (hs : s < levelO L) : (ofO s L).length < L.length := by
  obtain ⟨x, hx, hl, hm⟩ := last_mem h
  unfold ofO
  refine List.length_filter_lt_length_iff_exists.2 ⟨x, hm, ?_⟩
  unfold levelO at hs
  rw [if_pos h, hl] at hs
  unfold ofI
  by_cases e1 : s = 1
  · rw [if_pos e1]
    simp only [decide_eq_true_eq]
    split at hs
    · omega
    · split at hs <;> omega
  · rw [if_neg e1]
    by_cases e2 : s = 2
    · rw [if_pos e2]
      simp only [decide_eq_true_eq]
      split at hs
      · omega
      · split at hs <;> omega
    · split at hs
      · omega
      · split at hs <;> omega
theorem level_same {L : List Ob} (h : rightO L = true) {s : Int} (h1 : 1 ≤ s) (h3 : s ≤ 3) : sameO (ofO s L) L = decide (levelO L ≤ s) := by
  by_cases hs : levelO L ≤ s
  · rw [of_all h h3 hs, sameO_refl, decide_eq_true hs]
  · rw [decide_eq_false hs]
    exact sameO_len_ne (by have := of_less h h1 (by omega); omega)
/-- A sort's objects are of the next one. -/
theorem of_next {L : List Ob} (h : rightO L = true) {s t : Int} (h1 : 1 ≤ s) (hst : s ≤ t) (h3 : t ≤ 3) {z : Ob} (hz : z ∈ ofO s L) : findO z.id (ofO t L) = some z := by
  unfold ofO at hz ⊢
  rw [List.mem_filter] at hz
  refine risO_find (risO_filter (right_ris h)) z (List.mem_filter.2 ⟨hz.1, ?_⟩)
  have hh := hz.2
  unfold ofI at hh ⊢
  rcases (show t = 1 ∨ t = 2 ∨ t = 3 by omega) with rfl | rfl | rfl
  · rw [show s = 1 by omega] at hh; exact hh
  · rcases (show s = 1 ∨ s = 2 by omega) with rfl | rfl
    · rw [if_pos rfl] at hh
      rw [if_neg (by decide), if_pos rfl]
      have := of_decide_eq_true hh
      exact decide_eq_true (by omega)
    · exact hh
  · rw [if_neg (by decide), if_neg (by decide)]; rfl
theorem of_find {L : List Ob} (h : rightO L = true) {s : Int} {z : Ob} (hz : z ∈ ofO s L) : findO z.id L = some z := by
  unfold ofO at hz
  rw [List.mem_filter] at hz
  exact risO_find (right_ris h) z hz.1
theorem atO_drop (id : Int) : ∀ L : List Ob, atO id L = [] ∨ ∃ k z, L[k]? = some z ∧ atO id L = L.drop k ∧ z.id = id
  | [] => .inl rfl
  | z :: L => by
    unfold atO
    by_cases h : z.id = id
    · rw [if_pos h]; exact .inr ⟨0, z, rfl, rfl, h⟩
    · rw [if_neg h]
      rcases atO_drop id L with e | ⟨k, y, h1, h2, h3⟩
      · exact .inl e
      · exact .inr ⟨k + 1, y, by simpa using h1, by simpa using h2, h3⟩
/-- From one on: the end of all of the sort, from the one that was asked for, if there is one. -/
theorem from_drop (s id : Int) (L : List Ob) (h : (ofO s L) ≠ []) : ∃ k z, (ofO s L)[k]? = some z ∧ fromO s id L = (ofO s L).drop k ∧ (z.id = id ∨ k = 0) := by
  unfold fromO
  by_cases e : atO id (ofO s L) = []
  · rw [if_pos e]
    cases ho : ofO s L with
    | nil => exact absurd ho h
    | cons z M => exact ⟨0, z, rfl, rfl, .inr rfl⟩
  · rw [if_neg e]
    rcases atO_drop id (ofO s L) with e2 | ⟨k, z, h1, h2, h3⟩
    · exact absurd e2 e
    · exact ⟨k, z, h1, h2, .inl h3⟩
end Go.Proofs.Ytkgakeknnfnjdaa
