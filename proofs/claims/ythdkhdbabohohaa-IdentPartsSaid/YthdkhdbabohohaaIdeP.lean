/-
  LAYER 21, PLAIN: as many objects as have room, and what is answered.
-/
import Derived.Test.YthdkhdbabohohaaIde
namespace Go.Proofs.Ythdkhdbabohohaa
open Go.RowKit
set_option linter.unusedVariables false

/-- How many have room behind s bytes. -/
def fitF : Nat → List Ob → Nat
  | _, [] => 0
  | s, z :: L => if s + 2 + z.n ≤ 252 then fitF (s + 2 + z.n) L + 1 else 0
def partA (L FL : List Ob) (co : Int) : Prt :=
  ⟨co, levelO L, decide (fitF 6 FL < FL.length), if fitF 6 FL < FL.length then (FL[fitF 6 FL]?.getD zeroOb).id else 0, FL.take (fitF 6 FL)⟩
theorem fitF_le : ∀ (s : Nat) (L : List Ob), fitF s L ≤ L.length
  | _, [] => Nat.le_refl _
  | s, z :: L => by
    unfold fitF
    split
    · have := fitF_le (s + 2 + z.n) L; simp; omega
    · exact Nat.zero_le _
theorem fitF_room : ∀ (s : Nat) (L : List Ob), s ≤ 252 → s + lenO (L.take (fitF s L)) ≤ 252
  | s, [], h => by simp [lenO]; exact h
  | s, z :: L, h => by
    unfold fitF
    split
    · rename_i hz
      have := fitF_room (s + 2 + z.n) L hz
      rw [List.take_succ_cons]
      show s + (2 + z.n + lenO (L.take (fitF (s + 2 + z.n) L))) ≤ 252
      omega
    · simp [lenO]; exact h
/-- The next one has none. -/
theorem fitF_next : ∀ (s : Nat) (L : List Ob) (z : Ob), L[fitF s L]? = some z → 252 < s + lenO (L.take (fitF s L)) + 2 + z.n
  | s, [], z, h => by simp at h
  | s, y :: L, z, h => by
    unfold fitF at h ⊢
    split at h
    · rename_i hy
      rw [if_pos hy]
      rw [List.getElem?_cons_succ] at h
      have := fitF_next (s + 2 + y.n) L z h
      rw [List.take_succ_cons]
      show 252 < s + (2 + y.n + lenO (L.take (fitF (s + 2 + y.n) L))) + 2 + z.n
      omega
    · rename_i hy
      rw [if_neg hy]
      simp at h
      subst h
      simp [lenO]; omega
theorem fitF_drop : ∀ (k : Nat) (s : Nat) (L : List Ob), k ≤ fitF s L → fitF s L = k + fitF (s + lenO (L.take k)) (L.drop k)
  | 0, s, L, _ => by simp [lenO]
  | k + 1, s, [], h => by simp [fitF] at h
  | k + 1, s, z :: L, h => by
    unfold fitF at h
    split at h
    · rename_i hz
      have ih := fitF_drop k (s + 2 + z.n) L (by omega)
      have e : fitF s (z :: L) = fitF (s + 2 + z.n) L + 1 := by conv => lhs; unfold fitF; rw [if_pos hz]
      rw [e, ih, List.take_succ_cons, List.drop_succ_cons]
      show _ = k + 1 + fitF (s + (2 + z.n + lenO (L.take k))) (L.drop k)
      rw [show s + (2 + z.n + lenO (L.take k)) = s + 2 + z.n + lenO (L.take k) by omega]; omega
    · omega
theorem fitF_same : ∀ (s : Nat) {L M : List Ob}, sameO L M = true → fitF s L = fitF s M
  | _, [], [], _ => rfl
  | _, [], _ :: _, h => by simp [sameO] at h
  | _, _ :: _, [], h => by simp [sameO] at h
  | s, x :: L, y :: M, h => by
    unfold sameO at h
    rw [Bool.and_eq_true] at h
    have e := (sameZ_iff.1 h.1).2.1
    unfold fitF
    rw [e, fitF_same (s + 2 + y.n) h.2]
theorem partA_same {L L' F F' : List Ob} {co : Int} (h : sameO L L' = true) (k : sameO F F' = true) : sameP (partA L F co) (partA L' F' co) = true := by
  have e1 := fitF_same 6 k
  have e2 := sameO_len k
  have hl : levelO L = levelO L' := by
    unfold levelO
    rw [rightO_same h]
    have : lastO L = lastO L' := by
      unfold lastO
      rw [sameO_len h]
      by_cases hz : L'.length = 0
      · rw [List.getElem?_eq_none (by rw [sameO_len h]; omega), List.getElem?_eq_none (by omega)]
      · rw [List.getElem?_eq_getElem (by rw [sameO_len h]; omega), List.getElem?_eq_getElem (by omega)]
        exact (sameZ_iff.1 (sameO_at h _ _)).1
    rw [this]
  refine sameP_iff.2 ⟨rfl, hl, ?_, ?_, ?_⟩
  · show decide _ = decide _; rw [e1, e2]
  · show (if _ then _ else _) = (if _ then _ else _)
    rw [e1, e2]
    by_cases hf : fitF 6 F' < F'.length
    · rw [if_pos hf, if_pos hf, List.getElem?_eq_getElem (by rw [e2]; exact hf), List.getElem?_eq_getElem hf]
      exact (sameZ_iff.1 (sameO_at k _ _)).1
    · rw [if_neg hf, if_neg hf]
  · show sameO (F.take _) (F'.take _) = true
    rw [e1]; exact sameO_take k _
/-- A part of a device's objects may be. -/
theorem partA_right {L F : List Ob} {co : Int} (h : rightO L = true) (c1 : 1 ≤ co) (c4 : co ≤ 4) (hF : ∀ z ∈ F, okD z = true) : rightP (partA L F co) = true := by
  have hr := fitF_room 6 F (by omega)
  have hl := lenO_sum (F.take (fitF 6 F))
  obtain ⟨l1, l3⟩ := level_bd h
  refine rightP_iff.2 ⟨allD_iff.2 fun z hz => hF z (List.mem_of_mem_take hz), ⟨c1, c4, l1, l3⟩, ?_, ?_, hr⟩
  · unfold nxB
    by_cases hf : fitF 6 F < F.length
    · have e : (partA L F co).mo = true := decide_eq_true hf
      rw [if_pos e]
      have e2 : (partA L F co).nx = (F[fitF 6 F]).id := by show (if _ then _ else _) = _; rw [if_pos hf, List.getElem?_eq_getElem hf]; rfl
      rw [e2]
      have := okD_iff.1 (hF _ (List.getElem_mem hf))
      exact decide_eq_true ⟨this.1, this.2.1⟩
    · have e : (partA L F co).mo = false := decide_eq_false hf
      rw [if_neg (by rw [e]; decide)]
      exact decide_eq_true (by show (if _ then _ else _) = _; rw [if_neg hf])
  · show (F.take (fitF 6 F)).length ≤ 255
    omega
theorem right_okD {L : List Ob} (h : rightO L = true) : ∀ z ∈ L, okD z = true := fun z hz => by
  obtain ⟨a, b, _, d⟩ := okO_iff.1 (risO_mem (right_ris h) z hz).2
  exact okD_iff.2 ⟨a, b, d⟩
theorem fromO_mem {L : List Ob} {s id : Int} : ∀ z ∈ fromO s id L, z ∈ L := fun z hz => by
  have h1 : ∀ y ∈ ofO s L, y ∈ L := fun y hy => (List.mem_filter.1 hy).1
  unfold fromO at hz
  split at hz
  · exact h1 z hz
  · exact h1 z ((atO_sub _ _).2 z hz)
/-- The error of an answer, and the part that is told. -/
def ansE (L : List Ob) (n : Nat) (f : Nat → Int) : Int :=
  if rightO L = false then 11 else if n = 0 ∨ f 0 ≠ 14 then 1 else if n ≠ 3 ∨ f 1 < 1 ∨ 4 < f 1 then 3 else if f 1 = 4 ∧ (findO (f 2) L).isSome = false then 2 else 0
def ansL (L : List Ob) (f : Nat → Int) : List Ob := if f 1 = 4 then [(findO (f 2) L).getD zeroOb] else fromO (f 1) (f 2) L
def ansP (L : List Ob) (f : Nat → Int) : Prt := partA L (ansL L f) (f 1)
theorem ans_ways (L : List Ob) (n : Nat) (f : Nat → Int) :
    (ansE L n f = 11 ∧ rightO L = false) ∨ (rightO L = true ∧ ((ansE L n f = 1 ∧ (n = 0 ∨ (n ≠ 0 ∧ f 0 ≠ 14))) ∨ (n ≠ 0 ∧ f 0 = 14 ∧ ((ansE L n f = 3 ∧ (n ≠ 3 ∨ (n = 3 ∧ (f 1 < 1 ∨ (1 ≤ f 1 ∧ 4 < f 1))))) ∨ (n = 3 ∧ 1 ≤ f 1 ∧ f 1 ≤ 4 ∧
      ((ansE L n f = 2 ∧ f 1 = 4 ∧ (findO (f 2) L).isSome = false) ∨ (ansE L n f = 0 ∧ f 1 = 4 ∧ (findO (f 2) L).isSome = true) ∨ (ansE L n f = 0 ∧ f 1 ≠ 4))))))) := by
  unfold ansE
  cases hr : rightO L with
  | false => exact .inl ⟨by rw [if_pos rfl], rfl⟩
  | true =>
    refine .inr ⟨rfl, ?_⟩
    rw [if_neg (by decide)]
    by_cases h1 : n = 0 ∨ f 0 ≠ 14
    · rw [if_pos h1]
      exact .inl ⟨rfl, by rcases h1 with h | h; exact .inl h; by_cases hn : n = 0; exact .inl hn; exact .inr ⟨hn, h⟩⟩
    · rw [if_neg h1]
      have hn : n ≠ 0 := fun e => h1 (.inl e)
      have h14 : f 0 = 14 := by
        by_cases e : f 0 = 14
        · exact e
        · exact absurd (.inr e) h1
      refine .inr ⟨hn, h14, ?_⟩
      by_cases h3 : n ≠ 3 ∨ f 1 < 1 ∨ 4 < f 1
      · rw [if_pos h3]
        refine .inl ⟨rfl, ?_⟩
        by_cases hn3 : n = 3
        · refine .inr ⟨hn3, ?_⟩
          rcases h3 with h | h | h
          · exact absurd hn3 h
          · exact .inl h
          · exact .inr ⟨by omega, h⟩
        · exact .inl hn3
      · rw [if_neg h3]
        refine .inr ⟨by omega, by omega, by omega, ?_⟩
        by_cases h4 : f 1 = 4
        · cases hf : (findO (f 2) L).isSome with
          | false => rw [if_pos ⟨h4, rfl⟩]; exact .inl ⟨rfl, h4, rfl⟩
          | true => rw [if_neg (fun h => by cases h.2)]; exact .inr (.inl ⟨rfl, h4, rfl⟩)
        · rw [if_neg (fun h => h4 h.1)]; exact .inr (.inr ⟨rfl, h4⟩)
theorem ansL_mem {L : List Ob} {f : Nat → Int} (h : f 1 = 4 → (findO (f 2) L).isSome = true) : ∀ z ∈ ansL L f, z ∈ L := fun z hz => by
  unfold ansL at hz
  split at hz
  · rename_i h4
    have hs := h h4
    cases hf : findO (f 2) L with
    | none => rw [hf] at hs; cases hs
    | some y =>
      rw [hf] at hz
      have : z = y := by simpa using hz
      rw [this]; exact findO_mem hf
  · exact fromO_mem z hz
end Go.Proofs.Ythdkhdbabohohaa
