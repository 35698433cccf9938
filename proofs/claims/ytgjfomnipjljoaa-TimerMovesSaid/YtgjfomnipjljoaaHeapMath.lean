/-
  HEAPS, PLAIN: a row 'a 0 .. a (n - 1)' in which no element comes ahead of its parent; what 'up' and 'down' do with it.
-/
import Derived.Laws.BitsAllLaws
namespace Go.Proofs.Ytgjfomnipjljoaa

/-- Two elements in each other's places. -/
def swp {E : Type} (a : Nat → E) (i j : Nat) : Nat → E := fun k => if k = i then a j else if k = j then a i else a k
def par (j : Nat) : Nat := (j - 1) / 2
/-- An order: 'lt' is told; what isn't ahead of what isn't ahead isn't ahead. -/
structure Order {E : Type} (lt : E → E → Bool) : Prop where
  tr : ∀ {x y z}, lt y x = false → lt z y = false → lt z x = false
  asym : ∀ {x y}, lt x y = true → lt y x = false
section
variable {E : Type}
theorem swp_left (a : Nat → E) (i j : Nat) : swp a i j i = a j := if_pos rfl
theorem swp_right (a : Nat → E) (i j : Nat) : swp a i j j = a i := by
  by_cases h : j = i
  · subst h; exact swp_left a _ _
  · unfold swp; rw [if_neg h, if_pos rfl]
theorem swp_other (a : Nat → E) {i j k : Nat} (h : k ≠ i) (h' : k ≠ j) : swp a i j k = a k := by unfold swp; rw [if_neg h, if_neg h']
theorem swp_self (a : Nat → E) (i : Nat) : swp a i i = a := by 
  funext k
  by_cases h : k = i
  · subst h; exact swp_left a _ _
  · exact swp_other a h h
theorem swp_perm (a : Nat → E) {i j n : Nat} (hi : i < n) (hj : j < n) : ((List.range n).map (swp a i j)).Perm ((List.range n).map a) := by
  have hs : ((List.range n).map a).toArray.size = n := by simp
  have h := Array.swap_perm (xs := ((List.range n).map a).toArray) (i := i) (j := j) (by omega) (by omega)
  have e : (((List.range n).map a).toArray.swap i j (by omega) (by omega)).toList = (List.range n).map (swp a i j) := by
    apply List.ext_getElem
    · simp
    · intro k h1 h2
      have hk : k < n := by simpa using h2
      simp only [Array.getElem_toList, List.getElem_map, List.getElem_range]
      rw [Array.getElem_swap]
      unfold swp
      by_cases h1 : k = i
      · subst h1; simp
      · by_cases h2 : k = j
        · subst h2; simp
        · simp [h1, h2]
  have h3 := h.toList
  rw [e] at h3
  simpa using h3
variable (lt : E → E → Bool)
def Heap (a : Nat → E) (n : Nat) : Prop := ∀ k, 0 < k → k < n → lt (a k) (a (par k)) = false
/-- All but perhaps j against its parent. -/
def UpInv (a : Nat → E) (n j : Nat) : Prop := (∀ k, 0 < k → k < n → k ≠ j → lt (a k) (a (par k)) = false) ∧ (∀ k, 0 < k → k < n → par k = j → 0 < j → lt (a k) (a (par j)) = false)
/-- All but perhaps i against its parent, and its children against it. -/
def FixInv (a : Nat → E) (n i : Nat) : Prop := (∀ k, 0 < k → k < n → k ≠ i → par k ≠ i → lt (a k) (a (par k)) = false) ∧ (∀ k, 0 < k → k < n → par k = i → 0 < i → lt (a k) (a (par i)) = false)
/-- All but perhaps i's children against it. -/
def DownInv (a : Nat → E) (n i : Nat) : Prop := FixInv lt a n i ∧ (0 < i → i < n → lt (a i) (a (par i)) = false)
variable {lt}
theorem par_lt {j : Nat} (h : 0 < j) : par j < j := by unfold par; omega
theorem par_iff {j k : Nat} (h : 0 < k) : par k = j ↔ k = 2 * j + 1 ∨ k = 2 * j + 2 := by unfold par; omega
theorem UpInv.heap0 {a : Nat → E} {n : Nat} (h : UpInv lt a n 0) : Heap lt a n := fun k h0 hk => h.1 k h0 hk (by omega)
theorem UpInv.done {a : Nat → E} {n j : Nat} (h : UpInv lt a n j) (hj : lt (a j) (a (par j)) = false) : Heap lt a n := fun k h0 hk => by
  by_cases e : k = j
  · subst e; exact hj
  · exact h.1 k h0 hk e
theorem UpInv.step {a : Nat → E} {n j : Nat} (o : Order lt) (h : UpInv lt a n j) (h0 : 0 < j) (hl : lt (a j) (a (par j)) = true) : UpInv lt (swp a (par j) j) n (par j) := by
  have hp := par_lt h0
  have hle := o.asym hl
  refine ⟨fun k k0 kn hne => ?_, fun k k0 kn hk hpj => ?_⟩
  · by_cases e : k = j
    · subst e
      rw [swp_right, swp_left]; exact hle
    · rw [swp_other a hne e]
      by_cases e1 : par k = par j
      · rw [e1, swp_left]
        have := h.1 k k0 kn e
        rw [e1] at this
        exact o.tr hle this
      · by_cases e2 : par k = j
        · rw [e2, swp_right]
          exact h.2 k k0 kn e2 h0
        · rw [swp_other a e1 e2]; exact h.1 k k0 kn e
  · have hpp := par_lt hpj
    rw [swp_other a (show par (par j) ≠ par j by omega) (show par (par j) ≠ j by omega)]
    have hg := h.1 (par j) hpj (by have := par_lt k0; omega) (by omega)
    by_cases e : k = j
    · subst e; rw [swp_right]; exact hg
    · rw [swp_other a (by have := par_lt k0; omega) e]
      have := h.1 k k0 kn e
      rw [hk] at this
      exact o.tr hg this
/-- One step down: j is a child of i, the other one is not ahead of it, j is ahead of i. -/
theorem FixInv.step {a : Nat → E} {n i j : Nat} (o : Order lt) (h : FixInv lt a n i) (hj : 0 < j) (hp : par j = i) (hjn : j < n) (hl : lt (a j) (a i) = true) (hs : ∀ k, 0 < k → k < n → par k = i → lt (a k) (a j) = false) : DownInv lt (swp a i j) n j := by
  have hij : i < j := by have := par_lt hj; omega
  have hle := o.asym hl
  refine ⟨⟨fun k k0 kn hne hpk => ?_, fun k k0 kn hpk _ => ?_⟩, fun _ _ => ?_⟩
  · by_cases e : k = i
    · subst e
      have hpi := par_lt k0
      rw [swp_left, swp_other a (by omega) hpk]
      exact h.2 j hj hjn hp k0
    · rw [swp_other a e hne]
      by_cases e1 : par k = i
      · rw [e1, swp_left]; exact hs k k0 kn e1
      · rw [swp_other a e1 hpk]; exact h.1 k k0 kn e e1
  · have hkj : j < k := by have := par_lt k0; omega
    rw [hp, swp_left, swp_other a (by omega) (by omega)]
    have := h.1 k k0 kn (by omega) (by omega)
    rw [hpk] at this; exact this
  · rw [hp, swp_left, swp_right]; exact hle
theorem FixInv.up {a : Nat → E} {n i : Nat} (h : FixInv lt a n i) (hs : ∀ k, 0 < k → k < n → par k = i → lt (a k) (a i) = false) : UpInv lt a n i :=
  ⟨fun k k0 kn e => by
    by_cases e1 : par k = i
    · rw [e1]; exact hs k k0 kn e1
    · exact h.1 k k0 kn e e1, h.2⟩
theorem DownInv.done {a : Nat → E} {n i : Nat} (h : DownInv lt a n i) (hs : ∀ k, 0 < k → k < n → par k = i → lt (a k) (a i) = false) : Heap lt a n := fun k k0 kn => by
  by_cases e : k = i
  · subst e; exact h.2 k0 kn
  · exact (h.1.up hs).1 k k0 kn e
/-- The smaller child. -/
def kid (lt : E → E → Bool) (a : Nat → E) (n i : Nat) : Nat := if 2 * i + 2 < n ∧ lt (a (2 * i + 2)) (a (2 * i + 1)) = true then 2 * i + 2 else 2 * i + 1
theorem kid_par (a : Nat → E) (n i : Nat) : par (kid lt a n i) = i ∧ 0 < kid lt a n i := by unfold kid; split <;> exact ⟨by unfold par; omega, by omega⟩
theorem kid_lt (a : Nat → E) {n i : Nat} (h : 2 * i + 1 < n) : kid lt a n i < n := by unfold kid; split <;> omega
theorem kid_least (o : Order lt) (irr : ∀ x, lt x x = false) (a : Nat → E) {n i : Nat} : ∀ k, 0 < k → k < n → par k = i → lt (a k) (a (kid lt a n i)) = false := fun k k0 kn hk => by
  rcases (par_iff k0).1 hk with rfl | rfl
  · unfold kid; split
    · next h => exact o.asym h.2
    · exact irr _
  · unfold kid; split
    · exact irr _
    · next h => cases hb : lt (a (2 * i + 2)) (a (2 * i + 1)) with
      | false => rfl
      | true => exact absurd ⟨kn, hb⟩ h
/-- The root comes first. -/
theorem Heap.root (o : Order lt) (irr : ∀ x, lt x x = false) {a : Nat → E} {n : Nat} (h : Heap lt a n) : ∀ k, k < n → lt (a k) (a 0) = false := by
  intro k
  induction k using Nat.strongRecOn with
  | ind k ih =>
    intro hk
    by_cases e : k = 0
    · subst e; exact irr _
    · have hp := par_lt (show 0 < k by omega)
      exact o.tr (ih (par k) hp (by omega)) (h k (by omega) hk)
theorem Heap.less {a : Nat → E} {n m : Nat} (h : Heap lt a n) (hm : m ≤ n) : Heap lt a m := fun k k0 kn => h k k0 (by omega)
end
end Go.Proofs.Ytgjfomnipjljoaa
