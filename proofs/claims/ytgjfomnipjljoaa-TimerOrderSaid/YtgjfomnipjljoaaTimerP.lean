/-
  QUEUES, PLAIN: a heap of all that a sorted list holds.
-/
import Derived.Test.YtgjfomnipjljoaaPileB
import Derived.Test.YtgjfomnipjljoaaPileC
import Derived.Test.YtgjfomnipjljoaaHeapLib
namespace Go.Proofs.Ytgjfomnipjljoaa
open Go.RowKit

theorem before_order : Order beforeB := by
  refine ⟨fun {x y z} h k => ?_, fun {x y} h => ?_⟩
  · obtain ⟨a, b⟩ := x; obtain ⟨c, d⟩ := y; obtain ⟨e, f⟩ := z
    rw [← Bool.not_eq_true, beforeB_iff] at *; omega
  · obtain ⟨a, b⟩ := x; obtain ⟨c, d⟩ := y
    rw [beforeB_iff] at h
    rw [← Bool.not_eq_true, beforeB_iff]; omega
theorem before_irr (x : Int × Int) : beforeB x x = false := by
  obtain ⟨a, b⟩ := x
  rw [← Bool.not_eq_true, beforeB_iff]; omega
theorem before_eq {x y : Int × Int} (h : beforeB x y = false) (k : beforeB y x = false) : x = y := by
  obtain ⟨a, b⟩ := x; obtain ⟨c, d⟩ := y
  rw [← Bool.not_eq_true, beforeB_iff] at *
  have e1 : a = c := by omega
  have e2 : b = d := by omega
  rw [e1, e2]
theorem insI_perm (t : Int × Int) : ∀ L : List (Int × Int), (insI t L).Perm (t :: L)
  | [] => .refl _
  | y :: L => by
    unfold insI
    split
    · exact .refl _
    · exact ((insI_perm t L).cons y).trans (List.Perm.swap _ _ _)
theorem drop_perm {L M : List (Int × Int)} (h : L.Perm M) (q : Int) : (dropI L q).Perm (dropI M q) := h.filter _
theorem once_list {a : Nat → Int × Int} {n : Nat} (o : Once a n) {i : Nat} {R : List (Int × Int)} (h : (lstT a n).Perm (a i :: R)) : (dropI (lstT a n) (a i).1).Perm R := by
  have h1 := drop_perm h (a i).1
  have hnd : (lstT a n).Pairwise (fun x y => x.1 ≠ y.1) := by
    rw [List.pairwise_iff_getElem]
    intro k l hk hl hkl e
    have hk' : k < n := by rw [lstT_length] at hk; exact hk
    have hl' : l < n := by rw [lstT_length] at hl; exact hl
    have := o k l hk' hl' (by simpa [lstT] using e)
    omega
  have h2 := (h.pairwise_iff (R := fun x y : Int × Int => x.1 ≠ y.1) (fun h => Ne.symm h)).1 hnd
  have h3 := (List.pairwise_cons.1 h2).1
  have e : dropI (a i :: R) (a i).1 = R := by
    unfold dropI
    rw [List.filter_cons_of_neg (by simp)]
    exact List.filter_eq_self.2 fun x hx => by simpa using (h3 x hx).symm
  rw [e] at h1; exact h1
theorem upd_perm {a : Nat → Int × Int} {n k : Nat} (hk : k < n) (x : Int × Int) : ∃ R, (lstT a n).Perm (a k :: R) ∧ (lstT (upd a k x) n).Perm (x :: R) := by
  have hl : k < (lstT a n).length := by rw [lstT_length]; exact hk
  have hl2 : k < (lstT (upd a k x) n).length := by rw [lstT_length]; exact hk
  refine ⟨(lstT a n).eraseIdx k, ?_, ?_⟩
  · have := (eraseIdx_perm (lstT a n) k hl).symm
    have e : (lstT a n)[k] = a k := by simp [lstT]
    rw [e] at this; exact this
  · have := (eraseIdx_perm (lstT (upd a k x) n) k hl2).symm
    have e : (lstT (upd a k x) n)[k] = x := by simp [lstT, upd_same]
    have e2 : (lstT (upd a k x) n).eraseIdx k = (lstT a n).eraseIdx k := by
      apply List.ext_getElem?
      intro i
      rw [List.getElem?_eraseIdx, List.getElem?_eraseIdx]
      split
      · by_cases h : i < n
        · rw [lstT_get _ h, lstT_get _ h, upd_other _ _ _ _ (by omega)]
        · rw [List.getElem?_eq_none (by rw [lstT_length]; omega), List.getElem?_eq_none (by rw [lstT_length]; omega)]
      · by_cases h : i + 1 < n
        · rw [lstT_get _ h, lstT_get _ h, upd_other _ _ _ _ (by omega)]
        · rw [List.getElem?_eq_none (by rw [lstT_length]; omega), List.getElem?_eq_none (by rw [lstT_length]; omega)]
    rw [e, e2] at this; exact this
theorem mem_lstT {a : Nat → Int × Int} {n : Nat} {x : Int × Int} : x ∈ lstT a n ↔ ∃ k, k < n ∧ a k = x := by simp [lstT]
/-- Where a number stands in the heap, and whether it is due. -/
theorem due_at {a : Nat → Int × Int} {L : List (Int × Int)} (o : Once a L.length) (hp : (lstT a L.length).Perm L) (q : Int) :
    (plc a L.length q = none ∧ placeI L q < 0 ∧ whenI L q = (0, false) ∧ (∀ x ∈ L, x.1 ≠ q) ∧ ∀ k, k < L.length → (a k).1 ≠ q) ∨
      ∃ k : Nat, k < L.length ∧ plc a L.length q = some (k : Int) ∧ ¬ placeI L q < 0 ∧ (a k).1 = q ∧ whenI L q = ((a k).2, true) := by
  rcases plc_cases a L.length q o with ⟨h, hno⟩ | ⟨k, hk, e, h⟩
  · have hno2 : ∀ x ∈ L, x.1 ≠ q := fun x hx => by
      obtain ⟨j, hj, rfl⟩ := mem_lstT.1 (hp.mem_iff.2 hx)
      exact hno j hj
    have h1 := placeI_neg_iff.2 hno2
    rcases placeI_spec L q with ⟨_, h2, _⟩ | ⟨j, hj, h2, _⟩
    · exact .inl ⟨h, h1, h2, hno2, hno⟩
    · omega
  · have hm : a k ∈ L := hp.mem_iff.1 (mem_lstT.2 ⟨k, hk, rfl⟩)
    have h1 : ¬ placeI L q < 0 := fun x => placeI_neg_iff.1 x _ hm e
    rcases placeI_spec L q with ⟨h2, _, _⟩ | ⟨j, hj, h2, h3, h4⟩
    · omega
    · refine .inr ⟨k, hk, h, h1, e, ?_⟩
      have hj2 : L[j] ∈ lstT a L.length := hp.mem_iff.2 (List.getElem_mem _)
      obtain ⟨i, hi, e2⟩ := mem_lstT.1 hj2
      have : i = k := o i k hi hk (by rw [e2, h3, e])
      subst this
      rw [h4, ← e2]
/-- The root of the heap comes first in the list. -/
theorem root_first {a : Nat → Int × Int} {x : Int × Int} {L : List (Int × Int)} (s : Sorted (x :: L)) (hh : Heap beforeB a (x :: L).length) (hp : (lstT a (x :: L).length).Perm (x :: L)) : a 0 = x := by
  have h0 : a 0 ∈ x :: L := hp.mem_iff.1 (mem_lstT.2 ⟨0, by simp, rfl⟩)
  have hx : x ∈ lstT a (x :: L).length := hp.mem_iff.2 List.mem_cons_self
  obtain ⟨k, hk, e⟩ := mem_lstT.1 hx
  have h1 := hh.root before_order before_irr k hk
  rw [e] at h1
  rcases List.mem_cons.1 h0 with h | h
  · exact h
  · have := (List.pairwise_cons.1 s.order).1 _ h
    rw [h1] at this; cases this
theorem fix_inv {a : Nat → Int × Int} {n k : Nat} (h : Heap beforeB a n) (x : Int × Int) : FixInv beforeB (upd a k x) n k := by
  refine ⟨fun i i0 hi e1 e2 => ?_, fun i i0 hi e1 k0 => ?_⟩
  · rw [upd_other _ _ _ _ e1, upd_other _ _ _ _ e2]; exact h i i0 hi
  · have hp := par_lt i0
    have hp2 := par_lt k0
    rw [upd_other _ _ _ _ (by omega), upd_other _ _ _ _ (by omega)]
    have h1 := h i i0 hi
    rw [e1] at h1
    exact before_order.tr (h k k0 (by omega)) h1
end Go.Proofs.Ytgjfomnipjljoaa
