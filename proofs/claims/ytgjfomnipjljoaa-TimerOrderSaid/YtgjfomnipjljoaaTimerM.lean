/-
  QUEUES, PLAIN: lists of (number, time) in order.
-/
import Derived.Test.YtgjfomnipjljoaaTimerT
namespace Go.Proofs.Ytgjfomnipjljoaa
open Go.RowKit

/-- When a number is due, and whether. -/
def whenI (L : List (Int × Int)) (q : Int) : Int × Bool := match L.find? (fun x => x.1 == q) with
  | some x => (x.2, true)
  | none => (0, false)
/-- What is due first, and whether. -/
def firstI : List (Int × Int) → Int × Int × Bool
  | [] => (0, 0, false)
  | x :: _ => (x.1, x.2, true)
/-- In order, each number once, each number and time one that may be. -/
structure Sorted (L : List (Int × Int)) : Prop where
  order : L.Pairwise (fun x y => beforeB x y = true)
  once : L.Pairwise (fun x y => x.1 ≠ y.1)
  may : ∀ x ∈ L, 0 ≤ x.1 ∧ 0 ≤ x.2 ∧ x.2 ≤ 1099511627776
  few : L.length ≤ 256
theorem Sorted.nil : Sorted [] := ⟨.nil, .nil, fun _ h => absurd h List.not_mem_nil, Nat.zero_le _⟩
theorem placeI_spec (L : List (Int × Int)) (q : Int) : (placeI L q = -1 ∧ whenI L q = (0, false) ∧ ∀ x ∈ L, x.1 ≠ q) ∨ (∃ k, ∃ h : k < L.length, placeI L q = k ∧ (L[k]).1 = q ∧ whenI L q = ((L[k]).2, true)) := by
  by_cases hex : ∃ x ∈ L, x.1 = q
  · refine .inr ?_
    cases hf : L.findIdx? (fun x => x.1 == q) with
    | none =>
      rw [List.findIdx?_eq_none_iff] at hf
      obtain ⟨x, hx, e⟩ := hex
      have := hf x hx
      simp [e] at this
    | some k =>
      have h := hf
      rw [List.findIdx?_eq_some_iff_getElem] at h
      obtain ⟨hk, h1, h2⟩ := h
      have h1' : (L[k]).1 = q := by simpa using h1
      refine ⟨k, hk, by unfold placeI; rw [hf], h1', ?_⟩
      have hfind : L.find? (fun x => x.1 == q) = some L[k] := by
        rw [List.find?_eq_some_iff_getElem]
        exact ⟨h1, k, hk, rfl, fun j hj => by have := h2 j hj; simpa using this⟩
      unfold whenI; rw [hfind]
  · refine .inl ?_
    have hno : ∀ x ∈ L, x.1 ≠ q := fun x hx e => hex ⟨x, hx, e⟩
    refine ⟨?_, ?_, hno⟩
    · exact placeI_no fun j h => hno _ (List.getElem_mem _)
    · unfold whenI
      rw [List.find?_eq_none.2 fun x hx => by simpa using hno x hx]
theorem placeI_neg_iff {L : List (Int × Int)} {q : Int} : placeI L q < 0 ↔ ∀ x ∈ L, x.1 ≠ q := by
  rcases placeI_spec L q with ⟨h, _, hno⟩ | ⟨k, hk, h, e, _⟩
  · exact ⟨fun _ => hno, fun _ => by omega⟩
  · exact ⟨fun h2 => by omega, fun h2 => absurd e (h2 _ (List.getElem_mem _))⟩
theorem mem_insI (t x : Int × Int) : ∀ L : List (Int × Int), x ∈ insI t L ↔ x = t ∨ x ∈ L
  | [] => by simp [insI]
  | y :: L => by
    unfold insI
    split
    · simp
    · rw [List.mem_cons, mem_insI t x L, List.mem_cons]
      constructor
      · rintro (h | h | h); exact .inr (.inl h); exact .inl h; exact .inr (.inr h)
      · rintro (h | h | h); exact .inr (.inl h); exact .inl h; exact .inr (.inr h)
theorem mem_dropI {L : List (Int × Int)} {q : Int} {x : Int × Int} : x ∈ dropI L q ↔ x ∈ L ∧ x.1 ≠ q := by
  unfold dropI; rw [List.mem_filter]; simp
theorem beforeB_trans {x y z : Int × Int} (h : beforeB x y = true) (k : beforeB y z = true) : beforeB x z = true := by
  obtain ⟨a, b⟩ := x; obtain ⟨c, d⟩ := y; obtain ⟨e, f⟩ := z
  rw [beforeB_iff] at *
  omega
theorem beforeB_total {x y : Int × Int} (h : x.1 ≠ y.1) (k : beforeB x y = false) : beforeB y x = true := by
  obtain ⟨a, b⟩ := x; obtain ⟨c, d⟩ := y
  have h' : a ≠ c := h
  have : ¬ (b < d ∨ b = d ∧ a < c) := fun e => by rw [(beforeB_iff a b c d).2 e] at k; cases k
  rw [beforeB_iff]
  omega
theorem insI_order {t : Int × Int} : ∀ {L : List (Int × Int)}, L.Pairwise (fun x y => beforeB x y = true) → (∀ x ∈ L, x.1 ≠ t.1) → (insI t L).Pairwise (fun x y => beforeB x y = true)
  | [], _, _ => by simp [insI]
  | y :: L, h, hn => by
    rw [List.pairwise_cons] at h
    unfold insI
    split
    · next hb =>
      refine List.pairwise_cons.2 ⟨fun z hz => ?_, List.pairwise_cons.2 h⟩
      rcases List.mem_cons.1 hz with e | e
      · rw [e]; exact hb
      · exact beforeB_trans hb (h.1 z e)
    · next hb =>
      refine List.pairwise_cons.2 ⟨fun z hz => ?_, insI_order h.2 fun x hx => hn x (List.mem_cons_of_mem _ hx)⟩
      rcases (mem_insI t z L).1 hz with e | e
      · rw [e]; exact beforeB_total (fun e => hn y List.mem_cons_self e.symm) (by simpa using hb)
      · exact h.1 z e
theorem insI_once {t : Int × Int} : ∀ {L : List (Int × Int)}, L.Pairwise (fun x y => x.1 ≠ y.1) → (∀ x ∈ L, x.1 ≠ t.1) → (insI t L).Pairwise (fun x y => x.1 ≠ y.1)
  | [], _, _ => by simp [insI]
  | y :: L, h, hn => by
    have h0 := h
    rw [List.pairwise_cons] at h
    unfold insI
    split
    · exact List.pairwise_cons.2 ⟨fun z hz e => hn z hz e.symm, h0⟩
    · refine List.pairwise_cons.2 ⟨fun z hz => ?_, insI_once h.2 fun x hx => hn x (List.mem_cons_of_mem _ hx)⟩
      rcases (mem_insI t z L).1 hz with e | e
      · rw [e]; exact hn y List.mem_cons_self
      · exact h.1 z e
theorem Sorted.drop {L : List (Int × Int)} (h : Sorted L) (q : Int) : Sorted (dropI L q) :=
  ⟨h.order.filter _, h.once.filter _, fun x hx => h.may x (mem_dropI.1 hx).1, Nat.le_trans (dropI_length L q) h.few⟩
theorem Sorted.rest {L : List (Int × Int)} (h : Sorted L) (k : Nat) : Sorted (L.drop k) :=
  ⟨h.order.sublist (List.drop_sublist k L), h.once.sublist (List.drop_sublist k L), fun x hx => h.may x (List.mem_of_mem_drop hx), by rw [List.length_drop]; have := h.few; omega⟩
theorem dropI_less {q : Int} : ∀ {L : List (Int × Int)}, 0 ≤ placeI L q → (dropI L q).length + 1 ≤ L.length := by
  intro L h
  rcases placeI_spec L q with ⟨e, _, _⟩ | ⟨k, hk, _, e, _⟩
  · omega
  · have h1 : L[k] ∈ L := List.getElem_mem _
    have h2 : L[k] ∉ dropI L q := fun x => (mem_dropI.1 x).2 e
    have h3 : (dropI L q).length ≤ L.length := dropI_length L q
    by_cases h4 : (dropI L q).length = L.length
    · have hs : List.Sublist (dropI L q) L := List.filter_sublist
      have e2 := hs.eq_of_length h4
      rw [e2] at h2; exact absurd h1 h2
    · omega
theorem Sorted.set {L : List (Int × Int)} (h : Sorted L) (q t : Int) : Sorted (setI L q t).1 := by
  unfold setI
  split
  · exact h
  · split
    · exact h
    · next h1 h2 =>
      have hd := h.drop q
      have hn : ∀ x ∈ dropI L q, x.1 ≠ (q, t).1 := fun x hx => (mem_dropI.1 hx).2
      refine ⟨insI_order hd.order hn, insI_once hd.once hn, fun x hx => ?_, ?_⟩
      · rcases (mem_insI _ _ _).1 hx with e | e
        · rw [e]; simp only; omega
        · exact hd.may x e
      · rw [insI_length]
        have h3 := h.few
        have h4 := hd.few
        by_cases hp : placeI L q < 0
        · have := dropI_length L q; have : ¬ 256 ≤ L.length := fun x => h2 ⟨hp, x⟩; omega
        · have := dropI_less (L := L) (q := q) (by omega); omega
end Go.Proofs.Ytgjfomnipjljoaa
