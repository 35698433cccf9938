/-
  QUEUES, PLAIN: what TimerOrder and TimerMoves lean on.
-/
import Derived.Test.YtgjfomnipjljoaaTimerM
namespace Go.Proofs.Ytgjfomnipjljoaa
open Go.RowKit

theorem wf64 {n : Int} (h : -9223372036854775808 ≤ n) (k : n ≤ 9223372036854775807) : (Lit.int .i64 n).wf = true := by
  simp [Lit.wf, IntKind.min, IntKind.max, IntKind.signed, IntKind.bits]; omega
theorem drop_none {L : List (Int × Int)} {q : Int} (h : ∀ x ∈ L, x.1 ≠ q) : dropI L q = L := by
  unfold dropI; rw [List.filter_eq_self]; intro x hx; simpa using h x hx
theorem drop_ins (q t : Int) : ∀ M : List (Int × Int), dropI (insI (q, t) M) q = dropI M q
  | [] => by simp [insI, dropI]
  | y :: M => by
    unfold insI
    split
    · simp [dropI]
    · have := drop_ins q t M
      unfold dropI at this ⊢
      rw [List.filter_cons, List.filter_cons, this]
theorem set_new {L : List (Int × Int)} {q t : Int} (hq : 0 ≤ q) (ht : 0 ≤ t) (ht1 : t ≤ 1099511627776) (hno : ∀ x ∈ L, x.1 ≠ q) (hl : L.length < 256) : setI L q t = (insI (q, t) L, 0) := by
  unfold setI
  rw [if_neg (by omega), if_neg (by omega), drop_none hno]
theorem set_again {L : List (Int × Int)} {q s t : Int} (hq : 0 ≤ q) (ht : 0 ≤ t) (ht1 : t ≤ 1099511627776) (hno : ∀ x ∈ L, x.1 ≠ q) : setI (insI (q, s) L) q t = (insI (q, t) L, 0) := by
  have hp : ¬ placeI (insI (q, s) L) q < 0 := fun h => (placeI_neg_iff.1 h) (q, s) ((mem_insI _ _ _).2 (.inl rfl)) rfl
  unfold setI
  rw [if_neg (by omega), if_neg (fun x => hp x.1), drop_ins, drop_none hno]
/-- The numbers below n, each by its time. -/
def All (f : Nat → Int) (n : Nat) (L : List (Int × Int)) : Prop := L.length = n ∧ ∀ x, x ∈ L ↔ ∃ j : Nat, j < n ∧ x = ((j : Int), f j)
theorem All.zero (f : Nat → Int) : All f 0 [] := ⟨rfl, fun _ => ⟨fun h => absurd h List.not_mem_nil, fun ⟨j, h, _⟩ => absurd h (Nat.not_lt_zero j)⟩⟩
theorem All.no {f : Nat → Int} {n : Nat} {L : List (Int × Int)} (h : All f n L) : ∀ x ∈ L, x.1 ≠ (n : Int) := fun x hx => by
  obtain ⟨j, hj, rfl⟩ := (h.2 x).1 hx
  simp only; omega
theorem All.succ {f : Nat → Int} {n : Nat} {L : List (Int × Int)} (h : All f n L) : All f (n + 1) (insI ((n : Int), f n) L) := by
  refine ⟨by rw [insI_length, h.1], fun x => ?_⟩
  rw [mem_insI, h.2]
  constructor
  · rintro (rfl | ⟨j, hj, rfl⟩)
    · exact ⟨n, by omega, rfl⟩
    · exact ⟨j, by omega, rfl⟩
  · rintro ⟨j, hj, rfl⟩
    by_cases e : j = n
    · subst e; exact .inl rfl
    · exact .inr ⟨j, by omega, rfl⟩
/-- Some have been told (g), c of them; those of M not yet. -/
structure Told (f : Nat → Int) (n : Nat) (g : Nat → Bool) (c : Nat) (M : List (Int × Int)) : Prop where
  count : c + M.length = n
  mem : ∀ x ∈ M, ∃ j : Nat, j < n ∧ x = ((j : Int), f j)
  told : ∀ j, j < n → (g j = false ↔ ((j : Int), f j) ∈ M)
theorem Told.start {f : Nat → Int} {n : Nat} {L : List (Int × Int)} (h : All f n L) : Told f n (fun _ => false) 0 L :=
  ⟨by rw [h.1]; omega, fun x hx => (h.2 x).1 hx, fun j hj => ⟨fun _ => (h.2 _).2 ⟨j, hj, rfl⟩, fun _ => rfl⟩⟩
theorem Told.step {f : Nat → Int} {n c : Nat} {g : Nat → Bool} {x : Int × Int} {M : List (Int × Int)} (h : Told f n g c (x :: M)) (ho : (x :: M).Pairwise (fun x y => x.1 ≠ y.1)) :
    ∃ j : Nat, j < n ∧ x = ((j : Int), f j) ∧ g j = false ∧ Told f n (upd g j true) (c + 1) M := by
  obtain ⟨j, hj, rfl⟩ := h.mem x List.mem_cons_self
  have ho1 := (List.pairwise_cons.1 ho).1
  refine ⟨j, hj, rfl, (h.told j hj).2 List.mem_cons_self, by have := h.count; rw [List.length_cons] at this; omega, fun y hy => h.mem y (List.mem_cons_of_mem _ hy), fun i hi => ?_⟩
  by_cases e : i = j
  · subst e
    rw [upd_same]
    exact ⟨fun h => (Bool.noConfusion h), fun h => absurd rfl (ho1 _ h)⟩
  · rw [upd_other _ _ _ _ e, h.told i hi]
    constructor
    · intro hm
      rcases List.mem_cons.1 hm with e2 | e2
      · injection e2 with e3 _; exact absurd (by omega) e
      · exact e2
    · exact List.mem_cons_of_mem _
/-- What is due has come; what is left has not. -/
theorem due_le : ∀ (L : List (Int × Int)) (t : Int) (k : Nat) (h : k < L.length), k < dueN L t → (L[k]).2 ≤ t
  | [], _, _, h, _ => absurd h (Nat.not_lt_zero _)
  | y :: L, t, k, h, hk => by
    unfold dueN at hk
    rw [List.takeWhile_cons] at hk
    split at hk
    · next hy =>
      rcases k with _ | k
      · simpa using hy
      · exact due_le L t k (by simpa using h) (by unfold dueN; simpa using hk)
    · simp at hk
theorem due_gt {L : List (Int × Int)} (ho : L.Pairwise (fun x y => beforeB x y = true)) (t : Int) : ∀ x ∈ L.drop (dueN L t), t < x.2 := by
  induction L with
  | nil => intro x hx; simp at hx
  | cons y L ih =>
    have ho' := List.pairwise_cons.1 ho
    intro x hx
    unfold dueN at hx
    rw [List.takeWhile_cons] at hx
    split at hx
    · exact ih ho'.2 x (by unfold dueN; simpa using hx)
    · next hy =>
      have hy' : t < y.2 := by simpa using hy
      rcases List.mem_cons.1 (by simpa using hx) with e | e
      · rw [e]; exact hy'
      · have hb := ho'.1 x e
        obtain ⟨a, b⟩ := x; obtain ⟨c, d⟩ := y
        rw [beforeB_iff] at hb
        simp only at hy' ⊢
        omega
theorem order_at {L : List (Int × Int)} (ho : L.Pairwise (fun x y => beforeB x y = true)) {i j : Nat} (hij : i < j) (hj : j < L.length) : beforeB L[i] L[j] = true :=
  List.pairwise_iff_getElem.1 ho i j (by omega) hj hij
theorem drop_len {q : Int} : ∀ {L : List (Int × Int)}, L.Pairwise (fun x y => x.1 ≠ y.1) → (∃ x ∈ L, x.1 = q) → (dropI L q).length + 1 = L.length
  | [], _, h => by obtain ⟨x, hx, _⟩ := h; exact absurd hx List.not_mem_nil
  | y :: L, ho, h => by
    rw [List.pairwise_cons] at ho
    by_cases e : y.1 = q
    · have hn : ∀ x ∈ L, x.1 ≠ q := fun x hx e2 => ho.1 x hx (e.trans e2.symm)
      have h1 : dropI (y :: L) q = dropI L q := by unfold dropI; rw [List.filter_cons]; simp [e]
      rw [h1, drop_none hn]; rfl
    · have h1 : dropI (y :: L) q = y :: dropI L q := by unfold dropI; rw [List.filter_cons]; simp [e]
      obtain ⟨x, hx, e2⟩ := h
      rcases List.mem_cons.1 hx with e3 | e3
      · exact absurd (e3 ▸ e2) e
      · rw [h1, List.length_cons, drop_len ho.2 ⟨x, e3, e2⟩]; rfl
theorem when_ins (q t : Int) (L : List (Int × Int)) : whenI (insI (q, t) (dropI L q)) q = (t, true) ∧ 0 ≤ placeI (insI (q, t) (dropI L q)) q := by
  rcases placeI_spec (insI (q, t) (dropI L q)) q with ⟨_, _, hno⟩ | ⟨k, hk, h1, h2, h3⟩
  · exact absurd rfl (hno (q, t) ((mem_insI _ _ _).2 (.inl rfl)))
  · refine ⟨?_, by omega⟩
    rw [h3]
    rcases (mem_insI _ _ _).1 (List.getElem_mem hk) with e | e
    · rw [e]
    · exact absurd h2 (mem_dropI.1 e).2
theorem drop_drop (q : Int) (L : List (Int × Int)) : dropI (dropI L q) q = dropI L q := drop_none fun _ hx => (mem_dropI.1 hx).2
theorem place_drop (q : Int) (L : List (Int × Int)) : ¬ 0 ≤ placeI (dropI L q) q := by
  have := (placeI_neg_iff (L := dropI L q) (q := q)).2 fun _ hx => (mem_dropI.1 hx).2
  omega
theorem due_all {L : List (Int × Int)} {t : Int} (h : ∀ x ∈ L, x.2 ≤ t) : dueN L t = L.length :=
  dueN_at L t L.length (fun j hj _ => h _ (List.getElem_mem hj)) (Nat.le_refl _) (fun hh => absurd hh (by omega))
/-- How a number that may be is set in TimerMoves. -/
theorem set_case {L : List (Int × Int)} {q t : Int} (hs : Sorted L) (hq : 0 ≤ q) (ht : 0 ≤ t) (ht1 : t ≤ 1099511627776) :
    (setI L q t = (L, 17) ∧ L.length = 256 ∧ (whenI L q).2 = false) ∨
    (setI L q t = (insI (q, t) (dropI L q), 0) ∧ (whenI L q).2 = true ∧ (insI (q, t) (dropI L q)).length = L.length) ∨
    (setI L q t = (insI (q, t) (dropI L q), 0) ∧ (whenI L q).2 = false ∧ (insI (q, t) (dropI L q)).length = L.length + 1) := by
  have hf := hs.few
  rcases placeI_spec L q with ⟨h1, h2, h3⟩ | ⟨k, hk, h1, h2, h3⟩
  · by_cases h256 : 256 ≤ L.length
    · refine .inl ⟨?_, by omega, by rw [h2]⟩
      unfold setI; rw [if_neg (by omega), if_pos ⟨by omega, h256⟩]
    · refine .inr (.inr ⟨?_, by rw [h2], by rw [insI_length, drop_none h3]⟩)
      unfold setI; rw [if_neg (by omega), if_neg (by omega)]
  · refine .inr (.inl ⟨?_, by rw [h3], by rw [insI_length, drop_len hs.once ⟨_, List.getElem_mem hk, h2⟩]⟩)
    unfold setI; rw [if_neg (by omega), if_neg (by omega)]
end Go.Proofs.Ytgjfomnipjljoaa
