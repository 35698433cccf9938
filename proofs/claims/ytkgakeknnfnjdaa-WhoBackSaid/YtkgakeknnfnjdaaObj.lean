/-
  LAYER 20, PLAIN: objects, each its ID, its bytes and where they lie; whether they may be a device's, their level, which there are, of a sort, from one on; the same ones.
-/
import Derived.Test.YtkgakeknnfnjdaaLists
import Derived.Test.YtkgakeknnfnjdaaKeep
namespace Go.Proofs.Ytkgakeknnfnjdaa
open Go.RowKit
set_option linter.unusedVariables false

structure Ob where
  id : Int
  a : Option Addr
  n : Nat
  c : Nat
  f : Nat → Int
def obL (z : Ob) : List Value := [.int .i64 z.id, .slice z.a z.n z.c]
theorem obL_length (z : Ob) : (obL z).length = 2 := rfl
def zeroOb : Ob := ⟨0, none, 0, 0, fun _ => 0⟩
structure ObjAt (w : World) (z : Ob) : Prop where
  h : Holds .u8 w z.a z.n z.f
  l : z.n ≤ z.c
  m : z.c ≤ maxLen
  s : z.n ≤ 1000000000000000
  b : ∀ i, i < z.n → 0 ≤ z.f i ∧ z.f i < 256
  wi : (Lit.int .i64 z.id).wf = true
theorem ObjAt.ext {w w' : World} {z : Ob} (h : ObjAt w z) (x : Ext w w') : ObjAt w' z := ⟨h.h.ext x, h.l, h.m, h.s, h.b, h.wi⟩
theorem zeroOb_at (w : World) : ObjAt w zeroOb := ⟨.inl rfl, Nat.le_refl _, Nat.zero_le _, Nat.zero_le _, fun i hi => absurd hi (Nat.not_lt_zero _), by decide⟩
/-- A slice of objects. -/
structure ObjsAt (w : World) (a : Option Addr) (n c : Nat) (L : List Ob) : Prop where
  len : L.length = n
  h : HoldsL 2 obL w a L
  l : n ≤ c
  m : c ≤ maxLen
  each : ∀ z ∈ L, ObjAt w z
theorem ObjsAt.ext {w w' : World} {a : Option Addr} {n c : Nat} {L : List Ob} (h : ObjsAt w a n c L) (x : Ext w w') : ObjsAt w' a n c L := ⟨h.len, h.h.ext x, h.l, h.m, fun z hz => (h.each z hz).ext x⟩
theorem ObjsAt.nil (w : World) : ObjsAt w none 0 0 [] := ⟨rfl, .inl rfl, Nat.le_refl _, Nat.zero_le _, fun z hz => by cases hz⟩
theorem HoldsL.ob_at {w : World} {b off : Nat} {L : List Ob} (h : HoldsL 2 obL w (some ⟨b, off, none⟩) L) (i : Nat) (hi : i < L.length) :
    w.cell? ⟨b, off + i * 2, none⟩ = some (.int .i64 (L[i]).id) ∧ w.cell? ⟨b, off + i * 2 + 1, none⟩ = some (.slice (L[i]).a (L[i]).n (L[i]).c) := by
  rcases h with h | ⟨b', off', ha, hlt, hc⟩
  · subst h; simp at hi
  · cases ha
    exact ⟨hc i L[i] (by simp [hi]) 0 _ rfl, hc i L[i] (by simp [hi]) 1 _ rfl⟩
theorem HoldsL.dropL {α : Type} {sz : Nat} {mk : α → List Value} {w : World} {b off : Nat} {L : List α} (h : HoldsL sz mk w (some ⟨b, off, none⟩) L) (k : Nat) : HoldsL sz mk w (some ⟨b, off + k * sz, none⟩) (L.drop k) := by
  rcases h with h | ⟨b', off', ha, hlt, hc⟩
  · exact .inl (by rw [h]; simp)
  · cases ha
    refine .inr ⟨b, off + k * sz, rfl, hlt, fun i x hx j v hv => ?_⟩
    rw [List.getElem?_drop] at hx
    have := hc (k + i) x hx j v hv
    rw [Nat.add_mul] at this
    rw [show off + k * sz + i * sz + j = off + (k * sz + i * sz) + j by omega]; exact this
theorem HoldsL.takeL {α : Type} {sz : Nat} {mk : α → List Value} {w : World} {a : Option Addr} {L : List α} (h : HoldsL sz mk w a L) (k : Nat) : HoldsL sz mk w a (L.take k) := by
  rcases h with h | ⟨b, off, ha, hlt, hc⟩
  · exact .inl (by rw [h]; simp)
  · refine .inr ⟨b, off, ha, hlt, fun i x hx j v hv => hc i x ?_ j v hv⟩
    rw [List.getElem?_take] at hx
    split at hx
    · exact hx
    · cases hx

/-! ### What is told of objects -/
def okO (z : Ob) : Bool := decide (0 ≤ z.id ∧ z.id ≤ 255 ∧ (z.id ≤ 6 ∨ 128 ≤ z.id) ∧ z.n ≤ 240)
def risO : Int → List Ob → Bool
  | _, [] => true
  | p, z :: L => okO z && decide (p < z.id) && risO z.id L
def firO : List Ob → Bool
  | x :: y :: z :: _ => decide (x.id = 0 ∧ y.id = 1 ∧ z.id = 2)
  | _ => false
def rightO (L : List Ob) : Bool := risO (-1) L && firO L
def lastO (L : List Ob) : Int := (L[L.length - 1]?.getD zeroOb).id
def levelO (L : List Ob) : Int := if rightO L = true then (if 128 ≤ lastO L then 3 else if 3 ≤ lastO L then 2 else 1) else 0
def findO (id : Int) : List Ob → Option Ob
  | [] => none
  | z :: L => if z.id = id then some z else findO id L
def ofI (s id : Int) : Bool := if s = 1 then decide (0 ≤ id ∧ id ≤ 2) else if s = 2 then decide (0 ≤ id ∧ id ≤ 6) else decide (s = 3)
def ofO (s : Int) (L : List Ob) : List Ob := L.filter (fun z => ofI s z.id)
def atO (id : Int) : List Ob → List Ob
  | [] => []
  | z :: L => if z.id = id then z :: L else atO id L
def fromO (s id : Int) (L : List Ob) : List Ob := if atO id (ofO s L) = [] then ofO s L else atO id (ofO s L)
def sameZ (x y : Ob) : Bool := decide (x.id = y.id) && eqB x.n y.n x.f y.f
def sameO : List Ob → List Ob → Bool
  | [], [] => true
  | x :: L, y :: M => sameZ x y && sameO L M
  | _, _ => false
def sumO : List Ob → Nat
  | [] => 0
  | z :: L => z.n + sumO L
def fewO (L : List Ob) : Bool := decide (L.length ≤ 140 ∧ sumO L ≤ 6000)
/-- Not too many, none too long. -/
structure ObjF (L : List Ob) : Prop where
  n : L.length ≤ 100000
  e : ∀ z ∈ L, z.n ≤ 1000000
theorem sumO_mem : ∀ {L : List Ob} {z : Ob}, z ∈ L → z.n ≤ sumO L
  | x :: L, z, h => by
    rcases List.mem_cons.1 h with rfl | h
    · exact Nat.le_add_right _ _
    · exact Nat.le_trans (sumO_mem h) (Nat.le_add_left _ _)
theorem fewO_f {L : List Ob} (h : fewO L = true) : ObjF L := by
  obtain ⟨h1, h2⟩ := of_decide_eq_true h
  exact ⟨by omega, fun z hz => by have := sumO_mem hz; omega⟩
theorem eqB_symm {n m : Nat} {f g : Nat → Int} (h : eqB n m f g = true) : eqB m n g f = true := by
  obtain ⟨h1, h2⟩ := eqB_iff.1 h
  exact eqB_true h1.symm (fun i hi => (h2 i (by omega)).symm)
theorem eqB_trans {n m k : Nat} {f g h : Nat → Int} (h1 : eqB n m f g = true) (h2 : eqB m k g h = true) : eqB n k f h = true := by
  obtain ⟨a1, a2⟩ := eqB_iff.1 h1
  obtain ⟨b1, b2⟩ := eqB_iff.1 h2
  exact eqB_true (a1.trans b1) (fun i hi => (a2 i hi).trans (b2 i (by omega)))
theorem sameZ_iff {x y : Ob} : sameZ x y = true ↔ x.id = y.id ∧ x.n = y.n ∧ ∀ i, i < x.n → x.f i = y.f i := by
  unfold sameZ; rw [Bool.and_eq_true, decide_eq_true_iff, eqB_iff]
theorem sameZ_refl (x : Ob) : sameZ x x = true := sameZ_iff.2 ⟨rfl, rfl, fun _ _ => rfl⟩
theorem sameZ_symm {x y : Ob} (h : sameZ x y = true) : sameZ y x = true := by
  obtain ⟨h1, h2, h3⟩ := sameZ_iff.1 h
  exact sameZ_iff.2 ⟨h1.symm, h2.symm, fun i hi => (h3 i (by omega)).symm⟩
theorem sameZ_trans {x y z : Ob} (h : sameZ x y = true) (k : sameZ y z = true) : sameZ x z = true := by
  obtain ⟨h1, h2, h3⟩ := sameZ_iff.1 h
  obtain ⟨k1, k2, k3⟩ := sameZ_iff.1 k
  exact sameZ_iff.2 ⟨h1.trans k1, h2.trans k2, fun i hi => (h3 i hi).trans (k3 i (by omega))⟩
theorem sameO_iff : ∀ {L M : List Ob}, sameO L M = true ↔ L.length = M.length ∧ ∀ (i : Nat) (x y : Ob), L[i]? = some x → M[i]? = some y → sameZ x y = true
  | [], [] => by simp [sameO]
  | [], _ :: _ => by simp [sameO]
  | _ :: _, [] => by simp [sameO]
  | x :: L, y :: M => by
    unfold sameO
    rw [Bool.and_eq_true, sameO_iff (L := L) (M := M)]
    constructor
    · rintro ⟨h, h1, h2⟩
      refine ⟨by simp [h1], fun i a b ha hb => ?_⟩
      cases i with
      | zero => simp at ha hb; subst ha; subst hb; exact h
      | succ i => exact h2 i a b (by simpa using ha) (by simpa using hb)
    · rintro ⟨h1, h2⟩
      exact ⟨h2 0 x y rfl rfl, by simpa using h1, fun i a b ha hb => h2 (i + 1) a b (by simpa using ha) (by simpa using hb)⟩
theorem sameO_refl (L : List Ob) : sameO L L = true := sameO_iff.2 ⟨rfl, fun i x y hx hy => by rw [hx] at hy; cases hy; exact sameZ_refl x⟩
theorem sameO_len {L M : List Ob} (h : sameO L M = true) : L.length = M.length := (sameO_iff.1 h).1
theorem sameO_at {L M : List Ob} (h : sameO L M = true) {i : Nat} (hi : i < L.length) (hj : i < M.length) : sameZ L[i] M[i] = true := (sameO_iff.1 h).2 i _ _ (List.getElem?_eq_getElem hi) (List.getElem?_eq_getElem hj)
theorem sameO_symm {L M : List Ob} (h : sameO L M = true) : sameO M L = true := by
  obtain ⟨h1, h2⟩ := sameO_iff.1 h
  exact sameO_iff.2 ⟨h1.symm, fun i x y hx hy => sameZ_symm (h2 i y x hy hx)⟩
theorem sameO_trans {L M N : List Ob} (h : sameO L M = true) (k : sameO M N = true) : sameO L N = true := by
  obtain ⟨h1, h2⟩ := sameO_iff.1 h
  obtain ⟨k1, k2⟩ := sameO_iff.1 k
  refine sameO_iff.2 ⟨h1.trans k1, fun i x y hx hy => ?_⟩
  have hi : i < M.length := by
    rcases Nat.lt_or_ge i N.length with hlt | hge
    · omega
    · rw [List.getElem?_eq_none hge] at hy; cases hy
  exact sameZ_trans (h2 i x _ hx (List.getElem?_eq_getElem hi)) (k2 i _ y (List.getElem?_eq_getElem hi) hy)
/-- What is the same, is the same as the same. -/
theorem sameO_left {L M N : List Ob} (h : sameO L M = true) : sameO L N = sameO M N := by
  cases hb : sameO M N with
  | true => exact sameO_trans h hb
  | false =>
    cases ha : sameO L N with
    | false => rfl
    | true => have hh := sameO_trans (sameO_symm h) ha; rw [hh] at hb; cases hb
theorem sameO_right {L M N : List Ob} (h : sameO L M = true) : sameO N L = sameO N M := by
  cases hb : sameO N M with
  | true => exact sameO_trans hb (sameO_symm h)
  | false =>
    cases ha : sameO N L with
    | false => rfl
    | true => have hh := sameO_trans ha h; rw [hh] at hb; cases hb
theorem sameO_len_ne : ∀ {L M : List Ob}, L.length ≠ M.length → sameO L M = false := fun {L M} h => by
  cases hb : sameO L M with
  | false => rfl
  | true => exact absurd (sameO_len hb) h
theorem sameO_append {L L' M M' : List Ob} (h : sameO L L' = true) (k : sameO M M' = true) : sameO (L ++ M) (L' ++ M') = true := by
  obtain ⟨h1, h2⟩ := sameO_iff.1 h
  obtain ⟨k1, k2⟩ := sameO_iff.1 k
  refine sameO_iff.2 ⟨by simp [h1, k1], fun i x y hx hy => ?_⟩
  by_cases hi : i < L.length
  · rw [List.getElem?_append_left hi] at hx
    rw [List.getElem?_append_left (by omega)] at hy
    exact h2 i x y hx hy
  · rw [List.getElem?_append_right (by omega)] at hx
    rw [List.getElem?_append_right (by omega)] at hy
    exact k2 (i - L.length) x y hx (by rw [h1]; exact hy)
theorem sameO_drop {L M : List Ob} (h : sameO L M = true) (k : Nat) : sameO (L.drop k) (M.drop k) = true := by
  obtain ⟨h1, h2⟩ := sameO_iff.1 h
  exact sameO_iff.2 ⟨by simp [h1], fun i x y hx hy => h2 (k + i) x y (by rw [List.getElem?_drop] at hx; exact hx) (by rw [List.getElem?_drop] at hy; exact hy)⟩
theorem sameO_take {L M : List Ob} (h : sameO L M = true) (k : Nat) : sameO (L.take k) (M.take k) = true := by
  obtain ⟨h1, h2⟩ := sameO_iff.1 h
  refine sameO_iff.2 ⟨by simp [h1], fun i x y hx hy => ?_⟩
  rw [List.getElem?_take] at hx hy
  split at hx
  · rename_i hlt
    rw [if_pos hlt] at hy
    exact h2 i x y hx hy
  · cases hx
/-! ### What is told of the same is the same -/
theorem risO_same : ∀ {L M : List Ob} (p : Int), sameO L M = true → risO p L = risO p M
  | [], [], _, _ => rfl
  | [], _ :: _, _, h => by simp [sameO] at h
  | _ :: _, [], _, h => by simp [sameO] at h
  | x :: L, y :: M, p, h => by
    unfold sameO at h
    rw [Bool.and_eq_true] at h
    obtain ⟨h1, h2, h3⟩ := sameZ_iff.1 h.1
    unfold risO okO
    rw [h1, h2, risO_same y.id h.2]
theorem firO_same {L M : List Ob} (h : sameO L M = true) : firO L = firO M := by
  match L, M, h with
  | [], [], _ => rfl
  | [], _ :: _, h => simp [sameO] at h
  | _ :: _, [], h => simp [sameO] at h
  | [_], [_], _ => rfl
  | [_], _ :: _ :: _, h => simp [sameO] at h
  | _ :: _ :: _, [_], h => simp [sameO] at h
  | [_, _], [_, _], _ => rfl
  | [_, _], _ :: _ :: _ :: _, h => simp [sameO] at h
  | _ :: _ :: _ :: _, [_, _], h => simp [sameO] at h
  | x :: y :: z :: L, x' :: y' :: z' :: M, h =>
    simp only [sameO, Bool.and_eq_true] at h
    show decide (x.id = 0 ∧ y.id = 1 ∧ z.id = 2) = decide (x'.id = 0 ∧ y'.id = 1 ∧ z'.id = 2)
    rw [(sameZ_iff.1 h.1).1, (sameZ_iff.1 h.2.1).1, (sameZ_iff.1 h.2.2.1).1]
theorem rightO_same {L M : List Ob} (h : sameO L M = true) : rightO L = rightO M := by unfold rightO; rw [risO_same _ h, firO_same h]
theorem findO_same : ∀ {L M : List Ob} (id : Int), sameO L M = true → (findO id L).isSome = (findO id M).isSome ∧ sameZ ((findO id L).getD zeroOb) ((findO id M).getD zeroOb) = true
  | [], [], _, _ => ⟨rfl, sameZ_refl _⟩
  | [], _ :: _, _, h => by simp [sameO] at h
  | _ :: _, [], _, h => by simp [sameO] at h
  | x :: L, y :: M, id, h => by
    unfold sameO at h
    rw [Bool.and_eq_true] at h
    unfold findO
    have e := (sameZ_iff.1 h.1).1
    by_cases hx : x.id = id
    · rw [if_pos hx, if_pos (by rw [← e]; exact hx)]; exact ⟨rfl, h.1⟩
    · rw [if_neg hx, if_neg (by rw [← e]; exact hx)]; exact findO_same id h.2
theorem ofO_same : ∀ {L M : List Ob} (s : Int), sameO L M = true → sameO (ofO s L) (ofO s M) = true
  | [], [], _, _ => rfl
  | [], _ :: _, _, h => by simp [sameO] at h
  | _ :: _, [], _, h => by simp [sameO] at h
  | x :: L, y :: M, s, h => by
    unfold sameO at h
    rw [Bool.and_eq_true] at h
    have e := (sameZ_iff.1 h.1).1
    have ih := ofO_same s h.2
    unfold ofO at ih ⊢
    rw [List.filter_cons, List.filter_cons, e]
    split
    · unfold sameO; rw [h.1, ih]; rfl
    · exact ih
theorem atO_same : ∀ {L M : List Ob} (id : Int), sameO L M = true → sameO (atO id L) (atO id M) = true
  | [], [], _, _ => rfl
  | [], _ :: _, _, h => by simp [sameO] at h
  | _ :: _, [], _, h => by simp [sameO] at h
  | x :: L, y :: M, id, h => by
    have h' := h
    unfold sameO at h
    rw [Bool.and_eq_true] at h
    unfold atO
    have e := (sameZ_iff.1 h.1).1
    by_cases hx : x.id = id
    · rw [if_pos hx, if_pos (by rw [← e]; exact hx)]; exact h'
    · rw [if_neg hx, if_neg (by rw [← e]; exact hx)]; exact atO_same id h.2
theorem fromO_same {L M : List Ob} (s id : Int) (h : sameO L M = true) : sameO (fromO s id L) (fromO s id M) = true := by
  have h1 := ofO_same s h
  have h2 := atO_same id h1
  unfold fromO
  by_cases e : atO id (ofO s L) = []
  · have e2 : atO id (ofO s M) = [] := by have := sameO_len h2; rw [e] at this; exact List.eq_nil_of_length_eq_zero this.symm
    rw [if_pos e, if_pos e2]; exact h1
  · have e2 : ¬ atO id (ofO s M) = [] := fun e2 => by have := sameO_len h2; rw [e2] at this; exact e (List.eq_nil_of_length_eq_zero this)
    rw [if_neg e, if_neg e2]; exact h2
end Go.Proofs.Ytkgakeknnfnjdaa
