/-
  SEGMENTS, PLAIN: what the segments are of the bytes ('SegOf', 'WholeP').
-/
import Derived.Test.YtebhalehgpigoaaCutR
namespace Go.Proofs.Ytebhalehgpigoaa
open Go.RowKit
set_option linter.unusedVariables false

def nth (L : List Byt) (i : Nat) : Byt := L.getD i (0, 0, false)
theorem nth_left {L M : List Byt} {i : Nat} (h : i < L.length) : nth (L ++ M) i = nth L i := by
  unfold nth; rw [List.getD_eq_getElem?_getD, List.getD_eq_getElem?_getD, List.getElem?_append_left h]
theorem nth_end {L : List Byt} {x : Byt} : nth (L ++ [x]) L.length = x := by
  unfold nth; rw [List.getD_eq_getElem?_getD, List.getElem?_append_right (Nat.le_refl _)]; simp
theorem nth_drop (L : List Byt) (k i : Nat) : nth (L.drop k) i = nth L (k + i) := by
  unfold nth; rw [List.getD_eq_getElem?_getD, List.getD_eq_getElem?_getD, List.getElem?_drop]
theorem nth_get {L : List Byt} {i : Nat} (h : i < L.length) : nth L i = L[i] := by
  unfold nth; rw [List.getD_eq_getElem?_getD, List.getElem?_eq_getElem h]; rfl
/-- Is there a silence longer than s within the first k bytes? (b: and ahead of the first one, from f on, one shorter than l?) -/
def gapsB (s l : Int) (b : Bool) (f : Int) (L : List Byt) : Nat → Bool
  | 0 => false
  | k + 1 => gapsB s l b f L k || (if k = 0 then b && decide ((nth L 0).1 - f < l) else decide (s < (nth L k).1 - (nth L (k - 1)).1))
/-- Is one of the first k bytes spoilt? -/
def badsB (L : List Byt) : Nat → Bool
  | 0 => false
  | k + 1 => badsB L k || (nth L k).2.2
theorem gapsB_congr {s l : Int} {b : Bool} {f : Int} {L M : List Byt} : ∀ {k : Nat}, (∀ i, i < k → nth L i = nth M i) → gapsB s l b f L k = gapsB s l b f M k
  | 0, _ => rfl
  | k + 1, h => by
    unfold gapsB
    rw [gapsB_congr fun i hi => h i (by omega), h k (by omega)]
    by_cases e : k = 0
    · subst e; rw [if_pos rfl, if_pos rfl, h 0 (by omega)]
    · rw [if_neg e, if_neg e, h (k - 1) (by omega)]
theorem badsB_congr {L M : List Byt} : ∀ {k : Nat}, (∀ i, i < k → nth L i = nth M i) → badsB L k = badsB M k
  | 0, _ => rfl
  | k + 1, h => by
    unfold badsB
    rw [badsB_congr fun i hi => h i (by omega), h k (by omega)]
/-- A segment of the first k bytes of L (b, f: as above). -/
structure SegOf (s l : Int) (b : Bool) (f : Int) (L : List Byt) (k : Nat) (g : Seg) : Prop where
  pos : 0 < k
  le : k ≤ L.length
  count : g.count = k
  n : g.n = min k 256
  first : g.first = (nth L 0).1
  last : g.last = (nth L (k - 1)).1
  bytes : ∀ i, i < min k 256 → g.f i = (nth L i).2.1
  close : ∀ i, 0 < i → i < k → ¬ l ≤ (nth L i).1 - (nth L (i - 1)).1
  gap : g.gap = gapsB s l b f L k
  bad : g.bad = badsB L k
theorem SegOf.left {s l : Int} {b : Bool} {f : Int} {L : List Byt} {k : Nat} {g : Seg} (h : SegOf s l b f L k g) (M : List Byt) : SegOf s l b f (L ++ M) k g := by
  have e : ∀ i, i < k → nth (L ++ M) i = nth L i := fun i hi => nth_left (by have := h.le; omega)
  have hp := h.pos
  refine ⟨hp, by rw [List.length_append]; have := h.le; omega, h.count, h.n, by rw [e 0 hp]; exact h.first, by rw [e (k - 1) (by omega)]; exact h.last, fun i hi => ?_, fun i hi hk => ?_, ?_, ?_⟩
  · rw [e i (by omega)]; exact h.bytes i hi
  · rw [e i hk, e (i - 1) (by omega)]; exact h.close i hi hk
  · rw [gapsB_congr e]; exact h.gap
  · rw [badsB_congr e]; exact h.bad
theorem SegOf.one {s l : Int} {b : Bool} {f : Int} {P : List Byt} {g : Seg} (h : SegOf s l b f P P.length g) (x : Byt) (h1 : ¬ l ≤ x.1 - (nth P (P.length - 1)).1) :
    SegOf s l b f (P ++ [x]) (P ++ [x]).length (oneS (if s < x.1 - (nth P (P.length - 1)).1 then gapS g true else g) x) := by
  have hp := h.pos
  have hl : (P ++ [x]).length = P.length + 1 := by simp
  have e : ∀ i, i < P.length → nth (P ++ [x]) i = nth P i := fun i hi => nth_left hi
  have ex : nth (P ++ [x]) P.length = x := nth_end
  have hc : ∀ y : Seg, (if s < x.1 - (nth P (P.length - 1)).1 then gapS g true else g) = y → y.n = g.n ∧ y.f = g.f ∧ y.count = g.count ∧ y.first = g.first ∧ y.bad = g.bad := by
    intro y hy; rw [← hy]; split <;> exact ⟨rfl, rfl, rfl, rfl, rfl⟩
  obtain ⟨y, hy⟩ : ∃ y, (if s < x.1 - (nth P (P.length - 1)).1 then gapS g true else g) = y := ⟨_, rfl⟩
  obtain ⟨y1, y2, y3, y4, y5⟩ := hc y hy
  rw [hy, hl]
  have hn := h.n
  refine ⟨by omega, by omega, ?_, ?_, ?_, ?_, fun i hi => ?_, fun i hi hk => ?_, ?_, ?_⟩
  · rw [show (oneS y x).count = y.count + 1 from rfl, y3, h.count]; omega
  · show (if y.n < 256 then y.n + 1 else y.n) = _
    rw [y1, hn]; split <;> omega
  · show (if y.count = 0 then x.1 else y.first) = _
    rw [y3, h.count, if_neg (by omega), y4, h.first, e 0 hp]
  · show x.1 = _
    rw [Nat.add_sub_cancel, ex]
  · show (if y.n < 256 then upd y.f y.n x.2.1 else y.f) i = _
    rw [y1, y2]
    by_cases h2 : g.n < 256
    · rw [if_pos h2]
      by_cases h3 : i = g.n
      · rw [h3, upd_same, show g.n = P.length by omega, ex]
      · rw [upd_other _ _ _ _ h3, e i (by omega)]; exact h.bytes i (by omega)
    · rw [if_neg h2, e i (by omega)]; exact h.bytes i (by omega)
  · by_cases h2 : i < P.length
    · rw [e i h2, e (i - 1) (by omega)]; exact h.close i hi h2
    · have : i = P.length := by omega
      subst this
      rw [ex, e _ (by omega)]; exact h1
  · show y.gap = _
    unfold gapsB
    rw [if_neg (by omega), gapsB_congr e, ← h.gap, ex, e _ (by omega), ← hy]
    split
    · rename_i h2; rw [decide_eq_true h2, Bool.or_true]; rfl
    · rename_i h2; rw [decide_eq_false h2, Bool.or_false]
  · show (y.bad || x.2.2) = _
    unfold badsB
    rw [badsB_congr e, ← h.bad, ex, y5]
theorem SegOf.start (s l : Int) (b : Bool) (f : Int) (x : Byt) : SegOf s l b f [x] 1 (oneS (gapS zeroS (b && decide (x.1 - f < l))) x) := by
  refine ⟨by omega, by simp, rfl, rfl, rfl, rfl, fun i hi => ?_, fun i h1 h2 => by omega, ?_, ?_⟩
  · obtain rfl : i = 0 := by omega
    rfl
  · show (b && decide (x.1 - f < l)) = _
    unfold gapsB gapsB
    simp [nth]
  · show (false || x.2.2) = _
    unfold badsB badsB
    simp [nth]
/-- Segments one behind the other: they have all bytes; ahead of each but the first one of all there is a silence of l or more. -/
inductive WholeP (s l : Int) : Bool → Int → List Byt → List Seg → Prop
  | nil (b : Bool) (f : Int) : WholeP s l b f [] []
  | cons {b : Bool} {f : Int} {L : List Byt} {k : Nat} {g : Seg} {S : List Seg} (h : SegOf s l b f L k g) (hl : b = false → l ≤ (nth L 0).1 - f) (hr : WholeP s l false (nth L (k - 1)).1 (L.drop k) S) : WholeP s l b f L (g :: S)
theorem whole_open (s l : Int) : ∀ (L P : List Byt) (b : Bool) (f : Int) (g : Seg), SegOf s l b f P P.length g → (b = false → l ≤ (nth P 0).1 - f) → WholeP s l b f (P ++ L) (cutG s l false (nth P (P.length - 1)).1 g L)
  | [], P, b, f, g, h, hf => by
    rw [cutG_nil, if_pos (by rw [h.count]; have := h.pos; omega), List.append_nil]
    refine .cons h hf ?_
    rw [List.drop_length]
    exact .nil _ _
  | x :: L, P, b, f, g, h, hf => by
    have hp := h.pos
    by_cases h1 : l ≤ x.1 - (nth P (P.length - 1)).1
    · rw [cutG_cut h1]
      refine .cons (h.left _) (fun e => by rw [nth_left hp]; exact hf e) ?_
      rw [List.drop_left, nth_left (by omega)]
      have h2 := SegOf.start s l false (nth P (P.length - 1)).1 x
      exact whole_open s l L [x] false _ _ h2 (fun _ => h1)
    · have h2 := h.one x h1
      have hx : nth (P ++ [x]) ((P ++ [x]).length - 1) = x := by
        rw [show (P ++ [x]).length - 1 = P.length by simp]; exact nth_end
      have ih := whole_open s l L (P ++ [x]) b f _ h2 (fun e => by rw [nth_left hp]; exact hf e)
      rw [hx, List.append_assoc] at ih
      by_cases h3 : s < x.1 - (nth P (P.length - 1)).1
      · rw [cutG_gap h1 h3]; rw [if_pos h3] at ih; exact ih
      · rw [cutG_on h1 h3]; rw [if_neg h3] at ih; exact ih
theorem whole_all (s l f : Int) (L : List Byt) : WholeP s l true f L (cutG s l true f zeroS L) := by
  cases L with
  | nil => rw [cutG_nil]; exact .nil _ _
  | cons x L =>
    rw [cutG_first]
    have h := SegOf.start s l true f x
    rw [Bool.true_and] at h
    exact whole_open s l L [x] true f _ h (fun e => by cases e)
end Go.Proofs.Ytebhalehgpigoaa
