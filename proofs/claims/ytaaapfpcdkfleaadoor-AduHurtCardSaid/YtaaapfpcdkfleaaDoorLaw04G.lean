/-
  THE LAWS OF LAYER 4: what is turned in a frame, and what is left of it; what a walk with a table of its own wants.
-/
import Derived.Test.YtaaapfpcdkfleaaDoorLaw04A
namespace Go.Proofs.YtaaapfpcdkfleaaDoor
open Go.RowKit

/-- A frame in which the bits of S are turned still ends with its sum just if nothing is left of S. -/
theorem hurt (f g : Nat → Int) (n : Nat) (S : Nat → Bool) (hg : ∀ i, i < n + 2 → 0 ≤ g i ∧ g i < 256)
    (h : ∀ i, i < n + 2 → ∀ j, j < 8 → bB (g i) j = (bB (andTwo f n (vI (sumV f n)) i) j ^^ S (8 * i + j))) : endsB g (n + 2) = true ↔ stepsV 0#16 S (8 * (n + 2)) = 0#16 := by
  rw [endsB_iff g n hg]
  unfold sumV at h ⊢
  rw [turned _ _ g S (n + 2) h, remV_andTwo, BitVec.zero_xor]
theorem bool_of_iff {a : Bool} {P : Prop} (h : a = true ↔ P) (hp : ¬ P) : a = false := by
  cases a
  · rfl
  · exact absurd (h.1 rfl) hp
theorem many_upd (S : Nat → Bool) (k : Nat) (h : S k = false) : ∀ n, k < n → many (upd S k true) n = many S n + 1
  | 0, hk => absurd hk (by omega)
  | n + 1, hk => by
    simp only [many]
    by_cases e : k = n
    · subst e
      have : ∀ m, m ≤ k → many (upd S k true) m = many S m := by
        intro m
        induction m with
        | zero => intro _; rfl
        | succ m ih => intro hm; simp only [many]; rw [ih (by omega), upd_other _ _ _ _ (by omega)]
      rw [this k (Nat.le_refl _), upd_same, h]; simp
    · rw [many_upd S k h n (by omega), upd_other _ _ _ _ (Ne.symm e)]; omega
theorem many_no : ∀ n, many (fun _ => false) n = 0
  | 0 => rfl
  | n + 1 => by simp only [many]; rw [many_no n]; simp
/-- One more bit. -/
theorem more_bit {F g : Nat → Int} {S : Nat → Bool} {L k : Nat} (hk : S k = false) (h : ∀ i, i < L → ∀ j, j < 8 → bB (g i) j = (bB (F i) j ^^ S (8 * i + j))) :
    ∀ i, i < L → ∀ j, j < 8 → bB (flipF g k i) j = (bB (F i) j ^^ upd S k true (8 * i + j)) := by
  intro i hi j hj
  rw [flipF_bit g k i j hj, h i hi j hj]
  by_cases e : 8 * i + j = k
  · rw [e, hk, upd_same, decide_eq_true rfl]; cases bB (F i) j <;> rfl
  · rw [upd_other _ _ _ _ e, decide_eq_false e, Bool.xor_false]

/-- Not in the block B. -/
def Far (B : Nat) (a : Option Addr) : Prop := ∀ p, a = some p → p.block ≠ B
theorem Holds.setFar {k : IntKind} {w : World} {a : Option Addr} {n : Nat} {f : Nat → Int} (h : Holds k w a n f) {B : Nat} (hf : Far B a) (j : Nat) (u : Value) : Holds k (w.setCell ⟨B, j, none⟩ u) a n f := by
  rcases h with h | ⟨b, off, ha, hlt, hc⟩
  · exact .inl h
  · refine .inr ⟨b, off, ha, by simpa using hlt, fun i hi => ?_⟩
    rw [cell_far (hf _ ha)]; exact hc i hi
theorem Holds.far {k : IntKind} {w : World} {a : Option Addr} {n : Nat} {f : Nat → Int} (h : Holds k w a n f) (hn : 0 < n) : Far w.heap.size a := by
  obtain ⟨b, off, ha, hlt, hc⟩ := h.resolve_left (by omega)
  intro p hp
  rw [ha] at hp; cases hp
  exact Nat.ne_of_lt hlt
/-- Bytes with the same bits. -/
theorem byte_bits {a b : Int} (ha : 0 ≤ a ∧ a < 256) (hb : 0 ≤ b ∧ b < 256) (h : ∀ j, j < 8 → bB a j = bB b j) : a = b := by
  obtain ⟨A, hA, rfl⟩ := byte_nat ha.1 ha.2
  obtain ⟨B, hB, rfl⟩ := byte_nat hb.1 hb.2
  congr 1
  apply Nat.eq_of_testBit_eq
  intro j
  by_cases hj : j < 8
  · have := h j hj
    simpa [bB] using this
  · have h8 : 256 ≤ 2 ^ j := by rw [show 256 = 2 ^ 8 from rfl]; exact Nat.pow_le_pow_right (by decide) (by omega)
    rw [Nat.testBit_lt_two_pow (by omega), Nat.testBit_lt_two_pow (by omega)]
end Go.Proofs.YtaaapfpcdkfleaaDoor
