/-
  FRAMES (layer 11), plain: a byte ahead of bytes, the frame, what a frame says, the errors.
-/
import Derived.Test.YtaaapfpcdkfleaaDoorCrc
namespace Go.Proofs.YtaaapfpcdkfleaaDoor
open Go.RowKit

/-- A byte ahead of bytes. -/
def consF (s : Int) (f : Nat → Int) : Nat → Int := fun i => if i = 0 then s else f (i - 1)
theorem consF_bd {s : Int} {f : Nat → Int} {n : Nat} (h0 : 0 ≤ s) (h1 : s < 256) (hf : ∀ i, i < n → 0 ≤ f i ∧ f i < 256) : ∀ i, i < n + 1 → 0 ≤ consF s f i ∧ consF s f i < 256 := by
  intro i hi; unfold consF; split
  · exact ⟨h0, h1⟩
  · exact hf _ (by omega)
theorem consF_back (f : Nat → Int) : consF (f 0) (fun i => f (i + 1)) = f := by
  funext i; unfold consF; split
  · subst i; rfl
  · exact congrArg f (by omega)
/-- The frame. -/
def frm (s : Int) (f : Nat → Int) (n : Nat) : Nat → Int := andTwo (consF s f) (n + 1) (vI (sumV (consF s f) (n + 1)))
theorem frm_bd {s : Int} {f : Nat → Int} {n : Nat} (h0 : 0 ≤ s) (h1 : s < 256) (hf : ∀ i, i < n → 0 ≤ f i ∧ f i < 256) : ∀ i, 0 ≤ frm s f n i ∧ frm s f n i < 256 :=
  andTwo_bd _ _ _ (consF_bd h0 h1 hf) (vI_lo _) (vI_hi _)
theorem frm_ends {s : Int} {f : Nat → Int} {n : Nat} (h0 : 0 ≤ s) (h1 : s < 256) (hf : ∀ i, i < n → 0 ≤ f i ∧ f i < 256) : endsB (frm s f n) (n + 3) = true :=
  endsB_andTwo _ (n + 1) (consF_bd h0 h1 hf)
theorem frm_zero (s : Int) (f : Nat → Int) (n : Nat) : frm s f n 0 = s := by
  unfold frm; rw [andTwo_front _ _ _ 0 (by omega)]; exact if_pos rfl
theorem frm_succ (s : Int) (f : Nat → Int) (n i : Nat) (h : i < n) : frm s f n (i + 1) = f i := by
  unfold frm; rw [andTwo_front _ _ _ (i + 1) (by omega)]; unfold consF; rw [if_neg (by omega)]; rfl
theorem frm_back {f : Nat → Int} {n : Nat} (hf : ∀ i, i < n + 3 → 0 ≤ f i ∧ f i < 256) (h : endsB f (n + 3) = true) : ∀ i, i < n + 3 → frm (f 0) (fun i => f (i + 1)) n i = f i := by
  unfold frm; rw [consF_back]; exact endsB_back hf h
theorem frm_congr {s : Int} {f g : Nat → Int} {n : Nat} (h : ∀ i, i < n → f i = g i) : ∀ i, i < n + 3 → frm s f n i = frm s g n i := by
  have e : ∀ i, i < n + 1 → consF s f i = consF s g i := by
    intro i hi; unfold consF; split
    · rfl
    · exact h _ (by omega)
  have es : sumV (consF s f) (n + 1) = sumV (consF s g) (n + 1) := remV_congr _ _ e
  intro i hi; unfold frm; rw [es]; unfold andTwo; split
  · exact e _ (by assumption)
  · rfl

/-- What Wrap tells of the error, and how many bytes the frame has. -/
def wrapE (s : Int) (n : Nat) : Int := if s < 0 ∨ 255 < s then 11 else if n = 0 then 12 else if 253 < n then 13 else 0
def wrapN (s : Int) (n : Nat) : Nat := if wrapE s n = 0 then n + 3 else 0
theorem wrapE_zero {s : Int} {n : Nat} (h : wrapE s n = 0) : 0 ≤ s ∧ s < 256 ∧ 1 ≤ n ∧ n ≤ 253 := by
  unfold wrapE at h
  by_cases h1 : s < 0 ∨ 255 < s
  · rw [if_pos h1] at h; omega
  · rw [if_neg h1] at h
    by_cases h2 : n = 0
    · rw [if_pos h2] at h; omega
    · rw [if_neg h2] at h
      by_cases h3 : 253 < n
      · rw [if_pos h3] at h; omega
      · omega
theorem wrapE_ok {s : Int} {n : Nat} (h0 : 0 ≤ s) (h1 : s < 256) (h2 : 1 ≤ n) (h3 : n ≤ 253) : wrapE s n = 0 := by
  unfold wrapE; rw [if_neg (by omega), if_neg (by omega), if_neg (by omega)]
theorem wrapE_arg {s : Int} {n : Nat} (h : s < 0 ∨ 255 < s) : wrapE s n = 11 := if_pos h
theorem wrapE_short {s : Int} {n : Nat} (h0 : 0 ≤ s) (h1 : s < 256) (h : n = 0) : wrapE s n = 12 := by
  unfold wrapE; rw [if_neg (by omega), if_pos h]
theorem wrapE_long {s : Int} {n : Nat} (h0 : 0 ≤ s) (h1 : s < 256) (h : 253 < n) : wrapE s n = 13 := by
  unfold wrapE; rw [if_neg (by omega), if_neg (by omega), if_pos h]
theorem wrapN_ok {s : Int} {n : Nat} (h : wrapE s n = 0) : wrapN s n = n + 3 := if_pos h
theorem wrapN_no {s : Int} {n : Nat} (h : wrapE s n ≠ 0) : wrapN s n = 0 := if_neg h
theorem wrapN_le (s : Int) (n : Nat) : wrapN s n ≤ 256 := by
  by_cases h : wrapE s n = 0
  · rw [wrapN_ok h]; have := wrapE_zero h; omega
  · rw [wrapN_no h]; omega

/-- What Open tells: the error, the station, how many bytes are said. -/
def openE (f : Nat → Int) (n : Nat) : Int := if n < 4 then 12 else if 256 < n then 13 else if endsB f n then 0 else 14
def openS (f : Nat → Int) (n : Nat) : Int := if openE f n = 0 then f 0 else 0
def openN (f : Nat → Int) (n : Nat) : Nat := if openE f n = 0 then n - 3 else 0
theorem openE_zero {f : Nat → Int} {n : Nat} (h : openE f n = 0) : 4 ≤ n ∧ n ≤ 256 ∧ endsB f n = true := by
  unfold openE at h
  by_cases h1 : n < 4
  · rw [if_pos h1] at h; omega
  · rw [if_neg h1] at h
    by_cases h2 : 256 < n
    · rw [if_pos h2] at h; omega
    · rw [if_neg h2] at h
      by_cases h3 : endsB f n = true
      · exact ⟨by omega, by omega, h3⟩
      · rw [if_neg h3] at h; omega
theorem openE_sum {f : Nat → Int} {n : Nat} (h1 : 4 ≤ n) (h2 : n ≤ 256) : openE f n = if endsB f n then 0 else 14 := by
  unfold openE; rw [if_neg (by omega), if_neg (by omega)]
theorem openE_ok {f : Nat → Int} {n : Nat} (h1 : 4 ≤ n) (h2 : n ≤ 256) (h : endsB f n = true) : openE f n = 0 := by rw [openE_sum h1 h2, if_pos h]
theorem openE_form {f : Nat → Int} {n : Nat} (h1 : 4 ≤ n) (h2 : n ≤ 256) (h : endsB f n = false) : openE f n = 14 := by rw [openE_sum h1 h2, if_neg (by rw [h]; exact Bool.false_ne_true)]
theorem openE_short {f : Nat → Int} {n : Nat} (h : n < 4) : openE f n = 12 := if_pos h
theorem openE_long {f : Nat → Int} {n : Nat} (h : 256 < n) : openE f n = 13 := by unfold openE; rw [if_neg (by omega), if_pos h]
theorem openS_ok {f : Nat → Int} {n : Nat} (h : openE f n = 0) : openS f n = f 0 := if_pos h
theorem openS_no {f : Nat → Int} {n : Nat} (h : openE f n ≠ 0) : openS f n = 0 := if_neg h
theorem openN_ok {f : Nat → Int} {n : Nat} (h : openE f n = 0) : openN f n = n - 3 := if_pos h
theorem openN_no {f : Nat → Int} {n : Nat} (h : openE f n ≠ 0) : openN f n = 0 := if_neg h
theorem openN_le (f : Nat → Int) (n : Nat) : openN f n ≤ 253 := by
  by_cases h : openE f n = 0
  · rw [openN_ok h]; have := openE_zero h; omega
  · rw [openN_no h]; omega
def sizeN (n : Int) : Int := if n < 1 ∨ 253 < n then 0 else n + 3
end Go.Proofs.YtaaapfpcdkfleaaDoor
