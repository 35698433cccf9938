/-
  LAYER 12, PLAIN: windows as two numbers: whether one may be, which places it has, holds and meets, what two share.
-/
namespace Go.Proofs.Ytpolopggaolodaa

def rgtB (f c : Int) : Bool := decide (0 ≤ f ∧ f ≤ 65535 ∧ 0 ≤ c ∧ c ≤ 65536 ∧ f + c ≤ 65536)
theorem rgtB_iff (f c : Int) : rgtB f c = true ↔ 0 ≤ f ∧ f ≤ 65535 ∧ 0 ≤ c ∧ c ≤ 65536 ∧ f + c ≤ 65536 := decide_eq_true_iff
theorem rgtB_no (f c : Int) : rgtB f c = false ↔ ¬ (0 ≤ f ∧ f ≤ 65535 ∧ 0 ≤ c ∧ c ≤ 65536 ∧ f + c ≤ 65536) := decide_eq_false_iff_not
def hasB (f c x : Int) : Bool := decide (0 ≤ f ∧ f ≤ 65535 ∧ 0 ≤ c ∧ c ≤ 65536 ∧ f + c ≤ 65536 ∧ f ≤ x ∧ x < f + c)
theorem hasB_iff (f c x : Int) : hasB f c x = true ↔ 0 ≤ f ∧ f ≤ 65535 ∧ 0 ≤ c ∧ c ≤ 65536 ∧ f + c ≤ 65536 ∧ f ≤ x ∧ x < f + c := decide_eq_true_iff
theorem hasB_no (f c x : Int) : hasB f c x = false ↔ ¬ (0 ≤ f ∧ f ≤ 65535 ∧ 0 ≤ c ∧ c ≤ 65536 ∧ f + c ≤ 65536 ∧ f ≤ x ∧ x < f + c) := decide_eq_false_iff_not
/-- Two windows share a place. -/
def shB (f c g d : Int) : Bool := decide (0 ≤ f ∧ f ≤ 65535 ∧ 0 ≤ c ∧ c ≤ 65536 ∧ f + c ≤ 65536 ∧ 0 ≤ g ∧ g ≤ 65535 ∧ 0 ≤ d ∧ d ≤ 65536 ∧ g + d ≤ 65536 ∧ 0 < c ∧ 0 < d ∧ f < g + d ∧ g < f + c)
theorem shB_iff (f c g d : Int) : shB f c g d = true ↔ 0 ≤ f ∧ f ≤ 65535 ∧ 0 ≤ c ∧ c ≤ 65536 ∧ f + c ≤ 65536 ∧ 0 ≤ g ∧ g ≤ 65535 ∧ 0 ≤ d ∧ d ≤ 65536 ∧ g + d ≤ 65536 ∧ 0 < c ∧ 0 < d ∧ f < g + d ∧ g < f + c := decide_eq_true_iff
theorem shB_no (f c g d : Int) : shB f c g d = false ↔ ¬ (0 ≤ f ∧ f ≤ 65535 ∧ 0 ≤ c ∧ c ≤ 65536 ∧ f + c ≤ 65536 ∧ 0 ≤ g ∧ g ≤ 65535 ∧ 0 ≤ d ∧ d ≤ 65536 ∧ g + d ≤ 65536 ∧ 0 < c ∧ 0 < d ∧ f < g + d ∧ g < f + c) := decide_eq_false_iff_not
def cutF (f c g d : Int) : Int := if shB f c g d = true then max f g else 0
def cutC (f c g d : Int) : Int := if shB f c g d = true then min (f + c) (g + d) - max f g else 0
/-- What 'Cut' tells, as inequalities. -/
theorem cut_yes {f c g d : Int} (h : shB f c g d = true) : cutF f c g d = max f g ∧ cutC f c g d = min (f + c) (g + d) - max f g := by
  unfold cutF cutC; rw [if_pos h, if_pos h]; exact ⟨rfl, rfl⟩
theorem cut_no {f c g d : Int} (h : shB f c g d = false) : cutF f c g d = 0 ∧ cutC f c g d = 0 := by
  unfold cutF cutC; rw [if_neg (by rw [h]; decide), if_neg (by rw [h]; decide)]; exact ⟨rfl, rfl⟩
/-- The same in one: a shared window lies in both, and no place more is shared; or there is none. -/
theorem cut_cases (f c g d : Int) :
    (shB f c g d = true ∧ 0 ≤ f ∧ f ≤ 65535 ∧ 0 < c ∧ f + c ≤ 65536 ∧ 0 ≤ g ∧ g ≤ 65535 ∧ 0 < d ∧ g + d ≤ 65536 ∧ f < g + d ∧ g < f + c ∧ cutF f c g d = max f g ∧ cutC f c g d = min (f + c) (g + d) - max f g) ∨
    (shB f c g d = false ∧ ¬ (0 ≤ f ∧ f ≤ 65535 ∧ 0 ≤ c ∧ c ≤ 65536 ∧ f + c ≤ 65536 ∧ 0 ≤ g ∧ g ≤ 65535 ∧ 0 ≤ d ∧ d ≤ 65536 ∧ g + d ≤ 65536 ∧ 0 < c ∧ 0 < d ∧ f < g + d ∧ g < f + c) ∧ cutF f c g d = 0 ∧ cutC f c g d = 0) := by
  cases h : shB f c g d with
  | true => have e := (shB_iff f c g d).1 h; have k := cut_yes h; exact .inl ⟨rfl, e.1, e.2.1, by omega, by omega, by omega, by omega, by omega, by omega, by omega, by omega, k.1, k.2⟩
  | false => have k := cut_no h; exact .inr ⟨rfl, (shB_no f c g d).1 h, k.1, k.2⟩
theorem cut_right (f c g d : Int) : rgtB (cutF f c g d) (cutC f c g d) = true := by
  rw [rgtB_iff]; rcases cut_cases f c g d with h | h <;> omega
theorem cut_comm (f c g d : Int) : cutF g d f c = cutF f c g d ∧ cutC g d f c = cutC f c g d := by
  rcases cut_cases f c g d with h | h <;> rcases cut_cases g d f c with k | k <;> omega
def holdB (f c x n : Int) : Bool := decide (0 ≤ f ∧ f ≤ 65535 ∧ 0 ≤ c ∧ c ≤ 65536 ∧ f + c ≤ 65536 ∧ 1 ≤ n ∧ f ≤ x ∧ x + n ≤ f + c)
theorem holdB_iff (f c x n : Int) : holdB f c x n = true ↔ 0 ≤ f ∧ f ≤ 65535 ∧ 0 ≤ c ∧ c ≤ 65536 ∧ f + c ≤ 65536 ∧ 1 ≤ n ∧ f ≤ x ∧ x + n ≤ f + c := decide_eq_true_iff
theorem holdB_no (f c x n : Int) : holdB f c x n = false ↔ ¬ (0 ≤ f ∧ f ≤ 65535 ∧ 0 ≤ c ∧ c ≤ 65536 ∧ f + c ≤ 65536 ∧ 1 ≤ n ∧ f ≤ x ∧ x + n ≤ f + c) := decide_eq_false_iff_not
def meetB (f c x n : Int) : Bool := decide (0 ≤ f ∧ f ≤ 65535 ∧ 0 ≤ c ∧ c ≤ 65536 ∧ f + c ≤ 65536 ∧ 1 ≤ n ∧ 1 ≤ c ∧ x < f + c ∧ f < x + n)
theorem meetB_iff (f c x n : Int) : meetB f c x n = true ↔ 0 ≤ f ∧ f ≤ 65535 ∧ 0 ≤ c ∧ c ≤ 65536 ∧ f + c ≤ 65536 ∧ 1 ≤ n ∧ 1 ≤ c ∧ x < f + c ∧ f < x + n := decide_eq_true_iff
theorem meetB_no (f c x n : Int) : meetB f c x n = false ↔ ¬ (0 ≤ f ∧ f ≤ 65535 ∧ 0 ≤ c ∧ c ≤ 65536 ∧ f + c ≤ 65536 ∧ 1 ≤ n ∧ 1 ≤ c ∧ x < f + c ∧ f < x + n) := decide_eq_false_iff_not
theorem bool_same {a b : Bool} (h : a = true ↔ b = true) : a = b := by cases a <;> cases b <;> simp_all
/-- Are two windows one? -/
def eqW (f c g d : Int) : Bool := decide (f = g ∧ c = d)
theorem eqW_iff (f c g d : Int) : eqW f c g d = true ↔ f = g ∧ c = d := decide_eq_true_iff
theorem eqW_self (f c : Int) : eqW f c f c = true := (eqW_iff _ _ _ _).2 ⟨rfl, rfl⟩
/-- 'Holds' as the code tells it: what is shared with what is asked for is all of that. -/
theorem hold_cut {f c x n : Int} (h : 0 < n) : eqW (cutF f c x n) (cutC f c x n) x n = holdB f c x n := by
  apply bool_same
  rw [eqW_iff, holdB_iff]
  rcases cut_cases f c x n with k | k <;> omega
theorem hold_no {f c x n : Int} (h : ¬ 0 < n) : holdB f c x n = false := by rw [holdB_no]; omega
/-- What 'trimmed' tells. -/
def trmF (x : Int) : Int := max x 0
def trmC (x n : Int) : Int := if 0 < n then min (n + min x 0) (65536 - max x 0) else min n (65536 - max x 0)
theorem meet_cut (f c x n : Int) : eqW (cutF f c (trmF x) (trmC x n)) (cutC f c (trmF x) (trmC x n)) 0 0 = !meetB f c x n := by
  have hF : trmF x = max x 0 := rfl
  have hC : trmC x n = if 0 < n then min (n + min x 0) (65536 - max x 0) else min n (65536 - max x 0) := rfl
  generalize trmF x = F at *
  generalize trmC x n = C at *
  have h2 : (!meetB f c x n) = true ↔ ¬ (0 ≤ f ∧ f ≤ 65535 ∧ 0 ≤ c ∧ c ≤ 65536 ∧ f + c ≤ 65536 ∧ 1 ≤ n ∧ 1 ≤ c ∧ x < f + c ∧ f < x + n) := by rw [← meetB_no]; cases meetB f c x n <;> simp
  apply bool_same
  rw [eqW_iff, h2]
  by_cases hn : 0 < n
  · rw [if_pos hn] at hC
    rcases cut_cases f c F C with k | k <;> omega
  · rw [if_neg hn] at hC
    rcases cut_cases f c F C with k | k <;> omega
/-- What is shared, place by place. -/
theorem cut_has (f c g d x : Int) : hasB (cutF f c g d) (cutC f c g d) x = (hasB f c x && hasB g d x) := by
  apply bool_same
  rw [Bool.and_eq_true, hasB_iff, hasB_iff, hasB_iff]
  rcases cut_cases f c g d with k | k <;> omega
end Go.Proofs.Ytpolopggaolodaa
