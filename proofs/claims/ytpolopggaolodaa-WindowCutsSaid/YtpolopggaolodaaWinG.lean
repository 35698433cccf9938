/-
  LAYER 12, PLAIN: what three windows share.
-/
import Derived.Test.YtpolopggaolodaaWinMath
namespace Go.Proofs.Ytpolopggaolodaa

theorem cut_zero (f c g d : Int) : cutC f c g d = 0 → cutF f c g d = 0 := by
  rcases cut_cases f c g d with h | h <;> omega
theorem canon_ext {F C G D : Int} (r : rgtB F C = true) (s : rgtB G D = true) (z : C = 0 → F = 0) (y : D = 0 → G = 0) (h : ∀ x, hasB F C x = hasB G D x) : F = G ∧ C = D := by
  have r1 := (rgtB_iff F C).1 r
  have s1 := (rgtB_iff G D).1 s
  have e : ∀ x, (F ≤ x ∧ x < F + C) ↔ (G ≤ x ∧ x < G + D) := fun x => by
    have hx := h x
    have a := hasB_iff F C x
    have b := hasB_iff G D x
    rw [hx] at a
    constructor
    · intro k; have := b.1 (a.2 (by omega)); omega
    · intro k; have := a.1 (b.2 (by omega)); omega
  have e1 := e F; have e2 := e G; have e3 := e (F + C - 1); have e4 := e (G + D - 1)
  omega
theorem cut_assoc (f c g d h k : Int) : cutF f c (cutF g d h k) (cutC g d h k) = cutF (cutF f c g d) (cutC f c g d) h k ∧ cutC f c (cutF g d h k) (cutC g d h k) = cutC (cutF f c g d) (cutC f c g d) h k :=
  canon_ext (cut_right _ _ _ _) (cut_right _ _ _ _) (cut_zero _ _ _ _) (cut_zero _ _ _ _) (fun x => by rw [cut_has, cut_has, cut_has, cut_has, Bool.and_assoc])
theorem cut_most (f c g d h k : Int) : cutC (cutF f c g d) (cutC f c g d) h k ≤ min (max c 0) (max d 0) := by
  have h1 := cut_cases f c g d
  have h2 := cut_cases (cutF f c g d) (cutC f c g d) h k
  generalize cutF f c g d = F at *
  generalize cutC f c g d = C at *
  rcases h1 with h1 | h1 <;> rcases h2 with h2 | h2 <;> omega
theorem cut_self {f c : Int} (h : rgtB f c = true) (hc : 0 < c) : cutF f c f c = f ∧ cutC f c f c = c := by
  have := (rgtB_iff f c).1 h
  rcases cut_cases f c f c with k | k <;> omega
theorem cut_held {f c g d : Int} (h : holdB f c g d = true) (hr : rgtB g d = true) : cutF f c g d = g ∧ cutC f c g d = d := by
  have := (holdB_iff f c g d).1 h
  have := (rgtB_iff g d).1 hr
  rcases cut_cases f c g d with k | k <;> omega
theorem meet_some {f c g d : Int} (hr : rgtB g d = true) : meetB f c g d = decide (0 < cutC f c g d) := by
  apply bool_same
  have := (rgtB_iff g d).1 hr
  rw [meetB_iff, decide_eq_true_eq]
  rcases cut_cases f c g d with k | k <;> omega
end Go.Proofs.Ytpolopggaolodaa
