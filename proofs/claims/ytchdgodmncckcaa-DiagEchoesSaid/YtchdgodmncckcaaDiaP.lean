/-
  LAYER 18, PLAIN: what a question's words come to, as the landed package goes about it.
-/
import Derived.Test.YtchdgodmncckcaaDia
import Derived.Test.YtchdgodmncckcaaWord
namespace Go.Proofs.Ytchdgodmncckcaa
open Go.RowKit
set_option linter.unusedVariables false

/-- How many words are told, which, how it stands then, and what comes of it. -/
def exM (k : Int) (m : Nat) : Nat := if k = 4 then 0 else m
def exU (D : Dia) (u : Nat → Int) : Nat → Int := fun i => if (u 0 = 2 ∨ (11 ≤ u 0 ∧ u 0 ≤ 18)) ∧ 1 ≤ i then (if u 0 = 2 then D.reg else D.C (u 0 - 11).toNat) else u i
def exD (D : Dia) (u : Nat → Int) : Dia :=
  if u 0 = 1 then { D with C := fun _ => 0, li := false }
  else if u 0 = 3 then { D with de := u 1 / 256 }
  else if u 0 = 4 then { D with li := true }
  else if u 0 = 10 then { D with C := fun _ => 0, reg := 0 }
  else if u 0 = 20 then { D with C := upd D.C 7 0 }
  else D
def exW (u : Nat → Int) : Int := if u 0 = 1 then (if u 1 = 0 then 1 else 2) else if u 0 = 4 then 3 else 0
/-- Are the words behind the number as it asks for? r: how many, v: the first. -/
def fitB (k : Int) (r : Nat) (v : Int) : Bool :=
  if k = 0 then decide (1 ≤ r ∧ r ≤ 125) else decide (r = 1 ∧ (k = 1 → v = 0 ∨ v = 65280) ∧ (k = 3 → v % 256 = 0) ∧ (k ≠ 1 → k ≠ 3 → v = 0))
theorem fit_dgR {m : Nat} {f : Nat → Int} (hm : 1 ≤ m) (hf : ∀ i, i < 2 * m → 0 ≤ f i ∧ f i < 256) : dgR (2 * m) f = fitB (dgN f) (m - 1) (getF f 1) := by
  have e1 : getF f 1 = f 2 * 256 + f 3 := rfl
  unfold dgR fitB dgV
  rw [e1]
  by_cases h0 : dgN f = 0
  · rw [if_pos h0, if_pos h0]
    exact decide_eq_decide.2 ⟨fun h => by omega, fun h => by omega⟩
  · rw [if_neg h0, if_neg h0]
    apply decide_eq_decide.2
    constructor
    · rintro ⟨a1, a2, a3, a4⟩
      have hm2 : m = 2 := by omega
      subst hm2
      obtain ⟨x0, x1⟩ := hf 2 (by omega)
      obtain ⟨y0, y1⟩ := hf 3 (by omega)
      exact ⟨by omega, a2, fun h => by have := a3 h; omega, a4⟩
    · rintro ⟨a1, a2, a3, a4⟩
      have hm2 : m = 2 := by omega
      subst hm2
      obtain ⟨x0, x1⟩ := hf 2 (by omega)
      obtain ⟨y0, y1⟩ := hf 3 (by omega)
      exact ⟨by omega, a2, fun h => by have := a3 h; omega, a4⟩
theorem odd_dgR {n : Nat} {f : Nat → Int} (hn : n % 2 = 1) : dgR n f = false := by
  unfold dgR
  by_cases h0 : dgN f = 0
  · rw [if_pos h0]; exact decide_eq_false (by omega)
  · rw [if_neg h0]; exact decide_eq_false (by omega)
theorem getF_zero (f : Nat → Int) : getF f 0 = dgN f := rfl
theorem getF_one (f : Nat → Int) : getF f 1 = dgV f := rfl
theorem getF_bd {f : Nat → Int} {m : Nat} (hf : ∀ i, i < 2 * m → 0 ≤ f i ∧ f i < 256) : ∀ i, i < m → 0 ≤ getF f i ∧ getF f i < 65536 := fun i hi => by
  obtain ⟨a0, a1⟩ := hf (2 * i) (by omega)
  obtain ⟨b0, b1⟩ := hf (2 * i + 1) (by omega)
  unfold getF; omega
theorem putF_getF {f : Nat → Int} {m : Nat} (hf : ∀ i, i < 2 * m → 0 ≤ f i ∧ f i < 256) : ∀ i, i < 2 * m → putF (getF f) i = f i := fun i hi => by
  rcases (show (∃ j, i = 2 * j) ∨ ∃ j, i = 2 * j + 1 by rcases Nat.mod_two_eq_zero_or_one i with h | h; exact .inl ⟨i / 2, by omega⟩; exact .inr ⟨i / 2, by omega⟩) with ⟨j, rfl⟩ | ⟨j, rfl⟩
  · rw [putF_even]; unfold getF
    obtain ⟨a0, a1⟩ := hf (2 * j) (by omega)
    obtain ⟨b0, b1⟩ := hf (2 * j + 1) (by omega)
    omega
  · rw [putF_odd]; unfold getF
    obtain ⟨a0, a1⟩ := hf (2 * j) (by omega)
    obtain ⟨b0, b1⟩ := hf (2 * j + 1) (by omega)
    omega
theorem exU_bd {D : Dia} (hD : DiaW D) {u : Nat → Int} {m : Nat} (hu : ∀ i, i < m → 0 ≤ u i ∧ u i < 65536) : ∀ i, i < m → 0 ≤ exU D u i ∧ exU D u i < 65536 := fun i hi => by
  unfold exU
  by_cases h : (u 0 = 2 ∨ (11 ≤ u 0 ∧ u 0 ≤ 18)) ∧ 1 ≤ i
  · rw [if_pos h]
    by_cases h2 : u 0 = 2
    · rw [if_pos h2]; exact hD.r
    · rw [if_neg h2]; exact hD.c _ (by have := h.1; omega)
  · rw [if_neg h]; exact hu i hi
theorem exD_w {D : Dia} (hD : DiaW D) {u : Nat → Int} (h1 : 0 ≤ u 1 ∧ u 1 < 65536) : DiaW (exD D u) := by
  have hz : ∀ i, i < 8 → 0 ≤ (fun _ : Nat => (0 : Int)) i ∧ (fun _ : Nat => (0 : Int)) i < 65536 := fun _ _ => ⟨Int.le_refl 0, by show (0 : Int) < 65536; decide⟩
  unfold exD
  split
  · exact ⟨hz, hD.r, hD.d⟩
  split
  · exact ⟨hD.c, hD.r, ⟨by show 0 ≤ u 1 / 256; omega, by show u 1 / 256 < 256; omega⟩⟩
  split
  · exact ⟨hD.c, hD.r, hD.d⟩
  split
  · exact ⟨hz, ⟨Int.le_refl 0, by show (0 : Int) < 65536; decide⟩, hD.d⟩
  split
  · refine ⟨fun i hi => ?_, hD.r, hD.d⟩
    show 0 ≤ upd D.C 7 0 i ∧ upd D.C 7 0 i < 65536
    by_cases e : i = 7
    · subst e; rw [upd_same]; exact ⟨Int.le_refl 0, by decide⟩
    · rw [upd_other _ _ _ _ e]; exact hD.c i hi
  · exact hD
theorem ex_dg {D : Dia} {m : Nat} {f : Nat → Int} (hf : ∀ i, i < 2 * m → 0 ≤ f i ∧ f i < 256) (hE : dgE (2 * m) f = 0) :
    dgD D (2 * m) f = exD D (getF f) ∧ dgW (2 * m) f = exW (getF f) ∧ dgM (2 * m) f = 2 * exM (getF f 0) m ∧ ∀ i, i < 2 * m → putF (exU D (getF f)) i = dgB D f i := by
  have h4 : dgN f ≠ 0 → m = 2 := by
    intro h0
    rcases dg_ways (2 * m) f with ⟨e, _⟩ | ⟨e, _⟩ | ⟨e, _⟩ | ⟨_, h2, hk, hr⟩
    · rw [e] at hE; cases hE
    · rw [e] at hE; cases hE
    · rw [e] at hE; cases hE
    · unfold dgR at hr; rw [if_neg h0] at hr; have := of_decide_eq_true hr; omega
  have hu0 : getF f 0 = dgN f := rfl
  have hu1 : getF f 1 = dgV f := rfl
  refine ⟨?_, ?_, ?_, ?_⟩
  · unfold dgD exD
    rw [if_neg (by rw [hE]; decide), hu0]
    by_cases h3 : dgN f = 3
    · have hm : m = 2 := h4 (by omega)
      have e : getF f 1 / 256 = f 2 := by
        have e1 : getF f 1 = f 2 * 256 + f 3 := rfl
        obtain ⟨x0, x1⟩ := hf 2 (by omega)
        obtain ⟨y0, y1⟩ := hf 3 (by omega)
        omega
      rw [e]
    · rw [if_neg h3, if_neg h3]
  · unfold dgW exW
    rw [if_neg (by rw [hE]; decide), hu0, hu1]
  · unfold dgM exM
    rw [hu0]
    by_cases h : dgN f = 4
    · rw [if_pos (.inr h), if_pos h]
    · rw [if_neg (by rintro (h1 | h1); exact h1 hE; exact h h1), if_neg h]
  · intro i hi
    unfold dgB
    by_cases h : (dgN f = 2 ∨ (11 ≤ dgN f ∧ dgN f ≤ 18)) ∧ 2 ≤ i
    · rw [if_pos h]
      have hm : m = 2 := h4 (by omega)
      have hx : exU D (getF f) 1 = dgX D f := by
        unfold exU dgX
        rw [hu0, if_pos ⟨h.1, Nat.le_refl 1⟩]
      rcases (show i = 2 ∨ i = 3 by omega) with rfl | rfl
      · rw [if_pos rfl]; rw [show (2 : Nat) = 2 * 1 from rfl, putF_even, hx]
      · rw [if_neg (by decide)]; rw [show (3 : Nat) = 2 * 1 + 1 from rfl, putF_odd, hx]
    · rw [if_neg h]
      have hj : exU D (getF f) (i / 2) = getF f (i / 2) := by
        unfold exU; rw [hu0, if_neg (fun hh => h ⟨hh.1, by omega⟩)]
      have := putF_getF hf i hi
      unfold putF at this ⊢
      rw [hj]; exact this
end Go.Proofs.Ytchdgodmncckcaa
