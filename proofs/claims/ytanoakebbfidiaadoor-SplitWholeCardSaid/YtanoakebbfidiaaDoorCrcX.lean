/-
  CONTRACTS of package crc and bilgeref04 in the forms that the callers take.
-/
import Derived.Test.YtanoakebbfidiaaDoorCrcD
import Derived.Test.YtanoakebbfidiaaDoorSame
namespace Go.Proofs.YtanoakebbfidiaaDoor
open Go.RowKit

/-- Do the n bytes end with their sum? -/
def endsB (f : Nat → Int) (n : Nat) : Bool := decide (2 ≤ n) && endB f (n - 2)
theorem endsB_short {f : Nat → Int} {n : Nat} (h : n < 2) : endsB f n = false := by unfold endsB; rw [decide_eq_false (by omega)]; rfl
theorem endsB_long (f : Nat → Int) (n : Nat) : endsB f (n + 2) = endB f n := by unfold endsB; rw [decide_eq_true (by omega)]; rfl
theorem endsB_two {f : Nat → Int} {n : Nat} (h : endsB f n = true) : 2 ≤ n := by
  rcases Nat.lt_or_ge n 2 with h2 | h2
  · rw [endsB_short h2] at h; cases h
  · exact h2
/-- They end with their sum just if nothing is left of all. -/
theorem endsB_iff (f : Nat → Int) (n : Nat) (hf : ∀ i, i < n + 2 → 0 ≤ f i ∧ f i < 256) : endsB f (n + 2) = true ↔ sumV f (n + 2) = 0#16 := by
  rw [endsB_long]
  unfold endB
  rw [beq_iff_eq]
  exact (told2_iff (sumV f n) (f n) (f (n + 1)) (hf n (by omega)) (hf (n + 1) (by omega))).symm
theorem endsB_andTwo (f : Nat → Int) (n : Nat) (hf : ∀ i, i < n → 0 ≤ f i ∧ f i < 256) : endsB (andTwo f n (vI (sumV f n))) (n + 2) = true :=
  (endsB_iff _ n fun i _ => andTwo_bd f n _ hf (vI_lo _) (vI_hi _) i).2 (remV_andTwo _ f n)
/-- What ends with its sum, with its sum behind what stands ahead. -/
theorem endsB_back {f : Nat → Int} {n : Nat} (hf : ∀ i, i < n + 2 → 0 ≤ f i ∧ f i < 256) (h : endsB f (n + 2) = true) : ∀ i, i < n + 2 → andTwo f n (vI (sumV f n)) i = f i := by
  rw [endsB_long] at h
  have e : vI (sumV f n) = f (n + 1) * 256 + f n := by unfold endB at h; simpa using h
  have b0 := hf n (by omega)
  have b1 := hf (n + 1) (by omega)
  intro i hi
  unfold andTwo
  rw [e]
  by_cases h1 : i < n
  · rw [if_pos h1]
  · rw [if_neg h1]
    by_cases h2 : i = n
    · subst h2; rw [if_pos rfl]; omega
    · rw [if_neg h2, show i = n + 1 from by omega]; omega

theorem check_any (a : Option Addr) (n c : Nat) (f : Nat → Int) (w : World) (ht : Tabs w) (ha : Holds .u8 w a n f) (hc : n ≤ c) (hcm : c ≤ maxLen) (hn : n ≤ 1000000) (hf : ∀ i, i < n → 0 ≤ f i ∧ f i < 256) :
    Calls Tryd.prog 41 #[.slice a n c] w fun e w' => e = .returned (.bool (endsB f n)) ∧ Ext w w' := by
  rcases Nat.lt_or_ge n 2 with h | h
  · rw [endsB_short h]
    exact (check_short a n c w h).mono fun _ _ h => ⟨h.1, Ext.of_eq h.2⟩
  · obtain ⟨m, rfl⟩ : ∃ m, n = m + 2 := ⟨n - 2, by omega⟩
    rw [endsB_long]
    exact check_long a m c f w ht ha hc hcm (by omega) hf
theorem check_v (a : Option Addr) (n c : Nat) (f : Nat → Int) (v : Bool) (w : World) (ht : Tabs w) (ha : Holds .u8 w a n f) (hc : n ≤ c) (hcm : c ≤ maxLen) (hn : n ≤ 1000000) (hf : ∀ i, i < n → 0 ≤ f i ∧ f i < 256) (hv : endsB f n = v) :
    Calls Tryd.prog 41 #[.slice a n c] w fun e w' => e = .returned (.bool v) ∧ Ext w w' := hv ▸ check_any a n c f w ht ha hc hcm hn hf
theorem rcheck_v (a : Option Addr) (n c : Nat) (f : Nat → Int) (v : Bool) (w : World) (ha : Holds .u8 w a n f) (hc : n ≤ c) (hcm : c ≤ maxLen) (hn : n ≤ 1000000) (hf : ∀ i, i < n → 0 ≤ f i ∧ f i < 256) (hv : endsB f n = v) :
    Calls Tryd.prog 27 #[.slice a n c] w fun e w' => e = .returned (.bool v) ∧ Ext w w' := by
  subst hv
  rcases Nat.lt_or_ge n 2 with h | h
  · rw [endsB_short h]
    exact (rcheck_short a n c w h).mono fun _ _ h => ⟨h.1, Ext.of_eq h.2⟩
  · obtain ⟨m, rfl⟩ : ∃ m, n = m + 2 := ⟨n - 2, by omega⟩
    rw [endsB_long]
    exact rcheck_long a m c f w ha hc hcm (by omega) hf
theorem sum_v (a : Option Addr) (n c : Nat) (f : Nat → Int) (v : Int) (w : World) (ht : Tabs w) (ha : Holds .u8 w a n f) (hn : n ≤ 1000000) (hf : ∀ i, i < n → 0 ≤ f i ∧ f i < 256) (hv : vI (sumV f n) = v) :
    Calls Tryd.prog 47 #[.slice a n c] w fun e w' => e = .returned (.int .u16 v) ∧ Ext w w' := hv ▸ sum_any a n c f w ht ha hn hf
theorem table_v (b v : Int) (w : World) (ht : Tabs w) (h0 : 0 ≤ b) (h1 : b < 256) (hv : vI (byteV 0#16 b) = v) :
    Calls Tryd.prog 54 #[.int .u8 b] w fun e w' => e = .returned (.int .u16 v) ∧ Ext w w' := hv ▸ table_any b w ht h0 h1
theorem wf8 {n : Int} (h : (Lit.int .u8 n).wf = true) : 0 ≤ n ∧ n < 256 := by have := bounds_u8 h; omega
theorem wf16 {n : Int} (h : (Lit.int .u16 n).wf = true) : ∃ x, n = vI x := by have := bounds_u16 h; exact vI_of (by omega) (by omega)
end Go.Proofs.YtanoakebbfidiaaDoor
