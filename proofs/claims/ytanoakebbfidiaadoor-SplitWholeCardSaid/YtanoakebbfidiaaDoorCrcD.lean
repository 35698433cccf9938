/-
  CONTRACTS: crc.Join; bilgeref04.Join and Flip.
-/
import Derived.Test.YtanoakebbfidiaaDoorCrcC
namespace Go.Proofs.YtanoakebbfidiaaDoor
open Go.RowKit

/-- Joined. -/
def joinV (x y : BitVec 16) (n : Nat) : BitVec 16 := remV (x ^^^ 65535#16) (fun _ => 0) n ^^^ y
theorem xor_start (x : BitVec 16) : bits .xor .u16 (vI x) 65535 = vI (x ^^^ 65535#16) := vI_xor x 65535#16
/-- Two sums are joined. -/
theorem joinV_sum (f g : Nat → Int) (n m : Nat) (hg : ∀ i, i < m → 0 ≤ g i) : joinV (sumV f n) (sumV g m) m = sumV (fun i => if i < n then f i else g (i - n)) (n + m) := by
  unfold joinV sumV
  rw [remV_zeros_xor _ _ _ hg, remV_add]

/-- What the call owns, opened. -/
theorem own_open {w : World} {base n : Nat} {e : TypeId} {v : Value} {xs : List Value} (h : w.ownsRow base e 1 v n xs) (hn : 0 < n) : ∃ g cap, v = .slice (some ⟨g, 0, none⟩) n cap ∧ base ≤ g ∧ n ≤ cap ∧ cap ≤ maxLen := by
  obtain ⟨hl, h2⟩ := h
  rcases h2 with ⟨hv, hx⟩ | ⟨g, cap, cur, hv, hg, hh, h3, h4, _⟩
  · subst hx; simp at hl; omega
  · exact ⟨g, cap, hv, hg, h3, h4⟩
/-- A bit turned. -/
def flipF (f : Nat → Int) (k : Nat) : Nat → Int := fun i => if i = k / 8 then xB (f i) ((2 ^ (k % 8) : Nat) : Int) else f i
theorem flipF_bd (f : Nat → Int) (k n : Nat) (hf : ∀ i, i < n → 0 ≤ f i ∧ f i < 256) : ∀ i, i < n → 0 ≤ flipF f k i ∧ flipF f k i < 256 := by
  intro i hi
  have h2 : 2 ^ (k % 8) ≤ 2 ^ 7 := Nat.pow_le_pow_right (by decide) (by omega)
  unfold flipF; split
  · exact ⟨xB_lo _ _, xB_hi _ _ (hf i hi).2 (by omega)⟩
  · exact hf i hi
theorem flipF_bit (f : Nat → Int) (k i j : Nat) (hj : j < 8) : bB (flipF f k i) j = (bB (f i) j ^^ decide (8 * i + j = k)) := by
  unfold flipF
  by_cases h : i = k / 8
  · rw [if_pos h]
    unfold xB bB
    rw [Int.toNat_natCast, Int.toNat_natCast, Nat.testBit_xor, Nat.testBit_two_pow]
    congr 1
    exact decide_eq_decide.2 (by omega)
  · rw [if_neg h, decide_eq_false (by omega), Bool.xor_false]
end Go.Proofs.YtanoakebbfidiaaDoor
