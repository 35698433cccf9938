/-
  bytes.Equal, bytes.Clone (over the shelf's conversions); part of XSplitD once more, for seats without package split.
-/
import Derived.Test.YtkgakeknnfnjdaaRef01
import Derived.Test.YtkgakeknnfnjdaaKeep
import Derived.Test.YtkgakeknnfnjdaaAppendL
import Derived.Test.YtkgakeknnfnjdaaStepAppend
import Derived.Shelf.Bytes.SlEqualAll
namespace Go.Proofs.Ytkgakeknnfnjdaa
open Go.RowKit
set_option linter.unusedVariables false

/-! ### bytes.Equal -/
/-- The first n of f, as numbers. -/
def lsI (f : Nat → Int) (n : Nat) : List Int := (List.range n).map f
theorem lsI_length (f : Nat → Int) (n : Nat) : (lsI f n).length = n := by simp [lsI]
theorem lsI_get (f : Nat → Int) (n i : Nat) (h : i < n) : (lsI f n).getD i 0 = f i := by simp [lsI, h]
theorem u8_inj {x y : Int} (hx : 0 ≤ x ∧ x < 256) (hy : 0 ≤ y ∧ y < 256) (h : UInt8.ofNat x.toNat = UInt8.ofNat y.toNat) : x = y := by
  have h1 := congrArg UInt8.toNat h
  rw [UInt8.toNat_ofNat', UInt8.toNat_ofNat'] at h1
  omega
theorem nums_same : ∀ {xs ys : List Int}, (∀ x ∈ xs, 0 ≤ x ∧ x < 256) → (∀ y ∈ ys, 0 ≤ y ∧ y < 256) → (xs.map fun n => UInt8.ofNat n.toNat) = (ys.map fun n => UInt8.ofNat n.toNat) → xs = ys
  | [], [], _, _, _ => rfl
  | [], _ :: _, _, _, h => by simp at h
  | _ :: _, [], _, _, h => by simp at h
  | x :: xs, y :: ys, hx, hy, h => by
    simp only [List.map_cons, List.cons.injEq] at h
    rw [u8_inj (hx x (by simp)) (hy y (by simp)) h.1, nums_same (fun z hz => hx z (by simp [hz])) (fun z hz => hy z (by simp [hz])) h.2]
theorem str_eq (f g : Nat → Int) (n m : Nat) (hf : ∀ i, i < n → 0 ≤ f i ∧ f i < 256) (hg : ∀ i, i < m → 0 ≤ g i ∧ g i < 256) :
    ((strOfNums (lsI f n)).toList == (strOfNums (lsI g m)).toList) = eqB n m f g := by
  rw [Lib.strOfNums_toList, Lib.strOfNums_toList]
  have bf : ∀ x ∈ lsI f n, 0 ≤ x ∧ x < 256 := fun x hx => by
    simp only [lsI, List.mem_map, List.mem_range] at hx
    obtain ⟨i, hi, rfl⟩ := hx; exact hf i hi
  have bg : ∀ x ∈ lsI g m, 0 ≤ x ∧ x < 256 := fun x hx => by
    simp only [lsI, List.mem_map, List.mem_range] at hx
    obtain ⟨i, hi, rfl⟩ := hx; exact hg i hi
  rw [Bool.eq_iff_iff, beq_iff_eq, eqB_iff]
  constructor
  · intro h
    have e := nums_same bf bg h
    have hl : n = m := by rw [← lsI_length f n, ← lsI_length g m, e]
    subst hl
    exact ⟨rfl, fun i hi => by rw [← lsI_get f n i hi, ← lsI_get g n i hi, e]⟩
  · rintro ⟨rfl, h⟩
    have : lsI f n = lsI g n := List.map_congr_left fun i hi => h i (List.mem_range.1 hi)
    rw [this]
theorem bytes_in {w : World} {a : Option Addr} {n : Nat} {f : Nat → Int} (h : Holds .u8 w a n f) : Lib.BytesIn w a n (lsI f n) := fun hn => by
  obtain ⟨b, off, ha, hlt, hc⟩ := h.resolve_left (by omega)
  exact ⟨b, off, ha, fun i hi => by rw [lsI_get _ _ _ hi]; exact hc i hi⟩
set_option maxHeartbeats 1000000 in
theorem equal_any (a b : Option Addr) (n m c d : Nat) (f g : Nat → Int) (w : World) (ha : Holds .u8 w a n f) (hb : Holds .u8 w b m g) (hf : ∀ i, i < n → 0 ≤ f i ∧ f i < 256) (hg : ∀ i, i < m → 0 ≤ g i ∧ g i < 256) :
    Calls Try.prog 21 #[.slice a n c, .slice b m d] w fun e w' => e = .returned (.bool (eqB n m f g)) ∧ w = w' := by
  have c1 := (bytes_in ha).convert (P := Try.prog) (lsI_length _ _) c 30 5 9 Try.underlying30 Try.underlying5 Try.underlying9
  have c2 := (bytes_in hb).convert (P := Try.prog) (lsI_length _ _) d 30 5 9 Try.underlying30 Try.underlying5 Try.underlying9
  rw [← str_eq f g n m hf hg]
  generalize strOfNums (lsI f n) = X at c1 ⊢
  generalize strOfNums (lsI g m) = Y at c2 ⊢
  clear ha hb hf hg
  go_enter Try.func21, Try.ntmps21
  go_wp2
  go_ret
  exact ⟨rfl, rfl⟩

end Go.Proofs.Ytkgakeknnfnjdaa
