/-
  LAYER 18, PLAIN: a state (counters, register, whether it listens only, the byte), what a question tells and does.
-/
import Derived.Test.YtchdgodmncckcaaKeep
import Derived.Test.YtchdgodmncckcaaBools
import Derived.Laws.CopyOwn
import Derived.Laws.Rows
namespace Go.Proofs.Ytchdgodmncckcaa
open Go.RowKit
set_option linter.unusedVariables false

structure Dia where
  C : Nat → Int
  reg : Int
  li : Bool
  de : Int
/-- bilgeref18.State's eleven cells. -/
def diaC (D : Dia) : Array Value := #[.int .u16 (D.C 0), .int .u16 (D.C 1), .int .u16 (D.C 2), .int .u16 (D.C 3), .int .u16 (D.C 4), .int .u16 (D.C 5), .int .u16 (D.C 6), .int .u16 (D.C 7), .int .u16 D.reg, .bool D.li, .int .u8 D.de]
structure DiaW (D : Dia) : Prop where
  c : ∀ i, i < 8 → 0 ≤ D.C i ∧ D.C i < 65536
  r : 0 ≤ D.reg ∧ D.reg < 65536
  d : 0 ≤ D.de ∧ D.de < 256
def newD : Dia := ⟨fun _ => 0, 0, false, 10⟩
theorem newD_w : DiaW newD := ⟨fun _ _ => ⟨Int.le_refl 0, by show (0 : Int) < 65536; decide⟩, ⟨Int.le_refl 0, by show (0 : Int) < 65536; decide⟩, ⟨by show (0 : Int) ≤ 10; decide, by show (10 : Int) < 256; decide⟩⟩
/-- A question's number, and the first word behind it. -/
def dgN (f : Nat → Int) : Int := f 0 * 256 + f 1
def dgV (f : Nat → Int) : Int := f 2 * 256 + f 3
def dgK (k : Int) : Bool := decide (k ≤ 4 ∨ (10 ≤ k ∧ k ≤ 18) ∨ k = 20)
/-- Is what is behind the number as it must be? -/
def dgR (n : Nat) (f : Nat → Int) : Bool :=
  if dgN f = 0 then decide (4 ≤ n ∧ n ≤ 252 ∧ n % 2 = 0)
  else decide (n = 4 ∧ (dgN f = 1 → dgV f = 0 ∨ dgV f = 65280) ∧ (dgN f = 3 → f 3 = 0) ∧ (dgN f ≠ 1 → dgN f ≠ 3 → dgV f = 0))
def dgE (n : Nat) (f : Nat → Int) : Int := if n < 2 then 3 else if dgK (dgN f) = false then 1 else if dgR n f = true then 0 else 3
/-- The state behind it. -/
def dgD (D : Dia) (n : Nat) (f : Nat → Int) : Dia :=
  if dgE n f ≠ 0 then D
  else if dgN f = 1 then { D with C := fun _ => 0, li := false }
  else if dgN f = 3 then { D with de := f 2 }
  else if dgN f = 4 then { D with li := true }
  else if dgN f = 10 then { D with C := fun _ => 0, reg := 0 }
  else if dgN f = 20 then { D with C := upd D.C 7 0 }
  else D
/-- What it comes to. -/
def dgW (n : Nat) (f : Nat → Int) : Int := if dgE n f ≠ 0 then 0 else if dgN f = 1 then (if dgV f = 0 then 1 else 2) else if dgN f = 4 then 3 else 0
/-- What is told. -/
def dgM (n : Nat) (f : Nat → Int) : Nat := if dgE n f ≠ 0 ∨ dgN f = 4 then 0 else n
def dgX (D : Dia) (f : Nat → Int) : Int := if dgN f = 2 then D.reg else D.C (dgN f - 11).toNat
def dgB (D : Dia) (f : Nat → Int) : Nat → Int := fun i => if (dgN f = 2 ∨ (11 ≤ dgN f ∧ dgN f ≤ 18)) ∧ 2 ≤ i then (if i = 2 then dgX D f / 256 else dgX D f % 256) else f i
/-- Counting. -/
def cntE (i : Int) : Int := if 0 ≤ i ∧ i < 8 then 0 else 11
def cntD (D : Dia) (i : Int) : Dia := if 0 ≤ i ∧ i < 8 then { D with C := upd D.C i.toNat ((D.C i.toNat + 1) % 65536) } else D
/-- The ways of a question. -/
theorem dg_ways (n : Nat) (f : Nat → Int) : (dgE n f = 3 ∧ n < 2) ∨ (dgE n f = 1 ∧ 2 ≤ n ∧ dgK (dgN f) = false) ∨ (dgE n f = 3 ∧ 2 ≤ n ∧ dgK (dgN f) = true ∧ dgR n f = false) ∨ (dgE n f = 0 ∧ 2 ≤ n ∧ dgK (dgN f) = true ∧ dgR n f = true) := by
  unfold dgE
  by_cases h : n < 2
  · rw [if_pos h]; exact .inl ⟨rfl, h⟩
  · rw [if_neg h]
    cases hk : dgK (dgN f) with
    | false => rw [if_pos rfl]; exact .inr (.inl ⟨rfl, by omega, rfl⟩)
    | true =>
      rw [if_neg (by decide)]
      cases hr : dgR n f with
      | false => rw [if_neg (by decide)]; exact .inr (.inr (.inl ⟨rfl, by omega, rfl, rfl⟩))
      | true => rw [if_pos rfl]; exact .inr (.inr (.inr ⟨rfl, by omega, rfl, rfl⟩))
theorem dg_err {D : Dia} {n : Nat} {f : Nat → Int} (h : dgE n f ≠ 0) : dgD D n f = D ∧ dgW n f = 0 ∧ dgM n f = 0 := ⟨if_pos h, if_pos h, if_pos (.inl h)⟩
end Go.Proofs.Ytchdgodmncckcaa
