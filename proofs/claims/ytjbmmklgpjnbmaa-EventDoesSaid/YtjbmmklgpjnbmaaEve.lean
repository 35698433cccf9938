/-
  LAYER 19, PLAIN: a log (its events, the last one first; the count), what happens, what is said of it.
-/
import Derived.Test.YtjbmmklgpjnbmaaRingR
import Derived.Test.YtjbmmklgpjnbmaaWord
namespace Go.Proofs.Ytjbmmklgpjnbmaa
open Go.RowKit
set_option linter.unusedVariables false

structure Eve where
  L : List Int
  n : Int
structure EveW (E : Eve) : Prop where
  l : E.L.length ≤ 64
  b : ∀ x ∈ E.L, 0 ≤ x ∧ x < 256
  n : 0 ≤ E.n ∧ E.n < 65536
def eveC (a : Option Addr) (d : Nat) (E : Eve) : Array Value := #[.slice a E.L.length d, .int .u16 E.n]
structure EveAt (w : World) (a : Option Addr) (d : Nat) (E : Eve) : Prop where
  h : Holds .u8 w a E.L.length (ofL E.L)
  l : E.L.length ≤ d
  m : d ≤ maxLen
theorem EveAt.ext {w w' : World} {a : Option Addr} {d : Nat} {E : Eve} (h : EveAt w a d E) (x : Ext w w') : EveAt w' a d E := ⟨h.h.ext x, h.l, h.m⟩
def newE : Eve := ⟨[], 0⟩
def fl (b : Bool) (n : Int) : Int := if b = true then n else 0
def heardB (s o l a : Bool) : Int := 128 + fl s 2 + fl o 16 + fl l 32 + fl a 64
def saidB (c : Int) (l : Bool) : Int := 64 + fl (decide (1 ≤ c ∧ c ≤ 3)) 1 + fl (decide (c = 4)) 2 + fl l 32
def putE (E : Eve) (b : Int) : Eve := { E with L := putL E.L 64 b }
def restE (E : Eve) (wipe : Bool) : Eve := putE ⟨if wipe = true then [] else E.L, 0⟩ 0
def doneE (E : Eve) : Eve := { E with n := (E.n + 1) % 65536 }
theorem heardB_bd (s o l a : Bool) : 128 ≤ heardB s o l a ∧ heardB s o l a < 256 := by cases s <;> cases o <;> cases l <;> cases a <;> decide
theorem saidB_bd (c : Int) (l : Bool) : 0 ≤ saidB c l ∧ saidB c l < 128 := by
  unfold saidB
  cases decide (1 ≤ c ∧ c ≤ 3) <;> cases decide (c = 4) <;> cases l <;> decide
theorem putE_w {E : Eve} (h : EveW E) {b : Int} (h0 : 0 ≤ b) (h1 : b < 256) : EveW (putE E b) := by
  refine ⟨?_, fun x hx => ?_, h.n⟩
  · show (putL E.L 64 b).length ≤ 64
    rw [putL_length]; omega
  · have hx : x ∈ putL E.L 64 b := hx
    unfold putL at hx
    rcases List.mem_cons.1 (List.mem_of_mem_take hx) with rfl | h2
    · exact ⟨h0, h1⟩
    · exact h.b x h2
theorem newE_w : EveW newE := ⟨Nat.zero_le _, fun x hx => (by cases hx), ⟨Int.le_refl 0, by show (0 : Int) < 65536; decide⟩⟩
theorem restE_w {E : Eve} (h : EveW E) (wipe : Bool) : EveW (restE E wipe) := by
  refine putE_w ⟨?_, ?_, ⟨Int.le_refl 0, by show (0 : Int) < 65536; decide⟩⟩ (Int.le_refl 0) (by decide)
  · cases wipe
    · exact h.l
    · exact Nat.zero_le _
  · cases wipe
    · exact h.b
    · exact fun x hx => by cases hx
theorem doneE_w {E : Eve} (h : EveW E) : EveW (doneE E) := ⟨h.l, h.b, by show 0 ≤ (E.n + 1) % 65536 ∧ (E.n + 1) % 65536 < 65536; omega⟩
/-- What is said: Short's, Long's. -/
def shF (E : Eve) : Nat → Int := putF (ofL [0, E.n])
def lgN (E : Eve) : Nat := 7 + E.L.length
def lgF (E : Eve) (m : Int) : Nat → Int := fun i => if i = 0 then 6 + (E.L.length : Int) else if i < 7 then putF (ofL [0, E.n, m]) (i - 1) else ofL E.L (i - 7)
end Go.Proofs.Ytjbmmklgpjnbmaa
