/-
  SEGMENTS (api.Segment) BY VALUE: bilgeref09.Fault, Errs, Same.
-/
import Derived.Test.YtebhalehgpigoaaCrc
import Derived.Test.YtebhalehgpigoaaBytesT
namespace Go.Proofs.Ytebhalehgpigoaa
open Go.RowKit

/-- A segment: its bytes f 0 .. f (n - 1), when the first and the last one came, how many there were, a gap, spoilt. -/
structure Seg where
  n : Nat
  f : Nat → Int
  first : Int
  last : Int
  count : Int
  gap : Bool
  bad : Bool
/-- Its six cells, its bytes lying from A on. -/
def segC (A : Option Addr) (c : Nat) (s : Seg) : Array Value := #[.slice A s.n c, .int .i64 s.first, .int .i64 s.last, .int .i64 s.count, .bool s.gap, .bool s.bad]
/-- Its bytes are bytes. -/
def SegB (s : Seg) : Prop := ∀ i, i < s.n → 0 ≤ s.f i ∧ s.f i < 256
/-- What is wrong of it. -/
def faultI (s : Seg) : Int := if 256 < s.count then 1 else if s.bad = true then 2 else if s.gap = true then 3 else if s.n < 4 then 4 else if endsB s.f s.n = false then 5 else 0
/-- Does it count as an error? -/
def errsB (s : Seg) : Bool := decide (256 < s.count) || s.bad || decide (4 ≤ s.n) && !endsB s.f s.n
/-- Are two the same? -/
def sameB (s t : Seg) : Bool := s.first == t.first && s.last == t.last && s.count == t.count && s.gap == t.gap && s.bad == t.bad && eqB s.n t.n s.f t.f

end Go.Proofs.Ytebhalehgpigoaa
