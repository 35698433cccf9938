/-
  SEGMENTS (api.Segment) BY VALUE: bilgeref09.Fault, Errs, Same.
-/
import Derived.Test.YtlemnjphjmnmbaaCrc
import Derived.Test.YtlemnjphjmnmbaaBytesT
namespace Go.Proofs.Ytlemnjphjmnmbaa
open Go.RowKit

/-- A segment: its bytes f 0 .. f (n - 1), when the first and the last one came, how many there were, a gap, spoilt. -/
structure Seg where
  n : Nat
  f : Nat → Int
  first : Int
  last : Int
  count : Int
  gap : Bool
  bad : Bool
/-- Its six cells, its bytes lying from A on. -/
def segC (A : Option Addr) (c : Nat) (s : Seg) : Array Value := #[.slice A s.n c, .int .i64 s.first, .int .i64 s.last, .int .i64 s.count, .bool s.gap, .bool s.bad]
/-- Its bytes are bytes. -/
def SegB (s : Seg) : Prop := ∀ i, i < s.n → 0 ≤ s.f i ∧ s.f i < 256
/-- What is wrong of it. -/
def faultI (s : Seg) : Int := if 256 < s.count then 1 else if s.bad = true then 2 else if s.gap = true then 3 else if s.n < 4 then 4 else if endsB s.f s.n = false then 5 else 0
/-- Does it count as an error? -/
def errsB (s : Seg) : Bool := decide (256 < s.count) || s.bad || decide (4 ≤ s.n) && !endsB s.f s.n
/-- Are two the same? -/
def sameB (s t : Seg) : Bool := s.first == t.first && s.last == t.last && s.count == t.count && s.gap == t.gap && s.bad == t.bad && eqB s.n t.n s.f t.f

set_option maxHeartbeats 2000000 in
theorem rsame_any (A B : Option Addr) (c d : Nat) (s t : Seg) (w : World) (ha : Holds .u8 w A s.n s.f) (hb : Holds .u8 w B t.n t.f) (hn : s.n ≤ 1000000) (hm : t.n ≤ 1000000) :
    Calls Try.prog 33 #[.agg (segC A c s), .agg (segC B d t)] w fun e w' => e = .returned (.bool (sameB s t)) ∧ Ext w w' := by
  obtain ⟨n, f, t0, t1, k, g, b⟩ := s
  obtain ⟨m, f', t0', t1', k', g', b'⟩ := t
  unfold segC sameB
  simp only at ha hb hn hm ⊢
  have x2 : Ext w ((w.alloc (.cells #[.slice A n c, .int .i64 t0, .int .i64 t1, .int .i64 k, .bool g, .bool b] 48)).alloc (.cells #[.slice B m d, .int .i64 t0', .int .i64 t1', .int .i64 k', .bool g', .bool b'] 48)) := (Ext.alloc _ _).alloc' _
  have hby := bytes_any A B n m c d f f' _ (ha.ext x2) (hb.ext x2) hn hm
  obtain ⟨E, hE⟩ : ∃ E, E = eqB n m f f' := ⟨_, rfl⟩
  rw [← hE] at hby ⊢
  have HBy := Lib.hid hby
  clear ha hb hn hm hby hE
  by_cases e : t0 = t0'
  · subst e
    have e0 : (t0 == t0) = true := by simp
    by_cases e : t1 = t1'
    · subst e
      have e1 : (t1 == t1) = true := by simp
      by_cases e : k = k'
      · subst e
        have e2 : (k == k) = true := by simp
        cases e3 : (g == g')
        · clear HBy
          simp only [e0, e1, e2, Bool.true_and, Bool.false_and]
          go_enter Try.func33, Try.ntmps33
          go_wp2
          go_ret
          exact ⟨rfl, x2⟩
        · cases e4 : (b == b')
          · clear HBy
            simp only [e0, e1, e2, Bool.true_and, Bool.false_and]
            go_enter Try.func33, Try.ntmps33
            go_wp2
            go_ret
            exact ⟨rfl, x2⟩
          · simp only [e0, e1, e2, Bool.true_and]
            go_enter Try.func33, Try.ntmps33
            go_wp2_with fail
            refine HBy.out.mono ?_; rintro e w1 ⟨rfl, q, rfl⟩
            go_wp2
            go_ret
            exact ⟨rfl, x2.trans (Ext.drewN _ _)⟩
      · have e2 : (k == k') = false := by simpa using e
        clear e HBy
        simp only [e0, e1, e2, Bool.true_and, Bool.false_and]
        go_enter Try.func33, Try.ntmps33
        go_wp2
        go_ret
        exact ⟨rfl, x2⟩
    · have e1 : (t1 == t1') = false := by simpa using e
      clear e HBy
      simp only [e0, e1, Bool.true_and, Bool.false_and]
      go_enter Try.func33, Try.ntmps33
      go_wp2
      go_ret
      exact ⟨rfl, x2⟩
  · have e0 : (t0 == t0') = false := by simpa using e
    clear e HBy
    simp only [e0, Bool.false_and]
    go_enter Try.func33, Try.ntmps33
    go_wp2
    go_ret
    exact ⟨rfl, x2⟩
end Go.Proofs.Ytlemnjphjmnmbaa
