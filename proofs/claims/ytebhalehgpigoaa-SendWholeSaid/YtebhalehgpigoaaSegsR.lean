/-
  LISTS OF SEGMENTS; bilgeref09.Alike.
-/
import Derived.Test.YtebhalehgpigoaaSegR
import Derived.Deep.LoopGhost
namespace Go.Proofs.Ytebhalehgpigoaa
open Go.RowKit

/-- A segment, and where its bytes lie. -/
abbrev SegP := (Option Addr × Nat) × Seg
def segL (x : SegP) : List Value := [.slice x.1.1 x.2.n x.1.2, .int .i64 x.2.first, .int .i64 x.2.last, .int .i64 x.2.count, .bool x.2.gap, .bool x.2.bad]
theorem segL_length (x : SegP) : (segL x).length = 6 := rfl
/-- From a on lie the segments of L, each with its bytes. -/
structure Segs (w : World) (a : Option Addr) (L : List SegP) : Prop where
  holds : HoldsL 6 segL w a L
  each : ∀ x ∈ L, Holds .u8 w x.1.1 x.2.n x.2.f ∧ x.2.n ≤ x.1.2 ∧ x.1.2 ≤ maxLen ∧ SegB x.2
theorem Segs.ext {w w' : World} {a : Option Addr} {L : List SegP} (h : Segs w a L) (x : Ext w w') : Segs w' a L :=
  ⟨h.holds.ext x, fun y hy => ⟨(h.each y hy).1.ext x, (h.each y hy).2⟩⟩
theorem HoldsL.seg_at {w : World} {b off : Nat} {L : List SegP} (h : HoldsL 6 segL w (some ⟨b, off, none⟩) L) (i : Nat) (hi : i < L.length) :
    w.cell? ⟨b, off + i * 6, none⟩ = some (.slice (L[i]).1.1 (L[i]).2.n (L[i]).1.2) ∧ w.cell? ⟨b, off + i * 6 + 1, none⟩ = some (.int .i64 (L[i]).2.first) ∧ w.cell? ⟨b, off + i * 6 + 2, none⟩ = some (.int .i64 (L[i]).2.last) ∧
      w.cell? ⟨b, off + i * 6 + 3, none⟩ = some (.int .i64 (L[i]).2.count) ∧ w.cell? ⟨b, off + i * 6 + 4, none⟩ = some (.bool (L[i]).2.gap) ∧ w.cell? ⟨b, off + i * 6 + 5, none⟩ = some (.bool (L[i]).2.bad) := by
  rcases h with h | ⟨b', off', ha, hlt, hc⟩
  · subst h; simp at hi
  · cases ha
    have e : ∀ j v, (segL L[i])[j]? = some v → w.cell? ⟨b, off + i * 6 + j, none⟩ = some v := fun j v hv => hc i L[i] (by simp [hi]) j v hv
    exact ⟨e 0 _ rfl, e 1 _ rfl, e 2 _ rfl, e 3 _ rfl, e 4 _ rfl, e 5 _ rfl⟩
/-- Are segments the same, one by one? -/
def alikeB : List SegP → List SegP → Bool
  | [], [] => true
  | x :: L, y :: M => sameB x.2 y.2 && alikeB L M
  | _, _ => false
theorem alikeB_len : ∀ {L M : List SegP}, L.length ≠ M.length → alikeB L M = false
  | [], [], h => absurd rfl h
  | [], _ :: _, _ => rfl
  | _ :: _, [], _ => rfl
  | x :: L, y :: M, h => by
    unfold alikeB
    rw [alikeB_len (L := L) (M := M) (by simpa using h), Bool.and_false]
end Go.Proofs.Ytebhalehgpigoaa
