/-
  OBJECTS THAT ARE CHANGED IN PLACE: 'Keep F w w'': what was there is as it was, but for the blocks of F.
-/
import Derived.Test.YtebhalehgpigoaaLists
namespace Go.Proofs.Ytebhalehgpigoaa
open Go.RowKit

structure Keep (F : Nat → Prop) (w w' : World) : Prop where
  os : w'.os = w.os
  tape : w'.tape = w.tape
  output : w'.output = w.output
  size : w.heap.size ≤ w'.heap.size
  block : ∀ k, k < w.heap.size → ¬ F k → w'.heap[k]? = w.heap[k]?
theorem Keep.of_ext {F : Nat → Prop} {w w' : World} (h : Ext w w') : Keep F w w' := ⟨Below.os h, Below.tape h, Below.output h, Below.size h, fun k hk _ => Below.block h k hk⟩
theorem Keep.refl (F : Nat → Prop) (w : World) : Keep F w w := .of_ext (Ext.refl w)
theorem Keep.trans {F G : Nat → Prop} {a b c : World} (h : Keep F a b) (k : Keep G b c) (hG : ∀ i, G i → F i ∨ a.heap.size ≤ i) : Keep F a c :=
  ⟨k.os.trans h.os, k.tape.trans h.tape, k.output.trans h.output, Nat.le_trans h.size k.size,
    fun i hi hn => (k.block i (Nat.lt_of_lt_of_le hi h.size) (fun x => (hG i x).elim hn (fun y => absurd hi (by omega)))).trans (h.block i hi hn)⟩
theorem Keep.trans_ext {F : Nat → Prop} {a b c : World} (h : Keep F a b) (k : Ext b c) : Keep F a c := h.trans (G := F) (.of_ext k) (fun _ x => .inl x)
theorem Keep.mono {F G : Nat → Prop} {w w' : World} (h : Keep F w w') (hG : ∀ i, F i → G i) : Keep G w w' := ⟨h.os, h.tape, h.output, h.size, fun k hk hn => h.block k hk (fun x => hn (hG k x))⟩
/-- What is changed is above B: what is below B is as it was. -/
theorem Keep.below {F : Nat → Prop} {w w' : World} (h : Keep F w w') {B : Nat} (hB : B ≤ w.heap.size) (hF : ∀ i, F i → B ≤ i) : Below B w w' :=
  ⟨h.os, h.tape, h.output, h.size, fun k hk => h.block k (by omega) (fun x => absurd (hF k x) (by omega))⟩
theorem Keep.cell {F : Nat → Prop} {w w' : World} (x : Keep F w w') {p o : Nat} (hF : ¬ F p) {v : Value} (h : w.cell? ⟨p, o, none⟩ = some v) : w'.cell? ⟨p, o, none⟩ = some v := by
  have hb := x.block p (World.block_lt_of_cell? w _ h) hF
  have e : w'.cell? ⟨p, o, none⟩ = w.cell? ⟨p, o, none⟩ := by unfold World.cell?; simp only [hb]
  exact e.trans h
/-- None of F's blocks. -/
def Off (F : Nat → Prop) (a : Option Addr) : Prop := ∀ p, a = some p → ¬ F p.block
/-- New behind w. -/
def Fresh (w : World) (a : Option Addr) : Prop := ∀ p, a = some p → w.heap.size ≤ p.block
/-- In the block of another one. -/
def Within (a x : Option Addr) : Prop := ∀ p, x = some p → ∃ q, a = some q ∧ q.block = p.block
theorem Within.refl (a : Option Addr) : Within a a := fun p h => ⟨p, h, rfl⟩
theorem Fresh.off {F : Nat → Prop} {w : World} {a : Option Addr} (h : Fresh w a) (hF : ∀ i, F i → i < w.heap.size) : Off F a := fun p hp hf => absurd (hF _ hf) (by have := h p hp; omega)
theorem Within.off {F : Nat → Prop} {a x : Option Addr} (h : Within a x) (ho : Off F a) : Off F x := fun p hp => by obtain ⟨q, hq, e⟩ := h p hp; rw [← e]; exact ho q hq
theorem Off.nil (F : Nat → Prop) : Off F none := fun _ h => by cases h
theorem Fresh.nil (w : World) : Fresh w none := fun _ h => by cases h
/-- A footprint that has grown by what is new behind w: what was there and off it still is. -/
def Grows (F G : Nat → Prop) (w : World) : Prop := ∀ i, G i → F i ∨ w.heap.size ≤ i
theorem Grows.refl (F : Nat → Prop) (w : World) : Grows F F w := fun _ h => .inl h
theorem Grows.trans {F G H : Nat → Prop} {a b : World} (h : Grows F G a) (k : Grows G H b) (x : a.heap.size ≤ b.heap.size) : Grows F H a :=
  fun i hi => (k i hi).elim (h i) (fun y => .inr (by omega))
theorem Off.grows {F G : Nat → Prop} {w : World} {a : Option Addr} (h : Off F a) (k : Grows F G w) (ha : ∀ p, a = some p → p.block < w.heap.size) : Off G a :=
  fun p hp hG => (k _ hG).elim (h p hp) (fun x => absurd (ha p hp) (by omega))
theorem Holds.keep {F : Nat → Prop} {k : IntKind} {w w' : World} {a : Option Addr} {n : Nat} {f : Nat → Int} (h : Holds k w a n f) (x : Keep F w w') (ho : Off F a) : Holds k w' a n f := by
  rcases h with h | ⟨b, off, ha, hlt, hc⟩
  · exact .inl h
  · exact .inr ⟨b, off, ha, Nat.lt_of_lt_of_le hlt x.size, fun i hi => x.cell (ho _ ha) (hc i hi)⟩
theorem HoldsG.keep {α : Type} {mk : α → Value} {F : Nat → Prop} {w w' : World} {a : Option Addr} {n : Nat} {f : Nat → α} (h : HoldsG mk w a n f) (x : Keep F w w') (ho : Off F a) : HoldsG mk w' a n f := by
  rcases h with h | ⟨b, off, ha, hlt, hc⟩
  · exact .inl h
  · exact .inr ⟨b, off, ha, Nat.lt_of_lt_of_le hlt x.size, fun i hi => x.cell (ho _ ha) (hc i hi)⟩
theorem HoldsL.keep {α : Type} {sz : Nat} {mk : α → List Value} {F : Nat → Prop} {w w' : World} {a : Option Addr} {L : List α} (h : HoldsL sz mk w a L) (x : Keep F w w') (ho : Off F a) : HoldsL sz mk w' a L := by
  rcases h with h | ⟨b, off, ha, hlt, hc⟩
  · exact .inl h
  · exact .inr ⟨b, off, ha, Nat.lt_of_lt_of_le hlt x.size, fun i y hy j v hv => x.cell (ho _ ha) (hc i y hy j v hv)⟩
/-- What the call owns, as 'Holds', and where. -/
theorem Holds.of_own_at {k : IntKind} {w : World} {base : Nat} {e : TypeId} {v : Value} {n : Nat} {f : Nat → Int} (h : w.ownsRow base e 1 v n (lst k f n)) :
    ∃ a cap, v = .slice a n cap ∧ n ≤ cap ∧ cap ≤ maxLen ∧ Holds k w a n f ∧ ∀ p, a = some p → base ≤ p.block := by
  obtain ⟨hlen, h2⟩ := id h
  rcases h2 with ⟨hv, hx⟩ | ⟨g, cap, cur, hv, hg, hh, r⟩
  · subst hx
    exact ⟨none, 0, hv, Nat.le_refl _, Nat.zero_le _, .inl rfl, fun p hp => by cases hp⟩
  · subst hv
    refine ⟨_, _, rfl, r.1, r.2.1, .inr ⟨g, 0, rfl, (h.lt g rfl).2, fun i hi => ?_⟩, fun p hp => by cases hp; exact hg⟩
    rw [Nat.zero_add, h.cellAt i (by omega), lst_get _ _ _ _ hi]
/-- A footprint of blocks that are new behind w. -/
def Above (w : World) (F : Nat → Prop) : Prop := ∀ i, F i → w.heap.size ≤ i
theorem Above.grows {F G : Nat → Prop} {w a : World} (h : Above w F) (k : Grows F G a) (x : Ext w a) : Above w G := fun i hi => (k i hi).elim (h i) (fun y => Nat.le_trans x.size y)
theorem Above.of {F : Nat → Prop} {w a : World} (h : Above a F) (x : Ext w a) : Above w F := fun i hi => Nat.le_trans x.size (h i hi)
theorem Ext.keep {F : Nat → Prop} {w a b : World} (x : Ext w a) (k : Keep F a b) (h : Above w F) : Ext w b := Below.trans x (k.below x.size h)
theorem Above.off {F : Nat → Prop} {w : World} {a : Option Addr} (h : Above w F) (ha : ∀ p, a = some p → p.block < w.heap.size) : Off F a := fun p hp hf => absurd (h _ hf) (by have := ha p hp; omega)
/-- Off F, unless there is nothing. -/
def OffN (F : Nat → Prop) (a : Option Addr) (n : Nat) : Prop := n = 0 ∨ Off F a
theorem OffN.none (F : Nat → Prop) (n : Nat) : OffN F none n := .inr (Off.nil F)
theorem HoldsL.keepN {α : Type} {sz : Nat} {mk : α → List Value} {F : Nat → Prop} {w w' : World} {a : Option Addr} {L : List α} (h : HoldsL sz mk w a L) (x : Keep F w w') (ho : OffN F a L.length) : HoldsL sz mk w' a L := by
  rcases ho with e | e
  · exact .inl (List.eq_nil_of_length_eq_zero e)
  · exact h.keep x e
theorem OffN.grows {α : Type} {sz : Nat} {mk : α → List Value} {F G : Nat → Prop} {w : World} {a : Option Addr} {L : List α} (h : OffN F a L.length) (k : Grows F G w) (hh : HoldsL sz mk w a L) : OffN G a L.length := by
  rcases h with e | e
  · exact .inl e
  · rcases hh with e2 | ⟨b, off, ha, hlt, _⟩
    · exact .inl (by rw [e2]; rfl)
    · exact .inr (e.grows k fun p hp => by rw [ha] at hp; cases hp; exact hlt)
theorem HoldsL.offN {α : Type} {sz : Nat} {mk : α → List Value} {F : Nat → Prop} {w v : World} {a : Option Addr} {L : List α} (hh : HoldsL sz mk v a L) (h : Above w F) (x : v.heap.size ≤ w.heap.size) : OffN F a L.length := by
  rcases hh with e2 | ⟨b, off, ha, hlt, _⟩
  · exact .inl (by rw [e2]; rfl)
  · exact .inr (h.off fun p hp => by rw [ha] at hp; cases hp; exact Nat.lt_of_lt_of_le hlt x)
end Go.Proofs.Ytebhalehgpigoaa
