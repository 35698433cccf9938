/-
  append ONTO A ROW OF THE CALL'S OWN, the source whatever slice of one-cell values: nil, empty or not ('HoldsG').
  SLICES OF STRUCTS AS LISTS: 'HoldsL sz mk w a L': from the address a on lie the elements of L, each as the sz cells that mk tells.
  OBJECTS THAT ARE CHANGED IN PLACE: 'Keep F w w'': what was there is as it was, but for the blocks of F.
-/
import Derived.Test.YtlafnobjfajamaaGreatPk1
import Derived.Deep.AppendLies
import Derived.Laws.AppendOwnNone
import Derived.Laws.OwnMore
namespace Go.Proofs.YtlafnobjfajamaaGreat
open Go.RowKit

section
variable {P : Program} {w : World}
theorem run_append_zero (base : Nat) (t ty e : TypeId) (i : TypeInfo) (size : Nat) (ht : P.underlying t = some (.slice e)) (hi : P.info? e = some i)
    (v : Value) (n : Nat) (xs : List Value) (hown : w.ownsRow base e size v n xs) (A : Option Addr) (c : Nat) : (Builtin.append_ #[t, t] ty #[v, .slice A 0 c]).run P w = .ok v w := by
  rcases hown.2 with ⟨rfl, rfl⟩ | ⟨g, cap, cur, rfl, _, _, hnc, _⟩
  · cases A <;> simp [Builtin.append_, run_underlying ht, sizeOf, typeInfo, hi, Builtin.lenOf, Builtin.firstCells, loadCells, loadCellsFrom]
  · cases A <;> simp [Builtin.append_, run_underlying ht, sizeOf, typeInfo, hi, Builtin.lenOf, Builtin.firstCells, hnc, storeCells, loadCells, loadCellsFrom]

theorem wpList_append_zero {ops : Array Oper} {rest : List Oper} {o : Oper} {a : Act} {Q : Exit → Act → World → Prop} (hgd : o.guard = none) (s x : Operand) (t : TypeId)
    (ho : o.op = .call { callee := .builtin .append, args := #[s, x], argTypes := #[t, t] })
    (base : Nat) (e : TypeId) (i : TypeInfo) (size : Nat) (ht : P.underlying t = some (.slice e)) (hi : P.info? e = some i)
    (v : Value) (n : Nat) (xs : List Value) (hs : a.eval s = v) (hown : w.ownsRow base e size v n xs) (A : Option Addr) (c : Nat) (hx : a.eval x = .slice A 0 c)
    (h : wpList P ops Q rest (a.put o.dst v) w) : wpList P ops Q (o :: rest) a w := by
  refine wpList_plain hgd fun K hK => ?_
  have hrun := run_append_zero (P := P) (w := w) base t o.type e i size ht hi v n xs hown A c
  unfold Oper.wp
  simp [execOp, ho, resolve, invoke, builtin, hs, hx, hrun, Result.andThen]
  exact hK _ _ h

theorem wpList_append_holds {α : Type} {mk : α → Value} {ops : Array Oper} {rest : List Oper} {o : Oper} {a : Act} {Q : Exit → Act → World → Prop} (hgd : o.guard = none) (s x : Operand) (t : TypeId)
    (ho : o.op = .call { callee := .builtin .append, args := #[s, x], argTypes := #[t, t] })
    (base : Nat) (e : TypeId) (i : TypeInfo) (z : Value) (bytes : Nat) (ht : P.underlying t = some (.slice e)) (hi : P.info? e = some i) (hz : i.zero = some z)
    (hsize : i.size = 1) (hby : i.bytes = bytes) (hzs : z.cells.size = 1)
    (v : Value) (n : Nat) (xs : List Value) (hs : a.eval s = v) (hown : w.ownsRow base e 1 v n xs)
    (A : Option Addr) (m c : Nat) (f : Nat → α) (hx : a.eval x = .slice A m c) (hh : HoldsG mk w A m f) (h1 : ∀ u, (mk u).oneCell' = true)
    (h63 : n + m ≤ maxLen) (hbytes : (n + m) * bytes ≤ 140737488355328) (hbase : base ≤ w.heap.size)
    (h : ∀ v' w', w'.ownsRow base e 1 v' (n + m) (xs ++ lstG mk f m) → w.grownBy w' v.ownBlock → Below base w w' → wpList P ops Q rest (a.put o.dst v') w') : wpList P ops Q (o :: rest) a w := by
  by_cases hm : m = 0
  · subst hm
    refine wpList_append_zero hgd s x t ho base e i 1 ht hi v n xs hs hown A c hx (h v w (by simpa [lstG] using hown) (World.grownBy.refl w _) (Below.refl _ _))
  · obtain ⟨b, off, rfl, hlt, hc⟩ := hh.resolve_left hm
    refine wpList_append_lies w hgd s x t ho base e i z 1 bytes ht hi hz hsize hby hzs (by omega) v n xs hs hown ⟨b, off, none⟩ m c (lstG mk f m) hx (by rw [lstG_length]; omega) ?_ ?_ (by omega) h63 hbytes hbase w.heap.size rfl ?_
    · intro j u hu
      have hj : j < m := by
        rcases Nat.lt_or_ge j m with h | h
        · exact h
        · rw [List.getElem?_eq_none (by rw [lstG_length]; omega)] at hu; cases hu
      rw [lstG_get _ _ _ _ hj] at hu
      have e1 : (⟨b, off, none⟩ : Addr).add j = ⟨b, off + j, none⟩ := by unfold Addr.add; split <;> simp_all
      rw [e1, hc j hj]; exact hu
    · intro u hu
      simp only [lstG, List.mem_map] at hu
      obtain ⟨k, _, rfl⟩ := hu
      exact h1 _
    · intro g cap w' h2 h3 _ _
      exact h _ _ h2 h3 ((Below.refl base w).grown h3 hbase (fun q hq => (hown.lt q hq).1))
end
end Go.Proofs.YtlafnobjfajamaaGreat
namespace Go.Proofs.YtlafnobjfajamaaGreat
open Go.RowKit

section
variable {α : Type} {sz : Nat} {mk : α → List Value} {w w' : World} {a : Option Addr} {L : List α}
end
end Go.Proofs.YtlafnobjfajamaaGreat
namespace Go.Proofs.YtlafnobjfajamaaGreat
open Go.RowKit

structure Keep (F : Nat → Prop) (w w' : World) : Prop where
  os : w'.os = w.os
  tape : w'.tape = w.tape
  output : w'.output = w.output
  size : w.heap.size ≤ w'.heap.size
  block : ∀ k, k < w.heap.size → ¬ F k → w'.heap[k]? = w.heap[k]?
theorem Keep.of_ext {F : Nat → Prop} {w w' : World} (h : Ext w w') : Keep F w w' := ⟨Below.os h, Below.tape h, Below.output h, Below.size h, fun k hk _ => Below.block h k hk⟩
theorem Keep.refl (F : Nat → Prop) (w : World) : Keep F w w := .of_ext (Ext.refl w)
theorem Keep.trans {F G : Nat → Prop} {a b c : World} (h : Keep F a b) (k : Keep G b c) (hG : ∀ i, G i → F i ∨ a.heap.size ≤ i) : Keep F a c :=
  ⟨k.os.trans h.os, k.tape.trans h.tape, k.output.trans h.output, Nat.le_trans h.size k.size,
    fun i hi hn => (k.block i (Nat.lt_of_lt_of_le hi h.size) (fun x => (hG i x).elim hn (fun y => absurd hi (by omega)))).trans (h.block i hi hn)⟩
theorem Keep.trans_ext {F : Nat → Prop} {a b c : World} (h : Keep F a b) (k : Ext b c) : Keep F a c := h.trans (G := F) (.of_ext k) (fun _ x => .inl x)
theorem Keep.mono {F G : Nat → Prop} {w w' : World} (h : Keep F w w') (hG : ∀ i, F i → G i) : Keep G w w' := ⟨h.os, h.tape, h.output, h.size, fun k hk hn => h.block k hk (fun x => hn (hG k x))⟩
/-- What is changed is above B: what is below B is as it was. -/
theorem Keep.below {F : Nat → Prop} {w w' : World} (h : Keep F w w') {B : Nat} (hB : B ≤ w.heap.size) (hF : ∀ i, F i → B ≤ i) : Below B w w' :=
  ⟨h.os, h.tape, h.output, h.size, fun k hk => h.block k (by omega) (fun x => absurd (hF k x) (by omega))⟩
theorem Keep.cell {F : Nat → Prop} {w w' : World} (x : Keep F w w') {p o : Nat} (hF : ¬ F p) {v : Value} (h : w.cell? ⟨p, o, none⟩ = some v) : w'.cell? ⟨p, o, none⟩ = some v := by
  have hb := x.block p (World.block_lt_of_cell? w _ h) hF
  have e : w'.cell? ⟨p, o, none⟩ = w.cell? ⟨p, o, none⟩ := by unfold World.cell?; simp only [hb]
  exact e.trans h
/-- None of F's blocks. -/
def Off (F : Nat → Prop) (a : Option Addr) : Prop := ∀ p, a = some p → ¬ F p.block
/-- New behind w. -/
def Fresh (w : World) (a : Option Addr) : Prop := ∀ p, a = some p → w.heap.size ≤ p.block
theorem Fresh.off {F : Nat → Prop} {w : World} {a : Option Addr} (h : Fresh w a) (hF : ∀ i, F i → i < w.heap.size) : Off F a := fun p hp hf => absurd (hF _ hf) (by have := h p hp; omega)
theorem Fresh.nil (w : World) : Fresh w none := fun _ h => by cases h
theorem HoldsG.keep {α : Type} {mk : α → Value} {F : Nat → Prop} {w w' : World} {a : Option Addr} {n : Nat} {f : Nat → α} (h : HoldsG mk w a n f) (x : Keep F w w') (ho : Off F a) : HoldsG mk w' a n f := by
  rcases h with h | ⟨b, off, ha, hlt, hc⟩
  · exact .inl h
  · exact .inr ⟨b, off, ha, Nat.lt_of_lt_of_le hlt x.size, fun i hi => x.cell (ho _ ha) (hc i hi)⟩
/-- A footprint of blocks that are new behind w. -/
def Above (w : World) (F : Nat → Prop) : Prop := ∀ i, F i → w.heap.size ≤ i
theorem Ext.keep {F : Nat → Prop} {w a b : World} (x : Ext w a) (k : Keep F a b) (h : Above w F) : Ext w b := Below.trans x (k.below x.size h)
theorem Above.off {F : Nat → Prop} {w : World} {a : Option Addr} (h : Above w F) (ha : ∀ p, a = some p → p.block < w.heap.size) : Off F a := fun p hp hf => absurd (h _ hf) (by have := ha p hp; omega)
/-- Off F, unless there is nothing. -/
def OffN (F : Nat → Prop) (a : Option Addr) (n : Nat) : Prop := n = 0 ∨ Off F a
end Go.Proofs.YtlafnobjfajamaaGreat
