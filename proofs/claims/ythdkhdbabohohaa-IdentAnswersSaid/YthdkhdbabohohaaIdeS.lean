/-
  CONTRACTS: bilgeref21 (layer 21): Read.
-/
import Derived.Test.YthdkhdbabohohaaIdeW
namespace Go.Proofs.Ythdkhdbabohohaa
open Go.RowKit
set_option linter.unusedVariables false
set_option maxRecDepth 100000

/-- An object that was read, off the block G and off what v owns. -/
structure ObO (w : World) (B G : Nat) (v : Value) (z : Ob) : Prop where
  at_ : ObjAt w z
  few : z.n ≤ 255
  off : z.n ≠ 0 → ∀ p, z.a = some p → B ≤ p.block ∧ p.block ≠ G ∧ v.ownBlock ≠ some p.block
theorem holds_lt {k : IntKind} {w : World} {a : Option Addr} {n : Nat} {f : Nat → Int} (h : Holds k w a n f) (hn : n ≠ 0) {p : Addr} (hp : a = some p) : p.block < w.heap.size := by
  obtain ⟨b, off, ha, hlt, -⟩ := h.resolve_left hn
  rw [ha] at hp; cases hp; exact hlt
theorem holds_blocks {k : IntKind} {w w' : World} {a : Option Addr} {n : Nat} {f : Nat → Int} (h : Holds k w a n f) (hs : w.heap.size ≤ w'.heap.size) (hw : ∀ p, a = some p → n ≠ 0 → w'.heap[p.block]? = w.heap[p.block]?) : Holds k w' a n f := by
  by_cases hn : n = 0
  · exact .inl hn
  · obtain ⟨b, off, ha, hlt, hc⟩ := h.resolve_left hn
    refine .inr ⟨b, off, ha, Nat.lt_of_lt_of_le hlt hs, fun i hi => ?_⟩
    have e := hw _ ha hn
    have h1 := hc i hi
    unfold World.cell? at h1 ⊢
    simp only [e]; exact h1
theorem own_sameI {w w' : World} {base : Nat} {e : TypeId} {size : Nat} {v : Value} {n : Nat} {xs : List Value} (h : w.ownsRow base e size v n xs) (hk : ∀ g, v.ownBlock = some g → w'.heap[g]? = w.heap[g]?) : w'.ownsRow base e size v n xs := by
  refine ⟨h.1, ?_⟩
  rcases h.2 with h | ⟨g, cap, cur, hv, hg, hh, r⟩
  · exact .inl h
  · subst hv
    exact .inr ⟨g, cap, cur, rfl, hg, (hk g rfl).trans hh, r⟩
/-- What is held while a part is read: the objects so far, the part in a block of its own. -/
structure ReaM (w wr : World) (B G : Nat) (co lv : Int) (mo : Bool) (nx : Int) (v : Value) (M : List Ob) : Prop where
  own : wr.ownsRow B 49 2 v M.length (M.flatMap obL)
  box : wr.heap[G]? = some (.cells #[.int .i64 co, .int .i64 lv, .bool mo, .int .i64 nx, v] 33 (0, 0))
  each : ∀ z ∈ M, ObO wr B G v z
  ext : Ext w wr
  nb : v.ownBlock ≠ some G
  base : B = w.heap.size
  bs : B ≤ G
theorem ReaM.later {w wr w' : World} {B G : Nat} {co lv : Int} {mo : Bool} {nx : Int} {v : Value} {M : List Ob} (h : ReaM w wr B G co lv mo nx v M) (x : Ext wr w') : ReaM w w' B G co lv mo nx v M :=
  ⟨own_ext h.own x, x.block h.box, fun z hz => ⟨(h.each z hz).at_.ext x, (h.each z hz).few, (h.each z hz).off⟩, h.ext.trans x, h.nb, h.base, h.bs⟩
theorem ReaM.push {w wr w3 w4 : World} {B G : Nat} {co lv : Int} {mo : Bool} {nx : Int} {v : Value} {M : List Ob} {z : Ob} {g cap : Nat} (h : ReaM w wr B G co lv mo nx v M) (hx : Ext wr w3) (hz : ObjAt w3 z) (hf : z.n ≤ 255) (hb : z.n ≠ 0 → ∀ p, z.a = some p → wr.heap.size ≤ p.block)
    (hown : w4.ownsRow B 49 2 (.slice (some ⟨g, 0, none⟩) (M.length + 1) cap) (M.length + 1) ((M ++ [z]).flatMap obL)) (hgr : w3.grownBy w4 v.ownBlock) (hg : v.ownBlock = some g ∨ g = w3.heap.size) :
    ReaM w (w4.setCell ⟨G, 4, none⟩ (.slice (some ⟨g, 0, none⟩) (M.length + 1) cap)) B G co lv mo nx (.slice (some ⟨g, 0, none⟩) (M.length + 1) cap) (M ++ [z]) := by
  have hGw := heap_lt h.box
  have hgG : g ≠ G := by
    rintro rfl
    rcases hg with e | e
    · exact h.nb e
    · have := hx.size; omega
  have hne : (Value.slice (some ⟨g, 0, none⟩) (M.length + 1) cap).ownBlock ≠ some G := fun e => hgG (by simpa [Value.ownBlock] using e)
  have hset : ∀ q, q ≠ G → (w4.setCell ⟨G, 4, none⟩ (.slice (some ⟨g, 0, none⟩) (M.length + 1) cap)).heap[q]? = w4.heap[q]? := fun q hq => heap_setCell_other _ _ _ _ hq
  have hsz : w3.heap.size ≤ (w4.setCell ⟨G, 4, none⟩ (.slice (some ⟨g, 0, none⟩) (M.length + 1) cap)).heap.size := by simp [World.setCell]; exact hgr.size
  have hgr' : ∀ q, q < w3.heap.size → v.ownBlock ≠ some q → q ≠ G → (w4.setCell ⟨G, 4, none⟩ (.slice (some ⟨g, 0, none⟩) (M.length + 1) cap)).heap[q]? = w3.heap[q]? := fun q hq hne' hG' => (hset q hG').trans (hgr.block q hq (fun e => hne' e.symm))
  have hmove : ∀ y : Ob, ObjAt w3 y → (y.n ≠ 0 → ∀ p, y.a = some p → p.block ≠ G ∧ v.ownBlock ≠ some p.block) → ObjAt (w4.setCell ⟨G, 4, none⟩ (.slice (some ⟨g, 0, none⟩) (M.length + 1) cap)) y := fun y hy ho =>
    ⟨holds_blocks hy.h hsz (fun p hp hn => hgr' _ (holds_lt hy.h hn hp) (ho hn p hp).2 (ho hn p hp).1), hy.l, hy.m, hy.s, hy.b, hy.wi⟩
  have hnew : ∀ q, q < w3.heap.size → v.ownBlock ≠ some q → (Value.slice (some ⟨g, 0, none⟩) (M.length + 1) cap).ownBlock ≠ some q := fun q hq hne' e => by
    have e' : g = q := by simpa [Value.ownBlock] using e
    subst e'
    rcases hg with e | e
    · exact hne' e
    · omega
  have hBw : B ≤ wr.heap.size := by rw [h.base]; exact h.ext.size
  refine ⟨own_sameI (by simpa using hown) (fun q hq => hset q (fun e => hne (by rw [hq, e]))), ?_, fun y hy => ?_, ?_, hne, h.base, h.bs⟩
  · have hb4 : w4.heap[G]? = some (.cells #[.int .i64 co, .int .i64 lv, .bool mo, .int .i64 nx, v] 33 (0, 0)) := (hgr.block G (Nat.lt_of_lt_of_le hGw hx.size) (fun e => h.nb e.symm)).trans (hx.block h.box)
    exact (heap_setCell_same _ _ _ _ _ _ hb4).trans rfl
  · rcases List.mem_append.1 hy with hy | hy
    · have e := h.each y hy
      exact ⟨hmove y (e.at_.ext hx) (fun hn p hp => ⟨(e.off hn p hp).2.1, (e.off hn p hp).2.2⟩), e.few, fun hn p hp => ⟨(e.off hn p hp).1, (e.off hn p hp).2.1, hnew _ (Nat.lt_of_lt_of_le (holds_lt e.at_.h hn hp) hx.size) (e.off hn p hp).2.2⟩⟩
    · rw [List.mem_singleton.1 hy]
      have key : z.n ≠ 0 → ∀ p, z.a = some p → p.block ≠ G ∧ v.ownBlock ≠ some p.block := fun hn p hp => by
        have h1 := hb hn p hp
        refine ⟨by omega, fun e => ?_⟩
        have := (h.own.lt _ e).2
        omega
      exact ⟨hmove z hz key, hf, fun hn p hp => ⟨Nat.le_trans hBw (hb hn p hp), (key hn p hp).1, hnew _ (holds_lt hz.h hn hp) (key hn p hp).2⟩⟩
  · have x4 : Ext w w4 := (Below.trans h.ext (Below.mono hx h.ext.size)).grown hgr (Nat.le_trans h.ext.size hx.size) (fun k hk => by rw [← h.base]; exact (h.own.lt k hk).1)
    exact Below.setCell x4 (by rw [← h.base]; exact h.bs) _
theorem ReaM.at_ {w wr : World} {B G : Nat} {co lv : Int} {mo : Bool} {nx : Int} {v : Value} {M : List Ob} (h : ReaM w wr B G co lv mo nx v M) : ∃ a c, v = .slice a M.length c ∧ ObjsAt wr a M.length c M := by
  obtain ⟨a, c, hv, h1, h2, h3, -⟩ := HoldsL.of_own obL_length h.own rfl
  exact ⟨a, c, hv, rfl, h3, h1, h2, fun z hz => (h.each z hz).at_⟩
theorem parO_step {k j m : Nat} {l : List Int} {i mm : Int} (hj : j + 2 + m ≤ l.length) (h0 : ofL l j = i) (h1 : ofL l (j + 1) = mm) (hm : mm.toNat = m) :
    parI (k + 1) (l.drop j) = ⟨i, none, m, m, ofL ((l.drop (j + 2)).take m)⟩ :: parI k (l.drop (j + 2 + m)) := by
  have e : l.drop j = i :: mm :: l.drop (j + 2) := by
    rw [List.drop_eq_getElem_cons (by omega), List.drop_eq_getElem_cons (by omega : j + 1 < l.length)]
    have e0 : l[j] = i := by refine Eq.trans ?_ h0; unfold ofL; simp [List.getD_eq_getElem?_getD, List.getElem?_eq_getElem (show j < l.length by omega)]
    have e1 : l[j + 1] = mm := by refine Eq.trans ?_ h1; unfold ofL; simp [List.getD_eq_getElem?_getD, List.getElem?_eq_getElem (show j + 1 < l.length by omega)]
    rw [e0, e1]
  rw [e]
  show (if mm.toNat ≤ (l.drop (j + 2)).length then _ else _) = _
  rw [hm, if_pos (by rw [List.length_drop]; omega), List.drop_drop]
theorem parO_end {k j : Nat} {l : List Int} (h : l.length - j < 2 ∨ ((l.length - j : Nat) : Int) < 2 + ofL l (j + 1)) (h0 : 0 ≤ ofL l (j + 1)) : parI k (l.drop j) = [] := by
  cases k with
  | zero => rfl
  | succ k =>
    by_cases h2 : l.length - j < 2
    · match hd : l.drop j with
      | [] => rfl
      | [x] => rfl
      | x :: y :: r => have := congrArg List.length hd; rw [List.length_drop] at this; simp at this; omega
    · have h3 := h.resolve_left h2
      have e : l.drop j = l[j]'(by omega) :: l[j + 1]'(by omega) :: l.drop (j + 2) := by
        rw [List.drop_eq_getElem_cons (by omega), List.drop_eq_getElem_cons (by omega : j + 1 < l.length)]
      have e1 : ofL l (j + 1) = l[j + 1]'(by omega) := by unfold ofL; simp [List.getD_eq_getElem?_getD, List.getElem?_eq_getElem (show j + 1 < l.length by omega)]
      rw [e]
      show (if (l[j + 1]'(by omega)).toNat ≤ (l.drop (j + 2)).length then _ else _) = _
      rw [if_neg (by rw [List.length_drop, ← e1]; omega)]
end Go.Proofs.Ythdkhdbabohohaa
