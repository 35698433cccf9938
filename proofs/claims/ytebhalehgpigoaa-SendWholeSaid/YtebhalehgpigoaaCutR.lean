/-
  SEGMENTS CUT: the plain answer ('cutG', 'allS'), and what a call holds of memory while it cuts ('CutM').
-/
import Derived.Test.YtebhalehgpigoaaSplitR
import Derived.Test.YtebhalehgpigoaaClock
namespace Go.Proofs.Ytebhalehgpigoaa
open Go.RowKit
set_option linter.unusedVariables false

abbrev Byt := Int × Int × Bool
def zeroS : Seg := ⟨0, fun _ => 0, 0, 0, 0, false, false⟩
def gapS (s : Seg) (g : Bool) : Seg := { s with gap := g }
/-- The segments from a time on, an open one at hand; 'true': no byte has come yet. -/
def cutG (short long : Int) : Bool → Int → Seg → List Byt → List Seg
  | _, _, s, [] => if 0 < s.count then [s] else []
  | true, f, s, b :: l => cutG short long false b.1 (oneS (gapS s (decide (b.1 - f < long))) b) l
  | false, f, s, b :: l => if long ≤ b.1 - f then s :: cutG short long false b.1 (oneS zeroS b) l else cutG short long false b.1 (oneS (if short < b.1 - f then gapS s true else s) b) l
/-- All segments. -/
def allS (c s l u : Int) (from_ : Int) (L : List Byt) : List Seg := if rightB c s l u = true ∧ rightI L from_ = true then cutG s l true from_ zeroS L else []
theorem cutG_nil (short long : Int) (b : Bool) (f : Int) (s : Seg) : cutG short long b f s [] = if 0 < s.count then [s] else [] := by cases b <;> rfl
theorem cutG_first (short long f : Int) (s : Seg) (b : Byt) (l : List Byt) : cutG short long true f s (b :: l) = cutG short long false b.1 (oneS (gapS s (decide (b.1 - f < long))) b) l := rfl
theorem cutG_cut {short long f : Int} {s : Seg} {b : Byt} {l : List Byt} (h : long ≤ b.1 - f) : cutG short long false f s (b :: l) = s :: cutG short long false b.1 (oneS zeroS b) l := by
  conv => lhs; unfold cutG
  rw [if_pos h]
theorem cutG_gap {short long f : Int} {s : Seg} {b : Byt} {l : List Byt} (h : ¬ long ≤ b.1 - f) (k : short < b.1 - f) : cutG short long false f s (b :: l) = cutG short long false b.1 (oneS (gapS s true) b) l := by
  conv => lhs; unfold cutG
  rw [if_neg h, if_pos k]
theorem cutG_on {short long f : Int} {s : Seg} {b : Byt} {l : List Byt} (h : ¬ long ≤ b.1 - f) (k : ¬ short < b.1 - f) : cutG short long false f s (b :: l) = cutG short long false b.1 (oneS s b) l := by
  conv => lhs; unfold cutG
  rw [if_neg h, if_neg k]

/-- Times, as they come. -/
def timesC (c s l u : Int) : Value := .agg #[.int .i64 c, .int .i64 s, .int .i64 l, .int .i64 u]

/-! ### Memory -/
theorem own_same {w w' : World} {base : Nat} {e : TypeId} {size : Nat} {v : Value} {n : Nat} {xs : List Value} (h : w.ownsRow base e size v n xs) (hk : ∀ g, v.ownBlock = some g → w'.heap[g]? = w.heap[g]?) : w'.ownsRow base e size v n xs := by
  refine ⟨h.1, ?_⟩
  rcases h.2 with h | ⟨g, cap, cur, hv, hg, hh, r⟩
  · exact .inl h
  · subst hv
    exact .inr ⟨g, cap, cur, rfl, hg, (hk g rfl).trans hh, r⟩
/-- A segment's bytes, off the block Bs and off what v owns. -/
structure BytesM (w : World) (B Bs : Nat) (v : Value) (A : Option Addr) (c : Nat) (s : Seg) : Prop where
  holds : Holds .u8 w A s.n s.f
  le : s.n ≤ c
  max : c ≤ maxLen
  small : SegB s
  few : s.n ≤ 256
  off : s.n ≠ 0 → ∀ p, A = some p → B ≤ p.block ∧ p.block ≠ Bs ∧ v.ownBlock ≠ some p.block
/-- What is held while bytes are cut: the list so far, the open segment in a block of its own. -/
structure CutM (w wr : World) (B Bs : Nat) (v : Value) (Ls : List SegP) (A : Option Addr) (c : Nat) (s : Seg) : Prop where
  own : wr.ownsRow B 44 6 v Ls.length (Ls.flatMap segL)
  seg : wr.heap[Bs]? = some (.cells (segC A c s) 44 (0, 0))
  each : ∀ x ∈ Ls, BytesM wr B Bs v x.1.1 x.1.2 x.2
  cur : BytesM wr B Bs v A c s
  ext : Ext w wr
  nb : v.ownBlock ≠ some Bs
  base : B = w.heap.size
  bs : B ≤ Bs
theorem Holds.lt {k : IntKind} {w : World} {a : Option Addr} {n : Nat} {f : Nat → Int} (h : Holds k w a n f) (hn : n ≠ 0) {p : Addr} (hp : a = some p) : p.block < w.heap.size := by
  obtain ⟨b, off, ha, hlt, -⟩ := h.resolve_left hn
  rw [ha] at hp; cases hp; exact hlt
theorem BytesM.blocks {w w' : World} {B Bs : Nat} {v : Value} {A : Option Addr} {c : Nat} {s : Seg} (h : BytesM w B Bs v A c s) (hw : ∀ q, q < w.heap.size → q ≠ Bs → v.ownBlock ≠ some q → w'.heap[q]? = w.heap[q]?) : BytesM w' B Bs v A c s :=
  ⟨h.holds.blocks fun q o hq hn hlt => by
    have := h.off hn _ hq
    exact hw q hlt this.2.1 this.2.2, h.le, h.max, h.small, h.few, h.off⟩
theorem BytesM.ext {w w' : World} {B Bs : Nat} {v : Value} {A : Option Addr} {c : Nat} {s : Seg} (h : BytesM w B Bs v A c s) (x : Ext w w') : BytesM w' B Bs v A c s := h.blocks fun q hq _ _ => Below.block x q hq
theorem BytesM.zero (w : World) (B Bs : Nat) (v : Value) : BytesM w B Bs v none 0 zeroS := ⟨.inl rfl, Nat.le_refl _, Nat.zero_le _, fun i hi => absurd hi (Nat.not_lt_zero _), Nat.zero_le _, fun h => absurd rfl h⟩
section
variable {w wr w' : World} {B Bs : Nat} {v : Value} {Ls : List SegP} {A : Option Addr} {c : Nat} {s : Seg}
theorem CutM.later (h : CutM w wr B Bs v Ls A c s) (x : Ext wr w') : CutM w w' B Bs v Ls A c s :=
  ⟨own_ext h.own x, x.block h.seg, fun y hy => (h.each y hy).ext x, h.cur.ext x, h.ext.trans x, h.nb, h.base, h.bs⟩
/-- Another open segment, stored in its block. -/
theorem CutM.store {A' : Option Addr} {c' : Nat} {s' : Seg} (h : CutM w wr B Bs v Ls A c s) (hx : Ext w w') (hw : ∀ q, q ≠ Bs → w'.heap[q]? = wr.heap[q]?) (hs : w'.heap[Bs]? = some (.cells (segC A' c' s') 44 (0, 0))) (hc : BytesM wr B Bs v A' c' s') : CutM w w' B Bs v Ls A' c' s' :=
  ⟨own_same h.own fun g hg => hw g (fun e => h.nb (by rw [hg, e])), hs, fun y hy => (h.each y hy).blocks fun q _ hq _ => hw q hq, hc.blocks fun q _ hq _ => hw q hq, hx, h.nb, h.base, h.bs⟩
theorem CutM.row {A' : Option Addr} {c' : Nat} {s' : Seg} (h : CutM w wr B Bs v Ls A c s) (hc : BytesM wr B Bs v A' c' s') : CutM w (wr.setRow Bs (segC A' c' s')) B Bs v Ls A' c' s' :=
  h.store (below_setRow h.ext (by have := h.bs; have := h.base; omega) _) (fun q hq => setRow_other _ _ _ _ hq) (setRow_heap _ _ _ _ _ _ h.seg) hc
/-- A gap told. -/
theorem CutM.gap (h : CutM w wr B Bs v Ls A c s) (g : Bool) : CutM w (wr.setCell ⟨Bs, 4, none⟩ (.bool g)) B Bs v Ls A c (gapS s g) :=
  h.store (Below.set h.ext (by have := h.bs; have := h.base; simp; omega) _) (fun q hq => heap_setCell_other _ _ _ _ hq) ((heap_setCell_same _ _ _ _ _ _ h.seg).trans rfl) ⟨h.cur.holds, h.cur.le, h.cur.max, h.cur.small, h.cur.few, h.cur.off⟩
/-- The open segment, appended to the list. -/
theorem CutM.emit {wc : World} {g cap : Nat} (h : CutM w wr B Bs v Ls A c s) (hx : Ext wr wc) (hown : w'.ownsRow B 44 6 (.slice (some ⟨g, 0, none⟩) (Ls.length + 1) cap) (Ls.length + 1) (Ls.flatMap segL ++ segL ((A, c), s)))
    (hgr : wc.grownBy w' v.ownBlock) (hg : v.ownBlock = some g ∨ g = wc.heap.size) : CutM w w' B Bs (.slice (some ⟨g, 0, none⟩) (Ls.length + 1) cap) (Ls ++ [((A, c), s)]) A c s := by
  have hseg := heap_lt (hx.block h.seg)
  have hgr' : ∀ q, q < wr.heap.size → v.ownBlock ≠ some q → w'.heap[q]? = wr.heap[q]? := fun q hq hne =>
    (hgr.block q (Nat.lt_of_lt_of_le hq hx.size) (fun e => hne e.symm)).trans (Below.block hx q hq)
  have hne : ∀ q, q < wc.heap.size → v.ownBlock ≠ some q → (Value.slice (some ⟨g, 0, none⟩) (Ls.length + 1) cap).ownBlock ≠ some q := fun q hq hne e => by
    have e' : g = q := by simpa [Value.ownBlock] using e
    subst e'
    rcases hg with e | e
    · exact hne e
    · omega
  have hmove : ∀ {A : Option Addr} {c : Nat} {s : Seg}, BytesM wr B Bs v A c s → BytesM w' B Bs (.slice (some ⟨g, 0, none⟩) (Ls.length + 1) cap) A c s := fun hb =>
    ⟨hb.holds.blocks fun q o hq hn hlt => hgr' q hlt (hb.off hn _ hq).2.2, hb.le, hb.max, hb.small, hb.few,
      fun hn p hp => ⟨(hb.off hn p hp).1, (hb.off hn p hp).2.1, hne _ (Nat.lt_of_lt_of_le (hb.holds.lt hn hp) hx.size) (hb.off hn p hp).2.2⟩⟩
  have hB : B ≤ wc.heap.size := by have := h.base; have := h.ext.size; have := hx.size; omega
  refine ⟨by simpa using hown, (hgr' _ (heap_lt h.seg) h.nb).trans h.seg, fun y hy => ?_, hmove h.cur, ?_, hne _ hseg h.nb, h.base, h.bs⟩
  · rcases List.mem_append.1 hy with hy | hy
    · exact hmove (h.each y hy)
    · rw [List.mem_singleton.1 hy]; exact hmove h.cur
  · have := (Below.trans h.ext (Below.mono hx h.ext.size)).grown hgr (Nat.le_trans h.ext.size hx.size) (fun k hk => by rw [← h.base]; exact (h.own.lt k hk).1)
    exact this
end
/-- What comes of it: a list of segments that the call owns, each with its bytes. -/
structure SegsO (B : Nat) (w' : World) (z : Option Addr) (u : Nat) (Ls : List SegP) : Prop where
  own : w'.ownsRow B 44 6 (.slice z Ls.length u) Ls.length (Ls.flatMap segL)
  le : Ls.length ≤ u
  max : u ≤ maxLen
  each : ∀ x ∈ Ls, Holds .u8 w' x.1.1 x.2.n x.2.f ∧ x.2.n ≤ x.1.2 ∧ x.1.2 ≤ maxLen ∧ SegB x.2 ∧ x.2.n ≤ 256
  off : ∀ x ∈ Ls, x.2.n ≠ 0 → ∀ p, x.1.1 = some p → B ≤ p.block ∧ ∀ q, z = some q → p.block ≠ q.block
theorem SegsO.segs {B : Nat} {w' : World} {z : Option Addr} {u : Nat} {Ls : List SegP} (h : SegsO B w' z u Ls) : Segs w' z Ls := by
  obtain ⟨a, cap, hv, _, _, hh, _⟩ := HoldsL.of_own segL_length h.own rfl
  injection hv with e1 e2 e3
  subst e1
  exact ⟨hh, fun x hx => ⟨(h.each x hx).1, (h.each x hx).2.1, (h.each x hx).2.2.1, (h.each x hx).2.2.2.1⟩⟩
theorem SegsO.ext {B : Nat} {w' w2 : World} {z : Option Addr} {u : Nat} {Ls : List SegP} (h : SegsO B w' z u Ls) (x : Ext w' w2) : SegsO B w2 z u Ls :=
  ⟨own_ext h.own x, h.le, h.max, fun y hy => ⟨(h.each y hy).1.ext x, (h.each y hy).2⟩, h.off⟩
theorem SegsO.nil (B : Nat) (w' : World) : SegsO B w' none 0 [] := ⟨World.ownsRow_nil _ _ _ _, Nat.le_refl _, Nat.zero_le _, fun x hx => by simp at hx, fun x hx => by simp at hx⟩
theorem own_base {w : World} {base base' : Nat} {e : TypeId} {size : Nat} {v : Value} {n : Nat} {xs : List Value} (h : w.ownsRow base e size v n xs) (hb : base' ≤ base) : w.ownsRow base' e size v n xs := by
  refine ⟨h.1, ?_⟩
  rcases h.2 with h | ⟨g, cap, cur, hv, hg, r⟩
  · exact .inl h
  · exact .inr ⟨g, cap, cur, hv, Nat.le_trans hb hg, r⟩
theorem SegsO.base {B B' : Nat} {w' : World} {z : Option Addr} {u : Nat} {Ls : List SegP} (h : SegsO B w' z u Ls) (hb : B' ≤ B) : SegsO B' w' z u Ls :=
  ⟨own_base h.own hb, h.le, h.max, h.each, fun y hy hn p hp => ⟨Nat.le_trans hb (h.off y hy hn p hp).1, (h.off y hy hn p hp).2⟩⟩
theorem CutM.done {w wr : World} {B Bs : Nat} {v : Value} {Ls : List SegP} {A : Option Addr} {c : Nat} {s : Seg} (h : CutM w wr B Bs v Ls A c s) : ∃ z u, v = .slice z Ls.length u ∧ SegsO B wr z u Ls := by
  obtain ⟨a, cap, rfl, h1, h2, hh, h3⟩ := HoldsL.of_own segL_length h.own rfl
  refine ⟨a, cap, rfl, h.own, h1, h2, fun x hx => ⟨(h.each x hx).holds, (h.each x hx).le, (h.each x hx).max, (h.each x hx).small, (h.each x hx).few⟩, fun x hx hn p hp => ⟨((h.each x hx).off hn p hp).1, fun q hq e => ?_⟩⟩
  have h4 := ((h.each x hx).off hn p hp).2.2
  obtain ⟨_, h5⟩ := id h.own
  rcases h5 with ⟨hv, _⟩ | ⟨g, cap', cur, hv, _⟩
  · injection hv with e1 e2 e3
    rw [e1] at hq; cases hq
  · injection hv with e1 e2 e3
    rw [e1] at hq h4; cases hq
    exact h4 (by simp [Value.ownBlock, e])
theorem SegB.one {s : Seg} {b : Byt} (h : SegB s) (h0 : 0 ≤ b.2.1) (h1 : b.2.1 < 256) : SegB (oneS s b) := by
  intro i hi
  unfold oneS at hi ⊢
  by_cases hn : s.n < 256
  · simp only [if_pos hn] at hi ⊢
    by_cases e : i = s.n
    · rw [e, upd_same]; exact ⟨h0, h1⟩
    · rw [upd_other _ _ _ _ e]; exact h i (by omega)
  · simp only [if_neg hn] at hi ⊢
    exact h i hi
theorem oneS_few {s : Seg} {b : Byt} (h : s.n ≤ 256) : (oneS s b).n ≤ 256 := by
  unfold oneS
  by_cases hn : s.n < 256
  · simp only [if_pos hn]; omega
  · simp only [if_neg hn]; omega
end Go.Proofs.Ytebhalehgpigoaa
