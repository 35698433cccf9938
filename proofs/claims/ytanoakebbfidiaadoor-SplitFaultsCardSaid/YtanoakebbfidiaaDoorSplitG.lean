/-
  CONTRACTS of package split: All.
-/
import Derived.Test.YtanoakebbfidiaaDoorSplitF
import Derived.Test.YtanoakebbfidiaaDoorCutA
import Derived.Deep.AppendLies
namespace Go.Proofs.YtanoakebbfidiaaDoor
open Go.RowKit
set_option linter.unusedVariables false

/-- append onto a row of the call's own, in a round. -/
theorem wpListIn_append_lies {F : Fence} {k : Nat} {P : Program} (w : World) {ops : Array Oper} {rest : List Oper} {o : Oper} {a : Act} {Q : Exit → Act → World → Prop} (hgd : o.guard = none) (s x : Operand) (t : TypeId)
    (ho : o.op = .call { callee := .builtin .append, args := #[s, x], argTypes := #[t, t] })
    (base : Nat) (e : TypeId) (i : TypeInfo) (z : Value) (size bytes : Nat) (ht : P.underlying t = some (.slice e)) (hi : P.info? e = some i) (hz : i.zero = some z)
    (hsize : i.size = size) (hby : i.bytes = bytes) (hzs : z.cells.size = size) (hsz : 0 < size)
    (v : Value) (n : Nat) (xs : List Value) (hs : a.eval s = v) (hown : w.ownsRow base e size v n xs)
    (ad : Addr) (m c : Nat) (news : List Value) (hx : a.eval x = .slice (some ad) m c) (hl : news.length = m * size) (hnews : ∀ j u, news[j]? = some u → w.cell? (ad.add j) = some u) (h1 : ∀ u ∈ news, u.oneCell' = true)
    (hm : 0 < m) (h63 : n + m ≤ maxLen) (hbytes : (n + m) * bytes ≤ 140737488355328) (hbase : base ≤ w.heap.size)
    (h : ∀ g cap w', w'.ownsRow base e size (.slice (some ⟨g, 0, none⟩) (n + m) cap) (n + m) (xs ++ news) → w.grownBy w' v.ownBlock → (v.ownBlock = some g ∨ g = w.heap.size) → g < w'.heap.size → wpListIn F k P ops Q rest (a.put o.dst (.slice (some ⟨g, 0, none⟩) (n + m) cap)) w') :
    wpListIn F k P ops Q (o :: rest) a w := by
  refine wpListIn_plain hgd fun K hK' => ?_
  obtain ⟨g, cap, w', hr, h2, h3, h4, h5⟩ := run_append_lies (P := P) w t o.type base e i z size bytes ht hi hz hsize hby hzs hsz v n xs hown ad m c news hl hnews h1 hm h63 hbytes hbase _ rfl
  unfold Oper.wpIn
  refine ⟨?_, ?_⟩
  · simp [Oper.about, ho, resolve, Target.leads, Sem.run_pure]
  · rw [Oper.semAt_plain F _ _ (by rw [ho]; intro c hc'; cases hc')]
    simp [execOp, ho, resolve, invoke, builtin, hs, hx, hr, Result.andThen]
    exact hK' _ _ (h g cap w' h2 h3 h4 h5)
/-- What is held of memory between the rounds: the list so far, in its box B7. -/
structure AllM (w wr : World) (B B7 : Nat) (v : Value) (Ls : List SegP) : Prop where
  own : wr.ownsRow B 33 6 v Ls.length (Ls.flatMap segL)
  box : wr.heap[B7]? = some (.cells #[v] 28 (0, 0))
  each : ∀ x ∈ Ls, BytesM wr B B7 v x.1.1 x.1.2 x.2
  keep : Keep (· = B7) w wr
  base : B = w.heap.size
  bs : B7 < B
section
variable {w wr w' : World} {B B7 : Nat} {v : Value} {Ls : List SegP}
theorem AllM.nb (h : AllM w wr B B7 v Ls) : v.ownBlock ≠ some B7 := fun e => by have := (h.own.lt _ e).1; have := h.bs; omega
theorem AllM.later (h : AllM w wr B B7 v Ls) (x : Ext wr w') : AllM w w' B B7 v Ls :=
  ⟨own_ext h.own x, x.block h.box, fun y hy => (h.each y hy).ext x, h.keep.trans_ext x, h.base, h.bs⟩
/-- A block that is no cells turns. -/
theorem AllM.turn (h : AllM w wr B B7 v Ls) {l : Nat} {o : Obj} (o' : Obj) (hl : w.heap.size ≤ l) (ho : wr.heap[l]? = some o) (hc : o.isCells = false) : AllM w (wr.putObj l o') B B7 v Ls := by
  have hne : ∀ q, q ≠ l → (wr.putObj l o').heap[q]? = wr.heap[q]? := fun q hq => World.putObj_heap_other hq
  have hcl : ∀ q p vv, wr.cell? ⟨q, p, none⟩ = some vv → q ≠ l := fun q p vv hv e => by
    subst e
    cases o with
    | cells cs t fr => cases hc
    | _ => simp [World.cell?, ho] at hv
  refine ⟨own_same h.own fun g hg => hne g fun e => ?_, (hne _ (by have := h.bs; have := h.base; omega)).trans h.box, fun y hy => ?_, ?_, h.base, h.bs⟩
  · rw [e] at hg
    rcases h.own.2 with ⟨hv, _⟩ | ⟨g', cap, cur, hv, _, hgb, _⟩
    · rw [hv] at hg; simp [Value.ownBlock] at hg
    · rw [hv] at hg
      have e2 : g' = l := by simpa [Value.ownBlock] using hg
      rw [e2, ho] at hgb; cases hgb; cases hc
  · refine (h.each y hy) |> fun hb => ⟨?_, hb.le, hb.max, hb.small, hb.few, hb.off⟩
    rcases hb.holds with h0 | ⟨q, off, ha, hlt, hce⟩
    · exact .inl h0
    · by_cases hn : y.2.n = 0
      · exact .inl hn
      · have hql := hcl q _ _ (hce 0 (by omega))
        refine .inr ⟨q, off, ha, by rw [World.putObj_size]; exact hlt, fun i hi => ?_⟩
        rw [← hce i hi]
        unfold World.cell?
        simp only [hne q hql]
  · exact ⟨h.keep.os, h.keep.tape, h.keep.output, by rw [World.putObj_size]; exact h.keep.size, fun q hq hF => (hne q (by omega)).trans (h.keep.block q hq hF)⟩
/-- One more segment. -/
theorem AllM.emit {wc w5 : World} {g cap : Nat} {x : SegP} {W0 : World} (h : AllM w W0 B B7 v Ls) (hk : AllM w wc B B7 v Ls)
    (hx : Holds .u8 wc x.1.1 x.2.n x.2.f) (hle : x.2.n ≤ x.1.2) (hmax : x.1.2 ≤ maxLen) (hsm : SegB x.2) (hfew : x.2.n ≤ 256) (hfr : Fresh W0 x.1.1) (hsz : W0.heap.size ≤ wc.heap.size)
    (hown : w5.ownsRow B 33 6 (.slice (some ⟨g, 0, none⟩) (Ls.length + 1) cap) (Ls.length + 1) (Ls.flatMap segL ++ segL x)) (hgr : wc.grownBy w5 v.ownBlock) (hg : v.ownBlock = some g ∨ g = wc.heap.size) :
    AllM w (w5.setCell ⟨B7, 0, none⟩ (.slice (some ⟨g, 0, none⟩) (Ls.length + 1) cap)) B B7 (.slice (some ⟨g, 0, none⟩) (Ls.length + 1) cap) (Ls ++ [x]) := by
  have hB7 : B7 < wc.heap.size := heap_lt hk.box
  have hgB : B ≤ g := (hown.lt g rfl).1
  have hgr' : ∀ q, q < wc.heap.size → v.ownBlock ≠ some q → w5.heap[q]? = wc.heap[q]? := fun q hq hne => hgr.block q hq (fun e => hne e.symm)
  have hset : ∀ q, q ≠ B7 → (w5.setCell ⟨B7, 0, none⟩ (.slice (some ⟨g, 0, none⟩) (Ls.length + 1) cap)).heap[q]? = w5.heap[q]? := fun q hq => heap_setCell_other _ _ _ _ (by simpa using hq)
  have hne : ∀ q, q < wc.heap.size → v.ownBlock ≠ some q → (Value.slice (some ⟨g, 0, none⟩) (Ls.length + 1) cap).ownBlock ≠ some q := fun q hq hne e => by
    have e' : g = q := by simpa [Value.ownBlock] using e
    subst e'
    rcases hg with e | e
    · exact hne e
    · omega
  have hvW : ∀ q, v.ownBlock = some q → q < W0.heap.size := fun q hq => (h.own.lt q hq).2
  have hnew : BytesM wc B B7 v x.1.1 x.1.2 x.2 := ⟨hx, hle, hmax, hsm, hfew, fun hn p hp => by
    have h1 := hfr p hp
    have h2 := h.keep.size
    have h3 := h.base
    have h4 := h.bs
    exact ⟨by omega, by omega, fun e => by have := hvW _ e; omega⟩⟩
  have hmove : ∀ {y : SegP}, BytesM wc B B7 v y.1.1 y.1.2 y.2 → BytesM (w5.setCell ⟨B7, 0, none⟩ (.slice (some ⟨g, 0, none⟩) (Ls.length + 1) cap)) B B7 (.slice (some ⟨g, 0, none⟩) (Ls.length + 1) cap) y.1.1 y.1.2 y.2 := fun hb =>
    ⟨hb.holds.blocks fun q o hq hn hlt => (hset q (hb.off hn _ hq).2.1).trans (hgr' q hlt (hb.off hn _ hq).2.2), hb.le, hb.max, hb.small, hb.few,
      fun hn p hp => ⟨(hb.off hn p hp).1, (hb.off hn p hp).2.1, hne _ (hb.holds.lt hn hp) (hb.off hn p hp).2.2⟩⟩
  have hbox5 : w5.heap[B7]? = some (.cells #[v] 28 (0, 0)) := (hgr' B7 hB7 hk.nb).trans hk.box
  refine ⟨own_same (by simpa using hown) fun q hq => hset q fun e => ?_, (heap_setCell_same _ _ _ _ _ _ hbox5).trans rfl, fun y hy => ?_, ?_, hk.base, hk.bs⟩
  · have e' : g = q := by simpa [Value.ownBlock] using hq
    have := hk.bs
    omega
  · rcases List.mem_append.1 hy with hy | hy
    · exact hmove (hk.each y hy)
    · rw [List.mem_singleton.1 hy]; exact hmove hnew
  · refine ⟨hgr.os.trans hk.keep.os, hgr.tape.trans hk.keep.tape, hgr.output.trans hk.keep.output, Nat.le_trans hk.keep.size (Nat.le_trans hgr.size (by simp [World.setCell])), fun q hq hF => ?_⟩
    have h1 : v.ownBlock ≠ some q := fun e => by have := (hk.own.lt q e).1; have := hk.base; omega
    exact (hset q hF).trans ((hgr' q (Nat.lt_of_lt_of_le hq hk.keep.size) h1).trans (hk.keep.block q hq hF))
theorem AllM.others (h : AllM w wr B B7 v Ls) {b : Nat} {o : Obj} (ho : wr.heap[b]? = some o) (hc : o.isCells = false) : v.ownBlock ≠ some b := fun e => by
  rcases h.own.2 with ⟨hv, _⟩ | ⟨g', cap, cur, hv, _, hgb, _⟩
  · rw [hv] at e; simp [Value.ownBlock] at e
  · rw [hv] at e
    have e2 : g' = b := by simpa [Value.ownBlock] using e
    rw [e2, ho] at hgb; cases hgb; cases hc
theorem AllM.done (h : AllM w wr B B7 v Ls) : ∃ z u, v = .slice z Ls.length u ∧ SegsO B wr z u Ls := by
  obtain ⟨a, cap, rfl, h1, h2, hh, h3⟩ := HoldsL.of_own segL_length h.own rfl
  refine ⟨a, cap, rfl, h.own, h1, h2, fun x hx => ⟨(h.each x hx).holds, (h.each x hx).le, (h.each x hx).max, (h.each x hx).small, (h.each x hx).few⟩, fun x hx hn p hp => ⟨((h.each x hx).off hn p hp).1, fun q hq e => ?_⟩⟩
  have h4 := ((h.each x hx).off hn p hp).2.2
  obtain ⟨_, h5⟩ := id h.own
  rcases h5 with ⟨hv, _⟩ | ⟨g, cap', cur, hv, _⟩
  · injection hv with e1 e2 e3
    rw [e1] at hq; cases hq
  · injection hv with e1 e2 e3
    rw [e1] at hq h4; cases hq
    exact h4 (by simp [Value.ownBlock, e])
end
theorem segs_any (a : Option Addr) (n cp : Nat) (c s l u f : Int) (w : World) :
    Calls Tryd.prog 24 #[.slice a n cp, .agg #[.int .i64 c, .int .i64 s, .int .i64 l, .int .i64 u], .int .i64 f] w fun e w' => e = .returned (.func (Fn.func 35) #[] #[.pointer (some ⟨w.heap.size, 0, none⟩), .pointer (some ⟨w.heap.size + 1, 0, none⟩), .pointer (some ⟨w.heap.size + 1 + 1, 0, none⟩)]) ∧
      w' = ((w.alloc (.cells #[.slice a n cp] 22)).alloc (.cells #[.int .i64 c, .int .i64 s, .int .i64 l, .int .i64 u] 24)).alloc (.cells #[.int .i64 f] 3) := by
  go_enter Tryd.func24, Tryd.ntmps24
  go_wp2
  go_ret
  exact ⟨rfl, rfl⟩
end Go.Proofs.YtanoakebbfidiaaDoor
