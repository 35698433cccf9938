/-
  CONTRACTS of package split: All.
  CONTRACTS of package split: All.
  PACKAGE SPLIT's CONTRACTS, as the laws of layer 9 take them. 'Rd w': package crc's tables are as they were laid.
-/
import Derived.Test.YtebhalehgpigoaaSplitF
import Derived.Test.YtebhalehgpigoaaCutA
import Derived.Deep.AppendLies
namespace Go.Proofs.Ytebhalehgpigoaa
open Go.RowKit
set_option linter.unusedVariables false

/-- append onto a row of the call's own, in a round. -/
theorem wpListIn_append_lies {F : Fence} {k : Nat} {P : Program} (w : World) {ops : Array Oper} {rest : List Oper} {o : Oper} {a : Act} {Q : Exit → Act → World → Prop} (hgd : o.guard = none) (s x : Operand) (t : TypeId)
    (ho : o.op = .call { callee := .builtin .append, args := #[s, x], argTypes := #[t, t] })
    (base : Nat) (e : TypeId) (i : TypeInfo) (z : Value) (size bytes : Nat) (ht : P.underlying t = some (.slice e)) (hi : P.info? e = some i) (hz : i.zero = some z)
    (hsize : i.size = size) (hby : i.bytes = bytes) (hzs : z.cells.size = size) (hsz : 0 < size)
    (v : Value) (n : Nat) (xs : List Value) (hs : a.eval s = v) (hown : w.ownsRow base e size v n xs)
    (ad : Addr) (m c : Nat) (news : List Value) (hx : a.eval x = .slice (some ad) m c) (hl : news.length = m * size) (hnews : ∀ j u, news[j]? = some u → w.cell? (ad.add j) = some u) (h1 : ∀ u ∈ news, u.oneCell' = true)
    (hm : 0 < m) (h63 : n + m ≤ maxLen) (hbytes : (n + m) * bytes ≤ 140737488355328) (hbase : base ≤ w.heap.size)
    (h : ∀ g cap w', w'.ownsRow base e size (.slice (some ⟨g, 0, none⟩) (n + m) cap) (n + m) (xs ++ news) → w.grownBy w' v.ownBlock → (v.ownBlock = some g ∨ g = w.heap.size) → g < w'.heap.size → wpListIn F k P ops Q rest (a.put o.dst (.slice (some ⟨g, 0, none⟩) (n + m) cap)) w') :
    wpListIn F k P ops Q (o :: rest) a w := by
  refine wpListIn_plain hgd fun K hK' => ?_
  obtain ⟨g, cap, w', hr, h2, h3, h4, h5⟩ := run_append_lies (P := P) w t o.type base e i z size bytes ht hi hz hsize hby hzs hsz v n xs hown ad m c news hl hnews h1 hm h63 hbytes hbase _ rfl
  unfold Oper.wpIn
  refine ⟨?_, ?_⟩
  · simp [Oper.about, ho, resolve, Target.leads, Sem.run_pure]
  · rw [Oper.semAt_plain F _ _ (by rw [ho]; intro c hc'; cases hc')]
    simp [execOp, ho, resolve, invoke, builtin, hs, hx, hr, Result.andThen]
    exact hK' _ _ (h g cap w' h2 h3 h4 h5)
/-- What is held of memory between the rounds: the list so far, in its box B7. -/
structure AllM (w wr : World) (B B7 : Nat) (v : Value) (Ls : List SegP) : Prop where
  own : wr.ownsRow B 44 6 v Ls.length (Ls.flatMap segL)
  box : wr.heap[B7]? = some (.cells #[v] 41 (0, 0))
  each : ∀ x ∈ Ls, BytesM wr B B7 v x.1.1 x.1.2 x.2
  keep : Keep (· = B7) w wr
  base : B = w.heap.size
  bs : B7 < B
section
variable {w wr w' : World} {B B7 : Nat} {v : Value} {Ls : List SegP}
theorem AllM.nb (h : AllM w wr B B7 v Ls) : v.ownBlock ≠ some B7 := fun e => by have := (h.own.lt _ e).1; have := h.bs; omega
theorem AllM.later (h : AllM w wr B B7 v Ls) (x : Ext wr w') : AllM w w' B B7 v Ls :=
  ⟨own_ext h.own x, x.block h.box, fun y hy => (h.each y hy).ext x, h.keep.trans_ext x, h.base, h.bs⟩
/-- A block that is no cells turns. -/
theorem AllM.turn (h : AllM w wr B B7 v Ls) {l : Nat} {o : Obj} (o' : Obj) (hl : w.heap.size ≤ l) (ho : wr.heap[l]? = some o) (hc : o.isCells = false) : AllM w (wr.putObj l o') B B7 v Ls := by
  have hne : ∀ q, q ≠ l → (wr.putObj l o').heap[q]? = wr.heap[q]? := fun q hq => World.putObj_heap_other hq
  have hcl : ∀ q p vv, wr.cell? ⟨q, p, none⟩ = some vv → q ≠ l := fun q p vv hv e => by
    subst e
    cases o with
    | cells cs t fr => cases hc
    | _ => simp [World.cell?, ho] at hv
  refine ⟨own_same h.own fun g hg => hne g fun e => ?_, (hne _ (by have := h.bs; have := h.base; omega)).trans h.box, fun y hy => ?_, ?_, h.base, h.bs⟩
  · rw [e] at hg
    rcases h.own.2 with ⟨hv, _⟩ | ⟨g', cap, cur, hv, _, hgb, _⟩
    · rw [hv] at hg; simp [Value.ownBlock] at hg
    · rw [hv] at hg
      have e2 : g' = l := by simpa [Value.ownBlock] using hg
      rw [e2, ho] at hgb; cases hgb; cases hc
  · refine (h.each y hy) |> fun hb => ⟨?_, hb.le, hb.max, hb.small, hb.few, hb.off⟩
    rcases hb.holds with h0 | ⟨q, off, ha, hlt, hce⟩
    · exact .inl h0
    · by_cases hn : y.2.n = 0
      · exact .inl hn
      · have hql := hcl q _ _ (hce 0 (by omega))
        refine .inr ⟨q, off, ha, by rw [World.putObj_size]; exact hlt, fun i hi => ?_⟩
        rw [← hce i hi]
        unfold World.cell?
        simp only [hne q hql]
  · exact ⟨h.keep.os, h.keep.tape, h.keep.output, by rw [World.putObj_size]; exact h.keep.size, fun q hq hF => (hne q (by omega)).trans (h.keep.block q hq hF)⟩
/-- One more segment. -/
theorem AllM.emit {wc w5 : World} {g cap : Nat} {x : SegP} {W0 : World} (h : AllM w W0 B B7 v Ls) (hk : AllM w wc B B7 v Ls)
    (hx : Holds .u8 wc x.1.1 x.2.n x.2.f) (hle : x.2.n ≤ x.1.2) (hmax : x.1.2 ≤ maxLen) (hsm : SegB x.2) (hfew : x.2.n ≤ 256) (hfr : Fresh W0 x.1.1) (hsz : W0.heap.size ≤ wc.heap.size)
    (hown : w5.ownsRow B 44 6 (.slice (some ⟨g, 0, none⟩) (Ls.length + 1) cap) (Ls.length + 1) (Ls.flatMap segL ++ segL x)) (hgr : wc.grownBy w5 v.ownBlock) (hg : v.ownBlock = some g ∨ g = wc.heap.size) :
    AllM w (w5.setCell ⟨B7, 0, none⟩ (.slice (some ⟨g, 0, none⟩) (Ls.length + 1) cap)) B B7 (.slice (some ⟨g, 0, none⟩) (Ls.length + 1) cap) (Ls ++ [x]) := by
  have hB7 : B7 < wc.heap.size := heap_lt hk.box
  have hgB : B ≤ g := (hown.lt g rfl).1
  have hgr' : ∀ q, q < wc.heap.size → v.ownBlock ≠ some q → w5.heap[q]? = wc.heap[q]? := fun q hq hne => hgr.block q hq (fun e => hne e.symm)
  have hset : ∀ q, q ≠ B7 → (w5.setCell ⟨B7, 0, none⟩ (.slice (some ⟨g, 0, none⟩) (Ls.length + 1) cap)).heap[q]? = w5.heap[q]? := fun q hq => heap_setCell_other _ _ _ _ (by simpa using hq)
  have hne : ∀ q, q < wc.heap.size → v.ownBlock ≠ some q → (Value.slice (some ⟨g, 0, none⟩) (Ls.length + 1) cap).ownBlock ≠ some q := fun q hq hne e => by
    have e' : g = q := by simpa [Value.ownBlock] using e
    subst e'
    rcases hg with e | e
    · exact hne e
    · omega
  have hvW : ∀ q, v.ownBlock = some q → q < W0.heap.size := fun q hq => (h.own.lt q hq).2
  have hnew : BytesM wc B B7 v x.1.1 x.1.2 x.2 := ⟨hx, hle, hmax, hsm, hfew, fun hn p hp => by
    have h1 := hfr p hp
    have h2 := h.keep.size
    have h3 := h.base
    have h4 := h.bs
    exact ⟨by omega, by omega, fun e => by have := hvW _ e; omega⟩⟩
  have hmove : ∀ {y : SegP}, BytesM wc B B7 v y.1.1 y.1.2 y.2 → BytesM (w5.setCell ⟨B7, 0, none⟩ (.slice (some ⟨g, 0, none⟩) (Ls.length + 1) cap)) B B7 (.slice (some ⟨g, 0, none⟩) (Ls.length + 1) cap) y.1.1 y.1.2 y.2 := fun hb =>
    ⟨hb.holds.blocks fun q o hq hn hlt => (hset q (hb.off hn _ hq).2.1).trans (hgr' q hlt (hb.off hn _ hq).2.2), hb.le, hb.max, hb.small, hb.few,
      fun hn p hp => ⟨(hb.off hn p hp).1, (hb.off hn p hp).2.1, hne _ (hb.holds.lt hn hp) (hb.off hn p hp).2.2⟩⟩
  have hbox5 : w5.heap[B7]? = some (.cells #[v] 41 (0, 0)) := (hgr' B7 hB7 hk.nb).trans hk.box
  refine ⟨own_same (by simpa using hown) fun q hq => hset q fun e => ?_, (heap_setCell_same _ _ _ _ _ _ hbox5).trans rfl, fun y hy => ?_, ?_, hk.base, hk.bs⟩
  · have e' : g = q := by simpa [Value.ownBlock] using hq
    have := hk.bs
    omega
  · rcases List.mem_append.1 hy with hy | hy
    · exact hmove (hk.each y hy)
    · rw [List.mem_singleton.1 hy]; exact hmove hnew
  · refine ⟨hgr.os.trans hk.keep.os, hgr.tape.trans hk.keep.tape, hgr.output.trans hk.keep.output, Nat.le_trans hk.keep.size (Nat.le_trans hgr.size (by simp [World.setCell])), fun q hq hF => ?_⟩
    have h1 : v.ownBlock ≠ some q := fun e => by have := (hk.own.lt q e).1; have := hk.base; omega
    exact (hset q hF).trans ((hgr' q (Nat.lt_of_lt_of_le hq hk.keep.size) h1).trans (hk.keep.block q hq hF))
theorem AllM.others (h : AllM w wr B B7 v Ls) {b : Nat} {o : Obj} (ho : wr.heap[b]? = some o) (hc : o.isCells = false) : v.ownBlock ≠ some b := fun e => by
  rcases h.own.2 with ⟨hv, _⟩ | ⟨g', cap, cur, hv, _, hgb, _⟩
  · rw [hv] at e; simp [Value.ownBlock] at e
  · rw [hv] at e
    have e2 : g' = b := by simpa [Value.ownBlock] using e
    rw [e2, ho] at hgb; cases hgb; cases hc
theorem AllM.done (h : AllM w wr B B7 v Ls) : ∃ z u, v = .slice z Ls.length u ∧ SegsO B wr z u Ls := by
  obtain ⟨a, cap, rfl, h1, h2, hh, h3⟩ := HoldsL.of_own segL_length h.own rfl
  refine ⟨a, cap, rfl, h.own, h1, h2, fun x hx => ⟨(h.each x hx).holds, (h.each x hx).le, (h.each x hx).max, (h.each x hx).small, (h.each x hx).few⟩, fun x hx hn p hp => ⟨((h.each x hx).off hn p hp).1, fun q hq e => ?_⟩⟩
  have h4 := ((h.each x hx).off hn p hp).2.2
  obtain ⟨_, h5⟩ := id h.own
  rcases h5 with ⟨hv, _⟩ | ⟨g, cap', cur, hv, _⟩
  · injection hv with e1 e2 e3
    rw [e1] at hq; cases hq
  · injection hv with e1 e2 e3
    rw [e1] at hq h4; cases hq
    exact h4 (by simp [Value.ownBlock, e])
end
theorem segs_any (a : Option Addr) (n cp : Nat) (c s l u f : Int) (w : World) :
    Calls Try.prog 27 #[.slice a n cp, .agg #[.int .i64 c, .int .i64 s, .int .i64 l, .int .i64 u], .int .i64 f] w fun e w' => e = .returned (.func (Fn.func 36) #[] #[.pointer (some ⟨w.heap.size, 0, none⟩), .pointer (some ⟨w.heap.size + 1, 0, none⟩), .pointer (some ⟨w.heap.size + 1 + 1, 0, none⟩)]) ∧
      w' = ((w.alloc (.cells #[.slice a n cp] 28)).alloc (.cells #[.int .i64 c, .int .i64 s, .int .i64 l, .int .i64 u] 24)).alloc (.cells #[.int .i64 f] 3) := by
  go_enter Try.func27, Try.ntmps27
  go_wp2
  go_ret
  exact ⟨rfl, rfl⟩
end Go.Proofs.Ytebhalehgpigoaa
namespace Go.Proofs.Ytebhalehgpigoaa
open Go.RowKit
set_option linter.unusedVariables false
attribute [local go_sem] Oper.semAt_some

theorem IterM.keep {W W' : World} {B b3 b4 b5 : Nat} {a : Option Addr} {n cp : Nat} {L : List Byt} {s l f : Int} (h : IterM W b3 b4 b5 a n cp L s l f) (x : Keep (· = B) W W') (h3 : b3 ≠ B) (h4 : b4 ≠ B) (h5 : b5 ≠ B) (ho : OffN (· = B) a L.length) : IterM W' b3 b4 b5 a n cp L s l f :=
  ⟨x.cell h3 h.list, x.cell h4 h.short, x.cell h4 h.long, x.cell h5 h.from_, h.bytes.keepN x ho⟩
theorem rising_times : ∀ {L : List Byt} {f : Int}, 0 ≤ f → risingI f L = true → TimesOk L ∧ ∀ i, i < L.length → f ≤ (nth L i).1
  | [], f, _, _ => ⟨fun i hi => absurd hi (Nat.not_lt_zero _), fun i hi => absurd hi (Nat.not_lt_zero _)⟩
  | x :: L, f, h0, h => by
    obtain ⟨h1, h2, h3⟩ := rising_drop h
    obtain ⟨h4, h5⟩ := rising_times (L := L) (f := x.1) (by omega) h3
    have e : ∀ i, nth (x :: L) (i + 1) = nth L i := fun i => by unfold nth; simp
    have e0 : nth (x :: L) 0 = x := by unfold nth; simp
    refine ⟨fun i hi => ?_, fun i hi => ?_⟩
    · cases i with
      | zero => rw [e0]; exact ⟨⟨by omega, h2⟩, fun h => absurd h (Nat.lt_irrefl 0)⟩
      | succ i =>
        rw [e, Nat.add_sub_cancel]
        have hi' : i < L.length := by simpa using hi
        refine ⟨(h4 i hi').1, fun _ => ?_⟩
        cases i with
        | zero => rw [e0]; exact h5 0 hi'
        | succ i => rw [e]; have := (h4 (i + 1) hi').2 (by omega); rwa [Nat.add_sub_cancel] at this
    · cases i with
      | zero => rw [e0]; exact h1
      | succ i => rw [e]; have := h5 i (by simpa using hi); omega
theorem whole_len {s l : Int} {b : Bool} {f : Int} {L : List Byt} {S : List Seg} (h : WholeP s l b f L S) : S.length ≤ L.length := by
  induction h with
  | nil => simp
  | cons h hl hr ih => rw [List.length_drop] at ih; have := h.pos; have := h.le; simp only [List.length_cons]; omega
set_option maxHeartbeats 4000000 in
theorem sall_no (a : Option Addr) (n cp : Nat) (L : List Byt) (c s l u f : Int) (w : World) (ha : HoldsL 3 byt w a L) (hL : L.length = n) (hn : n ≤ 1000000) (h : ¬ (rightB c s l u = true ∧ rightI L f = true)) :
    Calls Try.prog 17 #[.slice a n cp, timesC c s l u, .int .i64 f] w fun e w' => e = .returned (.slice none 0 0) ∧ Ext w w' := by
  have hr := fun w => kright0 c s l u w
  have h9 := fun w' (x : Ext w w') => sright0 a n cp L f w' (ha.ext x) hL hn
  unfold timesC
  cases h1 : rightB c s l u
  · rw [h1] at hr
    clear h h9 ha hL hn h1
    go_enter Try.func17, Try.ntmps17
    go_wp2_with fail
    refine (hr _).mono ?_; rintro e w1 ⟨rfl, x1⟩
    clear hr
    go_wp2
    go_ret
    exact ⟨rfl, (Ext.alloc _ _).trans x1⟩
  · rw [h1] at hr h
    have h2 : rightI L f = false := by simpa using h
    rw [h2] at h9
    have H9 := Lib.hid h9
    clear h h9 ha hL hn h1 h2
    go_enter Try.func17, Try.ntmps17
    go_wp2_with fail
    refine (hr _).mono ?_; rintro e w1 ⟨rfl, x1⟩
    have x2 := (Ext.alloc _ _).trans x1
    clear hr x1
    go_wp2_with fail
    refine (H9.out _ x2).mono ?_; rintro e w2 ⟨rfl, x3⟩
    clear H9
    go_wp2
    go_ret
    exact ⟨rfl, x2.trans x3⟩
set_option maxRecDepth 100000 in
set_option maxHeartbeats 8000000 in
theorem sall_yes (a : Option Addr) (n cp : Nat) (L : List Byt) (c s l u f : Int) (w : World) (ha : HoldsL 3 byt w a L) (hL : L.length = n) (hcp : n ≤ cp) (hcm : cp ≤ maxLen) (hn : n ≤ 1000000) (hb : ∀ x ∈ L, 0 ≤ x.2.1 ∧ x.2.1 < 256) (h1 : rightB c s l u = true) (h2 : rightI L f = true) :
    Calls Try.prog 17 #[.slice a n cp, timesC c s l u, .int .i64 f] w fun e w' => ∃ z x Ls, e = .returned (.slice z (List.length Ls) x) ∧ Ext w w' ∧ SegsO w.heap.size w' z x Ls ∧ Ls.map Prod.snd = cutG s l true f zeroS L := by
  obtain ⟨iS, hiS, hzS0, hzS1, hzS2⟩ := info_parts Try.infoSegE
  have hr := fun w => kright0 c s l u w
  rw [h1] at hr
  have h9 := fun w' (x : Ext w w') => sright0 a n cp L f w' (ha.ext x) hL hn
  rw [h2] at h9
  have hc := (rightB_iff c s l u).1 h1
  have hf : (0 ≤ f ∧ f ≤ 1099511627776) ∧ risingI f L = true := by
    unfold rightI at h2
    simpa only [Bool.and_eq_true, decide_eq_true_eq] using h2
  have htm := rising_times hf.1.1 hf.2
  have hwh := whole_all s l f L
  obtain ⟨R, hR⟩ : ∃ R, R = cutG s l true f zeroS L := ⟨_, rfl⟩
  rw [← hR] at hwh ⊢
  have HR9 := Lib.hid h9; have HC := Lib.hid hc; have HF := Lib.hid hf; have HA := Lib.hid ha; have HL := Lib.hid hL; have HB := Lib.hid hb; have HN := Lib.hid hn; have HTm := Lib.hid htm; have HWh := Lib.hid hwh; have HCp := Lib.hid (And.intro hcp hcm)
  unfold timesC
  clear h1 h2 h9 hc hf hR ha hL hb hn htm hwh hcp hcm
  refine calls_of_marks Try.func17 rfl ?_
  simp only [Try.ntmps17, List.size_toArray, List.length_cons, List.length_nil, Nat.reduceAdd, Nat.reduceSub, Array.replicate_succ, Array.replicate_zero, List.push_toArray, List.append_toArray, List.nil_append, List.cons_append]
  go_wp2_with fail
  refine (hr _).mono ?_; rintro e w1 ⟨rfl, x1⟩
  have x2 := (Ext.alloc _ _).trans x1
  have T0 := x1.made 0 _ rfl; have T1 := x1.made 1 _ rfl; have T2 := x1.made 2 _ rfl; have T3 := x1.made 3 _ rfl
  clear hr x1
  go_wp2_with fail
  refine (HR9.out _ x2).mono ?_; rintro e w2 ⟨rfl, x3⟩
  have y2 := x2.trans x3
  have T0 := x3.cell (World.block_lt_of_cell? _ _ T0) T0
  have T1 := x3.cell (World.block_lt_of_cell? _ _ T1) T1
  have T2 := x3.cell (World.block_lt_of_cell? _ _ T2) T2
  have T3 := x3.cell (World.block_lt_of_cell? _ _ T3) T3
  have hwlt := World.block_lt_of_cell? _ _ T0
  clear HR9 x2 x3
  go_wp2_with fail
  refine (segs_any a n cp c s l u f _).mono ?_; rintro e w3 ⟨rfl, rfl⟩
  go_wp2_with fail
  obtain ⟨G, hG⟩ : ∃ G, G = w2.heap.size := ⟨_, rfl⟩
  obtain ⟨w4, hw4⟩ : ∃ w4, w4 = (((w2.alloc (.cells #[.slice none 0 0] 41)).alloc (.cells #[.slice a n cp] 28)).alloc (.cells #[.int .i64 c, .int .i64 s, .int .i64 l, .int .i64 u] 24)).alloc (.cells #[.int .i64 f] 3) := ⟨_, rfl⟩
  have x4 : Ext w2 w4 := by rw [hw4]; exact (((Ext.alloc _ _).alloc' _).alloc' _).alloc' _
  have y4 := y2.trans x4
  have hsz : w4.heap.size = G + 4 := by rw [hw4, hG]; simp
  have g0 : w4.heap[G]? = some (.cells #[.slice none 0 0] 41 (0, 0)) := by
    rw [hw4, hG, heap_alloc_old _ _ (by simp; omega), heap_alloc_old _ _ (by simp; omega), heap_alloc_old _ _ (by simp)]; exact heap_alloc_new _ _
  have g1 : w4.heap[G + 1]? = some (.cells #[.slice a n cp] 28 (0, 0)) := by
    rw [hw4, hG, heap_alloc_old _ _ (by simp), heap_alloc_old _ _ (by simp)]; exact heap_new_at _ _ (by simp)
  have g2 : w4.heap[G + 1 + 1]? = some (.cells #[.int .i64 c, .int .i64 s, .int .i64 l, .int .i64 u] 24 (0, 0)) := by
    rw [hw4, hG, heap_alloc_old _ _ (by simp)]; exact heap_new_at _ _ (by simp)
  have g3 : w4.heap[G + 1 + 1 + 1]? = some (.cells #[.int .i64 f] 3 (0, 0)) := by
    rw [hw4, hG]; exact heap_new_at _ _ (by simp)
  have hit : IterM w4 (G + 1) (G + 1 + 1) (G + 1 + 1 + 1) a n cp L s l f :=
    ⟨cell_of_heap (j := 0) g1 rfl, cell_of_heap (j := 1) g2 rfl, cell_of_heap (j := 2) g2 rfl, cell_of_heap (j := 0) g3 rfl, HA.out.ext y4⟩
  have hGw : w.heap.size ≤ G := by rw [hG]; exact y2.size
  have hoff : OffN (· = G) a L.length := HA.out.offN (fun i hi => by have hi : i = G := hi; omega) (Nat.le_refl _)
  rw [← hw4, ← hG]
  clear hw4 hG g1 g2 g3 T0 T1 T2 T3 hwlt x4
  refine wp_rangeFunc_on (gf := 36) (lb := #[.pointer (some ⟨G + 1, 0, none⟩), .pointer (some ⟨G + 1 + 1, 0, none⟩), .pointer (some ⟨G + 1 + 1 + 1, 0, none⟩)]) rfl (Go.Proofs.enters_of Try.func36 (by kernel_rfl) rfl)
    (fun x : SegP => .agg (segC x.1.1 x.1.2 x.2)) (TellS R) R.length (fun k W => ∃ v Ls', Ls'.length = k ∧ Ls'.map Prod.snd = R.take k ∧ AllM w4 W w4.heap.size G v Ls')
    ?ext ?turn
    ⟨.slice none 0 0, [], rfl, by simp, World.ownsRow_nil _ _ _ _, g0, (fun x hx => by simp at hx), Keep.refl _ _, rfl, by omega⟩
    ?seq (fun k x a' W2 => ∃ q, a' = { tmps := #[.slice a n cp, .agg #[.int .i64 c, .int .i64 s, .int .i64 l, .int .i64 u], .int .i64 f, undef, .pointer (some ⟨w.heap.size, 0, none⟩), undef, .slice none 0 0, .pointer (some ⟨G, 0, none⟩), .pointer (some ⟨q, 0, none⟩), .agg #[.int .i64 c, .int .i64 s, .int .i64 l, .int .i64 u], .bool true, .bool false, .bool false, .slice a n cp, .int .i64 f, .bool true, .bool false, .bool false, .slice a n cp, .agg #[.int .i64 c, .int .i64 s, .int .i64 l, .int .i64 u], .int .i64 f, .func (Fn.func 36) #[] #[.pointer (some ⟨G + 1, 0, none⟩), .pointer (some ⟨G + 1 + 1, 0, none⟩), .pointer (some ⟨G + 1 + 1 + 1, 0, none⟩)], .agg (segC x.1.1 x.1.2 x.2), undef, undef, undef, undef, undef], defers := [] } ∧ W2.heap[q]? = some (.cells (segC x.1.1 x.1.2 x.2) 44 (0, 0)))
    ?assign ?body ?done
  case seq =>
    intro l' J W x hJI hJx hY hJ0
    refine seg1_any l' (G + 1) (G + 1 + 1) (G + 1 + 1 + 1) a n cp L s l f R J W HL.out HCp.out.1 HCp.out.2 HN.out HB.out HTm.out.1 HF.out.1.1 HTm.out.2 (by have := HC.out; omega) (by have := HC.out; omega) HWh.out ?_ hJx hY hJ0
    intro k W hJ
    obtain ⟨v, Ls', -, -, hm⟩ := hJI k W hJ
    exact hit.keep hm.keep (by omega) (by omega) (by omega) hoff
  case ext =>
    rintro k W W' ⟨v, Ls', e1, e2, hm⟩ x
    exact ⟨v, Ls', e1, e2, hm.later x⟩
  case turn =>
    rintro k W l' o o' ⟨v, Ls', e1, e2, hm⟩ hl' ho hc'
    exact ⟨v, Ls', e1, e2, hm.turn o' hl' ho hc'⟩
  case assign =>
    rintro l' k ⟨⟨A, c'⟩, ⟨xn, xf, xt0, xt1, xk, xg, xb⟩⟩ W0 W1 K hI x01 hX hK
    unfold segC at hK ⊢
    simp only at hK ⊢
    gi_wp2_with fail
    exact hK _ _ (Ext.alloc _ _) ⟨_, rfl, heap_alloc_new _ _⟩
  case body =>
    rintro l' o' k ⟨⟨A, c'⟩, ⟨xn, xf, xt0, xt1, xk, xg, xb⟩⟩ a' W0 W1 W2 ⟨v, Ls', e1, e2, hm⟩ x01 ⟨hRk, hH, hle, hmax, hsm, hfew, hfr⟩ x12 ⟨q, rfl, hq⟩ hwl hlW ⟨r, hlr⟩ hkN
    have hm2 := hm.later (x01.trans x12)
    have hm3 := hm2.turn o' hwl hlr rfl
    have hql : q ≠ l' := fun e => by rw [e, hlr] at hq; cases hq
    have hAl : ∀ q' o'', A = some ⟨q', o'', none⟩ → q' ≠ l' := fun q' o'' h => by have := hfr _ h; simp at this; omega
    have hq3 : (W2.putObj l' o').heap[q]? = some (.cells (segC A c' ⟨xn, xf, xt0, xt1, xk, xg, xb⟩) 44 (0, 0)) := (World.putObj_heap_other hql).trans hq
    have hH3 : Holds .u8 (W2.putObj l' o') A xn xf := Holds.blocks (Holds.ext hH x12) fun q' o'' h _ _ => World.putObj_heap_other (hAl _ _ h)
    have hk3 : ∀ q', q' < W0.heap.size → q' ≠ l' → (W2.putObj l' o').heap[q']? = W0.heap[q']? := fun q' h1 h2 => (World.putObj_heap_other h2).trans (Below.block (x01.trans x12) q' h1)
    have hsz3 : W0.heap.size ≤ (W2.putObj l' o').heap.size := by rw [World.putObj_size]; exact (x01.trans x12).size
    obtain ⟨W3, hW3⟩ : ∃ W3, W3 = W2.putObj l' o' := ⟨_, rfl⟩
    rw [← hW3] at hm3 hq3 hH3 hk3 hsz3 ⊢
    have hlen : Ls'.length ≤ 1000001 := by
      have h1 := whole_len HWh.out
      rw [HL.out] at h1
      have := HN.out
      omega
    have hseg : segC A c' ⟨xn, xf, xt0, xt1, xk, xg, xb⟩ = #[.slice A xn c', .int .i64 xt0, .int .i64 xt1, .int .i64 xk, .bool xg, .bool xb] := rfl
    rw [hseg] at hq3
    rw [show segC ((A, c'), (⟨xn, xf, xt0, xt1, xk, xg, xb⟩ : Seg)).1.1 ((A, c'), (⟨xn, xf, xt0, xt1, xk, xg, xb⟩ : Seg)).1.2 ((A, c'), (⟨xn, xf, xt0, xt1, xk, xg, xb⟩ : Seg)).2 = #[.slice A xn c', .int .i64 xt0, .int .i64 xt1, .int .i64 xk, .bool xg, .bool xb] from rfl]
    have b0 := cell_of_heap (j := 0) hm3.box rfl
    have d0 := cell_of_heap (j := 0) hq3 rfl; have d1 := cell_of_heap (j := 1) hq3 rfl; have d2 := cell_of_heap (j := 2) hq3 rfl; have d3 := cell_of_heap (j := 3) hq3 rfl; have d4 := cell_of_heap (j := 4) hq3 rfl; have d5 := cell_of_heap (j := 5) hq3 rfl
    have hB3 : w4.heap.size ≤ W3.heap.size := hm3.keep.size
    have HM3 := Lib.hid hm3
    have HAll := Lib.hid (And.intro hm (And.intro hH3 (And.intro hle (And.intro hmax (And.intro hsm (And.intro hfew (And.intro hfr (And.intro hsz3 (And.intro hk3 (And.intro e1 (And.intro e2 (And.intro hRk (And.intro hwl hlW)))))))))))))
    clear hm hm2 hm3 hH hle hmax hsm hfew hfr hH3 hk3 hsz3 hAl hql hq hq3 hW3 x01 x12 e1 e2 hRk
    gi_wp2_with (first
      | (gi_at_builtin; refine wpListIn_append_lies _ rfl _ _ 41 rfl w4.heap.size 44 iS _ 6 56 Try.underlying41 hiS hzS0 hzS1 hzS2 rfl (by decide) _ _ _ rfl (own_ext HM3.out.own (Ext.alloc _ _)) ⟨W3.heap.size, 0, none⟩ 1 1 [.slice A xn c', .int .i64 xt0, .int .i64 xt1, .int .i64 xk, .bool xg, .bool xb] rfl rfl (World.news_of_block (heap_alloc_new W3 _)) (by simp [Value.oneCell']) (by decide) (by unfold maxLen; omega) (by omega) (by simp; omega) ?_
         intro gg cap w5 hown5 hgr5 hg5 hlt5
         have hb5 : w5.heap[G]? = some (.cells #[v] 41 (0, 0)) := (hgr5.block G (by have := heap_lt HM3.out.box; simp; omega) (fun e => HM3.out.nb e.symm)).trans ((heap_alloc_old _ _ (heap_lt HM3.out.box)).trans HM3.out.box)
         have k1 := cell_of_heap (j := 0) hb5 rfl
         have k2 := frozen_of_row _ _ 0 _ _ hb5
         have HO := Lib.hid (And.intro hown5 (And.intro hgr5 hg5))
         clear hown5 hgr5 hg5 hb5))
    obtain ⟨hm, hH3, hle, hmax, hsm, hfew, hfr, hsz3, hk3, e1, e2, hRk, hwl, hlW⟩ := HAll.out
    obtain ⟨hown5, hgr5, hg5⟩ := HO.out
    have hem := AllM.emit (x := ((A, c'), ⟨xn, xf, xt0, xt1, xk, xg, xb⟩)) hm (HM3.out.later (Ext.alloc _ _)) (hH3.ext (Ext.alloc _ _)) hle hmax hsm hfew hfr (by simp; omega) hown5 hgr5 hg5
    rw [hsz] at hem
    refine ⟨fun b o hb ho hc => ?_, _, _, ?_, ?_, hem⟩
    · rw [heap_setCell_other _ _ _ _ (by simp; omega)]
      exact (hgr5.block b (by have := heap_lt ho; simp; omega) (fun e => HM3.out.others ho hc e.symm)).trans ((heap_alloc_old _ _ (heap_lt ho)).trans ho)
    · simp [e1]
    · rw [List.map_append, e2, List.map_singleton, List.take_add_one, hRk]; rfl
  case done =>
    rintro D W hD ⟨v, Ls', e1, e2, hm⟩ hK
    have b0 := cell_of_heap (j := 0) hm.box rfl
    have hm2 := hm.turn (.deferred none) hD hK rfl
    obtain ⟨z, u', rfl, hs⟩ := hm2.done
    have x5 : Ext w (W.putObj D (.deferred none)) := Below.trans y4 (hm2.keep.below (B := w.heap.size) y4.size (fun i hi => by have hi : i = G := hi; omega))
    have HEnd := Lib.hid (And.intro x5 (hs.base (B' := w.heap.size) y4.size))
    have HE2 := Lib.hid e2
    clear hm hm2 hs x5 e2
    go_wp2_with fail
    refine ⟨by simp, .inl ⟨_, _, rfl, run_takeDeferred hK, ?_⟩⟩
    exact ⟨_, results_tmp rfl _ _ _, z, u', Ls', by first | rfl | (rw [e1]; rfl), HEnd.out.1, HEnd.out.2, by rw [HE2.out, List.take_length]⟩
/-- All segments. -/
theorem sall_any' (a : Option Addr) (n cp : Nat) (L : List Byt) (c s l u f : Int) (w : World) (ha : HoldsL 3 byt w a L) (hL : L.length = n) (hcp : n ≤ cp) (hcm : cp ≤ maxLen) (hn : n ≤ 1000000) (hb : ∀ x ∈ L, 0 ≤ x.2.1 ∧ x.2.1 < 256) :
    Calls Try.prog 17 #[.slice a n cp, timesC c s l u, .int .i64 f] w fun e w' => ∃ z x Ls, e = .returned (.slice z (List.length Ls) x) ∧ Ext w w' ∧ SegsO w.heap.size w' z x Ls ∧ Ls.map Prod.snd = allS c s l u f L := by
  by_cases h : rightB c s l u = true ∧ rightI L f = true
  · unfold allS; rw [if_pos h]
    exact sall_yes a n cp L c s l u f w ha hL hcp hcm hn hb h.1 h.2
  · unfold allS; rw [if_neg h]
    exact (sall_no a n cp L c s l u f w ha hL hn h).mono fun e w' ⟨he, x⟩ => ⟨none, 0, [], he, x, SegsO.nil _ _, rfl⟩
end Go.Proofs.Ytebhalehgpigoaa
namespace Go.Proofs.Ytebhalehgpigoaa
open Go.RowKit
theorem sright_any (a : Option Addr) (n c : Nat) (L : List (Int × Int × Bool)) (f : Int) (w : World) (ha : HoldsL 3 byt w a L) (hL : L.length = n) (hn : n ≤ 1000000) (_hw : WfB L) (_hf : (Lit.int .i64 f).wf = true) :
    Calls Try.prog 26 #[.slice a n c, .int .i64 f] w fun e w' => e = .returned (.bool (rightI L f)) ∧ Ext w w' := sright0 a n c L f w ha hL hn
end Go.Proofs.Ytebhalehgpigoaa
