/-
  THE LAWS OF LAYER 10: FramerAll: what was told so far, as a list that the call owns ('OutO'), and the framer ('AllS').
-/
import Derived.Test.YtlemnjphjmnmbaaFrR
import Derived.Test.YtlemnjphjmnmbaaSplitC
namespace Go.Proofs.Ytlemnjphjmnmbaa
open Go.RowKit
set_option linter.unusedVariables false

/-- One more element, out of a block that was made just ahead; but for the row's own block all is as it was. -/
theorem wpList_append_elK {P : Program} {w : World} {α : Type} {sz : Nat} {mk : α → List Value} {ops : Array Oper} {rest : List Oper} {o : Oper} {a : Act} {Q : Exit → Act → World → Prop} (hgd : o.guard = none) (s x : Operand) (t : TypeId)
    (ho : o.op = .call { callee := .builtin .append, args := #[s, x], argTypes := #[t, t] })
    (base : Nat) (e : TypeId) (i : TypeInfo) (z : Value) (bytes : Nat) (ht : P.underlying t = some (.slice e)) (hi : P.info? e = some i) (hz : i.zero = some z)
    (hsize : i.size = sz) (hby : i.bytes = bytes) (hzs : z.cells.size = sz) (hsz : 0 < sz)
    (v : Value) (n : Nat) (L : List α) (hs : a.eval s = v) (hown : w.ownsRow base e sz v n (L.flatMap mk))
    (b : Nat) (cs : Array Value) (t' : TypeId) (fr : Nat × Nat) (y : α) (hx : a.eval x = .slice (some ⟨b, 0, none⟩) 1 1) (hb : w.heap[b]? = some (.cells cs t' fr)) (hcs : cs.toList = mk y) (hl : (mk y).length = sz) (h1 : ∀ u ∈ mk y, u.oneCell' = true)
    (h63 : n + 1 ≤ maxLen) (hbytes : (n + 1) * bytes ≤ 140737488355328) (hbase : base ≤ w.heap.size)
    (h : ∀ g cap w', w'.ownsRow base e sz (.slice (some ⟨g, 0, none⟩) (n + 1) cap) (n + 1) ((L ++ [y]).flatMap mk) → Keep (fun i => v.ownBlock = some i) w w' → (v.ownBlock = some g ∨ g = w.heap.size) → wpList P ops Q rest (a.put o.dst (.slice (some ⟨g, 0, none⟩) (n + 1) cap)) w') : wpList P ops Q (o :: rest) a w := by
  refine wpList_append_lies w hgd s x t ho base e i z sz bytes ht hi hz hsize hby hzs hsz v n (L.flatMap mk) hs hown ⟨b, 0, none⟩ 1 1 (mk y) hx (by omega) ?_ h1 (by omega) h63 hbytes hbase w.heap.size rfl ?_
  · intro j u hu
    have e1 : (⟨b, 0, none⟩ : Addr).add j = ⟨b, j, none⟩ := by unfold Addr.add; split <;> simp_all
    rw [e1, cell_of_row w b j cs t' fr hb, ← Array.getElem?_toList, hcs]; exact hu
  · intro g cap w' h2 h3 h4 _
    exact h _ _ _ (by simpa using h2) ⟨h3.os, h3.tape, h3.output, h3.size, fun k hk hn => h3.block k hk (fun e => hn e.symm)⟩ h4
/-- What a framer keeps of its making. -/
def Fr.base (x : Fr) : Int × Int × Int × Int × Int := (x.c, x.s, x.l, x.u, x.since)
theorem base_idle (x : Fr) (t : Int) : (idleF x t).base = x.base := by
  unfold idleF
  split
  · rfl
  · split <;> rfl
theorem base_byte (x : Fr) (b : Byt) : (byteF x b).base = x.base := by
  unfold byteF
  split
  · rfl
  · exact base_idle x b.1
theorem rising_at : ∀ {L : List Byt} {f : Int} {i : Nat} {b : Byt}, risingI f L = true → L[i]? = some b → lastT f (L.take i) ≤ b.1 ∧ b.1 ≤ 1099511627776
  | [], _, i, b, _, h => by simp at h
  | x :: L, f, 0, b, hr, h => by
    obtain ⟨h1, h2, h3⟩ := rising_drop hr
    obtain rfl : x = b := by simpa using h
    exact ⟨h1, h2⟩
  | x :: L, f, i + 1, b, hr, h => by
    obtain ⟨h1, h2, h3⟩ := rising_drop hr
    rw [List.take_succ_cons, lastT_cons]
    exact rising_at h3 (by simpa using h)
/-- What was told so far, a list that the call owns: its segments' bytes are off what may still change. -/
structure OutO (w0 w : World) (F : Nat → Prop) (z : Option Addr) (u : Nat) (Ls : List SegP) : Prop where
  own : w.ownsRow w0.heap.size 48 6 (.slice z Ls.length u) Ls.length (Ls.flatMap segL)
  seg : ∀ x ∈ Ls, SegT w F x.1.1 x.1.2 x.2
  lt : ∀ x ∈ Ls, ∀ q, x.1.1 = some q → q.block < w.heap.size
  off : ∀ g, (Value.slice z Ls.length u).ownBlock = some g → ¬ F g
  apart : ∀ x ∈ Ls, ∀ q, x.1.1 = some q → (Value.slice z Ls.length u).ownBlock ≠ some q.block
theorem OutO.nil (w0 w : World) (F : Nat → Prop) : OutO w0 w F none 0 [] := ⟨World.ownsRow_nil _ _ _ _, fun x hx => (by cases hx), fun x hx => (by cases hx), fun g hg => (by cases hg), fun x hx => (by cases hx)⟩
theorem OutO.turn {w0 w w' : World} {F G : Nat → Prop} {z : Option Addr} {u : Nat} {Ls : List SegP} (h : OutO w0 w F z u Ls) (k : Keep F w w') (g : Grows F G w) : OutO w0 w' G z u Ls := by
  refine ⟨own_same h.own fun q hq => k.block q (h.own.lt q hq).2 (h.off q hq), fun x hx => ?_, fun x hx q hq => Nat.lt_of_lt_of_le (h.lt x hx q hq) k.size, fun q hq hg => (g q hg).elim (h.off q hq) (fun e => by have := (h.own.lt q hq).2; omega), h.apart⟩
  have s := h.seg x hx
  exact ⟨s.holds.keep k s.off, s.le, s.max, s.small, s.few, s.off.grows g fun q hq => h.lt x hx q hq⟩
theorem OutO.ext {w0 w w' : World} {F : Nat → Prop} {z : Option Addr} {u : Nat} {Ls : List SegP} (h : OutO w0 w F z u Ls) (x : Ext w w') : OutO w0 w' F z u Ls := h.turn (.of_ext x) (Grows.refl _ _)
theorem OutO.snoc {w0 w w2 w3 : World} {F : Nat → Prop} {z : Option Addr} {u : Nat} {Ls : List SegP} {A : Option Addr} {cA gg cap : Nat} {sg : Seg} (h : OutO w0 w F z u Ls) (x2 : Ext w w2) (s : SegT w F A cA sg) (hA : ∀ q, A = some q → q.block < w.heap.size ∧ (Value.slice z Ls.length u).ownBlock ≠ some q.block) (hF : ∀ i, F i → i < w.heap.size)
    (ka : Keep (fun i => (Value.slice z Ls.length u).ownBlock = some i) w2 w3) (hg : (Value.slice z Ls.length u).ownBlock = some gg ∨ gg = w2.heap.size)
    (own : w3.ownsRow w0.heap.size 48 6 (.slice (some ⟨gg, 0, none⟩) (Ls.length + 1) cap) (Ls.length + 1) ((Ls ++ [((A, cA), sg)]).flatMap segL)) : OutO w0 w3 F (some ⟨gg, 0, none⟩) cap (Ls ++ [((A, cA), sg)]) := by
  have hs := x2.size
  have hlen : (Ls ++ [((A, cA), sg)]).length = Ls.length + 1 := by simp
  have hob : (Value.slice (some ⟨gg, 0, none⟩) (Ls ++ [((A, cA), sg)]).length cap).ownBlock = some gg := rfl
  have hall : ∀ x ∈ Ls ++ [((A, cA), sg)], SegT w F x.1.1 x.1.2 x.2 ∧ ∀ q, x.1.1 = some q → q.block < w.heap.size ∧ (Value.slice z Ls.length u).ownBlock ≠ some q.block := by
    intro x hx
    rcases List.mem_append.1 hx with e | e
    · exact ⟨h.seg x e, fun q hq => ⟨h.lt x e q hq, h.apart x e q hq⟩⟩
    · obtain rfl := List.mem_singleton.1 e
      exact ⟨s, hA⟩
  refine ⟨by rw [hlen]; exact own, fun x hx => ?_, fun x hx q hq => Nat.lt_of_lt_of_le ((hall x hx).2 q hq).1 (Nat.le_trans hs ka.size), fun g hg' hf => ?_, fun x hx q hq => ?_⟩
  · obtain ⟨s, hq⟩ := hall x hx
    exact ⟨(s.holds.ext x2).keep ka fun q e hb => (hq q e).2 hb, s.le, s.max, s.small, s.few, s.off⟩
  · rw [hob] at hg'
    cases hg'
    rcases hg with e | e
    · exact h.off gg e hf
    · have := hF gg hf; omega
  · rw [hob]
    intro e
    have e' : gg = q.block := by simpa using e
    obtain ⟨h1, h2⟩ := (hall x hx).2 q hq
    rcases hg with e2 | e2
    · exact h2 (by rw [e2, e'])
    · omega
theorem OutO.segs {w0 w : World} {F : Nat → Prop} {z : Option Addr} {u : Nat} {Ls : List SegP} (h : OutO w0 w F z u Ls) : Segs w z Ls := by
  obtain ⟨a, cap, hv, _, _, hh, _⟩ := HoldsL.of_own segL_length h.own rfl
  injection hv with e1 e2 e3
  subst e1
  exact ⟨hh, fun x hx => ⟨(h.seg x hx).holds, (h.seg x hx).le, (h.seg x hx).max, (h.seg x hx).small⟩⟩
/-- The framer, all bytes so far (the first i), and what was told. -/
structure AllS (w0 w : World) (p : Nat) (F : Nat → Prop) (x : Fr) (z : Option Addr) (u : Nat) (Ls : List SegP) (L : List Byt) (i : Nat) : Prop where
  fr : FR w p F x
  ref : RefR x (L.take i) (Ls.map Prod.snd)
  out : OutO w0 w F z u Ls
  ext : Ext w0 w
  above : Above w0 F
  cnt : x.sg.count ≤ i
theorem AllS.later {w0 w w' : World} {p : Nat} {F : Nat → Prop} {x : Fr} {z : Option Addr} {u : Nat} {Ls : List SegP} {L : List Byt} {i : Nat} (h : AllS w0 w p F x z u Ls L i) (y : Ext w w') : AllS w0 w' p F x z u Ls L i :=
  ⟨h.fr.ext y, h.ref, h.out.ext y, h.ext.trans y, h.above, h.cnt⟩
theorem AllS.step {w0 w w' : World} {p : Nat} {F G : Nat → Prop} {x x' : Fr} {z : Option Addr} {u : Nat} {Ls : List SegP} {L : List Byt} {i j : Nat} (h : AllS w0 w p F x z u Ls L i) (k : Keep F w w') (r : FR w' p G x') (g : Grows F G w) (ref : RefR x' (L.take j) (Ls.map Prod.snd)) (cnt : x'.sg.count ≤ j) : AllS w0 w' p G x' z u Ls L j :=
  ⟨r, ref, h.out.turn k g, Ext.keep h.ext k h.above, h.above.grows g h.ext, cnt⟩
/-- What an append makes of it. -/
def Told (w0 w : World) (p : Nat) (G : Nat → Prop) (x : Fr) (z : Option Addr) (u : Nat) (Ls : List SegP) (L : List Byt) (i : Nat) (A : Option Addr) (cA : Nat) (sg : Seg) : Prop :=
  w.ownsRow w0.heap.size 48 6 (.slice z Ls.length u) Ls.length (Ls.flatMap segL) ∧ w0.heap.size ≤ w.heap.size ∧
  ∀ w2 w3 gg cap, Ext w w2 → Keep (fun i => (Value.slice z Ls.length u).ownBlock = some i) w2 w3 → ((Value.slice z Ls.length u).ownBlock = some gg ∨ gg = w2.heap.size) →
    w3.ownsRow w0.heap.size 48 6 (.slice (some ⟨gg, 0, none⟩) (Ls.length + 1) cap) (Ls.length + 1) ((Ls ++ [((A, cA), sg)]).flatMap segL) → AllS w0 w3 p G x (some ⟨gg, 0, none⟩) cap (Ls ++ [((A, cA), sg)]) L i
theorem AllS.told {w0 w w' : World} {p : Nat} {F G : Nat → Prop} {x x' : Fr} {z : Option Addr} {u : Nat} {Ls : List SegP} {L : List Byt} {i j : Nat} {A : Option Addr} {cA : Nat} {sg : Seg} (h : AllS w0 w p F x z u Ls L i) (k : Keep F w w') (r : FR w' p G x') (g : Grows F G w) (s : SegT w' G A cA sg) (hA : ∀ q, A = some q → F q.block)
    (ref : RefR x' (L.take j) (Ls.map Prod.snd ++ [sg])) (cnt : x'.sg.count ≤ j) : Told w0 w' p G x' z u Ls L j A cA sg := by
  have ho := h.out.turn k g
  have hx := Ext.keep h.ext k h.above
  refine ⟨ho.own, hx.size, fun w2 w3 gg cap x2 ka hg own => ?_⟩
  have hs := x2.size
  have hout := ho.snoc x2 s (fun q hq => ⟨Nat.lt_of_lt_of_le (h.fr.lt _ (hA q hq)) k.size, fun e => h.out.off _ e (hA q hq)⟩) r.lt ka hg own
  have hoff : ∀ i, G i → ¬ (Value.slice z Ls.length u).ownBlock = some i := fun i hi e => ho.off i e hi
  refine ⟨(r.ext x2).keep ka hoff, by rw [List.map_append]; exact ref, hout, Ext.keep (hx.trans x2) ka fun i hi => (ho.own.lt i hi).1, h.above.grows g h.ext, cnt⟩
theorem AllS.idle_no {w0 w : World} {p : Nat} {F : Nat → Prop} {x : Fr} {z : Option Addr} {u : Nat} {Ls : List SegP} {L : List Byt} {i : Nat} (h : AllS w0 w p F x z u Ls L i) {t : Int} (he : errB x t = false) (ho : overB x t = false) :
    Calls Try.prog 14 #[.pointer (some ⟨p, 0, none⟩), .int .i64 t] w fun e w' => ∃ A cA G, e = .returned (.tuple #[.agg #[.slice A 0 cA, .int .i64 0, .int .i64 0, .int .i64 0, .bool false, .bool false], .bool false, .int .i64 0]) ∧ AllS w0 w' p G (idleF x t) z u Ls L i := by
  refine (fidle_any p F x t w h.fr).mono ?_
  rintro e w' ⟨A, cA, G, rfl, k, r, g, s, hA⟩
  have hr := h.ref.idle he
  rw [if_neg (by simp [ho])] at hr
  have e1 : idleS x t = zeroS := by unfold idleS; rw [he, ho]; rfl
  have e2 : idleB x t = false := by unfold idleB; rw [he, ho]; rfl
  have e3 : idleN x t = 0 := by unfold idleN; rw [he]; rfl
  exact ⟨A, cA, G, by rw [e1, e2, e3]; rfl, h.step k r g hr (Int.le_trans (idle_count h.fr.ok t) h.cnt)⟩
theorem AllS.idle_yes {w0 w : World} {p : Nat} {F : Nat → Prop} {x : Fr} {z : Option Addr} {u : Nat} {Ls : List SegP} {L : List Byt} {i : Nat} (h : AllS w0 w p F x z u Ls L i) {t : Int} (he : errB x t = false) (ho : overB x t = true) :
    Calls Try.prog 14 #[.pointer (some ⟨p, 0, none⟩), .int .i64 t] w fun e w' => ∃ A cA G, e = .returned (.tuple #[.agg (segC A cA x.sg), .bool true, .int .i64 0]) ∧ Told w0 w' p G (idleF x t) z u Ls L i A cA x.sg := by
  refine (fidle_any p F x t w h.fr).mono ?_
  rintro e w' ⟨A, cA, G, rfl, k, r, g, s, hA⟩
  have hr := h.ref.idle he
  rw [if_pos ho] at hr
  have e1 : idleS x t = x.sg := by unfold idleS; rw [he, ho]; rfl
  have e2 : idleB x t = true := by unfold idleB; rw [he, ho]; rfl
  have e3 : idleN x t = 0 := by unfold idleN; rw [he]; rfl
  rw [e1] at s
  exact ⟨A, cA, G, by rw [e1, e2, e3], h.told k r g s hA hr (Int.le_trans (idle_count h.fr.ok t) h.cnt)⟩
theorem take_snoc {L : List Byt} {i : Nat} {b : Byt} (h : L[i]? = some b) : L.take (i + 1) = L.take i ++ [b] := by rw [List.take_add_one, h]; rfl
theorem AllS.byte_no {w0 w : World} {p : Nat} {F : Nat → Prop} {x : Fr} {z : Option Addr} {u : Nat} {Ls : List SegP} {L : List Byt} {i : Nat} (h : AllS w0 w p F x z u Ls L i) {b : Byt} (hb : L[i]? = some b) (hi : i ≤ 999999) (h0 : 0 ≤ b.2.1) (h1 : b.2.1 < 256) (he : errB x b.1 = false) (ho : overB x b.1 = false) :
    Calls Try.prog 15 #[.pointer (some ⟨p, 0, none⟩), .agg (byt b).toArray] w fun e w' => ∃ A cA G, e = .returned (.tuple #[.agg #[.slice A 0 cA, .int .i64 0, .int .i64 0, .int .i64 0, .bool false, .bool false], .bool false, .int .i64 0]) ∧ AllS w0 w' p G (byteF x b) z u Ls L (i + 1) := by
  refine (fbyte_any p F x b w h.fr (by have := h.cnt; omega) h0 h1).mono ?_
  rintro e w' ⟨A, cA, G, rfl, k, r, g, s, hA⟩
  have hr := h.ref.byte h.fr.ok he
  rw [if_neg (by simp [ho]), ← take_snoc hb] at hr
  have e1 : idleS x b.1 = zeroS := by unfold idleS; rw [he, ho]; rfl
  have e2 : idleB x b.1 = false := by unfold idleB; rw [he, ho]; rfl
  have e3 : idleN x b.1 = 0 := by unfold idleN; rw [he]; rfl
  exact ⟨A, cA, G, by rw [e1, e2, e3]; rfl, h.step k r g hr (by have := byte_count h.fr.ok b; have := h.cnt; omega)⟩
theorem AllS.byte_yes {w0 w : World} {p : Nat} {F : Nat → Prop} {x : Fr} {z : Option Addr} {u : Nat} {Ls : List SegP} {L : List Byt} {i : Nat} (h : AllS w0 w p F x z u Ls L i) {b : Byt} (hb : L[i]? = some b) (hi : i ≤ 999999) (h0 : 0 ≤ b.2.1) (h1 : b.2.1 < 256) (he : errB x b.1 = false) (ho : overB x b.1 = true) :
    Calls Try.prog 15 #[.pointer (some ⟨p, 0, none⟩), .agg (byt b).toArray] w fun e w' => ∃ A cA G, e = .returned (.tuple #[.agg (segC A cA x.sg), .bool true, .int .i64 0]) ∧ FR w' p G (byteF x b) ∧ Told w0 w' p G (byteF x b) z u Ls L (i + 1) A cA x.sg := by
  refine (fbyte_any p F x b w h.fr (by have := h.cnt; omega) h0 h1).mono ?_
  rintro e w' ⟨A, cA, G, rfl, k, r, g, s, hA⟩
  have hr := h.ref.byte h.fr.ok he
  rw [if_pos ho, ← take_snoc hb] at hr
  have e1 : idleS x b.1 = x.sg := by unfold idleS; rw [he, ho]; rfl
  have e2 : idleB x b.1 = true := by unfold idleB; rw [he, ho]; rfl
  have e3 : idleN x b.1 = 0 := by unfold idleN; rw [he]; rfl
  rw [e1] at s
  exact ⟨A, cA, G, by rw [e1, e2, e3], r, h.told k r g s hA hr (by have := byte_count h.fr.ok b; have := h.cnt; omega)⟩
/-- Behind a byte a segment is open, and time has come to it. -/
theorem byte_now {x : Fr} (hx : FrOk x) {b : Byt} (he : errB x b.1 = false) : (byteF x b).now = b.1 ∧ 0 < (byteF x b).sg.count ∧ (byteF x b).sg.last = b.1 := by
  unfold byteF
  rw [if_neg (by simp [he])]
  refine ⟨(idle_now he).1, ?_, rfl⟩
  rw [takeF_count b (idle_ok hx _)]
  have := (idle_ok hx b.1).count
  omega
theorem err_no' {x : Fr} {t : Int} (h1 : x.now ≤ t) (h2 : t ≤ 1099511627776) : errB x t = false := by unfold errB; simp; omega
/-- How many are held, of an open one. -/
theorem FrOk.held {x : Fr} (h : FrOk x) (k : 0 < x.sg.count) : 1 ≤ x.sg.n ∧ x.sg.n ≤ 256 := by
  have h1 := h.n
  have h2 := h.few
  split at h1 <;> omega
/-- All were told. -/
theorem RefR.all {x : Fr} {L : List Byt} {T : List Seg} (h : RefR x L T) (hx : FrOk x) (hc : x.sg.count = 0) : T = allS x.c x.s x.l x.u x.since L := by
  rcases h.told with ⟨-, e, -⟩ | ⟨e0, -, -, -⟩
  · unfold allS
    rw [if_pos ⟨hx.right, h.right⟩, ← e]; rfl
  · omega
/-- When it is due: no time is past, and at it the segment is over, but at the end of time. -/
theorem due_over {x : Fr} (hx : FrOk x) (hl : x.now = x.sg.last) (hk : 0 < x.sg.count) : errB x (addI x.sg.last x.l) = false ∧ (overB x (addI x.sg.last x.l) = true ∨ ¬ addI x.sg.last x.l < 1099511627776) := by
  have h1 := hx.long
  have h2 := hx.now1
  have h3 := hx.since0
  have h4 := hx.since1
  obtain ⟨v, hv⟩ : ∃ v, v = addI x.sg.last x.l := ⟨_, rfl⟩
  have hv' : x.sg.last ≤ v ∧ v ≤ 1099511627776 ∧ (v = x.sg.last + x.l ∨ v = 1099511627776) := by
    rw [addI_min, clampI_in (by omega) (by omega), clampI_in (by omega) (by omega)] at hv
    omega
  rw [← hv]
  refine ⟨err_no' (by omega) hv'.2.1, ?_⟩
  rcases hv'.2.2 with e | e
  · left; unfold overB; simp; omega
  · right; omega
end Go.Proofs.Ytlemnjphjmnmbaa
