/-
  LAYER 21: a list of objects that the call owns, as it grows ('OutI'); the stream of answers, plain.
-/
import Derived.Test.YthdkhdbabohohaaIdeC
namespace Go.Proofs.Ythdkhdbabohohaa
open Go.RowKit
set_option linter.unusedVariables false
set_option maxRecDepth 100000

/-- append of a list of structs onto a row of the call's own: all other blocks stay. -/
theorem wpList_append_listK {P : Program} {w : World} {α : Type} {sz : Nat} {mk : α → List Value} {ops : Array Oper} {rest : List Oper} {o : Oper} {a : Act} {Q : Exit → Act → World → Prop} (hgd : o.guard = none) (s x : Operand) (t : TypeId)
    (ho : o.op = .call { callee := .builtin .append, args := #[s, x], argTypes := #[t, t] })
    (base : Nat) (e : TypeId) (i : TypeInfo) (z : Value) (bytes : Nat) (ht : P.underlying t = some (.slice e)) (hi : P.info? e = some i) (hz : i.zero = some z)
    (hsize : i.size = sz) (hby : i.bytes = bytes) (hzs : z.cells.size = sz) (hsz : 0 < sz) (hmk : ∀ x, (mk x).length = sz) (h1 : ∀ x, ∀ u ∈ mk x, u.oneCell' = true)
    (v : Value) (n : Nat) (L : List α) (hs : a.eval s = v) (hown : w.ownsRow base e sz v n (L.flatMap mk))
    (A : Option Addr) (c : Nat) (M : List α) (m : Nat) (hMm : M.length = m) (hx : a.eval x = .slice A m c) (hh : HoldsL sz mk w A M) (hm : 0 < m)
    (h63 : n + m ≤ maxLen) (hbytes : (n + m) * bytes ≤ 140737488355328) (hbase : base ≤ w.heap.size)
    (h : ∀ g cap w', w'.ownsRow base e sz (.slice (some ⟨g, 0, none⟩) (n + m) cap) (n + m) ((L ++ M).flatMap mk) → w.grownBy w' v.ownBlock → (v.ownBlock = some g ∨ g = w.heap.size) → wpList P ops Q rest (a.put o.dst (.slice (some ⟨g, 0, none⟩) (n + m) cap)) w') : wpList P ops Q (o :: rest) a w := by
  subst hMm
  obtain ⟨b, off, rfl, hlt, hc⟩ := hh.resolve_left (by intro e; rw [e] at hm; exact absurd hm (by simp))
  refine wpList_append_lies w hgd s x t ho base e i z sz bytes ht hi hz hsize hby hzs hsz v n _ hs hown ⟨b, off, none⟩ M.length c (M.flatMap mk) hx (flat_length hmk M) (list_news hmk hsz hc) (list_one h1 M) hm h63 hbytes hbase w.heap.size rfl ?_
  intro g cap w' h2 h3 h4 _
  exact h _ _ _ (by rw [List.flatMap_append]; exact h2) h3 h4
theorem byte3 {x y z : Int} (h : (0 ≤ x ∧ x < 256) ∧ (0 ≤ y ∧ y < 256) ∧ (0 ≤ z ∧ z < 256)) : ∀ i, i < 3 → 0 ≤ ofL [x, y, z] i ∧ ofL [x, y, z] i < 256 := fun i hi => by
  rcases (show i = 0 ∨ i = 1 ∨ i = 2 by omega) with rfl | rfl | rfl
  · exact h.1
  · exact h.2.1
  · exact h.2.2
theorem ans_bd {L : List Ob} {m : Nat} {f : Nat → Int} (h : ansE L m f = 0) : ansK L m f ≤ 252 := by
  have hk : ansK L m f = 6 + lenO (ansP L f).L := by unfold ansK; rw [h]; rfl
  rw [hk]
  exact fitF_room 6 (ansL L f) (by omega)
theorem ansK_le (L : List Ob) (m : Nat) (f : Nat → Int) : ansK L m f ≤ 252 := by
  by_cases h : ansE L m f = 0
  · exact ans_bd h
  · unfold ansK; rw [if_neg h]; omega
theorem map_ofL {l : List Int} {k : Nat} (h : l.length = k) : (List.range k).map (ofL l) = l := by
  apply List.ext_getElem?
  intro i
  by_cases hi : i < l.length
  · rw [List.getElem?_map, List.getElem?_range (by omega), List.getElem?_eq_getElem hi]
    simp [ofL, List.getD_eq_getElem?_getD, List.getElem?_eq_getElem hi]
  · rw [List.getElem?_eq_none (by simp; omega), List.getElem?_eq_none (by omega)]
theorem ofL_mem {l : List Int} (h : ∀ x ∈ l, 0 ≤ x ∧ x < 256) : ∀ i, i < l.length → 0 ≤ ofL l i ∧ ofL l i < 256 := fun i hi => by
  have e : ofL l i = l[i] := by unfold ofL; simp [List.getD_eq_getElem?_getD, List.getElem?_eq_getElem hi]
  rw [e]; exact h _ (List.getElem_mem hi)
theorem say_bd {P : Prt} (h : rightP P = true) (hb : ∀ z ∈ P.L, ∀ i, i < z.n → 0 ≤ z.f i ∧ z.f i < 256) : ∀ i, i < 6 + lenO P.L → 0 ≤ ofL (sayP P) i ∧ ofL (sayP P) i < 256 := by
  obtain ⟨hd, ⟨q1, q2, q3, q4⟩, hnx, q5, q6⟩ := rightP_iff.1 h
  obtain ⟨q7, q8⟩ := nxB_bd hnx
  have hh : ∀ x ∈ headP P, 0 ≤ x ∧ x < 256 := by
    intro x hx
    unfold headP at hx
    simp only [List.mem_cons, List.not_mem_nil, or_false] at hx
    rcases hx with rfl | rfl | rfl | rfl | rfl | rfl
    · omega
    · omega
    · omega
    · split <;> omega
    · omega
    · omega
  have ho : ∀ x ∈ P.L.flatMap sayO, 0 ≤ x ∧ x < 256 := by
    intro x hx
    obtain ⟨z, hz, hx⟩ := List.mem_flatMap.1 hx
    obtain ⟨o1, o2, o3⟩ := okD_iff.1 (allD_iff.1 hd z hz)
    unfold sayO at hx
    rcases List.mem_cons.1 hx with rfl | hx
    · omega
    · rcases List.mem_cons.1 hx with rfl | hx
      · omega
      · obtain ⟨i, hi, rfl⟩ := List.mem_map.1 hx
        exact hb z hz i (List.mem_range.1 hi)
  intro i hi
  refine ofL_mem (fun x hx => ?_) i (by rw [sayP_len]; exact hi)
  unfold sayP at hx
  rcases List.mem_append.1 hx with hx | hx
  · exact hh x hx
  · exact ho x hx
theorem ans3 {L : List Ob} {k J : Int} (h : rightO L = true) (k1 : 1 ≤ k) (k4 : k ≤ 4) : ansE L 3 (ofL [14, k, J]) = if k = 4 ∧ (findO J L).isSome = false then 2 else 0 := by
  unfold ansE
  rw [h, if_neg (by decide), if_neg (by rintro (e | e); cases e; exact e rfl), if_neg (by
    rintro (e | e | e)
    · exact e rfl
    · have : k < 1 := e; omega
    · have : 4 < k := e; omega)]
  rfl
theorem ansP_right {L : List Ob} {k J : Int} (h : rightO L = true) (k1 : 1 ≤ k) (k4 : k ≤ 4) (hE : ansE L 3 (ofL [14, k, J]) = 0) : rightP (ansP L (ofL [14, k, J])) = true ∧ ∀ z ∈ (ansP L (ofL [14, k, J])).L, z ∈ L := by
  have hs : ofL [14, k, J] 1 = 4 → (findO (ofL [14, k, J] 2) L).isSome = true := fun e => by
    have e' : k = 4 := e
    rw [ans3 h k1 k4] at hE
    cases hf : (findO J L).isSome with
    | false => rw [if_pos ⟨e', hf⟩] at hE; cases hE
    | true => exact hf
  have hm := ansL_mem (L := L) (f := ofL [14, k, J]) hs
  exact ⟨partA_right h k1 k4 (fun z hz => right_okD h z (hm z hz)), fun z hz => hm z (List.mem_of_mem_take hz)⟩
/-- What was answered, read. -/
theorem at_drop : ∀ {F : List Ob} {p : Int} {j : Nat} {z : Ob}, risO p F = true → F[j]? = some z → atO z.id F = F.drop j
  | [], _, j, z, _, h => by simp at h
  | x :: F, p, 0, z, hr, h => by
    simp at h
    subst h
    show (if x.id = x.id then x :: F else atO x.id F) = _
    rw [if_pos rfl]; rfl
  | x :: F, p, j + 1, z, hr, h => by
    obtain ⟨_, _, h3⟩ := risO_cons.1 hr
    rw [List.getElem?_cons_succ] at h
    have hz := (risO_mem h3 z (List.mem_of_getElem? h)).1
    show (if x.id = z.id then x :: F else atO z.id F) = _
    rw [if_neg (by omega), at_drop h3 h]; rfl
theorem of_ris {L : List Ob} (h : rightO L = true) (s : Int) : risO (-1) (ofO s L) = true := risO_filter (right_ris h)
theorem from_at {L : List Ob} (h : rightO L = true) {s : Int} {j : Nat} {z : Ob} (hz : (ofO s L)[j]? = some z) : fromO s z.id L = (ofO s L).drop j := by
  have ha := at_drop (of_ris h s) hz
  have hne : (ofO s L).drop j ≠ [] := by
    have hj : j < (ofO s L).length := by
      rcases Nat.lt_or_ge j (ofO s L).length with hl | hl
      · exact hl
      · rw [List.getElem?_eq_none hl] at hz; cases hz
    intro e
    have := congrArg List.length e
    rw [List.length_drop] at this
    simp at this; omega
  unfold fromO
  rw [ha, if_neg hne]
theorem ris_lt : ∀ {F : List Ob} {p : Int} {i j : Nat} {x y : Ob}, risO p F = true → i < j → F[i]? = some x → F[j]? = some y → x.id < y.id
  | [], _, i, j, x, y, _, _, h, _ => by simp at h
  | u :: F, p, 0, j + 1, x, y, hr, _, hx, hy => by
    obtain ⟨_, _, h3⟩ := risO_cons.1 hr
    simp at hx
    subst hx
    rw [List.getElem?_cons_succ] at hy
    exact (risO_mem h3 y (List.mem_of_getElem? hy)).1
  | u :: F, p, i + 1, j + 1, x, y, hr, hij, hx, hy => by
    obtain ⟨_, _, h3⟩ := risO_cons.1 hr
    rw [List.getElem?_cons_succ] at hx hy
    exact ris_lt h3 (by omega) hx hy
theorem fit_pos {F : List Ob} {z : Ob} (h : F[0]? = some z) (hn : z.n ≤ 240) : 1 ≤ fitF 6 F := by
  match F, h with
  | x :: F, h =>
    simp at h
    subst h
    show 1 ≤ (if 6 + 2 + x.n ≤ 252 then fitF (6 + 2 + x.n) F + 1 else 0)
    rw [if_pos (by omega)]; omega
theorem of_zero {L : List Ob} (h : rightO L = true) {s : Int} (h1 : 1 ≤ s) (h3 : s ≤ 3) : ∃ x M, ofO s L = x :: M ∧ x.id = 0 := by
  obtain ⟨x, y, z, M, rfl, e0, e1, e2⟩ := right_fir h
  have key : ofI s x.id = true := by
    rw [e0]; unfold ofI
    rcases (show s = 1 ∨ s = 2 ∨ s = 3 by omega) with rfl | rfl | rfl <;> decide
  refine ⟨x, ofO s (y :: z :: M), ?_, e0⟩
  unfold ofO
  rw [List.filter_cons, if_pos key]
/-- What an answer of the stream tells. -/
theorem str_part {L : List Ob} (h : rightO L = true) {s : Int} (s1 : 1 ≤ s) (s3 : s ≤ 3) {j : Nat} {z : Ob} (hz : (ofO s L)[j]? = some z) :
    ansE L 3 (ofL [14, s, z.id]) = 0 ∧ ansP L (ofL [14, s, z.id]) = partA L ((ofO s L).drop j) s := by
  refine ⟨by rw [ans3 h s1 (by omega), if_neg (fun e => by have := e.1; omega)], ?_⟩
  have hl : ansL L (ofL [14, s, z.id]) = (ofO s L).drop j := by
    unfold ansL
    rw [if_neg (show ¬ ofL [14, s, z.id] 1 = 4 by show ¬ s = 4; omega)]
    exact from_at h hz
  unfold ansP
  rw [hl]; rfl
/-- The objects so far: a row of the call's own, each with its bytes off it. -/
structure OutI (wr : World) (B : Nat) (v : Value) (M : List Ob) : Prop where
  own : wr.ownsRow B 49 2 v M.length (M.flatMap obL)
  each : ∀ z ∈ M, ObjAt wr z
  off : ∀ z ∈ M, z.n ≠ 0 → ∀ p, z.a = some p → v.ownBlock ≠ some p.block
theorem OutI.later {wr w' : World} {B : Nat} {v : Value} {M : List Ob} (h : OutI wr B v M) (x : Ext wr w') : OutI w' B v M := ⟨own_ext h.own x, fun z hz => (h.each z hz).ext x, h.off⟩
theorem OutI.push {wr w' : World} {B : Nat} {v : Value} {M N : List Ob} {g cap : Nat} (h : OutI wr B v M) (hN : ∀ z ∈ N, ObjAt wr z) (ho : ∀ z ∈ N, z.n ≠ 0 → ∀ p, z.a = some p → v.ownBlock ≠ some p.block)
    (hown : w'.ownsRow B 49 2 (.slice (some ⟨g, 0, none⟩) (M.length + N.length) cap) (M.length + N.length) ((M ++ N).flatMap obL)) (hgr : wr.grownBy w' v.ownBlock) (hg : v.ownBlock = some g ∨ g = wr.heap.size) :
    OutI w' B (.slice (some ⟨g, 0, none⟩) (M.length + N.length) cap) (M ++ N) := by
  have key : ∀ z, ObjAt wr z → (z.n ≠ 0 → ∀ p, z.a = some p → v.ownBlock ≠ some p.block) → ObjAt w' z ∧ (z.n ≠ 0 → ∀ p, z.a = some p → (Value.slice (some ⟨g, 0, none⟩) (M.length + N.length) cap).ownBlock ≠ some p.block) := fun z hz hf =>
    ⟨⟨holds_blocks hz.h hgr.size (fun p hp hn => hgr.block _ (holds_lt hz.h hn hp) (fun e => hf hn p hp e.symm)), hz.l, hz.m, hz.s, hz.b, hz.wi⟩, fun hn p hp e => by
      have e' : g = p.block := by simpa [Value.ownBlock] using e
      rcases hg with q | q
      · rw [e'] at q; exact hf hn p hp q
      · have := holds_lt hz.h hn hp; omega⟩
  refine ⟨by simpa using hown, fun z hz => ?_, fun z hz => ?_⟩
  · rcases List.mem_append.1 hz with hz | hz
    · exact (key z (h.each z hz) (h.off z hz)).1
    · exact (key z (hN z hz) (ho z hz)).1
  · rcases List.mem_append.1 hz with hz | hz
    · exact (key z (h.each z hz) (h.off z hz)).2
    · exact (key z (hN z hz) (ho z hz)).2
end Go.Proofs.Ythdkhdbabohohaa
