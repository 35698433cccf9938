/-
  MAPS FROM INTEGERS TO INTEGERS, AS FUNCTIONS: 'Tab w M n g': block M of w is a map of n entries: it holds v at q just if g q = some v.
-/
import Derived.MapKept
import Derived.WideKeyEntry
import Derived.ChangeMaps4
import Derived.Test.YtgjfomnipjljoaaKeep
namespace Go.Proofs.Ytgjfomnipjljoaa
open Go.RowKit Go.MapKept
open Go.ChangeMaps (setBlock)

theorem eraseIdx_perm {α : Type} : ∀ (l : List α) (j : Nat) (h : j < l.length), (l[j] :: l.eraseIdx j).Perm l
  | x :: l, 0, _ => .refl _
  | x :: l, j + 1, h => by
    rw [List.eraseIdx_cons_succ, List.getElem_cons_succ]
    exact (List.Perm.swap _ _ _).trans ((eraseIdx_perm l j (by simpa using h)).cons x)
structure TabE (es : Array MapEntry) (clock n : Nat) (g : Int → Option Int) : Prop where
  st : Stamped es clock
  size : es.size = n
  each : ∀ x ∈ es.toList, ∃ q v, x.key = .int .i64 q ∧ x.val = .int .i64 v ∧ g q = some v
  all : ∀ q v, g q = some v → ∃ x ∈ es.toList, x.key = .int .i64 q ∧ x.val = .int .i64 v
def Tab (w : World) (M n : Nat) (g : Int → Option Int) : Prop := ∃ es clock, w.heap[M]? = some (.map es clock) ∧ TabE es clock n g
/-- The function with one key more, or with another value there. -/
def updO (g : Int → Option Int) (q : Int) (v : Option Int) : Int → Option Int := fun x => if x = q then v else g x
theorem updO_same (g : Int → Option Int) (q : Int) (v : Option Int) : updO g q v q = v := if_pos rfl
theorem updO_other (g : Int → Option Int) {q x : Int} (v : Option Int) (h : x ≠ q) : updO g q v x = g x := if_neg h

theorem Tab.lt {w : World} {M n : Nat} {g : Int → Option Int} (h : Tab w M n g) : M < w.heap.size := by
  obtain ⟨es, clock, hb, _⟩ := h
  exact (Array.getElem?_eq_some_iff.1 hb).1
theorem Tab.of_block {w w' : World} {M n : Nat} {g : Int → Option Int} (h : Tab w M n g) (e : w'.heap[M]? = w.heap[M]?) : Tab w' M n g := by
  obtain ⟨es, clock, hb, t⟩ := h
  exact ⟨es, clock, e.trans hb, t⟩
theorem Tab.congr {w : World} {M n : Nat} {g g' : Int → Option Int} (h : Tab w M n g) (e : ∀ q, g q = g' q) : Tab w M n g' := by
  rw [← funext e]; exact h
theorem Tab.made (w : World) : Tab (w.alloc (.map #[] 0)) w.heap.size 0 (fun _ => none) :=
  ⟨#[], 0, (MapKept.heap_alloc w _).1, ⟨stamped_empty 0, rfl, by simp, fun q v h => by cases h⟩⟩

theorem TabE.isKey {es : Array MapEntry} {clock n : Nat} {g : Int → Option Int} (t : TabE es clock n g) : ∀ x ∈ es.toList, IsKey (.int .i64) x.key := fun x hx => by
  obtain ⟨q, v, e, _⟩ := t.each x hx
  rw [e]; rfl
theorem set_same {w : World} {M : Nat} {o : Obj} (h : w.heap[M]? = some o) : setBlock w M o = w := by
  have e : w.heap.setIfInBounds M o = w.heap := by
    apply Array.ext_getElem?
    intro i
    by_cases hi : i = M
    · subst hi
      have hlt := (Array.getElem?_eq_some_iff.1 h).1
      rw [h]; simp [hlt]
    · rw [Array.getElem?_setIfInBounds_ne (Ne.symm hi)]
  unfold setBlock; rw [e]
theorem TabE.key_eq {es : Array MapEntry} {clock n : Nat} {g : Int → Option Int} (t : TabE es clock n g) {x y : MapEntry} (hx : x ∈ es.toList) (hy : y ∈ es.toList) (h : x.key = y.key) : x = y := by
  obtain ⟨i, hi, rfl⟩ := List.getElem_of_mem hx
  obtain ⟨j, hj, rfl⟩ := List.getElem_of_mem hy
  have hn := t.st.2.2
  rw [List.nodup_iff_pairwise_ne, List.pairwise_iff_getElem] at hn
  rcases Nat.lt_trichotomy i j with h1 | h1 | h1
  · exact absurd (by rw [List.getElem_map, List.getElem_map]; exact h) (hn i j (by simpa using hi) (by simpa using hj) h1)
  · subst h1; rfl
  · exact absurd (by rw [List.getElem_map, List.getElem_map]; exact h.symm) (hn j i (by simpa using hj) (by simpa using hi) h1)
/-- Where a key stands, if it does. -/
theorem TabE.find {es : Array MapEntry} {clock n : Nat} {g : Int → Option Int} (t : TabE es clock n g) (q : Int) :
    (Instr.findNow (.int .i64) (.int .i64 q) es.toList 0 = some none ∧ g q = none ∧ ∀ x ∈ es.toList, x.key ≠ .int .i64 q) ∨
      ∃ j e v, Instr.findNow (.int .i64) (.int .i64 q) es.toList 0 = some (some (j, e.val)) ∧ es[j]? = some e ∧ e.key = .int .i64 q ∧ e.val = .int .i64 v ∧ g q = some v := by
  rcases findNow_spec (d := .int .i64) (k := .int .i64 q) rfl es.toList 0 t.isKey with ⟨h1, h2⟩ | ⟨j, e, h1, h2, h3⟩
  · refine .inl ⟨h1, ?_, h2⟩
    cases hg : g q with
    | none => rfl
    | some v => obtain ⟨x, hx, hk, _⟩ := t.all q v hg; exact absurd hk (h2 x hx)
  · obtain ⟨q', v, hk, hv, hg⟩ := t.each e (List.mem_of_getElem? h2)
    rw [h3] at hk
    injection hk with _ hk
    subst hk
    exact .inr ⟨j, e, v, by simpa using h1, by simpa using h2, h3, hv, hg⟩
theorem mem_mod {es : Array MapEntry} {j : Nat} {e : MapEntry} (hj : es[j]? = some e) (f : MapEntry → MapEntry) (x : MapEntry) (hn : (es.toList.map (·.key)).Nodup) : x ∈ (es.modify j f).toList ↔ x = f e ∨ (x ∈ es.toList ∧ x.key ≠ e.key) := by
  have hget : ∀ i, (es.modify j f)[i]? = if j = i then es[i]?.map f else es[i]? := fun i => Array.getElem?_modify
  rw [List.nodup_iff_pairwise_ne, List.pairwise_iff_getElem] at hn
  have hjs : j < es.size := (Array.getElem?_eq_some_iff.1 hj).1
  have hje : es[j] = e := (Array.getElem?_eq_some_iff.1 hj).2
  constructor
  · intro hx
    rw [Array.mem_toList_iff, Array.mem_iff_getElem?] at hx
    obtain ⟨i, hi⟩ := hx
    rw [hget] at hi
    split at hi
    · next e1 => subst e1; rw [hj] at hi; simp at hi; exact .inl hi.symm
    · next e1 =>
      refine .inr ⟨by rw [Array.mem_toList_iff, Array.mem_iff_getElem?]; exact ⟨i, hi⟩, fun hk => ?_⟩
      obtain ⟨his, hie⟩ := Array.getElem?_eq_some_iff.1 hi
      rcases Nat.lt_or_gt_of_ne e1 with h | h
      · exact hn j i (by simpa using hjs) (by simpa using his) h (by simp [hje, hie, hk])
      · exact hn i j (by simpa using his) (by simpa using hjs) h (by simp [hje, hie, hk])
  · rintro (rfl | ⟨hx, hk⟩)
    · rw [Array.mem_toList_iff, Array.mem_iff_getElem?]
      exact ⟨j, by rw [hget, if_pos rfl, hj]; rfl⟩
    · rw [Array.mem_toList_iff, Array.mem_iff_getElem?] at hx ⊢
      obtain ⟨i, hi⟩ := hx
      refine ⟨i, by rw [hget, if_neg, hi]; intro e1; subst e1; rw [hj] at hi; cases hi; exact hk rfl⟩

section
variable {P : Program} {w : World} {t k e : TypeId} {M n : Nat} {g : Int → Option Int} (ht : P.underlying t = some (.map k e)) (hk : P.underlying k = some (.int .i64))
include ht hk
/-- 'v, ok := m[q]'. -/
theorem Tab.look (h : Tab w M n g) (hz : (zeroValue e).run P w = .ok (.int .i64 0) w) (q : Int) : (Instr.lookup t (.map (some M)) (.int .i64 q) true).run P w = .ok (.tuple #[.int .i64 ((g q).getD 0), .bool (g q).isSome]) w := by
  obtain ⟨es, clock, hb, T⟩ := h
  rcases T.find q with ⟨h1, h2, _⟩ | ⟨j, x, v, h1, h2, h3, h4, h5⟩
  · simp [Instr.lookup, run_underlying ht, MapKept.run_getObj_map hb, run_checkKey hk (show IsKey (.int .i64) (.int .i64 q) from rfl), run_findKey hk h1, hz, Result.andThen, h2]
  · simp [Instr.lookup, run_underlying ht, MapKept.run_getObj_map hb, run_checkKey hk (show IsKey (.int .i64) (.int .i64 q) from rfl), run_findKey hk h1, Result.andThen, h5, h4]
/-- 'm[q] = v' at a new key. -/
theorem Tab.put (h : Tab w M n g) {q : Int} (hq : g q = none) (v : Int) : ∃ o, (Instr.mapUpdate t (.map (some M)) (.int .i64 q) (.int .i64 v)).run P w = .ok () (setBlock w M o) ∧ ∀ w2 : World, w2.heap[M]? = some o → Tab w2 M (n + 1) (updO g q (some v)) := by
  obtain ⟨es, clock, hb, T⟩ := h
  rcases T.find q with ⟨h1, h2, h3⟩ | ⟨j, x, v', h1, h2, h3, h4, h5⟩
  · refine ⟨.map (es.push ⟨.int .i64 q, .int .i64 v, clock⟩) (clock + 1), ?_, fun w2 hw2 => ⟨_, _, hw2, stamped_push T.st h3, by simp [T.size], ?_, ?_⟩⟩
    · simp [Instr.mapUpdate, run_underlying ht, MapKept.run_getObj_map hb, run_checkKey hk (show IsKey (.int .i64) (.int .i64 q) from rfl), run_findKey hk h1, run_setObj_map _ hb, Result.andThen, setBlock]
    · intro x hx
      simp only [Array.toList_push, List.mem_append, List.mem_singleton] at hx
      rcases hx with hx | rfl
      · obtain ⟨q', v', e1, e2, e3⟩ := T.each x hx
        exact ⟨q', v', e1, e2, by rw [updO_other _ _ (fun e4 => h3 x hx (by rw [e1, e4]))]; exact e3⟩
      · exact ⟨q, v, rfl, rfl, updO_same _ _ _⟩
    · intro q' v' hg
      simp only [Array.toList_push, List.mem_append, List.mem_singleton]
      by_cases e1 : q' = q
      · subst e1; rw [updO_same] at hg; cases hg; exact ⟨_, .inr rfl, rfl, rfl⟩
      · rw [updO_other _ _ e1] at hg
        obtain ⟨x, hx, e2⟩ := T.all q' v' hg
        exact ⟨x, .inl hx, e2⟩
  · rw [hq] at h5; cases h5
/-- 'delete(m, q)' of a key that is there. -/
theorem Tab.del (h : Tab w M (n + 1) g) {q v : Int} (hq : g q = some v) (ty : TypeId) : ∃ o, (Builtin.delete_ #[t, k] ty #[.map (some M), .int .i64 q]).run P w = .ok (.tuple #[]) (setBlock w M o) ∧ ∀ w2 : World, w2.heap[M]? = some o → Tab w2 M n (updO g q none) := by
  obtain ⟨es, clock, hb, T⟩ := h
  rcases T.find q with ⟨h1, h2, h3⟩ | ⟨j, x, v', h1, h2, h3, h4, h5⟩
  · rw [hq] at h2; cases h2
  · have hjs : j < es.size := (Array.getElem?_eq_some_iff.1 h2).1
    have hje : es[j] = x := (Array.getElem?_eq_some_iff.1 h2).2
    have hlist : (es.eraseIdxIfInBounds j).toList = es.toList.eraseIdx j := by
      unfold Array.eraseIdxIfInBounds; rw [dif_pos hjs, Array.toList_eraseIdx]
    have hn := T.st.2.2
    have hsub : ∀ y, y ∈ es.toList.eraseIdx j ↔ y ∈ es.toList ∧ y.key ≠ .int .i64 q := by
      intro y
      have hperm : (x :: es.toList.eraseIdx j).Perm es.toList := by
        have e1 : es.toList[j]'(by simpa using hjs) = x := by simpa using hje
        rw [← e1]
        exact eraseIdx_perm _ _ (by simpa using hjs)
      have hn2 : ((x :: es.toList.eraseIdx j).map (·.key)).Nodup := (hperm.map _).nodup_iff.2 hn
      rw [List.map_cons, List.nodup_cons] at hn2
      constructor
      · intro hy
        refine ⟨(List.eraseIdx_sublist _ _).subset hy, fun e1 => hn2.1 ?_⟩
        rw [h3, ← e1]; exact List.mem_map.2 ⟨y, hy, rfl⟩
      · rintro ⟨hy, hne⟩
        rcases List.mem_cons.1 (hperm.mem_iff.2 hy) with e1 | e1
        · rw [e1] at hne; exact absurd h3 hne
        · exact e1
    refine ⟨.map (es.eraseIdxIfInBounds j) clock, ?_, fun w2 hw2 => ⟨_, _, hw2, stamped_erase T.st j, ?_, ?_, ?_⟩⟩
    · simp [Builtin.delete_, run_underlying ht, MapKept.run_getObj_map hb, run_checkKey hk (show IsKey (.int .i64) (.int .i64 q) from rfl), run_findKey hk h1, run_setObj_map _ hb, Result.andThen, setBlock]
    · rw [← Array.length_toList, hlist, List.length_eraseIdx_of_lt (by simpa using hjs), Array.length_toList, T.size]; rfl
    · intro y hy
      rw [hlist, hsub] at hy
      obtain ⟨q', v'', e1, e2, e3⟩ := T.each y hy.1
      exact ⟨q', v'', e1, e2, by rw [updO_other _ _ (fun e4 => hy.2 (by rw [e1, e4]))]; exact e3⟩
    · intro q' v'' hg
      by_cases e1 : q' = q
      · subst e1; rw [updO_same] at hg; cases hg
      · rw [updO_other _ _ e1] at hg
        obtain ⟨y, hy, e2, e3⟩ := T.all q' v'' hg
        exact ⟨y, by rw [hlist, hsub]; exact ⟨hy, fun e4 => e1 (by rw [e2] at e4; injection e4)⟩, e2, e3⟩
/-- The entry at a key that is there, and a store into it. -/
theorem Tab.entry (h : Tab w M n g) {q v : Int} (hq : g q = some v) : ∃ s : Int, (∀ w2 : World, w2.heap[M]? = w.heap[M]? → (Instr.mapEntry t (.map (some M)) (.int .i64 q)).run P w2 = .ok (.tuple #[.int .i64 v, .int .i64 s]) w2) ∧
    ∀ u : Int, ∃ o, (∀ w2 : World, w2.heap[M]? = w.heap[M]? → (Instr.entryStore t (.map (some M)) (.int .i64 s) (.int .i64 u)).run P w2 = .ok () (setBlock w2 M o)) ∧ ∀ w3 : World, w3.heap[M]? = some o → Tab w3 M n (updO g q (some u)) := by
  obtain ⟨es, clock, hb, T⟩ := h
  rcases T.find q with ⟨h1, h2, h3⟩ | ⟨j, x, v', h1, h2, h3, h4, h5⟩
  · rw [hq] at h2; cases h2
  · obtain rfl : v' = v := by rw [hq] at h5; cases h5; rfl
    refine ⟨x.born, fun w2 hw2 => ?_, fun u => ⟨.map (es.modify j fun e => { e with val := .int .i64 u }) clock, fun w2 hw2 => ?_, fun w3 hw3 => ⟨_, _, hw3, stamped_modify T.st _ _ (fun _ _ => rfl) (fun _ _ _ => rfl), by simp [T.size], ?_, ?_⟩⟩⟩
    · have hb2 := hw2.trans hb
      have hm : (es.modify j fun e => { e with key := .int .i64 q }) = es := by
        apply Array.ext_getElem?
        intro i
        rw [Array.getElem?_modify]
        split
        · next e1 => subst e1; rw [h2]; simp; rw [← h3]
        · rfl
      have hset : ({ w2 with heap := w2.heap.setIfInBounds M (.map es clock) } : World) = w2 := set_same hb2
      simp [Instr.mapEntry, run_underlying ht, MapKept.run_getObj_map hb2, run_checkKey hk (show IsKey (.int .i64) (.int .i64 q) from rfl), run_findKey hk h1, h2, h3, run_keyThatStays (show IsKey (.int .i64) (.int .i64 q) from rfl), run_setObj_map _ hb2, Result.andThen, hm, hset, h4, goInt]
    · have hb2 := hw2.trans hb
      have hidx : es.findIdx? (fun e => ((e.born : Nat) : Int) == ((x.born : Nat) : Int)) = some j := by
        rw [WideElems.findIdx_arr]
        exact WideElems.findIdx_born T.st.2.1 (by simpa using h2)
      simp [Instr.entryStore, MapKept.run_getObj_map hb2, Result.andThen, hidx, run_setObj_map _ hb2, setBlock, go_sem]
    · intro y hy
      rw [mem_mod h2 _ y T.st.2.2] at hy
      rcases hy with rfl | ⟨hy, hne⟩
      · exact ⟨q, u, h3, rfl, updO_same _ _ _⟩
      · obtain ⟨q', v'', e1, e2, e3⟩ := T.each y hy
        exact ⟨q', v'', e1, e2, by rw [updO_other _ _ (fun e4 => hne (by rw [e1, e4, h3]))]; exact e3⟩
    · intro q' v'' hg
      by_cases e1 : q' = q
      · subst e1; rw [updO_same] at hg; cases hg
        exact ⟨_, (mem_mod h2 _ _ T.st.2.2).2 (.inl rfl), h3, rfl⟩
      · rw [updO_other _ _ e1] at hg
        obtain ⟨y, hy, e2, e3⟩ := T.all q' v'' hg
        exact ⟨y, (mem_mod h2 _ _ T.st.2.2).2 (.inr ⟨hy, fun e4 => e1 (by rw [e2, h3] at e4; injection e4)⟩), e2, e3⟩
end
end Go.Proofs.Ytgjfomnipjljoaa
