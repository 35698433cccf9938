/-
  append OF A LIST OF STRUCTS (wherever it lies; empty ones too) ONTO A ROW OF THE CALL'S OWN.
-/
import Derived.Test.YtkgakeknnfnjdaaAppend
import Derived.Test.YtkgakeknnfnjdaaLists
namespace Go.Proofs.Ytkgakeknnfnjdaa
open Go.RowKit

section
variable {P : Program} {w : World} {α : Type} {sz : Nat} {mk : α → List Value}
theorem list_news (hs : ∀ x, (mk x).length = sz) (hsz : 0 < sz) {b off : Nat} {M : List α} (hc : ∀ i x, M[i]? = some x → ∀ j v, (mk x)[j]? = some v → w.cell? ⟨b, off + i * sz + j, none⟩ = some v) :
    ∀ j u, (M.flatMap mk)[j]? = some u → w.cell? ((⟨b, off, none⟩ : Addr).add j) = some u := by
  intro j u hu
  have hj : j < M.length * sz := by
    rcases Nat.lt_or_ge j (M.length * sz) with h | h
    · exact h
    · rw [List.getElem?_eq_none (by rw [flat_length hs]; exact h)] at hu; cases hu
  have hi : j / sz < M.length := by
    rw [Nat.div_lt_iff_lt_mul hsz]; exact hj
  have hm : j % sz < sz := Nat.mod_lt _ hsz
  obtain ⟨v, hv⟩ : ∃ v, (mk (M[j / sz]'hi))[j % sz]? = some v := ⟨_, List.getElem?_eq_getElem (by rw [hs]; exact hm)⟩
  have h1 := flat_get hs M (j / sz) M[j / sz] (by simp [hi]) (j % sz) v hv
  have e : j / sz * sz + j % sz = j := by rw [Nat.mul_comm]; exact Nat.div_add_mod j sz
  rw [e, hu] at h1
  have h2 := hc (j / sz) M[j / sz] (by simp [hi]) (j % sz) v hv
  have e1 : (⟨b, off, none⟩ : Addr).add j = ⟨b, off + j, none⟩ := by unfold Addr.add; split <;> simp_all
  rw [e1, show off + j = off + j / sz * sz + j % sz by rw [Nat.add_assoc, e], h2, Option.some.inj h1]
theorem list_one (h1 : ∀ x, ∀ u ∈ mk x, u.oneCell' = true) (M : List α) : ∀ u ∈ M.flatMap mk, u.oneCell' = true := by
  intro u hu
  obtain ⟨x, _, hx⟩ := List.mem_flatMap.1 hu
  exact h1 x u hx
theorem wpList_append_list {ops : Array Oper} {rest : List Oper} {o : Oper} {a : Act} {Q : Exit → Act → World → Prop} (hgd : o.guard = none) (s x : Operand) (t : TypeId)
    (ho : o.op = .call { callee := .builtin .append, args := #[s, x], argTypes := #[t, t] })
    (base : Nat) (e : TypeId) (i : TypeInfo) (z : Value) (bytes : Nat) (ht : P.underlying t = some (.slice e)) (hi : P.info? e = some i) (hz : i.zero = some z)
    (hsize : i.size = sz) (hby : i.bytes = bytes) (hzs : z.cells.size = sz) (hsz : 0 < sz) (hmk : ∀ x, (mk x).length = sz) (h1 : ∀ x, ∀ u ∈ mk x, u.oneCell' = true)
    (v : Value) (n : Nat) (L : List α) (hs : a.eval s = v) (hown : w.ownsRow base e sz v n (L.flatMap mk))
    (A : Option Addr) (c : Nat) (M : List α) (m : Nat) (hMm : M.length = m) (hx : a.eval x = .slice A m c) (hh : HoldsL sz mk w A M)
    (h63 : n + m ≤ maxLen) (hbytes : (n + m) * bytes ≤ 140737488355328) (hbase : base ≤ w.heap.size)
    (h : ∀ v' w', w'.ownsRow base e sz v' (n + m) ((L ++ M).flatMap mk) → Below base w w' → wpList P ops Q rest (a.put o.dst v') w') : wpList P ops Q (o :: rest) a w := by
  subst hMm
  rcases hh with hm | ⟨b, off, rfl, hlt, hc⟩
  · subst hm
    refine wpList_append_zero hgd s x t ho base e i sz ht hi v n _ hs hown A c hx (h v w (by simpa using hown) (Below.refl _ _))
  · by_cases hm : M = []
    · subst hm
      refine wpList_append_zero hgd s x t ho base e i sz ht hi v n _ hs hown _ c hx (h v w (by simpa using hown) (Below.refl _ _))
    · refine wpList_append_lies w hgd s x t ho base e i z sz bytes ht hi hz hsize hby hzs hsz v n _ hs hown ⟨b, off, none⟩ M.length c (M.flatMap mk) hx (flat_length hmk M) (list_news hmk hsz hc) (list_one h1 M) (List.length_pos_iff.2 hm) h63 hbytes hbase w.heap.size rfl ?_
      intro g cap w' h2 h3 _ _
      exact h _ _ (by rw [List.flatMap_append]; exact h2) ((Below.refl base w).grown h3 hbase (fun q hq => (hown.lt q hq).1))
theorem step_append_list {ops : Array Oper} {o : Oper} {a : Act} {K : Act → World → Prop} {Q : Exit → Act → World → Prop} {E : Prop} (hgd : o.guard = none) (s x : Operand) (t : TypeId)
    (ho : o.op = .call { callee := .builtin .append, args := #[s, x], argTypes := #[t, t] })
    (base : Nat) (e : TypeId) (i : TypeInfo) (z : Value) (bytes : Nat) (ht : P.underlying t = some (.slice e)) (hi : P.info? e = some i) (hz : i.zero = some z)
    (hsize : i.size = sz) (hby : i.bytes = bytes) (hzs : z.cells.size = sz) (hsz : 0 < sz) (hmk : ∀ x, (mk x).length = sz) (h1 : ∀ x, ∀ u ∈ mk x, u.oneCell' = true)
    (v : Value) (n : Nat) (L : List α) (hs : a.eval s = v) (hown : w.ownsRow base e sz v n (L.flatMap mk))
    (A : Option Addr) (c : Nat) (M : List α) (m : Nat) (hMm : M.length = m) (hx : a.eval x = .slice A m c) (hh : HoldsL sz mk w A M)
    (h63 : n + m ≤ maxLen) (hbytes : (n + m) * bytes ≤ 140737488355328) (hbase : base ≤ w.heap.size)
    (h : ∀ v' w', w'.ownsRow base e sz v' (n + m) ((L ++ M).flatMap mk) → Below base w w' → K (a.put o.dst v') w') :
    if Region.wanted o (yielded ops a.tmps) = true then Oper.wp P o a w K Q else E := by
  subst hMm
  have zero : ∀ A' : Option Addr, a.eval x = .slice A' 0 c → M = [] → if Region.wanted o (yielded ops a.tmps) = true then Oper.wp P o a w K Q else E := fun A' hx0 hm => by
    subst hm
    clear hx
    have hw : Region.wanted o (yielded ops a.tmps) = true := by simp [Region.wanted, hgd]
    rw [if_pos hw]
    have hrun := run_append_zero (P := P) (w := w) base t o.type e i sz ht hi v n _ hown A' c
    have hK := h v w (by simpa using hown) (Below.refl _ _)
    unfold Oper.wp
    simp [execOp, ho, resolve, invoke, builtin, hs, hx0, hrun, Result.andThen]
    exact hK
  by_cases hm : M = []
  · exact zero A (by rw [hx, hm]; rfl) hm
  · obtain ⟨b, off, rfl, hlt, hc⟩ := hh.resolve_left hm
    refine step_append_lies w hgd s x t ho base e i z sz bytes ht hi hz hsize hby hzs hsz v n _ hs hown ⟨b, off, none⟩ M.length c (M.flatMap mk) hx (flat_length hmk M) (list_news hmk hsz hc) (list_one h1 M) (List.length_pos_iff.2 hm) h63 hbytes hbase w.heap.size rfl ?_
    intro g cap w' h2 h3 _ _
    exact h _ _ (by rw [List.flatMap_append]; exact h2) ((Below.refl base w).grown h3 hbase (fun q hq => (hown.lt q hq).1))
theorem own_empty_sz {w : World} {g base : Nat} {e : TypeId} {size : Nat} (h : w.heap[g]? = some (.cells #[] e (0, 0))) (hb : base ≤ g) : w.ownsRow base e size (.slice (some ⟨g, 0, none⟩) 0 0) 0 [] :=
  ⟨by simp, .inr ⟨g, 0, #[], rfl, hb, h, Nat.le_refl _, by unfold maxLen; omega, by simp, by simp⟩⟩
end
end Go.Proofs.Ytkgakeknnfnjdaa
