/-
  SLICES OF STRUCTS AS LISTS: 'HoldsL sz mk w a L': from the address a on lie the elements of L, each as the sz cells that mk tells.
-/
import Derived.Test.YtebhalehgpigoaaBlocks
import Derived.Deep.AppendLies
import Derived.Laws.AppendOwnNone
import Derived.Laws.OwnMore
namespace Go.Proofs.Ytebhalehgpigoaa
open Go.RowKit

def HoldsL {α : Type} (sz : Nat) (mk : α → List Value) (w : World) (a : Option Addr) (L : List α) : Prop :=
  L = [] ∨ ∃ b off, a = some ⟨b, off, none⟩ ∧ b < w.heap.size ∧ ∀ i x, L[i]? = some x → ∀ j v, (mk x)[j]? = some v → w.cell? ⟨b, off + i * sz + j, none⟩ = some v
section
variable {α : Type} {sz : Nat} {mk : α → List Value} {w w' : World} {a : Option Addr} {L : List α}
theorem HoldsL.below (h : HoldsL sz mk w a L) (hb : Below w.heap.size w w') : HoldsL sz mk w' a L := by
  rcases h with h | ⟨b, off, ha, hlt, hc⟩
  · exact .inl h
  · exact .inr ⟨b, off, ha, Nat.lt_of_lt_of_le hlt hb.size, fun i x hx j v hv => (hb.cell (p := ⟨b, off + i * sz + j, none⟩) hlt).trans (hc i x hx j v hv)⟩
theorem HoldsL.ext (h : HoldsL sz mk w a L) (x : Ext w w') : HoldsL sz mk w' a L := h.below x
theorem HoldsL.nil (w : World) (a : Option Addr) : HoldsL sz mk w a [] := .inl rfl
theorem HoldsL.tail {b off : Nat} {x : α} (h : HoldsL sz mk w (some ⟨b, off, none⟩) (x :: L)) : HoldsL sz mk w (some ⟨b, off + sz, none⟩) L := by
  rcases h with h | ⟨b', off', ha, hlt, hc⟩
  · cases h
  · cases ha
    refine .inr ⟨b, off + sz, rfl, hlt, fun i y hy j v hv => ?_⟩
    have := hc (i + 1) y (by simpa using hy) j v hv
    rw [Nat.add_mul, Nat.one_mul] at this
    rw [show off + sz + i * sz + j = off + (i * sz + sz) + j by omega]; exact this
theorem flat_length (hs : ∀ x, (mk x).length = sz) : ∀ L : List α, (L.flatMap mk).length = L.length * sz
  | [] => by simp
  | x :: L => by rw [List.flatMap_cons, List.length_append, flat_length hs L, hs, List.length_cons, Nat.add_mul]; omega
theorem flat_get (hs : ∀ x, (mk x).length = sz) : ∀ (L : List α) (i : Nat) (x : α), L[i]? = some x → ∀ j v, (mk x)[j]? = some v → (L.flatMap mk)[i * sz + j]? = some v
  | [], i, x, h, _, _, _ => by simp at h
  | y :: L, 0, x, h, j, v, hv => by
    simp only [List.getElem?_cons_zero, Option.some.injEq] at h
    subst h
    have hj : j < (mk y).length := by
      rcases Nat.lt_or_ge j (mk y).length with h | h
      · exact h
      · rw [List.getElem?_eq_none h] at hv; cases hv
    rw [List.flatMap_cons, Nat.zero_mul, Nat.zero_add, List.getElem?_append_left hj]; exact hv
  | y :: L, i + 1, x, h, j, v, hv => by
    have := flat_get hs L i x (by simpa using h) j v hv
    rw [List.flatMap_cons, Nat.add_mul, Nat.one_mul, List.getElem?_append_right (by rw [hs]; omega), hs, show i * sz + sz + j - sz = i * sz + j by omega]
    exact this
/-- What the call owns, as a list. -/
theorem HoldsL.of_own (hs : ∀ x, (mk x).length = sz) {base : Nat} {e : TypeId} {v : Value} {n : Nat} (h : w.ownsRow base e sz v n (L.flatMap mk)) (hn : n = L.length) :
    ∃ a cap, v = .slice a n cap ∧ n ≤ cap ∧ cap ≤ maxLen ∧ HoldsL sz mk w a L ∧ ∀ p, a = some p → base ≤ p.block := by
  obtain ⟨hlen, h2⟩ := id h
  rcases h2 with ⟨hv, hx⟩ | ⟨g, cap, cur, hv, hg, hh, r⟩
  · have : L = [] := by
      exact List.eq_nil_of_length_eq_zero (hn.symm.trans hx)
    subst this
    subst hx
    exact ⟨none, 0, hv, Nat.le_refl _, Nat.zero_le _, .inl rfl, fun p hp => by cases hp⟩
  · subst hv
    refine ⟨_, _, rfl, r.1, r.2.1, .inr ⟨g, 0, rfl, (h.lt g rfl).2, fun i x hx j v hv => ?_⟩, fun p hp => by cases hp; exact hg⟩
    have hi : i < L.length := by
      rcases Nat.lt_or_ge i L.length with h | h
      · exact h
      · rw [List.getElem?_eq_none h] at hx; cases hx
    have hj : j < sz := by
      rcases Nat.lt_or_ge j sz with h | h
      · exact h
      · rw [List.getElem?_eq_none (by rw [hs]; exact h)] at hv; cases hv
    have hb : i * sz + j < n * sz := by
      have := Nat.mul_le_mul_right sz (show i + 1 ≤ n by omega)
      rw [Nat.add_mul, Nat.one_mul] at this
      omega
    rw [Nat.zero_add, h.cellAt (i * sz + j) hb]
    exact flat_get hs L i x hx j v hv
end
/-- One more element, out of a block that was made just ahead, onto a row of the call's own. -/
theorem wpList_append_el {P : Program} {w : World} {α : Type} {sz : Nat} {mk : α → List Value} {ops : Array Oper} {rest : List Oper} {o : Oper} {a : Act} {Q : Exit → Act → World → Prop} (hgd : o.guard = none) (s x : Operand) (t : TypeId)
    (ho : o.op = .call { callee := .builtin .append, args := #[s, x], argTypes := #[t, t] })
    (base : Nat) (e : TypeId) (i : TypeInfo) (z : Value) (bytes : Nat) (ht : P.underlying t = some (.slice e)) (hi : P.info? e = some i) (hz : i.zero = some z)
    (hsize : i.size = sz) (hby : i.bytes = bytes) (hzs : z.cells.size = sz) (hsz : 0 < sz)
    (v : Value) (n : Nat) (L : List α) (hs : a.eval s = v) (hown : w.ownsRow base e sz v n (L.flatMap mk))
    (b : Nat) (cs : Array Value) (t' : TypeId) (fr : Nat × Nat) (y : α) (hx : a.eval x = .slice (some ⟨b, 0, none⟩) 1 1) (hb : w.heap[b]? = some (.cells cs t' fr)) (hcs : cs.toList = mk y) (hl : (mk y).length = sz) (h1 : ∀ u ∈ mk y, u.oneCell' = true)
    (h63 : n + 1 ≤ maxLen) (hbytes : (n + 1) * bytes ≤ 140737488355328) (hbase : base ≤ w.heap.size)
    (h : ∀ v' w', w'.ownsRow base e sz v' (n + 1) ((L ++ [y]).flatMap mk) → Below base w w' → wpList P ops Q rest (a.put o.dst v') w') : wpList P ops Q (o :: rest) a w := by
  refine wpList_append_lies w hgd s x t ho base e i z sz bytes ht hi hz hsize hby hzs hsz v n (L.flatMap mk) hs hown ⟨b, 0, none⟩ 1 1 (mk y) hx (by omega) ?_ h1 (by omega) h63 hbytes hbase w.heap.size rfl ?_
  · intro j u hu
    have e1 : (⟨b, 0, none⟩ : Addr).add j = ⟨b, j, none⟩ := by unfold Addr.add; split <;> simp_all
    rw [e1, cell_of_row w b j cs t' fr hb, ← Array.getElem?_toList, hcs]; exact hu
  · intro g cap w' h2 h3 _ _
    refine h _ _ (by simpa using h2) ((Below.refl base w).grown h3 hbase (fun q hq => (hown.lt q hq).1))
/-- A struct of two integers. -/
def two (x : Int × Int) : List Value := [.int .i64 x.1, .int .i64 x.2]
theorem two_length (x : Int × Int) : (two x).length = 2 := rfl
theorem HoldsL.two_at {w : World} {b off : Nat} {L : List (Int × Int)} (h : HoldsL 2 two w (some ⟨b, off, none⟩) L) (i : Nat) (hi : i < L.length) :
    w.cell? ⟨b, off + i * 2, none⟩ = some (.int .i64 (L[i]).1) ∧ w.cell? ⟨b, off + i * 2 + 1, none⟩ = some (.int .i64 (L[i]).2) := by
  rcases h with h | ⟨b', off', ha, hlt, hc⟩
  · subst h; simp at hi
  · cases ha
    exact ⟨hc i L[i] (by simp [hi]) 0 _ rfl, hc i L[i] (by simp [hi]) 1 _ rfl⟩
end Go.Proofs.Ytebhalehgpigoaa
