/-
  append ONTO A ROW OF THE CALL'S OWN, AT A GUARDED OPERATION ('&&', '||') whose guard is decided.
-/
import Derived.Test.YtgemdnmcklpbkaaDoorAppend
namespace Go.Proofs.YtgemdnmcklpbkaaDoor
open Go.RowKit

section
variable {P : Program} {w : World}
theorem wpList_wanted {ops : Array Oper} {rest : List Oper} {o : Oper} {a : Act} {Q : Exit → Act → World → Prop} (hw : Region.wanted o (yielded ops a.tmps) = true)
    (h : ∀ K : Act → World → Prop, (∀ a w, wpList P ops Q rest a w → K a w) → o.wp P a w K Q) : wpList P ops Q (o :: rest) a w :=
  wpList_step fun K hK => by rw [if_pos hw]; exact h K hK
theorem wpList_append_holds_g {α : Type} {mk : α → Value} {ops : Array Oper} {rest : List Oper} {o : Oper} {a : Act} {Q : Exit → Act → World → Prop} (hgd : Region.wanted o (yielded ops a.tmps) = true) (s x : Operand) (t : TypeId)
    (ho : o.op = .call { callee := .builtin .append, args := #[s, x], argTypes := #[t, t] })
    (base : Nat) (e : TypeId) (i : TypeInfo) (z : Value) (bytes : Nat) (ht : P.underlying t = some (.slice e)) (hi : P.info? e = some i) (hz : i.zero = some z)
    (hsize : i.size = 1) (hby : i.bytes = bytes) (hzs : z.cells.size = 1)
    (v : Value) (n : Nat) (xs : List Value) (hs : a.eval s = v) (hown : w.ownsRow base e 1 v n xs)
    (A : Option Addr) (m c : Nat) (f : Nat → α) (hx : a.eval x = .slice A m c) (hh : HoldsG mk w A m f) (h1 : ∀ u, (mk u).oneCell' = true)
    (h63 : n + m ≤ maxLen) (hbytes : (n + m) * bytes ≤ 140737488355328) (hbase : base ≤ w.heap.size)
    (h : ∀ v' w', w'.ownsRow base e 1 v' (n + m) (xs ++ lstG mk f m) → w.grownBy w' v.ownBlock → Below base w w' → wpList P ops Q rest (a.put o.dst v') w') : wpList P ops Q (o :: rest) a w := by
  refine wpList_wanted hgd fun K hK => ?_
  by_cases hm : m = 0
  · subst hm
    have hrun := run_append_zero (P := P) (w := w) base t o.type e i 1 ht hi v n xs hown A c
    unfold Oper.wp
    simp [execOp, ho, resolve, invoke, builtin, hs, hx, hrun, Result.andThen]
    exact hK _ _ (h v w (by simpa [lstG] using hown) (World.grownBy.refl w _) (Below.refl _ _))
  · obtain ⟨b, off, rfl, hlt, hc⟩ := hh.resolve_left hm
    refine wp_append_lies w s x t ho base e i z 1 bytes ht hi hz hsize hby hzs (by omega) v n xs hs hown ⟨b, off, none⟩ m c (lstG mk f m) hx (by rw [lstG_length]; omega) ?_ ?_ (by omega) h63 hbytes hbase w.heap.size rfl ?_
    · intro j u hu
      have hj : j < m := by
        rcases Nat.lt_or_ge j m with h | h
        · exact h
        · rw [List.getElem?_eq_none (by rw [lstG_length]; omega)] at hu; cases hu
      rw [lstG_get _ _ _ _ hj] at hu
      have e1 : (⟨b, off, none⟩ : Addr).add j = ⟨b, off + j, none⟩ := by unfold Addr.add; split <;> simp_all
      rw [e1, hc j hj]; exact hu
    · intro u hu
      simp only [lstG, List.mem_map] at hu
      obtain ⟨k, _, rfl⟩ := hu
      exact h1 _
    · intro g cap w' h2 h3 _ _
      exact hK _ _ (h _ _ h2 h3 ((Below.refl base w).grown h3 hbase (fun q hq => (hown.lt q hq).1)))
end
end Go.Proofs.YtgemdnmcklpbkaaDoor
