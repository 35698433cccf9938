/-
  'copy' INTO A BLOCK OF THE CALL'S OWN.
-/
import Derived.Test.YtkgakeknnfnjdaaBlocks
import Derived.Laws.CopyOwn
namespace Go.Proofs.Ytkgakeknnfnjdaa
open Go.RowKit

/-- Cells laid over others from place 'off' on. -/
def over {α : Type} (f : Nat → α) (off n : Nat) (g : Nat → α) : Nat → α := fun i => if i < off then f i else if i < off + n then g (i - off) else f i
/-- 'copy' into a block of the call's own, from whatever slice, as many as there are, or as the place takes. -/
theorem wpList_copy_min {α : Type} {mk : α → Value} {P : Program} {w : World} {ops : Array Oper} {rest : List Oper} {o : Oper} {a : Act} {Q : Exit → Act → World → Prop} (hgd : o.guard = none) (d s : Operand) (dT sT : TypeId)
    (ho : o.op = .call { callee := .builtin .copy, args := #[d, s], argTypes := #[dT, sT] }) (elem : TypeId) (hu : P.underlying dT = some (.slice elem)) (hsz : (P.info? elem).map (·.size) = some 1)
    (dp sp : Option Addr) (dLen dCap sLen sCap n : Nat) (hd : a.eval d = .slice dp dLen dCap) (hs : a.eval s = .slice sp sLen sCap) (hmin : Nat.min sLen dLen = n)
    (B off m : Nat) (t : TypeId) (f g : Nat → α) (hrow : Row mk t w B m f) (hsrc : HoldsG mk w sp n g) (hpos : 0 < n → dp = some ⟨B, off, none⟩) (hfit : off + n ≤ m) (h1 : ∀ x, (mk x).oneCell' = true)
    (w0 : World) (hb : Below B w0 w)
    (h : ∀ w', Row mk t w' B m (over f off n g) → Below B w0 w' → wpList P ops Q rest (a.put o.dst (goInt n)) w') :
    wpList P ops Q (o :: rest) a w := by
  obtain ⟨cs, hcs, hsize, hcell⟩ := hrow
  have hl : (lstG mk g n).length = n := lstG_length _ _ _
  refine wpList_copy_splice hgd d s dT sT ho elem hu hsz dp sp dLen dCap sLen sCap hd hs B off cs.toList t (by simpa using hcs) (lstG mk g n) (by rw [hl]; exact hmin.symm) (fun hp => ?_) (by rw [hl]; simpa [hsize] using hfit) (fun v hv => ?_) B w0 hb (Nat.le_refl _) (fun w' hw' hb' => ?_)
  · rw [hl] at hp
    obtain ⟨b, o', rfl, _, hc⟩ := hsrc.resolve_left (by omega)
    refine ⟨hpos hp, _, rfl, fun j v hj => ?_⟩
    by_cases hjn : j < n
    · rw [lstG_get _ _ _ _ hjn] at hj
      cases hj
      have := hc j hjn
      by_cases hj0 : j = 0
      · subst hj0; simpa [Addr.add] using this
      · simpa [Addr.add, hj0] using this
    · rw [List.getElem?_eq_none (by rw [hl]; omega)] at hj; cases hj
  · obtain ⟨x, _, rfl⟩ := List.mem_map.1 hv
    exact h1 _
  · have := hw'.out
    rw [hl]
    refine h w' ⟨_, this, ?_, fun i hi => ?_⟩ hb'
    · have := length_splice cs.toList off (lstG mk g n) (by rw [hl]; simpa [hsize] using hfit)
      simpa [hsize] using this
    · unfold splice over
      rw [List.getElem?_toArray, hl]
      by_cases c1 : i < off
      · rw [if_pos c1, List.getElem?_append_left (by simp; omega), List.getElem?_take, if_pos c1]
        simpa using hcell i hi
      · rw [if_neg c1, List.getElem?_append_right (by simp; omega)]
        have e1 : (List.take off cs.toList).length = off := by simp; omega
        rw [e1]
        by_cases c2 : i < off + n
        · rw [if_pos c2, List.getElem?_append_left (by rw [hl]; omega), lstG_get _ _ _ _ (by omega)]
        · rw [if_neg c2, List.getElem?_append_right (by rw [hl]; omega), hl, List.getElem?_drop]
          rw [show off + n + (i - off - n) = i from by omega]
          simpa using hcell i hi
/-- 'copy' into a block of the call's own, from whatever slice, as many as the place takes. -/
theorem wpList_copy_row {α : Type} {mk : α → Value} {P : Program} {w : World} {ops : Array Oper} {rest : List Oper} {o : Oper} {a : Act} {Q : Exit → Act → World → Prop} (hgd : o.guard = none) (d s : Operand) (dT sT : TypeId)
    (ho : o.op = .call { callee := .builtin .copy, args := #[d, s], argTypes := #[dT, sT] }) (elem : TypeId) (hu : P.underlying dT = some (.slice elem)) (hsz : (P.info? elem).map (·.size) = some 1)
    (dp sp : Option Addr) (dLen dCap sLen sCap n : Nat) (hd : a.eval d = .slice dp dLen dCap) (hs : a.eval s = .slice sp sLen sCap) (hdn : dLen = n) (hsn : n ≤ sLen)
    (B off m : Nat) (t : TypeId) (f g : Nat → α) (hrow : Row mk t w B m f) (hsrc : HoldsG mk w sp n g) (hpos : 0 < n → dp = some ⟨B, off, none⟩) (hfit : off + n ≤ m) (h1 : ∀ x, (mk x).oneCell' = true)
    (w0 : World) (hb : Below B w0 w)
    (h : ∀ w', Row mk t w' B m (over f off n g) → Below B w0 w' → wpList P ops Q rest (a.put o.dst (goInt n)) w') :
    wpList P ops Q (o :: rest) a w := by
  exact wpList_copy_min hgd d s dT sT ho elem hu hsz dp sp dLen dCap sLen sCap n hd hs (by rw [hdn]; exact Nat.min_eq_right hsn) B off m t f g hrow hsrc hpos hfit h1 w0 hb h
end Go.Proofs.Ytkgakeknnfnjdaa
