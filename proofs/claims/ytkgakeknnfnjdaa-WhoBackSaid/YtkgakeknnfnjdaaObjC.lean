/-
  LAYER 20: package object's contracts, as one structure.
-/
import Derived.Test.YtkgakeknnfnjdaaObjR
namespace Go.Proofs.Ytkgakeknnfnjdaa
open Go.RowKit
set_option linter.unusedVariables false

theorem ObjF.same {L M : List Ob} (h : sameO L M = true) (k : ObjF M) : ObjF L :=
  ⟨by rw [sameO_len h]; exact k.n, fun z hz => by
    obtain ⟨i, hi, rfl⟩ := List.getElem_of_mem hz
    have hj : i < M.length := by rw [← sameO_len h]; exact hi
    rw [(sameZ_iff.1 (sameO_at h hi hj)).2.1]
    exact k.e _ (List.getElem_mem hj)⟩
theorem ObjF.sub {L M : List Ob} (h : ObjF L) (hl : M.length ≤ L.length) (hm : ∀ z ∈ M, z ∈ L) : ObjF M := ⟨Nat.le_trans hl h.n, fun z hz => h.e z (hm z hz)⟩
theorem ObjF.ofO {L : List Ob} (h : ObjF L) (s : Int) : ObjF (ofO s L) := h.sub (ofO_len _ _) (fun z hz => (List.mem_filter.1 hz).1)
theorem atO_sub (id : Int) (L : List Ob) : (atO id L).length ≤ L.length ∧ ∀ z ∈ atO id L, z ∈ L := by
  rcases atO_drop id L with e | ⟨k, z, h1, h2, h3⟩
  · rw [e]; exact ⟨Nat.zero_le _, fun z hz => by cases hz⟩
  · rw [h2]; exact ⟨by rw [List.length_drop]; omega, fun z hz => List.mem_of_mem_drop hz⟩
theorem ObjF.fromO {L : List Ob} (h : ObjF L) (s id : Int) : ObjF (fromO s id L) := by
  unfold Go.Proofs.Ytkgakeknnfnjdaa.fromO
  split
  · exact h.ofO s
  · exact (h.ofO s).sub (atO_sub _ _).1 (atO_sub _ _).2
theorem one_at {w : World} {G : Nat} {z : Ob} {t : TypeId} (hG : w.heap[G]? = some (.cells (obC z) t (0, 0))) (hz : ObjAt w z) : ObjsAt w (some ⟨G, 0, none⟩) 1 1 [z] := by
  refine ⟨rfl, .inr ⟨G, 0, rfl, heap_lt hG, fun i x hx j v hv => ?_⟩, Nat.le_refl _, by unfold maxLen; omega, fun y hy => by rw [List.mem_singleton.1 hy]; exact hz⟩
  rw [cell_of_row _ _ _ _ _ _ hG, Nat.zero_add, ← Array.getElem?_toList]
  have e : (obC z).toList = [z].flatMap obL := by simp [obC, obL]
  rw [e]; exact flat_get obL_length [z] i x hx j v hv
theorem sameO_one {x y : Ob} (h : sameZ x y = true) : sameO [x] [y] = true := by unfold sameO; rw [h]; rfl
theorem oneF {z : Ob} (h : z.n ≤ 1000000) : ObjF [z] := ⟨by show 1 ≤ 100000; decide, fun y hy => by rw [List.mem_singleton.1 hy]; exact h⟩
theorem findO_mem : ∀ {L : List Ob} {id : Int} {z : Ob}, findO id L = some z → z ∈ L
  | x :: L, id, z, h => by
    unfold findO at h
    split at h
    · cases h; exact List.mem_cons_self
    · exact List.mem_cons_of_mem _ (findO_mem h)
theorem findO_at {w : World} {a : Option Addr} {n c : Nat} {L : List Ob} (h : ObjsAt w a n c L) (f : ObjF L) (id : Int) : ObjAt w ((findO id L).getD zeroOb) ∧ ((findO id L).getD zeroOb).n ≤ 1000000 := by
  cases hf : findO id L with
  | none => exact ⟨zeroOb_at w, Nat.zero_le _⟩
  | some z => exact ⟨h.each z (findO_mem hf), f.e z (findO_mem hf)⟩
end Go.Proofs.Ytkgakeknnfnjdaa
