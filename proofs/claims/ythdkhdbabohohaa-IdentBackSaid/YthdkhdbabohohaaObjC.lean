/-
  LAYER 20: package object's contracts, as one structure.
-/
import Derived.Test.YthdkhdbabohohaaObjR
namespace Go.Proofs.Ythdkhdbabohohaa
open Go.RowKit
set_option linter.unusedVariables false

theorem ObjF.same {L M : List Ob} (h : sameO L M = true) (k : ObjF M) : ObjF L :=
  ⟨by rw [sameO_len h]; exact k.n, fun z hz => by
    obtain ⟨i, hi, rfl⟩ := List.getElem_of_mem hz
    have hj : i < M.length := by rw [← sameO_len h]; exact hi
    rw [(sameZ_iff.1 (sameO_at h hi hj)).2.1]
    exact k.e _ (List.getElem_mem hj)⟩
theorem ObjF.sub {L M : List Ob} (h : ObjF L) (hl : M.length ≤ L.length) (hm : ∀ z ∈ M, z ∈ L) : ObjF M := ⟨Nat.le_trans hl h.n, fun z hz => h.e z (hm z hz)⟩
theorem ObjF.ofO {L : List Ob} (h : ObjF L) (s : Int) : ObjF (ofO s L) := h.sub (ofO_len _ _) (fun z hz => (List.mem_filter.1 hz).1)
theorem atO_sub (id : Int) (L : List Ob) : (atO id L).length ≤ L.length ∧ ∀ z ∈ atO id L, z ∈ L := by
  rcases atO_drop id L with e | ⟨k, z, h1, h2, h3⟩
  · rw [e]; exact ⟨Nat.zero_le _, fun z hz => by cases hz⟩
  · rw [h2]; exact ⟨by rw [List.length_drop]; omega, fun z hz => List.mem_of_mem_drop hz⟩
theorem ObjF.fromO {L : List Ob} (h : ObjF L) (s id : Int) : ObjF (fromO s id L) := by
  unfold Go.Proofs.Ythdkhdbabohohaa.fromO
  split
  · exact h.ofO s
  · exact (h.ofO s).sub (atO_sub _ _).1 (atO_sub _ _).2
theorem one_at {w : World} {G : Nat} {z : Ob} {t : TypeId} (hG : w.heap[G]? = some (.cells (obC z) t (0, 0))) (hz : ObjAt w z) : ObjsAt w (some ⟨G, 0, none⟩) 1 1 [z] := by
  refine ⟨rfl, .inr ⟨G, 0, rfl, heap_lt hG, fun i x hx j v hv => ?_⟩, Nat.le_refl _, by unfold maxLen; omega, fun y hy => by rw [List.mem_singleton.1 hy]; exact hz⟩
  rw [cell_of_row _ _ _ _ _ _ hG, Nat.zero_add, ← Array.getElem?_toList]
  have e : (obC z).toList = [z].flatMap obL := by simp [obC, obL]
  rw [e]; exact flat_get obL_length [z] i x hx j v hv
theorem sameO_one {x y : Ob} (h : sameZ x y = true) : sameO [x] [y] = true := by unfold sameO; rw [h]; rfl
theorem oneF {z : Ob} (h : z.n ≤ 1000000) : ObjF [z] := ⟨by show 1 ≤ 100000; decide, fun y hy => by rw [List.mem_singleton.1 hy]; exact h⟩
theorem findO_mem : ∀ {L : List Ob} {id : Int} {z : Ob}, findO id L = some z → z ∈ L
  | x :: L, id, z, h => by
    unfold findO at h
    split at h
    · cases h; exact List.mem_cons_self
    · exact List.mem_cons_of_mem _ (findO_mem h)
theorem findO_at {w : World} {a : Option Addr} {n c : Nat} {L : List Ob} (h : ObjsAt w a n c L) (f : ObjF L) (id : Int) : ObjAt w ((findO id L).getD zeroOb) ∧ ((findO id L).getD zeroOb).n ≤ 1000000 := by
  cases hf : findO id L with
  | none => exact ⟨zeroOb_at w, Nat.zero_le _⟩
  | some z => exact ⟨h.each z (findO_mem hf), f.e z (findO_mem hf)⟩
structure ObjC : Prop where
  right : ∀ (a : Option Addr) (n c : Nat) (L : List Ob) (w : World), ObjsAt w a n c L → ObjF L → Calls Try.prog 19 #[.slice a n c] w fun e w' => e = .returned (.bool (rightO L)) ∧ Ext w w'
  level : ∀ (a : Option Addr) (n c : Nat) (L : List Ob) (w : World), ObjsAt w a n c L → ObjF L → Calls Try.prog 20 #[.slice a n c] w fun e w' => e = .returned (.int .i64 (levelO L)) ∧ Ext w w'
  find : ∀ (a : Option Addr) (n c : Nat) (L : List Ob) (id : Int) (w : World), ObjsAt w a n c L → ObjF L → (Lit.int .i64 id).wf = true → Calls Try.prog 21 #[.slice a n c, .int .i64 id] w fun e w' => ∃ z, e = .returned (.tuple #[.agg (obC z), .bool (findO id L).isSome]) ∧ ObjAt w' z ∧ sameZ z ((findO id L).getD zeroOb) = true ∧ Ext w w'
  of : ∀ (a : Option Addr) (n c : Nat) (L : List Ob) (s : Int) (w : World), ObjsAt w a n c L → ObjF L → (Lit.int .i64 s).wf = true → Calls Try.prog 24 #[.slice a n c, .int .i64 s] w fun e w' => ∃ b m q M, e = .returned (.slice b m q) ∧ ObjsAt w' b m q M ∧ sameO M (ofO s L) = true ∧ Ext w w'
  from_ : ∀ (a : Option Addr) (n c : Nat) (L : List Ob) (s id : Int) (w : World), ObjsAt w a n c L → ObjF L → (Lit.int .i64 s).wf = true → (Lit.int .i64 id).wf = true → Calls Try.prog 50 #[.slice a n c, .int .i64 s, .int .i64 id] w fun e w' => ∃ b m q M, e = .returned (.slice b m q) ∧ ObjsAt w' b m q M ∧ sameO M (fromO s id L) = true ∧ Ext w w'
  same : ∀ (a b : Option Addr) (n m c d : Nat) (L M : List Ob) (w : World), ObjsAt w a n c L → ObjsAt w b m d M → ObjF L → ObjF M → Calls Try.prog 23 #[.slice a n c, .slice b m d] w fun e w' => e = .returned (.bool (sameO L M)) ∧ Ext w w'
  size : ∀ (z : Ob) (w : World), ObjAt w z → z.n ≤ 1000000 → Calls Try.prog 22 #[.agg (obC z)] w fun e w' => e = .returned (.int .i64 (2 + (z.n : Int))) ∧ Ext w w'
end Go.Proofs.Ythdkhdbabohohaa
