/-
  CONTRACTS: bilgeref20 (layer 20).
-/
import Derived.Test.YtkgakeknnfnjdaaObjM
import Derived.Test.YtkgakeknnfnjdaaRef01
import Derived.Test.YtkgakeknnfnjdaaAppendL
import Derived.Test.YtkgakeknnfnjdaaStepAppend
import Derived.Test.YtkgakeknnfnjdaaStepStore
import Derived.Test.YtkgakeknnfnjdaaStructs
import Derived.Deep.LoopGhost
import Derived.Deep.DeepCutAuto
namespace Go.Proofs.Ytkgakeknnfnjdaa
open Go.RowKit
set_option linter.unusedVariables false
set_option maxRecDepth 100000

theorem ris_step {p : Int} {z : Ob} {L M : List Ob} {k : Nat} (hk : k < L.length) (e : L[k] = z) : (risO p (L.drop k) && firO M) = (okO z && decide (p < z.id) && risO z.id (L.drop (k + 1)) && firO M) := by
  rw [List.drop_eq_getElem_cons hk, e]; rfl
def obC (z : Ob) : Array Value := #[.int .i64 z.id, .slice z.a z.n z.c]
theorem findO_drop {id : Int} {L : List Ob} {k : Nat} {z : Ob} (hk : k < L.length) (e : L[k] = z) : findO id (L.drop k) = if z.id = id then some z else findO id (L.drop (k + 1)) := by
  rw [List.drop_eq_getElem_cons hk, e]; rfl
theorem ofO_take {s : Int} {L : List Ob} {k : Nat} {z : Ob} (hk : k < L.length) (e : L[k] = z) : ofO s (L.take (k + 1)) = if ofI s z.id = true then ofO s (L.take k) ++ [z] else ofO s (L.take k) := by
  unfold ofO
  rw [List.take_succ_eq_append_getElem hk, e, List.filter_append, List.filter_cons]
  split
  · rfl
  · simp
theorem ofO_len (s : Int) (L : List Ob) : (ofO s L).length ≤ L.length := List.length_filter_le _ _
theorem atO_step {id : Int} {L : List Ob} {k : Nat} {z : Ob} (hk : k < L.length) (e : L[k] = z) : atO id (L.drop k) = if z.id = id then L.drop k else atO id (L.drop (k + 1)) := by
  rw [List.drop_eq_getElem_cons hk, e]; rfl
theorem ObjsAt.drop {w : World} {b o n c : Nat} {L : List Ob} (h : ObjsAt w (some ⟨b, o, none⟩) n c L) {k : Nat} (hk : k ≤ n) : ObjsAt w (some ⟨b, o + k * 2, none⟩) (n - k) (c - k) (L.drop k) :=
  ⟨by rw [List.length_drop, h.len], h.h.dropL k, by have := h.l; omega, by have := h.m; omega, fun z hz => h.each z (List.mem_of_mem_drop hz)⟩
theorem sameO_step {L M : List Ob} {k : Nat} {x y : Ob} (hk : k < L.length) (hk' : k < M.length) (e : L[k] = x) (e' : M[k] = y) : sameO (L.drop k) (M.drop k) = (decide (x.id = y.id) && eqB x.n y.n x.f y.f && sameO (L.drop (k + 1)) (M.drop (k + 1))) := by
  rw [List.drop_eq_getElem_cons hk, List.drop_eq_getElem_cons hk', e, e']; rfl
end Go.Proofs.Ytkgakeknnfnjdaa
