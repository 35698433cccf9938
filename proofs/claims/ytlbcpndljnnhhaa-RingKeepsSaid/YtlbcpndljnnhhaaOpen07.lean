/-
  WHAT COMES IN, OPENED: calls of a ring.
-/
import Derived.Test.YtlbcpndljnnhhaaOpenS
import Derived.Test.YtlbcpndljnnhhaaLaw07B
namespace Go.Proofs.Ytlbcpndljnnhhaa
open Go.RowKit Go.ChangeShapes Go.WideShapes Go.ChangeAt Go.Joins Go.Deep

theorem wf8 {z : Int} (h : (Lit.int .u8 z).wf = true) : 0 ≤ z ∧ z < 256 := by
  simp [Lit.wf, IntKind.min, IntKind.max, IntKind.signed, IntKind.bits] at h; omega
theorem kbs_in {H : Type} {enc : TypeId × Value → H} {w : World} {fuel : Nat} {a : Option Addr} {len cap : Nat} {y : DataW H × List MemPlace} (h : DataW.trod enc Try.prog w 0 (fun _ => true) true fuel 22 [.slice a len cap] = some y) (hl : Light Try.prog 22 y.1) :
    ∃ O : List (Int × Int), HoldsL 2 kb w a O ∧ O.length = len ∧ len ≤ maxLen ∧ WfKB O := by
  obtain ⟨V, hV, hle, hr, hf⟩ := rows_in (sz := 2) (B := 16) Try.underlying22 Try.underlying28 (by kernel_rfl) rfl (by kernel_rfl) (by omega) (by kernel_rfl) h hl
  have h0 : ∀ i, i < len → V i 0 = .int .i64 (numOf (V i 0)) ∧ (Lit.int .i64 (numOf (V i 0))).wf = true := fun i hi => by
    obtain ⟨n, z, e⟩ := hf i hi 0 _ rfl; exact num_in Try.underlying3 e
  have h1 : ∀ i, i < len → V i 1 = .int .u8 (numOf (V i 1)) ∧ (Lit.int .u8 (numOf (V i 1))).wf = true := fun i hi => by
    obtain ⟨n, z, e⟩ := hf i hi 1 _ rfl; exact num_in Try.underlying5 e
  refine ⟨((List.range len).map V).map (fun x => (numOf (x 0), numOf (x 1))), hV.map _ ?_, by simp, by unfold maxLen; omega, ?_⟩
  · intro x hx
    obtain ⟨i, hi, rfl⟩ := List.mem_map.1 hx
    have hi := List.mem_range.1 hi
    have e0 := (h0 i hi).1
    have e1 := (h1 i hi).1
    show [V i 0, V i 1] = _
    unfold kb
    rw [← e0, ← e1]
  · intro x hx
    obtain ⟨v, hv, rfl⟩ := List.mem_map.1 hx
    obtain ⟨i, hi, rfl⟩ := List.mem_map.1 hv
    have hi := List.mem_range.1 hi
    exact ⟨(h0 i hi).2, wf8 (h1 i hi).2⟩
end Go.Proofs.Ytlbcpndljnnhhaa
