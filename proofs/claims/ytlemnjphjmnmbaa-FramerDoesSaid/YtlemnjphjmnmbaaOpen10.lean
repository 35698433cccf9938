/-
  WHAT COMES IN, OPENED: calls of a framer (layer 10's 'Op').
-/
import Derived.Test.YtlemnjphjmnmbaaOpenA
namespace Go.Proofs.Ytlemnjphjmnmbaa
open Go.RowKit Go.ChangeShapes Go.WideShapes Go.ChangeAt Go.Joins Go.Deep

/-- A call: its kind, when, the byte, whether it is spoilt. -/
abbrev Opc := Int × Int × Int × Bool
def opc (x : Opc) : List Value := [.int .i64 x.1, .int .i64 x.2.1, .int .u8 x.2.2.1, .bool x.2.2.2]
theorem opc_length (x : Opc) : (opc x).length = 4 := rfl
theorem ops_in {H : Type} {enc : TypeId × Value → H} {w : World} {fuel : Nat} {a : Option Addr} {len cap : Nat} {y : DataW H × List MemPlace} (h : DataW.trod enc Try.prog w 0 (fun _ => true) true fuel 24 [.slice a len cap] = some y) (hl : Light Try.prog 24 y.1) :
    ∃ O : List Opc, HoldsL 4 opc w a O ∧ O.length = len ∧ len ≤ cap ∧ cap ≤ 5864062014634 ∧ ∀ x ∈ O, (Lit.int .i64 x.1).wf = true ∧ (Lit.int .i64 x.2.1).wf = true ∧ (Lit.int .u8 x.2.2.1).wf = true := by
  obtain ⟨V, hV, hle, hr, hf⟩ := rows_in (sz := 4) (B := 24) Try.underlying24 Try.underlying35 (by kernel_rfl) rfl (by kernel_rfl) (by omega) (by kernel_rfl) h hl
  have h0 : ∀ i, i < len → V i 0 = .int .i64 (numOf (V i 0)) ∧ (Lit.int .i64 (numOf (V i 0))).wf = true := fun i hi => by
    obtain ⟨n, z, e⟩ := hf i hi 0 _ rfl; exact num_in Try.underlying3 e
  have h1 : ∀ i, i < len → V i 1 = .int .i64 (numOf (V i 1)) ∧ (Lit.int .i64 (numOf (V i 1))).wf = true := fun i hi => by
    obtain ⟨n, z, e⟩ := hf i hi 1 _ rfl; exact num_in Try.underlying3 e
  have h2 : ∀ i, i < len → V i 2 = .int .u8 (numOf (V i 2)) ∧ (Lit.int .u8 (numOf (V i 2))).wf = true := fun i hi => by
    obtain ⟨n, z, e⟩ := hf i hi 2 _ rfl; exact num_in Try.underlying5 e
  have h3 : ∀ i, i < len → V i 3 = .bool (boolOf (V i 3)) := fun i hi => by
    obtain ⟨n, z, e⟩ := hf i hi 3 _ rfl
    obtain ⟨b, hb, -⟩ := DataW.trod_bool Try.underlying4 e
    simp only [List.cons.injEq, and_true] at hb
    rw [hb]; rfl
  refine ⟨((List.range len).map V).map (fun x => (numOf (x 0), numOf (x 1), numOf (x 2), boolOf (x 3))), hV.map _ ?_, by simp, hle, by omega, ?_⟩
  · intro x hx
    obtain ⟨i, hi, rfl⟩ := List.mem_map.1 hx
    have hi := List.mem_range.1 hi
    show [V i 0, V i 1, V i 2, V i 3] = _
    unfold opc
    rw [← (h0 i hi).1, ← (h1 i hi).1, ← (h2 i hi).1, ← h3 i hi]
  · intro x hx
    obtain ⟨v, hv, rfl⟩ := List.mem_map.1 hx
    obtain ⟨i, hi, rfl⟩ := List.mem_map.1 hv
    have hi := List.mem_range.1 hi
    exact ⟨(h0 i hi).2, (h1 i hi).2, (h2 i hi).2⟩
end Go.Proofs.Ytlemnjphjmnmbaa
