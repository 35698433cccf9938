/-
  bilgelaw03.PolyParts returns true for every input, and its arguments read afterwards as they read before; no condition. (The frame of the proof; the walk lies in Law03D.)
-/
import Derived.Test.YtfhoaaocjaleaaaLaw03D
import Derived.Test.YtfhoaaocjaleaaaOpen
import Derived.ProofKit
import Derived.OpenShut
import Derived.ShutString
import Derived.ChangeOld
import Derived.SizedLaws
namespace Go.Proofs.Ytfhoaaocjaleaaa.polyParts
open Go.ChangeShapes Go.WideShapes Go.ChangeAt Go.RowKit
open Go.ChangeMaps (open_string shut_string)
set_option linter.unusedVariables false

theorem own : ownKnob Try.prog.godebug = none := by kernel_rfl
theorem laidOut : laidOutB Try.prog = true := by kernel_rfl

set_option maxRecDepth 100000 in
theorem lifted (os : Os) (started : os.Started) (H : Type) (enc : TypeId × Value → H) :
    ReturnsInHanded {} Try.checked os 5 .any (Rows.polyPartsSpec.pre6 enc Try.prog Try.f5 Rows.polyPartsRow.domain false) (Rows.polyPartsSpec.post enc Try.prog Try.f5 false true false false) := by
  refine returnsInHanded_of_change_sized (C := Try.checked) own started (by kernel_rfl) Try.func5
    (ChangeSpec.witness6 (enc := enc) (C := Try.checked) false ⟨#[], #[.agg #[.int .u16 0, .int .u16 0], .agg #[.slice none 0 0, .slice none 0 0]], []⟩ 8 (by kernel_rfl) (by kernel_rfl) (by kernel_rfl) (by kernel_rfl)) ?_
  intro W base args ds gs before hval0 hW hcnd hsz0 _
  have hsz1 : (DataW.weightsEach Try.prog (Try.f5.params.toList ++ Rows.polyPartsSpec.plain.varTypes Try.prog) (ds ++ gs)).all (· ≤ reachBytes) = true := hsz0
  have hval : ∀ (j : Nat) t v, Try.f5.params[j]? = some t → args[j]? = some v → Value.okWide Try.prog W .any base t v := hval0
  have hW' := hW
  obtain ⟨p, q, hA0, hV, rfl, hfz, hnd⟩ := hW
  have hA : DataW.TrodAll enc Try.prog W 0 (fun _ => true) true Try.f5.params.toList args.toList ds p := hA0
  rw [Try.params5] at hA hval hsz1
  obtain ⟨v0, vs0, d0, ds0, p0, q0, hargs, rfl, rfl, h0, r0⟩ := trodAll_cons hA
  obtain ⟨v1, vs1, d1, ds1, p1, q1, rfl, rfl, rfl, h1, r1⟩ := trodAll_cons r0
  obtain ⟨rfl, rfl, rfl⟩ := trodAll_nil r1
  obtain rfl : args = #[v0, v1] := by cases args; simp_all
  obtain ⟨rfl, rfl⟩ := trodVars_none hV
  have hsz := hsz1
  clear hsz0 hsz1
  have k0 := h0
  have lt0 : ∀ x ∈ p0, x.block < W.heap.size := by obtain ⟨m, hm⟩ := k0; exact DataW.trod_lt m _ _ _ hm
  have li0 := light_of hsz (j := 0) rfl rfl
  obtain ⟨c00, c01, y00, y01, fu0, rfl, hf00, hf01, _, _⟩ := array2_in Try.underlying31 (by kernel_rfl) (by kernel_rfl) (hval 0 31 v0 rfl rfl) h0 li0
  obtain ⟨a00, hc00, _, w00⟩ := DataW.trod_int Try.underlying22 hf00
  obtain ⟨a01, hc01, _, w01⟩ := DataW.trod_int Try.underlying22 hf01
  simp only [List.cons.injEq, and_true] at hc00 hc01
  subst hc00 hc01
  have k1 := h1
  have lt1 : ∀ x ∈ p1, x.block < W.heap.size := by obtain ⟨m, hm⟩ := k1; exact DataW.trod_lt m _ _ _ hm
  have li1 := light_of hsz (j := 1) rfl rfl
  obtain ⟨c10, c11, y10, y11, fu1, rfl, hf10, hf11, li10, li11⟩ := array2_in Try.underlying32 (by kernel_rfl) (by kernel_rfl) (hval 1 32 v1 rfl rfl) h1 li1
  obtain ⟨a10, len10, cap10, hc10⟩ := Joins.slice_form Try.underlying23 hf10
  simp only [List.cons.injEq, and_true] at hc10
  subst hc10
  obtain ⟨g10, e10, m10, z10, b10⟩ := row_in (k := .u8) (B := 1) Try.underlying23 Try.underlying5 (by kernel_rfl) (by kernel_rfl) hf10 li10
  obtain ⟨a11, len11, cap11, hc11⟩ := Joins.slice_form Try.underlying23 hf11
  simp only [List.cons.injEq, and_true] at hc11
  subst hc11
  obtain ⟨g11, e11, m11, z11, b11⟩ := row_in (k := .u8) (B := 1) Try.underlying23 Try.underlying5 (by kernel_rfl) (by kernel_rfl) hf11 li11
  clear hA0 hval0
  refine (walk a00 a01 a10 len10 cap10 g10 a11 len11 cap11 g11 W w00 w01 e10 m10 z10 b10 e11 m11 z11 b11).mono fun e W' ⟨he, bel0⟩ => ?_
  have bel : Below W.heap.size W W' := bel0.below
  subst he
  exact ⟨_, rfl, _, _, _, [], _, [], hW', trodAll_mk1 (shut_bool Try.underlying4 _), (trodAll_cons_mk (Below.trod laidOut (by kernel_rfl) (of_decide_eq_true (by kernel_rfl)) k0 bel lt0) (trodAll_cons_mk (Below.trod laidOut (by kernel_rfl) (of_decide_eq_true (by kernel_rfl)) k1 bel lt1) trodAll_mk0)), rfl, bel.frame _, fun h => by cases h⟩

theorem over : Rows.polyPartsRow.holds Try.pinned (OpenSpec.ofChange Rows.polyPartsSpec) :=
  OpenClaim.holds_of_wide 5 Try.f5 rfl rfl rfl rfl rfl rfl rfl ⟨rfl, rfl, rfl, rfl, rfl⟩ rfl rfl rfl rfl rfl (by kernel_rfl) Try.func5 (by kernel_rfl)
    (of_decide_eq_true (by kernel_rfl)) (by unfold Func.isWrapper; first | (rw [if_pos (by decide +kernel)]; kernel_rfl) | (rw [if_neg (by decide +kernel)]; exact ⟨rfl, rfl⟩))
    (fun os started H enc _ => lifted os started H enc)

/-- THE STATEMENT -/
theorem proved : Rows.PolyPartsSaid := over
#print axioms proved
end Go.Proofs.Ytfhoaaocjaleaaa.polyParts
