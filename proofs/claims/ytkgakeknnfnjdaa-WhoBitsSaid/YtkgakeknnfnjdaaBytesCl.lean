/-
  bytes.Clone (taken out of XObjD).
-/
import Derived.Test.YtkgakeknnfnjdaaRef01
import Derived.Test.YtkgakeknnfnjdaaKeep
import Derived.Test.YtkgakeknnfnjdaaAppend
import Derived.Test.YtkgakeknnfnjdaaStepAppend
namespace Go.Proofs.Ytkgakeknnfnjdaa
open Go.RowKit
set_option linter.unusedVariables false
set_option maxRecDepth 100000

theorem Try.infoU8c : (Try.prog.info? 5).map (fun i => (i.zero, i.size, i.bytes)) = some (some (.int .u8 0), 1, 1) := by kernel_rfl
theorem cnil_v (a : Option Addr) (n c : Nat) (w : World) : (binOp .eql 30 (.slice a n c) (.slice none 0 0)).run Try.prog w = .ok (.bool a.isNone) w :=
  Lib.run_eql_slice_nil w 30 5 a n c 0 0 Try.underlying30
theorem clone_any (a : Option Addr) (n c : Nat) (f : Nat → Int) (w : World) (h : Holds .u8 w a n f) (hn : n ≤ 1000000) :
    Calls Try.prog 22 #[.slice a n c] w fun e w' => ∃ b q, e = .returned (.slice b n q) ∧ Holds .u8 w' b n f ∧ n ≤ q ∧ q ≤ maxLen ∧ Fresh w b ∧ Ext w w' := by
  obtain ⟨iU, hiU, hzU0, hzU1, hzU2⟩ := info_parts Try.infoU8c
  have hnil := fun w => cnil_v a n c w
  cases a with
  | none =>
    have h0 : n = 0 := by
      rcases h with h | ⟨b, off, ha, _⟩
      · exact h
      · cases ha
    subst h0
    clear h
    go_enter Try.func22, Try.ntmps22
    go_wp2
    go_ret
    exact ⟨none, 0, rfl, .inl rfl, Nat.le_refl _, Nat.zero_le _, (fun p hp => by cases hp), Ext.refl _⟩
  | some p =>
    have x1 := Ext.alloc w (.cells #[] 5)
    have hg := heap_alloc_new w (.cells #[] 5)
    have h1 := h.ext x1
    have HW := Lib.hid x1
    have hb1 : w.heap.size ≤ (w.alloc (.cells #[] 5)).heap.size := x1.size
    clear h x1
    go_enter Try.func22, Try.ntmps22
    go_wp2_with (at_builtin; refine wpList_append_holds (mk := Value.int .u8) rfl _ _ 30 rfl w.heap.size 5 iU (.int .u8 0) 1 Try.underlying30 hiU hzU0 hzU1 hzU2 rfl _ 0 [] rfl (own_empty hg (Nat.le_refl _)) (some p) n c f rfl h1 (fun _ => rfl) (by unfold maxLen; omega) (by omega) hb1 ?_; intro v' w2 hown _ hb)
    rw [Nat.zero_add, List.nil_append] at hown
    obtain ⟨b, q, rfl, h1, h2, h3, h4⟩ := Holds.of_own_at hown
    go_ret
    exact ⟨b, q, rfl, h3, h1, h2, h4, Below.trans HW.out hb⟩

end Go.Proofs.Ytkgakeknnfnjdaa
