/-
  THE LAWS OF LAYER 25: both, for whatever comes in (package send's contracts as premises).
-/
import Derived.Test.YtebhalehgpigoaaLaw25B
namespace Go.Proofs.Ytebhalehgpigoaa
open Go.RowKit
set_option linter.unusedVariables false
set_option maxRecDepth 100000

theorem u8_bd25 {f : Nat → Int} {n : Nat} (h : ∀ i, i < n → (Lit.int .u8 (f i)).wf = true) : ∀ i, i < n → 0 ≤ f i ∧ f i < 256 := fun i hi => by have := h i hi; simp [Lit.wf, IntKind.min, IntKind.max, IntKind.signed, IntKind.bits] at this; omega
set_option maxHeartbeats 4000000 in
theorem sendPlans.many (K : SendC) (a : Option Addr) (n cp : Nat) (T c s l u : Int) (w : World) (hn : ¬ n ≤ 600) :
    Calls Try.prog 3 #[.slice a n cp, .int .i64 T, timesC c s l u] w fun e w' => e = .returned (.bool true) ∧ Ext w w' := by
  have HS := Lib.hid (fun w' => sure25 K w')
  have hn' : (600 : Int) < (n : Int) := by omega
  clear hn K
  unfold timesC
  go_enter Try.func3, Try.ntmps3
  go_wp2_with fail
  refine (HS.out _).mono ?_; rintro e w1 ⟨rfl, x1⟩
  go_wp2
  go_ret
  exact ⟨rfl, (Ext.alloc _ _).trans x1⟩
theorem sendPlans.walk0 (K : SendC) (a : Option Addr) (n cp : Nat) (f : Nat → Int) (T c s l u : Int) (w : World) (ha : Holds .u8 w a n f) (hnc : n ≤ cp) (hcr : cp * 1 ≤ 140737488351232) (hf : ∀ i, i < n → (Lit.int .u8 (f i)).wf = true) (wT : (Lit.int .i64 T).wf = true) (wc : (Lit.int .i64 c).wf = true) (ws : (Lit.int .i64 s).wf = true) (wl : (Lit.int .i64 l).wf = true) (wu : (Lit.int .i64 u).wf = true) :
    Calls Try.prog 3 #[.slice a n cp, .int .i64 T, timesC c s l u] w fun e w' => e = .returned (.bool true) ∧ Ext w w' := by
  by_cases hn : n ≤ 600
  · exact sendPlans.few K a n cp f T c s l u w ha hnc (by unfold maxLen; omega) (u8_bd25 hf) wT wc ws wl wu hn
  · exact sendPlans.many K a n cp T c s l u w hn
set_option maxHeartbeats 8000000 in
theorem sendWhole.no (K : SendC) (a : Option Addr) (n cp : Nat) (T c s l u : Int) (w : World) (h : (256 < n ∨ n = 0) ∨ (n ≤ 256 ∧ 0 < n ∧ (rightB c s l u = false ∨ (rightB c s l u = true ∧ T < 0) ∨ (rightB c s l u = true ∧ ¬ T < 0 ∧ 549755813888 < T)))) :
    Calls Try.prog 4 #[.slice a n cp, .int .i64 T, timesC c s l u] w fun e w' => e = .returned (.bool true) ∧ Ext w w' := by
  have HS := Lib.hid (fun w' => sure25 K w')
  have hr := fun w => rright_any c s l u w
  clear K
  unfold timesC
  rcases h with (h | rfl) | ⟨h1, h2, h⟩
  · have hn' : (256 : Int) < (n : Int) := by omega
    clear h hr
    go_enter Try.func4, Try.ntmps4
    go_wp2_with fail
    refine (HS.out _).mono ?_; rintro e w1 ⟨rfl, x1⟩
    go_wp2
    go_ret
    exact ⟨rfl, (Ext.alloc _ _).trans x1⟩
  · clear hr
    go_enter Try.func4, Try.ntmps4
    go_wp2_with fail
    refine (HS.out _).mono ?_; rintro e w1 ⟨rfl, x1⟩
    go_wp2
    go_ret
    exact ⟨rfl, (Ext.alloc _ _).trans x1⟩
  · have m1 : ¬ (256 : Int) < (n : Int) := by omega
    have m2 : ((n : Int) == 0) = false := by simp; omega
    clear h1 h2
    rcases h with h | ⟨h, h3⟩ | ⟨h, h3, h4⟩
    all_goals
      rw [h] at hr
      clear h
      go_enter Try.func4, Try.ntmps4
      go_wp2_with fail
      refine (hr _).mono ?_; rintro e w1 ⟨rfl, x1⟩
      clear hr
      go_wp2_with fail
      refine (HS.out _).mono ?_; rintro e w2 ⟨rfl, x2⟩
      go_wp2
      go_ret
      exact ⟨rfl, ((Ext.alloc _ _).trans x1).trans x2⟩
theorem sendWhole.walk0 (K : SendC) (a : Option Addr) (n cp : Nat) (f : Nat → Int) (T c s l u : Int) (w : World) (ha : Holds .u8 w a n f) (hnc : n ≤ cp) (hcr : cp * 1 ≤ 140737488351232) (hf : ∀ i, i < n → (Lit.int .u8 (f i)).wf = true) (wT : (Lit.int .i64 T).wf = true) (wc : (Lit.int .i64 c).wf = true) (ws : (Lit.int .i64 s).wf = true) (wl : (Lit.int .i64 l).wf = true) (wu : (Lit.int .i64 u).wf = true) :
    Calls Try.prog 4 #[.slice a n cp, .int .i64 T, timesC c s l u] w fun e w' => e = .returned (.bool true) ∧ Ext w w' := by
  by_cases h1 : n ≤ 256 ∧ 0 < n
  · cases hR : rightB c s l u
    · exact sendWhole.no K a n cp T c s l u w (.inr ⟨h1.1, h1.2, .inl hR⟩)
    · by_cases h0 : T < 0
      · exact sendWhole.no K a n cp T c s l u w (.inr ⟨h1.1, h1.2, .inr (.inl ⟨hR, h0⟩)⟩)
      · by_cases h2 : 549755813888 < T
        · exact sendWhole.no K a n cp T c s l u w (.inr ⟨h1.1, h1.2, .inr (.inr ⟨hR, h0, h2⟩)⟩)
        · exact sendWhole.yes K a n cp f T c s l u w ha hnc (by unfold maxLen; omega) (u8_bd25 hf) wT wc ws wl wu h1.1 h1.2 hR (by omega) (by omega)
  · exact sendWhole.no K a n cp T c s l u w (.inl (by omega))
end Go.Proofs.Ytebhalehgpigoaa
