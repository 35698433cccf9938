/-
  CONTRACTS: package send (layer 25): the times that go on (goingOn), bytes told with them (sent), over, mayBe.
-/
import Derived.Test.YtebhalehgpigoaaSendC
import Derived.Test.YtebhalehgpigoaaRangeS
import Derived.Test.YtebhalehgpigoaaMidArr
import Derived.Test.YtebhalehgpigoaaStepStore
import Derived.Deep.LoopGhost
import Derived.Deep.DeepCutAuto
namespace Go.Proofs.Ytebhalehgpigoaa
open Go.RowKit
set_option linter.unusedVariables false
set_option maxRecDepth 100000
attribute [local go_sem] Oper.semAt_some

theorem kmay (z : Int) (w : World) : Calls Try.prog 19 #[.int .i64 z] w fun e w' => e = .returned (.bool (clampI z == z)) ∧ w = w' := by
  have HC := Lib.hid (fun w => kclamp_in z w)
  generalize clampI z = Z at HC ⊢
  go_enter Try.func19, Try.ntmps19
  go_wp2_with fail
  refine (HC.out _).mono ?_; rintro e w1 ⟨rfl, rfl⟩
  go_wp2
  go_ret
  exact ⟨rfl, rfl⟩
def goV (G S : Nat) : Value := .func (.func 30) #[] #[.pointer (some ⟨G, 0, none⟩), .pointer (some ⟨S, 0, none⟩)]
def sentV (bL bN : Nat) : Value := .func (.func 29) #[] #[.pointer (some ⟨bL, 0, none⟩), .pointer (some ⟨bN, 0, none⟩)]
/-- A function that tells times: where the next one lies, and what is added. -/
theorem going_new (F c : Int) (w : World) : Calls Try.prog 21 #[.int .i64 F, .int .i64 c] w fun e w' => ∃ G S, e = .returned (goV G S) ∧ w'.heap[G]? = some (.cells #[.int .i64 F] 3 (0, 0)) ∧ w'.heap[S]? = some (.cells #[.int .i64 c] 3 (0, 0)) ∧ G ≠ S ∧ w.heap.size ≤ G ∧ w.heap.size ≤ S ∧ Ext w w' := by
  unfold goV
  go_enter Try.func21, Try.ntmps21
  go_wp2
  go_ret
  refine ⟨w.heap.size + 1, w.heap.size, rfl, ?_, ?_, by omega, by omega, Nat.le_refl _, (Ext.alloc _ _).alloc' _⟩
  · exact heap_new_at _ _ (by simp)
  · exact (heap_alloc_old _ _ (by simp)).trans (heap_alloc_new w _)
theorem next_any (G S : Nat) (A c : Int) (W : World) (hG : W.heap[G]? = some (.cells #[.int .i64 A] 3 (0, 0))) (hS : W.cell? ⟨S, 0, none⟩ = some (.int .i64 c)) (hA : (Lit.int .i64 A).wf = true) (hc : (Lit.int .i64 c).wf = true) (hne : G ≠ S) :
    Calls Try.prog 30 #[.pointer (some ⟨G, 0, none⟩), .pointer (some ⟨S, 0, none⟩)] W fun e W' => e = .returned (.int .i64 A) ∧ W'.heap[G]? = some (.cells #[.int .i64 (addI A c)] 3 (0, 0)) ∧ Keep (· = G) W W' := by
  have c0 := cell_of_heap (j := 0) hG rfl
  have HA := Lib.hid (fun w => kadd_any A c w hA hc)
  have HG := Lib.hid hG
  clear hA hc hG
  go_enter Try.func30, Try.ntmps30
  go_wp2_with fail
  refine (HA.out _).mono ?_; rintro e w1 ⟨rfl, x1⟩
  have g1 := x1.block HG.out
  have d0 := cell_of_heap (j := 0) g1 rfl
  have f0 := frozen_of_row _ _ 0 _ _ g1
  have HX := Lib.hid x1
  have HG1 := Lib.hid g1
  clear x1 g1 c0
  go_wp2
  go_ret
  exact ⟨rfl, heap_setCell_same _ _ _ _ _ _ HG1.out, (Keep.of_ext HX.out).trans (keepCellM w1 G 0 _) (fun i hi => .inl hi)⟩
theorem sent_new (a : Option Addr) (n cp G S : Nat) (w : World) : Calls Try.prog 20 #[.slice a n cp, goV G S] w fun e w' => ∃ bL bN, e = .returned (sentV bL bN) ∧ w'.cell? ⟨bL, 0, none⟩ = some (.slice a n cp) ∧ w'.cell? ⟨bN, 0, none⟩ = some (goV G S) ∧ w.heap.size ≤ bL ∧ w.heap.size ≤ bN ∧ Ext w w' := by
  unfold goV sentV
  go_enter Try.func20, Try.ntmps20
  go_wp2
  go_ret
  refine ⟨w.heap.size, w.heap.size + 1, rfl, ?_, ?_, Nat.le_refl _, by omega, (Ext.alloc _ _).alloc' _⟩
  · exact cell_of_heap (j := 0) ((heap_alloc_old _ _ (by simp)).trans (heap_alloc_new w _)) rfl
  · exact cell_of_heap (j := 0) (heap_new_at _ _ (by simp)) rfl
/-- The memory that the iterator reads. -/
structure SnM (W : World) (bL bN G S : Nat) (a : Option Addr) (n cp : Nat) (f : Nat → Int) (A c : Int) : Prop where
  cL : W.cell? ⟨bL, 0, none⟩ = some (.slice a n cp)
  cN : W.cell? ⟨bN, 0, none⟩ = some (goV G S)
  cS : W.cell? ⟨S, 0, none⟩ = some (.int .i64 c)
  cG : W.heap[G]? = some (.cells #[.int .i64 A] 3 (0, 0))
  el : Holds .u8 W a n f
set_option maxHeartbeats 4000000 in
theorem sent1_any (l₀ bL bN G S : Nat) (a : Option Addr) (n cp : Nat) (f at_ : Nat → Int) (c : Int) (hne : G ≠ S) (hn : n ≤ 1000000) (hAt : ∀ k, (Lit.int .i64 (at_ k)).wf = true) (hc : (Lit.int .i64 c).wf = true) (hs : ∀ k, k < n → addI (at_ k) c = at_ (k + 1))
    (J : Nat → World → Prop) (W : World) (hMem : ∀ k W, J k W → SnM W bL bN G S a n cp f (at_ k) c)
    (hY : ∀ k W0 W1, J k W0 → Keep (· = G) W0 W1 → W1.heap[G]? = some (.cells #[.int .i64 (at_ (k + 1))] 3 (0, 0)) → k < n → YieldAt Fence.wide 0 Try.prog l₀ #[.int .i64 (at_ k), .int .u8 (f k)] W1 fun e W' => e = .returned (.bool true) ∧ J (k + 1) W')
    (h0 : J 0 W) :
    Calls Try.prog 29 #[.func (.yield l₀) #[] #[], .pointer (some ⟨bL, 0, none⟩), .pointer (some ⟨bN, 0, none⟩)] W fun e W' => (∃ v, e = .returned v) ∧ J n W' := by
  have c1 := (hMem 0 W h0).cL
  have HMem := Lib.hid hMem; have HY := Lib.hid hY; have H0 := Lib.hid h0; have HN := Lib.hid hn
  have HNx := Lib.hid (fun k W (hk : k < n) (h : SnM W bL bN G S a n cp f (at_ k) c) => hs k hk ▸ next_any G S (at_ k) c W h.cG h.cS (hAt k) hc hne)
  clear hMem hY h0 hs hAt hc hne
  go_enter Try.func29, Try.ntmps29
  go_wp2
  go_loopw [8] (fun iv wr => ∃ i : Nat, i ≤ n ∧ iv = .int .i64 i ∧ J i wr) (fun iv _ => n - (intOf iv).toNat)
  case atStart => exact ⟨0, Nat.zero_le _, rfl, H0.out⟩
  case round =>
    clear c1
    obtain ⟨i, hi, rfl, hJ⟩ := hrel
    by_cases hlt : i < n
    · have hm := HMem.out _ _ hJ
      obtain ⟨p, o, rfl, hp, hcf⟩ := hm.el.resolve_left (by omega)
      have a0 := hcf i hlt
      have c2 := hm.cN
      have hlt' : (i : Int) < n := by omega
      have wk : IntKind.i64.wrap ((i : Int) + 1) = (i : Int) + 1 := IntWalk.i64_in _ (by omega)
      have HC := Lib.hid (HNx.out i wr hlt hm)
      have HYi := Lib.hid (fun W1 h1 h2 => HY.out i wr W1 hJ h1 h2 hlt)
      have HLt := Lib.hid hlt
      generalize at_ i = A at HC HYi
      unfold goV at c2
      clear hm hcf hp hJ hlt
      go_upto_region 3 with fail
      refine (wpIn_wide (n := 0)).1 ?_
      gi_wp2_with fail
      refine ⟨trivial, rfl, callsIn_wide.2 (HC.out.mono ?_)⟩; rintro e w1 ⟨rfl, hG, hk⟩
      obtain ⟨fn, tmps, assign, body, hy, hR⟩ := HYi.out w1 hk hG
      gi_wp2_with fail
      refine ⟨rfl, hR.mono ?_⟩
      rintro e W3 ⟨rfl, hJ3⟩
      clear hR hy hG hk
      gi_wp2_with fail
      go_wp2_with fail
      go_roundw
      case rel => exact ⟨i + 1, by have := HLt.out; omega, by go_num, hJ3⟩
      case measure => have := HLt.out; simp [intOf]; omega
    · have hin : i = n := by omega
      subst hin
      have HJ := Lib.hid hJ
      clear hJ
      go_wp2
      first
        | (refine bodyPost_ret (results_none rfl _ _ _) rfl ?_)
        | go_end0
      exact ⟨⟨_, rfl⟩, HJ.out⟩
end Go.Proofs.Ytebhalehgpigoaa
