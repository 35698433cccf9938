/-
  THE WALKS OF LAYER 7, as the frames want them: RingLast.
-/
import Derived.Test.YtlbcpndljnnhhaaLaw07C
namespace Go.Proofs.Ytlbcpndljnnhhaa
open Go.RowKit
theorem wf8b {z : Int} (h : (Lit.int .u8 z).wf = true) : 0 ≤ z ∧ z < 256 := by
  simp [Lit.wf, IntKind.min, IntKind.max, IntKind.signed, IntKind.bits] at h; omega
set_option maxRecDepth 100000 in
set_option maxHeartbeats 2000000 in
theorem ringLast.walk (qa qb : Int) (a : Option Addr) (n c : Nat) (f : Nat → Int) (w : World) (h1 : (Lit.int .u8 qa).wf = true) (h2 : (Lit.int .u8 qb).wf = true) (ha : Holds .u8 w a n f) (hc : n ≤ c) (hr : c * 1 ≤ 140737488351232) (hf : ∀ i, i < n → (Lit.int .u8 (f i)).wf = true) :
    Calls Try.prog 4 #[.int .u8 qa, .int .u8 qb, .slice a n c] w fun e w' => e = .returned (.bool true) ∧ Ext w w' := by
  obtain ⟨a0, a1⟩ := wf8b h1
  obtain ⟨b0, b1⟩ := wf8b h2
  have hn' : n ≤ 9223372036854775807 := by omega
  by_cases h300 : (300 : Int) < n
  · clear ha hf hc hr h1 h2
    go_enter Try.func4, Try.ntmps4
    go_wp2_with fail
    refine (sure7_any _).mono ?_; rintro e w1 ⟨rfl, x1⟩
    go_wp2
    go_ret
    exact ⟨rfl, x1⟩
  · exact ringLast.small qa qb a n c f w ha (by omega) (fun i hi => wf8b (hf i hi)) a0 a1 b0 b1
end Go.Proofs.Ytlbcpndljnnhhaa
