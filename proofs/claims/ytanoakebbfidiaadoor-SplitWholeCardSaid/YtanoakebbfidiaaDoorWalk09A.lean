/-
  THE WALKS OF LAYER 9, as the frames want them: SplitFaults .
-/
import Derived.Test.YtanoakebbfidiaaDoorOpenA
import Derived.Test.YtanoakebbfidiaaDoorLaw09A
import Derived.Test.YtanoakebbfidiaaDoorSure09
namespace Go.Proofs.YtanoakebbfidiaaDoor
open Go.RowKit
set_option linter.unusedVariables false
theorem splitFaults.long (A : Option Addr) (c : Nat) (s : Seg) (B : Option Addr) (d : Nat) (t : Seg) (w : World) (hr : Rd w) (hc : s.n ≤ c) (hcm : c ≤ 140737488351232) (hd : t.n ≤ d) (hdm : d ≤ 140737488351232) (h : 700 < s.n + t.n) :
    Calls Tryd.prog 4 #[.agg (segC A c s), .agg (segC B d t)] w fun e w' => e = .returned (.bool true) ∧ Ext w w' := by
  have h7 : (700 : Int) < (s.n : Int) + (t.n : Int) := by omega
  have hw7 : IntKind.i64.wrap ((s.n : Int) + (t.n : Int)) = (s.n : Int) + (t.n : Int) := by rw [IntKind.wrap_i64]; omega
  obtain ⟨w2, hw2⟩ : ∃ w2, w2 = (w.alloc (.cells (segC A c s) 33)).alloc (.cells (segC B d t) 33) := ⟨_, rfl⟩
  have x2 : Ext w w2 := by rw [hw2]; exact (Ext.alloc _ _).alloc' _
  have hs := sure9_any w2 (hr.ext x2)
  obtain ⟨n, f, t0, t1, k, g, b⟩ := s
  obtain ⟨m, f', t0', t1', k', g', b'⟩ := t
  unfold segC at hw2 ⊢
  simp only at h7 hw7 hw2 ⊢
  clear hr hc hcm hd hdm h
  go_enter Tryd.func4, Tryd.ntmps4
  go_wp2_with fail
  rw [← hw2]
  refine hs.mono ?_; rintro e w3 ⟨rfl, x3⟩
  clear hs hw2
  go_wp2
  go_ret
  exact ⟨rfl, x2.trans x3⟩
theorem splitFaults.walk (A : Option Addr) (c : Nat) (s : Seg) (B : Option Addr) (d : Nat) (t : Seg) (w : World) (hr : Rd w) (ha : Holds .u8 w A s.n s.f) (hc : s.n ≤ c) (hcm : c ≤ 140737488351232) (hs : SegB s)
    (_h1 : (Lit.int .i64 s.first).wf = true) (_h2 : (Lit.int .i64 s.last).wf = true) (_h3 : (Lit.int .i64 s.count).wf = true) (hb : Holds .u8 w B t.n t.f) (hd : t.n ≤ d) (hdm : d ≤ 140737488351232) (ht : SegB t)
    (_k1 : (Lit.int .i64 t.first).wf = true) (_k2 : (Lit.int .i64 t.last).wf = true) (_k3 : (Lit.int .i64 t.count).wf = true) :
    Calls Tryd.prog 4 #[.agg (segC A c s), .agg (segC B d t)] w fun e w' => e = .returned (.bool true) ∧ Ext w w' := by
  by_cases h700 : s.n + t.n ≤ 700
  · exact splitFaults.any A B c d s t w hr ha hc (by unfold maxLen; omega) hs hb hd (by unfold maxLen; omega) ht h700 sure9_any
  · exact splitFaults.long A c s B d t w hr hc hcm hd hdm (by omega)
end Go.Proofs.YtanoakebbfidiaaDoor
