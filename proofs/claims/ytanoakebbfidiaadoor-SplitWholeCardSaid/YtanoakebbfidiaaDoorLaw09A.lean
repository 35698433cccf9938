/-
  THE LAWS OF LAYER 9: the walk of SplitFaults ('sure' as a premise).
-/
import Derived.Test.YtanoakebbfidiaaDoorSplitC
namespace Go.Proofs.YtanoakebbfidiaaDoor
open Go.RowKit
set_option linter.unusedVariables false

set_option maxHeartbeats 4000000 in
theorem splitFaults.any (A B : Option Addr) (c d : Nat) (s t : Seg) (w : World) (hr : Rd w) (ha : Holds .u8 w A s.n s.f) (hc : s.n ≤ c) (hcm : c ≤ maxLen) (hs : SegB s) (hb : Holds .u8 w B t.n t.f) (hd : t.n ≤ d) (hdm : d ≤ maxLen) (ht : SegB t) (h700 : s.n + t.n ≤ 700)
    (sure : ∀ w, Rd w → Calls Tryd.prog 8 #[] w fun e w' => e = .returned (.bool true) ∧ Ext w w') :
    Calls Tryd.prog 4 #[.agg (segC A c s), .agg (segC B d t)] w fun e w' => e = .returned (.bool true) ∧ Ext w w' := by
  obtain ⟨w2, hw2⟩ : ∃ w2, w2 = (w.alloc (.cells (segC A c s) 33)).alloc (.cells (segC B d t) 33) := ⟨_, rfl⟩
  have x2 : Ext w w2 := by rw [hw2]; exact (Ext.alloc _ _).alloc' _
  have hsC : ∀ i v, (segC A c s)[i]? = some v → w2.cell? ⟨w.heap.size, i, none⟩ = some v := fun i v h => by rw [hw2]; exact (Ext.alloc _ _).made i v h
  have htC : ∀ i v, (segC B d t)[i]? = some v → w2.cell? ⟨w.heap.size + 1, i, none⟩ = some v := fun i v h => by
    rw [hw2]
    have := (Ext.refl ((w.alloc (.cells (segC A c s) 33)).alloc (.cells (segC B d t) 33))).made i v h
    simpa using this
  have f1 := fun w' (x : Ext w2 w') => sfault_any A c s w' ((hr.ext x2).ext x) ((ha.ext x2).ext x) hc hcm (by omega) hs
  have f2 := fun w' (x : Ext w2 w') => rfault_any A c s w' ((ha.ext x2).ext x) hc hcm (by omega) hs
  have f3 := fun w' (x : Ext w2 w') => serrs_any A c s w' ((hr.ext x2).ext x) ((ha.ext x2).ext x) hc hcm (by omega) hs
  have f4 := fun w' (x : Ext w2 w') => rerrs_any A c s w' ((ha.ext x2).ext x) hc hcm (by omega) hs
  have f5 := fun w' (x : Ext w2 w') => ssame_any A B c d s t w' ((ha.ext x2).ext x) ((hb.ext x2).ext x) hs ht
  have f6 := fun w' (x : Ext w2 w') => rsame_any A B c d s t w' ((ha.ext x2).ext x) ((hb.ext x2).ext x) (by omega) (by omega)
  have f7 := fun w' (x : Ext w2 w') => sure w' ((hr.ext x2).ext x)
  generalize faultI s = z1 at f1 f2
  generalize errsB s = z2 at f3 f4
  generalize sameB s t = z3 at f5 f6
  have h7 : ¬ (700 : Int) < (s.n : Int) + (t.n : Int) := by omega
  have hw7 : IntKind.i64.wrap ((s.n : Int) + (t.n : Int)) = (s.n : Int) + (t.n : Int) := by
    have e : (s.n : Int) + (t.n : Int) = ((s.n + t.n : Nat) : Int) := by omega
    rw [IntKind.wrap_i64]; omega
  obtain ⟨n, f, t0, t1, k, g, b⟩ := s
  obtain ⟨m, f', t0', t1', k', g', b'⟩ := t
  unfold segC at hsC htC hw2 f1 f2 f3 f4 f5 f6 ⊢
  simp only at h7 hw7 hsC htC hw2 f1 f2 f3 f4 f5 f6 ⊢
  have L0 := hsC 0 _ rfl; have L1 := hsC 1 _ rfl; have L2 := hsC 2 _ rfl; have L3 := hsC 3 _ rfl; have L4 := hsC 4 _ rfl; have L5 := hsC 5 _ rfl
  have M0 := htC 0 _ rfl; have M1 := htC 1 _ rfl; have M2 := htC 2 _ rfl; have M3 := htC 3 _ rfl; have M4 := htC 4 _ rfl; have M5 := htC 5 _ rfl
  have P0 := Later.cell L0; have P1 := Later.cell L1; have P2 := Later.cell L2; have P3 := Later.cell L3; have P4 := Later.cell L4; have P5 := Later.cell L5
  have Q0 := Later.cell M0; have Q1 := Later.cell M1; have Q2 := Later.cell M2; have Q3 := Later.cell M3; have Q4 := Later.cell M4; have Q5 := Later.cell M5
  have F1 := Lib.hid f1; have F2 := Lib.hid f2; have F3 := Lib.hid f3; have F4 := Lib.hid f4; have F5 := Lib.hid f5; have F6 := Lib.hid f6; have F7 := Lib.hid f7
  clear hr ha hc hcm hs hb hd hdm ht h700 sure hsC htC f1 f2 f3 f4 f5 f6 f7
  go_enter Tryd.func4, Tryd.ntmps4
  go_wp2
  rw [← hw2]
  clear hw2 h7 hw7
  refine wp_region_later (by kernel_rfl) (by kernel_rfl) ?_
  repeat (go_big_quiet_step (first
    | (go_at_call 14; exact later_of (F1.out _ (Later.ext _)))
    | (go_at_call 15; exact later_of (F2.out _ (Later.ext _)))
    | (go_at_call 16; exact later_of (F3.out _ (Later.ext _)))
    | (go_at_call 17; exact later_of (F4.out _ (Later.ext _)))
    | (go_at_call 18; exact later_of (F5.out _ (Later.ext _)))
    | (go_at_call 19; exact later_of (F6.out _ (Later.ext _)))
    | (go_at_call 8; exact later_of (F7.out _ (Later.ext _)))))
  refine wpQuiet_nil ?_
  intro _ hw'
  obtain ⟨x, rfl⟩ := hw'
  have x9 := x.ext
  generalize x.at = w9 at x9 ⊢
  clear P0 P1 P2 P3 P4 P5 Q0 Q1 Q2 Q3 Q4 Q5 L0 L1 L2 L3 L4 L5 M0 M1 M2 M3 M4 M5
  go_wp2
  go_ret
  exact ⟨rfl, x2.trans x9⟩
end Go.Proofs.YtanoakebbfidiaaDoor
