/-
  CONTRACTS: package who (layer 22): Status; all of it.
-/
import Derived.Test.YtkgakeknnfnjdaaWhoA
import Derived.Test.YtkgakeknnfnjdaaFileA
import Derived.Test.YtkgakeknnfnjdaaBitsB
import Derived.Test.YtkgakeknnfnjdaaLaw22C
namespace Go.Proofs.Ytkgakeknnfnjdaa
open Go.RowKit
set_option linter.unusedVariables false
set_option maxRecDepth 100000

set_option maxHeartbeats 4000000 in
theorem on_any (V : FilV) (F : Fil) (y : Int) (w : World) (h : FilAt w V F) (hn : (F.nC : Int) = F.cc) (hy : -9223372036854775808 ≤ y ∧ y ≤ 9223372036854775807) :
    Calls Try.prog 18 #[.agg (filC V F), .int .i64 y] w fun e w' => e = .returned (.bool (hasB F.cf F.cc y && F.C (y - F.cf).toNat)) ∧ Ext w w' := by
  obtain ⟨W0, hW0, x0, HG⟩ : ∃ W0, W0 = w.alloc (.cells (filC V F) 50) ∧ Ext w W0 ∧ Hid (∀ W, Ext W0 W → W.heap[w.heap.size]? = some (.cells (filC V F) 50 (0, 0))) := ⟨_, rfl, Ext.alloc _ _, Lib.hid (fun W y => y.block (heap_alloc_new _ _))⟩
  have HA := Lib.hid (h.ext x0)
  have HC := Lib.hid (fun W (y : Ext W0 W) => (⟨cell_of_heap (HG.out W y) rfl, cell_of_heap (HG.out W y) rfl, cell_of_heap (HG.out W y) rfl⟩ : W.cell? ⟨w.heap.size, 0, none⟩ = some (.int .i64 F.cf) ∧ W.cell? ⟨w.heap.size, 1, none⟩ = some (.int .i64 F.cc) ∧ W.cell? ⟨w.heap.size, 10, none⟩ = some (.slice V.a1 F.nC V.d1)))
  have HX := Lib.hid x0
  obtain ⟨Hq, hHq⟩ : ∃ Hq, hasB F.cf F.cc y = Hq := ⟨_, rfl⟩
  obtain ⟨P, hP⟩ : ∃ P, plcI F.cf F.cc y = P := ⟨_, rfl⟩
  have KP := Lib.hid (fun W => wplace_any F.cf F.cc y W)
  rw [hHq, hP] at KP
  obtain ⟨c0, c1, -⟩ := HC.out W0 (Ext.refl _)
  rw [hHq]
  cases Hq with
  | false =>
    clear h hn hy hHq hP x0
    go_enter Try.func18, Try.ntmps18
    go_upto_region 1 with fail
    rw [← hW0]
    clear hW0
    go_wp2_with fail
    refine (KP.out _).mono ?_; rintro e w1 ⟨rfl, x1⟩
    go_wp2_with fail
    go_ret
    exact ⟨rfl, HX.out.trans x1⟩
  | true =>
    obtain ⟨q0, q1, q2, q3, q4, q5, q6⟩ := (hasB_iff _ _ _).1 hHq
    obtain ⟨j, hj⟩ : ∃ j : Nat, y - F.cf = j := ⟨(y - F.cf).toNat, by omega⟩
    have hP' : P = j := by rw [← hP]; unfold plcI; rw [if_pos hHq, hj]
    subst hP'
    have hjn : j < F.nC := by omega
    obtain ⟨b, off, ha1, hb, hc⟩ := HA.out.h1.resolve_left (by omega)
    obtain ⟨Cq, hCq⟩ : ∃ Cq, F.C j = Cq := ⟨_, rfl⟩
    have cj := hc j hjn
    rw [hCq] at cj
    have j0 : (0 : Int) ≤ j := by omega
    have j1 : (j : Int) < F.nC := by omega
    rw [hj, Int.toNat_natCast, hCq]
    clear h hn hy hHq hP x0 q0 q1 q2 q3 q4 q5 q6 hjn hCq hc
    have HJ := Lib.hid hj
    clear hj
    go_enter Try.func18, Try.ntmps18
    go_upto_region 1 with fail
    rw [← hW0]
    clear hW0
    go_wp2_with fail
    refine (KP.out _).mono ?_; rintro e w1 ⟨rfl, x1⟩
    obtain ⟨-, -, c10⟩ := HC.out w1 x1
    rw [ha1] at c10
    have cj := x1.cell hb cj
    go_wp2_with fail
    go_ret
    exact ⟨by first | rfl | simp, HX.out.trans x1⟩
theorem st_no {F : Fil} {x : Int} (h : rightB F = false) : stF F x = 0 := st_none (by unfold stG; rw [h]; simp)
theorem st_meet {F : Fil} {x : Int} {M : Bool} (hr : rightB F = true) (hm : meetB F.cf F.cc x 8 = M) :
    (M = false → stF F x = 0) ∧ (M = true → stF F x = (flF (fun i => decide (i < 8) && cB F x i) 8 : Int) ∧ -8 ≤ x ∧ x ≤ 65535) := by
  obtain ⟨hg, hn⟩ := right_co hr
  have hgi := (rgtB_iff _ _).1 hg
  constructor
  · intro h
    rw [h] at hm
    have hno := (meetB_no _ _ _ _).1 hm
    by_cases hs : stG F x = true
    · unfold stF
      rw [if_pos hs]
      have e : bt (cB F x) 8 = bt (fun _ => false) 8 := bt_congr 8 (fun i hi => by
        unfold cB
        rw [(hasB_no _ _ _).2 (by omega), Bool.false_and])
      rw [e]; rfl
    · exact st_none (by simpa using hs)
  · intro h
    rw [h] at hm
    obtain ⟨q1, q2, q3, q4, q5, q6, q7, q8, q9⟩ := (meetB_iff _ _ _ _).1 hm
    have h1 : -8 ≤ x ∧ x ≤ 65535 := by omega
    have hs : stG F x = true := by unfold stG; rw [decide_eq_true h1.2, decide_eq_true h1.1, hr]; rfl
    refine ⟨?_, h1⟩
    unfold stF
    rw [if_pos hs, flF_first]
    exact congrArg Int.ofNat (bt_congr 8 (fun i hi => by rw [decide_eq_true hi, Bool.true_and]))
set_option maxHeartbeats 8000000 in
theorem status_f (V : FilV) (F : Fil) (x : Int) (w : World) (h : FilAt w V F) (wx : (Lit.int .i64 x).wf = true) : Calls Try.prog 10 #[.agg (filC V F), .int .i64 x] w fun e w' => e = .returned (.int .u8 (stF F x)) ∧ Ext w w' := by
  have hx : -9223372036854775808 ≤ x ∧ x ≤ 9223372036854775807 := by
    have := wx
    simp [Lit.wf, IntKind.min, IntKind.max, IntKind.signed, IntKind.bits] at this
    omega
  obtain ⟨W0, hW0, x0, HG⟩ : ∃ W0, W0 = w.alloc (.cells (filC V F) 29) ∧ Ext w W0 ∧ Hid (∀ W, Ext W0 W → W.heap[w.heap.size]? = some (.cells (filC V F) 29 (0, 0))) := ⟨_, rfl, Ext.alloc _ _, Lib.hid (fun W y => y.block (heap_alloc_new _ _))⟩
  have HA := Lib.hid (h.ext x0)
  have HC := Lib.hid (fun W (y : Ext W0 W) => (⟨cell_of_heap (HG.out W y) rfl, cell_of_heap (HG.out W y) rfl⟩ : W.cell? ⟨w.heap.size, 0, none⟩ = some (.int .i64 F.cf) ∧ W.cell? ⟨w.heap.size, 1, none⟩ = some (.int .i64 F.cc)))
  have HX := Lib.hid x0
  have gA := HG.out W0 (Ext.refl _)
  have KR := Lib.hid (fright_any V F W0)
  cases hr : rightB F with
  | false =>
    have HE := Lib.hid (st_no (x := x) hr)
    rw [hr] at KR
    clear h wx hx hr x0
    go_enter Try.func10, Try.ntmps10
    go_upto_region 1 with fail
    rw [← hW0]
    clear hW0
    go_wp2_with (refine wpList_load_row rfl 29 (.tmp 2) rfl w.heap.size rfl 29 (filC V F) (0, 0) _ gA Try.underlying29 rfl (by kernel_rfl) ?_)
    refine KR.out.mono ?_; rintro e w1 ⟨rfl, x1⟩
    go_wp2_with fail
    go_ret
    exact ⟨by rw [HE.out]; rfl, HX.out.trans x1⟩
  | true =>
    rw [hr] at KR
    obtain ⟨M, hM⟩ : ∃ M, meetB F.cf F.cc x 8 = M := ⟨_, rfl⟩
    obtain ⟨p1, p2⟩ := st_meet hr hM
    have KM := Lib.hid (fun W => wmeets_v hM (by omega) W)
    have hn := (right_co hr).2
    cases M with
    | false =>
      have HE := Lib.hid (p1 rfl)
      clear h wx hx hr x0 hM p1 p2 hn
      go_enter Try.func10, Try.ntmps10
      go_upto_region 1 with fail
      rw [← hW0]
      clear hW0
      go_wp2_with (refine wpList_load_row rfl 29 (.tmp 2) rfl w.heap.size rfl 29 (filC V F) (0, 0) _ gA Try.underlying29 rfl (by kernel_rfl) ?_)
      refine KR.out.mono ?_; rintro e w1 ⟨rfl, x1⟩
      obtain ⟨c0, c1⟩ := HC.out w1 x1
      go_wp2_with fail
      refine (KM.out _).mono ?_; rintro e w2 ⟨rfl, x2⟩
      go_wp2_with fail
      go_ret
      exact ⟨by rw [HE.out]; rfl, HX.out.trans (x1.trans x2)⟩
    | true =>
      obtain ⟨hE, b1, b2⟩ := p2 rfl
      have HE := Lib.hid hE
      have KO := Lib.hid (fun W (y : Ext W0 W) (k : Nat) (hk : k < 8) => on_any V F (x + k) W (HA.out.ext y) hn (by omega))
      clear h wx hx hr x0 hM p1 p2 hn hE
      go_enter Try.func10, Try.ntmps10
      go_upto_region 1 with fail
      rw [← hW0]
      clear hW0
      go_wp2_with (refine wpList_load_row rfl 29 (.tmp 2) rfl w.heap.size rfl 29 (filC V F) (0, 0) _ gA Try.underlying29 rfl (by kernel_rfl) ?_)
      refine KR.out.mono ?_; rintro e w1 ⟨rfl, x1⟩
      obtain ⟨c0, c1⟩ := HC.out w1 x1
      go_wp2_with fail
      refine (KM.out _).mono ?_; rintro e w2 ⟨rfl, x2⟩
      have z2 := x1.trans x2
      have gA2 := HG.out w2 z2
      clear c0 c1 gA x1 x2
      go_upto_region 4 with (refine wpList_load_row rfl 29 (.tmp 2) rfl w.heap.size rfl 29 (filC V F) (0, 0) _ gA2 Try.underlying29 rfl (by kernel_rfl) ?_)
      go_upto_region 5 with fail
      have hr3 : Row Value.bool 51 (w2.alloc (.cells #[.bool false, .bool false, .bool false, .bool false, .bool false, .bool false, .bool false, .bool false] 51)) w2.heap.size 8 (fun i => decide (i < 0) && cB F x i) :=
        Row.new w2 _ _ 8 _ rfl (fun i hi => by
          rcases (show i = 0 ∨ i = 1 ∨ i = 2 ∨ i = 3 ∨ i = 4 ∨ i = 5 ∨ i = 6 ∨ i = 7 by omega) with rfl | rfl | rfl | rfl | rfl | rfl | rfl | rfl <;> rfl)
      have x3 := Ext.alloc w2 (.cells #[.bool false, .bool false, .bool false, .bool false, .bool false, .bool false, .bool false, .bool false] 51)
      obtain ⟨W3, hW3⟩ : ∃ W3, w2.alloc (.cells #[.bool false, .bool false, .bool false, .bool false, .bool false, .bool false, .bool false, .bool false] 51) = W3 := ⟨_, rfl⟩
      rw [hW3] at hr3 x3 ⊢
      obtain ⟨G, hG⟩ : ∃ G, w2.heap.size = G := ⟨_, rfl⟩
      rw [hG] at hr3 ⊢
      have HGG := Lib.hid hG
      clear hW3 hG gA2
      go_wp2_with fail
      go_loopw [21] (fun iv wr => ∃ k : Nat, k ≤ 8 ∧ iv = .int .i64 k ∧ Row Value.bool 51 wr G 8 (fun i => decide (i < k) && cB F x i) ∧ Ext w2 wr) (fun iv _ => 8 - (intOf iv).toNat)
      case atStart => exact ⟨0, by omega, rfl, hr3, x3⟩
      case round =>
        obtain ⟨k, hk, rfl, hr, xr⟩ := hrel
        clear hr3 x3
        by_cases hk8 : k < 8
        · have hk8' : (k : Int) < 8 := by omega
          have HR := Lib.hid hr
          have HXr := Lib.hid xr
          have e1 : IntKind.i64.wrap (x + k) = x + k := IntWalk.i64_in _ (by omega)
          have KO' := Lib.hid (KO.out wr (z2.trans xr) k hk8)
          obtain ⟨Cq, hCq⟩ : ∃ Cq, (hasB F.cf F.cc (x + k) && F.C (x + k - F.cf).toNat) = Cq := ⟨_, rfl⟩
          have HCq : Hid (cB F x k = Cq) := Lib.hid hCq
          rw [hCq] at KO'
          clear hr xr hCq
          go_wp2_with fail
          refine KO'.out.mono ?_; rintro e w4 ⟨rfl, x4⟩
          have r4 := HR.out.ext x4
          have ck := r4.cell k hk8
          have fk := r4.frozen k
          have HR4 := Lib.hid r4
          have HX4 := Lib.hid (HXr.out.trans x4)
          clear r4 x4
          go_wp2
          go_roundw
          case rel =>
            refine ⟨k + 1, by omega, by go_num, (HR4.out.set k Cq).congr (fun i hi => ?_), Below.set HX4.out (by rw [← HGG.out]; exact Nat.le_refl _) _⟩
            by_cases e : i = k
            · subst e; rw [upd_same, ← HCq.out]; simp
            · rw [upd_other _ _ _ _ e]
              congr 1
              exact decide_eq_decide.2 (by omega)
          case measure => simp [intOf]; omega
        · have hk : k = 8 := by omega
          have hk8' : ¬ (k : Int) < 8 := by omega
          rw [hk] at hr
          have KF := Lib.hid (flags_any (some ⟨G, 0, none⟩) 8 8 _ wr hr.holds (by omega) (Nat.le_refl _) (by unfold maxLen; omega))
          clear hr hk hk8
          go_wp2_with fail
          refine KF.out.mono ?_; rintro e w5 ⟨rfl, rfl⟩
          go_wp2_with fail
          go_ret
          exact ⟨by rw [HE.out]; rfl, HX.out.trans (z2.trans xr)⟩
/-- Package who keeps its contracts. -/
theorem whoC : WhoC where
  status := fun V F x w h wx => status_f V F x w h wx
  report := fun a n c f r w h hn _ _ => report_f a n c f r w h hn
  read := fun a n c f w h hn hnc hc hf => read_f a n c f w h hn hnc hc hf
end Go.Proofs.Ytkgakeknnfnjdaa
