/-
  THE LAWS OF LAYER 12: the walk of WindowTells.
-/
import Derived.Test.YtpolopggaolodaaLaw12A
namespace Go.Proofs.Ytpolopggaolodaa
open Go.RowKit
set_option linter.unusedVariables false

theorem wplace_v {f c x P : Int} {B : Bool} (h : hasB f c x = B) (p : plcI f c x = P) (w : World) : Calls Try.prog 6 #[.agg #[.int .i64 f, .int .i64 c], .int .i64 x] w fun e w' => e = .returned (.tuple #[.int .i64 P, .bool B]) ∧ Ext w w' := h ▸ p ▸ wplace_any f c x w
theorem wf_bd {n x : Int} (h0 : (Lit.int .i64 n).wf = true) (h1 : (Lit.int .i64 x).wf = true) : -9223372036854775808 ≤ n ∧ n ≤ 9223372036854775807 ∧ -9223372036854775808 ≤ x ∧ x ≤ 9223372036854775807 := trm_in h0 h1
/-- What lies where, behind the entry. -/
theorem tells_box (f c g d x n : Int) (w : World) (t : TypeId) :
    Ext w (((w.alloc (.cells #[.int .i64 f, .int .i64 c] 23)).alloc (.cells #[.int .i64 g, .int .i64 d] 23)).alloc (.cells #[.int .i64 x, .int .i64 n] t)).drew ∧
    WinAt (((w.alloc (.cells #[.int .i64 f, .int .i64 c] 23)).alloc (.cells #[.int .i64 g, .int .i64 d] 23)).alloc (.cells #[.int .i64 x, .int .i64 n] t)).drew w.heap.size f c ∧
    WinAt (((w.alloc (.cells #[.int .i64 f, .int .i64 c] 23)).alloc (.cells #[.int .i64 g, .int .i64 d] 23)).alloc (.cells #[.int .i64 x, .int .i64 n] t)).drew (w.heap.size + 1) g d := by
  have xa := Ext.alloc (w.alloc (.cells #[.int .i64 f, .int .i64 c] 23)) (.cells #[.int .i64 g, .int .i64 d] 23)
  have xb := Ext.alloc ((w.alloc (.cells #[.int .i64 f, .int .i64 c] 23)).alloc (.cells #[.int .i64 g, .int .i64 d] 23)) (.cells #[.int .i64 x, .int .i64 n] t)
  have xd := Ext.drew (((w.alloc (.cells #[.int .i64 f, .int .i64 c] 23)).alloc (.cells #[.int .i64 g, .int .i64 d] 23)).alloc (.cells #[.int .i64 x, .int .i64 n] t))
  have s1 : (w.alloc (.cells #[.int .i64 f, .int .i64 c] 23)).heap.size = w.heap.size + 1 := by simp
  have m0 := xb.made 0 _ rfl
  have m1 := xb.made 1 _ rfl
  rw [s1] at m0 m1
  have A : WinAt _ w.heap.size f c := ⟨(xa.trans xb).made 0 _ rfl, (xa.trans xb).made 1 _ rfl⟩
  have B : WinAt _ (w.heap.size + 1) g d := ⟨m0, m1⟩
  exact ⟨((Ext.alloc w _).trans (xa.trans xb)).trans xd, A.ext xd, B.ext xd⟩
set_option maxRecDepth 100000 in
set_option maxHeartbeats 3200000 in
theorem windowTells.way (f c g d x n P : Int) (H : Bool) (w : World) (hx : (Lit.int .i64 x).wf = true) (hn : (Lit.int .i64 n).wf = true) (hH : hasB f c x = H) (hP : plcI f c x = P) (hk : H = true → P = x - f ∧ 0 ≤ f ∧ f ≤ 65535 ∧ f ≤ x ∧ x ≤ 65536) (hz : H = false → P = 0) :
    Calls Try.prog 3 #[.agg #[.int .i64 f, .int .i64 c], .agg #[.int .i64 g, .int .i64 d], .agg #[.int .i64 x, .int .i64 n]] w fun e w' => e = .returned (.bool true) ∧ Ext w w' := by
  obtain ⟨e0, T0, U0⟩ := tells_box f c g d x n w 24
  have bd := wf_bd hn hx
  have BD := Lib.hid bd
  have HPl := Lib.hid (fun w => wplace_v hH hP w)
  have HHa := Lib.hid (fun w => whas_v hH w)
  have HRh := Lib.hid (fun w => rwhas_v hH w)
  obtain ⟨R, hR⟩ : ∃ R, rgtB f c = R := ⟨_, rfl⟩
  obtain ⟨Ho, hHo⟩ : ∃ R, holdB f c x n = R := ⟨_, rfl⟩
  obtain ⟨Me, hMe⟩ : ∃ R, meetB f c x n = R := ⟨_, rfl⟩
  obtain ⟨F, hF⟩ : ∃ R, cutF f c g d = R := ⟨_, rfl⟩
  obtain ⟨C, hC⟩ : ∃ R, cutC f c g d = R := ⟨_, rfl⟩
  have HR := Lib.hid hR; have HHo := Lib.hid hHo; have HMe := Lib.hid hMe; have HF := Lib.hid hF; have HC := Lib.hid hC
  have HK := Lib.hid hk
  have HZ := Lib.hid hz
  have hq := fun w => weql_v (eqW_self F C) w
  have hg := fun x y xs ys w => weqg .eql x y xs ys w
  clear hH hP hR hHo hMe hF hC bd hx hn hk hz
  go_enter Try.func3, Try.ntmps3
  go_wp2_with fail
  go_region
  go_wp2_with fail
  generalize (((w.alloc (.cells #[.int .i64 f, .int .i64 c] 23)).alloc (.cells #[.int .i64 g, .int .i64 d] 23)).alloc (.cells #[.int .i64 x, .int .i64 n] 24)).drew = v0 at e0 T0 U0 ⊢
  have a0 := T0.c0; have a1 := T0.c1
  refine (HPl.out _).mono ?_; rintro e w1 ⟨rfl, x1⟩
  have T1 := T0.ext x1; have U1 := U0.ext x1; have e1 := e0.trans x1
  clear T0 U0 e0 x1 a0 a1
  have a0 := T1.c0; have a1 := T1.c1
  go_wp2_with fail
  refine (HRh.out _).mono ?_; rintro e w2 ⟨rfl, x2⟩
  have T2 := T1.ext x2; have U2 := U1.ext x2; have e2 := e1.trans x2
  clear T1 U1 e1 x2 a0 a1
  have a0 := T2.c0; have a1 := T2.c1; have b0 := U2.c0; have b1 := U2.c1
  have A0 := Later.cell a0; have A1 := Later.cell a1; have B0 := Later.cell b0; have B1 := Later.cell b1
  cases H with
  | true =>
    obtain ⟨hP1, l0, l1, l2, l3⟩ := HK.out rfl
    have hp : (P != x - f) = false := by rw [hP1]; simp
    have HP := Lib.hid hP1
    clear hP1
    go_wp2_with fail
    clear a0 a1 b0 b1
    refine wp_region_later (by kernel_rfl) (by kernel_rfl) ?_
    repeat (go_big_quiet_step (first
      | (go_at_call 8; exact later_of (wright_v HR.out _))
      | (go_at_call 9; exact later_of (rwright_v HR.out _))
      | (go_at_call 10; exact later_of (HHa.out _))
      | (go_at_call 11; exact later_of (wholds_v HHo.out _))
      | (go_at_call 12; exact later_of (rwholds_v HHo.out _))
      | (go_at_call 13; exact later_of (wmeets_v HMe.out BD.out _))
      | (go_at_call 14; exact later_of (rwmeets_v HMe.out BD.out _))
      | (go_at_call 15; exact later_of (wcut_v HF.out HC.out _))
      | (go_at_call 16; exact later_of (rwcut_v HF.out HC.out _))
      | (go_at_call 17; exact later_of (sure12_any _))))
    refine wpQuiet_nil ?_
    intro _ hw'
    obtain ⟨y, rfl⟩ := hw'
    have e3 := e2.trans y.ext
    generalize y.at = w9 at e3 ⊢
    go_wp2
    go_ret
    exact ⟨rfl, e3⟩
  | false =>
    have hP0 := HZ.out rfl
    subst hP0
    go_wp2_with fail
    clear a0 a1 b0 b1
    refine wp_region_later (by kernel_rfl) (by kernel_rfl) ?_
    repeat (go_big_quiet_step (first
      | (go_at_call 8; exact later_of (wright_v HR.out _))
      | (go_at_call 9; exact later_of (rwright_v HR.out _))
      | (go_at_call 10; exact later_of (HHa.out _))
      | (go_at_call 11; exact later_of (wholds_v HHo.out _))
      | (go_at_call 12; exact later_of (rwholds_v HHo.out _))
      | (go_at_call 13; exact later_of (wmeets_v HMe.out BD.out _))
      | (go_at_call 14; exact later_of (rwmeets_v HMe.out BD.out _))
      | (go_at_call 15; exact later_of (wcut_v HF.out HC.out _))
      | (go_at_call 16; exact later_of (rwcut_v HF.out HC.out _))
      | (go_at_call 17; exact later_of (sure12_any _))))
    refine wpQuiet_nil ?_
    intro _ hw'
    obtain ⟨y, rfl⟩ := hw'
    have e3 := e2.trans y.ext
    generalize y.at = w9 at e3 ⊢
    go_wp2
    go_ret
    exact ⟨rfl, e3⟩
theorem windowTells.walk (f c g d x n : Int) (w : World) (hf : (Lit.int .i64 f).wf = true) (hc : (Lit.int .i64 c).wf = true) (hg : (Lit.int .i64 g).wf = true) (hd : (Lit.int .i64 d).wf = true) (hx : (Lit.int .i64 x).wf = true) (hn : (Lit.int .i64 n).wf = true) :
    Calls Try.prog 3 #[.agg #[.int .i64 f, .int .i64 c], .agg #[.int .i64 g, .int .i64 d], .agg #[.int .i64 x, .int .i64 n]] w fun e w' => e = .returned (.bool true) ∧ Ext w w' := by
  refine windowTells.way f c g d x n _ _ w hx hn rfl rfl (fun h => ?_) (fun h => ?_)
  · have := (hasB_iff f c x).1 h
    exact ⟨by unfold plcI; rw [if_pos h], by omega, by omega, by omega, by omega⟩
  · unfold plcI; rw [if_neg (by rw [h]; decide)]
end Go.Proofs.Ytpolopggaolodaa
