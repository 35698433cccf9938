/-
  THE LAWS OF LAYER 12: the walk of WindowSets.
-/
import Derived.Test.YtpolopggaolodaaLaw12C
namespace Go.Proofs.Ytpolopggaolodaa
open Go.RowKit
set_option linter.unusedVariables false

/-- All of the first k places have been in the window, and there are any. -/
def allB (f c x n k : Int) : Bool := decide (0 < n ∧ (k ≤ 0 ∨ (0 ≤ f ∧ f ≤ 65535 ∧ 0 ≤ c ∧ c ≤ 65536 ∧ f + c ≤ 65536 ∧ f ≤ x ∧ x + k ≤ f + c)))
theorem allB_start (f c x n : Int) : allB f c x n 0 = decide (0 < n) := by
  apply bool_same; unfold allB; rw [decide_eq_true_eq, decide_eq_true_eq]; omega
theorem allB_step {f c x n k : Int} (h : 0 ≤ k) (hk : k < n) : allB f c x n (k + 1) = (allB f c x n k && hasB f c (x + k)) := by
  apply bool_same; rw [Bool.and_eq_true, hasB_iff]; unfold allB; rw [decide_eq_true_eq, decide_eq_true_eq]; omega
theorem allB_end {f c x n : Int} (h : 0 ≤ n) : allB f c x n n = holdB f c x n := by
  apply bool_same; rw [holdB_iff]; unfold allB; rw [decide_eq_true_eq]; omega
theorem someB_start (f c x : Int) : meetB f c x 0 = false := by rw [meetB_no]; omega
theorem someB_step {f c x k : Int} (h : 0 ≤ k) : meetB f c x (k + 1) = (meetB f c x k || hasB f c (x + k)) := by
  apply bool_same; rw [Bool.or_eq_true, hasB_iff, meetB_iff, meetB_iff]; omega
theorem box3 (f c g d : Int) (o : Obj) (w : World) :
    Ext w (((w.alloc (.cells #[.int .i64 f, .int .i64 c] 23)).alloc (.cells #[.int .i64 g, .int .i64 d] 23)).alloc o).drew ∧
    WinIn (((w.alloc (.cells #[.int .i64 f, .int .i64 c] 23)).alloc (.cells #[.int .i64 g, .int .i64 d] 23)).alloc o).drew w.heap.size f c ∧
    WinIn (((w.alloc (.cells #[.int .i64 f, .int .i64 c] 23)).alloc (.cells #[.int .i64 g, .int .i64 d] 23)).alloc o).drew (w.heap.size + 1) g d := by
  have xa := Ext.alloc (w.alloc (.cells #[.int .i64 f, .int .i64 c] 23)) (.cells #[.int .i64 g, .int .i64 d] 23)
  have xb := Ext.alloc ((w.alloc (.cells #[.int .i64 f, .int .i64 c] 23)).alloc (.cells #[.int .i64 g, .int .i64 d] 23)) o
  have xd := Ext.drew (((w.alloc (.cells #[.int .i64 f, .int .i64 c] 23)).alloc (.cells #[.int .i64 g, .int .i64 d] 23)).alloc o)
  exact ⟨((Ext.alloc w _).trans (xa.trans xb)).trans xd, xd.block ((xa.trans xb).block (heap_new_at _ _ rfl)), xd.block (xb.block (heap_new_at _ _ (by simp)))⟩

set_option maxRecDepth 100000 in
set_option maxHeartbeats 6400000 in
theorem windowSets.in (f c g d x y n : Int) (w : World) (hx0 : 0 ≤ x) (hx1 : x ≤ 65535) (hy0 : 0 ≤ y) (hy1 : y ≤ 65535) (hn : y % 300 = n) :
    Calls Try.prog 4 #[.agg #[.int .i64 f, .int .i64 c], .agg #[.int .i64 g, .int .i64 d], .agg #[.int .u16 x, .int .u16 y]] w fun e w' => e = .returned (.bool true) ∧ Ext w w' := by
  have n0 : 0 ≤ n := by rw [← hn]; exact Int.emod_nonneg _ (by decide)
  have n1 : n < 300 := by rw [← hn]; exact Int.emod_lt_of_pos _ (by decide)
  obtain ⟨w0, hw0⟩ : ∃ w0, w0 = (((w.alloc (.cells #[.int .i64 f, .int .i64 c] 23)).alloc (.cells #[.int .i64 g, .int .i64 d] 23)).alloc (.cells #[.int .u16 x, .int .u16 y] 34)).drew := ⟨_, rfl⟩
  obtain ⟨e0, T0, U0⟩ := box3 f c g d (.cells #[.int .u16 x, .int .u16 y] 34) w
  rw [← hw0] at e0 T0 U0
  have HT := Lib.hid T0; have HU := Lib.hid U0; have HE := Lib.hid e0
  have k1 : IntKind.i64.wrap x = x := IntWalk.i64_in _ (by omega)
  have k2 : IntKind.i64.wrap y = y := IntWalk.i64_in _ (by omega)
  have k3 : y.tmod 300 = n := by rw [Int.tmod_eq_emod_of_nonneg hy0]; exact hn
  have HA0 := Lib.hid (allB_start f c x n)
  clear e0 T0 U0 hn
  go_enter Try.func4, Try.ntmps4
  go_wp2_with fail
  go_region
  clear k1 k2 k3
  go_wp2_with fail
  rw [← hw0]
  clear hw0
  obtain ⟨A0, hA0⟩ : ∃ A0, decide (0 < n) = A0 := ⟨_, rfl⟩
  rw [hA0]
  have HA1 := Lib.hid hA0
  clear hA0
  go_loopw [9, 10, 11] (fun av sv iv wr => ∃ q : Int, 0 ≤ q ∧ q ≤ n ∧ iv = .int .i64 q ∧ av = .bool (allB f c x n q) ∧ sv = .bool (meetB f c x q) ∧ Ext w0 wr) (fun _ _ iv _ => (n - intOf iv).toNat)
  case atStart => exact ⟨0, by omega, n0, rfl, by rw [HA0.out, HA1.out], by rw [someB_start], Ext.refl _⟩
  case round =>
    clear HA0 HA1
    obtain ⟨q, q0, q1, rfl, rfl, rfl, xr⟩ := hrel
    have T1 := HT.out.ext xr
    have U1 := HU.out.ext xr
    by_cases hlt : q < n
    · have HSA := Lib.hid (allB_step (f := f) (c := c) (x := x) q0 hlt)
      have HSS := Lib.hid (someB_step (f := f) (c := c) (x := x) q0)
      generalize allB f c x n q = A at HSA ⊢
      generalize meetB f c x q = M at HSS ⊢
      have a0 := T1.at_.c0; have a1 := T1.at_.c1
      clear T1 U1
      cases A <;> cases M
      all_goals
        go_wp2_with fail
        refine (whas_any f c (x + q) _).mono ?_; rintro e w2 ⟨rfl, x2⟩
        obtain ⟨I, hI⟩ : ∃ I, hasB f c (x + q) = I := ⟨_, rfl⟩
        rw [hI]
        have HI := Lib.hid hI
        have xx := xr.trans x2
        clear hI a0 a1 xr x2
        go_wp2_with fail
        go_roundw
        case rel => exact ⟨q + 1, by omega, by omega, by go_num, by rw [HSA.out, HI.out]; rfl, by rw [HSS.out, HI.out]; rfl, xx⟩
        case measure => simp [intOf]; omega
    · obtain rfl : n = q := by omega
      rw [allB_end q0]
      obtain ⟨Ho, hHo⟩ : ∃ R, holdB f c x n = R := ⟨_, rfl⟩
      obtain ⟨Me, hMe⟩ : ∃ R, meetB f c x n = R := ⟨_, rfl⟩
      obtain ⟨F, hF⟩ : ∃ R, cutF f c g d = R := ⟨_, rfl⟩
      obtain ⟨C, hC⟩ : ∃ R, cutC f c g d = R := ⟨_, rfl⟩
      rw [hHo, hMe]
      have HHo := Lib.hid hHo; have HMe := Lib.hid hMe; have HF := Lib.hid hF; have HC := Lib.hid hC
      have HCH := Lib.hid (fun z => (show hasB F C z = (hasB f c z && hasB g d z) by rw [← hF, ← hC]; exact cut_has f c g d z))
      have hR := cut_right f c g d
      have hM := cut_comm f c g d
      rw [hF, hC] at hR hM
      have HR := Lib.hid hR; have HM := Lib.hid hM
      have a0 := T1.at_.c0; have a1 := T1.at_.c1; have b0 := U1.at_.c0; have b1 := U1.at_.c1
      clear hHo hMe hF hC hR hM hlt T1 U1
      go_wp2_with fail
      refine (wcut_v HF.out HC.out _).mono ?_; rintro e w3 ⟨rfl, x3⟩
      have y3 := xr.trans x3
      clear a0 a1 b0 b1 xr x3
      obtain ⟨W, hW⟩ : ∃ W, W = w3.alloc (.cells #[.int .i64 F, .int .i64 C] 23) := ⟨_, rfl⟩
      obtain ⟨B, hB⟩ : ∃ B, B = w3.heap.size := ⟨_, rfl⟩
      have yW : Ext w0 W := by rw [hW]; exact y3.alloc' _
      have TB : WinIn W B F C := by rw [hW, hB]; exact heap_new_at _ _ rfl
      have HTW := Lib.hid (HT.out.ext yW); have HUW := Lib.hid (HU.out.ext yW); have HBW := Lib.hid TB
      have HEW := Lib.hid (HE.out.trans yW)
      have HW := Lib.hid hW; have HB := Lib.hid hB
      clear hW hB yW TB y3 HT HU HE
      go_wp2_with fail
      rw [← HW.out, ← HB.out]
      go_loopw [14] (fun iv wr => ∃ q : Int, -2 ≤ q ∧ q ≤ n ∧ iv = .int .i64 q ∧ Ext W wr) (fun iv _ => (n - intOf iv).toNat)
      case atStart => exact ⟨-2, by omega, by omega, rfl, Ext.refl _⟩
      case round =>
        obtain ⟨q, r0, r1, rfl, xr⟩ := hrel
        have t0 := (HTW.out.ext xr).at_; have u0 := (HUW.out.ext xr).at_; have v0 := (HBW.out.ext xr).at_
        have t1 := t0.c0; have t2 := t0.c1; have u1 := u0.c0; have u2 := u0.c1; have v1 := v0.c0; have v2 := v0.c1
        have A0 := Later.cell t1; have A1 := Later.cell t2; have B0 := Later.cell u1; have B1 := Later.cell u2; have C0 := Later.cell v1; have C1 := Later.cell v2
        clear t0 t1 t2 u0 u1 u2 v0 v1 v2
        by_cases hlt : q < n
        · go_upto_region 13 with fail
          have hw : IntKind.i64.wrap (x + q) = x + q := IntWalk.i64_in _ (by omega)
          obtain ⟨z, hz⟩ : ∃ z, z = x + q := ⟨_, rfl⟩
          rw [← hz] at hw
          have hzz : x + q = z := hz.symm
          have hc := HCH.out z
          go_cut [67] (fun v wx => v = .bool false ∧ Ext wr wx)
          case first =>
            cases ha : hasB f c z with
            | false =>
              have h1 : hasB F C z = false := by rw [hc, ha]; rfl
              have HA := Lib.hid ha; have H1 := Lib.hid h1
              clear ha h1 hc hz
              refine wp_region_later (by kernel_rfl) (by kernel_rfl) ?_
              repeat (go_big_quiet_step (first
                | (go_at_call_of 10 F; exact later_of (whas_v H1.out _))
                | (go_at_call_of 10 f; exact later_of (whas_v HA.out _))))
              refine wpQuiet_nil ?_
              intro _ hw'
              obtain ⟨y, rfl⟩ := hw'
              have ey := y.ext
              generalize y.at = w9 at ey ⊢
              go_wp2_with fail
              go_meet
              exact ⟨rfl, ey⟩
            | true =>
              have h1 : hasB F C z = hasB g d z := by rw [hc, ha]; rfl
              cases hb : hasB g d z with
              | false =>
                rw [hb] at h1
                have HA := Lib.hid ha; have H1 := Lib.hid h1; have H2 := Lib.hid hb
                clear ha h1 hc hz hb
                refine wp_region_later (by kernel_rfl) (by kernel_rfl) ?_
                repeat (go_big_quiet_step (first
                  | (go_at_call_of 10 F; exact later_of (whas_v H1.out _))
                  | (go_at_call_of 10 f; exact later_of (whas_v HA.out _))
                  | (go_at_call_of 10 g; exact later_of (whas_v H2.out _))))
                refine wpQuiet_nil ?_
                intro _ hw'
                obtain ⟨y, rfl⟩ := hw'
                have ey := y.ext
                generalize y.at = w9 at ey ⊢
                go_wp2_with fail
                go_meet
                exact ⟨rfl, ey⟩
              | true =>
                rw [hb] at h1
                have HA := Lib.hid ha; have H1 := Lib.hid h1; have H2 := Lib.hid hb
                clear ha h1 hc hz hb
                refine wp_region_later (by kernel_rfl) (by kernel_rfl) ?_
                repeat (go_big_quiet_step (first
                  | (go_at_call_of 10 F; exact later_of (whas_v H1.out _))
                  | (go_at_call_of 10 f; exact later_of (whas_v HA.out _))
                  | (go_at_call_of 10 g; exact later_of (whas_v H2.out _))))
                refine wpQuiet_nil ?_
                intro _ hw'
                obtain ⟨y, rfl⟩ := hw'
                have ey := y.ext
                generalize y.at = w9 at ey ⊢
                go_wp2_with fail
                go_meet
                exact ⟨rfl, ey⟩
          case rest =>
            obtain ⟨rfl, xc⟩ := hcut
            have y5 := xr.trans xc
            clear A0 A1 B0 B1 C0 C1 hw hzz hz hc xr xc
            go_wp2_with fail
            go_roundw
            case rel => exact ⟨q + 1, by omega, by omega, by go_num, y5⟩
            case measure => simp [intOf]; omega
        · obtain rfl : n = q := by omega
          have hq := fun w => weql_v (eqW_self F C) w
          have hg := fun x y xs ys w => weqg .eql x y xs ys w
          have BD : Hid (-9223372036854775808 ≤ n ∧ n ≤ 9223372036854775807 ∧ -9223372036854775808 ≤ x ∧ x ≤ 9223372036854775807) := Lib.hid (by omega)
          clear hlt r0 r1
          go_wp2_with fail
          refine wp_region_later (by kernel_rfl) (by kernel_rfl) ?_
          repeat (go_big_quiet_step (first
            | (go_at_call 11; exact later_of (wholds_v HHo.out _))
            | (go_at_call 13; exact later_of (wmeets_v HMe.out BD.out _))
            | (go_at_call 15; exact later_of (wcut_v HM.out.1 HM.out.2 _))
            | (go_at_call 8; exact later_of (wright_v HR.out _))
            | (go_at_call 17; exact later_of (sure12_any _))))
          refine wpQuiet_nil ?_
          intro _ hw'
          obtain ⟨y, rfl⟩ := hw'
          have ey := y.ext
          generalize y.at = w9 at ey ⊢
          go_wp2
          go_ret
          exact ⟨rfl, HEW.out.trans (xr.trans ey)⟩
theorem wf_u16 {x : Int} (h : (Lit.int .u16 x).wf = true) : 0 ≤ x ∧ x ≤ 65535 := by
  simp [Lit.wf, IntKind.min, IntKind.max, IntKind.signed, IntKind.bits] at h; omega
theorem windowSets.walk (f c g d x y : Int) (w : World) (hf : (Lit.int .i64 f).wf = true) (hc : (Lit.int .i64 c).wf = true) (hg : (Lit.int .i64 g).wf = true) (hd : (Lit.int .i64 d).wf = true) (hx : (Lit.int .u16 x).wf = true) (hy : (Lit.int .u16 y).wf = true) :
    Calls Try.prog 4 #[.agg #[.int .i64 f, .int .i64 c], .agg #[.int .i64 g, .int .i64 d], .agg #[.int .u16 x, .int .u16 y]] w fun e w' => e = .returned (.bool true) ∧ Ext w w' :=
  windowSets.in f c g d x y _ w (wf_u16 hx).1 (wf_u16 hx).2 (wf_u16 hy).1 (wf_u16 hy).2 rfl
end Go.Proofs.Ytpolopggaolodaa
