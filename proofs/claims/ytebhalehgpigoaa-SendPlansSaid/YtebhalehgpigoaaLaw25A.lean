/-
  THE LAWS OF LAYER 25: SendPlans (package send's contracts as premises).
-/
import Derived.Test.YtebhalehgpigoaaSendC
namespace Go.Proofs.Ytebhalehgpigoaa
open Go.RowKit
set_option linter.unusedVariables false
set_option maxRecDepth 100000

set_option maxHeartbeats 16000000 in
theorem sendPlans.few (K : SendC) (a : Option Addr) (n cp : Nat) (f : Nat → Int) (T c s l u : Int) (w : World) (ha : Holds .u8 w a n f) (hnc : n ≤ cp) (hcm : cp ≤ maxLen) (hf : ∀ i, i < n → 0 ≤ f i ∧ f i < 256) (wT : (Lit.int .i64 T).wf = true) (wc : (Lit.int .i64 c).wf = true) (ws : (Lit.int .i64 s).wf = true) (wl : (Lit.int .i64 l).wf = true) (wu : (Lit.int .i64 u).wf = true) (hn : n ≤ 600) :
    Calls Try.prog 3 #[.slice a n cp, .int .i64 T, timesC c s l u] w fun e w' => e = .returned (.bool true) ∧ Ext w w' := by
  have HK := Lib.hid K
  have HA := Lib.hid ha
  have C1 := Lib.hid (fun w' (x : Ext w w') => K.plan a n cp f T c s l u w' (ha.ext x) (by omega) hnc hcm hf wT wc ws wl wu)
  have C2 := Lib.hid (fun w' (x : Ext w w') => rplan25_any a n cp f T c s l u w' (ha.ext x) (by omega))
  have HW := Lib.hid (And.intro wc (And.intro ws (And.intro wl wu)))
  have hP1 := planO_le c s l u T f n
  have hP2 : WfO (planO c s l u T f n) := planO_wf hf
  have hP3 := planO_some (c := c) (s := s) (l := l) (u := u) (T := T) (f := f) (n := n)
  generalize planO c s l u T f n = P at C1 C2 hP1 hP2 hP3
  obtain ⟨m, hm⟩ : ∃ m, P.length = m := ⟨_, rfl⟩
  have HP := Lib.hid (And.intro hm (And.intro hP1 (And.intro hP2 hP3)))
  have hQ := BytP.few (c := c) (s := s) (l := l) (u := u) (L := P)
  obtain ⟨Q, hQe⟩ : ∃ Q, hearO c s l u P = Q := ⟨_, rfl⟩
  rw [hQe] at hQ
  have HQ := Lib.hid (And.intro hQe hQ)
  obtain ⟨k, hk⟩ : ∃ k, Q.length = k := ⟨_, rfl⟩
  have Hk := Lib.hid hk
  have hn' : ¬ (600 : Int) < (n : Int) := by omega
  have HN := Lib.hid hn
  have T0 := TimAt.made w c s l u
  have x0 := Ext.alloc w (.cells #[.int .i64 c, .int .i64 s, .int .i64 l, .int .i64 u] 24)
  clear hP1 hP2 hP3 hm hQ hQe hk K ha hnc hcm hf wT wc ws wl wu hn
  unfold timesC at C1 C2 ⊢
  go_enter Try.func3, Try.ntmps3
  go_upto_region 1 with fail
  obtain ⟨w0, hw0⟩ : ∃ w0, w0 = w.alloc (.cells #[.int .i64 c, .int .i64 s, .int .i64 l, .int .i64 u] 24) := ⟨_, rfl⟩
  rw [← hw0] at T0 x0 ⊢
  have HT := Lib.hid (fun w' (x : Ext w0 w') => And.intro (T0.ext x).c0 (And.intro (T0.ext x).c1 (And.intro (T0.ext x).c2 (And.intro (T0.ext x).c3 x))))
  have X0 := Lib.hid x0
  clear hw0 T0 x0
  have z0 : Ext w0 w0.drew := Ext.drew _
  obtain ⟨t0, t1, t2, t3, -⟩ := HT.out _ z0
  go_upto_region 3 with fail
  go_region_held3 (fun w' => w'.cell? ⟨w.heap.size, 0, none⟩ = some (.int .i64 c) ∧ w'.cell? ⟨w.heap.size, 1, none⟩ = some (.int .i64 s) ∧ w'.cell? ⟨w.heap.size, 2, none⟩ = some (.int .i64 l) ∧ w'.cell? ⟨w.heap.size, 3, none⟩ = some (.int .i64 u) ∧ Ext w0 w')
    ((exact HT.out _ (by assumption)))
    (first
      | (go_at_call 6; refine (C1.out _ (X0.out.trans (by assumption))).mono ?_; rintro e wa ⟨za, qa, rfl, la, ma, ha, xa⟩; have ya := Ext.trans z0 xa)
      | (go_at_call 7; refine (C2.out _ (X0.out.trans (by assumption))).mono ?_; rintro e wb ⟨zb, qb, rfl, lb, mb, hb, xb⟩; have yb := Ext.trans ya xb))
  rw [HP.out.1] at la lb ⊢
  clear t0 t1 t2 t3 C1 C2
  have D1 := Lib.hid (fun w' (x : Ext wa w') => HK.out.hear za m qa P c s l u w' (ha.ext x) HP.out.1 (by have := HP.out.2.1.1; have := HP.out.1; omega) la ma HP.out.2.2.1 HW.out.1 HW.out.2.1 HW.out.2.2.1 HW.out.2.2.2)
  have D2 := Lib.hid (fun w' (x : Ext wb w') => rhear25_any zb m qb P c s l u w' (hb.ext x) HP.out.1 (by have := HP.out.2.1.1; have := HP.out.1; omega))
  have E1 := Lib.hid (fun w' (x : Ext wa w') => HK.out.end_ za m qa P c s l u w' (ha.ext x) HP.out.1 (by have := HP.out.2.1.1; have := HP.out.1; omega) la ma HP.out.2.2.1 HW.out.1 HW.out.2.1 HW.out.2.2.1 HW.out.2.2.2)
  have E2 := Lib.hid (fun w' (x : Ext wb w') => rend25_any zb m qb P c s l u w' (hb.ext x) HP.out.1 (by have := HP.out.2.1.1; have := HP.out.1; omega))
  have F1 := Lib.hid (fun w' (x : Ext wa w') => HK.out.bytes za m qa P w' (ha.ext x) HP.out.1 (by have := HP.out.2.1.1; have := HP.out.1; omega) la ma HP.out.2.2.1)
  have F2 := Lib.hid (fun w' (x : Ext wa w') (y : Ext wb w') => rsame25_yes za zb m qa qb P w' (ha.ext x) (hb.ext y) HP.out.1 (by have := HP.out.2.1.1; have := HP.out.1; omega))
  rw [HQ.out.1] at D1 D2
  unfold timesC at D1 D2 E1 E2
  generalize endO c s l u P = En at E1 E2
  have HL := Lib.hid (And.intro la (And.intro ma (And.intro lb mb)))
  have HXB := Lib.hid xb
  have z4 : Ext wb wb.drew := Ext.drew _
  have yd := yb.trans z4
  obtain ⟨t0, t1, t2, t3, -⟩ := HT.out _ yd
  clear ha hb la ma lb mb xa ya xb z0
  go_upto_region 4 with fail
  go_region_held3 (fun w' => w'.cell? ⟨w.heap.size, 0, none⟩ = some (.int .i64 c) ∧ w'.cell? ⟨w.heap.size, 1, none⟩ = some (.int .i64 s) ∧ w'.cell? ⟨w.heap.size, 2, none⟩ = some (.int .i64 l) ∧ w'.cell? ⟨w.heap.size, 3, none⟩ = some (.int .i64 u) ∧ Ext w0 w')
    ((exact HT.out _ (by assumption)))
    (first
      | (go_at_call 8; refine (D1.out _ (HXB.out.trans z4)).mono ?_; rintro e wc ⟨zc, qc, rfl, lc, mc, hc, xc⟩; have yc := Ext.trans yd xc)
      | (go_at_call 9; refine (D2.out _ (z4.trans xc)).mono ?_; rintro e we ⟨ze, qe, rfl, le, me, he, xe⟩; have ye := Ext.trans yc xe))
  rw [Hk.out] at lc le ⊢
  clear t0 t1 t2 t3 D1 D2
  have XB := Lib.hid (z4.trans (xc.trans xe))
  have HC := Lib.hid (fun w' (x : Ext we w') => hc.ext (xe.trans x))
  have HE := Lib.hid (fun w' (x : Ext we w') => he.ext x)
  have HM := Lib.hid (And.intro lc (And.intro mc (And.intro le me)))
  have HS := Lib.hid (fun w' => sure25 HK.out w')
  have YE := Lib.hid (X0.out.trans ye)
  have z5 : Ext we we.drew := Ext.drew _
  have y5 := ye.trans z5
  obtain ⟨t0, t1, t2, t3, -⟩ := HT.out _ y5
  obtain ⟨p0, p1, p2, p3, -⟩ := HT.out _ ye
  have BY := Lib.hid (fun z5 q5 w' (x : Ext we w') (h : Holds .u8 w' z5 m (sndF P)) (h0 : m = n) => byts_is z5 a n q5 cp (sndF P) f w' (h0 ▸ h) (HA.out.ext (YE.out.trans x)) (by have := HN.out; omega) (fun i hi => (HP.out.2.2.2 (by have := HP.out.1; omega)).2 i hi))
  clear hc lc mc xc yc he le me xe ye z4 yd yb
  go_upto_region 5 with fail
  go_cut [61] (fun v wx => v = .bool false ∧ Ext we wx)
  case first =>
    by_cases hm0 : 0 < m
    · have hmn : m = n := by have := (HP.out.2.2.2 (by have := HP.out.1; omega)).1; have := HP.out.1; omega
      have hm1 : (0 : Int) < (m : Int) := by omega
      subst hmn
      go_region_held3 (fun w' => w'.cell? ⟨w.heap.size, 0, none⟩ = some (.int .i64 c) ∧ w'.cell? ⟨w.heap.size, 1, none⟩ = some (.int .i64 s) ∧ w'.cell? ⟨w.heap.size, 2, none⟩ = some (.int .i64 l) ∧ w'.cell? ⟨w.heap.size, 3, none⟩ = some (.int .i64 u) ∧ Ext w0 w')
        ((exact HT.out _ (by assumption)))
        (first
          | (go_at_call 10; refine (F2.out _ (HXB.out.trans (XB.out.trans z5)) (XB.out.trans z5)).mono ?_; rintro e wg ⟨rfl, xg⟩; have yg := Ext.trans y5 xg)
          | (go_at_call 11; refine (E1.out _ (HXB.out.trans (XB.out.trans (z5.trans xg)))).mono ?_; rintro e wh ⟨rfl, xh⟩; have yh := Ext.trans yg xh)
          | (go_at_call 12; refine (E2.out _ (XB.out.trans (z5.trans (xg.trans xh)))).mono ?_; rintro e wi ⟨rfl, xi⟩; have yi := Ext.trans yh xi)
          | (go_at_call 14; refine (F1.out _ (HXB.out.trans (XB.out.trans (z5.trans (xg.trans (xh.trans xi)))))).mono ?_; rintro e wj ⟨zj, qj, rfl, lj, mj, hj, xj⟩; have yj := Ext.trans yi xj)
          | (go_at_call 13; refine (BY.out zj qj _ (z5.trans (xg.trans (xh.trans (xi.trans xj)))) hj trivial).mono ?_; rintro e wk ⟨rfl, xk⟩; have yk := Ext.trans yj xk))
      go_wp2_with fail
      go_meet
      exact ⟨rfl, z5.trans (xg.trans (xh.trans (xi.trans (xj.trans xk))))⟩
    · obtain rfl : m = 0 := by omega
      have P0 := Later.cell p0; have P1 := Later.cell p1; have P2 := Later.cell p2; have P3 := Later.cell p3
      clear p0 p1 p2 p3 t0 t1 t2 t3
      refine wp_region_later (by kernel_rfl) (by kernel_rfl) ?_
      repeat (go_big_quiet_step (first
        | (go_at_call 10; exact later_of (F2.out _ (HXB.out.trans (XB.out.trans (Later.ext _))) (XB.out.trans (Later.ext _))))
        | (go_at_call 11; exact later_of (E1.out _ (HXB.out.trans (XB.out.trans (Later.ext _)))))
        | (go_at_call 12; exact later_of (E2.out _ (XB.out.trans (Later.ext _))))))
      refine wpQuiet_nil ?_
      intro _ hw'
      obtain ⟨x, rfl⟩ := hw'
      have x9 := x.ext
      generalize x.at = w9 at x9 ⊢
      clear P0 P1 P2 P3
      go_wp2_with fail
      go_meet
      exact ⟨rfl, x9⟩
  case rest =>
    obtain ⟨rfl, xc⟩ := hcut
    clear t0 t1 t2 t3 p0 p1 p2 p3 F1 F2 E1 E2
    have HXC := Lib.hid xc
    have HYC := Lib.hid (YE.out.trans xc)
    have hq := fun X Y Z w => bneq X Y Z w
    have hg := fun x y xs ys w => bytq .neq x y xs ys w
    have x1 : Ext wc wc := Ext.refl _
    have hk3 : (k : Int) ≤ 600 := by have := HQ.out.2; have := HP.out.1; have := HP.out.2.1.2; have := HN.out; have := Hk.out; omega
    have HK3 := Lib.hid hk3
    clear xc hk3
    go_wp2_with fail
    go_loopw [11] (fun iv wr => ∃ j : Nat, j ≤ k ∧ iv = .int .i64 j ∧ Ext wc wr) (fun iv _ => k - (intOf iv).toNat)
    case atStart => exact ⟨0, Nat.zero_le _, rfl, x1⟩
    case round =>
      clear x1
      obtain ⟨j, hj, rfl, xr⟩ := hrel
      by_cases hlt : j < k
      · have hkL : j < Q.length := by rw [Hk.out]; exact hlt
        obtain ⟨p, o, rfl, hp, -⟩ := (HC.out _ (Ext.refl _)).resolve_left (by intro e; rw [e] at hkL; simp at hkL)
        obtain ⟨q, s, rfl, hp2, -⟩ := (HE.out _ (Ext.refl _)).resolve_left (by intro e; rw [e] at hkL; simp at hkL)
        have y := HXC.out.trans (xr.trans (Ext.drew _))
        obtain ⟨c0, c1, c2⟩ := (HC.out _ y).byt_at j hkL
        obtain ⟨d0, d1, d2⟩ := (HE.out _ y).byt_at j hkL
        generalize (Q[j]).1 = X at c0 d0
        generalize (Q[j]).2.1 = Y at c1 d1
        generalize (Q[j]).2.2 = Z at c2 d2
        have HY := Lib.hid (xr.trans (Ext.drew _))
        have wk : IntKind.i64.wrap ((j : Int) + 1) = (j : Int) + 1 := IntWalk.i64_in _ (by have := HK3.out; omega)
        have hlt' : (j : Int) < k := by omega
        have HLt := Lib.hid hlt
        clear hlt hkL xr y hp hp2
        go_wp2_with fail
        go_region
        go_wp2_with fail
        go_roundw
        case rel => exact ⟨j + 1, by have := HLt.out; omega, by go_num, HY.out⟩
        case measure => have := HLt.out; simp [intOf]; omega
      · have hkn : j = k := by omega
        subst hkn
        have HXr := Lib.hid (HYC.out.trans xr)
        clear xr
        go_wp2_with fail
        refine (HS.out _).mono ?_; rintro e wz ⟨rfl, xz⟩
        go_wp2
        go_ret
        exact ⟨rfl, HXr.out.trans xz⟩
end Go.Proofs.Ytebhalehgpigoaa
