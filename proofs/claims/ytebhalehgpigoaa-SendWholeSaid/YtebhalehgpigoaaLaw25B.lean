/-
  THE LAWS OF LAYER 25: SendWhole (package send's contracts as premises); both laws for whatever comes in.
-/
import Derived.Test.YtebhalehgpigoaaLaw25A
import Derived.Test.YtebhalehgpigoaaSplitC
namespace Go.Proofs.Ytebhalehgpigoaa
open Go.RowKit
set_option linter.unusedVariables false
set_option maxRecDepth 100000

theorem map_one {α β : Type} {g : α → β} {Ls : List α} {S : β} (h : Ls.map g = [S]) : ∃ x, Ls = [x] ∧ g x = S := by
  match Ls, h with
  | [x], h => exact ⟨x, rfl, by simpa using h⟩
set_option maxHeartbeats 16000000 in
theorem sendWhole.yes (K : SendC) (a : Option Addr) (n cp : Nat) (f : Nat → Int) (T c s l u : Int) (w : World) (ha : Holds .u8 w a n f) (hnc : n ≤ cp) (hcm : cp ≤ maxLen) (hf : ∀ i, i < n → 0 ≤ f i ∧ f i < 256) (wT : (Lit.int .i64 T).wf = true) (wc : (Lit.int .i64 c).wf = true) (ws : (Lit.int .i64 s).wf = true) (wl : (Lit.int .i64 l).wf = true) (wu : (Lit.int .i64 u).wf = true) (hn : n ≤ 256) (hn0 : 0 < n) (hR : rightB c s l u = true) (h0 : 0 ≤ T) (h1 : T ≤ 549755813888) :
    Calls Try.prog 4 #[.slice a n cp, .int .i64 T, timesC c s l u] w fun e w' => e = .returned (.bool true) ∧ Ext w w' := by
  have HK := Lib.hid K
  have HA := Lib.hid ha
  have hr := fun w => rright_any c s l u w
  rw [hR] at hr
  have hc := (rightB_iff c s l u).1 hR
  have h4 := mul_256 (n := n) (c := c) (by omega) (by omega) hn
  have h5 := mul_bd (k := n) (n := n) (c := c) (by omega) (Nat.le_refl _)
  have hpo : planO c s l u T f n = planL T c u f n := by unfold planO; rw [if_pos ⟨hR, ⟨by omega, by omega⟩, hn⟩]
  have hho : hearO c s l u (planL T c u f n) = hearL c (planL T c u f n) := by unfold hearO; rw [if_pos hR]
  have C1 := Lib.hid (fun w' (x : Ext w w') => K.plan a n cp f T c s l u w' (ha.ext x) (by omega) hnc hcm hf wT wc ws wl wu)
  rw [hpo] at C1
  have HW := Lib.hid (And.intro wc (And.intro ws (And.intro wl wu)))
  have hfst : (planL T c u f n)[0]? = some (T + u, f 0) := by rw [List.getElem?_eq_getElem (by rw [planL_length]; exact hn0), plan_first f hR h0 h1 hn0]
  have hlst := plan_last f hR h0 h1 hn hn0
  obtain ⟨S, hS, k1, k2, k3, k4, k5, k6⟩ := plan_whole f hR h0 h1 hn hn0
  have hm := planL_length T c u f n
  have hwf : WfO (planL T c u f n) := planL_wf hf
  have hqb : ∀ x ∈ hearL c (planL T c u f n), 0 ≤ x.2.1 ∧ x.2.1 < 256 := by
    intro x hx
    obtain ⟨y, hy, rfl⟩ := List.mem_map.1 hx
    exact (hwf y hy).2
  have hql := hearL_length c (planL T c u f n)
  rw [hm] at hql
  generalize planL T c u f n = P at C1 hfst hlst hS hm hwf hqb hql hho
  generalize hearL c P = Q at hS hqb hql hho
  obtain ⟨V, hV⟩ : ∃ V, V = T + u := ⟨_, rfl⟩
  obtain ⟨D, hD⟩ : ∃ D, D = (n : Int) * c := ⟨_, rfl⟩
  obtain ⟨En, hEn⟩ : ∃ En, En = V + D := ⟨_, rfl⟩
  rw [← hV, ← hD, ← hEn] at hlst k6
  rw [← hV] at hfst
  have hsp : spanI c s l u n = D := by rw [hD]; exact span_of hR hn hn0
  have KS := Lib.hid (fun w => kspan_any c s l u n w wc ws wl wu (wf_time (by omega) (by omega)))
  rw [hsp] at KS
  rw [← hD] at h4 h5
  have HP := Lib.hid (And.intro hm (And.intro hwf (And.intro hfst hlst)))
  have HQ := Lib.hid (And.intro hho (And.intro hql (And.intro hqb hS)))
  have HS := Lib.hid (And.intro k1 (And.intro k2 (And.intro k3 (And.intro k4 (And.intro k5 k6)))))
  have e1 : IntKind.i64.wrap (T + u) = V := by rw [IntWalk.i64_in _ (by omega), hV]
  have e2 : IntKind.i64.wrap (En - V) = D := by rw [IntWalk.i64_in _ (by omega)]; omega
  have e3 : IntKind.i64.wrap (u + c) = u + c := IntWalk.i64_in _ (by omega)
  have m1 : ¬ (256 : Int) < (n : Int) := by omega
  have m2 : ((n : Int) == 0) = false := by simp; omega
  have m3 : ¬ T < 0 := by omega
  have m4 : ¬ (549755813888 : Int) < T := by omega
  have m5 : (0 : Int) < (n : Int) := by omega
  have HN := Lib.hid (And.intro hn hn0)
  have T0 := TimAt.made w c s l u
  have x0 := Ext.alloc w (.cells #[.int .i64 c, .int .i64 s, .int .i64 l, .int .i64 u] 24)
  clear K ha hnc hcm hf wT wc ws wl wu hn hn0 hR h0 h1 hc h4 h5 hpo hho hfst hlst hS k1 k2 k3 k4 k5 k6 hm hwf hqb hql hV hD hEn hsp
  unfold timesC at C1 ⊢
  go_enter Try.func4, Try.ntmps4
  go_upto_region 1 with fail
  obtain ⟨w0, hw0⟩ : ∃ w0, w0 = w.alloc (.cells #[.int .i64 c, .int .i64 s, .int .i64 l, .int .i64 u] 24) := ⟨_, rfl⟩
  rw [← hw0] at T0 x0 ⊢
  have HT := Lib.hid (fun w' (x : Ext w0 w') => And.intro (T0.ext x).c0 (And.intro (T0.ext x).c1 (And.intro (T0.ext x).c2 (And.intro (T0.ext x).c3 x))))
  have X0 := Lib.hid x0
  clear hw0 T0 x0
  obtain ⟨t0, t1, t2, t3, -⟩ := HT.out _ (Ext.refl _)
  go_wp2_with fail
  refine (hr _).mono ?_; rintro e w1 ⟨rfl, x1⟩
  clear hr t0 t1 t2 t3
  obtain ⟨t0, t1, t2, t3, -⟩ := HT.out _ x1
  go_wp2_with fail
  refine (C1.out _ (X0.out.trans x1)).mono ?_; rintro e wa ⟨za, qa, rfl, la, ma, ha, xa⟩
  rw [HP.out.1] at la ⊢
  have xa0 := x1.trans xa
  clear t0 t1 t2 t3 x1 xa C1
  obtain ⟨p, o, rfl, hp, -⟩ := ha.resolve_left (by intro e; have := HP.out.1; rw [e] at this; simp at this; have := HN.out; omega)
  obtain ⟨c0, -⟩ := ha.out_at 0 (by rw [HP.out.1]; exact HN.out.2)
  have hP0 : ∀ hh : 0 < P.length, P[0] = (V, f 0) := fun hh => by
    have := HP.out.2.2.1
    rw [List.getElem?_eq_getElem hh] at this
    exact Option.some.inj this
  rw [hP0, Nat.zero_mul, Nat.add_zero] at c0
  simp only at c0
  clear hP0
  have E1 := Lib.hid (fun w' (x : Ext wa w') => HK.out.end_ (some ⟨p, o, none⟩) n qa P c s l u w' (ha.ext x) HP.out.1 (by have := HN.out; omega) la ma HP.out.2.1 HW.out.1 HW.out.2.1 HW.out.2.2.1 HW.out.2.2.2)
  have D1 := Lib.hid (fun w' (x : Ext wa w') => HK.out.hear (some ⟨p, o, none⟩) n qa P c s l u w' (ha.ext x) HP.out.1 (by have := HN.out; omega) la ma HP.out.2.1 HW.out.1 HW.out.2.1 HW.out.2.2.1 HW.out.2.2.2)
  rw [HP.out.2.2.2] at E1
  rw [HQ.out.1] at D1
  unfold timesC at E1 D1
  have HS5 := Lib.hid (fun w' (x : Ext wa w') => And.intro (HT.out w' (xa0.trans x)).1 (And.intro (HT.out w' (xa0.trans x)).2.1 (And.intro (HT.out w' (xa0.trans x)).2.2.1 (And.intro (HT.out w' (xa0.trans x)).2.2.2.1 (And.intro (x.cell hp c0) x)))))
  have X0a := Lib.hid xa0
  have z4 : Ext wa wa.drew := Ext.drew _
  obtain ⟨t0, t1, t2, t3, t4, -⟩ := HS5.out _ z4
  have m6 : 0 < n := HN.out.2
  clear c0 la ma ha xa0 hp
  go_upto_region 4 with fail
  go_region_held3 (fun w' => w'.cell? ⟨w.heap.size, 0, none⟩ = some (.int .i64 c) ∧ w'.cell? ⟨w.heap.size, 1, none⟩ = some (.int .i64 s) ∧ w'.cell? ⟨w.heap.size, 2, none⟩ = some (.int .i64 l) ∧ w'.cell? ⟨w.heap.size, 3, none⟩ = some (.int .i64 u) ∧ w'.cell? ⟨p, o, none⟩ = some (.int .i64 V) ∧ Ext wa w')
    ((exact HS5.out _ (by assumption)))
    (first
      | (go_at_call 11; refine (E1.out _ z4).mono ?_; rintro e wb ⟨rfl, xb⟩; have yb := Ext.trans z4 xb)
      | (go_at_call 16; refine (KS.out _).mono ?_; rintro e wc ⟨rfl, xc⟩; have yc := Ext.trans yb xc))
  clear t0 t1 t2 t3 t4
  have z6 := yc.trans (Ext.drew wc)
  have YC := Lib.hid yc
  obtain ⟨t0, t1, t2, t3, t4, -⟩ := HS5.out _ z6
  have A1 := Lib.hid (fun z q w' (h : HoldsL 3 byt w' z Q) (h1 : n ≤ q) (h2 : q ≤ maxLen) => sall_any' z n q Q c s l u T w' h HQ.out.2.1 h1 h2 (by have := HN.out; omega) HQ.out.2.2.1)
  rw [HQ.out.2.2.2] at A1
  unfold timesC at A1
  clear xb yb xc yc z4 KS
  go_upto_region 6 with fail
  go_region_held3 (fun w' => w'.cell? ⟨w.heap.size, 0, none⟩ = some (.int .i64 c) ∧ w'.cell? ⟨w.heap.size, 1, none⟩ = some (.int .i64 s) ∧ w'.cell? ⟨w.heap.size, 2, none⟩ = some (.int .i64 l) ∧ w'.cell? ⟨w.heap.size, 3, none⟩ = some (.int .i64 u) ∧ w'.cell? ⟨p, o, none⟩ = some (.int .i64 V) ∧ Ext wa w')
    ((exact HS5.out _ (by assumption)))
    (first
      | (go_at_call 8; refine (D1.out _ z6).mono ?_; rintro e wg ⟨zg, qg, rfl, lg, mg, hg, xg⟩; have yg := Ext.trans z6 xg; rw [HQ.out.2.1] at lg ⊢)
      | (go_at_call 17; refine (A1.out zg qg _ hg lg mg).mono ?_; rintro e wd ⟨zd, qd, Ls, rfl, xd, sd, hLs⟩; have yd := Ext.trans yg xd))
  obtain ⟨⟨⟨A, ca⟩, S'⟩, rfl, hSe⟩ := map_one hLs
  simp only at hSe
  subst hSe
  simp only [List.length_cons, List.length_nil, Nat.zero_add]
  obtain ⟨bh, bl, bm, bb, bf⟩ := sd.each _ (List.mem_singleton.2 rfl)
  have hsg := sd.segs.holds
  obtain ⟨g, h, rfl, hg2, -⟩ := hsg.resolve_left (by simp)
  obtain ⟨s0, -, s2, s3, s4, s5⟩ := hsg.seg_at 0 (by simp)
  rw [Nat.zero_mul, Nat.add_zero] at s0 s2 s3 s4 s5
  simp only [List.getElem_cons_zero] at s0 s2 s3 s4 s5 bh bl bm
  rw [HS.out.1] at s0 bh bl
  rw [HS.out.2.2.2.2.2] at s2
  rw [HS.out.2.2.1] at s3
  rw [HS.out.2.2.2.1] at s4
  rw [HS.out.2.2.2.2.1] at s5
  have HS7 := Lib.hid (fun w' (x : Ext wd w') => And.intro (HS5.out w' (yd.trans x)).1 (And.intro (HS5.out w' (yd.trans x)).2.1 (And.intro (HS5.out w' (yd.trans x)).2.2.1 (And.intro (HS5.out w' (yd.trans x)).2.2.2.1 (And.intro (x.cell hg2 s0) (And.intro (x.cell hg2 s2) (And.intro (x.cell hg2 s3) (And.intro (x.cell hg2 s4) (And.intro (x.cell hg2 s5) x)))))))))
  have BY := Lib.hid (fun w' (x : Ext wd w') => byts_is A a n ca cp S'.f f w' (bh.ext x) (HA.out.ext (X0.out.trans (X0a.out.trans (yd.trans x)))) (by have := HN.out; omega) (fun i hi => HS.out.2.1 i hi))
  have E1' := Lib.hid (fun w' (x : Ext wd w') => E1.out w' (yd.trans x))
  have SU := Lib.hid (fun w' => sure25 HK.out w')
  have YD := Lib.hid (X0.out.trans (X0a.out.trans yd))
  have z9 : Ext wd wd.drew := Ext.drew _
  have d1 : (1 : Int) ≤ qd := by have := sd.le; simp at this; omega
  clear t0 t1 t2 t3 t4
  obtain ⟨t0, t1, t2, t3, t4, t5, t6, t7, t8, -⟩ := HS7.out _ z9
  clear hsg sd bl bm bb bf s0 s2 s3 s4 s5 hg2 yd xd yg xg hg lg mg bh z6 A1 D1 E1
  go_upto_region 7 with fail
  go_region_held3 (fun w' => w'.cell? ⟨w.heap.size, 0, none⟩ = some (.int .i64 c) ∧ w'.cell? ⟨w.heap.size, 1, none⟩ = some (.int .i64 s) ∧ w'.cell? ⟨w.heap.size, 2, none⟩ = some (.int .i64 l) ∧ w'.cell? ⟨w.heap.size, 3, none⟩ = some (.int .i64 u) ∧ w'.cell? ⟨g, h, none⟩ = some (.slice A n ca) ∧ w'.cell? ⟨g, h + 2, none⟩ = some (.int .i64 En) ∧ w'.cell? ⟨g, h + 3, none⟩ = some (.int .i64 n) ∧ w'.cell? ⟨g, h + 4, none⟩ = some (.bool (decide (u + c < l))) ∧ w'.cell? ⟨g, h + 5, none⟩ = some (.bool false) ∧ Ext wd w')
    ((exact HS7.out _ (by assumption)))
    (first
      | (go_at_call 13; refine (BY.out _ z9).mono ?_; rintro e wi ⟨rfl, xi⟩; have yi := Ext.trans z9 xi)
      | (go_at_call 11; refine (E1'.out _ yi).mono ?_; rintro e wj ⟨rfl, xj⟩; have yj := Ext.trans yi xj)
      | (go_at_call 5; refine (SU.out _).mono ?_; rintro e wk ⟨rfl, xk⟩; have yk := Ext.trans yj xk))
  go_wp2_with fail
  go_ret
  exact ⟨rfl, YD.out.trans yk⟩
end Go.Proofs.Ytebhalehgpigoaa
