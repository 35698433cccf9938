/-
  THE LAWS OF LAYER 9: SplitWhole's walk ('sure' as a premise).
-/
import Derived.Test.YtanoakebbfidiaaDoorLaw09D
import Derived.Test.YtanoakebbfidiaaDoorWholeP
import Derived.Deep.LoopGhost
import Derived.BigQuiet
import Derived.Deep.DeepCutAuto
namespace Go.Proofs.YtanoakebbfidiaaDoor
open Go.RowKit
set_option linter.unusedVariables false

theorem sw_at {n pos k : Nat} (hk : 0 < k ∧ k ≤ n - pos) (hn : n ≤ 700) : ∃ (E : Int) (q : Nat), q = pos + k - 1 ∧ E = (pos : Int) + (k : Int) ∧ IntKind.i64.wrap ((n : Int) - (pos : Int)) = (n : Int) - (pos : Int) ∧ IntKind.i64.wrap ((pos : Int) + (k : Int)) = E ∧ IntKind.i64.wrap (E - 1) = (q : Int) ∧
    decide ((k : Int) < 1) = false ∧ decide ((n : Int) - (pos : Int) < (k : Int)) = false ∧ (pos : Int) < n ∧ (q : Int) < n ∧ pos < n ∧ q < n :=
  ⟨_, _, rfl, rfl, IntWalk.i64_in _ (by omega), IntWalk.i64_in _ (by omega), by rw [IntWalk.i64_in _ (by omega)]; omega, by rw [decide_eq_false_iff_not]; omega, by rw [decide_eq_false_iff_not]; omega, by omega, by omega, by omega, by omega⟩
theorem sw_min {k gn : Nat} (h : gn = min k 256) : min (k : Int) 256 = (gn : Int) := by omega
theorem sw_j {n pos k j gn : Nat} (hk : 0 < k ∧ k ≤ n - pos) (hn : n ≤ 700) (hj : j < k) (hg : gn = min k 256) : ∃ q : Nat, q = pos + j ∧ IntKind.i64.wrap ((pos : Int) + (j : Int)) = (q : Int) ∧ (q : Int) < n ∧ q < n ∧ (j < 256 → (j : Int) < gn ∧ j < gn ∧ j < min k 256) :=
  ⟨_, rfl, by rw [IntWalk.i64_in _ (by omega)]; omega, by omega, by omega, fun h => ⟨by omega, by omega, by omega⟩⟩
theorem sw_r {n q : Nat} (h0 : 0 < q) (hq : q < n) (hn : n ≤ 700) : ∃ r : Nat, r = q - 1 ∧ IntKind.i64.wrap ((q : Int) - 1) = (r : Int) ∧ (r : Int) < n ∧ r < n :=
  ⟨_, rfl, by rw [IntWalk.i64_in _ (by omega)]; omega, by omega, by omega⟩
theorem sw_diff {x y : Int} (hx : 0 ≤ x ∧ x ≤ 1099511627776) (hy : 0 ≤ y ∧ y ≤ 1099511627776) : IntKind.i64.wrap (x - y) = x - y := IntWalk.i64_in _ (by omega)
theorem dec_no {p : Prop} [Decidable p] (h : ¬ p) : decide p = false := decide_eq_false h
theorem dec_pos {j : Nat} (h : 0 < j) : decide ((0 : Int) < (j : Int)) = true ∧ decide (0 < j) = true := ⟨by rw [decide_eq_true_iff]; omega, by rw [decide_eq_true_iff]; exact h⟩
theorem dec_zero {j : Nat} (h : j = 0) : decide ((0 : Int) < (j : Int)) = false ∧ decide (0 < j) = false := ⟨by rw [decide_eq_false_iff_not]; omega, by rw [decide_eq_false_iff_not]; omega⟩
theorem dec_lt {j : Nat} (h : j < 256) : decide ((j : Int) < 256) = true ∧ decide (j < 256) = true := ⟨by rw [decide_eq_true_iff]; omega, by rw [decide_eq_true_iff]; exact h⟩
theorem dec_ge {j : Nat} (h : ¬ j < 256) : decide ((j : Int) < 256) = false ∧ decide (j < 256) = false := ⟨by rw [decide_eq_false_iff_not]; omega, by rw [decide_eq_false_iff_not]; exact h⟩
theorem nth_prev {L D : List Byt} {pos j q r : Nat} (hD : L.drop pos = D) (hq : q = pos + j) (hj : j ≠ 0) (hr : r = q - 1) : nth D (j - 1) = nth L r := by rw [← hD, nth_drop, hr, hq]; congr 1; omega
theorem q_pos {pos j q : Nat} (hq : q = pos + j) (hj : j ≠ 0) : 0 < q := by omega
theorem sw_next {s l : Int} {L D : List Byt} {M : List Seg} {pos k E i : Nat} (hD : L.drop pos = D) (hE : E = pos + k) (hk : 0 < k) (h : WholeP s l false (nth D (k - 1)).1 (D.drop k) M) : WholeP s l (decide (i + 1 = 0)) (nth L (E - 1)).1 (L.drop E) M := by
  rw [decide_eq_false (Nat.succ_ne_zero i)]
  rw [← hD, nth_drop, List.drop_drop, ← hE, show pos + (k - 1) = E - 1 by omega] at h
  exact h
theorem sw_end {n pos k : Nat} (hk : 0 < k ∧ k ≤ n - pos) (hn : n ≤ 700) : ∃ E : Nat, E = pos + k ∧ IntKind.i64.wrap ((pos : Int) + (k : Int)) = (E : Int) ∧ E ≤ n ∧ 0 < E := ⟨_, rfl, by rw [IntWalk.i64_in _ (by omega)]; omega, by omega, by omega⟩
theorem sw_inc {i h N : Nat} (e : i + (h + 1) = N) : i + 1 + h = N := by omega
theorem sw_last {i N : Nat} (e : i + 0 = N) : i = N := e
theorem not_lt_cast {i N : Nat} (e : i + 0 = N) : ¬ ((i : Int) < (N : Int)) := by omega
theorem gap_next {s l f' : Int} {b : Bool} {D : List Byt} {j : Nat} {G G1 : Bool} (h1 : G1 = gapsB s l b f' D 1) (hG : G = if j = 0 then G1 else gapsB s l b f' D j) :
    (j = 0 → gapsB s l b f' D (j + 1) = G) ∧ (j ≠ 0 → gapsB s l b f' D (j + 1) = (G || decide (s < (nth D j).1 - (nth D (j - 1)).1))) := by
  refine ⟨fun e => ?_, fun e => ?_⟩
  · subst e; rw [if_pos rfl] at hG; rw [hG, h1]
  · rw [if_neg e] at hG
    conv => lhs; unfold gapsB
    rw [if_neg e, hG]
theorem sw_w {i : Nat} (h : i ≤ 701) : wrap64 ((i : Int) + 1) = ((i + 1 : Nat) : Int) := by
  rw [← IntWalk.i64_left, IntWalk.i64_in _ (by omega)]; omega
theorem lt_of_sum {j h k : Nat} (e : j + (h + 1) = k) : j < k := by omega
set_option maxRecDepth 100000 in
set_option maxHeartbeats 8000000 in
theorem splitWhole.most (a : Option Addr) (n cp : Nat) (L : List Byt) (c s l u f : Int) (w : World) (hr : Rd w) (ha : HoldsL 3 byt w a L) (hL : L.length = n) (hcp : n ≤ cp) (hcpm : cp ≤ maxLen) (h700 : n ≤ 700) (hw : WfB L)
    (hc : (Lit.int .i64 c).wf = true) (hs : (Lit.int .i64 s).wf = true) (hl : (Lit.int .i64 l).wf = true) (hu : (Lit.int .i64 u).wf = true) (hf : (Lit.int .i64 f).wf = true)
    (h1 : rightB c s l u = true) (h2 : rightI L f = true)
    (sure : ∀ w, Rd w → Calls Tryd.prog 8 #[] w fun e w' => e = .returned (.bool true) ∧ Ext w w') :
    Calls Tryd.prog 5 #[.slice a n cp, timesC c s l u, .int .i64 f] w fun e w' => e = .returned (.bool true) ∧ Ext w w' := by
  have hr0 := fun w => rright_any c s l u w
  rw [h1] at hr0
  have f1 := fun w' (x : Ext w w') => sright_any a n cp L f w' (ha.ext x) hL (by omega) hw hf
  rw [h2] at f1
  have f5 := fun w' (x : Ext w w') => sure w' (hr.ext x)
  have A1 := fun w' (x : Ext w w') => sall_any a n cp L c s l u f w' (hr.ext x) (ha.ext x) hL hcp hcpm (by omega) hw hc hs hl hu hf
  have hall : allS c s l u f L = cutG s l true f zeroS L := by unfold allS; rw [if_pos ⟨h1, h2⟩]
  rw [hall] at A1
  have hwhole := whole_all s l f L
  have hats : (0 ≤ f ∧ f ≤ 1099511627776) ∧ ∀ i, i < n → 0 ≤ (nth L i).1 ∧ (nth L i).1 ≤ 1099511627776 := by
    obtain ⟨hf0, hb⟩ := right_rising.1 h2
    have : ∀ (L : List Byt) (f : Int), 0 ≤ f → risingI f L = true → ∀ y ∈ L, 0 ≤ y.1 ∧ y.1 ≤ 1099511627776 := by
      intro L
      induction L with
      | nil => intro f h0 h y hy; simp at hy
      | cons x L ih =>
        intro f h0 h y hy
        obtain ⟨k1, k2, k3⟩ := rising_drop h
        rcases List.mem_cons.1 hy with rfl | hy
        · omega
        · exact ih x.1 (by omega) k3 y hy
    exact ⟨hf0, fun i hi => by rw [nth_get (by omega)]; exact this L f hf0.1 hb _ (List.getElem_mem _)⟩
  have h7 : ¬ (700 : Int) < (n : Int) := by omega
  have HA := Lib.hid ha; have HL := Lib.hid hL; have HN := Lib.hid h700; have HAts := Lib.hid hats; have HW := Lib.hid hwhole
  have F1 := Lib.hid f1; have F5 := Lib.hid f5; have HA1 := Lib.hid A1; have HR0 := Lib.hid hr0; have HC := Lib.hid ((rightB_iff c s l u).1 h1)
  unfold timesC at HA1 ⊢
  clear hr ha hL hcp hcpm h700 hw hc hs hl hu hf h1 h2 sure f1 f5 A1 hall hwhole hats hr0
  go_enter Tryd.func5, Tryd.ntmps5
  go_wp2_with fail
  refine (HR0.out _).mono ?_; rintro e w1 ⟨rfl, x1⟩
  have x2 := (Ext.alloc _ _).trans x1
  have t0 := x1.made 0 _ rfl
  have t1 := x1.made 1 _ rfl
  have t2 := x1.made 2 _ rfl
  have t3 := x1.made 3 _ rfl
  clear x1 HR0
  go_wp2_with fail
  refine (F1.out _ x2).mono ?_; rintro e w2 ⟨rfl, x3⟩
  have y2 := x2.trans x3
  have p0 := x3.cell (World.block_lt_of_cell? _ _ t0) t0
  have p1 := x3.cell (World.block_lt_of_cell? _ _ t1) t1
  have p2 := x3.cell (World.block_lt_of_cell? _ _ t2) t2
  have p3 := x3.cell (World.block_lt_of_cell? _ _ t3) t3
  clear x2 x3 t0 t1 t2 t3 F1 h7
  go_wp2_with fail
  refine (HA1.out _ y2).mono ?_; rintro e w3 ⟨za, ua, La, rfl, xa, sa, ra⟩
  have y3 := y2.trans xa
  have HT := Lib.hid (fun w' (x : Ext w3 w') => And.intro ((xa.trans x).cell (World.block_lt_of_cell? _ _ p1) p1) ((xa.trans x).cell (World.block_lt_of_cell? _ _ p2) p2))
  rw [← ra] at HW
  have HSa := Lib.hid sa
  have HY3 := Lib.hid y3
  have hlen : La.length ≤ 701 := by
    have := cutG_len s l true f zeroS L
    rw [← ra, List.length_map, HL.out] at this; have := HN.out; omega
  have HLen := Lib.hid hlen
  clear p0 p1 p2 p3 y2 xa sa ra y3 hlen HA1
  go_wp2_with fail
  obtain ⟨N, hN⟩ : ∃ N, N = La.length := ⟨_, rfl⟩
  rw [← hN]
  have HNN := Lib.hid hN
  clear hN
  go_loopg [8, 9] N (fun h av iv wr => ∃ (i pos : Nat) (f' : Int), i + h = N ∧ iv = .int .i64 i ∧ av = .int .i64 pos ∧ pos ≤ n ∧ WholeP s l (decide (i = 0)) f' (L.drop pos) ((La.drop i).map Prod.snd) ∧ (i = 0 → pos = 0 ∧ f' = f) ∧ (0 < i → 0 < pos ∧ f' = (nth L (pos - 1)).1) ∧ Ext w3 wr)
  case atStart => exact ⟨0, 0, f, by omega, rfl, rfl, Nat.zero_le _, HW.out, fun _ => ⟨rfl, rfl⟩, fun h => absurd h (by omega), Ext.refl _⟩
  case round =>
    obtain ⟨i, pos, f', hi, rfl, rfl, hpn, hwp, h0, h1, xr⟩ := hrel
    cases gk with
    | zero =>
      have hz : La.drop i = [] := List.drop_of_length_le (by have := HNN.out; have := sw_last hi; omega)
      rw [hz, List.map_nil] at hwp
      have hD0 : L.drop pos = [] := by
        generalize L.drop pos = D at hwp
        cases hwp
        rfl
      have hpos : pos = n := by
        have := congrArg List.length hD0
        rw [List.length_drop, HL.out] at this
        simp at this; omega
      have hni := not_lt_cast hi
      have hsure := F5.out _ (HY3.out.trans xr)
      have HX9 := Lib.hid (HY3.out.trans xr)
      have hpe : ((pos : Int) == (n : Int)) = true := by rw [hpos]; simp
      have hpe' : (pos == n) = true := by rw [hpos]; simp
      clear hz hwp hD0 hpos h0 h1 xr hi hpn
      go_wp2_with fail
      refine hsure.mono ?_; rintro e w9 ⟨rfl, x9⟩
      go_wp2
      go_ret
      exact ⟨rfl, HX9.out.trans x9⟩
    | succ h =>
      have hiL : i < La.length := by rw [← HNN.out]; omega
      rw [List.drop_eq_getElem_cons hiL, List.map_cons] at hwp
      have hsegs := HSa.out.segs
      obtain ⟨gz, goff, rfl, hgz, -⟩ := hsegs.holds.resolve_left (by intro e; rw [e] at hiL; simp at hiL)
      obtain ⟨ea, -, -, -⟩ := hsegs.each La[i] (List.getElem_mem _)
      obtain ⟨a0, a1, a2, a3, a4, a5⟩ := hsegs.holds.seg_at i hiL
      have hii : (i : Int) < N := by omega
      generalize La[i] = y at hwp ea a0 a1 a2 a3 a4 a5
      obtain ⟨⟨A, cA⟩, gn, gf, gfirst, glast, gcount, ggap, gbad⟩ := y
      simp only at hwp ea a0 a1 a2 a3 a4 a5
      have b0 := xr.cell hgz a0
      have b1 := xr.cell hgz a1
      have b2 := xr.cell hgz a2
      have b3 := xr.cell hgz a3
      have b4 := xr.cell hgz a4
      have b5 := xr.cell hgz a5
      generalize hD : L.drop pos = D at hwp
      generalize hM : (La.drop (i + 1)).map Prod.snd = M at hwp
      have hwp' : ∃ k, SegOf s l (decide (i = 0)) f' D k ⟨gn, gf, gfirst, glast, gcount, ggap, gbad⟩ ∧ (decide (i = 0) = false → l ≤ (nth D 0).1 - f') ∧ WholeP s l false (nth D (k - 1)).1 (D.drop k) M := by
        cases hwp with
        | cons hh hl hr => exact ⟨_, hh, hl, hr⟩
      obtain ⟨k, hso, hlong, hrest⟩ := hwp'
      clear hwp a0 a1 a2 a3 a4 a5 hsegs hgz
      have HSo := Lib.hid hso; have HLong := Lib.hid hlong; have HRest := Lib.hid hrest; have HD := Lib.hid hD; have HM := Lib.hid hM; have H0 := Lib.hid h0; have H1 := Lib.hid h1; have HPn := Lib.hid hpn
      have hk0 := hso.pos
      have hkl := hso.le
      rw [← hD, List.length_drop, HL.out] at hkl
      have hcnt := hso.count
      simp only at hcnt
      subst hcnt
      have HE := Lib.hid ea
      have HK := Lib.hid (And.intro hk0 hkl)
      have HXr := Lib.hid xr
      have HI := Lib.hid (And.intro hi hiL)
      clear hso hlong hrest hD hM h0 h1 hpn ea hk0 hkl xr hiL hi
      obtain ⟨w4, hw4⟩ : ∃ w4, w4 = wr.alloc (.cells #[.slice A gn cA, .int .i64 gfirst, .int .i64 glast, .int .i64 k, .bool ggap, .bool gbad] 33) := ⟨_, rfl⟩
      have x4 : Ext wr w4 := by rw [hw4]; exact Ext.alloc _ _
      have CS : ∀ j v, (#[.slice A gn cA, .int .i64 gfirst, .int .i64 glast, .int .i64 k, .bool ggap, .bool gbad] : Array Value)[j]? = some v → w4.cell? ⟨wr.heap.size, j, none⟩ = some v := by intro j v hv; rw [hw4]; exact (Ext.refl _).made j v hv
      have HX4 := Lib.hid x4
      have HCS := Lib.hid CS
      clear x4 CS
      go_upto_region 9 with fail
      rw [← hw4]
      clear hw4 b0 b1 b2 b3 b4 b5
      obtain ⟨B, hB⟩ : ∃ B, B = wr.heap.size := ⟨_, rfl⟩
      rw [← hB] at HCS ⊢
      clear hB
      have hpn' : pos < L.length := by have := HK.out; rw [HL.out]; omega
      obtain ⟨pb, po, rfl, hpb, -⟩ := HA.out.resolve_left (by intro e; rw [e] at hpn'; simp at hpn')
      have hby : ∀ j, j < n → ∀ w', Ext w4 w' → w'.cell? ⟨pb, po + j * 3, none⟩ = some (.int .i64 (nth L j).1) ∧ w'.cell? ⟨pb, po + j * 3 + 1, none⟩ = some (.int .u8 (nth L j).2.1) ∧ w'.cell? ⟨pb, po + j * 3 + 2, none⟩ = some (.bool (nth L j).2.2) := by
        intro j hj w' x'
        have hx := ((HY3.out.trans HXr.out).trans HX4.out).trans x'
        have hjL : j < L.length := by rw [HL.out]; exact hj
        obtain ⟨d0, d1, d2⟩ := HA.out.byt_at j hjL
        rw [nth_get hjL]
        exact ⟨hx.cell hpb d0, hx.cell hpb d1, hx.cell hpb d2⟩
      have hgf : gfirst = (nth L pos).1 := by rw [show gfirst = (nth D 0).1 from HSo.out.first, ← HD.out, nth_drop]; rfl
      have hgl : glast = (nth L (pos + k - 1)).1 := by rw [show glast = (nth D (k - 1)).1 from HSo.out.last, ← HD.out, nth_drop]; congr 2; have := HK.out; omega
      have hgn : gn = min k 256 := HSo.out.n
      have HBy := Lib.hid hby; have HGf := Lib.hid hgf; have HGl := Lib.hid hgl; have HGn := Lib.hid hgn
      clear hpn' hpb hby hgf hgl hgn
      go_cut [87] from 33 to 212 (fun v wx => v = .bool false ∧ Ext w4 wx)
      case first => as_aux_lemma =>
        have hmin := sw_min HGn.out
        obtain ⟨E, q, hq, hE, v1, v2, v3, d1, d2, i1, i2, i3, i4⟩ := sw_at HK.out HN.out
        obtain ⟨c0, -, -⟩ := HBy.out pos i3 w4 (Ext.refl _)
        obtain ⟨c1, -, -⟩ := HBy.out q i4 w4 (Ext.refl _)
        rw [← HGf.out] at c0
        rw [hq, ← HGl.out, ← hq] at c1
        have C0 := Later.cell c0
        have C1 := Later.cell c1
        have S0 := Later.cell (HCS.out 0 _ rfl)
        have S1 := Later.cell (HCS.out 1 _ rfl)
        have S2 := Later.cell (HCS.out 2 _ rfl)
        have S3 := Later.cell (HCS.out 3 _ rfl)
        clear hE hq c0 c1 i3 i4
        refine wp_region_later (by kernel_rfl) (by kernel_rfl) ?_
        repeat (go_big_quiet_step (fail))
        refine wpQuiet_nil ?_
        intro _ hw'
        obtain ⟨x, rfl⟩ := hw'
        go_wp2_with fail
        go_meet
        exact ⟨rfl, x.ext⟩
      case rest =>
        obtain ⟨rfl, xc⟩ := hcut
        have HXc := Lib.hid xc
        clear xc
        go_upto_region 11 with fail
        go_cut [103] from 33 to 212 (fun v wx => v = .bool false ∧ Ext w4 wx)
        case first => as_aux_lemma =>
          by_cases hi0 : i = 0
          · obtain ⟨e0, e1⟩ := dec_zero hi0
            have HXc2 := HXc
            clear hi0
            refine wp_region_later (by kernel_rfl) (by kernel_rfl) ?_
            repeat (go_big_quiet_step (fail))
            refine wpQuiet_nil ?_
            intro _ hw'
            obtain ⟨x, rfl⟩ := hw'
            go_wp2_with fail
            go_meet
            exact ⟨rfl, HXc2.out.trans x.ext⟩
          · obtain ⟨e0, e1⟩ := dec_pos (Nat.pos_of_ne_zero hi0)
            obtain ⟨hp0, hf'⟩ := H1.out (Nat.pos_of_ne_zero hi0)
            obtain ⟨-, -, -, -, -, -, -, -, -, -, -, i3, -⟩ := sw_at HK.out HN.out
            obtain ⟨r, hr, wr', hrn, hrN⟩ := sw_r hp0 i3 HN.out
            have hlg := HLong.out (dec_no hi0)
            rw [show (nth D 0).1 = gfirst from HSo.out.first.symm, hf', ← hr] at hlg
            have hA := HAts.out.2 pos i3
            rw [← HGf.out] at hA
            have hB := HAts.out.2 r hrN
            obtain ⟨d0, -, -⟩ := HBy.out r hrN wc HXc.out
            have D0 := Later.cell d0
            have wd := sw_diff hA hB
            have dl : decide (gfirst - (nth L r).1 < l) = false := dec_no (Int.not_lt.2 hlg)
            have S1 := Later.cell (HXc.out.cell (World.block_lt_of_cell? _ _ (HCS.out 1 _ rfl)) (HCS.out 1 _ rfl))
            have t2 : wc.cell? ⟨w.heap.size, 2, none⟩ = some (.int .i64 l) := (HT.out _ ((HXr.out.trans HX4.out).trans HXc.out)).2
            have T2 := Later.cell t2
            have HXc2 := HXc
            clear hi0 hp0 hf' i3 hr hrN hlg hA hB d0 t2
            generalize (nth L r).1 = Y at D0 wd dl
            refine wp_region_later (by kernel_rfl) (by kernel_rfl) ?_
            repeat (go_big_quiet_step (fail))
            refine wpQuiet_nil ?_
            intro _ hw'
            obtain ⟨x, rfl⟩ := hw'
            go_wp2_with fail
            go_meet
            exact ⟨rfl, HXc2.out.trans x.ext⟩
        case rest =>
          clear HXc
          obtain ⟨rfl, xc⟩ := hcut
          rename_i wd
          have HXc := Lib.hid xc
          clear xc
          go_upto_region 13 with fail
          obtain ⟨G1, hG1⟩ : ∃ G1, G1 = gapsB s l (decide (i = 0)) f' D 1 := ⟨_, rfl⟩
          have HG1 := Lib.hid hG1
          clear hG1
          go_cut [11, 12] from 33 to 212 (fun v b wx => v = .bool G1 ∧ b = .bool false ∧ Ext w4 wx)
          case first => as_aux_lemma =>
            have s1 := HXc.out.cell (World.block_lt_of_cell? _ _ (HCS.out 1 _ rfl)) (HCS.out 1 _ rfl)
            have t2 : wc.cell? ⟨w.heap.size, 2, none⟩ = some (.int .i64 l) := (HT.out _ ((HXr.out.trans HX4.out).trans HXc.out)).2
            have hG : G1 = (decide (i = 0) && decide (gfirst - f' < l)) := by
              rw [HG1.out]
              unfold gapsB gapsB
              rw [if_pos rfl, Bool.false_or, show (nth D 0).1 = gfirst from HSo.out.first.symm]
            by_cases hi0 : i = 0
            · obtain ⟨-, hf'⟩ := H0.out hi0
              have hA := HAts.out
              have hk := HK.out
              have hA0 := hA.2 pos (by omega)
              rw [← HGf.out] at hA0
              have wX : IntKind.i64.wrap (gfirst - f) = gfirst - f := IntWalk.i64_in _ (by omega)
              rw [decide_eq_true hi0, Bool.true_and, hf'] at hG
              have e0 : ((i : Int) == 0) = true := by simp [hi0]
              have e1 : (i == 0) = true := by simp [hi0]
              clear hi0 hA hA0 hk hf' hii
              go_wp2_with fail
              go_meet
              exact ⟨congrArg Value.bool hG.symm, rfl, HXc.out⟩
            · rw [decide_eq_false hi0, Bool.false_and] at hG
              have e0 : ((i : Int) == 0) = false := by simp [hi0]
              have e1 : (i == 0) = false := by simp [hi0]
              clear hi0 hii
              go_wp2_with fail
              go_meet
              exact ⟨congrArg Value.bool hG.symm, rfl, HXc.out⟩
          case rest =>
            clear HXc
            obtain ⟨rfl, rfl, xc⟩ := hcut
            rename_i we
            have HXc := Lib.hid xc
            have hn0 : gn ≠ 0 := by have := HGn.out; have := HK.out; omega
            obtain ⟨ab, ao, rfl, hab, hcell⟩ := HE.out.resolve_left hn0
            have hsb : ∀ j, j < gn → ∀ w', Ext w4 w' → w'.cell? ⟨ab, ao + j, none⟩ = some (.int .u8 (gf j)) := fun j hj w' x' => ((HXr.out.trans HX4.out).trans x').cell hab (hcell j hj)
            have HSb := Lib.hid hsb
            clear xc hn0 hab hcell hsb hii
            go_wp2_with fail
            go_loopg [11, 12, 13] k (fun h gv bv jv wj => ∃ (j : Nat) (G Z : Bool), j + h = k ∧ jv = .int .i64 j ∧ gv = .bool G ∧ bv = .bool Z ∧ G = (if j = 0 then G1 else gapsB s l (decide (i = 0)) f' D j) ∧ Z = badsB D j ∧ Ext w4 wj)
            case atStart => exact ⟨0, G1, false, by omega, rfl, rfl, rfl, rfl, rfl, HXc.out⟩
            case round =>
              clear HXc
              obtain ⟨j, G, Z, hj, rfl, rfl, rfl, hG, hZ, xj⟩ := hrel
              have s3 := xj.cell (World.block_lt_of_cell? _ _ (HCS.out 3 _ rfl)) (HCS.out 3 _ rfl)
              cases gk with
              | zero =>
                have hjk : j = k := sw_last hj
                have hGe : G = ggap := by
                  rw [hG, if_neg (by rw [hjk]; exact Nat.pos_iff_ne_zero.1 HK.out.1), hjk]; exact HSo.out.gap.symm
                have hZe : Z = gbad := by rw [hZ, hjk]; exact HSo.out.bad.symm
                subst hGe hZe
                have s4 := xj.cell (World.block_lt_of_cell? _ _ (HCS.out 4 _ rfl)) (HCS.out 4 _ rfl)
                have s5 := xj.cell (World.block_lt_of_cell? _ _ (HCS.out 5 _ rfl)) (HCS.out 5 _ rfl)
                obtain ⟨E, hE, wE, hEn, hE0⟩ := sw_end HK.out HN.out
                have hnx := sw_next (i := i) HD.out hE HK.out.1 HRest.out
                rw [← HM.out] at hnx
                have hnj := not_lt_cast hj
                have HNx := Lib.hid (And.intro hnx (And.intro hEn hE0))
                have HX9 := Lib.hid ((HXr.out.trans HX4.out).trans xj)
                clear hG hZ hj hE hnx hEn hE0 xj hjk
                go_wp2_with fail
                go_roundg h
                case rel => exact ⟨i + 1, E, (nth L (E - 1)).1, sw_inc HI.out.1, congrArg (Value.int .i64) (sw_w (i := i) (by have h1 := HI.out.2; have h2 := HLen.out; omega)), rfl, HNx.out.2.1, HNx.out.1, fun h => absurd h (Nat.succ_ne_zero _), fun _ => ⟨HNx.out.2.2, rfl⟩, HX9.out⟩
                case measure => exact Nat.lt_succ_self _
              | succ g =>
                have HG := Lib.hid hG; have HZ := Lib.hid hZ; have HXj := Lib.hid xj
                have hjk : (j : Int) < k := by omega
                have hJ := Lib.hid hj
                clear hG hZ xj hj
                go_upto_region 17 with fail
                clear s3 hjk
                go_cut [162] from 115 to 198 (fun v wx => v = .bool false ∧ Ext w4 wx)
                case first => as_aux_lemma =>
                  obtain ⟨q, hq, wq, hqn, hqN, hgl⟩ := sw_j HK.out HN.out (lt_of_sum hJ.out) HGn.out
                  have t2 : wr.cell? ⟨w.heap.size, 2, none⟩ = some (.int .i64 l) := (HT.out _ ((HXr.out.trans HX4.out).trans HXj.out)).2
                  have T2 := Later.cell t2
                  have S0 := Later.cell (HXj.out.cell (World.block_lt_of_cell? _ _ (HCS.out 0 _ rfl)) (HCS.out 0 _ rfl))
                  obtain ⟨c0, c1, -⟩ := HBy.out q hqN wr HXj.out
                  have C0 := Later.cell c0
                  have hd : nth D j = nth L q := by rw [← HD.out, nth_drop, hq]
                  have HHd := Lib.hid hd
                  have HQ := Lib.hid hq
                  clear t2 c0 hd hq
                  have hfin : Hid (∀ wx, Ext wr wx → Ext w4 wx) := Lib.hid (fun wx x => HXj.out.trans x)
                  by_cases hj0 : j = 0
                  · obtain ⟨e0, e1⟩ := dec_zero hj0
                    have h256 : j < 256 := by rw [hj0]; decide
                    obtain ⟨e2, e3⟩ := dec_lt h256
                    obtain ⟨i1, i2, i3⟩ := hgl h256
                    have hb : (nth L q).2.1 = gf j := by rw [← HHd.out]; exact (HSo.out.bytes j i3).symm
                    rw [hb] at c1
                    have C1 := Later.cell c1
                    have D0 := Later.cell (HSb.out j i2 wr HXj.out)
                    clear hgl hb c1 hj0 h256 i2 i3 hqN
                    refine wp_region_later (by kernel_rfl) (by kernel_rfl) ?_
                    repeat (go_big_quiet_step (fail))
                    refine wpQuiet_nil ?_
                    intro _ hw'
                    obtain ⟨x, rfl⟩ := hw'
                    go_wp2_with fail
                    go_meet
                    exact ⟨rfl, hfin.out _ x.ext⟩
                  · obtain ⟨e0, e1⟩ := dec_pos (Nat.pos_of_ne_zero hj0)
                    obtain ⟨r, hr, wr', hrn, hrN⟩ := sw_r (q_pos HQ.out hj0) hqN HN.out
                    have hcl := HSo.out.close j (Nat.pos_of_ne_zero hj0) (lt_of_sum hJ.out)
                    rw [HHd.out, nth_prev HD.out HQ.out hj0 hr] at hcl
                    obtain ⟨d0, -, -⟩ := HBy.out r hrN wr HXj.out
                    have D1 := Later.cell d0
                    have wd := sw_diff (HAts.out.2 q hqN) (HAts.out.2 r hrN)
                    have dl : decide (l ≤ (nth L q).1 - (nth L r).1) = false := dec_no hcl
                    obtain ⟨X, hX⟩ : ∃ X, X = (nth L q).1 := ⟨_, rfl⟩
                    obtain ⟨Y, hY⟩ : ∃ Y, Y = (nth L r).1 := ⟨_, rfl⟩
                    rw [← hX] at C0 wd dl
                    rw [← hY] at D1 wd dl
                    clear hX hY hr hrN hcl d0
                    by_cases h256 : j < 256
                    · obtain ⟨e2, e3⟩ := dec_lt h256
                      obtain ⟨i1, i2, i3⟩ := hgl h256
                      have hb : (nth L q).2.1 = gf j := by rw [← HHd.out]; exact (HSo.out.bytes j i3).symm
                      rw [hb] at c1
                      have C1 := Later.cell c1
                      have D0 := Later.cell (HSb.out j i2 wr HXj.out)
                      clear hgl hb c1 hj0 h256 i2 i3 hqN
                      refine wp_region_later (by kernel_rfl) (by kernel_rfl) ?_
                      repeat (go_big_quiet_step (fail))
                      refine wpQuiet_nil ?_
                      intro _ hw'
                      obtain ⟨x, rfl⟩ := hw'
                      go_wp2_with fail
                      go_meet
                      exact ⟨rfl, hfin.out _ x.ext⟩
                    · obtain ⟨e2, e3⟩ := dec_ge h256
                      clear hgl c1 hj0 h256 hqN
                      refine wp_region_later (by kernel_rfl) (by kernel_rfl) ?_
                      repeat (go_big_quiet_step (fail))
                      refine wpQuiet_nil ?_
                      intro _ hw'
                      obtain ⟨x, rfl⟩ := hw'
                      go_wp2_with fail
                      go_meet
                      exact ⟨rfl, hfin.out _ x.ext⟩
                case rest =>
                  obtain ⟨rfl, xc⟩ := hcut
                  have HXc := Lib.hid xc
                  clear xc
                  obtain ⟨q, hq, wq, hqn, hqN, -⟩ := sw_j HK.out HN.out (lt_of_sum hJ.out) HGn.out
                  have hd : nth D j = nth L q := by rw [← HD.out, nth_drop, hq]
                  have hgn := gap_next HG1.out HG.out
                  obtain ⟨G', hG'⟩ : ∃ G', G' = gapsB s l (decide (i = 0)) f' D (j + 1) := ⟨_, rfl⟩
                  rw [← hG'] at hgn
                  have HG' := Lib.hid hG'
                  have HGn2 := Lib.hid hgn
                  have HHd := Lib.hid hd
                  have HQ := Lib.hid hq
                  clear hd hq hG' hgn
                  go_upto_region 19 with fail
                  go_cut [11] from 115 to 198 (fun v wx => v = .bool G' ∧ Ext w4 wx)
                  case first => as_aux_lemma =>
                    have hfin : Hid (∀ wx, Ext wc wx → Ext w4 wx) := Lib.hid (fun wx x => HXc.out.trans x)
                    obtain ⟨c0, -, -⟩ := HBy.out q hqN wc HXc.out
                    have C0 := Later.cell c0
                    have t1 : wc.cell? ⟨w.heap.size, 1, none⟩ = some (.int .i64 s) := (HT.out _ ((HXr.out.trans HX4.out).trans HXc.out)).1
                    have T1 := Later.cell t1
                    clear c0 t1
                    by_cases hj0 : j = 0
                    · obtain ⟨e0, e1⟩ := dec_zero hj0
                      have hgg := HGn2.out.1 hj0
                      subst hgg
                      clear hj0
                      cases G'
                      · refine wp_region_later (by kernel_rfl) (by kernel_rfl) ?_
                        repeat (go_big_quiet_step (fail))
                        refine wpQuiet_nil ?_
                        intro _ hw'
                        obtain ⟨x, rfl⟩ := hw'
                        go_wp2_with fail
                        go_meet
                        exact ⟨rfl, hfin.out _ x.ext⟩
                      · refine wp_region_later (by kernel_rfl) (by kernel_rfl) ?_
                        repeat (go_big_quiet_step (fail))
                        refine wpQuiet_nil ?_
                        intro _ hw'
                        obtain ⟨x, rfl⟩ := hw'
                        go_wp2_with fail
                        go_meet
                        exact ⟨rfl, hfin.out _ x.ext⟩
                    · obtain ⟨e0, e1⟩ := dec_pos (Nat.pos_of_ne_zero hj0)
                      obtain ⟨r, hr, wr', hrn, hrN⟩ := sw_r (q_pos HQ.out hj0) hqN HN.out
                      have hgg := HGn2.out.2 hj0
                      rw [HHd.out, nth_prev HD.out HQ.out hj0 hr] at hgg
                      obtain ⟨d0, -, -⟩ := HBy.out r hrN wc HXc.out
                      have D1 := Later.cell d0
                      have wd := sw_diff (HAts.out.2 q hqN) (HAts.out.2 r hrN)
                      obtain ⟨X, hX⟩ : ∃ X, X = (nth L q).1 := ⟨_, rfl⟩
                      obtain ⟨Y, hY⟩ : ∃ Y, Y = (nth L r).1 := ⟨_, rfl⟩
                      rw [← hX] at C0 wd hgg
                      rw [← hY] at D1 wd hgg
                      have HGg := Lib.hid hgg
                      clear hX hY hr hrN d0 hgg hj0
                      cases G
                      · refine wp_region_later (by kernel_rfl) (by kernel_rfl) ?_
                        repeat (go_big_quiet_step (fail))
                        refine wpQuiet_nil ?_
                        intro _ hw'
                        obtain ⟨x, rfl⟩ := hw'
                        go_wp2_with fail
                        go_meet
                        exact ⟨by rw [HGg.out]; rfl, hfin.out _ x.ext⟩
                      · refine wp_region_later (by kernel_rfl) (by kernel_rfl) ?_
                        repeat (go_big_quiet_step (fail))
                        refine wpQuiet_nil ?_
                        intro _ hw'
                        obtain ⟨x, rfl⟩ := hw'
                        go_wp2_with fail
                        go_meet
                        exact ⟨by rw [HGg.out]; rfl, hfin.out _ x.ext⟩
                  case rest =>
                    clear HXc
                    obtain ⟨rfl, xc⟩ := hcut
                    obtain ⟨-, -, c2⟩ := HBy.out q hqN wc xc
                    have hbs : badsB D (j + 1) = (Z || (nth L q).2.2) := by rw [← HHd.out, HZ.out]; rfl
                    generalize (nth L q).2.2 = V at c2 hbs
                    have HBs := Lib.hid hbs
                    have HXc := Lib.hid xc
                    clear hbs xc hqN
                    cases Z
                    · go_wp2_with fail
                      go_roundg g
                      case rel => exact ⟨j + 1, G', V, sw_inc hJ.out, congrArg (Value.int .i64) (sw_w (i := j) (by have h1 := hJ.out; have h2 := HK.out.2; have h3 := HN.out; omega)), rfl, rfl, by rw [if_neg (Nat.succ_ne_zero _)]; exact HG'.out, by rw [HBs.out]; rfl, HXc.out⟩
                      case measure => exact Nat.lt_succ_self _
                    · go_wp2_with fail
                      go_roundg g
                      case rel => exact ⟨j + 1, G', true, sw_inc hJ.out, congrArg (Value.int .i64) (sw_w (i := j) (by have h1 := hJ.out; have h2 := HK.out.2; have h3 := HN.out; omega)), rfl, rfl, by rw [if_neg (Nat.succ_ne_zero _)]; exact HG'.out, by rw [HBs.out]; rfl, HXc.out⟩
                      case measure => exact Nat.lt_succ_self _
end Go.Proofs.YtanoakebbfidiaaDoor
