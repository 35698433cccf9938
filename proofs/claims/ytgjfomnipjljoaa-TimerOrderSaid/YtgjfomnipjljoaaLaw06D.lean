/-
  THE LAWS OF LAYER 6: the walk of TimerOrder.
-/
import Derived.Test.YtgjfomnipjljoaaLaw06B
import Derived.Test.YtgjfomnipjljoaaTimerN
import Derived.Deep.DeepCutAuto
import Derived.Deep.LoopGhost
import Derived.MakeChecks
namespace Go.Proofs.Ytgjfomnipjljoaa
open Go.RowKit

theorem Try.infoB6 : (Try.prog.info? 4).map (fun i => (i.zero, i.size, i.bytes)) = some (some (.bool false), 1, 1) := by kernel_rfl
theorem far_keep (T : Nat) (w : World) (o : Nat) (u : Value) : Keep (fun i => i = T) w (w.setCell ⟨T, o, none⟩ u) :=
  ⟨rfl, rfl, rfl, by simp, fun k _ hn => Below.heap_setCell w ⟨T, o, none⟩ u k hn⟩
set_option maxRecDepth 100000 in
set_option maxHeartbeats 8000000 in
theorem timerOrder.small (a b : Option Addr) (n m c d : Nat) (f g : Nat → Int) (w : World) (ha : Holds .u16 w a n f) (hb : Holds .u16 w b m g) (hn : n ≤ 200) (hm : m ≤ 60) (hf : ∀ i, i < n → 0 ≤ f i ∧ f i < 65536) (hg : ∀ i, i < m → 0 ≤ g i ∧ g i < 65536) :
    Calls Try.prog 4 #[.slice a n c, .slice b m d] w fun e w' => e = .returned (.bool true) ∧ Ext w w' := by
  obtain ⟨i0, hi0, hz0, hz1, hz2⟩ := info_parts Try.infoB6
  have HA := Lib.hid ha
  have HB := Lib.hid hb
  have HF := Lib.hid hf
  have HG := Lib.hid hg
  clear ha hb hf hg
  go_enter Try.func4, Try.ntmps4
  go_wp2_with fail
  refine (knew_any _).mono ?_; rintro e w1 ⟨p, F, rfl, x1, T1, n1⟩
  go_wp2
  go_loopg [6] n (fun h iv wr => ∃ (i : Nat) (F : Nat → Prop) (L : List (Int × Int)), i + h = n ∧ iv = .int .i64 i ∧ TQ wr p F L ∧ All f i L ∧ Ext w wr ∧ Above w F)
  case atStart => exact ⟨0, F, [], by omega, rfl, T1, All.zero f, x1, n1⟩
  case round =>
    clear T1 n1 x1
    obtain ⟨i, F, L, hi, rfl, T, hall, xr, nF⟩ := hrel
    cases gk with
    | succ h =>
      have hlt : i < n := by omega
      have hi1 : (i : Int) < n := by omega
      obtain ⟨r, hr⟩ : ∃ r, r = n - 1 - i := ⟨_, rfl⟩
      have hr1 : (n : Int) - 1 - i = r := by omega
      have hrn : r < n := by omega
      obtain ⟨pa, oa, rfl, hpa, hca⟩ := HA.out.resolve_left (by omega)
      have c0 := xr.cell hpa (hca i hlt)
      have c1 := xr.cell hpa (hca r hrn)
      have HC := Lib.hid (fun w' (x : Ext w w') => x.cell hpa (hca i hlt))
      obtain ⟨f0, f1⟩ := HF.out i hlt
      obtain ⟨r0, r1⟩ := HF.out r hrn
      have hlen := hall.1
      have e1 : setI L i (f r) = (insI ((i : Int), f r) L, 0) := set_new (by omega) r0 (by omega) hall.no (by omega)
      have e2 : setI (insI ((i : Int), f r) L) i (f i) = (insI ((i : Int), f i) L, 0) := set_again (by omega) f0 (by omega) hall.no
      have h2 := hall.succ
      have H1 := Lib.hid e1
      have H2 := Lib.hid e2
      have HL2 := Lib.hid h2
      generalize f r = fr at *
      generalize f i = fi at *
      clear e1 e2 hca hall hlen hr h2
      go_wp2_with fail
      refine (kset_any p F L i fr _ T (wf64 (by omega) (by omega)) (wf64 (by omega) (by omega))).mono ?_; rintro e w2 ⟨G, rfl, k2, T2, g2⟩
      rw [H1.out] at T2 ⊢
      have xr2 := xr.keep k2 nF
      have nG := nF.grows g2 xr
      have c2 := HC.out _ xr2
      clear T k2 g2 xr nF c0 c1
      go_wp2_with fail
      refine (kset_any p G _ i fi _ T2 (wf64 (by omega) (by omega)) (wf64 (by omega) (by omega))).mono ?_; rintro e w3 ⟨G3, rfl, k3, T3, g3⟩
      rw [H2.out] at T3 ⊢
      have xr3 := xr2.keep k3 nG
      have nG3 := nG.grows g3 xr2
      clear T2 k3 g3 xr2 nG c2
      go_wp2
      go_roundg h
      case rel => exact ⟨i + 1, G3, _, by omega, by go_num, T3, HL2.out, xr3, nG3⟩
      case measure => omega
    | zero =>
      obtain rfl : i = n := by omega
      have hi1 : ¬ ((i : Int) < i) := by omega
      have hid0 : decide ((i : Int) < 0) = false := by simp
      have HT := Lib.hid (Told.start hall)
      clear hall
      go_wp2_with (at_make; refine (wpList_make_full _ rfl _ _ 44 rfl wr.heap.size 4 i0 (.bool false) 1 Try.underlying44 hi0 hz0 hz1 .i64 .i64 i i i rfl rfl rfl rfl (by rw [hz2]; omega) (by unfold maxLen; omega) (Nat.le_refl _) ?_); intro w2 hown2 hgrow2)
      have x2 : Ext wr w2 := (Below.refl _ _).grown hgrow2 (Nat.le_refl _) (fun k hk => by cases hk)
      have R2 : Row Value.bool 4 w2 wr.heap.size i (fun _ => false) := Row.made hown2
      have T2 := T.keep (.of_ext x2) (G := fun _ => False) (fun _ _ h => h)
      obtain ⟨TB, hTB⟩ : ∃ TB, TB = wr.heap.size := ⟨_, rfl⟩
      have hFT : ¬ F TB := fun h => absurd (T.lt _ h) (by omega)
      have hwT : w.heap.size ≤ TB := by rw [hTB]; exact xr.size
      rw [← hTB] at R2 ⊢
      have xr2 := xr.trans x2
      clear hown2 hgrow2 T x2 xr hTB
      go_wp2
      go_loopg [8, 9, 10] (m + 1) (fun h cv nv sv wr => ∃ (s : Nat) (F : Nat → Prop) (L : List (Int × Int)) (gt : Nat → Bool) (cnt : Nat) (now : Int), s + h = m + 1 ∧ cv = .int .i64 cnt ∧ nv = .int .i64 now ∧ sv = .int .i64 s ∧ TQ wr p F L ∧ Told f i gt cnt L ∧ Row Value.bool 4 wr TB i gt ∧ ¬ F TB ∧ 0 ≤ now ∧ now ≤ 65536 ∧ (0 < s → ∀ x ∈ L, now < x.2) ∧ (s = m + 1 → L = []) ∧ Ext w wr ∧ Above w F)
      case atStart => exact ⟨0, F, L, _, 0, 0, by omega, rfl, rfl, rfl, T2, HT.out, R2, hFT, by omega, by omega, fun h => absurd h (by omega), fun h => absurd h (by omega), xr2, nF⟩
      case round =>
        clear T2 R2 HT hFT xr2 nF
        obtain ⟨s, F, L, gt, cnt, now, hs, rfl, rfl, rfl, T, htold, R, hFT, hn0, hn1, hinv, hend, xr, nF⟩ := hrel
        cases gk with
        | zero =>
          have hL := hend (by omega)
          subst hL
          have hc1 := htold.count
          simp only [List.length_nil, Nat.add_zero] at hc1
          subst hc1
          have hsm : ¬ ((s : Int) ≤ m) := by omega
          clear htold hinv hend
          go_wp2_with fail
          refine (klen_any p F [] _ T).mono ?_; rintro e w3 ⟨rfl, x3⟩
          have x4 := xr.trans x3
          clear T R xr x3
          go_wp2_with fail
          refine (sure6_any _).mono ?_; rintro e w5 ⟨rfl, x5⟩
          have x6 := x4.trans x5
          clear x4 x5
          go_wp2
          go_ret
          exact ⟨rfl, x6⟩
        | succ h =>
          have hsm : (s : Int) ≤ m := by omega
          go_upto_if 70 with fail
          go_cut [9] (fun v wx => ∃ N : Int, v = .int .i64 N ∧ 0 ≤ N ∧ N ≤ 65536 ∧ (s = m → N = 65536) ∧ wx = wr)
          case first =>
            by_cases hlt : s < m
            · obtain ⟨pb, ob, rfl, hpb, hcb⟩ := HB.out.resolve_left (by omega)
              have c0 := xr.cell hpb (hcb s hlt)
              obtain ⟨g0, g1⟩ := HG.out s hlt
              have hs1 : (s : Int) < m := by omega
              generalize g s = gs at c0 g0 g1
              by_cases hle : gs ≤ now
              · go_wp2_with fail
                go_meet
                exact ⟨now, rfl, by omega, by omega, fun h => absurd h (by omega), rfl⟩
              · go_wp2_with fail
                go_meet
                exact ⟨gs, rfl, by omega, by omega, fun h => absurd h (by omega), rfl⟩
            · have hs1 : ¬ ((s : Int) < m) := by omega
              go_wp2_with fail
              go_meet
              exact ⟨65536, rfl, by omega, by omega, fun _ => rfl, rfl⟩
          case rest =>
            obtain ⟨N, rfl, hN0, hN1, hNm, rfl⟩ := hcut
            have hsort := T.sorted
            have hmm := dueN_le L N
            have hcnt := htold.count
            have hgt := Lib.hid (due_gt hsort.order N)
            have hle := Lib.hid (due_le L N)
            have hord := Lib.hid (fun (x y : Nat) (hxy : x < y) (hy : y < L.length) => order_at hsort.order hxy hy)
            have honce := Lib.hid hsort.once
            have hlast := Lib.hid hinv
            have hmem := Lib.hid htold.mem
            clear hinv hend hsort
            go_wp2_with fail
            refine (kdue_any p F L N _ T (wf64 (by omega) (by omega))).mono ?_; rintro e w3 ⟨G, z, u, rfl, hzu, hum, hz, k3, T3, g3, fz, oz⟩
            have xr3 := xr.keep k3 nF
            have nG := nF.grows g3 xr
            have R3 : Row Value.bool 4 w3 TB i gt := by
              obtain ⟨cs, q1, q2⟩ := R
              exact ⟨cs, (k3.block TB (Row.lt ⟨cs, q1, q2⟩) hFT).trans q1, q2⟩
            have hGT : ¬ G TB := fun h => (g3 TB h).elim hFT (fun h => absurd R.lt (by omega))
            have hzT : Off (fun q => q = TB) z := fun q hq e => absurd (fz q hq) (by have := R.lt; omega)
            obtain ⟨mm, hmd⟩ : ∃ mm, mm = dueN L N := ⟨_, rfl⟩
            rw [← hmd] at hz T3 hgt hle hzu ⊢
            have hmm2 : mm ≤ L.length := by omega
            have hmmb : (mm : Int) ≤ 1000 := by omega
            clear T xr nF R k3 g3 fz hFT hmd hmm oz
            go_wp2_with fail
            go_loopg [8, 13] mm (fun h cv kv wr => ∃ (k cnt : Nat) (gt : Nat → Bool), k + h = mm ∧ cv = .int .i64 cnt ∧ kv = .int .i64 k ∧ TQ wr p G (L.drop mm) ∧ Told f i gt cnt (L.drop k) ∧ Row Value.bool 4 wr TB i gt ∧ Holds .i64 wr z mm (dueF L) ∧ Ext w wr)
            case atStart => exact ⟨0, cnt, gt, by omega, rfl, rfl, T3, htold, R3, hz, xr3⟩
            case round =>
              clear T3 htold R3 hz xr3 hcnt
              obtain ⟨k, cnt, gt, hk, rfl, rfl, T, htold, R, hz, xr⟩ := hrel
              cases gk with
              | zero =>
                obtain rfl : k = mm := by omega
                have hkm : ¬ ((k : Int) < k) := by omega
                clear hz
                go_wp2
                go_roundg h
                case rel =>
                  refine ⟨s + 1, G, _, gt, cnt, N, by omega, rfl, rfl, by go_num, T, htold, R, hGT, hN0, hN1, fun _ => hgt.out, fun e => ?_, xr, nG⟩
                  have hN := hNm (by omega)
                  refine List.eq_nil_iff_forall_not_mem.2 fun x hx => ?_
                  obtain ⟨j, hj, rfl⟩ := htold.mem x hx
                  have q1 := hgt.out _ hx
                  have q2 := HF.out j hj
                  simp only at q1; omega
                case measure => omega
              | succ h2 =>
                have hkL : k < L.length := by omega
                have hkm : (k : Int) < mm := by omega
                have hd := List.drop_eq_getElem_cons hkL
                rw [hd] at htold
                have honce2 : (L[k] :: L.drop (k + 1)).Pairwise (fun x y => x.1 ≠ y.1) := by rw [← hd]; exact honce.out.sublist (List.drop_sublist k L)
                obtain ⟨j, hj, ex, hgj, htold2⟩ := htold.step honce2
                have hdk : ∀ q, (hq : q < L.length) → dueF L q = (L[q]).1 := fun q hq => by unfold dueF; rw [List.getD_eq_getElem?_getD, List.getElem?_eq_getElem hq]; rfl
                have hfN := hle.out k hkL (by omega)
                have hfl := fun hs => hlast.out hs L[k] (List.getElem_mem _)
                obtain ⟨bz, oz, rfl, hbz, hcz⟩ := hz.resolve_left (by omega)
                have cz := hcz k (by omega)
                rw [hdk k hkL, ex] at cz
                rw [ex] at hfN hfl
                simp only at cz hfN hfl
                have ct := R.cell j hj
                rw [hgj] at ct
                have cfz := R.frozen j
                obtain ⟨pa, oa, rfl, hpa, hca⟩ := HA.out.resolve_left (by omega)
                have ca := xr.cell hpa (hca j hj)
                obtain ⟨fj0, fj1⟩ := HF.out j hj
                have hzT2 : ¬ bz = TB := hzT _ rfl
                have hprev : (¬ ((0 : Int) < k)) ∨ (∃ kp jp : Nat, (0 : Int) < k ∧ (k : Int) - 1 = kp ∧ (kp : Int) < mm ∧ wr.cell? ⟨bz, oz + kp, none⟩ = some (.int .i64 jp) ∧ (jp : Int) < i ∧ wr.cell? ⟨pa, oa + jp, none⟩ = some (.int .u16 (f jp)) ∧ (f jp < f j ∨ (f jp = f j ∧ (jp : Int) < j))) := by
                  by_cases h0 : k = 0
                  · exact .inl (by omega)
                  · have hkp : k - 1 < L.length := by omega
                    obtain ⟨jp, hjp, ep⟩ := hmem.out _ (List.getElem_mem hkp)
                    have hb := hord.out (k - 1) k (by omega) hkL
                    rw [ep, ex, beforeB_iff] at hb
                    have c1 := hcz (k - 1) (by omega)
                    rw [hdk _ hkp, ep] at c1
                    exact .inr ⟨k - 1, jp, by omega, by omega, by omega, c1, by omega, xr.cell hpa (hca jp hjp), hb⟩
                have hS : (¬ ((0 : Int) < s)) ∨ ((0 : Int) < s ∧ now < f j) := by
                  by_cases h0 : 0 < s
                  · exact .inr ⟨by omega, hfl h0⟩
                  · exact .inl (by omega)
                have hji : (j : Int) < i := by omega
                have hcb : (cnt : Int) < 1000 := by have := htold2.count; omega
                have HKK := Lib.hid (show k + 1 + h2 = mm by omega)
                generalize f j = fj at ca fj0 fj1 hfN hprev hS
                clear htold hcz hca hfl hd honce2 hdk hkL ex hgj
                rcases hprev with hk0 | ⟨kp, jp, hk0, hkp, hkpm, cp, hjp, cap, hb⟩
                · obtain rfl : k = 0 := by omega
                  clear hk0
                  rw [Nat.add_zero] at cz
                  rcases hS with hs0 | ⟨hs0, hs1⟩
                  all_goals
                    go_wp2_with fail
                    go_quiet (fail)
                    go_wp2
                    go_roundg h2
                    case rel =>
                      refine ⟨0 + 1, cnt + 1, upd gt j true, HKK.out, by go_num, rfl, ?_, htold2, ?_, ?_, ?_⟩
                      · exact T.keep ((Keep.of_ext (Ext.drewN _ _)).trans (far_keep TB _ _ _) (fun _ h => .inl h)) (fun q hq e => hGT (e ▸ hq))
                      · exact (R.drewN _).set j true
                      · exact (hz.ext (Ext.drewN _ _)).keep (far_keep TB _ _ _) hzT
                      · exact Below.set (xr.trans (Ext.drewN _ _)) hwT _
                    case measure => omega
                · have hk1 : decide (0 < k) = true := decide_eq_true (by omega)
                  clear hk0
                  rcases hb with hb | ⟨hb, hb2⟩
                  · have hb3 : (f jp == fj) = false := by simpa using (show f jp ≠ fj by omega)
                    have hb4 : decide (fj < f jp) = false := decide_eq_false (by omega)
                    generalize f jp = fp at cap hb hb3 hb4
                    rcases hS with hs0 | ⟨hs0, hs1⟩
                    all_goals
                      go_wp2_with fail
                      go_quiet (fail)
                      go_wp2
                      go_roundg h2
                      case rel =>
                        refine ⟨k + 1, cnt + 1, upd gt j true, HKK.out, by go_num, by go_num, ?_, htold2, ?_, ?_, ?_⟩
                        · exact T.keep ((Keep.of_ext (Ext.drewN _ _)).trans (far_keep TB _ _ _) (fun _ h => .inl h)) (fun q hq e => hGT (e ▸ hq))
                        · exact (R.drewN _).set j true
                        · exact (hz.ext (Ext.drewN _ _)).keep (far_keep TB _ _ _) hzT
                        · exact Below.set (xr.trans (Ext.drewN _ _)) hwT _
                      case measure => omega
                  · rw [hb] at cap
                    have hb4 : decide (fj < fj) = false := decide_eq_false (by omega)
                    have hb5 : decide ((j : Int) < jp) = false := decide_eq_false (by omega)
                    clear hb
                    rcases hS with hs0 | ⟨hs0, hs1⟩
                    all_goals
                      go_wp2_with fail
                      go_quiet (fail)
                      go_wp2
                      go_roundg h2
                      case rel =>
                        refine ⟨k + 1, cnt + 1, upd gt j true, HKK.out, by go_num, by go_num, ?_, htold2, ?_, ?_, ?_⟩
                        · exact T.keep ((Keep.of_ext (Ext.drewN _ _)).trans (far_keep TB _ _ _) (fun _ h => .inl h)) (fun q hq e => hGT (e ▸ hq))
                        · exact (R.drewN _).set j true
                        · exact (hz.ext (Ext.drewN _ _)).keep (far_keep TB _ _ _) hzT
                        · exact Below.set (xr.trans (Ext.drewN _ _)) hwT _
                      case measure => omega
end Go.Proofs.Ytgjfomnipjljoaa
