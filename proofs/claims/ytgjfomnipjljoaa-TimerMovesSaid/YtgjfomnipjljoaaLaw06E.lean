/-
  THE LAWS OF LAYER 6: the walk of TimerMoves.
-/
import Derived.Test.YtgjfomnipjljoaaLaw06C
import Derived.Test.YtgjfomnipjljoaaTimerN
import Derived.Deep.LoopGhost
namespace Go.Proofs.Ytgjfomnipjljoaa
open Go.RowKit

theorem dropI_ins_eq (q t : Int) (L : List (Int × Int)) : dropI (insI (q, t) (dropI L q)) q = dropI L q := by rw [drop_ins, drop_drop]
theorem apart_grows {F F' G : Nat → Prop} {w : World} (h : ∀ i, G i → ¬ F i) (k : Grows F F' w) (lt : ∀ i, G i → i < w.heap.size) : ∀ i, G i → ¬ F' i := fun i hi hf => (k i hf).elim (h i hi) (fun x => absurd (lt i hi) (by omega))
set_option maxRecDepth 100000 in
set_option maxHeartbeats 8000000 in
theorem timerMoves.any (a : Option Addr) (n c : Nat) (O : List (Int × Int × Int)) (kid kat : Int) (w : World) (ha : HoldsL 3 three w a O) (hO : O.length = n) (hn : n ≤ maxLen) (hw : Wf3 O) (hk0 : 0 ≤ kid) (hk1 : kid < 256) (ht0 : 0 ≤ kat) (ht1 : kat < 65536) :
    Calls Try.prog 5 #[.slice a n c, .int .u8 kid, .int .u16 kat] w fun e w' => e = .returned (.bool true) ∧ Ext w w' := by
  have hn' : n ≤ 9223372036854775807 := hn
  by_cases h200 : (200 : Int) < n
  · clear ha hO hw
    go_enter Try.func5, Try.ntmps5
    go_wp2_with fail
    refine (sure6_any _).mono ?_; rintro e w1 ⟨rfl, x1⟩
    go_wp2
    go_ret
    exact ⟨rfl, x1⟩
  · have HO := Lib.hid hO
    have HW := Lib.hid hw
    have HA := Lib.hid ha
    clear hO hw ha
    go_enter Try.func5, Try.ntmps5
    go_wp2_with fail
    refine (knew_any _).mono ?_; rintro e w1 ⟨p, F, rfl, x1, T1, n1⟩
    go_wp2
    go_loopg [8] n (fun h iv wr => ∃ (i : Nat) (F : Nat → Prop) (L : List (Int × Int)), i + h = n ∧ iv = .int .i64 i ∧ TQ wr p F L ∧ Ext w wr ∧ Above w F)
    case atStart => exact ⟨0, F, [], by omega, rfl, T1, x1, n1⟩
    case round =>
      clear T1 n1 x1
      obtain ⟨i, F, L, hi, rfl, T, xr, nF⟩ := hrel
      cases gk with
      | succ h =>
        have hiO : i < O.length := by rw [HO.out]; omega
        obtain ⟨b, off, rfl, hb, -⟩ := HA.out.resolve_left (by intro e; rw [e] at hiO; simp at hiO)
        obtain ⟨-, c1, c2⟩ := HA.out.three_at i hiO
        obtain ⟨-, hq, ht⟩ := HW.out O[i] (List.getElem_mem _)
        have hi1 : (i : Int) < n := by omega
        have d1 := xr.cell hb c1
        have d2 := xr.cell hb c2
        have HC1 := Lib.hid (fun w' (x : Ext w w') => x.cell hb c1)
        have HC2 := Lib.hid (fun w' (x : Ext w w') => x.cell hb c2)
        generalize (O[i]).2.1 = q at hq d1 HC1 c1
        generalize (O[i]).2.2 = t at ht d2 HC2 c2
        have HT := Lib.hid (fun w' (x : Ext wr w') => T.keep (.of_ext x) (G := fun _ => False) (fun _ _ h => h))
        clear c1 c2 hiO T
        go_wp2_with fail
        go_region_held3 (fun w' => w'.cell? ⟨b, off + i * 3 + 1, none⟩ = some (.int .i64 q) ∧ w'.cell? ⟨b, off + i * 3 + 2, none⟩ = some (.int .i64 t))
          (first
            | exact ⟨d1, d2⟩
            | exact ⟨e1, e2⟩
            | (go_keep; done))
          (first
            | (go_at_call 13; refine (kset_any p F L q t _ (HT.out _ (by (repeat (first | (with_reducible exact Ext.refl _) | (with_reducible assumption) | (with_reducible refine Ext.trans ?_ (Ext.drew _)) | (with_reducible refine Ext.trans ?_ (Ext.drewN _ _)))))) hq ht).mono ?_; rintro e w2 ⟨G, rfl, k2, T2, g2⟩; have xr2 := Ext.keep (w := w) (by (repeat (first | (with_reducible assumption) | (with_reducible refine Ext.trans ?_ (Ext.drew _)) | (with_reducible refine Ext.trans ?_ (Ext.drewN _ _))))) k2 nF; have e1 := HC1.out _ xr2; have e2 := HC2.out _ xr2))
        have x0 : Ext w wr.drew := xr.trans (Ext.drew _)
        have nG := nF.grows g2 x0
        clear d1 d2 k2 g2 xr x0 nF e1 e2
        go_wp2
        go_roundg h
        case rel => exact ⟨i + 1, G, _, by omega, by go_num, T2, xr2, nG⟩
        case measure => omega
      | zero =>
        obtain rfl : i = n := by omega
        have hi1 : ¬ ((i : Int) < i) := by omega
        have hs := T.sorted
        have hcase := set_case (t := kat) hs hk0 ht0 (by omega)
        have hfew := hs.few
        have hwi := when_ins kid kat L
        have hgo := Lib.hid hs
        clear hs
        go_wp2_with fail
        refine (klen_any p F L _ T).mono ?_; rintro e w2 ⟨rfl, x2⟩
        have T2 := T.keep (.of_ext x2) (G := fun _ => False) (fun _ _ h => h)
        have xr2 := xr.trans x2
        clear T x2 xr
        obtain ⟨N, hN⟩ : ∃ N, N = L.length := ⟨_, rfl⟩
        rw [← hN] at hcase hfew ⊢
        have HN := Lib.hid hN
        clear hN
        go_wp2_with fail
        refine (kwhen_any p F L kid _ T2 (wf64 (by omega) (by omega))).mono ?_; rintro e w3 ⟨rfl, x3⟩
        have T3 := T2.keep (.of_ext x3) (G := fun _ => False) (fun _ _ h => h)
        have xr3 := xr2.trans x3
        clear T2 x3 xr2
        generalize whenI L kid = W at hcase ⊢
        obtain ⟨wv, wb⟩ := W
        simp only at hcase ⊢
        go_wp2_with fail
        refine (kclone_any p F L _ T3).mono ?_; rintro e w4 ⟨r, G, rfl, x4, C4, nG⟩
        have T4 := T3.keep (.of_ext x4) (G := fun _ => False) (fun _ _ h => h)
        have hd4 : ∀ i, G i → ¬ F i := fun i hi hf => absurd (nG i hi) (by have := T3.lt i hf; omega)
        have xr4 := xr3.trans x4
        clear T3 x4 xr3 nG
        have HK := Lib.hid (kset_any p F L kid kat w4 T4 (wf64 (by omega) (by omega)) (wf64 (by omega) (by omega)))
        rcases hcase with ⟨h1, h2, h3⟩ | ⟨h1, h2, h3⟩ | ⟨h1, h2, h3⟩
        · rw [h1] at HK
          subst h3
          have h4 : (256 : Int) ≤ N := by omega
          clear h1 hwi hgo
          go_wp2_with fail
          refine HK.out.mono ?_; rintro e w5 ⟨F5, rfl, k5, _, _⟩
          have xr5 := xr4.keep k5 nF
          clear HK k5 xr4 C4 T4
          go_wp2_with fail
          refine (sure6_any _).mono ?_; rintro e w6 ⟨rfl, x6⟩
          have x7 := xr5.trans x6
          clear xr5 x6
          go_wp2
          go_ret
          exact ⟨rfl, x7⟩
        · rw [h1] at HK
          subst h2
          obtain ⟨hw1, hp1⟩ := hwi
          have hp2 := place_drop kid L
          have hdd := dropI_ins_eq kid kat L
          have hsD := hgo.out.drop kid
          obtain ⟨D, hD⟩ : ∃ D, D = dropI L kid := ⟨_, rfl⟩
          have hnoD : ∀ x ∈ D, x.1 ≠ kid := fun x hx => (mem_dropI.1 (hD ▸ hx)).2
          rw [← hD] at HK h3 hw1 hp1 hp2 hdd hsD
          obtain ⟨M, hM⟩ : ∃ M, M = insI (kid, kat) D := ⟨_, rfl⟩
          rw [← hM] at HK h3 hw1 hp1 hdd
          have hdue : dueN D 1099511627776 = D.length := due_all fun x hx => (hsD.may x hx).2.2
          have hDf := hsD.few
          have hDno : ∀ q, q < D.length → dueF D q ≠ kid := fun q hq => by
            have e : dueF D q = (D[q]).1 := by unfold dueF; rw [List.getD_eq_getElem?_getD, List.getElem?_eq_getElem hq]; rfl
            rw [e]; exact hnoD _ (List.getElem_mem hq)
          have HW1 := Lib.hid hw1
          have HP1 := Lib.hid (decide_eq_true hp1)
          have HP2 := Lib.hid (decide_eq_false hp2)
          have HDD := Lib.hid hdd
          have HDE := Lib.hid hdue
          have HDN := Lib.hid hDno
          have HDF := Lib.hid (show dropI D kid = D from drop_none hnoD)
          have HDR : Hid (D.drop D.length = []) := Lib.hid (List.drop_eq_nil_of_le (Nat.le_refl _))
          have HL3 := Lib.hid h3
          obtain ⟨dl, hdl⟩ : ∃ dl, dl = D.length := ⟨_, rfl⟩
          rw [← hdl] at HDE HDN HDR hDf
          clear h1 h3 hw1 hp1 hp2 hdd hsD hD hnoD hM hdue hDno hgo hdl
          go_wp2_with fail
          refine HK.out.mono ?_; rintro e w5 ⟨F5, rfl, k5, T5, g5⟩
          have xr5 := xr4.keep k5 nF
          have n5 := nF.grows g5 xr4
          have C5 := C4.keep k5 hd4
          have hd5 := apart_grows hd4 g5 C4.lt
          clear HK k5 g5 T4 C4 xr4 nF hd4
          go_wp2_with fail
          refine (kwhen_any p F5 M kid _ T5 (wf64 (by omega) (by omega))).mono ?_; rintro e w6 ⟨rfl, x6⟩
          rw [HW1.out]
          have T6 := T5.keep (.of_ext x6) (G := fun _ => False) (fun _ _ h => h)
          have C6 := C5.keep (.of_ext x6) (G := fun _ => False) (fun _ _ h => h)
          have xr6 := xr5.trans x6
          clear T5 C5 xr5 x6
          go_wp2_with fail
          refine (klen_any p F5 M _ T6).mono ?_; rintro e w7 ⟨rfl, x7⟩
          rw [HL3.out]
          have T7 := T6.keep (.of_ext x7) (G := fun _ => False) (fun _ _ h => h)
          have C7 := C6.keep (.of_ext x7) (G := fun _ => False) (fun _ _ h => h)
          have xr7 := xr6.trans x7
          clear T6 C6 xr6 x7
          go_wp2_with fail
          refine (klen_any p F5 M _ T7).mono ?_; rintro e w8 ⟨rfl, x8⟩
          rw [HL3.out]
          have T8 := T7.keep (.of_ext x8) (G := fun _ => False) (fun _ _ h => h)
          have C8 := C7.keep (.of_ext x8) (G := fun _ => False) (fun _ _ h => h)
          have xr8 := xr7.trans x8
          clear T7 C7 xr7 x8
          have hq1 : ((N : Int) + 1 != (N : Int)) = true := bne_iff_ne.2 (by omega)
          have hq2 : ((N : Int) != (N : Int) + 1) = true := bne_iff_ne.2 (by omega)
          go_wp2_with fail
          refine (klen_any r G L _ C8).mono ?_; rintro e w9 ⟨rfl, x9⟩
          rw [← HN.out]
          have T9 := T8.keep (.of_ext x9) (G := fun _ => False) (fun _ _ h => h)
          have C9 := C8.keep (.of_ext x9) (G := fun _ => False) (fun _ _ h => h)
          have xr9 := xr8.trans x9
          clear T8 C8 xr8 x9
          go_wp2_with fail
          refine (kdrop_any p F5 M kid _ T9 (wf64 (by omega) (by omega))).mono ?_; rintro e wa ⟨Fa, rfl, ka, Ta, ga⟩
          rw [HP1.out]
          rw [HDD.out] at Ta
          have xra := xr9.keep ka n5
          have na := n5.grows ga xr9
          have Ca := C9.keep ka hd5
          have hda := apart_grows hd5 ga C9.lt
          clear T9 C9 xr9 n5 hd5 ka ga
          go_wp2_with fail
          refine (kdrop_any p Fa D kid _ Ta (wf64 (by omega) (by omega))).mono ?_; rintro e wb ⟨Fb, rfl, kb, Tb, gb⟩
          rw [HP2.out]
          rw [HDF.out] at Tb
          have xrb := xra.keep kb na
          have nb := na.grows gb xra
          have Cb := Ca.keep kb hda
          have hdb := apart_grows hda gb Ca.lt
          clear Ta Ca xra na hda kb gb
          go_wp2_with fail
          refine (kdue_any p Fb D 1099511627776 _ Tb (by decide)).mono ?_; rintro e wc ⟨Fc, z, u, rfl, zu, um, hz, kc, Tc, gc, _, _⟩
          rw [HDE.out] at hz Tc zu ⊢
          rw [HDR.out] at Tc
          have xrc := xrb.keep kc nb
          have Cc := Cb.keep kc hdb
          clear Tb Cb xrb nb hdb kc gc
          go_wp2_with fail
          go_loopg [17] dl (fun h iv wr => ∃ q : Nat, q + h = dl ∧ iv = .int .i64 q ∧ wr = wc)
          case atStart => exact ⟨0, by omega, rfl, rfl⟩
          case round =>
            obtain ⟨q, hq, rfl, rfl⟩ := hrel
            cases gk with
            | succ h =>
              have hqd : (q : Int) < dl := by omega
              obtain ⟨bz, oz, rfl, hbz, hcz⟩ := hz.resolve_left (by omega)
              have cz := hcz q (by omega)
              have hne := HDN.out q (by omega)
              generalize dueF D q = v at cz hne
              have hne2 : (v == kid) = false := by simpa using hne
              clear hcz hz
              go_wp2
              go_roundg h
              case rel => exact ⟨q + 1, by omega, by go_num, rfl⟩
              case measure => omega
            | zero =>
              obtain rfl : q = dl := by omega
              have hqd : ¬ ((q : Int) < q) := by omega
              clear hz
              go_wp2_with fail
              refine (klen_any p Fc [] _ Tc).mono ?_; rintro e wd ⟨rfl, xd⟩
              have Cd := Cc.keep (.of_ext xd) (G := fun _ => False) (fun _ _ h => h)
              have xrd := xrc.trans xd
              clear Tc Cc xrc xd
              go_wp2_with fail
              refine (klen_any r G L _ Cd).mono ?_; rintro e we ⟨rfl, xe⟩
              rw [← HN.out]
              have xre := xrd.trans xe
              clear Cd xrd xe
              go_wp2_with fail
              refine (sure6_any _).mono ?_; rintro e wf ⟨rfl, xf⟩
              have x7 := xre.trans xf
              clear xre xf
              go_wp2
              go_ret
              exact ⟨rfl, x7⟩
        · rw [h1] at HK
          subst h2
          obtain ⟨hw1, hp1⟩ := hwi
          have hp2 := place_drop kid L
          have hdd := dropI_ins_eq kid kat L
          have hsD := hgo.out.drop kid
          obtain ⟨D, hD⟩ : ∃ D, D = dropI L kid := ⟨_, rfl⟩
          have hnoD : ∀ x ∈ D, x.1 ≠ kid := fun x hx => (mem_dropI.1 (hD ▸ hx)).2
          rw [← hD] at HK h3 hw1 hp1 hp2 hdd hsD
          obtain ⟨M, hM⟩ : ∃ M, M = insI (kid, kat) D := ⟨_, rfl⟩
          rw [← hM] at HK h3 hw1 hp1 hdd
          have hdue : dueN D 1099511627776 = D.length := due_all fun x hx => (hsD.may x hx).2.2
          have hDf := hsD.few
          have hDno : ∀ q, q < D.length → dueF D q ≠ kid := fun q hq => by
            have e : dueF D q = (D[q]).1 := by unfold dueF; rw [List.getD_eq_getElem?_getD, List.getElem?_eq_getElem hq]; rfl
            rw [e]; exact hnoD _ (List.getElem_mem hq)
          have HW1 := Lib.hid hw1
          have HP1 := Lib.hid (decide_eq_true hp1)
          have HP2 := Lib.hid (decide_eq_false hp2)
          have HDD := Lib.hid hdd
          have HDE := Lib.hid hdue
          have HDN := Lib.hid hDno
          have HDF := Lib.hid (show dropI D kid = D from drop_none hnoD)
          have HDR : Hid (D.drop D.length = []) := Lib.hid (List.drop_eq_nil_of_le (Nat.le_refl _))
          have HL3 := Lib.hid h3
          obtain ⟨dl, hdl⟩ : ∃ dl, dl = D.length := ⟨_, rfl⟩
          rw [← hdl] at HDE HDN HDR hDf
          clear h1 h3 hw1 hp1 hp2 hdd hsD hD hnoD hM hdue hDno hgo hdl
          go_wp2_with fail
          refine HK.out.mono ?_; rintro e w5 ⟨F5, rfl, k5, T5, g5⟩
          have xr5 := xr4.keep k5 nF
          have n5 := nF.grows g5 xr4
          have C5 := C4.keep k5 hd4
          have hd5 := apart_grows hd4 g5 C4.lt
          clear HK k5 g5 T4 C4 xr4 nF hd4
          go_wp2_with fail
          refine (kwhen_any p F5 M kid _ T5 (wf64 (by omega) (by omega))).mono ?_; rintro e w6 ⟨rfl, x6⟩
          rw [HW1.out]
          have T6 := T5.keep (.of_ext x6) (G := fun _ => False) (fun _ _ h => h)
          have C6 := C5.keep (.of_ext x6) (G := fun _ => False) (fun _ _ h => h)
          have xr6 := xr5.trans x6
          clear T5 C5 xr5 x6
          go_wp2_with fail
          refine (klen_any p F5 M _ T6).mono ?_; rintro e w7 ⟨rfl, x7⟩
          rw [HL3.out]
          have T7 := T6.keep (.of_ext x7) (G := fun _ => False) (fun _ _ h => h)
          have C7 := C6.keep (.of_ext x7) (G := fun _ => False) (fun _ _ h => h)
          have xr7 := xr6.trans x7
          clear T6 C6 xr6 x7
          go_wp2_with fail
          refine (klen_any p F5 M _ T7).mono ?_; rintro e w8 ⟨rfl, x8⟩
          rw [HL3.out]
          have T8 := T7.keep (.of_ext x8) (G := fun _ => False) (fun _ _ h => h)
          have C8 := C7.keep (.of_ext x8) (G := fun _ => False) (fun _ _ h => h)
          have xr8 := xr7.trans x8
          clear T7 C7 xr7 x8
          have hq1 : ((N : Int) + 1 != (N : Int)) = true := bne_iff_ne.2 (by omega)
          have hq2 : ((N : Int) != (N : Int) + 1) = true := bne_iff_ne.2 (by omega)
          go_wp2_with fail
          refine (klen_any r G L _ C8).mono ?_; rintro e w9 ⟨rfl, x9⟩
          rw [← HN.out]
          have T9 := T8.keep (.of_ext x9) (G := fun _ => False) (fun _ _ h => h)
          have C9 := C8.keep (.of_ext x9) (G := fun _ => False) (fun _ _ h => h)
          have xr9 := xr8.trans x9
          clear T8 C8 xr8 x9
          go_wp2_with fail
          refine (kdrop_any p F5 M kid _ T9 (wf64 (by omega) (by omega))).mono ?_; rintro e wa ⟨Fa, rfl, ka, Ta, ga⟩
          rw [HP1.out]
          rw [HDD.out] at Ta
          have xra := xr9.keep ka n5
          have na := n5.grows ga xr9
          have Ca := C9.keep ka hd5
          have hda := apart_grows hd5 ga C9.lt
          clear T9 C9 xr9 n5 hd5 ka ga
          go_wp2_with fail
          refine (kdrop_any p Fa D kid _ Ta (wf64 (by omega) (by omega))).mono ?_; rintro e wb ⟨Fb, rfl, kb, Tb, gb⟩
          rw [HP2.out]
          rw [HDF.out] at Tb
          have xrb := xra.keep kb na
          have nb := na.grows gb xra
          have Cb := Ca.keep kb hda
          have hdb := apart_grows hda gb Ca.lt
          clear Ta Ca xra na hda kb gb
          go_wp2_with fail
          refine (kdue_any p Fb D 1099511627776 _ Tb (by decide)).mono ?_; rintro e wc ⟨Fc, z, u, rfl, zu, um, hz, kc, Tc, gc, _, _⟩
          rw [HDE.out] at hz Tc zu ⊢
          rw [HDR.out] at Tc
          have xrc := xrb.keep kc nb
          have Cc := Cb.keep kc hdb
          clear Tb Cb xrb nb hdb kc gc
          go_wp2_with fail
          go_loopg [17] dl (fun h iv wr => ∃ q : Nat, q + h = dl ∧ iv = .int .i64 q ∧ wr = wc)
          case atStart => exact ⟨0, by omega, rfl, rfl⟩
          case round =>
            obtain ⟨q, hq, rfl, rfl⟩ := hrel
            cases gk with
            | succ h =>
              have hqd : (q : Int) < dl := by omega
              obtain ⟨bz, oz, rfl, hbz, hcz⟩ := hz.resolve_left (by omega)
              have cz := hcz q (by omega)
              have hne := HDN.out q (by omega)
              generalize dueF D q = v at cz hne
              have hne2 : (v == kid) = false := by simpa using hne
              clear hcz hz
              go_wp2
              go_roundg h
              case rel => exact ⟨q + 1, by omega, by go_num, rfl⟩
              case measure => omega
            | zero =>
              obtain rfl : q = dl := by omega
              have hqd : ¬ ((q : Int) < q) := by omega
              clear hz
              go_wp2_with fail
              refine (klen_any p Fc [] _ Tc).mono ?_; rintro e wd ⟨rfl, xd⟩
              have Cd := Cc.keep (.of_ext xd) (G := fun _ => False) (fun _ _ h => h)
              have xrd := xrc.trans xd
              clear Tc Cc xrc xd
              go_wp2_with fail
              refine (klen_any r G L _ Cd).mono ?_; rintro e we ⟨rfl, xe⟩
              rw [← HN.out]
              have xre := xrd.trans xe
              clear Cd xrd xe
              go_wp2_with fail
              refine (sure6_any _).mono ?_; rintro e wf ⟨rfl, xf⟩
              have x7 := xre.trans xf
              clear xre xf
              go_wp2
              go_ret
              exact ⟨rfl, x7⟩
end Go.Proofs.Ytgjfomnipjljoaa
