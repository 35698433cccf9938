/-
  THE LAWS OF LAYER 10: the walk of FramerAll.
-/
import Derived.Test.YtlemnjphjmnmbaaLaw10B
import Derived.Test.YtlemnjphjmnmbaaSure10
import Derived.Test.YtlemnjphjmnmbaaOpenA
import Derived.Deep.LoopGhost
import Derived.Deep.DeepCutAuto
import Derived.BigRegion
namespace Go.Proofs.Ytlemnjphjmnmbaa
open Go.RowKit
set_option linter.unusedVariables false

/-- The round's relation. -/
structure RelA (W0 w : World) (p : Nat) (F : Nat → Prop) (x : Fr) (z : Option Addr) (u : Nat) (Ls : List SegP) (L : List Byt) (i : Nat) (B : Int × Int × Int × Int × Int) : Prop where
  all : AllS W0 w p F x z u Ls L i
  base : x.base = B
  now : x.now = lastT 0 (L.take i)
  len : Ls.length ≤ 2 * i
  opn : 0 < x.sg.count → x.sg.last = x.now
set_option maxRecDepth 100000 in
set_option maxHeartbeats 16000000 in
theorem framerAll.main (a : Option Addr) (n cp : Nat) (L : List Byt) (c s l u : Int) (b : Option Addr) (m cq : Nat) (tf : Nat → Int) (w : World) (ha : HoldsL 3 byt w a L) (hL : L.length = n) (hcp : n ≤ cp) (hcm : cp ≤ maxLen) (hn : n ≤ 500) (hb : ∀ x ∈ L, 0 ≤ x.2.1 ∧ x.2.1 < 256)
    (ht : Holds .u8 w b m tf) (hm : m ≤ 500) (htf : ∀ i, i < m → 0 ≤ tf i ∧ tf i < 256) (hr : rightB c s l u = true) (hR : rightI L 0 = true) :
    Calls Try.prog 4 #[.slice a n cp, timesC c s l u, .slice b m cq] w fun e w' => e = .returned (.bool true) ∧ Ext w w' := by
  obtain ⟨iS, hiS, hzS0, hzS1, hzS2⟩ := info_parts Try.infoSeg
  have HA := Lib.hid ha
  have HB := Lib.hid hb
  have HL := Lib.hid hL
  have HT := Lib.hid ht
  have HTF := Lib.hid htf
  have HCap := Lib.hid (And.intro hcp hcm)
  have HRise := Lib.hid (right_rising.1 hR).2
  have hg : ¬ ((500 : Int) < n) := by omega
  have hg2 : ¬ ((500 : Int) < m) := by omega
  have hnew := fun w' => fnew_yes c s l u 0 w' hr (Int.le_refl _) (by decide)
  have hright := fun w' => rright_any c s l u w'
  have hsr := fun w' (x : Ext w w') => sright0 a n cp L 0 w' (ha.ext x) hL (by omega)
  have hall := fun w' (x : Ext w w') => sall_any' a n cp L c s l u 0 w' (ha.ext x) hL hcp hcm (by omega) hb
  rw [hr] at hright
  rw [hR] at hsr
  have HRef := Lib.hid (RefR.new (c := c) (s := s) (l := l) (u := u) (f := 0) (Int.le_refl _) (by decide))
  unfold timesC at hnew hall ⊢
  have HNew := Lib.hid hnew
  have HR := Lib.hid hright
  have HSR := Lib.hid hsr
  have HAll := Lib.hid hall
  clear ha hb hL ht htf hcp hcm hnew hright hsr hall hr hR
  go_enter Try.func4, Try.ntmps4
  go_wp2_with fail
  refine (HR.out _).mono ?_; rintro e w1 ⟨rfl, x1⟩
  have x1w := (Ext.alloc _ _).trans x1
  have hT : ∀ w', Ext w1 w' → w'.cell? ⟨w.heap.size, 0, none⟩ = some (.int .i64 c) ∧ w'.cell? ⟨w.heap.size, 1, none⟩ = some (.int .i64 s) ∧ w'.cell? ⟨w.heap.size, 2, none⟩ = some (.int .i64 l) ∧ w'.cell? ⟨w.heap.size, 3, none⟩ = some (.int .i64 u) := fun w' x =>
    ⟨(x1.trans x).made 0 _ rfl, (x1.trans x).made 1 _ rfl, (x1.trans x).made 2 _ rfl, (x1.trans x).made 3 _ rfl⟩
  have HTm := Lib.hid hT
  clear HR x1 hT
  go_wp2_with fail
  refine (HSR.out _ x1w).mono ?_; rintro e W0 ⟨rfl, x0⟩
  obtain ⟨m0, m1, m2, m3⟩ := HTm.out _ x0
  have hlt0 : w.heap.size < W0.heap.size := World.block_lt_of_cell? W0 _ m0
  clear HSR
  go_wp2_with fail
  refine (HNew.out _).mono ?_; rintro e w3 ⟨p, F, rfl, x3, r3, b3⟩
  have HX0 := Lib.hid (x1w.trans x0)
  have HX01 := Lib.hid x0
  clear HNew m0 m1 m2 m3 hlt0 x1w x0
  have hstart : RelA W0 w3 p F (newF c s l u 0) none 0 [] L 0 (c, s, l, u, 0) := ⟨⟨r3, HRef.out, OutO.nil _ _ _, x3, b3, Int.le_refl _⟩, rfl, rfl, Nat.le_refl _, fun h => absurd h (show ¬ (0 : Int) < 0 by decide)⟩
  have HStart := Lib.hid hstart
  clear HRef r3 x3 b3 hstart
  go_wp2_with fail
  go_loopg [8, 9, 10] n (fun h vv nv iv wr => ∃ (i : Nat) (F : Nat → Prop) (x : Fr) (z : Option Addr) (u' : Nat) (Ls : List SegP), i + h = n ∧ iv = .int .i64 i ∧ vv = .slice z (List.length Ls) u' ∧ nv = .int .i64 x.now ∧ Hid (RelA W0 wr p F x z u' Ls L i (c, s, l, u, 0)))
  case atStart => exact ⟨0, F, newF c s l u 0, none, 0, [], by omega, rfl, rfl, rfl, HStart⟩
  case round =>
    clear HStart
    obtain ⟨i, F, x, z, u', Ls, hi, rfl, rfl, rfl, hh⟩ := hrel
    cases gk with
    | succ h =>
      have hi1 : (i : Int) < n := by omega
      have hlt : i < L.length := by rw [HL.out]; omega
      obtain ⟨ba, oa, rfl, hpa, hca⟩ := HA.out.resolve_left (by intro e; rw [e] at hlt; simp at hlt)
      obtain ⟨⟨y0, y1, y2⟩, hy⟩ : ∃ y, L[i]? = some y := ⟨L[i], List.getElem?_eq_getElem hlt⟩
      have hyb := HB.out _ (List.mem_of_getElem? hy)
      have hrise := rising_at HRise.out hy
      rw [← hh.out.now] at hrise
      simp only at hyb hrise
      have hcl : ∀ w', Ext W0 w' → w'.cell? ⟨ba, oa + i * 3, none⟩ = some (.int .i64 y0) ∧ w'.cell? ⟨ba, oa + i * 3 + 1, none⟩ = some (.int .u8 y1) ∧ w'.cell? ⟨ba, oa + i * 3 + 2, none⟩ = some (.bool y2) := fun w' k =>
        ⟨(HX0.out.trans k).cell hpa (hca i _ hy 0 _ rfl), (HX0.out.trans k).cell hpa (hca i _ hy 1 _ rfl), (HX0.out.trans k).cell hpa (hca i _ hy 2 _ rfl)⟩
      have HCl := Lib.hid hcl
      have HY := Lib.hid hy
      have HYB := Lib.hid hyb
      have HRi := Lib.hid hrise
      clear hlt hca hcl hy hyb hrise
      go_upto_if 54 with fail
      go_cut [8, 9] (fun vv nv wx => ∃ (F : Nat → Prop) (x : Fr) (z : Option Addr) (u' : Nat) (Ls : List SegP), vv = .slice z (List.length Ls) u' ∧ nv = .int .i64 x.now ∧ Hid (AllS W0 wx p F x z u' Ls L i ∧ x.base = (c, s, l, u, 0) ∧ x.now ≤ y0 ∧ Ls.length ≤ 2 * i + 1))
      case first =>
        by_cases hi2 : i < m
        · have ht1 : (i : Int) < m := by omega
          obtain ⟨tb, to_, rfl, htb, htc⟩ := HT.out.resolve_left (by omega)
          have hv := HTF.out i hi2
          have qt := (HX0.out.trans hh.out.all.ext).cell htb (htc i hi2)
          obtain ⟨ql, -, -⟩ := HCl.out _ hh.out.all.ext
          have hnow0 := hh.out.all.fr.ok.since0
          have hnow1 := hh.out.all.fr.ok.since1
          have hnow2 := hh.out.all.fr.ok.now1
          obtain ⟨t, ht⟩ : ∃ t, min (x.now + tf i) y0 = t := ⟨_, rfl⟩
          have he : errB x t = false := err_no' (by have := HRi.out; omega) (by have := HRi.out; omega)
          have hty : t ≤ y0 := by omega
          have HTy := Lib.hid hty
          have HE := Lib.hid he
          obtain ⟨N, hN⟩ : ∃ N, x.now = N := ⟨_, rfl⟩
          rw [hN] at hnow1 hnow2 ht ⊢
          generalize tf i = v at hv qt ht
          have w64 : IntKind.i64.wrap (N + v) = N + v := IntWalk.i64_in _ (by omega)
          have hv0 := hv.1
          have hv1 := hv.2
          clear hN hnow0 hnow1 hnow2 htc he hty hi2
          go_wp2_with fail
          go_region
          go_wp2_with fail
          have HLen := Lib.hid (show Ls.length ≤ 1200 by have := hh.out.len; omega)
          clear qt ql w64 ht hv hv0 hv1
          cases ho : overB x t
          · refine (AllS.idle_no (hh.out.all.later (Ext.drew _)) HE.out ho).mono ?_; rintro e w5 ⟨A, cA, G, rfl, hs⟩
            have HS := Lib.hid hs
            have hnow := (idle_now HE.out).1
            have HNow := Lib.hid hnow
            clear hs hnow ho
            go_wp2_with fail
            go_meet
            exact ⟨G, idleF x t, z, u', Ls, rfl, by rw [HNow.out], Lib.hid ⟨HS.out.later (Ext.alloc _ _), (base_idle x t).trans hh.out.base, by rw [HNow.out]; exact HTy.out, by have := hh.out.len; omega⟩⟩
          · have hI := AllS.idle_yes (hh.out.all.later (Ext.drew _)) HE.out ho
            generalize x.sg = sg at hI
            obtain ⟨n1, q1, t0, t1, k1, gp, bd⟩ := sg
            unfold segC at hI
            simp only at hI
            refine hI.mono ?_; rintro e w5 ⟨A, cA, G, rfl, htold⟩
            have HTold := Lib.hid htold
            have HNow := Lib.hid (idle_now HE.out).1
            clear hI htold ho
            go_wp2_with (
              refine wpList_append_elK rfl (.tmp 78) (.tmp 80) 44 rfl W0.heap.size 48 iS _ 56 Try.underlying44 hiS hzS0 hzS1 hzS2 rfl (by decide) (.slice z Ls.length u') Ls.length Ls rfl (own_ext HTold.out.1 ((Ext.alloc _ _).alloc' _)) (w5.heap.size + 1) #[.slice A n1 cA, .int .i64 t0, .int .i64 t1, .int .i64 k1, .bool gp, .bool bd] 48 (0, 0) ((A, cA), ⟨n1, q1, t0, t1, k1, gp, bd⟩) rfl (heap_alloc2_new _ _ _) rfl rfl (segL_one _) (by unfold maxLen; have := HLen.out; omega) (by have := HLen.out; omega) (by simp; have := HTold.out.2.1; omega) ?_
              intro gg cap w6 own6 k6 hg6)
            go_meet
            exact ⟨G, idleF x t, some ⟨gg, 0, none⟩, cap, Ls ++ [((A, cA), ⟨n1, q1, t0, t1, k1, gp, bd⟩)], by simp, by rw [HNow.out], Lib.hid ⟨HTold.out.2.2 _ _ gg cap ((Ext.alloc _ _).alloc' _) k6 hg6 own6, (base_idle x t).trans hh.out.base, by rw [HNow.out]; exact HTy.out, by have := hh.out.len; simp; omega⟩⟩
        · have ht1 : ¬ ((i : Int) < m) := by omega
          clear hi2
          go_wp2_with fail
          go_meet
          exact ⟨F, x, z, u', Ls, rfl, rfl, Lib.hid ⟨hh.out.all, hh.out.base, HRi.out.1, by have := hh.out.len; omega⟩⟩
      case rest =>
        clear hh
        obtain ⟨F, x, z, u', Ls, rfl, rfl, hh⟩ := hcut
        obtain ⟨hs, hbase, hny, hlen⟩ := hh.out
        have hyM := HRi.out.2
        have he : errB x (y0, y1, y2).1 = false := err_no' hny hyM
        obtain ⟨b0, b1, b2⟩ := HCl.out _ hs.ext
        have HLen := Lib.hid (show Ls.length ≤ 1200 by omega)
        have hbn := byte_now hs.fr.ok he
        have hrest : ∀ w' G z u' Ls', AllS W0 w' p G (byteF x (y0, y1, y2)) z u' Ls' L (i + 1) → Ls'.length ≤ 2 * (i + 1) → RelA W0 w' p G (byteF x (y0, y1, y2)) z u' Ls' L (i + 1) (c, s, l, u, 0) := fun w' G z u' Ls' h hl =>
          ⟨h, (base_byte x _).trans hbase, by rw [hbn.1, take_snoc HY.out, lastT_snoc], hl, fun _ => by rw [hbn.2.2, hbn.1]⟩
        have HRest := Lib.hid hrest
        have HNow := Lib.hid hbn.1
        have HPos := Lib.hid hbn.2.1
        have HLn := Lib.hid hlen
        cases ho : overB x (y0, y1, y2).1
        · have hB := hs.byte_no HY.out (by omega) HYB.out.1 HYB.out.2 he ho
          rw [show (byt (y0, y1, y2)).toArray = #[.int .i64 y0, .int .u8 y1, .bool y2] from rfl] at hB
          have HBy := Lib.hid hB
          clear hB ho he hbn hrest hlen hs hbase hh
          go_wp2_with fail
          refine HBy.out.mono ?_; rintro e w5 ⟨A, cA, G, rfl, hs5⟩
          have HS5 := Lib.hid hs5
          have hheld := fun w' (k : Ext w5 w') => fheld_any p G (byteF x (y0, y1, y2)) w' (HS5.out.fr.ext k)
          have hfew := hs5.fr.ok.held HPos.out
          generalize (byteF x (y0, y1, y2)).sg.n = hn5 at hheld hfew
          have hf1 : ¬ ((256 : Int) < hn5) := by omega
          have hf2 : ¬ ((hn5 : Int) < 1) := by omega
          have HHeld := Lib.hid hheld
          obtain ⟨c0, -, -⟩ := HCl.out _ (hs5.later (Ext.alloc _ (.cells #[.slice A 0 cA, .int .i64 0, .int .i64 0, .int .i64 0, .bool false, .bool false] 48))).ext
          clear HBy b0 b1 b2 hheld hfew hs5
          go_wp2_with fail
          refine (HHeld.out _ (Ext.alloc _ _)).mono ?_; rintro e w6 ⟨rfl, rfl⟩
          go_wp2_with fail
          refine (HHeld.out _ (Ext.alloc _ _)).mono ?_; rintro e w7 ⟨rfl, rfl⟩
          go_wp2_with fail
          go_roundg h
          case rel => exact ⟨i + 1, G, byteF x (y0, y1, y2), z, u', Ls, by omega, by go_num, rfl, by rw [HNow.out], Lib.hid (HRest.out _ _ _ _ _ (HS5.out.later (Ext.alloc _ _)) (by have := HLn.out; omega))⟩
          case measure => omega
        · have hB := hs.byte_yes HY.out (by omega) HYB.out.1 HYB.out.2 he ho
          rw [show (byt (y0, y1, y2)).toArray = #[.int .i64 y0, .int .u8 y1, .bool y2] from rfl] at hB
          generalize x.sg = sg at hB
          obtain ⟨n1, q1, t0, t1, k1, gp, bd⟩ := sg
          unfold segC at hB
          simp only at hB
          have HBy := Lib.hid hB
          clear hB ho he hbn hrest hlen hs hbase hh
          go_wp2_with fail
          refine HBy.out.mono ?_; rintro e w5 ⟨A, cA, G, rfl, r5, htold⟩
          have HTold := Lib.hid htold
          have HR5 := Lib.hid r5
          have hheld := fun w' (k : Ext w5 w') => fheld_any p G (byteF x (y0, y1, y2)) w' (HR5.out.ext k)
          have hfew := r5.ok.held HPos.out
          generalize (byteF x (y0, y1, y2)).sg.n = hn5 at hheld hfew
          have hf1 : ¬ ((256 : Int) < hn5) := by omega
          have hf2 : ¬ ((hn5 : Int) < 1) := by omega
          have HHeld := Lib.hid hheld
          clear HBy b0 b1 b2 hheld hfew r5 htold
          go_wp2_with fail
          refine (HHeld.out _ (Ext.alloc _ _)).mono ?_; rintro e w6 ⟨rfl, rfl⟩
          go_wp2_with fail
          refine (HHeld.out _ (Ext.alloc _ _)).mono ?_; rintro e w7 ⟨rfl, rfl⟩
          go_wp2_with (
            refine wpList_append_elK rfl (.tmp 105) (.tmp 107) 44 rfl W0.heap.size 48 iS _ 56 Try.underlying44 hiS hzS0 hzS1 hzS2 rfl (by decide) (.slice z Ls.length u') Ls.length Ls rfl (own_ext HTold.out.1 ((Ext.alloc _ _).alloc' _)) (w5.heap.size + 1) #[.slice A n1 cA, .int .i64 t0, .int .i64 t1, .int .i64 k1, .bool gp, .bool bd] 48 (0, 0) ((A, cA), ⟨n1, q1, t0, t1, k1, gp, bd⟩) rfl (heap_alloc2_new _ _ _) rfl rfl (segL_one _) (by unfold maxLen; have := HLen.out; omega) (by have := HLen.out; omega) (by simp; have := HTold.out.2.1; omega) ?_
            intro gg cap w6 own6 k6 hg6
            have hs6 := HTold.out.2.2 _ _ gg cap ((Ext.alloc _ _).alloc' _) k6 hg6 own6
            obtain ⟨c0, -, -⟩ := HCl.out _ hs6.ext
            have HS6 := Lib.hid hs6
            clear hs6 k6 hg6 own6)
          go_roundg h
          case rel => exact ⟨i + 1, G, byteF x (y0, y1, y2), some ⟨gg, 0, none⟩, cap, Ls ++ [((A, cA), ⟨n1, q1, t0, t1, k1, gp, bd⟩)], by omega, by go_num, by simp, by rw [HNow.out], Lib.hid (HRest.out _ _ _ _ _ HS6.out (by have := HLn.out; simp; omega))⟩
          case measure => omega
    | zero =>
      obtain rfl : i = n := by omega
      have hi1 : ¬ ((i : Int) < i) := by omega
      have hLt : L.take i = L := List.take_of_length_le (Nat.le_of_eq HL.out)
      go_wp2_with fail
      refine (fdue_any p F x _ hh.out.all.fr).mono ?_; rintro e w5 ⟨rfl, x5⟩
      have hs5 := hh.out.all.later x5
      have HLen := Lib.hid (show Ls.length ≤ 1200 by have := hh.out.len; omega)
      obtain ⟨v, hv⟩ : ∃ v, v = dueI x := ⟨_, rfl⟩
      rw [← hv]
      have hopn : 0 < x.sg.count → errB x v = false ∧ (overB x v = true ∨ ¬ v < 1099511627776) := fun hk => by
        have e : v = addI x.sg.last x.l := by rw [hv]; unfold dueI; rw [if_pos hk]
        rw [e]
        exact due_over hs5.fr.ok (hh.out.opn hk).symm hk
      have hcnt := hs5.fr.ok.count
      have HS5 := Lib.hid hs5
      have HOpn := Lib.hid hopn
      have HCnt := Lib.hid hcnt
      clear hv hs5 x5 hopn hcnt
      go_upto_if 119 with fail
      go_cut [8, 18] (fun vv _ov wx => ∃ (F : Nat → Prop) (x : Fr) (z : Option Addr) (u' : Nat) (Ls : List SegP), vv = .slice z (List.length Ls) u' ∧ Hid (AllS W0 wx p F x z u' Ls L i ∧ x.base = (c, s, l, u, 0) ∧ x.sg.count = 0 ∧ Ls.length ≤ 2 * i + 1))
      case first =>
        by_cases hk : 0 < x.sg.count
        · obtain ⟨he, hov⟩ := HOpn.out hk
          rw [decide_eq_true hk]
          have HE := Lib.hid he
          clear hk he
          cases ho : overB x v
          · have hv1 : ¬ v < 1099511627776 := by rw [ho] at hov; simpa using hov
            have hI := HS5.out.idle_no HE.out ho
            have HI := Lib.hid hI
            clear hI ho hov
            go_wp2_with fail
            refine HI.out.mono ?_; rintro e w6 ⟨A, cA, G, rfl, hs⟩
            have hx := HX0.out.trans (hs.later (Ext.alloc _ (.cells #[.slice A 0 cA, .int .i64 0, .int .i64 0, .int .i64 0, .bool false, .bool false] 48))).ext
            clear HI hs
            go_wp2_with fail
            refine (sure10_any _).mono ?_; rintro e w7 ⟨rfl, x7⟩
            go_wp2
            go_ret
            exact ⟨rfl, hx.trans x7⟩
          · have hI := HS5.out.idle_yes HE.out ho
            generalize x.sg = sg at hI
            obtain ⟨n1, q1, t0, t1, k1, gp, bd⟩ := sg
            unfold segC at hI
            simp only at hI
            have hzero : (idleF x v).sg.count = 0 := by unfold idleF; rw [HE.out, ho]; rfl
            have HZero := Lib.hid hzero
            have HI := Lib.hid hI
            clear hI ho hov hzero
            go_wp2_with fail
            refine HI.out.mono ?_; rintro e w6 ⟨A, cA, G, rfl, htold⟩
            have HTold := Lib.hid htold
            clear HI htold
            go_wp2_with (
              refine wpList_append_elK rfl (.tmp 130) (.tmp 132) 44 rfl W0.heap.size 48 iS _ 56 Try.underlying44 hiS hzS0 hzS1 hzS2 rfl (by decide) (.slice z Ls.length u') Ls.length Ls rfl (own_ext HTold.out.1 ((Ext.alloc _ _).alloc' _)) (w6.heap.size + 1) #[.slice A n1 cA, .int .i64 t0, .int .i64 t1, .int .i64 k1, .bool gp, .bool bd] 48 (0, 0) ((A, cA), ⟨n1, q1, t0, t1, k1, gp, bd⟩) rfl (heap_alloc2_new _ _ _) rfl rfl (segL_one _) (by unfold maxLen; have := HLen.out; omega) (by have := HLen.out; omega) (by simp; have := HTold.out.2.1; omega) ?_
              intro gg cap w6 own6 k6 hg6)
            go_meet
            exact ⟨G, idleF x v, some ⟨gg, 0, none⟩, cap, Ls ++ [((A, cA), ⟨n1, q1, t0, t1, k1, gp, bd⟩)], by simp, Lib.hid ⟨HTold.out.2.2 _ _ gg cap ((Ext.alloc _ _).alloc' _) k6 hg6 own6, (base_idle x v).trans hh.out.base, HZero.out, by have := hh.out.len; simp; omega⟩⟩
        · rw [decide_eq_false hk]
          have hz : x.sg.count = 0 := by have := HCnt.out; omega
          have HZ := Lib.hid hz
          clear hk hz
          go_wp2_with fail
          go_meet
          exact ⟨F, x, z, u', Ls, rfl, Lib.hid ⟨HS5.out, hh.out.base, HZ.out, by have := hh.out.len; omega⟩⟩
      case rest =>
        clear hh HS5 HOpn HCnt HLen
        obtain ⟨F, x, z, u', Ls, rfl, hh⟩ := hcut
        obtain ⟨hs, hbase, hz, hlen⟩ := hh.out
        obtain ⟨m0, m1, m2, m3⟩ := HTm.out _ (HX01.out.trans hs.ext)
        have hmap : Ls.map Prod.snd = allS c s l u 0 L := by
          have h1 := hs.ref.all hs.fr.ok hz
          rw [hLt] at h1
          unfold Fr.base at hbase
          simp only [Prod.mk.injEq] at hbase
          rw [h1, hbase.1, hbase.2.1, hbase.2.2.1, hbase.2.2.2.1, hbase.2.2.2.2]
        have hx0 := HX0.out.trans hs.ext
        have hlt4 : w.heap.size < wc.heap.size := World.block_lt_of_cell? wc _ m0
        have hheld := fun w' (k : Ext wc w') => fheld_any p F x w' (hs.fr.ext k)
        rw [hs.fr.ok.none hz] at hheld
        have hn0 : (zeroS.n : Int) = 0 := rfl
        rw [hn0] at hheld
        have HHeld := Lib.hid hheld
        have HMap := Lib.hid hmap
        have HSegs := Lib.hid hs.out.segs
        have HFew := Lib.hid (fun y (hy : y ∈ Ls) => (hs.out.seg y hy).few)
        have HX := Lib.hid hx0
        have HLen := Lib.hid hlen
        have hal := allS_len c s l u 0 L
        rw [HL.out] at hal
        have HAl := Lib.hid hal
        clear hh hs hbase hz hlen hmap hheld hn0 hx0 hal HTm HX01 HRise HB HA HT HTF HCap
        go_wp2_with fail
        refine (HAll.out _ HX.out).mono ?_; rintro e w6 ⟨z9, u9, Ls9, rfl, x6, s9, r9⟩
        have hlen9 : Ls9.length ≤ 1000000 := by have := HAl.out; rw [← r9, List.length_map] at this; omega
        have hal := ralike_any z z9 _ _ u' u9 Ls Ls9 w6 (HSegs.out.ext x6) s9.segs rfl rfl (by have := HLen.out; omega) hlen9 (fun y hy => by have := HFew.out y hy; omega) (fun y hy => by have := (s9.each y hy).2.2.2.2; omega)
        rw [alikeB_of_map (HMap.out.trans r9.symm)] at hal
        clear m0 m1 m2 m3 hlt4 HAll hlen9 s9 r9
        go_wp2_with fail
        refine hal.mono ?_; rintro e w7 ⟨rfl, x7⟩
        clear hal
        go_wp2_with fail
        refine (HHeld.out _ (x6.trans x7)).mono ?_; rintro e w8 ⟨rfl, rfl⟩
        go_wp2_with fail
        refine (sure10_any _).mono ?_; rintro e w9 ⟨rfl, x9⟩
        go_wp2
        go_ret
        exact ⟨rfl, ((HX.out.trans x6).trans x7).trans x9⟩
theorem framerAll.long (a : Option Addr) (n cp : Nat) (c s l u : Int) (b : Option Addr) (m cq : Nat) (w : World) (h : 500 < n ∨ n ≤ 500 ∧ 500 < m) :
    Calls Try.prog 4 #[.slice a n cp, timesC c s l u, .slice b m cq] w fun e w' => e = .returned (.bool true) ∧ Ext w w' := by
  have h' : (500 : Int) < n ∨ ¬ ((500 : Int) < n) ∧ (500 : Int) < m := by omega
  unfold timesC
  clear h
  rcases h' with hg | ⟨hg, hg2⟩
  all_goals
    go_enter Try.func4, Try.ntmps4
    go_wp2_with fail
    refine (sure10_any _).mono ?_; rintro e w3 ⟨rfl, x3⟩
    go_wp2
    go_ret
    exact ⟨rfl, (Ext.alloc _ _).trans x3⟩
set_option maxRecDepth 100000 in
set_option maxHeartbeats 8000000 in
theorem framerAll.out (a : Option Addr) (n cp : Nat) (L : List Byt) (c s l u : Int) (b : Option Addr) (m cq : Nat) (w : World) (ha : HoldsL 3 byt w a L) (hL : L.length = n) (hn : n ≤ 500) (hm : m ≤ 500) (h : rightB c s l u = false ∨ rightB c s l u = true ∧ rightI L 0 = false) :
    Calls Try.prog 4 #[.slice a n cp, timesC c s l u, .slice b m cq] w fun e w' => e = .returned (.bool true) ∧ Ext w w' := by
  have hg : ¬ ((500 : Int) < n) := by omega
  have hg2 : ¬ ((500 : Int) < m) := by omega
  have hright := fun w' => rright_any c s l u w'
  have hsr := fun w' (x : Ext w w') => sright0 a n cp L 0 w' (ha.ext x) hL (by omega)
  unfold timesC
  clear ha hL hn hm
  rcases h with h | ⟨h, h2⟩
  · rw [h] at hright
    have HR := Lib.hid hright
    clear hright h hsr
    go_enter Try.func4, Try.ntmps4
    go_wp2_with fail
    refine (HR.out _).mono ?_; rintro e w1 ⟨rfl, x1⟩
    have x1w := (Ext.alloc _ _).trans x1
    clear HR x1
    go_wp2_with fail
    refine (sure10_any _).mono ?_; rintro e w3 ⟨rfl, x3⟩
    go_wp2
    go_ret
    exact ⟨rfl, x1w.trans x3⟩
  · rw [h] at hright
    rw [h2] at hsr
    have HR := Lib.hid hright
    have HSR := Lib.hid hsr
    clear hright h hsr h2
    go_enter Try.func4, Try.ntmps4
    go_wp2_with fail
    refine (HR.out _).mono ?_; rintro e w1 ⟨rfl, x1⟩
    have x1w := (Ext.alloc _ _).trans x1
    clear HR x1
    go_wp2_with fail
    refine (HSR.out _ x1w).mono ?_; rintro e w2 ⟨rfl, x2⟩
    have x2w := x1w.trans x2
    clear HSR x1w x2
    go_wp2_with fail
    refine (sure10_any _).mono ?_; rintro e w3 ⟨rfl, x3⟩
    go_wp2
    go_ret
    exact ⟨rfl, x2w.trans x3⟩
theorem framerAll.walk (a : Option Addr) (n cp : Nat) (L : List Byt) (c s l u : Int) (b : Option Addr) (m cq : Nat) (tf : Nat → Int) (w : World) (ha : HoldsL 3 byt w a L) (hL : L.length = n) (hcp : n ≤ cp) (hcm : cp ≤ 8796093021952) (hw : WfB L)
    (hc : (Lit.int .i64 c).wf = true) (hs : (Lit.int .i64 s).wf = true) (hl : (Lit.int .i64 l).wf = true) (hu : (Lit.int .i64 u).wf = true)
    (ht : Holds .u8 w b m tf) (hcq : m ≤ cq) (hcqm : cq * 1 ≤ 140737488351232) (htf : ∀ i, i < m → (Lit.int .u8 (tf i)).wf = true) :
    Calls Try.prog 4 #[.slice a n cp, .agg #[.int .i64 c, .int .i64 s, .int .i64 l, .int .i64 u], .slice b m cq] w fun e w' => e = .returned (.bool true) ∧ Ext w w' := by
  by_cases hn : n ≤ 500
  · by_cases hm : m ≤ 500
    · cases hr : rightB c s l u
      · exact framerAll.out a n cp L c s l u b m cq w ha hL hn hm (.inl hr)
      · cases hR : rightI L 0
        · exact framerAll.out a n cp L c s l u b m cq w ha hL hn hm (.inr ⟨hr, hR⟩)
        · exact framerAll.main a n cp L c s l u b m cq tf w ha hL hcp (by unfold maxLen; omega) hn hw.byte ht hm (fun i hi => by have := bounds_u8 (htf i hi); omega) hr hR
    · exact framerAll.long a n cp c s l u b m cq w (.inr ⟨hn, by omega⟩)
  · exact framerAll.long a n cp c s l u b m cq w (.inl (by omega))
end Go.Proofs.Ytlemnjphjmnmbaa
