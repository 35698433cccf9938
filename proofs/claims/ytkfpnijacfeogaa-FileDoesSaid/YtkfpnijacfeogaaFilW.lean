/-
  CONTRACTS: package file (layer 14): the same in memory of its own; what is written.
-/
import Derived.Test.YtkfpnijacfeogaaFilP
import Derived.Test.YtkfpnijacfeogaaFilU
import Derived.Test.YtkfpnijacfeogaaCells
import Derived.MakeChecks
namespace Go.Proofs.Ytkfpnijacfeogaa
open Go.RowKit
set_option linter.unusedVariables false

theorem over_allbool (l : Nat → Bool) (n : Nat) : ∀ i, i < n → over (fun _ => false) 0 n l i = l i := by
  intro i hi
  unfold over
  rw [if_neg (by omega), if_pos (by omega), Nat.sub_zero]
set_option maxRecDepth 100000 in
set_option maxHeartbeats 2000000 in
theorem fapartbool_any (a : Option Addr) (n d : Nat) (l : Nat → Bool) (w : World) (ha : HoldsG Value.bool w a n l) (hn : n ≤ 1000000) (hnd : n ≤ d) (hdm : d ≤ maxLen) :
    Calls Try.prog 50 #[.slice a n d] w fun e w' => ∃ b, e = .returned (.slice b n n) ∧ HoldsG Value.bool w' b n l ∧ Ext w w' ∧ Fresh w b := by
  obtain ⟨i0, hi0, hz0, hz1, hz2⟩ := info_parts Try.infoCb
  have hnI : (n : Int) ≤ 1000000 := by omega
  go_enter Try.func50, Try.ntmps50
  go_wp2_with (first
    | (at_make; refine wpList_make_full _ rfl _ _ 28 rfl w.heap.size 4 i0 (.bool false) 1 Try.underlying28 hi0 hz0 hz1 .i64 .i64 n n n rfl rfl rfl rfl (by rw [hz2]; omega) (by unfold maxLen; omega) (Nat.le_refl _) ?_; intro w5 hown5 hgrow5; have r5 : Row Value.bool 4 w5 w.heap.size n (fun _ => false) := Row.made hown5; have x5 : Ext w w5 := (Below.refl _ _).grown hgrow5 (Nat.le_refl _) (fun k hk => by cases hk); clear hown5 hgrow5)
    | (refine wpList_copy_row (mk := Value.bool) rfl (.tmp 7) (.tmp 8) _ _ rfl 4 Try.underlying28 (by kernel_rfl) _ _ _ _ _ _ n rfl rfl rfl (Nat.le_refl _) w.heap.size 0 n 4 _ _ r5 (ha.ext x5) (fun _ => rfl) (by omega) (fun _ => rfl) w x5 ?_; intro w6 r6 x6; clear r5 x5))
  go_ret
  exact ⟨_, rfl, (r6.congr (over_allbool l n)).holds, x6, fun p hp => by cases hp; exact Nat.le_refl _⟩
theorem over_alluint16 (l : Nat → Int) (n : Nat) : ∀ i, i < n → over (fun _ => 0) 0 n l i = l i := by
  intro i hi
  unfold over
  rw [if_neg (by omega), if_pos (by omega), Nat.sub_zero]
set_option maxRecDepth 100000 in
set_option maxHeartbeats 2000000 in
theorem fapartuint16_any (a : Option Addr) (n d : Nat) (l : Nat → Int) (w : World) (ha : HoldsG (Value.int .u16) w a n l) (hn : n ≤ 1000000) (hnd : n ≤ d) (hdm : d ≤ maxLen) :
    Calls Try.prog 51 #[.slice a n d] w fun e w' => ∃ b, e = .returned (.slice b n n) ∧ HoldsG (Value.int .u16) w' b n l ∧ Ext w w' ∧ Fresh w b := by
  obtain ⟨i0, hi0, hz0, hz1, hz2⟩ := info_parts Try.infoCw
  have hnI : (n : Int) ≤ 1000000 := by omega
  go_enter Try.func51, Try.ntmps51
  go_wp2_with (first
    | (at_make; refine wpList_make_full _ rfl _ _ 29 rfl w.heap.size 61 i0 (.int .u16 0) 1 Try.underlying29 hi0 hz0 hz1 .i64 .i64 n n n rfl rfl rfl rfl (by rw [hz2]; omega) (by unfold maxLen; omega) (Nat.le_refl _) ?_; intro w5 hown5 hgrow5; have r5 : Row (Value.int .u16) 61 w5 w.heap.size n (fun _ => 0) := Row.made hown5; have x5 : Ext w w5 := (Below.refl _ _).grown hgrow5 (Nat.le_refl _) (fun k hk => by cases hk); clear hown5 hgrow5)
    | (refine wpList_copy_row (mk := (Value.int .u16)) rfl (.tmp 7) (.tmp 8) _ _ rfl 61 Try.underlying29 (by kernel_rfl) _ _ _ _ _ _ n rfl rfl rfl (Nat.le_refl _) w.heap.size 0 n 61 _ _ r5 (ha.ext x5) (fun _ => rfl) (by omega) (fun _ => rfl) w x5 ?_; intro w6 r6 x6; clear r5 x5))
  go_ret
  exact ⟨_, rfl, (r6.congr (over_alluint16 l n)).holds, x6, fun p hp => by cases hp; exact Nat.le_refl _⟩
/-- Two cells of a box of the call's own, turned. -/
theorem set_two {w w2 : World} {cs cs' : Array Value} {t : TypeId} {j1 j2 : Nat} {v1 v2 : Value} (x : Ext w w2) (hg : w2.heap[w.heap.size]? = some (.cells cs t (0, 0))) (hcs : (cs.setIfInBounds j1 v1).setIfInBounds j2 v2 = cs' := by rfl) :
    Ext w ((w2.setCell ⟨w.heap.size, j1, none⟩ v1).setCell ⟨w.heap.size, j2, none⟩ v2) ∧ Keep (fun i => i = w.heap.size) w2 ((w2.setCell ⟨w.heap.size, j1, none⟩ v1).setCell ⟨w.heap.size, j2, none⟩ v2) ∧
    ((w2.setCell ⟨w.heap.size, j1, none⟩ v1).setCell ⟨w.heap.size, j2, none⟩ v2).heap[w.heap.size]? = some (.cells cs' t (0, 0)) ∧
    ((w2.setCell ⟨w.heap.size, j1, none⟩ v1).setCell ⟨w.heap.size, j2, none⟩ v2).heap[w.heap.size + 1]? = w2.heap[w.heap.size + 1]? := by
  refine ⟨Below.setCell (Below.setCell x (Nat.le_refl _) _) (Nat.le_refl _) _, (keepCell w2 w.heap.size j1 v1).trans (keepCell _ w.heap.size j2 v2) (fun i hi => .inl hi), ?_, ?_⟩
  · rw [← hcs]
    exact heap_setCell_same _ _ j2 _ _ v2 (heap_setCell_same _ _ j1 _ _ v1 hg)
  · rw [heap_setCell_other _ _ _ _ (Nat.succ_ne_self _), heap_setCell_other _ _ _ _ (Nat.succ_ne_self _)]
theorem fresh_one {w a : World} {x : Option Addr} {n : Nat} (h : Fresh a x) (hs : w.heap.size + 2 ≤ a.heap.size) : OffN (fun i => i = w.heap.size) x n := h.offN fun i hi => by omega
theorem fresh_le {a b : World} {x : Option Addr} (h : Fresh b x) (hs : a.heap.size ≤ b.heap.size) : Fresh a x := fun p hp => Nat.le_trans hs (h p hp)
/-- A file whose tables are all new, laid into the box of what is told. -/
theorem copy_told {w W0 X : World} {F : Fil} {b1 b2 b3 b4 : Option Addr} (x : Ext w X) (hs : w.heap.size + 2 ≤ W0.heap.size) (f1 : Fresh W0 b1) (f2 : Fresh W0 b2) (f3 : Fresh W0 b3) (f4 : Fresh W0 b4)
    (h1 : HoldsG Value.bool X b1 F.nC F.C) (h2 : HoldsG Value.bool X b2 F.nI F.I) (h3 : HoldsG (Value.int .u16) X b3 F.nH F.H) (h4 : HoldsG (Value.int .u16) X b4 F.nR F.R) (hb : F.nC ≤ 1000000 ∧ F.nI ≤ 1000000 ∧ F.nH ≤ 1000000 ∧ F.nR ≤ 1000000) (V0 : FilV) (F0 : Fil) :
    (∀ cs, FilAt (X.setRow (w.heap.size + 1) cs) ⟨b1, F.nC, b2, F.nI, b3, F.nH, b4, F.nR⟩ F) ∧ (∀ cs, Ext w (X.setRow (w.heap.size + 1) cs)) ∧ From w V0 F0 ⟨b1, F.nC, b2, F.nI, b3, F.nH, b4, F.nR⟩ F := by
  have hm : ∀ n : Nat, n ≤ 1000000 → n ≤ maxLen := fun n h => by unfold maxLen; omega
  obtain ⟨s1, s2, s3, s4⟩ := hb
  have hle : w.heap.size ≤ W0.heap.size := by omega
  have k : FilAt X ⟨b1, F.nC, b2, F.nI, b3, F.nH, b4, F.nR⟩ F := ⟨h1, Nat.le_refl _, hm _ s1, h2, Nat.le_refl _, hm _ s2, h3, Nat.le_refl _, hm _ s3, h4, Nat.le_refl _, hm _ s4⟩
  refine ⟨fun cs => k.keep (keepRow _ _ _) ⟨f1.offN fun i hi => by omega, f2.offN fun i hi => by omega, f3.offN fun i hi => by omega, f4.offN fun i hi => by omega⟩, fun cs => below_setRow x (Nat.le_succ _) _, .inr (fresh_le f1 hle), .inr (fresh_le f2 hle), .inr (fresh_le f3 hle), .inr (fresh_le f4 hle)⟩
set_option maxRecDepth 100000 in
set_option maxHeartbeats 8000000 in
theorem fcopy_c : FCopyC 25 := by
  intro V F w h hs
  obtain ⟨s1, s2, s3, s4⟩ := hs
  have K1 := Lib.hid (fun w' (hx : Ext w w') => fapartbool_any V.a1 F.nC V.d1 F.C w' (h.h1.ext hx) s1 h.l1 h.m1)
  have K2 := Lib.hid (fun w' (hx : Ext w w') => fapartbool_any V.a2 F.nI V.d2 F.I w' (h.h2.ext hx) s2 h.l2 h.m2)
  have K3 := Lib.hid (fun w' (hx : Ext w w') => fapartuint16_any V.a3 F.nH V.d3 F.H w' (h.h3.ext hx) s3 h.l3 h.m3)
  have K4 := Lib.hid (fun w' (hx : Ext w w') => fapartuint16_any V.a4 F.nR V.d4 F.R w' (h.h4.ext hx) s4 h.l4 h.m4)
  have HB := Lib.hid (And.intro s1 (And.intro s2 (And.intro s3 s4)))
  clear h s1 s2 s3 s4
  obtain ⟨cf, cc, jf, jc, hf, hc, rf, rc, bf, bc, nC, C, nI, I, nH, H, nR, R⟩ := F
  obtain ⟨a1, d1, a2, d2, a3, d3, a4, d4⟩ := V
  simp only at K1 K2 K3 K4
  obtain ⟨W0, hW0, HX, HE⟩ : ∃ W0, W0 = ((w.alloc (.cells (filC ⟨a1, d1, a2, d2, a3, d3, a4, d4⟩ ⟨cf, cc, jf, jc, hf, hc, rf, rc, bf, bc, nC, C, nI, I, nH, H, nR, R⟩) 31)).alloc (.cells (filC zeroV zeroF) 31)) ∧ Hid (∀ W, Ext W0 W → W.heap[w.heap.size]? = some (.cells (filC ⟨a1, d1, a2, d2, a3, d3, a4, d4⟩ ⟨cf, cc, jf, jc, hf, hc, rf, rc, bf, bc, nC, C, nI, I, nH, H, nR, R⟩) 31 (0, 0)) ∧ W.heap[w.heap.size + 1]? = some (.cells (filC zeroV zeroF) 31 (0, 0))) ∧ Hid (Ext w W0) :=
    ⟨_, rfl, Lib.hid fun W hx => ⟨hx.block (two_boxes w _ _ _ _).1, hx.block (two_boxes w _ _ _ _).2⟩, Lib.hid ((Ext.alloc w _).trans (Ext.alloc _ _))⟩
  have hsz : w.heap.size + 2 ≤ W0.heap.size := by rw [hW0]; simp
  unfold filC at hW0 HX ⊢
  dsimp only [zeroV, zeroF] at hW0 HX ⊢
  go_enter Try.func25, Try.ntmps25
  go_wp2_with fail
  rw [← hW0]
  clear hW0
  have e1 : Ext W0 W0.drew := Ext.drew _
  have g1 := (HX.out _ e1).1
  have c10 := cell_of_heap (j := 10) g1 rfl
  have c11 := cell_of_heap (j := 11) g1 rfl
  go_region_with (first
    | (go_at_call_of 50 a1; refine (K1.out _ (HE.out.trans (by assumption))).mono ?_; rintro e w1 ⟨b1, rfl, h1, x1, f1⟩; have q1 : Fresh W0 b1 := Fresh.back f1 (by assumption); have y1 : Ext W0 w1 := Ext.trans (by assumption) x1; have g2 := (HX.out _ y1).1; have c10 := cell_of_heap (j := 10) g2 rfl; have c11 := cell_of_heap (j := 11) g2 rfl)
    | (go_at_call_of 50 a2; refine (K2.out _ (HE.out.trans (by assumption))).mono ?_; rintro e w2 ⟨b2, rfl, h2, x2, f2⟩; have q2 : Fresh W0 b2 := Fresh.back f2 (by assumption); have y2 : Ext W0 w2 := Ext.trans (by assumption) x2; have g3 := (HX.out _ y2).1; have c10 := cell_of_heap (j := 10) g3 rfl; have c11 := cell_of_heap (j := 11) g3 rfl; have z10 := frozen_of (j := 10) g3; have z11 := frozen_of (j := 11) g3))
  all_goals
    have m1 := h1.ext x2
    have m2 := h2
    obtain ⟨X1, hX1, HY⟩ : ∃ X, X = ((w2.setCell ⟨w.heap.size, 10, none⟩ (.slice b1 nC nC)).setCell ⟨w.heap.size, 11, none⟩ (.slice b2 nI nI)) ∧ Hid (Ext w X ∧ Keep (fun i => i = w.heap.size) w2 X ∧ X.heap[w.heap.size]? = some (.cells #[.int .i64 cf, .int .i64 cc, .int .i64 jf, .int .i64 jc, .int .i64 hf, .int .i64 hc, .int .i64 rf, .int .i64 rc, .int .i64 bf, .int .i64 bc, .slice b1 nC nC, .slice b2 nI nI, .slice a3 nH d3, .slice a4 nR d4] 31 (0, 0)) ∧ X.heap[w.heap.size + 1]? = w2.heap[w.heap.size + 1]?) := ⟨_, rfl, Lib.hid (set_two (HE.out.trans y2) g3)⟩
    rw [← hX1]
    clear hX1
    have p1 : Fresh W0 b1 := q1
    have p2 : Fresh W0 b2 := q2
    have HM1 := Lib.hid (m1.keepN HY.out.2.1 (fresh_one p1 hsz))
    have HM2 := Lib.hid (m2.keepN HY.out.2.1 (fresh_one p2 hsz))
    have HR : Hid (X1.heap[w.heap.size + 1]? = some (.cells #[.int .i64 0, .int .i64 0, .int .i64 0, .int .i64 0, .int .i64 0, .int .i64 0, .int .i64 0, .int .i64 0, .int .i64 0, .int .i64 0, .slice none 0 0, .slice none 0 0, .slice none 0 0, .slice none 0 0] 31 (0, 0))) := Lib.hid (HY.out.2.2.2.trans (HX.out _ y2).2)
    have HS : Hid (W0.heap.size ≤ X1.heap.size) := Lib.hid (Nat.le_trans y2.size HY.out.2.1.size)
    clear m1 m2 h1 h2 x1 x2 y1 y2 c10 c11 z10 z11 g1 g2 g3 e1 f1 f2 q1 q2
    go_wp2_with fail
    have e1 : Ext X1 X1.drew := Ext.drew _
    have g1 := e1.block HY.out.2.2.1
    have c12 := cell_of_heap (j := 12) g1 rfl
    have c13 := cell_of_heap (j := 13) g1 rfl
    go_region_with (first
      | (go_at_call_of 51 a3; refine (K3.out _ (HY.out.1.trans (by assumption))).mono ?_; rintro e w3 ⟨b3, rfl, h3, x3, f3⟩; have y3 : Ext X1 w3 := Ext.trans (by assumption) x3; have q3 : Fresh X1 b3 := Fresh.back f3 (by assumption); have g2 := y3.block HY.out.2.2.1; have c12 := cell_of_heap (j := 12) g2 rfl; have c13 := cell_of_heap (j := 13) g2 rfl)
      | (go_at_call_of 51 a4; refine (K4.out _ (HY.out.1.trans (by assumption))).mono ?_; rintro e w4 ⟨b4, rfl, h4, x4, f4⟩; have y4 : Ext X1 w4 := Ext.trans (by assumption) x4; have q4 : Fresh X1 b4 := Fresh.back f4 (by assumption); have g3 := y4.block HY.out.2.2.1; have c12 := cell_of_heap (j := 12) g3 rfl; have c13 := cell_of_heap (j := 13) g3 rfl; have z12 := frozen_of (j := 12) g3; have z13 := frozen_of (j := 13) g3))
    all_goals
      have m3 := h3.ext x4
      obtain ⟨X2, hX2, HZ⟩ : ∃ X, X = ((w4.setCell ⟨w.heap.size, 12, none⟩ (.slice b3 nH nH)).setCell ⟨w.heap.size, 13, none⟩ (.slice b4 nR nR)) ∧ Hid (Ext w X ∧ Keep (fun i => i = w.heap.size) w4 X ∧ X.heap[w.heap.size]? = some (.cells #[.int .i64 cf, .int .i64 cc, .int .i64 jf, .int .i64 jc, .int .i64 hf, .int .i64 hc, .int .i64 rf, .int .i64 rc, .int .i64 bf, .int .i64 bc, .slice b1 nC nC, .slice b2 nI nI, .slice b3 nH nH, .slice b4 nR nR] 31 (0, 0)) ∧ X.heap[w.heap.size + 1]? = w4.heap[w.heap.size + 1]?) := ⟨_, rfl, Lib.hid (set_two (HY.out.1.trans y4) g3)⟩
      rw [← hX2]
      clear hX2
      have hsz1 : w.heap.size + 2 ≤ X1.heap.size := Nat.le_trans hsz HS.out
      have gR := HZ.out.2.2.2.trans (y4.block HR.out)
      have gB := HZ.out.2.2.1
      have H1 := Lib.hid (copy_told (F := ⟨cf, cc, jf, jc, hf, hc, rf, rc, bf, bc, nC, C, nI, I, nH, H, nR, R⟩) HZ.out.1 hsz (fresh_le p1 (Nat.le_refl _)) (fresh_le p2 (Nat.le_refl _)) (fresh_le q3 HS.out) (fresh_le q4 HS.out) ((HM1.out.ext y4).keepN HZ.out.2.1 (fresh_one p1 hsz)) ((HM2.out.ext y4).keepN HZ.out.2.1 (fresh_one p2 hsz)) (m3.keepN HZ.out.2.1 (fresh_one q3 hsz1)) (h4.keepN HZ.out.2.1 (fresh_one q4 hsz1)) HB.out ⟨a1, d1, a2, d2, a3, d3, a4, d4⟩ ⟨cf, cc, jf, jc, hf, hc, rf, rc, bf, bc, nC, C, nI, I, nH, H, nR, R⟩)
      clear h3 h4 x3 x4 y3 y4 c12 c13 z12 z13 g1 g2 g3 e1 f3 f4 q3 q4 m3 hsz1
      go_wp2_with (first
        | (refine wpList_load_row rfl 31 (.tmp 1) rfl w.heap.size rfl 31 _ (0, 0) _ gB Try.underlying31 rfl (by kernel_rfl) ?_)
        | (refine wpList_store_row rfl 31 (.tmp 2) (.tmp 19) rfl (w.heap.size + 1) _ rfl rfl 31 _ gR (by kernel_rfl) rfl (by simp [Value.oneCell']) ?_))
      refine bodyPost_ret (results_cell_row rfl _ _ (w.heap.size + 1) 31 _ (0, 0) _ rfl (setRow_heap _ _ _ _ _ _ gR) Try.underlying31 rfl (by kernel_rfl)) rfl ⟨⟨b1, nC, b2, nI, b3, nH, b4, nR⟩, by rfl, H1.out.1 _, H1.out.2.1 _, H1.out.2.2⟩
end Go.Proofs.Ytkfpnijacfeogaa
