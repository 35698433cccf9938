/-
  CONTRACTS: bilgeref15 (layer 15): the ask that bytes say.
  CONTRACTS: bilgeref15 (layer 15): Parse.
  CONTRACTS: package data (layer 17): a job in a box: what is asked, the tables as they are now, what is told.
-/
import Derived.Test.YtlafnobjfajamaaGreatPm13
import Derived.Test.YtlafnobjfajamaaGreatPm1
import Derived.Laws.CopyOwn
import Derived.Laws.Rows
import Derived.Test.YtlafnobjfajamaaGreatPm6
import Derived.Deep.DeepCutAuto
import Derived.Test.YtlafnobjfajamaaGreatPm22
import Derived.BigQuiet
import Derived.Laws.CopyRow
import Derived.Test.YtlafnobjfajamaaGreatPm15
import Derived.Deep.MidRow
namespace Go.Proofs.YtlafnobjfajamaaGreat
open Go.RowKit
set_option linter.unusedVariables false

set_option maxHeartbeats 1000000 in
theorem rnum15_any (a : Option Addr) (n c : Nat) (f : Nat → Int) (i : Nat) (w : World) (ha : Holds .u8 w a n f) (hn : n ≤ 1000000) (hf : ∀ i, i < n → 0 ≤ f i ∧ f i < 256) :
    Calls Tryz.prog 129 #[.slice a n c, .int .i64 (i : Int)] w fun e w' => e = .returned (.int .i64 (numAt n f i)) ∧ Ext w w' := by
  by_cases hi : i + 1 < n
  · have K := Lib.hid ((rat_some a n c i f w ha hn hi hf).mono fun _ _ h => (⟨h.1, Ext.of_drewN h.2⟩ : _ ∧ Ext w _))
    rw [show numAt n f i = f i * 256 + f (i + 1) from by unfold numAt; rw [if_pos hi]]
    have h0 := hf i (by omega)
    have h1 := hf (i + 1) hi
    have hv : 0 ≤ f i * 256 + f (i + 1) ∧ f i * 256 + f (i + 1) < 65536 := by omega
    generalize f i * 256 + f (i + 1) = v at K hv ⊢
    have hwv : IntKind.i64.wrap v = v := IntWalk.i64_in _ (by omega)
    clear ha hn hf hi h0 h1 hv
    go_enter Tryz.func129, Tryz.ntmps129
    go_wp2_with fail
    refine K.out.mono ?_; rintro e w1 ⟨rfl, x1⟩
    go_wp2
    go_ret
    exact ⟨rfl, x1⟩
  · have K := Lib.hid (rat_none a n c i w hn (.inr (by omega)))
    rw [show numAt n f i = 0 from by unfold numAt; rw [if_neg hi]]
    clear ha hn hf hi
    go_enter Tryz.func129, Tryz.ntmps129
    go_wp2_with fail
    refine K.out.mono ?_; rintro e w1 ⟨rfl, rfl⟩
    go_wp2
    go_ret
    exact ⟨rfl, Ext.refl _⟩
/-- A loop's ask: in its box, which is the call's own. -/
structure GueS (w wr : World) (g : Nat) (V : QstV) (Q : Qst) : Prop where
  x : Ext w wr
  lo : w.heap.size ≤ g
  b : wr.heap[g]? = some (.cells (qstC V Q) 31 (0, 0))
  h : QstAt wr V Q
  o1 : OffN (fun i => i = g) V.a1 Q.nb
  o2 : OffN (fun i => i = g) V.a2 Q.nr
theorem GueS.ext {w wr wr' : World} {g : Nat} {V : QstV} {Q : Qst} (h : GueS w wr g V Q) (x : Ext wr wr') : GueS w wr' g V Q := ⟨h.x.trans x, h.lo, x.block h.b, h.h.ext x, h.o1, h.o2⟩
theorem HoldsG.keepO {α : Type} {mk : α → Value} {Φ : Nat → Prop} {w w' : World} {a : Option Addr} {n : Nat} {f : Nat → α} (h : HoldsG mk w a n f) (x : Keep Φ w w') (ho : OffN Φ a n) : HoldsG mk w' a n f := by
  rcases ho with e | e
  · exact .inl e
  · exact h.keep x e
theorem keepCell15 (w : World) (g o : Nat) (v : Value) : Keep (fun i => i = g) w (w.setCell ⟨g, o, none⟩ v) := ⟨rfl, rfl, rfl, by simp, fun k _ hn => Below.heap_setCell w ⟨g, o, none⟩ v k hn⟩
theorem GueS.set {w wr : World} {g j : Nat} {V V' : QstV} {Q Q' : Qst} {v : Value} (h : GueS w wr g V Q) (hc : (qstC V Q).setIfInBounds j v = qstC V' Q') (hh : QstAt wr V' Q') (o1 : OffN (fun i => i = g) V'.a1 Q'.nb) (o2 : OffN (fun i => i = g) V'.a2 Q'.nr) : GueS w (wr.setCell ⟨g, j, none⟩ v) g V' Q' :=
  ⟨Below.setCell h.x h.lo _, h.lo, by rw [← hc]; exact heap_setCell_same _ _ j _ _ v h.b, ⟨hh.h1.keepO (keepCell15 wr g j v) o1, hh.l1, hh.m1, hh.h2.keepO (keepCell15 wr g j v) o2, hh.l2, hh.m2⟩, o1, o2⟩
theorem GueS.num {w wr : World} {g : Nat} {V : QstV} {Q : Qst} (h : GueS w wr g V Q) : wr.cell? ⟨g, 0, none⟩ = some (.int .i64 Q.k) ∧ wr.cell? ⟨g, 1, none⟩ = some (.int .i64 Q.ad) ∧ wr.cell? ⟨g, 2, none⟩ = some (.int .i64 Q.ct) ∧ wr.cell? ⟨g, 3, none⟩ = some (.int .i64 Q.va) ∧ wr.cell? ⟨g, 4, none⟩ = some (.int .i64 Q.an) ∧ wr.cell? ⟨g, 5, none⟩ = some (.int .i64 Q.oo) ∧ wr.cell? ⟨g, 6, none⟩ = some (.int .i64 Q.fr) ∧ wr.cell? ⟨g, 7, none⟩ = some (.int .i64 Q.mn) ∧ wr.cell? ⟨g, 8, none⟩ = some (.slice V.a1 Q.nb V.d1) ∧ wr.cell? ⟨g, 9, none⟩ = some (.slice V.a2 Q.nr V.d2) :=
  ⟨cell_of_heap h.b rfl, cell_of_heap h.b rfl, cell_of_heap h.b rfl, cell_of_heap h.b rfl, cell_of_heap h.b rfl, cell_of_heap h.b rfl, cell_of_heap h.b rfl, cell_of_heap h.b rfl, cell_of_heap h.b rfl, cell_of_heap h.b rfl⟩
theorem frozen15 {w : World} {B j : Nat} {cs : Array Value} {t : TypeId} (h : w.heap[B]? = some (.cells cs t (0, 0))) : w.frozen? ⟨B, j, none⟩ = false := by simp [World.frozen?, h]
/-- What is told: the ask out of its box, laid into the box of what is told. -/
theorem gue_told {w W0 W : World} {G : Nat} {V : QstV} {Q : Qst} (h : GueS W0 W G V Q) (he : Ext w W0) (hz : w.heap.size + 1 ≤ W0.heap.size) (f1 : Fresh W0 V.a1) (f2 : Fresh W0 V.a2) :
    (∀ cs, QstAt (W.setRow w.heap.size cs) V Q) ∧ (∀ cs, Ext w (W.setRow w.heap.size cs)) := by
  have k : ∀ cs, Keep (fun i => i = w.heap.size) W (W.setRow w.heap.size cs) := fun cs => ⟨rfl, rfl, rfl, by simp, fun k _ hn => setRow_other W _ k cs hn⟩
  have g1 : OffN (fun i => i = w.heap.size) V.a1 Q.nb := .inr (f1.off (fun i hi => by omega))
  have g2 : OffN (fun i => i = w.heap.size) V.a2 Q.nr := .inr (f2.off (fun i hi => by omega))
  exact ⟨fun cs => ⟨h.h.h1.keepO (k cs) g1, h.h.l1, h.h.m1, h.h.h2.keepO (k cs) g2, h.h.l2, h.h.m2⟩, fun cs => below_setRow (he.trans h.x) (Nat.le_refl _) _⟩
theorem fresh_le15 {a b : World} {x : Option Addr} (h : Fresh b x) (hs : a.heap.size ≤ b.heap.size) : Fresh a x := fun p hp => Nat.le_trans hs (h p hp)
theorem num_bd (n : Nat) (f : Nat → Int) (i : Nat) (hf : ∀ i, i < n → 0 ≤ f i ∧ f i < 256) : 0 ≤ numAt n f i ∧ numAt n f i < 65536 := by
  unfold numAt
  split
  · have := hf i (by omega)
    have := hf (i + 1) (by omega)
    omega
  · omega
theorem lt_off {G : Nat} {w : World} {x : Option Addr} {n : Nat} (h : Fresh w x) (hG : G < w.heap.size) : OffN (fun i => i = G) x n := .inr (h.off fun i hi => by omega)
theorem nil_off (G n : Nat) : OffN (fun i => i = G) none n := .inr (fun p hp => by cases hp)
set_option maxRecDepth 100000 in
set_option maxHeartbeats 8000000 in
theorem rguess15_any (a : Option Addr) (n c : Nat) (f : Nat → Int) (w : World) (ha : Holds .u8 w a n f) (hn : n ≤ 1000000) (hnc : n ≤ c) (hcm : c ≤ maxLen) (h0 : 0 < n) (hf : ∀ i, i < n → 0 ≤ f i ∧ f i < 256) (hkn : knownB (f 0) = true) :
    Calls Tryz.prog 90 #[.slice a n c] w fun e w' => ∃ V, e = .returned (.agg (qstC V (gueQ n f))) ∧ QstAt w' V (gueQ n f) ∧ Ext w w' := by
  have hkk := (known_iff (f 0)).1 hkn
  obtain ⟨b, off, rfl, hb, hc⟩ := id (ha.resolve_left (by omega))
  obtain ⟨W0, hW0, HX, He⟩ : ∃ W0, W0 = w.alloc (.cells #[.int .i64 0, .int .i64 0, .int .i64 0, .int .i64 0, .int .i64 0, .int .i64 0, .int .i64 0, .int .i64 0, .slice none 0 0, .slice none 0 0] 31) ∧ Hid (∀ W, Ext W0 W → W.heap[w.heap.size]? = some (.cells #[.int .i64 0, .int .i64 0, .int .i64 0, .int .i64 0, .int .i64 0, .int .i64 0, .int .i64 0, .int .i64 0, .slice none 0 0, .slice none 0 0] 31 (0, 0))) ∧ Hid (Ext w W0) := ⟨_, rfl, Lib.hid fun W hx => hx.block (heap_alloc_new w _), Lib.hid (Ext.alloc w _)⟩
  have hz0 : w.heap.size + 1 ≤ W0.heap.size := by rw [hW0]; simp
  have HA := Lib.hid (fun W (x : Ext W0 W) => ha.ext (He.out.trans x))
  have HC0 := Lib.hid (fun W (x : Ext W0 W) => (show W.cell? ⟨b, off, none⟩ = some (.int .u8 (f 0)) from (He.out.trans x).cell hb (hc 0 h0)))
  have hbd := hf 0 h0
  have hw0 : IntKind.i64.wrap (f 0) = f 0 := IntWalk.i64_in _ (by omega)
  have hnI : (n : Int) ≤ 1000000 := by omega
  have h0I : (0 : Int) < n := by omega
  clear ha hc hb hkn hbd
  go_enter Tryz.func90, Tryz.ntmps90
  go_upto_region 1 with fail
  rw [← hW0]
  clear hW0
  go_cut [3] from 4 to 100 (fun v wx => ∃ G, v = .pointer (some ⟨G, 0, none⟩) ∧ GueS W0 wx G zeroQV { zeroQ with k := f 0, ad := numAt n f 1 })
  case first => as_aux_lemma =>
    have hs : Ext W0 W0.drew := Ext.drew _
    refine wp_region_held_drew (S := fun W => Ext W0 W) (by kernel_rfl) hs (fun _ => ?_)
    obtain ⟨X, hX⟩ : ∃ X, X = W0.drew := ⟨_, rfl⟩
    rw [← hX] at hs ⊢
    clear hX
    have hx := hs
    refine tkG 0 4 (.slice (some ⟨b, off, none⟩) n c) hs ?_
    simp only [Act.put, tkA, tkB, tkC]
    refine tkG 1 5 (.pointer (some ⟨b, off, none⟩)) hs ?_
    simp only [Act.put, tkA, tkB, tkC]
    refine tkY 2 6 (.int .u8 (f 0)) hs ?_ (y := fun W hW => by have c0 := HC0.out W hW; go_simp)
    simp only [Act.put, tkA, tkB, tkC]
    refine tkG 3 7 (.int .i64 (f 0)) hs ?_
    simp only [Act.put, tkA, tkB, tkC]
    refine tkG 4 8 (.slice (some ⟨b, off, none⟩) n c) hs ?_
    simp only [Act.put, tkA, tkB, tkC]
    refine wpAnyH_ready (rs := [5, 7]) (by kernel_rfl) (by simp) (AllReadyH.cons rfl (fun K hK => ?_) (AllReadyH.cons rfl (fun K hK => ?_) (AllReadyH.nil)))
    · go_simp
      go_at_call 129
      refine (rnum15_any (some ⟨b, off, none⟩) n c f 1 _ (HA.out _ hs) hn hf).mono ?_; rintro e Wc ⟨rfl, y⟩
      go_wp2_with fail
      refine hK.out _ _ (hs.trans y) (fun hs => ?_)
      clear hK K
      refine tkG 6 10 (.agg #[.int .i64 (f 0), .int .i64 (numAt n f 1), .int .i64 0, .int .i64 0, .int .i64 0, .int .i64 0, .int .i64 0, .int .i64 0, .slice none 0 0, .slice none 0 0]) hs ?_
      simp only [Act.put, tkA, tkB, tkC]
      refine wpAnyH_ready (rs := [7]) (by kernel_rfl) (by simp) (AllReadyH.cons rfl (fun K hK => ?_) (AllReadyH.nil))
      go_simp
      refine hK.out _ _ (hs.trans (Ext.alloc _ _)) (fun hs => ?_)
      clear hK K
      refine wpAnyH_ready (rs := [8]) (by kernel_rfl) (by simp) (AllReadyH.cons rfl (fun K hK => ?_) (AllReadyH.nil))
      refine step_store_row rfl 31 (.tmp 3) (.tmp 10) rfl (Wc.heap.size) _ rfl rfl 31 _ (heap_alloc_new Wc _) (by kernel_rfl) rfl (by simp [Value.oneCell']) rfl ?_
      have hlo : W0.heap.size ≤ Wc.heap.size := Nat.le_trans hx.size y.size
      have hs := below_setRow hs hlo (qstC zeroQV { zeroQ with k := f 0, ad := numAt n f 1 })
      refine hK.out _ _ hs (fun hs => ?_)
      clear hK K
      simp only [Act.put]
      refine wpAnyH_done (by kernel_rfl) ?_ _
      go_wp2_with fail
      go_meet
      exact ⟨Wc.heap.size, rfl, ⟨hs, hlo, setRow_heap _ _ _ _ _ _ (heap_alloc_new Wc _), none_at _ rfl rfl, nil_off _ _, nil_off _ _⟩⟩
    · go_simp
      refine hK.out _ _ (hs.trans (Ext.alloc _ _)) (fun hs => ?_)
      clear hK K
      refine wpAnyH_ready (rs := [5]) (by kernel_rfl) (by simp) (AllReadyH.cons rfl (fun K hK => ?_) (AllReadyH.nil))
      go_simp
      go_at_call 129
      refine (rnum15_any (some ⟨b, off, none⟩) n c f 1 _ (HA.out _ hs) hn hf).mono ?_; rintro e Wc ⟨rfl, y⟩
      go_wp2_with fail
      refine hK.out _ _ (hs.trans y) (fun hs => ?_)
      clear hK K
      refine tkG 6 10 (.agg #[.int .i64 (f 0), .int .i64 (numAt n f 1), .int .i64 0, .int .i64 0, .int .i64 0, .int .i64 0, .int .i64 0, .int .i64 0, .slice none 0 0, .slice none 0 0]) hs ?_
      simp only [Act.put, tkA, tkB, tkC]
      refine wpAnyH_ready (rs := [8]) (by kernel_rfl) (by simp) (AllReadyH.cons rfl (fun K hK => ?_) (AllReadyH.nil))
      refine step_store_row rfl 31 (.tmp 3) (.tmp 10) rfl (X.heap.size) _ rfl rfl 31 _ (y.block (heap_alloc_new X _)) (by kernel_rfl) rfl (by simp [Value.oneCell']) rfl ?_
      have hlo : W0.heap.size ≤ X.heap.size := hx.size
      have hs := below_setRow hs hlo (qstC zeroQV { zeroQ with k := f 0, ad := numAt n f 1 })
      refine hK.out _ _ hs (fun hs => ?_)
      clear hK K
      simp only [Act.put]
      refine wpAnyH_done (by kernel_rfl) ?_ _
      go_wp2_with fail
      go_meet
      exact ⟨X.heap.size, rfl, ⟨hs, hlo, setRow_heap _ _ _ _ _ _ (y.block (heap_alloc_new X _)), none_at _ rfl rfl, nil_off _ _, nil_off _ _⟩⟩
  case rest =>
    obtain ⟨G, rfl, S⟩ := hcut
    rcases hkk with hk1 | hk2 | hk3 | hk4 | hk5 | hk6 | hk15 | hk16 | hk22 | hk23
    · -- 1
      rw [hk1] at S
      obtain ⟨ck, cad, cct, cva, can, coo, cfr, cmn, c8, c9⟩ := S.num
      have HG : Hid (gueQ n f = { zeroQ with k := 1, ad := numAt n f 1, ct := numAt n f 3 }) := Lib.hid (by unfold gueQ; rw [hk1]; rfl)
      clear hk1
      go_wp2_with fail
      refine (rnum15_any (some ⟨b, off, none⟩) n c f 3 _ (HA.out _ S.x) hn hf).mono ?_; rintro e w2 ⟨rfl, x2⟩
      have S' := S.ext x2
      clear x2 ck cad cct cva can coo cfr cmn c8 c9 S
      obtain ⟨ck, cad, cct, cva, can, coo, cfr, cmn, c8, c9⟩ := S'.num
      have zf := frozen15 (j := 2) S'.b
      obtain ⟨W2, hW2, S⟩ : ∃ W, W = w2.setCell ⟨G, 2, none⟩ (.int .i64 (numAt n f 3)) ∧ GueS W0 W G zeroQV { zeroQ with k := 1, ad := numAt n f 1, ct := numAt n f 3 } := ⟨_, rfl, S'.set rfl (none_at _ rfl rfl) (nil_off _ _) (nil_off _ _)⟩
      clear S'
      have b' := S.b
      have gR' := HX.out _ S.x
      rw [hW2] at b' gR'
      have HT := Lib.hid (gue_told S He.out hz0 (Fresh.nil _) (Fresh.nil _))
      go_wp2_with (first
        | (refine wpList_load_row rfl 31 (.tmp 3) rfl (G) rfl 31 _ (0, 0) _ b' Tryz.underlying31 rfl (by kernel_rfl) ?_)
        | (refine wpList_store_row rfl 31 (.tmp 2) (.tmp 100) rfl (w.heap.size) _ rfl rfl 31 _ gR' (by kernel_rfl) rfl (by simp [qstC, Value.oneCell']) ?_))
      rw [← hW2] at gR' ⊢
      refine bodyPost_ret (results_cell_row rfl _ _ w.heap.size 31 _ (0, 0) _ rfl (setRow_heap _ _ _ _ _ _ gR') Tryz.underlying31 rfl (by kernel_rfl)) rfl ?_
      rw [HG.out]
      exact ⟨zeroQV, by rfl, HT.out.1 _, HT.out.2 _⟩
    · -- 2
      rw [hk2] at S
      obtain ⟨ck, cad, cct, cva, can, coo, cfr, cmn, c8, c9⟩ := S.num
      have HG : Hid (gueQ n f = { zeroQ with k := 2, ad := numAt n f 1, ct := numAt n f 3 }) := Lib.hid (by unfold gueQ; rw [hk2]; rfl)
      clear hk2
      go_wp2_with fail
      refine (rnum15_any (some ⟨b, off, none⟩) n c f 3 _ (HA.out _ S.x) hn hf).mono ?_; rintro e w2 ⟨rfl, x2⟩
      have S' := S.ext x2
      clear x2 ck cad cct cva can coo cfr cmn c8 c9 S
      obtain ⟨ck, cad, cct, cva, can, coo, cfr, cmn, c8, c9⟩ := S'.num
      have zf := frozen15 (j := 2) S'.b
      obtain ⟨W2, hW2, S⟩ : ∃ W, W = w2.setCell ⟨G, 2, none⟩ (.int .i64 (numAt n f 3)) ∧ GueS W0 W G zeroQV { zeroQ with k := 2, ad := numAt n f 1, ct := numAt n f 3 } := ⟨_, rfl, S'.set rfl (none_at _ rfl rfl) (nil_off _ _) (nil_off _ _)⟩
      clear S'
      have b' := S.b
      have gR' := HX.out _ S.x
      rw [hW2] at b' gR'
      have HT := Lib.hid (gue_told S He.out hz0 (Fresh.nil _) (Fresh.nil _))
      go_wp2_with (first
        | (refine wpList_load_row rfl 31 (.tmp 3) rfl (G) rfl 31 _ (0, 0) _ b' Tryz.underlying31 rfl (by kernel_rfl) ?_)
        | (refine wpList_store_row rfl 31 (.tmp 2) (.tmp 100) rfl (w.heap.size) _ rfl rfl 31 _ gR' (by kernel_rfl) rfl (by simp [qstC, Value.oneCell']) ?_))
      rw [← hW2] at gR' ⊢
      refine bodyPost_ret (results_cell_row rfl _ _ w.heap.size 31 _ (0, 0) _ rfl (setRow_heap _ _ _ _ _ _ gR') Tryz.underlying31 rfl (by kernel_rfl)) rfl ?_
      rw [HG.out]
      exact ⟨zeroQV, by rfl, HT.out.1 _, HT.out.2 _⟩
    · -- 3
      rw [hk3] at S
      obtain ⟨ck, cad, cct, cva, can, coo, cfr, cmn, c8, c9⟩ := S.num
      have HG : Hid (gueQ n f = { zeroQ with k := 3, ad := numAt n f 1, ct := numAt n f 3 }) := Lib.hid (by unfold gueQ; rw [hk3]; rfl)
      clear hk3
      go_wp2_with fail
      refine (rnum15_any (some ⟨b, off, none⟩) n c f 3 _ (HA.out _ S.x) hn hf).mono ?_; rintro e w2 ⟨rfl, x2⟩
      have S' := S.ext x2
      clear x2 ck cad cct cva can coo cfr cmn c8 c9 S
      obtain ⟨ck, cad, cct, cva, can, coo, cfr, cmn, c8, c9⟩ := S'.num
      have zf := frozen15 (j := 2) S'.b
      obtain ⟨W2, hW2, S⟩ : ∃ W, W = w2.setCell ⟨G, 2, none⟩ (.int .i64 (numAt n f 3)) ∧ GueS W0 W G zeroQV { zeroQ with k := 3, ad := numAt n f 1, ct := numAt n f 3 } := ⟨_, rfl, S'.set rfl (none_at _ rfl rfl) (nil_off _ _) (nil_off _ _)⟩
      clear S'
      have b' := S.b
      have gR' := HX.out _ S.x
      rw [hW2] at b' gR'
      have HT := Lib.hid (gue_told S He.out hz0 (Fresh.nil _) (Fresh.nil _))
      go_wp2_with (first
        | (refine wpList_load_row rfl 31 (.tmp 3) rfl (G) rfl 31 _ (0, 0) _ b' Tryz.underlying31 rfl (by kernel_rfl) ?_)
        | (refine wpList_store_row rfl 31 (.tmp 2) (.tmp 100) rfl (w.heap.size) _ rfl rfl 31 _ gR' (by kernel_rfl) rfl (by simp [qstC, Value.oneCell']) ?_))
      rw [← hW2] at gR' ⊢
      refine bodyPost_ret (results_cell_row rfl _ _ w.heap.size 31 _ (0, 0) _ rfl (setRow_heap _ _ _ _ _ _ gR') Tryz.underlying31 rfl (by kernel_rfl)) rfl ?_
      rw [HG.out]
      exact ⟨zeroQV, by rfl, HT.out.1 _, HT.out.2 _⟩
    · -- 4
      rw [hk4] at S
      obtain ⟨ck, cad, cct, cva, can, coo, cfr, cmn, c8, c9⟩ := S.num
      have HG : Hid (gueQ n f = { zeroQ with k := 4, ad := numAt n f 1, ct := numAt n f 3 }) := Lib.hid (by unfold gueQ; rw [hk4]; rfl)
      clear hk4
      go_wp2_with fail
      refine (rnum15_any (some ⟨b, off, none⟩) n c f 3 _ (HA.out _ S.x) hn hf).mono ?_; rintro e w2 ⟨rfl, x2⟩
      have S' := S.ext x2
      clear x2 ck cad cct cva can coo cfr cmn c8 c9 S
      obtain ⟨ck, cad, cct, cva, can, coo, cfr, cmn, c8, c9⟩ := S'.num
      have zf := frozen15 (j := 2) S'.b
      obtain ⟨W2, hW2, S⟩ : ∃ W, W = w2.setCell ⟨G, 2, none⟩ (.int .i64 (numAt n f 3)) ∧ GueS W0 W G zeroQV { zeroQ with k := 4, ad := numAt n f 1, ct := numAt n f 3 } := ⟨_, rfl, S'.set rfl (none_at _ rfl rfl) (nil_off _ _) (nil_off _ _)⟩
      clear S'
      have b' := S.b
      have gR' := HX.out _ S.x
      rw [hW2] at b' gR'
      have HT := Lib.hid (gue_told S He.out hz0 (Fresh.nil _) (Fresh.nil _))
      go_wp2_with (first
        | (refine wpList_load_row rfl 31 (.tmp 3) rfl (G) rfl 31 _ (0, 0) _ b' Tryz.underlying31 rfl (by kernel_rfl) ?_)
        | (refine wpList_store_row rfl 31 (.tmp 2) (.tmp 100) rfl (w.heap.size) _ rfl rfl 31 _ gR' (by kernel_rfl) rfl (by simp [qstC, Value.oneCell']) ?_))
      rw [← hW2] at gR' ⊢
      refine bodyPost_ret (results_cell_row rfl _ _ w.heap.size 31 _ (0, 0) _ rfl (setRow_heap _ _ _ _ _ _ gR') Tryz.underlying31 rfl (by kernel_rfl)) rfl ?_
      rw [HG.out]
      exact ⟨zeroQV, by rfl, HT.out.1 _, HT.out.2 _⟩
    · -- 5
      rw [hk5] at S
      obtain ⟨ck, cad, cct, cva, can, coo, cfr, cmn, c8, c9⟩ := S.num
      have HG : Hid (gueQ n f = { zeroQ with k := 5, ad := numAt n f 1, va := numAt n f 3 }) := Lib.hid (by unfold gueQ; rw [hk5]; rfl)
      clear hk5
      go_wp2_with fail
      refine (rnum15_any (some ⟨b, off, none⟩) n c f 3 _ (HA.out _ S.x) hn hf).mono ?_; rintro e w2 ⟨rfl, x2⟩
      have S' := S.ext x2
      clear x2 ck cad cct cva can coo cfr cmn c8 c9 S
      obtain ⟨ck, cad, cct, cva, can, coo, cfr, cmn, c8, c9⟩ := S'.num
      have zf := frozen15 (j := 3) S'.b
      obtain ⟨W2, hW2, S⟩ : ∃ W, W = w2.setCell ⟨G, 3, none⟩ (.int .i64 (numAt n f 3)) ∧ GueS W0 W G zeroQV { zeroQ with k := 5, ad := numAt n f 1, va := numAt n f 3 } := ⟨_, rfl, S'.set rfl (none_at _ rfl rfl) (nil_off _ _) (nil_off _ _)⟩
      clear S'
      have b' := S.b
      have gR' := HX.out _ S.x
      rw [hW2] at b' gR'
      have HT := Lib.hid (gue_told S He.out hz0 (Fresh.nil _) (Fresh.nil _))
      go_wp2_with (first
        | (refine wpList_load_row rfl 31 (.tmp 3) rfl (G) rfl 31 _ (0, 0) _ b' Tryz.underlying31 rfl (by kernel_rfl) ?_)
        | (refine wpList_store_row rfl 31 (.tmp 2) (.tmp 100) rfl (w.heap.size) _ rfl rfl 31 _ gR' (by kernel_rfl) rfl (by simp [qstC, Value.oneCell']) ?_))
      rw [← hW2] at gR' ⊢
      refine bodyPost_ret (results_cell_row rfl _ _ w.heap.size 31 _ (0, 0) _ rfl (setRow_heap _ _ _ _ _ _ gR') Tryz.underlying31 rfl (by kernel_rfl)) rfl ?_
      rw [HG.out]
      exact ⟨zeroQV, by rfl, HT.out.1 _, HT.out.2 _⟩
    · -- 6
      rw [hk6] at S
      obtain ⟨ck, cad, cct, cva, can, coo, cfr, cmn, c8, c9⟩ := S.num
      have HG : Hid (gueQ n f = { zeroQ with k := 6, ad := numAt n f 1, va := numAt n f 3 }) := Lib.hid (by unfold gueQ; rw [hk6]; rfl)
      clear hk6
      go_wp2_with fail
      refine (rnum15_any (some ⟨b, off, none⟩) n c f 3 _ (HA.out _ S.x) hn hf).mono ?_; rintro e w2 ⟨rfl, x2⟩
      have S' := S.ext x2
      clear x2 ck cad cct cva can coo cfr cmn c8 c9 S
      obtain ⟨ck, cad, cct, cva, can, coo, cfr, cmn, c8, c9⟩ := S'.num
      have zf := frozen15 (j := 3) S'.b
      obtain ⟨W2, hW2, S⟩ : ∃ W, W = w2.setCell ⟨G, 3, none⟩ (.int .i64 (numAt n f 3)) ∧ GueS W0 W G zeroQV { zeroQ with k := 6, ad := numAt n f 1, va := numAt n f 3 } := ⟨_, rfl, S'.set rfl (none_at _ rfl rfl) (nil_off _ _) (nil_off _ _)⟩
      clear S'
      have b' := S.b
      have gR' := HX.out _ S.x
      rw [hW2] at b' gR'
      have HT := Lib.hid (gue_told S He.out hz0 (Fresh.nil _) (Fresh.nil _))
      go_wp2_with (first
        | (refine wpList_load_row rfl 31 (.tmp 3) rfl (G) rfl 31 _ (0, 0) _ b' Tryz.underlying31 rfl (by kernel_rfl) ?_)
        | (refine wpList_store_row rfl 31 (.tmp 2) (.tmp 100) rfl (w.heap.size) _ rfl rfl 31 _ gR' (by kernel_rfl) rfl (by simp [qstC, Value.oneCell']) ?_))
      rw [← hW2] at gR' ⊢
      refine bodyPost_ret (results_cell_row rfl _ _ w.heap.size 31 _ (0, 0) _ rfl (setRow_heap _ _ _ _ _ _ gR') Tryz.underlying31 rfl (by kernel_rfl)) rfl ?_
      rw [HG.out]
      exact ⟨zeroQV, by rfl, HT.out.1 _, HT.out.2 _⟩
    · -- 15
      rw [hk15] at S
      have HG : Hid (gueQ n f = { zeroQ with k := 15, ad := numAt n f 1, ct := numAt n f 3, nb := if 6 < n ∧ (n : Int) - 6 = szI (numAt n f 3) then (numAt n f 3).toNat else 0, B := unF (fun i => f (6 + i)) }) := Lib.hid (by unfold gueQ; rw [hk15]; rfl)
      clear hk15
      obtain ⟨ck, cad, cct, cva, can, coo, cfr, cmn, c8, c9⟩ := S.num
      go_wp2_with fail
      refine (rnum15_any (some ⟨b, off, none⟩) n c f 3 _ (HA.out _ S.x) hn hf).mono ?_; rintro e w2 ⟨rfl, x2⟩
      have S' := S.ext x2
      clear x2 ck cad cct cva can coo cfr cmn c8 c9 S
      obtain ⟨ck, cad, cct, cva, can, coo, cfr, cmn, c8, c9⟩ := S'.num
      have zf := frozen15 (j := 2) S'.b
      obtain ⟨W2, hW2, S⟩ : ∃ W, W = w2.setCell ⟨G, 2, none⟩ (.int .i64 (numAt n f 3)) ∧ GueS W0 W G zeroQV { zeroQ with k := 15, ad := numAt n f 1, ct := numAt n f 3 } := ⟨_, rfl, S'.set rfl (none_at _ rfl rfl) (nil_off _ _) (nil_off _ _)⟩
      clear S'
      go_upto_region 13 with fail
      rw [← hW2]
      clear hW2
      have hbd := num_bd n f 3 hf
      by_cases h6 : 6 < n
      · have h6I : (6 : Int) < (n : Int) := by omega
        have hs6 : IntKind.i64.wrap ((n : Int) - 6) = (n : Int) - 6 := IntWalk.i64_in _ (by omega)
        clear ck cad cct cva can coo cfr cmn c8 c9
        obtain ⟨ck, cad, cct, cva, can, coo, cfr, cmn, c8, c9⟩ := S.num
        by_cases hE : (n : Int) - 6 = szI (numAt n f 3)
        · have hb : ((n : Int) - 6 == szI (numAt n f 3)) = true := by simp [hE]
          have HN := Lib.hid (And.intro h6 hE)
          have HS := Lib.hid (fun W => rsize_any (numAt n f 3) W (by omega) (by omega))
          clear hE hbd
          go_wp2_with fail
          refine (HS.out _).mono ?_; rintro e w3 ⟨rfl, rfl⟩
          clear HS
          obtain ⟨N, hN⟩ : ∃ N : Nat, numAt n f 3 = (N : Int) := ⟨(numAt n f 3).toNat, by have := (num_bd n f 3 hf).1; omega⟩
          have hNb : N < 65536 := by have := (num_bd n f 3 hf).2; omega
          have hm : n - 6 = szN N := by have := HN.out.2; rw [hN, szI_nat] at this; omega
          have ht : (numAt n f 3).toNat = N := by omega
          have HP : Hid (∀ W, Ext W0 W → Calls Tryz.prog 131 #[.slice (some ⟨b, off + 6, none⟩) (n - 6) (c - 6), .int .i64 (numAt n f 3)] W fun e w' => ∃ x d, e = .returned (.tuple #[.slice x N d, .int .i64 0]) ∧ N ≤ d ∧ d ≤ maxLen ∧ HoldsG Value.bool w' x N (unF (fun i => f (6 + i))) ∧ Ext W w' ∧ Fresh W x) :=
            Lib.hid fun W hx => by rw [hN]; exact runpack_f (some ⟨b, off + 6, none⟩) (n - 6) (c - 6) N (fun i => f (6 + i)) W (HoldsG.drop (mk := Value.int .u8) (k := 6) (HA.out W hx)) hm (by omega) (fun i hi => hf _ (by omega))
          have HG2 : Hid (gueQ n f = { zeroQ with k := 15, ad := numAt n f 1, ct := numAt n f 3, nb := N, B := unF (fun i => f (6 + i)) }) := Lib.hid (by rw [HG.out, if_pos HN.out, ht])
          have h8I : (6 : Int) ≤ (c : Int) := by omega
          have h7I : (6 : Int) ≤ (n : Int) := by omega
          have hcI : (c : Int) ≤ 9223372036854775807 := by unfold maxLen at hcm; omega
          have hncI : (n : Int) ≤ c := by omega
          have e1 : ¬ c = 6 := by omega
          have e2 : ¬ 6 = c := by omega
          clear hN hNb hm ht HG HN ck cad cct cva can coo cfr cmn c8 c9
          go_wp2_with fail
          clear hb
          have SX := S.ext (Ext.drew _)
          clear S
          have hs := And.intro SX.x SX.num.2.2.1
          refine wp_region_held_drew (S := fun W => Ext W0 W ∧ W.cell? ⟨G, 2, none⟩ = some (.int .i64 (numAt n f 3))) (by kernel_rfl) hs (fun _ => ?_)
          obtain ⟨X, hX⟩ : ∃ X, X = W2.drew := ⟨_, rfl⟩
          rw [← hX] at hs SX ⊢
          clear hX
          refine tkG 0 45 (.slice (some ⟨b, off, none⟩) n c) hs ?_
          simp only [Act.put, tkA, tkB, tkC]
          refine tkG 1 46 (.slice (some ⟨b, off + 6, none⟩) (n - 6) (c - 6)) hs ?_
          simp only [Act.put, tkA, tkB, tkC]
          refine tkG 2 47 (.pointer (some ⟨G, 2, none⟩)) hs ?_
          simp only [Act.put, tkA, tkB, tkC]
          refine tkY 3 48 (.int .i64 (numAt n f 3)) hs ?_ (y := fun W hW => by obtain ⟨-, c2⟩ := hW; go_simp)
          simp only [Act.put, tkA, tkB, tkC]
          refine wpAnyH_ready (rs := [4]) (by kernel_rfl) (by simp) (AllReadyH.cons rfl (fun K hK => ?_) (AllReadyH.nil))
          go_simp
          go_at_call 131
          refine (HP.out _ hs.1).mono ?_; rintro e Wc ⟨x, dd, rfl, l3, m3, h3, y, fx⟩
          have Sc := SX.ext y
          have hG := heap_lt SX.b
          have fy := fresh_le15 fx SX.x.size
          go_wp2_with fail
          refine hK.out _ _ (And.intro Sc.x Sc.num.2.2.1) (fun hs => ?_)
          clear hK K SX y
          refine tkG 5 44 (.tuple #[.slice x N dd, .int .i64 0]) hs ?_
          simp only [Act.put, tkA, tkB, tkC]
          refine tkG 6 50 (.slice x N dd) hs ?_
          simp only [Act.put, tkA, tkB, tkC]
          refine tkG 7 51 (.int .i64 0) hs ?_
          simp only [Act.put, tkA, tkB, tkC]
          refine tkG 8 52 (.pointer (some ⟨G, 8, none⟩)) hs ?_
          simp only [Act.put, tkA, tkB, tkC]
          obtain ⟨ck, cad, cct, cva, can, coo, cfr, cmn, c8, c9⟩ := Sc.num
          have zf := frozen15 (j := 8) Sc.b
          have S7 : GueS W0 (Wc.setCell ⟨G, 8, none⟩ (.slice x N dd)) G { zeroQV with a1 := x, d1 := dd } { zeroQ with k := 15, ad := numAt n f 1, ct := numAt n f 3, nb := N, B := unF (fun i => f (6 + i)) } := Sc.set rfl ⟨h3, l3, m3, .inl rfl, Nat.le_refl _, Nat.zero_le _⟩ (lt_off fx hG) (nil_off _ _)
          clear Sc
          refine wpAnyH_ready (rs := [9]) (by kernel_rfl) (by simp) (AllReadyH.cons rfl (fun K hK => ?_) (AllReadyH.nil))
          go_simp
          refine hK.out _ _ (And.intro S7.x S7.num.2.2.1) (fun hs => ?_)
          clear hK K hs
          refine wpAnyH_done (by kernel_rfl) ?_ _
          obtain ⟨W7, hW7⟩ : ∃ W, W = Wc.setCell ⟨G, 8, none⟩ (.slice x N dd) := ⟨_, rfl⟩
          have S := S7
          rw [← hW7] at S
          clear S7
          have b' := S.b
          have gR' := HX.out _ S.x
          rw [hW7] at b' gR'
          have HT := Lib.hid (gue_told S He.out hz0 fy (Fresh.nil _))
          go_wp2_with (first
            | (refine wpList_load_row rfl 31 (.tmp 3) rfl (G) rfl 31 _ (0, 0) _ b' Tryz.underlying31 rfl (by kernel_rfl) ?_)
            | (refine wpList_store_row rfl 31 (.tmp 2) (.tmp 100) rfl (w.heap.size) _ rfl rfl 31 _ gR' (by kernel_rfl) rfl (by simp [qstC, Value.oneCell']) ?_))
          rw [← hW7] at gR' ⊢
          refine bodyPost_ret (results_cell_row rfl _ _ w.heap.size 31 _ (0, 0) _ rfl (setRow_heap _ _ _ _ _ _ gR') Tryz.underlying31 rfl (by kernel_rfl)) rfl ?_
          rw [HG2.out]
          exact ⟨{ zeroQV with a1 := x, d1 := dd }, by rfl, HT.out.1 _, HT.out.2 _⟩
        · have hb : ((n : Int) - 6 == szI (numAt n f 3)) = false := by simp [hE]
          have HB : Hid (¬ (6 < n ∧ (n : Int) - 6 = szI (numAt n f 3))) := Lib.hid fun h => hE h.2
          have HS := Lib.hid (fun W => rsize_any (numAt n f 3) W (by omega) (by omega))
          clear hE hbd
          generalize szI (numAt n f 3) = E at hb HS
          go_wp2_with fail
          refine (HS.out _).mono ?_; rintro e w3 ⟨rfl, rfl⟩
          have b' := S.b
          have gR' := HX.out _ S.x
          have HT := Lib.hid (gue_told S He.out hz0 (Fresh.nil _) (Fresh.nil _))
          go_wp2_with (first
            | (refine wpList_load_row rfl 31 (.tmp 3) rfl (G) rfl 31 _ (0, 0) _ b' Tryz.underlying31 rfl (by kernel_rfl) ?_)
            | (refine wpList_store_row rfl 31 (.tmp 2) (.tmp 100) rfl (w.heap.size) _ rfl rfl 31 _ gR' (by kernel_rfl) rfl (by simp [qstC, Value.oneCell']) ?_))
          refine bodyPost_ret (results_cell_row rfl _ _ w.heap.size 31 _ (0, 0) _ rfl (setRow_heap _ _ _ _ _ _ gR') Tryz.underlying31 rfl (by kernel_rfl)) rfl ?_
          rw [HG.out, if_neg HB.out]
          exact ⟨zeroQV, by rfl, none_at _ rfl rfl, HT.out.2 _⟩
      · have h6I : ¬ (6 : Int) < (n : Int) := by omega
        have HB : Hid (¬ (6 < n ∧ (n : Int) - 6 = szI (numAt n f 3))) := Lib.hid fun h => h6 h.1
        have b' := S.b
        have gR' := HX.out _ S.x
        have HT := Lib.hid (gue_told S He.out hz0 (Fresh.nil _) (Fresh.nil _))
        go_wp2_with (first
          | (refine wpList_load_row rfl 31 (.tmp 3) rfl (G) rfl 31 _ (0, 0) _ b' Tryz.underlying31 rfl (by kernel_rfl) ?_)
          | (refine wpList_store_row rfl 31 (.tmp 2) (.tmp 100) rfl (w.heap.size) _ rfl rfl 31 _ gR' (by kernel_rfl) rfl (by simp [qstC, Value.oneCell']) ?_))
        refine bodyPost_ret (results_cell_row rfl _ _ w.heap.size 31 _ (0, 0) _ rfl (setRow_heap _ _ _ _ _ _ gR') Tryz.underlying31 rfl (by kernel_rfl)) rfl ?_
        rw [HG.out, if_neg HB.out]
        exact ⟨zeroQV, by rfl, none_at _ rfl rfl, HT.out.2 _⟩
    · -- 16
      rw [hk16] at S
      have HG : Hid (gueQ n f = { zeroQ with k := 16, ad := numAt n f 1, ct := numAt n f 3, nr := behN n 6, R := getF (fun i => f (6 + i)) }) := Lib.hid (by unfold gueQ; rw [hk16]; rfl)
      clear hk16
      obtain ⟨ck, cad, cct, cva, can, coo, cfr, cmn, c8, c9⟩ := S.num
      go_wp2_with fail
      refine (rnum15_any (some ⟨b, off, none⟩) n c f 3 _ (HA.out _ S.x) hn hf).mono ?_; rintro e w2 ⟨rfl, x2⟩
      have S' := S.ext x2
      clear x2 ck cad cct cva can coo cfr cmn c8 c9 S
      obtain ⟨ck, cad, cct, cva, can, coo, cfr, cmn, c8, c9⟩ := S'.num
      have zf := frozen15 (j := 2) S'.b
      obtain ⟨W2, hW2, S⟩ : ∃ W, W = w2.setCell ⟨G, 2, none⟩ (.int .i64 (numAt n f 3)) ∧ GueS W0 W G zeroQV { zeroQ with k := 16, ad := numAt n f 1, ct := numAt n f 3 } := ⟨_, rfl, S'.set rfl (none_at _ rfl rfl) (nil_off _ _) (nil_off _ _)⟩
      clear S'
      go_upto_region 17 with fail
      rw [← hW2]
      clear hW2
      by_cases h6 : 6 < n
      · have h6I : (6 : Int) < (n : Int) := by omega
        have h7I : (6 : Int) ≤ (n : Int) := by omega
        have h8I : (6 : Int) ≤ (c : Int) := by omega
        have hcI : (c : Int) ≤ 9223372036854775807 := by unfold maxLen at hcm; omega
        have hncI : (n : Int) ≤ c := by omega
        have e1 : ¬ c = 6 := by omega
        have e2 : ¬ 6 = c := by omega
        by_cases hp : (n - 6) % 2 = 0
        · obtain ⟨m, hm⟩ : ∃ m, n - 6 = 2 * m := ⟨(n - 6) / 2, by omega⟩
          have HB : Hid (behN n 6 = m) := Lib.hid (by unfold behN; rw [if_pos ⟨h6, hp⟩]; omega)
          have hdr : Holds .u8 W2 (some ⟨b, off + 6, none⟩) (2 * m) (fun i => f (6 + i)) := by
            have := (HoldsG.drop (mk := Value.int .u8) (k := 6) (HA.out _ S.x))
            rw [hm] at this
            exact this
          have KG := Lib.hid (rget_f (some ⟨b, off + 6, none⟩) m (c - 6) (fun i => f (6 + i)) W2 hdr (by omega) (fun i hi => hf _ (by omega)))
          rw [← hm] at KG
          clear hdr hp hm
          go_wp2_with fail
          refine KG.out.mono ?_; rintro e w7 ⟨x, dd, rfl, l3, m3, h3, x7, f7⟩
          have hG := heap_lt S.b
          have fx := fresh_le15 f7 (Nat.le_trans (Nat.le_refl _) S.x.size)
          have S' := S.ext x7
          clear x7 ck cad cct cva can coo cfr cmn c8 c9 S
          obtain ⟨ck, cad, cct, cva, can, coo, cfr, cmn, c8, c9⟩ := S'.num
          have zf := frozen15 (j := 9) S'.b
          obtain ⟨W7, hW7, S⟩ : ∃ W, W = w7.setCell ⟨G, 9, none⟩ (.slice x m dd) ∧ GueS W0 W G { zeroQV with a2 := x, d2 := dd } { zeroQ with k := 16, ad := numAt n f 1, ct := numAt n f 3, nr := m, R := getF (fun i => f (6 + i)) } := ⟨_, rfl, S'.set rfl ⟨.inl rfl, Nat.le_refl _, Nat.zero_le _, h3, l3, m3⟩ (nil_off _ _) (lt_off f7 hG)⟩
          clear S'
          have b' := S.b
          have gR' := HX.out _ S.x
          rw [hW7] at b' gR'
          have HT := Lib.hid (gue_told S He.out hz0 (Fresh.nil _) fx)
          go_wp2_with (first
            | (refine wpList_load_row rfl 31 (.tmp 3) rfl (G) rfl 31 _ (0, 0) _ b' Tryz.underlying31 rfl (by kernel_rfl) ?_)
            | (refine wpList_store_row rfl 31 (.tmp 2) (.tmp 100) rfl (w.heap.size) _ rfl rfl 31 _ gR' (by kernel_rfl) rfl (by simp [qstC, Value.oneCell']) ?_))
          rw [← hW7] at gR' ⊢
          refine bodyPost_ret (results_cell_row rfl _ _ w.heap.size 31 _ (0, 0) _ rfl (setRow_heap _ _ _ _ _ _ gR') Tryz.underlying31 rfl (by kernel_rfl)) rfl ?_
          rw [HG.out, HB.out]
          exact ⟨{ zeroQV with a2 := x, d2 := dd }, by rfl, HT.out.1 _, HT.out.2 _⟩
        · have HB : Hid (behN n 6 = 0) := Lib.hid (by unfold behN; rw [if_neg (by omega)])
          have KG := Lib.hid (rget_odd (some ⟨b, off + 6, none⟩) (n - 6) (c - 6) W2 (by omega) (by omega))
          clear hp
          go_wp2_with fail
          refine KG.out.mono ?_; rintro e w7 ⟨rfl, rfl⟩
          clear ck cad cct cva can coo cfr cmn c8 c9
          obtain ⟨ck, cad, cct, cva, can, coo, cfr, cmn, c8, c9⟩ := S.num
          have zf := frozen15 (j := 9) S.b
          obtain ⟨W7, hW7, S'⟩ : ∃ W, W = W2.setCell ⟨G, 9, none⟩ (.slice none 0 0) ∧ GueS W0 W G zeroQV { zeroQ with k := 16, ad := numAt n f 1, ct := numAt n f 3, nr := 0, R := getF (fun i => f (6 + i)) } := ⟨_, rfl, S.set rfl (none_at _ rfl rfl) (nil_off _ _) (nil_off _ _)⟩
          clear S
          have S := S'
          clear S'
          have b' := S.b
          have gR' := HX.out _ S.x
          rw [hW7] at b' gR'
          have HT := Lib.hid (gue_told S He.out hz0 (Fresh.nil _) (Fresh.nil _))
          go_wp2_with (first
            | (refine wpList_load_row rfl 31 (.tmp 3) rfl (G) rfl 31 _ (0, 0) _ b' Tryz.underlying31 rfl (by kernel_rfl) ?_)
            | (refine wpList_store_row rfl 31 (.tmp 2) (.tmp 100) rfl (w.heap.size) _ rfl rfl 31 _ gR' (by kernel_rfl) rfl (by simp [qstC, Value.oneCell']) ?_))
          rw [← hW7] at gR' ⊢
          refine bodyPost_ret (results_cell_row rfl _ _ w.heap.size 31 _ (0, 0) _ rfl (setRow_heap _ _ _ _ _ _ gR') Tryz.underlying31 rfl (by kernel_rfl)) rfl ?_
          rw [HG.out, HB.out]
          exact ⟨zeroQV, by rfl, HT.out.1 _, HT.out.2 _⟩
      · have h6I : ¬ (6 : Int) < (n : Int) := by omega
        have HB : Hid (behN n 6 = 0) := Lib.hid (by unfold behN; rw [if_neg (by omega)])
        have b' := S.b
        have gR' := HX.out _ S.x
        have HT := Lib.hid (gue_told S He.out hz0 (Fresh.nil _) (Fresh.nil _))
        go_wp2_with (first
          | (refine wpList_load_row rfl 31 (.tmp 3) rfl (G) rfl 31 _ (0, 0) _ b' Tryz.underlying31 rfl (by kernel_rfl) ?_)
          | (refine wpList_store_row rfl 31 (.tmp 2) (.tmp 100) rfl (w.heap.size) _ rfl rfl 31 _ gR' (by kernel_rfl) rfl (by simp [qstC, Value.oneCell']) ?_))
        refine bodyPost_ret (results_cell_row rfl _ _ w.heap.size 31 _ (0, 0) _ rfl (setRow_heap _ _ _ _ _ _ gR') Tryz.underlying31 rfl (by kernel_rfl)) rfl ?_
        rw [HG.out, HB.out]
        exact ⟨zeroQV, by rfl, none_at _ rfl rfl, HT.out.2 _⟩
    · -- 22
      rw [hk22] at S
      obtain ⟨ck, cad, cct, cva, can, coo, cfr, cmn, c8, c9⟩ := S.num
      have HG : Hid (gueQ n f = { zeroQ with k := 22, ad := numAt n f 1, an := numAt n f 3, oo := numAt n f 5 }) := Lib.hid (by unfold gueQ; rw [hk22]; rfl)
      clear hk22
      go_wp2_with fail
      refine (rnum15_any (some ⟨b, off, none⟩) n c f 3 _ (HA.out _ S.x) hn hf).mono ?_; rintro e w2 ⟨rfl, x2⟩
      have S' := S.ext x2
      clear x2 ck cad cct cva can coo cfr cmn c8 c9 S
      obtain ⟨ck, cad, cct, cva, can, coo, cfr, cmn, c8, c9⟩ := S'.num
      have zf := frozen15 (j := 4) S'.b
      obtain ⟨W2, hW2, S⟩ : ∃ W, W = w2.setCell ⟨G, 4, none⟩ (.int .i64 (numAt n f 3)) ∧ GueS W0 W G zeroQV { zeroQ with k := 22, ad := numAt n f 1, an := numAt n f 3 } := ⟨_, rfl, S'.set rfl (none_at _ rfl rfl) (nil_off _ _) (nil_off _ _)⟩
      clear S'
      go_wp2_with fail
      rw [← hW2]
      clear hW2
      refine (rnum15_any (some ⟨b, off, none⟩) n c f 5 _ (HA.out _ S.x) hn hf).mono ?_; rintro e w3 ⟨rfl, x3⟩
      have S' := S.ext x3
      clear x3 ck cad cct cva can coo cfr cmn c8 c9 S
      obtain ⟨ck, cad, cct, cva, can, coo, cfr, cmn, c8, c9⟩ := S'.num
      have zf := frozen15 (j := 5) S'.b
      obtain ⟨W3, hW3, S⟩ : ∃ W, W = w3.setCell ⟨G, 5, none⟩ (.int .i64 (numAt n f 5)) ∧ GueS W0 W G zeroQV { zeroQ with k := 22, ad := numAt n f 1, an := numAt n f 3, oo := numAt n f 5 } := ⟨_, rfl, S'.set rfl (none_at _ rfl rfl) (nil_off _ _) (nil_off _ _)⟩
      clear S'
      have b' := S.b
      have gR' := HX.out _ S.x
      rw [hW3] at b' gR'
      have HT := Lib.hid (gue_told S He.out hz0 (Fresh.nil _) (Fresh.nil _))
      go_wp2_with (first
        | (refine wpList_load_row rfl 31 (.tmp 3) rfl (G) rfl 31 _ (0, 0) _ b' Tryz.underlying31 rfl (by kernel_rfl) ?_)
        | (refine wpList_store_row rfl 31 (.tmp 2) (.tmp 100) rfl (w.heap.size) _ rfl rfl 31 _ gR' (by kernel_rfl) rfl (by simp [qstC, Value.oneCell']) ?_))
      rw [← hW3] at gR' ⊢
      refine bodyPost_ret (results_cell_row rfl _ _ w.heap.size 31 _ (0, 0) _ rfl (setRow_heap _ _ _ _ _ _ gR') Tryz.underlying31 rfl (by kernel_rfl)) rfl ?_
      rw [HG.out]
      exact ⟨zeroQV, by rfl, HT.out.1 _, HT.out.2 _⟩
    · -- 23
      rw [hk23] at S
      have HG : Hid (gueQ n f = { zeroQ with k := 23, ad := numAt n f 5, ct := numAt n f 7, fr := numAt n f 1, mn := numAt n f 3, nr := behN n 10, R := getF (fun i => f (10 + i)) }) := Lib.hid (by unfold gueQ; rw [hk23]; rfl)
      clear hk23
      obtain ⟨ck, cad, cct, cva, can, coo, cfr, cmn, c8, c9⟩ := S.num
      go_wp2_with fail
      refine (rnum15_any (some ⟨b, off, none⟩) n c f 1 _ (HA.out _ S.x) hn hf).mono ?_; rintro e w2 ⟨rfl, x2⟩
      have S' := S.ext x2
      clear x2 ck cad cct cva can coo cfr cmn c8 c9 S
      obtain ⟨ck, cad, cct, cva, can, coo, cfr, cmn, c8, c9⟩ := S'.num
      have zf := frozen15 (j := 6) S'.b
      obtain ⟨W2, hW2, S⟩ : ∃ W, W = w2.setCell ⟨G, 6, none⟩ (.int .i64 (numAt n f 1)) ∧ GueS W0 W G zeroQV { zeroQ with k := 23, ad := numAt n f 1, fr := numAt n f 1 } := ⟨_, rfl, S'.set rfl (none_at _ rfl rfl) (nil_off _ _) (nil_off _ _)⟩
      clear S'
      go_wp2_with fail
      rw [← hW2]
      clear hW2
      refine (rnum15_any (some ⟨b, off, none⟩) n c f 3 _ (HA.out _ S.x) hn hf).mono ?_; rintro e w3 ⟨rfl, x3⟩
      have S' := S.ext x3
      clear x3 ck cad cct cva can coo cfr cmn c8 c9 S
      obtain ⟨ck, cad, cct, cva, can, coo, cfr, cmn, c8, c9⟩ := S'.num
      have zf := frozen15 (j := 7) S'.b
      obtain ⟨W3, hW3, S⟩ : ∃ W, W = w3.setCell ⟨G, 7, none⟩ (.int .i64 (numAt n f 3)) ∧ GueS W0 W G zeroQV { zeroQ with k := 23, ad := numAt n f 1, fr := numAt n f 1, mn := numAt n f 3 } := ⟨_, rfl, S'.set rfl (none_at _ rfl rfl) (nil_off _ _) (nil_off _ _)⟩
      clear S'
      go_wp2_with fail
      rw [← hW3]
      clear hW3
      refine (rnum15_any (some ⟨b, off, none⟩) n c f 5 _ (HA.out _ S.x) hn hf).mono ?_; rintro e w4 ⟨rfl, x4⟩
      have S' := S.ext x4
      clear x4 ck cad cct cva can coo cfr cmn c8 c9 S
      obtain ⟨ck, cad, cct, cva, can, coo, cfr, cmn, c8, c9⟩ := S'.num
      have zf := frozen15 (j := 1) S'.b
      obtain ⟨W4, hW4, S⟩ : ∃ W, W = w4.setCell ⟨G, 1, none⟩ (.int .i64 (numAt n f 5)) ∧ GueS W0 W G zeroQV { zeroQ with k := 23, ad := numAt n f 5, fr := numAt n f 1, mn := numAt n f 3 } := ⟨_, rfl, S'.set rfl (none_at _ rfl rfl) (nil_off _ _) (nil_off _ _)⟩
      clear S'
      go_wp2_with fail
      rw [← hW4]
      clear hW4
      refine (rnum15_any (some ⟨b, off, none⟩) n c f 7 _ (HA.out _ S.x) hn hf).mono ?_; rintro e w5 ⟨rfl, x5⟩
      have S' := S.ext x5
      clear x5 ck cad cct cva can coo cfr cmn c8 c9 S
      obtain ⟨ck, cad, cct, cva, can, coo, cfr, cmn, c8, c9⟩ := S'.num
      have zf := frozen15 (j := 2) S'.b
      obtain ⟨W5, hW5, S⟩ : ∃ W, W = w5.setCell ⟨G, 2, none⟩ (.int .i64 (numAt n f 7)) ∧ GueS W0 W G zeroQV { zeroQ with k := 23, ad := numAt n f 5, ct := numAt n f 7, fr := numAt n f 1, mn := numAt n f 3 } := ⟨_, rfl, S'.set rfl (none_at _ rfl rfl) (nil_off _ _) (nil_off _ _)⟩
      clear S'
      go_upto_region 27 with fail
      rw [← hW5]
      clear hW5
      by_cases h6 : 10 < n
      · have h6I : (10 : Int) < (n : Int) := by omega
        have h7I : (10 : Int) ≤ (n : Int) := by omega
        have h8I : (10 : Int) ≤ (c : Int) := by omega
        have hcI : (c : Int) ≤ 9223372036854775807 := by unfold maxLen at hcm; omega
        have hncI : (n : Int) ≤ c := by omega
        have e1 : ¬ c = 10 := by omega
        have e2 : ¬ 10 = c := by omega
        by_cases hp : (n - 10) % 2 = 0
        · obtain ⟨m, hm⟩ : ∃ m, n - 10 = 2 * m := ⟨(n - 10) / 2, by omega⟩
          have HB : Hid (behN n 10 = m) := Lib.hid (by unfold behN; rw [if_pos ⟨h6, hp⟩]; omega)
          have hdr : Holds .u8 W5 (some ⟨b, off + 10, none⟩) (2 * m) (fun i => f (10 + i)) := by
            have := (HoldsG.drop (mk := Value.int .u8) (k := 10) (HA.out _ S.x))
            rw [hm] at this
            exact this
          have KG := Lib.hid (rget_f (some ⟨b, off + 10, none⟩) m (c - 10) (fun i => f (10 + i)) W5 hdr (by omega) (fun i hi => hf _ (by omega)))
          rw [← hm] at KG
          clear hdr hp hm
          go_wp2_with fail
          refine KG.out.mono ?_; rintro e w7 ⟨x, dd, rfl, l3, m3, h3, x7, f7⟩
          have hG := heap_lt S.b
          have fx := fresh_le15 f7 (Nat.le_trans (Nat.le_refl _) S.x.size)
          have S' := S.ext x7
          clear x7 ck cad cct cva can coo cfr cmn c8 c9 S
          obtain ⟨ck, cad, cct, cva, can, coo, cfr, cmn, c8, c9⟩ := S'.num
          have zf := frozen15 (j := 9) S'.b
          obtain ⟨W7, hW7, S⟩ : ∃ W, W = w7.setCell ⟨G, 9, none⟩ (.slice x m dd) ∧ GueS W0 W G { zeroQV with a2 := x, d2 := dd } { zeroQ with k := 23, ad := numAt n f 5, ct := numAt n f 7, fr := numAt n f 1, mn := numAt n f 3, nr := m, R := getF (fun i => f (10 + i)) } := ⟨_, rfl, S'.set rfl ⟨.inl rfl, Nat.le_refl _, Nat.zero_le _, h3, l3, m3⟩ (nil_off _ _) (lt_off f7 hG)⟩
          clear S'
          have b' := S.b
          have gR' := HX.out _ S.x
          rw [hW7] at b' gR'
          have HT := Lib.hid (gue_told S He.out hz0 (Fresh.nil _) fx)
          go_wp2_with (first
            | (refine wpList_load_row rfl 31 (.tmp 3) rfl (G) rfl 31 _ (0, 0) _ b' Tryz.underlying31 rfl (by kernel_rfl) ?_)
            | (refine wpList_store_row rfl 31 (.tmp 2) (.tmp 100) rfl (w.heap.size) _ rfl rfl 31 _ gR' (by kernel_rfl) rfl (by simp [qstC, Value.oneCell']) ?_))
          rw [← hW7] at gR' ⊢
          refine bodyPost_ret (results_cell_row rfl _ _ w.heap.size 31 _ (0, 0) _ rfl (setRow_heap _ _ _ _ _ _ gR') Tryz.underlying31 rfl (by kernel_rfl)) rfl ?_
          rw [HG.out, HB.out]
          exact ⟨{ zeroQV with a2 := x, d2 := dd }, by rfl, HT.out.1 _, HT.out.2 _⟩
        · have HB : Hid (behN n 10 = 0) := Lib.hid (by unfold behN; rw [if_neg (by omega)])
          have KG := Lib.hid (rget_odd (some ⟨b, off + 10, none⟩) (n - 10) (c - 10) W5 (by omega) (by omega))
          clear hp
          go_wp2_with fail
          refine KG.out.mono ?_; rintro e w7 ⟨rfl, rfl⟩
          clear ck cad cct cva can coo cfr cmn c8 c9
          obtain ⟨ck, cad, cct, cva, can, coo, cfr, cmn, c8, c9⟩ := S.num
          have zf := frozen15 (j := 9) S.b
          obtain ⟨W7, hW7, S'⟩ : ∃ W, W = W5.setCell ⟨G, 9, none⟩ (.slice none 0 0) ∧ GueS W0 W G zeroQV { zeroQ with k := 23, ad := numAt n f 5, ct := numAt n f 7, fr := numAt n f 1, mn := numAt n f 3, nr := 0, R := getF (fun i => f (10 + i)) } := ⟨_, rfl, S.set rfl (none_at _ rfl rfl) (nil_off _ _) (nil_off _ _)⟩
          clear S
          have S := S'
          clear S'
          have b' := S.b
          have gR' := HX.out _ S.x
          rw [hW7] at b' gR'
          have HT := Lib.hid (gue_told S He.out hz0 (Fresh.nil _) (Fresh.nil _))
          go_wp2_with (first
            | (refine wpList_load_row rfl 31 (.tmp 3) rfl (G) rfl 31 _ (0, 0) _ b' Tryz.underlying31 rfl (by kernel_rfl) ?_)
            | (refine wpList_store_row rfl 31 (.tmp 2) (.tmp 100) rfl (w.heap.size) _ rfl rfl 31 _ gR' (by kernel_rfl) rfl (by simp [qstC, Value.oneCell']) ?_))
          rw [← hW7] at gR' ⊢
          refine bodyPost_ret (results_cell_row rfl _ _ w.heap.size 31 _ (0, 0) _ rfl (setRow_heap _ _ _ _ _ _ gR') Tryz.underlying31 rfl (by kernel_rfl)) rfl ?_
          rw [HG.out, HB.out]
          exact ⟨zeroQV, by rfl, HT.out.1 _, HT.out.2 _⟩
      · have h6I : ¬ (10 : Int) < (n : Int) := by omega
        have HB : Hid (behN n 10 = 0) := Lib.hid (by unfold behN; rw [if_neg (by omega)])
        have b' := S.b
        have gR' := HX.out _ S.x
        have HT := Lib.hid (gue_told S He.out hz0 (Fresh.nil _) (Fresh.nil _))
        go_wp2_with (first
          | (refine wpList_load_row rfl 31 (.tmp 3) rfl (G) rfl 31 _ (0, 0) _ b' Tryz.underlying31 rfl (by kernel_rfl) ?_)
          | (refine wpList_store_row rfl 31 (.tmp 2) (.tmp 100) rfl (w.heap.size) _ rfl rfl 31 _ gR' (by kernel_rfl) rfl (by simp [qstC, Value.oneCell']) ?_))
        refine bodyPost_ret (results_cell_row rfl _ _ w.heap.size 31 _ (0, 0) _ rfl (setRow_heap _ _ _ _ _ _ gR') Tryz.underlying31 rfl (by kernel_rfl)) rfl ?_
        rw [HG.out, HB.out]
        exact ⟨zeroQV, by rfl, none_at _ rfl rfl, HT.out.2 _⟩
end Go.Proofs.YtlafnobjfajamaaGreat
namespace Go.Proofs.YtlafnobjfajamaaGreat
open Go.RowKit
set_option linter.unusedVariables false

theorem paQ_no {n : Nat} {f : Nat → Int} {E : Int} (h : paE n f = E) (h0 : E ≠ 0) : paE n f = E ∧ paQ n f = zeroQ := ⟨h, by unfold paQ; rw [h, if_neg h0]⟩
theorem gue_small {n : Nat} {f : Nat → Int} (hn : n ≤ 100000) (hf : ∀ i, i < n → 0 ≤ f i ∧ f i < 256) : (gueQ n f).nb ≤ 1000000 ∧ (gueQ n f).nr ≤ 1000000 ∧ ∀ i, i < (gueQ n f).nr → 0 ≤ (gueQ n f).R i ∧ (gueQ n f).R i < 65536 := by
  have hb := num_bd n f 3 hf
  have hbe : ∀ d, behN n d ≤ 1000000 ∧ ∀ i, i < behN n d → 0 ≤ getF (fun j => f (d + j)) i ∧ getF (fun j => f (d + j)) i < 65536 := by
    intro d
    unfold behN getF
    split
    · refine ⟨by omega, fun i hi => ?_⟩
      have := hf (d + 2 * i) (by omega)
      have := hf (d + (2 * i + 1)) (by omega)
      dsimp only
      omega
    · exact ⟨by omega, fun i hi => absurd hi (by omega)⟩
  unfold gueQ
  repeat' split
  all_goals first
    | exact ⟨Nat.zero_le _, Nat.zero_le _, fun i hi => absurd hi (Nat.not_lt_zero i)⟩
    | exact ⟨Nat.zero_le _, (hbe _).1, (hbe _).2⟩
    | exact ⟨by dsimp only; omega, Nat.zero_le _, fun i hi => absurd hi (Nat.not_lt_zero i)⟩
theorem rprint15_any (V : QstV) (Q : Qst) (w : World) (h : QstAt w V Q) (n1 : Q.nb ≤ 1000000) (n2 : Q.nr ≤ 1000000) (hR : ∀ i, i < Q.nr → 0 ≤ Q.R i ∧ Q.R i < 65536) : Calls Tryz.prog 91 #[.agg (qstC V Q)] w (PrP Q w) := by
  cases hr : rightQ Q with
  | true => exact rprint15_yes V Q w h n1 n2 hR hr
  | false => exact rprint15_no V Q w h n1 n2 hr
theorem setRow_qst {w : World} {V : QstV} {Q : Qst} {g : Nat} {t : TypeId} {fr : Nat × Nat} (cs : Array Value) (h : QstAt w V Q) (hg : w.heap[g]? = some (.cells #[.int .i64 0, .int .i64 0, .int .i64 0, .int .i64 0, .int .i64 0, .int .i64 0, .int .i64 0, .int .i64 0, .slice none 0 0, .slice none 0 0] t fr)) : QstAt (w.setRow g cs) V Q := by
  have hb : ∀ o v, w.cell? ⟨g, o, none⟩ = some v → v = .int .i64 0 ∨ v = .slice none 0 0 := by
    intro o v hv
    have hc := cell_setRow_same w g o _ #[.int .i64 0, .int .i64 0, .int .i64 0, .int .i64 0, .int .i64 0, .int .i64 0, .int .i64 0, .int .i64 0, .slice none 0 0, .slice none 0 0] t fr hg
    rw [setRow_self _ _ _ _ _ hg, hv] at hc
    have := Array.mem_of_getElem? hc.symm
    simpa using this
  refine ⟨?_, h.l1, h.m1, ?_, h.l2, h.m2⟩
  · rcases h.h1 with h' | ⟨b, off, ha, hlt, hc⟩
    · exact .inl h'
    · by_cases hn : Q.nb = 0
      · exact .inl hn
      · have hbg : b ≠ g := by
          rintro rfl
          rcases hb (off + 0) _ (hc 0 (by omega)) with h | h <;> cases h
        exact .inr ⟨b, off, ha, by rw [setRow_size]; exact hlt, fun i hi => (cell_setRow_other _ _ _ _ hbg).trans (hc i hi)⟩
  · rcases h.h2 with h' | ⟨b, off, ha, hlt, hc⟩
    · exact .inl h'
    · by_cases hn : Q.nr = 0
      · exact .inl hn
      · have hbg : b ≠ g := by
          rintro rfl
          rcases hb (off + 0) _ (hc 0 (by omega)) with h | h <;> cases h
        exact .inr ⟨b, off, ha, by rw [setRow_size]; exact hlt, fun i hi => (cell_setRow_other _ _ _ _ hbg).trans (hc i hi)⟩
set_option maxRecDepth 100000 in
set_option maxHeartbeats 8000000 in
theorem rparse15_any (a : Option Addr) (n c : Nat) (f : Nat → Int) (w : World) (ha : Holds .u8 w a n f) (hn : n ≤ 100000) (hnc : n ≤ c) (hcm : c ≤ maxLen) (hf : ∀ i, i < n → 0 ≤ f i ∧ f i < 256) :
    Calls Tryz.prog 48 #[.slice a n c] w fun e w' => ∃ V, e = .returned (.tuple #[.agg (qstC V (paQ n f)), .int .i64 (paE n f)]) ∧ QstAt w' V (paQ n f) ∧ Ext w w' := by
  have hways := paE_ways n f
  obtain ⟨W0, hW0, HX, He⟩ : ∃ W0, W0 = w.alloc (.cells #[.int .i64 0, .int .i64 0, .int .i64 0, .int .i64 0, .int .i64 0, .int .i64 0, .int .i64 0, .int .i64 0, .slice none 0 0, .slice none 0 0] 31) ∧ Hid (∀ W, Ext W0 W → W.heap[w.heap.size]? = some (.cells #[.int .i64 0, .int .i64 0, .int .i64 0, .int .i64 0, .int .i64 0, .int .i64 0, .int .i64 0, .int .i64 0, .slice none 0 0, .slice none 0 0] 31 (0, 0))) ∧ Hid (Ext w W0) := ⟨_, rfl, Lib.hid fun W hx => hx.block (heap_alloc_new w _), Lib.hid (Ext.alloc w _)⟩
  have hz0 : w.heap.size + 1 ≤ W0.heap.size := by rw [hW0]; simp
  have hnI : (n : Int) ≤ 100000 := by omega
  have HZ := Lib.hid hz0
  by_cases h0 : n = 0
  · have hE : paE n f = 12 := by rcases hways with h | h | h | h; exact h.1; exact absurd h0 h.2.1; exact absurd h0 h.2.1; exact absurd h0 h.2.1
    have HE := Lib.hid (paQ_no hE (by decide))
    subst h0
    clear hways ha hf hE hz0
    go_enter Tryz.func48, Tryz.ntmps48
    go_upto_region 1 with fail
    rw [← hW0]
    clear hW0
    have gR := HX.out _ (Ext.refl W0)
    have xe := He.out.trans (Ext.refl W0)
    go_wp2_with (first
      | (refine wpList_store_row rfl 31 (.tmp 2) (.tmp 11) rfl (w.heap.size) _ rfl rfl 31 _ gR (by kernel_rfl) rfl (by simp [Value.oneCell']) ?_))
    refine bodyPost_ret (results_row_tmp rfl _ _ w.heap.size 31 _ (0, 0) _ rfl (setRow_heap _ _ _ _ _ _ gR) Tryz.underlying31 rfl (by kernel_rfl)) rfl ?_
    rw [HE.out.1, HE.out.2]
    exact ⟨zeroQV, by rfl, zeroQ_at _, below_setRow xe (Nat.le_refl _) _⟩
  · obtain ⟨b, off, rfl, hb, hc⟩ := id (ha.resolve_left h0)
    have HA := Lib.hid (fun W (x : Ext W0 W) => ha.ext (He.out.trans x))
    have HC := Lib.hid (fun W (x : Ext W0 W) i (hi : i < n) => (show W.cell? ⟨b, off + i, none⟩ = some (.int .u8 (f i)) from (He.out.trans x).cell hb (hc i hi)))
    have hbd := hf 0 (by omega)
    have hw0 : IntKind.i64.wrap (f 0) = f 0 := IntWalk.i64_in _ (by omega)
    have h0I : (0 : Int) < n := by omega
    have h0b : ((n : Int) == 0) = false := by simp; omega
    have HN0 := Lib.hid h0
    cases hk : knownB (f 0) with
    | false =>
      have hE : paE n f = 1 := by
        rcases hways with h | h | h | h
        · exact absurd h.2 h0
        · exact h.1
        · rw [h.2.2.1] at hk; cases hk
        · rw [h.2.2.1] at hk; cases hk
      have HE := Lib.hid (paQ_no hE (by decide))
      have HK := Lib.hid hk
      have c0 := HC.out W0 (Ext.refl _) 0 (by omega)
      rw [Nat.add_zero] at c0
      clear hways ha hf hE hz0 hk hc hb hbd h0
      go_enter Tryz.func48, Tryz.ntmps48
      go_upto_region 1 with fail
      rw [← hW0]
      clear hW0
      go_wp2_with fail
      refine (rknown15_v HK.out _).mono ?_; rintro e w1 ⟨rfl, rfl⟩
      clear c0
      have gR := HX.out _ (Ext.refl _)
      have xe := He.out.trans (Ext.refl _)
      go_wp2_with (first
        | (refine wpList_store_row rfl 31 (.tmp 2) (.tmp 18) rfl (w.heap.size) _ rfl rfl 31 _ gR (by kernel_rfl) rfl (by simp [Value.oneCell']) ?_))
      refine bodyPost_ret (results_row_tmp rfl _ _ w.heap.size 31 _ (0, 0) _ rfl (setRow_heap _ _ _ _ _ _ gR) Tryz.underlying31 rfl (by kernel_rfl)) rfl ?_
      rw [HE.out.1, HE.out.2]
      exact ⟨zeroQV, by rfl, zeroQ_at _, below_setRow xe (Nat.le_refl _) _⟩
    | true =>
      have HK := Lib.hid hk
      obtain ⟨n1, n2, hR⟩ := gue_small hn hf
      have KG := Lib.hid (fun W (x : Ext W0 W) => rguess15_any (some ⟨b, off, none⟩) n c f W (HA.out W x) (by omega) hnc hcm (by omega) hf hk)
      have hQk := gue_k n f
      have hsb := saysB_iff n f
      have hprN : prN (gueQ n f) = if rightQ (gueQ n f) = true then sayN (gueQ n f) else 0 := rfl
      have hpq : paE n f = 0 → paQ n f = gueQ n f := fun h => by unfold paQ; rw [if_pos h]
      have hpn : prN (gueQ n f) ≤ 300 := by
        unfold prN
        split
        · rename_i hr
          have := (say_size hr).2
          omega
        · omega
      have c0 := HC.out W0 (Ext.refl _) 0 (by omega)
      rw [Nat.add_zero] at c0
      generalize gueQ n f = Q at *
      have HW := Lib.hid hways
      have HSB := Lib.hid hsb
      have HPQ := Lib.hid hpq
      clear hways hsb hpq ha hz0 hk hc hb hbd h0
      cases hr : rightQ Q with
      | false =>
        have HE : Hid (paE n f = 3 ∧ paQ n f = zeroQ) := Lib.hid (by
          rcases HW.out with h | h | h | h
          · exact absurd h.2 HN0.out
          · have := HK.out; rw [h.2.2] at this; cases this
          · exact paQ_no h.1 (by decide)
          · have := (HSB.out.1 h.2.2.2).1; rw [hr] at this; cases this)
        have HR := Lib.hid hr
        go_enter Tryz.func48, Tryz.ntmps48
        go_upto_region 1 with fail
        rw [← hW0]
        clear hW0
        go_wp2_with fail
        refine (rknown15_v HK.out _).mono ?_; rintro e w1 ⟨rfl, rfl⟩
        clear c0
        go_wp2_with fail
        refine (KG.out _ (Ext.refl _)).mono ?_; rintro e w2 ⟨V, rfl, h2, x2⟩
        obtain ⟨W3, hW3, y3, b3⟩ : ∃ W, W = ((w2.alloc (.cells #[.int .i64 0, .int .i64 0, .int .i64 0, .int .i64 0, .int .i64 0, .int .i64 0, .int .i64 0, .int .i64 0, .slice none 0 0, .slice none 0 0] 31)).setRow w2.heap.size (qstC V Q)) ∧ Ext w2 W ∧ W.heap[w2.heap.size]? = some (.cells (qstC V Q) 31 (0, 0)) := ⟨_, rfl, asked_row _ _ _ _⟩
        have h3 := h2.ext y3
        have x3 := x2.trans y3
        have hlo : w1.heap.size ≤ w2.heap.size := x2.size
        clear h2 x2 y3
        have b3' := b3
        rw [hW3] at b3'
        go_wp2_with (first
          | (refine wpList_store_row rfl 31 (.tmp 4) (.tmp 20) rfl _ _ rfl rfl 31 _ (heap_new_at _ _ (by first | rfl | simp)) (by kernel_rfl) rfl (by simp [qstC, Value.oneCell']) ?_)
          | (refine wpList_load_row rfl 31 (.tmp 4) rfl (w2.heap.size) rfl 31 _ (0, 0) _ b3' Tryz.underlying31 rfl (by kernel_rfl) ?_))
        rw [← hW3]
        clear hW3 b3'
        generalize w2.heap.size = G at b3 hlo ⊢
        refine (rprint15_any V Q _ h3 n1 n2 hR).mono ?_; rintro e w4 ⟨pb, pq, rfl, pl, pm, hp, y4⟩
        have x4 := x3.trans y4
        have b4 := y4.block b3
        have h4 := h3.ext y4
        clear b3 h3 y4 x3
        rw [HR.out]
        have gR := HX.out _ (x4)
        have xe := He.out.trans (x4)
        go_wp2_with (first
          | (refine wpList_store_row rfl 31 (.tmp 2) (.tmp 35) rfl (w.heap.size) _ rfl rfl 31 _ gR (by kernel_rfl) rfl (by simp [Value.oneCell']) ?_))
        refine bodyPost_ret (results_row_tmp rfl _ _ w.heap.size 31 _ (0, 0) _ rfl (setRow_heap _ _ _ _ _ _ gR) Tryz.underlying31 rfl (by kernel_rfl)) rfl ?_
        rw [HE.out.1, HE.out.2]
        exact ⟨zeroQV, by rfl, zeroQ_at _, below_setRow xe (Nat.le_refl _) _⟩
      | true =>
        rw [hr, if_pos rfl] at hprN
        by_cases hsn : sayN Q = n
        · have hpn' : prN Q = n := by rw [hprN]; exact hsn
          have HR := Lib.hid hr
          have HQK := Lib.hid hQk
          have hnn : ((n : Int) != (n : Int)) = false := by simp
          have HSN := Lib.hid hsn
          clear hsn hprN hpn hQk hr
          go_enter Tryz.func48, Tryz.ntmps48
          go_upto_region 1 with fail
          rw [← hW0]
          clear hW0
          go_wp2_with fail
          refine (rknown15_v HK.out _).mono ?_; rintro e w1 ⟨rfl, rfl⟩
          clear c0
          go_wp2_with fail
          refine (KG.out _ (Ext.refl _)).mono ?_; rintro e w2 ⟨V, rfl, h2, x2⟩
          obtain ⟨W3, hW3, y3, b3⟩ : ∃ W, W = ((w2.alloc (.cells #[.int .i64 0, .int .i64 0, .int .i64 0, .int .i64 0, .int .i64 0, .int .i64 0, .int .i64 0, .int .i64 0, .slice none 0 0, .slice none 0 0] 31)).setRow w2.heap.size (qstC V Q)) ∧ Ext w2 W ∧ W.heap[w2.heap.size]? = some (.cells (qstC V Q) 31 (0, 0)) := ⟨_, rfl, asked_row _ _ _ _⟩
          have h3 := h2.ext y3
          have x3 := x2.trans y3
          have hlo : w1.heap.size ≤ w2.heap.size := x2.size
          clear h2 x2 y3
          have b3' := b3
          rw [hW3] at b3'
          go_wp2_with (first
            | (refine wpList_store_row rfl 31 (.tmp 4) (.tmp 20) rfl _ _ rfl rfl 31 _ (heap_new_at _ _ (by first | rfl | simp)) (by kernel_rfl) rfl (by simp [qstC, Value.oneCell']) ?_)
            | (refine wpList_load_row rfl 31 (.tmp 4) rfl (w2.heap.size) rfl 31 _ (0, 0) _ b3' Tryz.underlying31 rfl (by kernel_rfl) ?_))
          rw [← hW3]
          clear hW3 b3'
          generalize w2.heap.size = G at b3 hlo ⊢
          refine (rprint15_any V Q _ h3 n1 n2 hR).mono ?_; rintro e w4 ⟨pb, pq, rfl, pl, pm, hp, y4⟩
          rw [hpn'] at pl hp
          rw [hpn', HR.out]
          clear hpn'
          have x4 := x3.trans y4
          have b4 := y4.block b3
          have h4 := h3.ext y4
          clear b3 h3 y4 x3
          obtain ⟨p', o', rfl, hp', hc'⟩ := hp.resolve_left HN0.out
          have HP := Lib.hid hc'
          have HF := Lib.hid (HC.out w4 x4)
          have gR := HX.out _ x4
          have cK : w4.cell? ⟨G, 0, none⟩ = some (.int .i64 Q.k) := cell_of_heap b4 rfl
          have xe := He.out.trans x4
          have H4 := Lib.hid h4
          have HB4 := Lib.hid b4
          have HGR := Lib.hid gR
          have HXE := Lib.hid xe
          clear hp hc' b4 h4 gR xe
          go_wp2_with fail
          go_loopw [7] (fun i wr => ∃ j : Nat, j ≤ n ∧ i = .int .i64 j ∧ (∀ t, t < j → sayF Q t = f t ∨ (f 0 = 15 ∧ t + 1 = n)) ∧ ∃ q, wr = w4.drewN q) (fun i _ => n - (intOf i).toNat)
          case atStart => exact ⟨0, Nat.zero_le _, rfl, fun t ht => absurd ht (by omega), 0, rfl⟩
          case round =>
            obtain ⟨j, hj, rfl, hall0, q, rfl⟩ := hrel
            have hall := Lib.hid hall0
            clear hall0
            by_cases hlt : j < n
            · have c1 := HP.out j hlt
              have c2 := HF.out j hlt
              by_cases hfg : sayF Q j = f j
              · have hfe := Lib.hid hfg
                have hff : (sayF Q j != f j) = false := by simp [hfg]
                clear hfg
                go_wp2
                go_quiet (fail)
                go_wp2
                go_roundw
                case rel => exact ⟨j + 1, by omega, by go_num, fun t ht => by rcases Nat.lt_or_ge t j with h | h; exact hall.out t h; obtain rfl : t = j := by omega
                                                                              exact .inl hfe.out, q + _, rfl⟩
                case measure => simp [intOf]; omega
              · have hff : (sayF Q j != f j) = true := by simp [hfg]
                have HFG := Lib.hid hfg
                clear hfg
                by_cases h15 : Q.k = 15
                · have hkk : (Q.k != 15) = false := by simp [h15]
                  have H15 := Lib.hid (HQK.out.symm.trans h15)
                  clear h15
                  by_cases hl : j + 1 = n
                  · have hld : decide ((j : Int) < (n : Int) - 1) = false := by simp; omega
                    have HL := Lib.hid hl
                    go_wp2
                    go_quiet (fail)
                    go_wp2
                    go_roundw
                    case rel => exact ⟨j + 1, by omega, by go_num, fun t ht => by rcases Nat.lt_or_ge t j with h | h; exact hall.out t h; obtain rfl : t = j := by omega
                                                                                  exact .inr ⟨H15.out, HL.out⟩, q + _, rfl⟩
                    case measure => simp [intOf]; omega
                  · have hld : decide ((j : Int) < (n : Int) - 1) = true := by simp; omega
                    have HE : Hid (paE n f = 3 ∧ paQ n f = zeroQ) := Lib.hid (by
                      rcases HW.out with h | h | h | h
                      · exact absurd h.2 HN0.out
                      · have := HK.out; rw [h.2.2] at this; cases this
                      · exact paQ_no h.1 (by decide)
                      · rcases (HSB.out.1 h.2.2.2).2.2 j hlt with h | h
                        · exact absurd h HFG.out
                        · exact absurd h.2 hl)
                    have HL := Lib.hid hl
                    clear hl
                    go_wp2
                    go_quiet (fail)
                    go_wp2_with (first
                      | (refine wpList_store_row rfl 31 (.tmp 2) (.tmp 63) rfl (w.heap.size) _ rfl rfl 31 _ HGR.out (by kernel_rfl) rfl (by simp [Value.oneCell']) ?_))
                    refine bodyPost_ret (results_row_tmp rfl _ _ w.heap.size 31 _ (0, 0) _ rfl (setRow_heap _ _ _ _ _ _ HGR.out) Tryz.underlying31 rfl (by kernel_rfl)) rfl ?_
                    rw [HE.out.1, HE.out.2]
                    exact ⟨zeroQV, by rfl, zeroQ_at _, below_setRow (HXE.out.trans (Ext.of_drewN ⟨_, rfl⟩)) (Nat.le_refl _) _⟩
                · have hkk : (Q.k != 15) = true := by simp [h15]
                  have HE : Hid (paE n f = 3 ∧ paQ n f = zeroQ) := Lib.hid (by
                    rcases HW.out with h | h | h | h
                    · exact absurd h.2 HN0.out
                    · have := HK.out; rw [h.2.2] at this; cases this
                    · exact paQ_no h.1 (by decide)
                    · rcases (HSB.out.1 h.2.2.2).2.2 j hlt with h | h
                      · exact absurd h HFG.out
                      · exact absurd (HQK.out.trans h.1) h15)
                  have H15 := Lib.hid h15
                  clear h15
                  go_wp2
                  go_quiet (fail)
                  go_wp2_with (first
                    | (refine wpList_store_row rfl 31 (.tmp 2) (.tmp 63) rfl (w.heap.size) _ rfl rfl 31 _ HGR.out (by kernel_rfl) rfl (by simp [Value.oneCell']) ?_))
                  refine bodyPost_ret (results_row_tmp rfl _ _ w.heap.size 31 _ (0, 0) _ rfl (setRow_heap _ _ _ _ _ _ HGR.out) Tryz.underlying31 rfl (by kernel_rfl)) rfl ?_
                  rw [HE.out.1, HE.out.2]
                  exact ⟨zeroQV, by rfl, zeroQ_at _, below_setRow (HXE.out.trans (Ext.of_drewN ⟨_, rfl⟩)) (Nat.le_refl _) _⟩
            · have HE : Hid (paE n f = 0 ∧ paQ n f = Q) := Lib.hid (by
                have hs := HSB.out.2 ⟨HR.out, HSN.out, fun i hi => hall.out i (by omega)⟩
                rcases HW.out with h | h | h | h
                · exact absurd h.2 HN0.out
                · have := HK.out; rw [h.2.2] at this; cases this
                · have := h.2.2.2; rw [hs] at this; cases this
                · exact ⟨h.1, HPQ.out h.1⟩)
              go_wp2_with (first
                | (refine wpList_load_row rfl 31 (.tmp 4) rfl G rfl 31 _ (0, 0) _ HB4.out Tryz.underlying31 rfl (by kernel_rfl) ?_)
                | (refine wpList_store_row rfl 31 (.tmp 2) (.tmp 64) rfl (w.heap.size) _ rfl rfl 31 _ HGR.out (by kernel_rfl) rfl (by simp [qstC, Value.oneCell']) ?_))
              refine bodyPost_ret (results_row_tmp rfl _ _ w.heap.size 31 _ (0, 0) _ rfl (setRow_heap _ _ _ _ _ _ HGR.out) Tryz.underlying31 rfl (by kernel_rfl)) rfl ?_
              rw [HE.out.1, HE.out.2]
              exact ⟨V, by rfl, setRow_qst _ (H4.out.ext (Ext.of_drewN ⟨_, rfl⟩)) HGR.out, below_setRow (HXE.out.trans (Ext.of_drewN ⟨_, rfl⟩)) (Nat.le_refl _) _⟩
        · have HE : Hid (paE n f = 3 ∧ paQ n f = zeroQ) := Lib.hid (by
            rcases HW.out with h | h | h | h
            · exact absurd h.2 HN0.out
            · have := HK.out; rw [h.2.2] at this; cases this
            · exact paQ_no h.1 (by decide)
            · exact absurd (HSB.out.1 h.2.2.2).2.1 hsn)
          have HR := Lib.hid hr
          have hne : ((prN Q : Int) != (n : Int)) = true := by rw [hprN]; simp; omega
          have hpnI : (prN Q : Int) ≤ 300 := by omega
          clear hsn hprN
          go_enter Tryz.func48, Tryz.ntmps48
          go_upto_region 1 with fail
          rw [← hW0]
          clear hW0
          go_wp2_with fail
          refine (rknown15_v HK.out _).mono ?_; rintro e w1 ⟨rfl, rfl⟩
          clear c0
          go_wp2_with fail
          refine (KG.out _ (Ext.refl _)).mono ?_; rintro e w2 ⟨V, rfl, h2, x2⟩
          obtain ⟨W3, hW3, y3, b3⟩ : ∃ W, W = ((w2.alloc (.cells #[.int .i64 0, .int .i64 0, .int .i64 0, .int .i64 0, .int .i64 0, .int .i64 0, .int .i64 0, .int .i64 0, .slice none 0 0, .slice none 0 0] 31)).setRow w2.heap.size (qstC V Q)) ∧ Ext w2 W ∧ W.heap[w2.heap.size]? = some (.cells (qstC V Q) 31 (0, 0)) := ⟨_, rfl, asked_row _ _ _ _⟩
          have h3 := h2.ext y3
          have x3 := x2.trans y3
          have hlo : w1.heap.size ≤ w2.heap.size := x2.size
          clear h2 x2 y3
          have b3' := b3
          rw [hW3] at b3'
          go_wp2_with (first
            | (refine wpList_store_row rfl 31 (.tmp 4) (.tmp 20) rfl _ _ rfl rfl 31 _ (heap_new_at _ _ (by first | rfl | simp)) (by kernel_rfl) rfl (by simp [qstC, Value.oneCell']) ?_)
            | (refine wpList_load_row rfl 31 (.tmp 4) rfl (w2.heap.size) rfl 31 _ (0, 0) _ b3' Tryz.underlying31 rfl (by kernel_rfl) ?_))
          rw [← hW3]
          clear hW3 b3'
          generalize w2.heap.size = G at b3 hlo ⊢
          refine (rprint15_any V Q _ h3 n1 n2 hR).mono ?_; rintro e w4 ⟨pb, pq, rfl, pl, pm, hp, y4⟩
          have x4 := x3.trans y4
          have b4 := y4.block b3
          have h4 := h3.ext y4
          clear b3 h3 y4 x3
          rw [HR.out]
          have gR := HX.out _ (x4)
          have xe := He.out.trans (x4)
          go_wp2_with (first
            | (refine wpList_store_row rfl 31 (.tmp 2) (.tmp 35) rfl (w.heap.size) _ rfl rfl 31 _ gR (by kernel_rfl) rfl (by simp [Value.oneCell']) ?_))
          refine bodyPost_ret (results_row_tmp rfl _ _ w.heap.size 31 _ (0, 0) _ rfl (setRow_heap _ _ _ _ _ _ gR) Tryz.underlying31 rfl (by kernel_rfl)) rfl ?_
          rw [HE.out.1, HE.out.2]
          exact ⟨zeroQV, by rfl, zeroQ_at _, below_setRow xe (Nat.le_refl _) _⟩
end Go.Proofs.YtlafnobjfajamaaGreat
namespace Go.Proofs.YtlafnobjfajamaaGreat
open Go.RowKit
set_option linter.unusedVariables false
set_option maxRecDepth 100000

def jobC (U : QstV) (Q : Qst) (V : FilV) (F : Fil) (X : QstV) (T : Tel) : Array Value := #[.int .i64 Q.k, .int .i64 Q.ad, .int .i64 Q.ct, .int .i64 Q.va, .int .i64 Q.an, .int .i64 Q.oo, .int .i64 Q.fr, .int .i64 Q.mn, .slice U.a1 Q.nb U.d1, .slice U.a2 Q.nr U.d2, .int .i64 F.cf, .int .i64 F.cc, .int .i64 F.jf, .int .i64 F.jc, .int .i64 F.hf, .int .i64 F.hc, .int .i64 F.rf, .int .i64 F.rc, .int .i64 F.bf, .int .i64 F.bc, .slice V.a1 F.nC V.d1, .slice V.a2 F.nI V.d2, .slice V.a3 F.nH V.d3, .slice V.a4 F.nR V.d4, .int .i64 T.k, .int .i64 T.cd, .int .i64 T.ad, .int .i64 T.ct, .int .i64 T.va, .int .i64 T.an, .int .i64 T.oo, .slice X.a1 T.nb X.d1, .slice X.a2 T.nr X.d2]
theorem plain_job (U : QstV) (Q : Qst) (V : FilV) (F : Fil) (X : QstV) (T : Tel) : PlainC (jobC U Q V F X T) := ⟨fun b h => by simp [jobC] at h, fun b h => by simp [jobC] at h⟩
/-- Cells of a row written over, one by one. -/
def putL (cs : Array Value) : Nat → List Value → Array Value
  | _, [] => cs
  | o, v :: r => putL (cs.setIfInBounds o v) (o + 1) r
theorem heap_setCells (g : Nat) (t : TypeId) : ∀ (vs : List Value) (o : Nat) (w : World) (cs : Array Value), w.heap[g]? = some (.cells cs t (0, 0)) → (w.setCells g o vs).heap[g]? = some (.cells (putL cs o vs) t (0, 0))
  | [], _, _, _, h => h
  | v :: r, o, w, cs, h => heap_setCells g t r (o + 1) _ _ (heap_setCell_same w g o cs t v h)
theorem heap_setCells_other (g k : Nat) (hk : k ≠ g) : ∀ (vs : List Value) (o : Nat) (w : World), (w.setCells g o vs).heap[k]? = w.heap[k]?
  | [], _, _ => rfl
  | v :: r, o, w => (heap_setCells_other g k hk r (o + 1) _).trans (heap_setCell_other w ⟨g, o, none⟩ k v hk)
theorem keep_setCells (g : Nat) : ∀ (vs : List Value) (o : Nat) (w : World), Keep (fun i => i = g) w (w.setCells g o vs)
  | [], _, w => Keep.refl _ w
  | v :: r, o, w => (keepCell w g o v).trans (keep_setCells g r (o + 1) _) (fun _ h => .inl h)
theorem put_told (U : QstV) (Q : Qst) (V : FilV) (F : Fil) (X : QstV) (T : Tel) (X' : QstV) (T' : Tel) : putL (jobC U Q V F X T) 24 (telC X' T').toList = jobC U Q V F X' T' := by simp only [putL, jobC, telC, List.setIfInBounds_toArray, List.set_cons_succ, List.set_cons_zero]
theorem put_now (U : QstV) (Q : Qst) (V : FilV) (F : Fil) (X : QstV) (T : Tel) (V' : FilV) (F' : Fil) : putL (jobC U Q V F X T) 10 (filC V' F').toList = jobC U Q V' F' X T := by simp only [putL, jobC, filC, List.setIfInBounds_toArray, List.set_cons_succ, List.set_cons_zero]
theorem there_of {w : World} {g o n : Nat} {cs : Array Value} {t : TypeId} (h : w.heap[g]? = some (.cells cs t (0, 0))) (hs : o + n ≤ cs.size) : w.there g o n := fun j hj =>
  ⟨by rw [cell_of_row _ _ _ _ _ _ h, Array.getElem?_eq_getElem (by omega)]; rfl, frozen0 h⟩
section
variable {w : World} {g : Nat} {U : QstV} {Q : Qst} {V : FilV} {F : Fil} {X : QstV} {T : Tel} {t : TypeId}
theorem job_now (h : w.heap[g]? = some (.cells (jobC U Q V F X T) t (0, 0))) : w.rangeAt g 10 (filC V F).toList := fun j v hv => by
  rw [cell_of_row _ _ _ _ _ _ h, ← hv]
  have hj : j < 14 := (List.getElem?_eq_some_iff.1 hv).1
  rcases (show j = 0 ∨ j = 1 ∨ j = 2 ∨ j = 3 ∨ j = 4 ∨ j = 5 ∨ j = 6 ∨ j = 7 ∨ j = 8 ∨ j = 9 ∨ j = 10 ∨ j = 11 ∨ j = 12 ∨ j = 13 by omega) with rfl | rfl | rfl | rfl | rfl | rfl | rfl | rfl | rfl | rfl | rfl | rfl | rfl | rfl <;> rfl
theorem job_told (h : w.heap[g]? = some (.cells (jobC U Q V F X T) t (0, 0))) : w.rangeAt g 24 (telC X T).toList := fun j v hv => by
  rw [cell_of_row _ _ _ _ _ _ h, ← hv]
  have hj : j < 9 := (List.getElem?_eq_some_iff.1 hv).1
  rcases (show j = 0 ∨ j = 1 ∨ j = 2 ∨ j = 3 ∨ j = 4 ∨ j = 5 ∨ j = 6 ∨ j = 7 ∨ j = 8 by omega) with rfl | rfl | rfl | rfl | rfl | rfl | rfl | rfl | rfl <;> rfl
end
/-- A job in its box, and all that it holds. -/
structure JobAt (w : World) (g : Nat) (U : QstV) (Q : Qst) (V : FilV) (F : Fil) (X : QstV) (T : Tel) : Prop where
  row : w.heap[g]? = some (.cells (jobC U Q V F X T) 65 (0, 0))
  q : QstAt w U Q
  f : FilAt w V F
  t : TelAt w X T
theorem held_plain {α : Type} {mk : α → Value} {w w' : World} {g : Nat} {cs : Array Value} {t : TypeId} {x : Option Addr} {m : Nat} {B : Nat → α} (hg : w.heap[g]? = some (.cells cs t (0, 0))) (hn : ∀ u, mk u ∉ cs) (k : Keep (fun i => i = g) w w') (h : HoldsG mk w x m B) : HoldsG mk w' x m B := by
  by_cases hm : m = 0
  · exact .inl hm
  · obtain ⟨b, off, ha, hlt, hc⟩ := h.resolve_left hm
    refine h.keep k (fun p hp e => ?_)
    rw [ha] at hp; cases hp
    have e : b = g := e
    subst e
    have h0 := hc 0 (by omega)
    rw [cell_of_row _ _ _ _ _ _ hg] at h0
    exact hn _ (Array.mem_of_getElem? h0)
section
variable {w w' : World} {g : Nat} {cs : Array Value} {t : TypeId}
theorem FilAt.plain {V : FilV} {F : Fil} (h : FilAt w V F) (hg : w.heap[g]? = some (.cells cs t (0, 0))) (hp : PlainC cs) (k : Keep (fun i => i = g) w w') : FilAt w' V F :=
  ⟨held_plain hg hp.1 k h.h1, h.l1, h.m1, held_plain hg hp.1 k h.h2, h.l2, h.m2, held_plain hg hp.2 k h.h3, h.l3, h.m3, held_plain hg hp.2 k h.h4, h.l4, h.m4⟩
theorem QstAt.plain {V : QstV} {Q : Qst} (h : QstAt w V Q) (hg : w.heap[g]? = some (.cells cs t (0, 0))) (hp : PlainC cs) (k : Keep (fun i => i = g) w w') : QstAt w' V Q :=
  ⟨held_plain hg hp.1 k h.h1, h.l1, h.m1, held_plain hg hp.2 k h.h2, h.l2, h.m2⟩
theorem TelAt.plain {V : QstV} {T : Tel} (h : TelAt w V T) (hg : w.heap[g]? = some (.cells cs t (0, 0))) (hp : PlainC cs) (k : Keep (fun i => i = g) w w') : TelAt w' V T :=
  ⟨held_plain hg hp.1 k h.h1, h.l1, h.m1, held_plain hg hp.2 k h.h2, h.l2, h.m2⟩
end
section
variable {w w' : World} {g : Nat} {U : QstV} {Q : Qst} {V V' : FilV} {F F' : Fil} {X X' : QstV} {T T' : Tel}
theorem JobAt.ext (h : JobAt w g U Q V F X T) (x : Ext w w') : JobAt w' g U Q V F X T := ⟨x.block h.row, h.q.ext x, h.f.ext x, h.t.ext x⟩
theorem JobAt.lt (h : JobAt w g U Q V F X T) : g < w.heap.size := heap_lt h.row
/-- What is told, written over. -/
theorem JobAt.tell (h : JobAt w g U Q V F X T) (t : TelAt w X' T') : JobAt (w.setCells g 24 (telC X' T').toList) g U Q V F X' T' :=
  have k := keep_setCells g (telC X' T').toList 24 w
  have p := plain_job U Q V F X T
  ⟨by rw [← put_told U Q V F X T X' T']; exact heap_setCells g _ _ _ _ _ h.row, h.q.plain h.row p k, h.f.plain h.row p k, t.plain h.row p k⟩
/-- The tables, written over. -/
theorem JobAt.put (h : JobAt w g U Q V F X T) (f : FilAt w V' F') : JobAt (w.setCells g 10 (filC V' F').toList) g U Q V' F' X T :=
  have k := keep_setCells g (filC V' F').toList 10 w
  have p := plain_job U Q V F X T
  ⟨by rw [← put_now U Q V F X T V' F']; exact heap_setCells g _ _ _ _ _ h.row, h.q.plain h.row p k, f.plain h.row p k, h.t.plain h.row p k⟩
end
/-- What a function of a job tells: the exception; without one the job is as it is then. -/
def JobP (g : Nat) (U : QstV) (Q : Qst) (E : Int) (F : Fil) (T : Tel) (w : World) (e : Ending) (w' : World) : Prop :=
  e = .returned (.int .i64 E) ∧ Keep (fun i => i = g) w w' ∧ (E = 0 → ∃ V X, JobAt w' g U Q V F X T)
section
variable {P : Program} {ops : Array Oper} {rest : List Oper} {o : Oper} {a : Act} {w : World} {Q : Exit → Act → World → Prop} {K : Act → World → Prop} {E : Prop}
theorem wpList_load_arr (hgd : o.guard = none) (ty : TypeId) (x : Operand) (ho : o.op = .load ty x) (b off : Nat) (hx : a.eval x = .pointer (some ⟨b, off, none⟩)) (cs : Array Value) (d : TypeDesc) (hc : w.rangeAt b off cs.toList)
    (hu : P.underlying ty = some d) (hd : d.isRow = true) (hi : (P.info? ty).map (·.size) = some cs.size) (h : wpList P ops Q rest (a.put o.dst (.agg cs)) w) : wpList P ops Q (o :: rest) a w :=
  wpList_load_mid hgd ty x ho b off hx cs.toList d hc hu hd (by rw [hi]; simp) (by simpa using h)
theorem wpList_store_arr (hgd : o.guard = none) (ty : TypeId) (x y : Operand) (ho : o.op = .store ty x y) (b off : Nat) (cs : Array Value) (hx : a.eval x = .pointer (some ⟨b, off, none⟩)) (hy : a.eval y = .agg cs)
    (ht : w.there b off cs.size) (hi : (P.info? ty).map (·.size) = some cs.size) (h1 : cs.all (·.oneCell') = true) (h : wpList P ops Q rest (a.put o.dst undef) (w.setCells b off cs.toList)) : wpList P ops Q (o :: rest) a w :=
  wpList_store_mid hgd ty x y ho b off cs hx hy ht hi h1 h
theorem step_load_arr (hgd : o.guard = none) (ty : TypeId) (x : Operand) (ho : o.op = .load ty x) (b off : Nat) (hx : a.eval x = .pointer (some ⟨b, off, none⟩)) (cs : Array Value) (d : TypeDesc) (hc : w.rangeAt b off cs.toList)
    (hu : P.underlying ty = some d) (hd : d.isRow = true) (hi : (P.info? ty).map (·.size) = some cs.size) (dd : Tmp) (hdd : o.dst = some dd) (h : K (a.put (some dd) (.agg cs)) w) : if Region.wanted o (yielded ops a.tmps) = true then Oper.wp P o a w K Q else E := by
  rw [if_pos (by simp [Region.wanted, hgd])]
  exact wp_load_mid ty x ho b off hx cs.toList d hc hu hd (by rw [hi]; simp) (by rw [hdd]; simpa using h)
theorem step_store_arr (hgd : o.guard = none) (ty : TypeId) (x y : Operand) (ho : o.op = .store ty x y) (b off : Nat) (cs : Array Value) (hx : a.eval x = .pointer (some ⟨b, off, none⟩)) (hy : a.eval y = .agg cs)
    (ht : w.there b off cs.size) (hi : (P.info? ty).map (·.size) = some cs.size) (h1 : cs.all (·.oneCell') = true) (hdd : o.dst = none) (h : K (a.put none undef) (w.setCells b off cs.toList)) : if Region.wanted o (yielded ops a.tmps) = true then Oper.wp P o a w K Q else E := by
  rw [if_pos (by simp [Region.wanted, hgd])]
  exact wp_store_mid ty x y ho b off cs hx hy ht hi h1 (by rw [hdd]; exact h)
end
/-- What every world of a job's region has. -/
structure InJob (w : World) (g : Nat) (U : QstV) (Q : Qst) (W : World) : Prop where
  k : Keep (fun i => i = g) w W
  j : ∃ V F X T, JobAt W g U Q V F X T
theorem InJob.c {w W : World} {g : Nat} {U : QstV} {Q : Qst} (h : InJob w g U Q W) : (W.cell? ⟨g, 0, none⟩ = some (.int .i64 Q.k) ∧ W.cell? ⟨g, 1, none⟩ = some (.int .i64 Q.ad) ∧ W.cell? ⟨g, 2, none⟩ = some (.int .i64 Q.ct) ∧ W.cell? ⟨g, 3, none⟩ = some (.int .i64 Q.va)) ∧ W.cell? ⟨g, 4, none⟩ = some (.int .i64 Q.an) ∧ W.cell? ⟨g, 5, none⟩ = some (.int .i64 Q.oo) ∧ W.cell? ⟨g, 6, none⟩ = some (.int .i64 Q.fr) ∧ W.cell? ⟨g, 7, none⟩ = some (.int .i64 Q.mn) := by
  obtain ⟨V, F, X, T, h⟩ := h.j
  exact ⟨⟨cell_of_heap h.row rfl, cell_of_heap h.row rfl, cell_of_heap h.row rfl, cell_of_heap h.row rfl⟩, cell_of_heap h.row rfl, cell_of_heap h.row rfl, cell_of_heap h.row rfl, cell_of_heap h.row rfl⟩
section
variable {w w' : World} {g : Nat} {U : QstV} {Q : Qst} {V V' : FilV} {F F' : Fil} {X X' : QstV} {T T' : Tel}
theorem JobAt.c (h : JobAt w g U Q V F X T) : (w.cell? ⟨g, 0, none⟩ = some (.int .i64 Q.k) ∧ w.cell? ⟨g, 1, none⟩ = some (.int .i64 Q.ad) ∧ w.cell? ⟨g, 2, none⟩ = some (.int .i64 Q.ct) ∧ w.cell? ⟨g, 3, none⟩ = some (.int .i64 Q.va)) ∧ w.cell? ⟨g, 4, none⟩ = some (.int .i64 Q.an) ∧ w.cell? ⟨g, 5, none⟩ = some (.int .i64 Q.oo) ∧ w.cell? ⟨g, 6, none⟩ = some (.int .i64 Q.fr) ∧ w.cell? ⟨g, 7, none⟩ = some (.int .i64 Q.mn) := InJob.c ⟨Keep.refl _ _, _, _, _, _, h⟩
theorem JobAt.c8 (h : JobAt w g U Q V F X T) : w.cell? ⟨g, 8, none⟩ = some (.slice U.a1 Q.nb U.d1) ∧ w.cell? ⟨g, 9, none⟩ = some (.slice U.a2 Q.nr U.d2) := ⟨cell_of_heap h.row rfl, cell_of_heap h.row rfl⟩
theorem JobAt.there_told (h : JobAt w g U Q V F X T) : w.there g 24 (telC X' T').size := there_of h.row (Nat.le_of_ble_eq_true rfl)
theorem JobAt.there_now (h : JobAt w g U Q V F X T) : w.there g 10 (filC V' F').size := there_of h.row (Nat.le_of_ble_eq_true rfl)
end
theorem keep_same {g : Nat} {a b c : World} (h : Keep (fun i => i = g) a b) (k : Keep (fun i => i = g) b c) : Keep (fun i => i = g) a c := h.trans k fun _ e => .inl e
end Go.Proofs.YtlafnobjfajamaaGreat
