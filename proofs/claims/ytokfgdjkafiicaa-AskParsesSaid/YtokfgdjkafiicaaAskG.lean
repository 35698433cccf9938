/-
  CONTRACTS: bilgeref15 (layer 15): the ask that bytes say.
-/
import Derived.Test.YtokfgdjkafiicaaAsk
import Derived.Test.YtokfgdjkafiicaaAskM
import Derived.Test.YtokfgdjkafiicaaAskF
import Derived.Test.YtokfgdjkafiicaaStructs
import Derived.Laws.CopyOwn
import Derived.Laws.Rows
import Derived.Test.YtokfgdjkafiicaaStepStore
import Derived.Deep.DeepCutAuto
namespace Go.Proofs.Ytokfgdjkafiicaa
open Go.RowKit
set_option linter.unusedVariables false

set_option maxHeartbeats 1000000 in
theorem rnum15_any (a : Option Addr) (n c : Nat) (f : Nat → Int) (i : Nat) (w : World) (ha : Holds .u8 w a n f) (hn : n ≤ 1000000) (hf : ∀ i, i < n → 0 ≤ f i ∧ f i < 256) :
    Calls Try.prog 57 #[.slice a n c, .int .i64 (i : Int)] w fun e w' => e = .returned (.int .i64 (numAt n f i)) ∧ Ext w w' := by
  by_cases hi : i + 1 < n
  · have K := Lib.hid ((rat_some a n c i f w ha hn hi hf).mono fun _ _ h => (⟨h.1, Ext.of_drewN h.2⟩ : _ ∧ Ext w _))
    rw [show numAt n f i = f i * 256 + f (i + 1) from by unfold numAt; rw [if_pos hi]]
    have h0 := hf i (by omega)
    have h1 := hf (i + 1) hi
    have hv : 0 ≤ f i * 256 + f (i + 1) ∧ f i * 256 + f (i + 1) < 65536 := by omega
    generalize f i * 256 + f (i + 1) = v at K hv ⊢
    have hwv : IntKind.i64.wrap v = v := IntWalk.i64_in _ (by omega)
    clear ha hn hf hi h0 h1 hv
    go_enter Try.func57, Try.ntmps57
    go_wp2_with fail
    refine K.out.mono ?_; rintro e w1 ⟨rfl, x1⟩
    go_wp2
    go_ret
    exact ⟨rfl, x1⟩
  · have K := Lib.hid (rat_none a n c i w hn (.inr (by omega)))
    rw [show numAt n f i = 0 from by unfold numAt; rw [if_neg hi]]
    clear ha hn hf hi
    go_enter Try.func57, Try.ntmps57
    go_wp2_with fail
    refine K.out.mono ?_; rintro e w1 ⟨rfl, rfl⟩
    go_wp2
    go_ret
    exact ⟨rfl, Ext.refl _⟩
/-- A loop's ask: in its box, which is the call's own. -/
structure GueS (w wr : World) (g : Nat) (V : QstV) (Q : Qst) : Prop where
  x : Ext w wr
  lo : w.heap.size ≤ g
  b : wr.heap[g]? = some (.cells (qstC V Q) 25 (0, 0))
  h : QstAt wr V Q
  o1 : OffN (fun i => i = g) V.a1 Q.nb
  o2 : OffN (fun i => i = g) V.a2 Q.nr
theorem GueS.ext {w wr wr' : World} {g : Nat} {V : QstV} {Q : Qst} (h : GueS w wr g V Q) (x : Ext wr wr') : GueS w wr' g V Q := ⟨h.x.trans x, h.lo, x.block h.b, h.h.ext x, h.o1, h.o2⟩
theorem HoldsG.keepO {α : Type} {mk : α → Value} {Φ : Nat → Prop} {w w' : World} {a : Option Addr} {n : Nat} {f : Nat → α} (h : HoldsG mk w a n f) (x : Keep Φ w w') (ho : OffN Φ a n) : HoldsG mk w' a n f := by
  rcases ho with e | e
  · exact .inl e
  · exact h.keep x e
theorem keepCell15 (w : World) (g o : Nat) (v : Value) : Keep (fun i => i = g) w (w.setCell ⟨g, o, none⟩ v) := ⟨rfl, rfl, rfl, by simp, fun k _ hn => Below.heap_setCell w ⟨g, o, none⟩ v k hn⟩
theorem GueS.set {w wr : World} {g j : Nat} {V V' : QstV} {Q Q' : Qst} {v : Value} (h : GueS w wr g V Q) (hc : (qstC V Q).setIfInBounds j v = qstC V' Q') (hh : QstAt wr V' Q') (o1 : OffN (fun i => i = g) V'.a1 Q'.nb) (o2 : OffN (fun i => i = g) V'.a2 Q'.nr) : GueS w (wr.setCell ⟨g, j, none⟩ v) g V' Q' :=
  ⟨Below.setCell h.x h.lo _, h.lo, by rw [← hc]; exact heap_setCell_same _ _ j _ _ v h.b, ⟨hh.h1.keepO (keepCell15 wr g j v) o1, hh.l1, hh.m1, hh.h2.keepO (keepCell15 wr g j v) o2, hh.l2, hh.m2⟩, o1, o2⟩
theorem GueS.num {w wr : World} {g : Nat} {V : QstV} {Q : Qst} (h : GueS w wr g V Q) : wr.cell? ⟨g, 0, none⟩ = some (.int .i64 Q.k) ∧ wr.cell? ⟨g, 1, none⟩ = some (.int .i64 Q.ad) ∧ wr.cell? ⟨g, 2, none⟩ = some (.int .i64 Q.ct) ∧ wr.cell? ⟨g, 3, none⟩ = some (.int .i64 Q.va) ∧ wr.cell? ⟨g, 4, none⟩ = some (.int .i64 Q.an) ∧ wr.cell? ⟨g, 5, none⟩ = some (.int .i64 Q.oo) ∧ wr.cell? ⟨g, 6, none⟩ = some (.int .i64 Q.fr) ∧ wr.cell? ⟨g, 7, none⟩ = some (.int .i64 Q.mn) ∧ wr.cell? ⟨g, 8, none⟩ = some (.slice V.a1 Q.nb V.d1) ∧ wr.cell? ⟨g, 9, none⟩ = some (.slice V.a2 Q.nr V.d2) :=
  ⟨cell_of_heap h.b rfl, cell_of_heap h.b rfl, cell_of_heap h.b rfl, cell_of_heap h.b rfl, cell_of_heap h.b rfl, cell_of_heap h.b rfl, cell_of_heap h.b rfl, cell_of_heap h.b rfl, cell_of_heap h.b rfl, cell_of_heap h.b rfl⟩
theorem frozen15 {w : World} {B j : Nat} {cs : Array Value} {t : TypeId} (h : w.heap[B]? = some (.cells cs t (0, 0))) : w.frozen? ⟨B, j, none⟩ = false := by simp [World.frozen?, h]
/-- What is told: the ask out of its box, laid into the box of what is told. -/
theorem gue_told {w W0 W : World} {G : Nat} {V : QstV} {Q : Qst} (h : GueS W0 W G V Q) (he : Ext w W0) (hz : w.heap.size + 1 ≤ W0.heap.size) (f1 : Fresh W0 V.a1) (f2 : Fresh W0 V.a2) :
    (∀ cs, QstAt (W.setRow w.heap.size cs) V Q) ∧ (∀ cs, Ext w (W.setRow w.heap.size cs)) := by
  have k : ∀ cs, Keep (fun i => i = w.heap.size) W (W.setRow w.heap.size cs) := fun cs => ⟨rfl, rfl, rfl, by simp, fun k _ hn => setRow_other W _ k cs hn⟩
  have g1 : OffN (fun i => i = w.heap.size) V.a1 Q.nb := .inr (f1.off (fun i hi => by omega))
  have g2 : OffN (fun i => i = w.heap.size) V.a2 Q.nr := .inr (f2.off (fun i hi => by omega))
  exact ⟨fun cs => ⟨h.h.h1.keepO (k cs) g1, h.h.l1, h.h.m1, h.h.h2.keepO (k cs) g2, h.h.l2, h.h.m2⟩, fun cs => below_setRow (he.trans h.x) (Nat.le_refl _) _⟩
theorem fresh_le15 {a b : World} {x : Option Addr} (h : Fresh b x) (hs : a.heap.size ≤ b.heap.size) : Fresh a x := fun p hp => Nat.le_trans hs (h p hp)
theorem num_bd (n : Nat) (f : Nat → Int) (i : Nat) (hf : ∀ i, i < n → 0 ≤ f i ∧ f i < 256) : 0 ≤ numAt n f i ∧ numAt n f i < 65536 := by
  unfold numAt
  split
  · have := hf i (by omega)
    have := hf (i + 1) (by omega)
    omega
  · omega
theorem lt_off {G : Nat} {w : World} {x : Option Addr} {n : Nat} (h : Fresh w x) (hG : G < w.heap.size) : OffN (fun i => i = G) x n := .inr (h.off fun i hi => by omega)
theorem nil_off (G n : Nat) : OffN (fun i => i = G) none n := .inr (fun p hp => by cases hp)
set_option maxRecDepth 100000 in
set_option maxHeartbeats 8000000 in
theorem rguess15_any (a : Option Addr) (n c : Nat) (f : Nat → Int) (w : World) (ha : Holds .u8 w a n f) (hn : n ≤ 1000000) (hnc : n ≤ c) (hcm : c ≤ maxLen) (h0 : 0 < n) (hf : ∀ i, i < n → 0 ≤ f i ∧ f i < 256) (hkn : knownB (f 0) = true) :
    Calls Try.prog 38 #[.slice a n c] w fun e w' => ∃ V, e = .returned (.agg (qstC V (gueQ n f))) ∧ QstAt w' V (gueQ n f) ∧ Ext w w' := by
  have hkk := (known_iff (f 0)).1 hkn
  obtain ⟨b, off, rfl, hb, hc⟩ := id (ha.resolve_left (by omega))
  obtain ⟨W0, hW0, HX, He⟩ : ∃ W0, W0 = w.alloc (.cells #[.int .i64 0, .int .i64 0, .int .i64 0, .int .i64 0, .int .i64 0, .int .i64 0, .int .i64 0, .int .i64 0, .slice none 0 0, .slice none 0 0] 25) ∧ Hid (∀ W, Ext W0 W → W.heap[w.heap.size]? = some (.cells #[.int .i64 0, .int .i64 0, .int .i64 0, .int .i64 0, .int .i64 0, .int .i64 0, .int .i64 0, .int .i64 0, .slice none 0 0, .slice none 0 0] 25 (0, 0))) ∧ Hid (Ext w W0) := ⟨_, rfl, Lib.hid fun W hx => hx.block (heap_alloc_new w _), Lib.hid (Ext.alloc w _)⟩
  have hz0 : w.heap.size + 1 ≤ W0.heap.size := by rw [hW0]; simp
  have HA := Lib.hid (fun W (x : Ext W0 W) => ha.ext (He.out.trans x))
  have HC0 := Lib.hid (fun W (x : Ext W0 W) => (show W.cell? ⟨b, off, none⟩ = some (.int .u8 (f 0)) from (He.out.trans x).cell hb (hc 0 h0)))
  have hbd := hf 0 h0
  have hw0 : IntKind.i64.wrap (f 0) = f 0 := IntWalk.i64_in _ (by omega)
  have hnI : (n : Int) ≤ 1000000 := by omega
  have h0I : (0 : Int) < n := by omega
  clear ha hc hb hkn hbd
  go_enter Try.func38, Try.ntmps38
  go_upto_region 1 with fail
  rw [← hW0]
  clear hW0
  go_cut [3] from 4 to 100 (fun v wx => ∃ G, v = .pointer (some ⟨G, 0, none⟩) ∧ GueS W0 wx G zeroQV { zeroQ with k := f 0, ad := numAt n f 1 })
  case first => as_aux_lemma =>
    have hs : Ext W0 W0.drew := Ext.drew _
    refine wp_region_held_drew (S := fun W => Ext W0 W) (by kernel_rfl) hs (fun _ => ?_)
    obtain ⟨X, hX⟩ : ∃ X, X = W0.drew := ⟨_, rfl⟩
    rw [← hX] at hs ⊢
    clear hX
    have hx := hs
    refine wpAnyH_takeD (i := 0) (d := 4) (v := .slice (some ⟨b, off, none⟩) n c) rfl rfl (by kernel_rfl) (by kernel_rfl) (by kernel_rfl) (fun _ _ _ h => h) (Or.inl ⟨by rfl, fun W hW => by go_simp⟩) hs ?_
    simp only [Act.put, List.setIfInBounds_toArray, List.set_cons_succ, List.set_cons_zero]
    refine wpAnyH_takeD (i := 1) (d := 5) (v := .pointer (some ⟨b, off, none⟩)) rfl rfl (by kernel_rfl) (by kernel_rfl) (by kernel_rfl) (fun _ _ _ h => h) (Or.inl ⟨by rfl, fun W hW => by go_simp⟩) hs ?_
    simp only [Act.put, List.setIfInBounds_toArray, List.set_cons_succ, List.set_cons_zero]
    refine wpAnyH_takeD (i := 2) (d := 6) (v := .int .u8 (f 0)) rfl rfl (by kernel_rfl) (by kernel_rfl) (by kernel_rfl) (fun _ _ _ h => h) (Or.inl ⟨by rfl, fun W hW => by have c0 := HC0.out W hW; go_simp⟩) hs ?_
    simp only [Act.put, List.setIfInBounds_toArray, List.set_cons_succ, List.set_cons_zero]
    refine wpAnyH_takeD (i := 3) (d := 7) (v := .int .i64 (f 0)) rfl rfl (by kernel_rfl) (by kernel_rfl) (by kernel_rfl) (fun _ _ _ h => h) (Or.inl ⟨by rfl, fun W hW => by go_simp⟩) hs ?_
    simp only [Act.put, List.setIfInBounds_toArray, List.set_cons_succ, List.set_cons_zero]
    refine wpAnyH_takeD (i := 4) (d := 8) (v := .slice (some ⟨b, off, none⟩) n c) rfl rfl (by kernel_rfl) (by kernel_rfl) (by kernel_rfl) (fun _ _ _ h => h) (Or.inl ⟨by rfl, fun W hW => by go_simp⟩) hs ?_
    simp only [Act.put, List.setIfInBounds_toArray, List.set_cons_succ, List.set_cons_zero]
    refine wpAnyH_ready (rs := [5, 7]) (by kernel_rfl) (by simp) (AllReadyH.cons rfl (fun K hK => ?_) (AllReadyH.cons rfl (fun K hK => ?_) (AllReadyH.nil)))
    · go_simp
      go_at_call 57
      refine (rnum15_any (some ⟨b, off, none⟩) n c f 1 _ (HA.out _ hs) hn hf).mono ?_; rintro e Wc ⟨rfl, y⟩
      go_wp2_with fail
      refine hK.out _ _ (hs.trans y) (fun hs => ?_)
      clear hK K
      refine wpAnyH_takeD (i := 6) (d := 10) (v := .agg #[.int .i64 (f 0), .int .i64 (numAt n f 1), .int .i64 0, .int .i64 0, .int .i64 0, .int .i64 0, .int .i64 0, .int .i64 0, .slice none 0 0, .slice none 0 0]) rfl rfl (by kernel_rfl) (by kernel_rfl) (by kernel_rfl) (fun _ _ _ h => h) (Or.inl ⟨by rfl, fun W hW => by go_simp⟩) hs ?_
      simp only [Act.put, List.setIfInBounds_toArray, List.set_cons_succ, List.set_cons_zero]
      refine wpAnyH_ready (rs := [7]) (by kernel_rfl) (by simp) (AllReadyH.cons rfl (fun K hK => ?_) (AllReadyH.nil))
      go_simp
      refine hK.out _ _ (hs.trans (Ext.alloc _ _)) (fun hs => ?_)
      clear hK K
      refine wpAnyH_ready (rs := [8]) (by kernel_rfl) (by simp) (AllReadyH.cons rfl (fun K hK => ?_) (AllReadyH.nil))
      refine step_store_row rfl 25 (.tmp 3) (.tmp 10) rfl (Wc.heap.size) _ rfl rfl 25 _ (heap_alloc_new Wc _) (by kernel_rfl) rfl (by simp [Value.oneCell']) rfl ?_
      have hlo : W0.heap.size ≤ Wc.heap.size := Nat.le_trans hx.size y.size
      have hs := below_setRow hs hlo (qstC zeroQV { zeroQ with k := f 0, ad := numAt n f 1 })
      refine hK.out _ _ hs (fun hs => ?_)
      clear hK K
      simp only [Act.put]
      refine wpAnyH_done (by kernel_rfl) ?_ _
      go_wp2_with fail
      go_meet
      exact ⟨Wc.heap.size, rfl, ⟨hs, hlo, setRow_heap _ _ _ _ _ _ (heap_alloc_new Wc _), none_at _ rfl rfl, nil_off _ _, nil_off _ _⟩⟩
    · go_simp
      refine hK.out _ _ (hs.trans (Ext.alloc _ _)) (fun hs => ?_)
      clear hK K
      refine wpAnyH_ready (rs := [5]) (by kernel_rfl) (by simp) (AllReadyH.cons rfl (fun K hK => ?_) (AllReadyH.nil))
      go_simp
      go_at_call 57
      refine (rnum15_any (some ⟨b, off, none⟩) n c f 1 _ (HA.out _ hs) hn hf).mono ?_; rintro e Wc ⟨rfl, y⟩
      go_wp2_with fail
      refine hK.out _ _ (hs.trans y) (fun hs => ?_)
      clear hK K
      refine wpAnyH_takeD (i := 6) (d := 10) (v := .agg #[.int .i64 (f 0), .int .i64 (numAt n f 1), .int .i64 0, .int .i64 0, .int .i64 0, .int .i64 0, .int .i64 0, .int .i64 0, .slice none 0 0, .slice none 0 0]) rfl rfl (by kernel_rfl) (by kernel_rfl) (by kernel_rfl) (fun _ _ _ h => h) (Or.inl ⟨by rfl, fun W hW => by go_simp⟩) hs ?_
      simp only [Act.put, List.setIfInBounds_toArray, List.set_cons_succ, List.set_cons_zero]
      refine wpAnyH_ready (rs := [8]) (by kernel_rfl) (by simp) (AllReadyH.cons rfl (fun K hK => ?_) (AllReadyH.nil))
      refine step_store_row rfl 25 (.tmp 3) (.tmp 10) rfl (X.heap.size) _ rfl rfl 25 _ (y.block (heap_alloc_new X _)) (by kernel_rfl) rfl (by simp [Value.oneCell']) rfl ?_
      have hlo : W0.heap.size ≤ X.heap.size := hx.size
      have hs := below_setRow hs hlo (qstC zeroQV { zeroQ with k := f 0, ad := numAt n f 1 })
      refine hK.out _ _ hs (fun hs => ?_)
      clear hK K
      simp only [Act.put]
      refine wpAnyH_done (by kernel_rfl) ?_ _
      go_wp2_with fail
      go_meet
      exact ⟨X.heap.size, rfl, ⟨hs, hlo, setRow_heap _ _ _ _ _ _ (y.block (heap_alloc_new X _)), none_at _ rfl rfl, nil_off _ _, nil_off _ _⟩⟩
  case rest =>
    obtain ⟨G, rfl, S⟩ := hcut
    rcases hkk with hk1 | hk2 | hk3 | hk4 | hk5 | hk6 | hk15 | hk16 | hk22 | hk23
    · -- 1
      rw [hk1] at S
      obtain ⟨ck, cad, cct, cva, can, coo, cfr, cmn, c8, c9⟩ := S.num
      have HG : Hid (gueQ n f = { zeroQ with k := 1, ad := numAt n f 1, ct := numAt n f 3 }) := Lib.hid (by unfold gueQ; rw [hk1]; rfl)
      clear hk1
      go_wp2_with fail
      refine (rnum15_any (some ⟨b, off, none⟩) n c f 3 _ (HA.out _ S.x) hn hf).mono ?_; rintro e w2 ⟨rfl, x2⟩
      have S' := S.ext x2
      clear x2 ck cad cct cva can coo cfr cmn c8 c9 S
      obtain ⟨ck, cad, cct, cva, can, coo, cfr, cmn, c8, c9⟩ := S'.num
      have zf := frozen15 (j := 2) S'.b
      obtain ⟨W2, hW2, S⟩ : ∃ W, W = w2.setCell ⟨G, 2, none⟩ (.int .i64 (numAt n f 3)) ∧ GueS W0 W G zeroQV { zeroQ with k := 1, ad := numAt n f 1, ct := numAt n f 3 } := ⟨_, rfl, S'.set rfl (none_at _ rfl rfl) (nil_off _ _) (nil_off _ _)⟩
      clear S'
      have b' := S.b
      have gR' := HX.out _ S.x
      rw [hW2] at b' gR'
      have HT := Lib.hid (gue_told S He.out hz0 (Fresh.nil _) (Fresh.nil _))
      go_wp2_with (first
        | (refine wpList_load_row rfl 25 (.tmp 3) rfl (G) rfl 25 _ (0, 0) _ b' Try.underlying25 rfl (by kernel_rfl) ?_)
        | (refine wpList_store_row rfl 25 (.tmp 2) (.tmp 100) rfl (w.heap.size) _ rfl rfl 25 _ gR' (by kernel_rfl) rfl (by simp [qstC, Value.oneCell']) ?_))
      rw [← hW2] at gR' ⊢
      refine bodyPost_ret (results_cell_row rfl _ _ w.heap.size 25 _ (0, 0) _ rfl (setRow_heap _ _ _ _ _ _ gR') Try.underlying25 rfl (by kernel_rfl)) rfl ?_
      rw [HG.out]
      exact ⟨zeroQV, by rfl, HT.out.1 _, HT.out.2 _⟩
    · -- 2
      rw [hk2] at S
      obtain ⟨ck, cad, cct, cva, can, coo, cfr, cmn, c8, c9⟩ := S.num
      have HG : Hid (gueQ n f = { zeroQ with k := 2, ad := numAt n f 1, ct := numAt n f 3 }) := Lib.hid (by unfold gueQ; rw [hk2]; rfl)
      clear hk2
      go_wp2_with fail
      refine (rnum15_any (some ⟨b, off, none⟩) n c f 3 _ (HA.out _ S.x) hn hf).mono ?_; rintro e w2 ⟨rfl, x2⟩
      have S' := S.ext x2
      clear x2 ck cad cct cva can coo cfr cmn c8 c9 S
      obtain ⟨ck, cad, cct, cva, can, coo, cfr, cmn, c8, c9⟩ := S'.num
      have zf := frozen15 (j := 2) S'.b
      obtain ⟨W2, hW2, S⟩ : ∃ W, W = w2.setCell ⟨G, 2, none⟩ (.int .i64 (numAt n f 3)) ∧ GueS W0 W G zeroQV { zeroQ with k := 2, ad := numAt n f 1, ct := numAt n f 3 } := ⟨_, rfl, S'.set rfl (none_at _ rfl rfl) (nil_off _ _) (nil_off _ _)⟩
      clear S'
      have b' := S.b
      have gR' := HX.out _ S.x
      rw [hW2] at b' gR'
      have HT := Lib.hid (gue_told S He.out hz0 (Fresh.nil _) (Fresh.nil _))
      go_wp2_with (first
        | (refine wpList_load_row rfl 25 (.tmp 3) rfl (G) rfl 25 _ (0, 0) _ b' Try.underlying25 rfl (by kernel_rfl) ?_)
        | (refine wpList_store_row rfl 25 (.tmp 2) (.tmp 100) rfl (w.heap.size) _ rfl rfl 25 _ gR' (by kernel_rfl) rfl (by simp [qstC, Value.oneCell']) ?_))
      rw [← hW2] at gR' ⊢
      refine bodyPost_ret (results_cell_row rfl _ _ w.heap.size 25 _ (0, 0) _ rfl (setRow_heap _ _ _ _ _ _ gR') Try.underlying25 rfl (by kernel_rfl)) rfl ?_
      rw [HG.out]
      exact ⟨zeroQV, by rfl, HT.out.1 _, HT.out.2 _⟩
    · -- 3
      rw [hk3] at S
      obtain ⟨ck, cad, cct, cva, can, coo, cfr, cmn, c8, c9⟩ := S.num
      have HG : Hid (gueQ n f = { zeroQ with k := 3, ad := numAt n f 1, ct := numAt n f 3 }) := Lib.hid (by unfold gueQ; rw [hk3]; rfl)
      clear hk3
      go_wp2_with fail
      refine (rnum15_any (some ⟨b, off, none⟩) n c f 3 _ (HA.out _ S.x) hn hf).mono ?_; rintro e w2 ⟨rfl, x2⟩
      have S' := S.ext x2
      clear x2 ck cad cct cva can coo cfr cmn c8 c9 S
      obtain ⟨ck, cad, cct, cva, can, coo, cfr, cmn, c8, c9⟩ := S'.num
      have zf := frozen15 (j := 2) S'.b
      obtain ⟨W2, hW2, S⟩ : ∃ W, W = w2.setCell ⟨G, 2, none⟩ (.int .i64 (numAt n f 3)) ∧ GueS W0 W G zeroQV { zeroQ with k := 3, ad := numAt n f 1, ct := numAt n f 3 } := ⟨_, rfl, S'.set rfl (none_at _ rfl rfl) (nil_off _ _) (nil_off _ _)⟩
      clear S'
      have b' := S.b
      have gR' := HX.out _ S.x
      rw [hW2] at b' gR'
      have HT := Lib.hid (gue_told S He.out hz0 (Fresh.nil _) (Fresh.nil _))
      go_wp2_with (first
        | (refine wpList_load_row rfl 25 (.tmp 3) rfl (G) rfl 25 _ (0, 0) _ b' Try.underlying25 rfl (by kernel_rfl) ?_)
        | (refine wpList_store_row rfl 25 (.tmp 2) (.tmp 100) rfl (w.heap.size) _ rfl rfl 25 _ gR' (by kernel_rfl) rfl (by simp [qstC, Value.oneCell']) ?_))
      rw [← hW2] at gR' ⊢
      refine bodyPost_ret (results_cell_row rfl _ _ w.heap.size 25 _ (0, 0) _ rfl (setRow_heap _ _ _ _ _ _ gR') Try.underlying25 rfl (by kernel_rfl)) rfl ?_
      rw [HG.out]
      exact ⟨zeroQV, by rfl, HT.out.1 _, HT.out.2 _⟩
    · -- 4
      rw [hk4] at S
      obtain ⟨ck, cad, cct, cva, can, coo, cfr, cmn, c8, c9⟩ := S.num
      have HG : Hid (gueQ n f = { zeroQ with k := 4, ad := numAt n f 1, ct := numAt n f 3 }) := Lib.hid (by unfold gueQ; rw [hk4]; rfl)
      clear hk4
      go_wp2_with fail
      refine (rnum15_any (some ⟨b, off, none⟩) n c f 3 _ (HA.out _ S.x) hn hf).mono ?_; rintro e w2 ⟨rfl, x2⟩
      have S' := S.ext x2
      clear x2 ck cad cct cva can coo cfr cmn c8 c9 S
      obtain ⟨ck, cad, cct, cva, can, coo, cfr, cmn, c8, c9⟩ := S'.num
      have zf := frozen15 (j := 2) S'.b
      obtain ⟨W2, hW2, S⟩ : ∃ W, W = w2.setCell ⟨G, 2, none⟩ (.int .i64 (numAt n f 3)) ∧ GueS W0 W G zeroQV { zeroQ with k := 4, ad := numAt n f 1, ct := numAt n f 3 } := ⟨_, rfl, S'.set rfl (none_at _ rfl rfl) (nil_off _ _) (nil_off _ _)⟩
      clear S'
      have b' := S.b
      have gR' := HX.out _ S.x
      rw [hW2] at b' gR'
      have HT := Lib.hid (gue_told S He.out hz0 (Fresh.nil _) (Fresh.nil _))
      go_wp2_with (first
        | (refine wpList_load_row rfl 25 (.tmp 3) rfl (G) rfl 25 _ (0, 0) _ b' Try.underlying25 rfl (by kernel_rfl) ?_)
        | (refine wpList_store_row rfl 25 (.tmp 2) (.tmp 100) rfl (w.heap.size) _ rfl rfl 25 _ gR' (by kernel_rfl) rfl (by simp [qstC, Value.oneCell']) ?_))
      rw [← hW2] at gR' ⊢
      refine bodyPost_ret (results_cell_row rfl _ _ w.heap.size 25 _ (0, 0) _ rfl (setRow_heap _ _ _ _ _ _ gR') Try.underlying25 rfl (by kernel_rfl)) rfl ?_
      rw [HG.out]
      exact ⟨zeroQV, by rfl, HT.out.1 _, HT.out.2 _⟩
    · -- 5
      rw [hk5] at S
      obtain ⟨ck, cad, cct, cva, can, coo, cfr, cmn, c8, c9⟩ := S.num
      have HG : Hid (gueQ n f = { zeroQ with k := 5, ad := numAt n f 1, va := numAt n f 3 }) := Lib.hid (by unfold gueQ; rw [hk5]; rfl)
      clear hk5
      go_wp2_with fail
      refine (rnum15_any (some ⟨b, off, none⟩) n c f 3 _ (HA.out _ S.x) hn hf).mono ?_; rintro e w2 ⟨rfl, x2⟩
      have S' := S.ext x2
      clear x2 ck cad cct cva can coo cfr cmn c8 c9 S
      obtain ⟨ck, cad, cct, cva, can, coo, cfr, cmn, c8, c9⟩ := S'.num
      have zf := frozen15 (j := 3) S'.b
      obtain ⟨W2, hW2, S⟩ : ∃ W, W = w2.setCell ⟨G, 3, none⟩ (.int .i64 (numAt n f 3)) ∧ GueS W0 W G zeroQV { zeroQ with k := 5, ad := numAt n f 1, va := numAt n f 3 } := ⟨_, rfl, S'.set rfl (none_at _ rfl rfl) (nil_off _ _) (nil_off _ _)⟩
      clear S'
      have b' := S.b
      have gR' := HX.out _ S.x
      rw [hW2] at b' gR'
      have HT := Lib.hid (gue_told S He.out hz0 (Fresh.nil _) (Fresh.nil _))
      go_wp2_with (first
        | (refine wpList_load_row rfl 25 (.tmp 3) rfl (G) rfl 25 _ (0, 0) _ b' Try.underlying25 rfl (by kernel_rfl) ?_)
        | (refine wpList_store_row rfl 25 (.tmp 2) (.tmp 100) rfl (w.heap.size) _ rfl rfl 25 _ gR' (by kernel_rfl) rfl (by simp [qstC, Value.oneCell']) ?_))
      rw [← hW2] at gR' ⊢
      refine bodyPost_ret (results_cell_row rfl _ _ w.heap.size 25 _ (0, 0) _ rfl (setRow_heap _ _ _ _ _ _ gR') Try.underlying25 rfl (by kernel_rfl)) rfl ?_
      rw [HG.out]
      exact ⟨zeroQV, by rfl, HT.out.1 _, HT.out.2 _⟩
    · -- 6
      rw [hk6] at S
      obtain ⟨ck, cad, cct, cva, can, coo, cfr, cmn, c8, c9⟩ := S.num
      have HG : Hid (gueQ n f = { zeroQ with k := 6, ad := numAt n f 1, va := numAt n f 3 }) := Lib.hid (by unfold gueQ; rw [hk6]; rfl)
      clear hk6
      go_wp2_with fail
      refine (rnum15_any (some ⟨b, off, none⟩) n c f 3 _ (HA.out _ S.x) hn hf).mono ?_; rintro e w2 ⟨rfl, x2⟩
      have S' := S.ext x2
      clear x2 ck cad cct cva can coo cfr cmn c8 c9 S
      obtain ⟨ck, cad, cct, cva, can, coo, cfr, cmn, c8, c9⟩ := S'.num
      have zf := frozen15 (j := 3) S'.b
      obtain ⟨W2, hW2, S⟩ : ∃ W, W = w2.setCell ⟨G, 3, none⟩ (.int .i64 (numAt n f 3)) ∧ GueS W0 W G zeroQV { zeroQ with k := 6, ad := numAt n f 1, va := numAt n f 3 } := ⟨_, rfl, S'.set rfl (none_at _ rfl rfl) (nil_off _ _) (nil_off _ _)⟩
      clear S'
      have b' := S.b
      have gR' := HX.out _ S.x
      rw [hW2] at b' gR'
      have HT := Lib.hid (gue_told S He.out hz0 (Fresh.nil _) (Fresh.nil _))
      go_wp2_with (first
        | (refine wpList_load_row rfl 25 (.tmp 3) rfl (G) rfl 25 _ (0, 0) _ b' Try.underlying25 rfl (by kernel_rfl) ?_)
        | (refine wpList_store_row rfl 25 (.tmp 2) (.tmp 100) rfl (w.heap.size) _ rfl rfl 25 _ gR' (by kernel_rfl) rfl (by simp [qstC, Value.oneCell']) ?_))
      rw [← hW2] at gR' ⊢
      refine bodyPost_ret (results_cell_row rfl _ _ w.heap.size 25 _ (0, 0) _ rfl (setRow_heap _ _ _ _ _ _ gR') Try.underlying25 rfl (by kernel_rfl)) rfl ?_
      rw [HG.out]
      exact ⟨zeroQV, by rfl, HT.out.1 _, HT.out.2 _⟩
    · -- 15
      rw [hk15] at S
      have HG : Hid (gueQ n f = { zeroQ with k := 15, ad := numAt n f 1, ct := numAt n f 3, nb := if 6 < n ∧ (n : Int) - 6 = szI (numAt n f 3) then (numAt n f 3).toNat else 0, B := unF (fun i => f (6 + i)) }) := Lib.hid (by unfold gueQ; rw [hk15]; rfl)
      clear hk15
      obtain ⟨ck, cad, cct, cva, can, coo, cfr, cmn, c8, c9⟩ := S.num
      go_wp2_with fail
      refine (rnum15_any (some ⟨b, off, none⟩) n c f 3 _ (HA.out _ S.x) hn hf).mono ?_; rintro e w2 ⟨rfl, x2⟩
      have S' := S.ext x2
      clear x2 ck cad cct cva can coo cfr cmn c8 c9 S
      obtain ⟨ck, cad, cct, cva, can, coo, cfr, cmn, c8, c9⟩ := S'.num
      have zf := frozen15 (j := 2) S'.b
      obtain ⟨W2, hW2, S⟩ : ∃ W, W = w2.setCell ⟨G, 2, none⟩ (.int .i64 (numAt n f 3)) ∧ GueS W0 W G zeroQV { zeroQ with k := 15, ad := numAt n f 1, ct := numAt n f 3 } := ⟨_, rfl, S'.set rfl (none_at _ rfl rfl) (nil_off _ _) (nil_off _ _)⟩
      clear S'
      go_upto_region 13 with fail
      rw [← hW2]
      clear hW2
      have hbd := num_bd n f 3 hf
      by_cases h6 : 6 < n
      · have h6I : (6 : Int) < (n : Int) := by omega
        have hs6 : IntKind.i64.wrap ((n : Int) - 6) = (n : Int) - 6 := IntWalk.i64_in _ (by omega)
        clear ck cad cct cva can coo cfr cmn c8 c9
        obtain ⟨ck, cad, cct, cva, can, coo, cfr, cmn, c8, c9⟩ := S.num
        by_cases hE : (n : Int) - 6 = szI (numAt n f 3)
        · have hb : ((n : Int) - 6 == szI (numAt n f 3)) = true := by simp [hE]
          have HN := Lib.hid (And.intro h6 hE)
          have HS := Lib.hid (fun W => rsize_any (numAt n f 3) W (by omega) (by omega))
          clear hE hbd
          go_wp2_with fail
          refine (HS.out _).mono ?_; rintro e w3 ⟨rfl, rfl⟩
          clear HS
          obtain ⟨N, hN⟩ : ∃ N : Nat, numAt n f 3 = (N : Int) := ⟨(numAt n f 3).toNat, by have := (num_bd n f 3 hf).1; omega⟩
          have hNb : N < 65536 := by have := (num_bd n f 3 hf).2; omega
          have hm : n - 6 = szN N := by have := HN.out.2; rw [hN, szI_nat] at this; omega
          have ht : (numAt n f 3).toNat = N := by omega
          have HP : Hid (∀ W, Ext W0 W → Calls Try.prog 58 #[.slice (some ⟨b, off + 6, none⟩) (n - 6) (c - 6), .int .i64 (numAt n f 3)] W fun e w' => ∃ x d, e = .returned (.tuple #[.slice x N d, .int .i64 0]) ∧ N ≤ d ∧ d ≤ maxLen ∧ HoldsG Value.bool w' x N (unF (fun i => f (6 + i))) ∧ Ext W w' ∧ Fresh W x) :=
            Lib.hid fun W hx => by rw [hN]; exact runpack_f (some ⟨b, off + 6, none⟩) (n - 6) (c - 6) N (fun i => f (6 + i)) W (HoldsG.drop (mk := Value.int .u8) (k := 6) (HA.out W hx)) hm (by omega) (fun i hi => hf _ (by omega))
          have HG2 : Hid (gueQ n f = { zeroQ with k := 15, ad := numAt n f 1, ct := numAt n f 3, nb := N, B := unF (fun i => f (6 + i)) }) := Lib.hid (by rw [HG.out, if_pos HN.out, ht])
          have h8I : (6 : Int) ≤ (c : Int) := by omega
          have h7I : (6 : Int) ≤ (n : Int) := by omega
          have hcI : (c : Int) ≤ 9223372036854775807 := by unfold maxLen at hcm; omega
          have hncI : (n : Int) ≤ c := by omega
          have e1 : ¬ c = 6 := by omega
          have e2 : ¬ 6 = c := by omega
          clear hN hNb hm ht HG HN ck cad cct cva can coo cfr cmn c8 c9
          go_wp2_with fail
          clear hb
          have SX := S.ext (Ext.drew _)
          clear S
          have hs := And.intro SX.x SX.num.2.2.1
          refine wp_region_held_drew (S := fun W => Ext W0 W ∧ W.cell? ⟨G, 2, none⟩ = some (.int .i64 (numAt n f 3))) (by kernel_rfl) hs (fun _ => ?_)
          obtain ⟨X, hX⟩ : ∃ X, X = W2.drew := ⟨_, rfl⟩
          rw [← hX] at hs SX ⊢
          clear hX
          refine wpAnyH_takeD (i := 0) (d := 45) (v := .slice (some ⟨b, off, none⟩) n c) rfl rfl (by kernel_rfl) (by kernel_rfl) (by kernel_rfl) (fun _ _ _ h => h) (Or.inl ⟨by rfl, fun W hW => by go_simp⟩) hs ?_
          simp only [Act.put, List.setIfInBounds_toArray, List.set_cons_succ, List.set_cons_zero]
          refine wpAnyH_takeD (i := 1) (d := 46) (v := .slice (some ⟨b, off + 6, none⟩) (n - 6) (c - 6)) rfl rfl (by kernel_rfl) (by kernel_rfl) (by kernel_rfl) (fun _ _ _ h => h) (Or.inl ⟨by rfl, fun W hW => by go_simp⟩) hs ?_
          simp only [Act.put, List.setIfInBounds_toArray, List.set_cons_succ, List.set_cons_zero]
          refine wpAnyH_takeD (i := 2) (d := 47) (v := .pointer (some ⟨G, 2, none⟩)) rfl rfl (by kernel_rfl) (by kernel_rfl) (by kernel_rfl) (fun _ _ _ h => h) (Or.inl ⟨by rfl, fun W hW => by go_simp⟩) hs ?_
          simp only [Act.put, List.setIfInBounds_toArray, List.set_cons_succ, List.set_cons_zero]
          refine wpAnyH_takeD (i := 3) (d := 48) (v := .int .i64 (numAt n f 3)) rfl rfl (by kernel_rfl) (by kernel_rfl) (by kernel_rfl) (fun _ _ _ h => h) (Or.inl ⟨by rfl, fun W hW => by obtain ⟨-, c2⟩ := hW; go_simp⟩) hs ?_
          simp only [Act.put, List.setIfInBounds_toArray, List.set_cons_succ, List.set_cons_zero]
          refine wpAnyH_ready (rs := [4]) (by kernel_rfl) (by simp) (AllReadyH.cons rfl (fun K hK => ?_) (AllReadyH.nil))
          go_simp
          go_at_call 58
          refine (HP.out _ hs.1).mono ?_; rintro e Wc ⟨x, dd, rfl, l3, m3, h3, y, fx⟩
          have Sc := SX.ext y
          have hG := heap_lt SX.b
          have fy := fresh_le15 fx SX.x.size
          go_wp2_with fail
          refine hK.out _ _ (And.intro Sc.x Sc.num.2.2.1) (fun hs => ?_)
          clear hK K SX y
          refine wpAnyH_takeD (i := 5) (d := 44) (v := .tuple #[.slice x N dd, .int .i64 0]) rfl rfl (by kernel_rfl) (by kernel_rfl) (by kernel_rfl) (fun _ _ _ h => h) (Or.inl ⟨by rfl, fun W hW => by go_simp⟩) hs ?_
          simp only [Act.put, List.setIfInBounds_toArray, List.set_cons_succ, List.set_cons_zero]
          refine wpAnyH_takeD (i := 6) (d := 50) (v := .slice x N dd) rfl rfl (by kernel_rfl) (by kernel_rfl) (by kernel_rfl) (fun _ _ _ h => h) (Or.inl ⟨by rfl, fun W hW => by go_simp⟩) hs ?_
          simp only [Act.put, List.setIfInBounds_toArray, List.set_cons_succ, List.set_cons_zero]
          refine wpAnyH_takeD (i := 7) (d := 51) (v := .int .i64 0) rfl rfl (by kernel_rfl) (by kernel_rfl) (by kernel_rfl) (fun _ _ _ h => h) (Or.inl ⟨by rfl, fun W hW => by go_simp⟩) hs ?_
          simp only [Act.put, List.setIfInBounds_toArray, List.set_cons_succ, List.set_cons_zero]
          refine wpAnyH_takeD (i := 8) (d := 52) (v := .pointer (some ⟨G, 8, none⟩)) rfl rfl (by kernel_rfl) (by kernel_rfl) (by kernel_rfl) (fun _ _ _ h => h) (Or.inl ⟨by rfl, fun W hW => by go_simp⟩) hs ?_
          simp only [Act.put, List.setIfInBounds_toArray, List.set_cons_succ, List.set_cons_zero]
          obtain ⟨ck, cad, cct, cva, can, coo, cfr, cmn, c8, c9⟩ := Sc.num
          have zf := frozen15 (j := 8) Sc.b
          have S7 : GueS W0 (Wc.setCell ⟨G, 8, none⟩ (.slice x N dd)) G { zeroQV with a1 := x, d1 := dd } { zeroQ with k := 15, ad := numAt n f 1, ct := numAt n f 3, nb := N, B := unF (fun i => f (6 + i)) } := Sc.set rfl ⟨h3, l3, m3, .inl rfl, Nat.le_refl _, Nat.zero_le _⟩ (lt_off fx hG) (nil_off _ _)
          clear Sc
          refine wpAnyH_ready (rs := [9]) (by kernel_rfl) (by simp) (AllReadyH.cons rfl (fun K hK => ?_) (AllReadyH.nil))
          go_simp
          refine hK.out _ _ (And.intro S7.x S7.num.2.2.1) (fun hs => ?_)
          clear hK K hs
          refine wpAnyH_done (by kernel_rfl) ?_ _
          obtain ⟨W7, hW7⟩ : ∃ W, W = Wc.setCell ⟨G, 8, none⟩ (.slice x N dd) := ⟨_, rfl⟩
          have S := S7
          rw [← hW7] at S
          clear S7
          have b' := S.b
          have gR' := HX.out _ S.x
          rw [hW7] at b' gR'
          have HT := Lib.hid (gue_told S He.out hz0 fy (Fresh.nil _))
          go_wp2_with (first
            | (refine wpList_load_row rfl 25 (.tmp 3) rfl (G) rfl 25 _ (0, 0) _ b' Try.underlying25 rfl (by kernel_rfl) ?_)
            | (refine wpList_store_row rfl 25 (.tmp 2) (.tmp 100) rfl (w.heap.size) _ rfl rfl 25 _ gR' (by kernel_rfl) rfl (by simp [qstC, Value.oneCell']) ?_))
          rw [← hW7] at gR' ⊢
          refine bodyPost_ret (results_cell_row rfl _ _ w.heap.size 25 _ (0, 0) _ rfl (setRow_heap _ _ _ _ _ _ gR') Try.underlying25 rfl (by kernel_rfl)) rfl ?_
          rw [HG2.out]
          exact ⟨{ zeroQV with a1 := x, d1 := dd }, by rfl, HT.out.1 _, HT.out.2 _⟩
        · have hb : ((n : Int) - 6 == szI (numAt n f 3)) = false := by simp [hE]
          have HB : Hid (¬ (6 < n ∧ (n : Int) - 6 = szI (numAt n f 3))) := Lib.hid fun h => hE h.2
          have HS := Lib.hid (fun W => rsize_any (numAt n f 3) W (by omega) (by omega))
          clear hE hbd
          generalize szI (numAt n f 3) = E at hb HS
          go_wp2_with fail
          refine (HS.out _).mono ?_; rintro e w3 ⟨rfl, rfl⟩
          have b' := S.b
          have gR' := HX.out _ S.x
          have HT := Lib.hid (gue_told S He.out hz0 (Fresh.nil _) (Fresh.nil _))
          go_wp2_with (first
            | (refine wpList_load_row rfl 25 (.tmp 3) rfl (G) rfl 25 _ (0, 0) _ b' Try.underlying25 rfl (by kernel_rfl) ?_)
            | (refine wpList_store_row rfl 25 (.tmp 2) (.tmp 100) rfl (w.heap.size) _ rfl rfl 25 _ gR' (by kernel_rfl) rfl (by simp [qstC, Value.oneCell']) ?_))
          refine bodyPost_ret (results_cell_row rfl _ _ w.heap.size 25 _ (0, 0) _ rfl (setRow_heap _ _ _ _ _ _ gR') Try.underlying25 rfl (by kernel_rfl)) rfl ?_
          rw [HG.out, if_neg HB.out]
          exact ⟨zeroQV, by rfl, none_at _ rfl rfl, HT.out.2 _⟩
      · have h6I : ¬ (6 : Int) < (n : Int) := by omega
        have HB : Hid (¬ (6 < n ∧ (n : Int) - 6 = szI (numAt n f 3))) := Lib.hid fun h => h6 h.1
        have b' := S.b
        have gR' := HX.out _ S.x
        have HT := Lib.hid (gue_told S He.out hz0 (Fresh.nil _) (Fresh.nil _))
        go_wp2_with (first
          | (refine wpList_load_row rfl 25 (.tmp 3) rfl (G) rfl 25 _ (0, 0) _ b' Try.underlying25 rfl (by kernel_rfl) ?_)
          | (refine wpList_store_row rfl 25 (.tmp 2) (.tmp 100) rfl (w.heap.size) _ rfl rfl 25 _ gR' (by kernel_rfl) rfl (by simp [qstC, Value.oneCell']) ?_))
        refine bodyPost_ret (results_cell_row rfl _ _ w.heap.size 25 _ (0, 0) _ rfl (setRow_heap _ _ _ _ _ _ gR') Try.underlying25 rfl (by kernel_rfl)) rfl ?_
        rw [HG.out, if_neg HB.out]
        exact ⟨zeroQV, by rfl, none_at _ rfl rfl, HT.out.2 _⟩
    · -- 16
      rw [hk16] at S
      have HG : Hid (gueQ n f = { zeroQ with k := 16, ad := numAt n f 1, ct := numAt n f 3, nr := behN n 6, R := getF (fun i => f (6 + i)) }) := Lib.hid (by unfold gueQ; rw [hk16]; rfl)
      clear hk16
      obtain ⟨ck, cad, cct, cva, can, coo, cfr, cmn, c8, c9⟩ := S.num
      go_wp2_with fail
      refine (rnum15_any (some ⟨b, off, none⟩) n c f 3 _ (HA.out _ S.x) hn hf).mono ?_; rintro e w2 ⟨rfl, x2⟩
      have S' := S.ext x2
      clear x2 ck cad cct cva can coo cfr cmn c8 c9 S
      obtain ⟨ck, cad, cct, cva, can, coo, cfr, cmn, c8, c9⟩ := S'.num
      have zf := frozen15 (j := 2) S'.b
      obtain ⟨W2, hW2, S⟩ : ∃ W, W = w2.setCell ⟨G, 2, none⟩ (.int .i64 (numAt n f 3)) ∧ GueS W0 W G zeroQV { zeroQ with k := 16, ad := numAt n f 1, ct := numAt n f 3 } := ⟨_, rfl, S'.set rfl (none_at _ rfl rfl) (nil_off _ _) (nil_off _ _)⟩
      clear S'
      go_upto_region 17 with fail
      rw [← hW2]
      clear hW2
      by_cases h6 : 6 < n
      · have h6I : (6 : Int) < (n : Int) := by omega
        have h7I : (6 : Int) ≤ (n : Int) := by omega
        have h8I : (6 : Int) ≤ (c : Int) := by omega
        have hcI : (c : Int) ≤ 9223372036854775807 := by unfold maxLen at hcm; omega
        have hncI : (n : Int) ≤ c := by omega
        have e1 : ¬ c = 6 := by omega
        have e2 : ¬ 6 = c := by omega
        by_cases hp : (n - 6) % 2 = 0
        · obtain ⟨m, hm⟩ : ∃ m, n - 6 = 2 * m := ⟨(n - 6) / 2, by omega⟩
          have HB : Hid (behN n 6 = m) := Lib.hid (by unfold behN; rw [if_pos ⟨h6, hp⟩]; omega)
          have hdr : Holds .u8 W2 (some ⟨b, off + 6, none⟩) (2 * m) (fun i => f (6 + i)) := by
            have := (HoldsG.drop (mk := Value.int .u8) (k := 6) (HA.out _ S.x))
            rw [hm] at this
            exact this
          have KG := Lib.hid (rget_f (some ⟨b, off + 6, none⟩) m (c - 6) (fun i => f (6 + i)) W2 hdr (by omega) (fun i hi => hf _ (by omega)))
          rw [← hm] at KG
          clear hdr hp hm
          go_wp2_with fail
          refine KG.out.mono ?_; rintro e w7 ⟨x, dd, rfl, l3, m3, h3, x7, f7⟩
          have hG := heap_lt S.b
          have fx := fresh_le15 f7 (Nat.le_trans (Nat.le_refl _) S.x.size)
          have S' := S.ext x7
          clear x7 ck cad cct cva can coo cfr cmn c8 c9 S
          obtain ⟨ck, cad, cct, cva, can, coo, cfr, cmn, c8, c9⟩ := S'.num
          have zf := frozen15 (j := 9) S'.b
          obtain ⟨W7, hW7, S⟩ : ∃ W, W = w7.setCell ⟨G, 9, none⟩ (.slice x m dd) ∧ GueS W0 W G { zeroQV with a2 := x, d2 := dd } { zeroQ with k := 16, ad := numAt n f 1, ct := numAt n f 3, nr := m, R := getF (fun i => f (6 + i)) } := ⟨_, rfl, S'.set rfl ⟨.inl rfl, Nat.le_refl _, Nat.zero_le _, h3, l3, m3⟩ (nil_off _ _) (lt_off f7 hG)⟩
          clear S'
          have b' := S.b
          have gR' := HX.out _ S.x
          rw [hW7] at b' gR'
          have HT := Lib.hid (gue_told S He.out hz0 (Fresh.nil _) fx)
          go_wp2_with (first
            | (refine wpList_load_row rfl 25 (.tmp 3) rfl (G) rfl 25 _ (0, 0) _ b' Try.underlying25 rfl (by kernel_rfl) ?_)
            | (refine wpList_store_row rfl 25 (.tmp 2) (.tmp 100) rfl (w.heap.size) _ rfl rfl 25 _ gR' (by kernel_rfl) rfl (by simp [qstC, Value.oneCell']) ?_))
          rw [← hW7] at gR' ⊢
          refine bodyPost_ret (results_cell_row rfl _ _ w.heap.size 25 _ (0, 0) _ rfl (setRow_heap _ _ _ _ _ _ gR') Try.underlying25 rfl (by kernel_rfl)) rfl ?_
          rw [HG.out, HB.out]
          exact ⟨{ zeroQV with a2 := x, d2 := dd }, by rfl, HT.out.1 _, HT.out.2 _⟩
        · have HB : Hid (behN n 6 = 0) := Lib.hid (by unfold behN; rw [if_neg (by omega)])
          have KG := Lib.hid (rget_odd (some ⟨b, off + 6, none⟩) (n - 6) (c - 6) W2 (by omega) (by omega))
          clear hp
          go_wp2_with fail
          refine KG.out.mono ?_; rintro e w7 ⟨rfl, rfl⟩
          clear ck cad cct cva can coo cfr cmn c8 c9
          obtain ⟨ck, cad, cct, cva, can, coo, cfr, cmn, c8, c9⟩ := S.num
          have zf := frozen15 (j := 9) S.b
          obtain ⟨W7, hW7, S'⟩ : ∃ W, W = W2.setCell ⟨G, 9, none⟩ (.slice none 0 0) ∧ GueS W0 W G zeroQV { zeroQ with k := 16, ad := numAt n f 1, ct := numAt n f 3, nr := 0, R := getF (fun i => f (6 + i)) } := ⟨_, rfl, S.set rfl (none_at _ rfl rfl) (nil_off _ _) (nil_off _ _)⟩
          clear S
          have S := S'
          clear S'
          have b' := S.b
          have gR' := HX.out _ S.x
          rw [hW7] at b' gR'
          have HT := Lib.hid (gue_told S He.out hz0 (Fresh.nil _) (Fresh.nil _))
          go_wp2_with (first
            | (refine wpList_load_row rfl 25 (.tmp 3) rfl (G) rfl 25 _ (0, 0) _ b' Try.underlying25 rfl (by kernel_rfl) ?_)
            | (refine wpList_store_row rfl 25 (.tmp 2) (.tmp 100) rfl (w.heap.size) _ rfl rfl 25 _ gR' (by kernel_rfl) rfl (by simp [qstC, Value.oneCell']) ?_))
          rw [← hW7] at gR' ⊢
          refine bodyPost_ret (results_cell_row rfl _ _ w.heap.size 25 _ (0, 0) _ rfl (setRow_heap _ _ _ _ _ _ gR') Try.underlying25 rfl (by kernel_rfl)) rfl ?_
          rw [HG.out, HB.out]
          exact ⟨zeroQV, by rfl, HT.out.1 _, HT.out.2 _⟩
      · have h6I : ¬ (6 : Int) < (n : Int) := by omega
        have HB : Hid (behN n 6 = 0) := Lib.hid (by unfold behN; rw [if_neg (by omega)])
        have b' := S.b
        have gR' := HX.out _ S.x
        have HT := Lib.hid (gue_told S He.out hz0 (Fresh.nil _) (Fresh.nil _))
        go_wp2_with (first
          | (refine wpList_load_row rfl 25 (.tmp 3) rfl (G) rfl 25 _ (0, 0) _ b' Try.underlying25 rfl (by kernel_rfl) ?_)
          | (refine wpList_store_row rfl 25 (.tmp 2) (.tmp 100) rfl (w.heap.size) _ rfl rfl 25 _ gR' (by kernel_rfl) rfl (by simp [qstC, Value.oneCell']) ?_))
        refine bodyPost_ret (results_cell_row rfl _ _ w.heap.size 25 _ (0, 0) _ rfl (setRow_heap _ _ _ _ _ _ gR') Try.underlying25 rfl (by kernel_rfl)) rfl ?_
        rw [HG.out, HB.out]
        exact ⟨zeroQV, by rfl, none_at _ rfl rfl, HT.out.2 _⟩
    · -- 22
      rw [hk22] at S
      obtain ⟨ck, cad, cct, cva, can, coo, cfr, cmn, c8, c9⟩ := S.num
      have HG : Hid (gueQ n f = { zeroQ with k := 22, ad := numAt n f 1, an := numAt n f 3, oo := numAt n f 5 }) := Lib.hid (by unfold gueQ; rw [hk22]; rfl)
      clear hk22
      go_wp2_with fail
      refine (rnum15_any (some ⟨b, off, none⟩) n c f 3 _ (HA.out _ S.x) hn hf).mono ?_; rintro e w2 ⟨rfl, x2⟩
      have S' := S.ext x2
      clear x2 ck cad cct cva can coo cfr cmn c8 c9 S
      obtain ⟨ck, cad, cct, cva, can, coo, cfr, cmn, c8, c9⟩ := S'.num
      have zf := frozen15 (j := 4) S'.b
      obtain ⟨W2, hW2, S⟩ : ∃ W, W = w2.setCell ⟨G, 4, none⟩ (.int .i64 (numAt n f 3)) ∧ GueS W0 W G zeroQV { zeroQ with k := 22, ad := numAt n f 1, an := numAt n f 3 } := ⟨_, rfl, S'.set rfl (none_at _ rfl rfl) (nil_off _ _) (nil_off _ _)⟩
      clear S'
      go_wp2_with fail
      rw [← hW2]
      clear hW2
      refine (rnum15_any (some ⟨b, off, none⟩) n c f 5 _ (HA.out _ S.x) hn hf).mono ?_; rintro e w3 ⟨rfl, x3⟩
      have S' := S.ext x3
      clear x3 ck cad cct cva can coo cfr cmn c8 c9 S
      obtain ⟨ck, cad, cct, cva, can, coo, cfr, cmn, c8, c9⟩ := S'.num
      have zf := frozen15 (j := 5) S'.b
      obtain ⟨W3, hW3, S⟩ : ∃ W, W = w3.setCell ⟨G, 5, none⟩ (.int .i64 (numAt n f 5)) ∧ GueS W0 W G zeroQV { zeroQ with k := 22, ad := numAt n f 1, an := numAt n f 3, oo := numAt n f 5 } := ⟨_, rfl, S'.set rfl (none_at _ rfl rfl) (nil_off _ _) (nil_off _ _)⟩
      clear S'
      have b' := S.b
      have gR' := HX.out _ S.x
      rw [hW3] at b' gR'
      have HT := Lib.hid (gue_told S He.out hz0 (Fresh.nil _) (Fresh.nil _))
      go_wp2_with (first
        | (refine wpList_load_row rfl 25 (.tmp 3) rfl (G) rfl 25 _ (0, 0) _ b' Try.underlying25 rfl (by kernel_rfl) ?_)
        | (refine wpList_store_row rfl 25 (.tmp 2) (.tmp 100) rfl (w.heap.size) _ rfl rfl 25 _ gR' (by kernel_rfl) rfl (by simp [qstC, Value.oneCell']) ?_))
      rw [← hW3] at gR' ⊢
      refine bodyPost_ret (results_cell_row rfl _ _ w.heap.size 25 _ (0, 0) _ rfl (setRow_heap _ _ _ _ _ _ gR') Try.underlying25 rfl (by kernel_rfl)) rfl ?_
      rw [HG.out]
      exact ⟨zeroQV, by rfl, HT.out.1 _, HT.out.2 _⟩
    · -- 23
      rw [hk23] at S
      have HG : Hid (gueQ n f = { zeroQ with k := 23, ad := numAt n f 5, ct := numAt n f 7, fr := numAt n f 1, mn := numAt n f 3, nr := behN n 10, R := getF (fun i => f (10 + i)) }) := Lib.hid (by unfold gueQ; rw [hk23]; rfl)
      clear hk23
      obtain ⟨ck, cad, cct, cva, can, coo, cfr, cmn, c8, c9⟩ := S.num
      go_wp2_with fail
      refine (rnum15_any (some ⟨b, off, none⟩) n c f 1 _ (HA.out _ S.x) hn hf).mono ?_; rintro e w2 ⟨rfl, x2⟩
      have S' := S.ext x2
      clear x2 ck cad cct cva can coo cfr cmn c8 c9 S
      obtain ⟨ck, cad, cct, cva, can, coo, cfr, cmn, c8, c9⟩ := S'.num
      have zf := frozen15 (j := 6) S'.b
      obtain ⟨W2, hW2, S⟩ : ∃ W, W = w2.setCell ⟨G, 6, none⟩ (.int .i64 (numAt n f 1)) ∧ GueS W0 W G zeroQV { zeroQ with k := 23, ad := numAt n f 1, fr := numAt n f 1 } := ⟨_, rfl, S'.set rfl (none_at _ rfl rfl) (nil_off _ _) (nil_off _ _)⟩
      clear S'
      go_wp2_with fail
      rw [← hW2]
      clear hW2
      refine (rnum15_any (some ⟨b, off, none⟩) n c f 3 _ (HA.out _ S.x) hn hf).mono ?_; rintro e w3 ⟨rfl, x3⟩
      have S' := S.ext x3
      clear x3 ck cad cct cva can coo cfr cmn c8 c9 S
      obtain ⟨ck, cad, cct, cva, can, coo, cfr, cmn, c8, c9⟩ := S'.num
      have zf := frozen15 (j := 7) S'.b
      obtain ⟨W3, hW3, S⟩ : ∃ W, W = w3.setCell ⟨G, 7, none⟩ (.int .i64 (numAt n f 3)) ∧ GueS W0 W G zeroQV { zeroQ with k := 23, ad := numAt n f 1, fr := numAt n f 1, mn := numAt n f 3 } := ⟨_, rfl, S'.set rfl (none_at _ rfl rfl) (nil_off _ _) (nil_off _ _)⟩
      clear S'
      go_wp2_with fail
      rw [← hW3]
      clear hW3
      refine (rnum15_any (some ⟨b, off, none⟩) n c f 5 _ (HA.out _ S.x) hn hf).mono ?_; rintro e w4 ⟨rfl, x4⟩
      have S' := S.ext x4
      clear x4 ck cad cct cva can coo cfr cmn c8 c9 S
      obtain ⟨ck, cad, cct, cva, can, coo, cfr, cmn, c8, c9⟩ := S'.num
      have zf := frozen15 (j := 1) S'.b
      obtain ⟨W4, hW4, S⟩ : ∃ W, W = w4.setCell ⟨G, 1, none⟩ (.int .i64 (numAt n f 5)) ∧ GueS W0 W G zeroQV { zeroQ with k := 23, ad := numAt n f 5, fr := numAt n f 1, mn := numAt n f 3 } := ⟨_, rfl, S'.set rfl (none_at _ rfl rfl) (nil_off _ _) (nil_off _ _)⟩
      clear S'
      go_wp2_with fail
      rw [← hW4]
      clear hW4
      refine (rnum15_any (some ⟨b, off, none⟩) n c f 7 _ (HA.out _ S.x) hn hf).mono ?_; rintro e w5 ⟨rfl, x5⟩
      have S' := S.ext x5
      clear x5 ck cad cct cva can coo cfr cmn c8 c9 S
      obtain ⟨ck, cad, cct, cva, can, coo, cfr, cmn, c8, c9⟩ := S'.num
      have zf := frozen15 (j := 2) S'.b
      obtain ⟨W5, hW5, S⟩ : ∃ W, W = w5.setCell ⟨G, 2, none⟩ (.int .i64 (numAt n f 7)) ∧ GueS W0 W G zeroQV { zeroQ with k := 23, ad := numAt n f 5, ct := numAt n f 7, fr := numAt n f 1, mn := numAt n f 3 } := ⟨_, rfl, S'.set rfl (none_at _ rfl rfl) (nil_off _ _) (nil_off _ _)⟩
      clear S'
      go_upto_region 27 with fail
      rw [← hW5]
      clear hW5
      by_cases h6 : 10 < n
      · have h6I : (10 : Int) < (n : Int) := by omega
        have h7I : (10 : Int) ≤ (n : Int) := by omega
        have h8I : (10 : Int) ≤ (c : Int) := by omega
        have hcI : (c : Int) ≤ 9223372036854775807 := by unfold maxLen at hcm; omega
        have hncI : (n : Int) ≤ c := by omega
        have e1 : ¬ c = 10 := by omega
        have e2 : ¬ 10 = c := by omega
        by_cases hp : (n - 10) % 2 = 0
        · obtain ⟨m, hm⟩ : ∃ m, n - 10 = 2 * m := ⟨(n - 10) / 2, by omega⟩
          have HB : Hid (behN n 10 = m) := Lib.hid (by unfold behN; rw [if_pos ⟨h6, hp⟩]; omega)
          have hdr : Holds .u8 W5 (some ⟨b, off + 10, none⟩) (2 * m) (fun i => f (10 + i)) := by
            have := (HoldsG.drop (mk := Value.int .u8) (k := 10) (HA.out _ S.x))
            rw [hm] at this
            exact this
          have KG := Lib.hid (rget_f (some ⟨b, off + 10, none⟩) m (c - 10) (fun i => f (10 + i)) W5 hdr (by omega) (fun i hi => hf _ (by omega)))
          rw [← hm] at KG
          clear hdr hp hm
          go_wp2_with fail
          refine KG.out.mono ?_; rintro e w7 ⟨x, dd, rfl, l3, m3, h3, x7, f7⟩
          have hG := heap_lt S.b
          have fx := fresh_le15 f7 (Nat.le_trans (Nat.le_refl _) S.x.size)
          have S' := S.ext x7
          clear x7 ck cad cct cva can coo cfr cmn c8 c9 S
          obtain ⟨ck, cad, cct, cva, can, coo, cfr, cmn, c8, c9⟩ := S'.num
          have zf := frozen15 (j := 9) S'.b
          obtain ⟨W7, hW7, S⟩ : ∃ W, W = w7.setCell ⟨G, 9, none⟩ (.slice x m dd) ∧ GueS W0 W G { zeroQV with a2 := x, d2 := dd } { zeroQ with k := 23, ad := numAt n f 5, ct := numAt n f 7, fr := numAt n f 1, mn := numAt n f 3, nr := m, R := getF (fun i => f (10 + i)) } := ⟨_, rfl, S'.set rfl ⟨.inl rfl, Nat.le_refl _, Nat.zero_le _, h3, l3, m3⟩ (nil_off _ _) (lt_off f7 hG)⟩
          clear S'
          have b' := S.b
          have gR' := HX.out _ S.x
          rw [hW7] at b' gR'
          have HT := Lib.hid (gue_told S He.out hz0 (Fresh.nil _) fx)
          go_wp2_with (first
            | (refine wpList_load_row rfl 25 (.tmp 3) rfl (G) rfl 25 _ (0, 0) _ b' Try.underlying25 rfl (by kernel_rfl) ?_)
            | (refine wpList_store_row rfl 25 (.tmp 2) (.tmp 100) rfl (w.heap.size) _ rfl rfl 25 _ gR' (by kernel_rfl) rfl (by simp [qstC, Value.oneCell']) ?_))
          rw [← hW7] at gR' ⊢
          refine bodyPost_ret (results_cell_row rfl _ _ w.heap.size 25 _ (0, 0) _ rfl (setRow_heap _ _ _ _ _ _ gR') Try.underlying25 rfl (by kernel_rfl)) rfl ?_
          rw [HG.out, HB.out]
          exact ⟨{ zeroQV with a2 := x, d2 := dd }, by rfl, HT.out.1 _, HT.out.2 _⟩
        · have HB : Hid (behN n 10 = 0) := Lib.hid (by unfold behN; rw [if_neg (by omega)])
          have KG := Lib.hid (rget_odd (some ⟨b, off + 10, none⟩) (n - 10) (c - 10) W5 (by omega) (by omega))
          clear hp
          go_wp2_with fail
          refine KG.out.mono ?_; rintro e w7 ⟨rfl, rfl⟩
          clear ck cad cct cva can coo cfr cmn c8 c9
          obtain ⟨ck, cad, cct, cva, can, coo, cfr, cmn, c8, c9⟩ := S.num
          have zf := frozen15 (j := 9) S.b
          obtain ⟨W7, hW7, S'⟩ : ∃ W, W = W5.setCell ⟨G, 9, none⟩ (.slice none 0 0) ∧ GueS W0 W G zeroQV { zeroQ with k := 23, ad := numAt n f 5, ct := numAt n f 7, fr := numAt n f 1, mn := numAt n f 3, nr := 0, R := getF (fun i => f (10 + i)) } := ⟨_, rfl, S.set rfl (none_at _ rfl rfl) (nil_off _ _) (nil_off _ _)⟩
          clear S
          have S := S'
          clear S'
          have b' := S.b
          have gR' := HX.out _ S.x
          rw [hW7] at b' gR'
          have HT := Lib.hid (gue_told S He.out hz0 (Fresh.nil _) (Fresh.nil _))
          go_wp2_with (first
            | (refine wpList_load_row rfl 25 (.tmp 3) rfl (G) rfl 25 _ (0, 0) _ b' Try.underlying25 rfl (by kernel_rfl) ?_)
            | (refine wpList_store_row rfl 25 (.tmp 2) (.tmp 100) rfl (w.heap.size) _ rfl rfl 25 _ gR' (by kernel_rfl) rfl (by simp [qstC, Value.oneCell']) ?_))
          rw [← hW7] at gR' ⊢
          refine bodyPost_ret (results_cell_row rfl _ _ w.heap.size 25 _ (0, 0) _ rfl (setRow_heap _ _ _ _ _ _ gR') Try.underlying25 rfl (by kernel_rfl)) rfl ?_
          rw [HG.out, HB.out]
          exact ⟨zeroQV, by rfl, HT.out.1 _, HT.out.2 _⟩
      · have h6I : ¬ (10 : Int) < (n : Int) := by omega
        have HB : Hid (behN n 10 = 0) := Lib.hid (by unfold behN; rw [if_neg (by omega)])
        have b' := S.b
        have gR' := HX.out _ S.x
        have HT := Lib.hid (gue_told S He.out hz0 (Fresh.nil _) (Fresh.nil _))
        go_wp2_with (first
          | (refine wpList_load_row rfl 25 (.tmp 3) rfl (G) rfl 25 _ (0, 0) _ b' Try.underlying25 rfl (by kernel_rfl) ?_)
          | (refine wpList_store_row rfl 25 (.tmp 2) (.tmp 100) rfl (w.heap.size) _ rfl rfl 25 _ gR' (by kernel_rfl) rfl (by simp [qstC, Value.oneCell']) ?_))
        refine bodyPost_ret (results_cell_row rfl _ _ w.heap.size 25 _ (0, 0) _ rfl (setRow_heap _ _ _ _ _ _ gR') Try.underlying25 rfl (by kernel_rfl)) rfl ?_
        rw [HG.out, HB.out]
        exact ⟨zeroQV, by rfl, none_at _ rfl rfl, HT.out.2 _⟩
end Go.Proofs.Ytokfgdjkafiicaa
