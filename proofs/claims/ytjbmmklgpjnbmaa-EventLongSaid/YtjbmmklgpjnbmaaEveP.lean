/-
  CONTRACTS: package event (layer 19): 'ES w p F E': the log at p stands as E; F: the blocks that it may change (its own, its ring's).
-/
import Derived.Test.YtjbmmklgpjnbmaaEveC
import Derived.Test.YtjbmmklgpjnbmaaRingC
import Derived.Test.YtjbmmklgpjnbmaaBitsB
import Derived.Test.YtjbmmklgpjnbmaaWordN
import Derived.Test.YtjbmmklgpjnbmaaCat
import Derived.Deep.DeepCutAuto
import Derived.StillTailTactics
namespace Go.Proofs.Ytjbmmklgpjnbmaa
open Go.RowKit
set_option linter.unusedVariables false
set_option maxRecDepth 100000

def elgC (r : Nat) (n : Int) : Array Value := #[.pointer (some ⟨r, 0, none⟩), .int .u16 n]
def ES (w : World) (p : Nat) (F : Nat → Prop) (E : Eve) : Prop :=
  ∃ r Fr, (∀ i, F i ↔ (i = p ∨ Fr i)) ∧ ¬ Fr p ∧ w.heap[p]? = some (.cells (elgC r E.n) 55 (0, 0)) ∧ RG w r Fr 64 E.L ∧ EveW E
theorem lt_of_heapE {w : World} {p : Nat} {o : Obj} (h : w.heap[p]? = some o) : p < w.heap.size := by
  rcases Nat.lt_or_ge p w.heap.size with hlt | hge
  · exact hlt
  · rw [Array.getElem?_eq_none hge] at h; cases h
theorem ES.keep {F G : Nat → Prop} {w w' : World} {p : Nat} {E : Eve} (h : ES w p F E) (k : Keep G w w') (hG : ∀ i, F i → ¬ G i) : ES w' p F E := by
  obtain ⟨r, Fr, h1, h2, h3, h4, h5⟩ := h
  exact ⟨r, Fr, h1, h2, (k.block p (lt_of_heapE h3) (hG p ((h1 p).2 (.inl rfl)))).trans h3, h4.keep k (fun i hi => hG i ((h1 i).2 (.inr hi))), h5⟩
theorem ES.lt {F : Nat → Prop} {w : World} {p : Nat} {E : Eve} (h : ES w p F E) : ∀ i, F i → i < w.heap.size := by
  obtain ⟨r, Fr, h1, h2, h3, h4, h5⟩ := h
  intro i hi
  rcases (h1 i).1 hi with e | e
  · rw [e]; exact lt_of_heapE h3
  · exact h4.lt i e
theorem ES.bd {F : Nat → Prop} {w : World} {p : Nat} {E : Eve} (h : ES w p F E) : EveW E := by obtain ⟨r, Fr, h1, h2, h3, h4, h5⟩ := h; exact h5
theorem ES.ext {F : Nat → Prop} {w w' : World} {p : Nat} {E : Eve} (h : ES w p F E) (x : Ext w w') : ES w' p F E := h.keep (G := fun _ => False) (.of_ext x) (fun _ _ e => e)
/-- A log in whose ring something was done. -/
theorem ES.ring {Fr G : Nat → Prop} {w w' : World} {p r : Nat} {n : Int} {L : List Int} (h2 : ¬ Fr p) (h3 : w.heap[p]? = some (.cells (elgC r n) 55 (0, 0))) (h5 : EveW ⟨L, n⟩) (k : Keep Fr w w') (y : RG w' r G 64 L) (g : Grows Fr G w) :
    ES w' p (fun i => i = p ∨ G i) ⟨L, n⟩ ∧ ¬ G p ∧ w'.heap[p]? = some (.cells (elgC r n) 55 (0, 0)) := by
  have hG : ¬ G p := fun hp => (g p hp).elim h2 (fun hl => absurd (lt_of_heapE h3) (by omega))
  have hb := (k.block p (lt_of_heapE h3) h2).trans h3
  exact ⟨⟨r, G, fun i => Iff.rfl, hG, hb, y, h5⟩, hG, hb⟩
/-- The count is stored. -/
theorem ES.count_put {G : Nat → Prop} {w : World} {p r : Nat} {n m : Int} {L : List Int} (hG : ¬ G p) (h3 : w.heap[p]? = some (.cells (elgC r n) 55 (0, 0))) (y : RG w r G 64 L) (hE : EveW ⟨L, m⟩) :
    ES (w.setCell ⟨p, 1, none⟩ (.int .u16 m)) p (fun i => i = p ∨ G i) ⟨L, m⟩ ∧ Keep (fun i => i = p) w (w.setCell ⟨p, 1, none⟩ (.int .u16 m)) :=
  ⟨⟨r, G, fun i => Iff.rfl, hG, heap_setCell_same _ _ _ _ _ _ h3, y.keep (keepCellM w p 1 _) (fun i hi e => hG (e ▸ hi)), hE⟩, keepCellM w p 1 _⟩
theorem Grows.low {F G : Nat → Prop} {w w' : World} (g : Grows F G w') (x : Ext w w') : Grows F G w := fun i hi => (g i hi).imp id (fun h => Nat.le_trans x.size h)
theorem frozenE {w : World} {B j : Nat} {cs : Array Value} {t : TypeId} (h : w.heap[B]? = some (.cells cs t (0, 0))) : w.frozen? ⟨B, j, none⟩ = false := by simp [World.frozen?, h]

theorem emade_v (p r : Nat) (w : World) (c : w.cell? ⟨p, 0, none⟩ = some (.pointer (some ⟨r, 0, none⟩))) : Calls Try.prog 28 #[.pointer (some ⟨p, 0, none⟩)] w fun e w' => e = .returned (.bool true) ∧ w' = w := by
  go_enter Try.func28, Try.ntmps28
  go_wp2
  go_ret
  exact ⟨rfl, rfl⟩
theorem emade_nil (w : World) : Calls Try.prog 28 #[.pointer none] w fun e w' => e = .returned (.bool false) ∧ w' = w := by
  go_enter Try.func28, Try.ntmps28
  go_wp2
  go_ret
  exact ⟨rfl, rfl⟩
theorem enew_any (w : World) : Calls Try.prog 6 #[] w fun e w' => ∃ p F, e = .returned (.pointer (some ⟨p, 0, none⟩)) ∧ Ext w w' ∧ ES w' p F newE ∧ Above w F := by
  have HN := gnew_ok 64 w (by decide) (by decide)
  rw [show ((64 : Nat) : Int) = 64 from rfl] at HN
  have HN := Lib.hid HN
  go_enter Try.func6, Try.ntmps6
  go_wp2_with fail
  refine HN.out.mono ?_; rintro e w1 ⟨t, Ft, rfl, x1, y1, a1⟩
  go_wp2
  go_ret
  refine ⟨_, fun i => i = w1.heap.size ∨ Ft i, rfl, x1.trans (Ext.alloc _ _), ⟨t, Ft, fun i => Iff.rfl, fun h => absurd (y1.lt _ h) (by omega), heap_alloc_new w1 _, y1.ext (Ext.alloc _ _), newE_w⟩, ?_⟩
  rintro i (rfl | h)
  · exact x1.size
  · exact a1 i h
/-- add: the byte of the flags is put. -/
theorem eadd_any (p r : Nat) (Fr : Nat → Prop) (L : List Int) (b : Option Addr) (n c : Nat) (fl : Nat → Bool) (v : Int) (w : World) (c0 : w.cell? ⟨p, 0, none⟩ = some (.pointer (some ⟨r, 0, none⟩))) (h4 : RG w r Fr 64 L)
    (ha : HoldsG Value.bool w b n fl) (hc : n ≤ c) (hm : c ≤ maxLen) (hv : (flF fl n : Int) = v) (v0 : 0 ≤ v) (v1 : v < 256) :
    Calls Try.prog 26 #[.pointer (some ⟨p, 0, none⟩), .slice b n c] w fun e w' => ∃ G, e = .returned (.tuple #[]) ∧ Keep Fr w w' ∧ RG w' r G 64 (putL L 64 v) ∧ Grows Fr G w := by
  have KF := Lib.hid (fun W (x : Ext w W) => flags_any b n c fl W (ha.ext x) (by unfold maxLen at hm; omega) hc hm)
  rw [hv] at KF
  have KP := Lib.hid (fun W (x : Ext w W) => gput_any r 64 Fr L v W (h4.ext x) v0 v1)
  clear ha h4 hv hm hc
  go_enter Try.func26, Try.ntmps26
  go_wp2_with fail
  refine (emade_v p r w c0).mono ?_; rintro e w' ⟨rfl, rfl⟩
  go_wp2_with fail
  have hd := Ext.drew w'
  have c0' : w'.drew.cell? ⟨p, 0, none⟩ = some (.pointer (some ⟨r, 0, none⟩)) := c0
  clear c0
  refine wp_region_still_tail 7 (by kernel_rfl) (by kernel_rfl) ?_
  simp only [List.take_succ_cons, List.take_zero, List.drop_succ_cons, List.drop_zero]
  iterate 6 still_step
  still_call ((KF.out _ hd).mono fun e w2 h => ⟨h.1, h.2.symm⟩)
  refine wpStill_nil ?_
  go_wp2_with fail
  refine (KP.out _ hd).mono ?_; rintro e w2 ⟨rfl, G, k2, y2, g2⟩
  go_wp2
  go_returns
  exact ⟨G, rfl, (Keep.of_ext hd).trans k2 fun i hi => .inl hi, y2, g2⟩
theorem ES.put {F G Fr : Nat → Prop} {w w' : World} {p r : Nat} {E : Eve} {v : Int} (h1 : ∀ i, F i ↔ (i = p ∨ Fr i)) (h2 : ¬ Fr p) (h3 : w.heap[p]? = some (.cells (elgC r E.n) 55 (0, 0))) (h5 : EveW E) (v0 : 0 ≤ v) (v1 : v < 256) (k : Keep Fr w w') (y : RG w' r G 64 (putL E.L 64 v)) (g : Grows Fr G w) :
    ∃ G', Keep F w w' ∧ ES w' p G' (putE E v) ∧ Grows F G' w := by
  obtain ⟨z1, z2, z3⟩ := ES.ring h2 h3 (putE_w h5 v0 v1) k y g
  refine ⟨_, k.mono fun i hi => (h1 i).2 (.inr hi), z1, ?_⟩
  rintro j (rfl | hj)
  · exact .inl ((h1 _).2 (.inl rfl))
  · exact (g j hj).imp (fun hi => (h1 j).2 (.inr hi)) id
theorem heard_bits (s o l a : Bool) : (flF (ofB [false, s, false, false, o, l, a, true]) 8 : Int) = heardB s o l a := by cases s <;> cases o <;> cases l <;> cases a <;> rfl
theorem said_bits (c : Int) (l : Bool) : (flF (ofB [decide (1 ≤ c) && decide (c ≤ 3), c == 4, false, false, false, l, true]) 7 : Int) = saidB c l := by
  unfold saidB
  rw [show decide (1 ≤ c ∧ c ≤ 3) = (decide (1 ≤ c) && decide (c ≤ 3)) from by simp [Bool.decide_and], show (c == 4) = decide (c = 4) from rfl]
  cases (decide (1 ≤ c) && decide (c ≤ 3)) <;> cases decide (c = 4) <;> cases l <;> rfl
theorem eheard_any (p : Nat) (F : Nat → Prop) (E : Eve) (s o l a : Bool) (w : World) (h : ES w p F E) : Calls Try.prog 7 #[.pointer (some ⟨p, 0, none⟩), .bool s, .bool o, .bool l, .bool a] w fun e w' => ∃ G, e = .returned (.tuple #[]) ∧ Keep F w w' ∧ ES w' p G (putE E (heardB s o l a)) ∧ Grows F G w := by
  obtain ⟨r, Fr, h1, h2, h3, h4, h5⟩ := h
  have x1 := Ext.alloc w (.cells #[.bool false, .bool s, .bool false, .bool false, .bool o, .bool l, .bool a, .bool true] 4)
  have hb := heardB_bd s o l a
  have g3 := x1.block h3
  have HC := Lib.hid (eadd_any p r Fr E.L _ 8 8 _ (heardB s o l a) _ (cell_of_heap g3 rfl) (h4.ext x1) (HoldsG.litB w [false, s, false, false, o, l, a, true] 4 _ rfl 8 rfl) (Nat.le_refl _) (by unfold maxLen; omega) (heard_bits s o l a) (by omega) hb.2)
  clear h4
  go_enter Try.func7, Try.ntmps7
  go_wp2_with fail
  refine HC.out.mono ?_; rintro e w2 ⟨G, rfl, k2, y2, g2⟩
  go_wp2
  go_returns
  obtain ⟨G', a1, a2, a3⟩ := ES.put h1 h2 g3 h5 (by omega) hb.2 k2 y2 g2
  exact ⟨G', rfl, (Keep.of_ext x1).trans a1 fun i hi => .inl hi, a2, a3.low x1⟩
theorem esaid_any (p : Nat) (F : Nat → Prop) (E : Eve) (c : Int) (l : Bool) (w : World) (h : ES w p F E) (hc : (Lit.int .i64 c).wf = true) : Calls Try.prog 9 #[.pointer (some ⟨p, 0, none⟩), .int .i64 c, .bool l] w fun e w' => ∃ G, e = .returned (.tuple #[]) ∧ Keep F w w' ∧ ES w' p G (putE E (saidB c l)) ∧ Grows F G w := by
  obtain ⟨r, Fr, h1, h2, h3, h4, h5⟩ := h
  obtain ⟨g, hg⟩ : ∃ g, g = decide (1 ≤ c) := ⟨_, rfl⟩
  obtain ⟨q, hq⟩ : ∃ q, q = decide (c ≤ 3) := ⟨_, rfl⟩
  obtain ⟨d, hd⟩ : ∃ d, d = (c == 4) := ⟨_, rfl⟩
  have hv := said_bits c l
  rw [← hg, ← hq, ← hd] at hv
  have x1 := Ext.alloc w (.cells #[.bool (g && q), .bool d, .bool false, .bool false, .bool false, .bool l, .bool true] 4)
  have hb := saidB_bd c l
  have g3 := x1.block h3
  have HC := Lib.hid (eadd_any p r Fr E.L _ 7 7 _ (saidB c l) _ (cell_of_heap g3 rfl) (h4.ext x1) (HoldsG.litB w [g && q, d, false, false, false, l, true] 4 _ rfl 7 rfl) (Nat.le_refl _) (by unfold maxLen; omega) hv hb.1 (by omega))
  have HB := Lib.hid hb
  clear h4 hv hb
  go_enter Try.func9, Try.ntmps9
  have e1 := hg.symm
  have e2 := hq.symm
  have e3 := hd.symm
  clear hg hq hd
  cases g
  all_goals
    go_wp2_with fail
    refine HC.out.mono ?_; rintro e w2 ⟨G, rfl, k2, y2, g2⟩
    go_wp2
    go_returns
    obtain ⟨G', a1, a2, a3⟩ := ES.put h1 h2 g3 h5 HB.out.1 (by have := HB.out.2; omega) k2 y2 g2
    exact ⟨G', rfl, (Keep.of_ext x1).trans a1 fun i hi => .inl hi, a2, a3.low x1⟩
theorem entered_bits : (flF (ofB [false, false, true]) 3 : Int) = 4 := by rfl
theorem eentered_any (p : Nat) (F : Nat → Prop) (E : Eve) (w : World) (h : ES w p F E) : Calls Try.prog 11 #[.pointer (some ⟨p, 0, none⟩)] w fun e w' => ∃ G, e = .returned (.tuple #[]) ∧ Keep F w w' ∧ ES w' p G (putE E 4) ∧ Grows F G w := by
  obtain ⟨r, Fr, h1, h2, h3, h4, h5⟩ := h
  have x1 := Ext.alloc w (.cells #[.bool false, .bool false, .bool true] 4)
  have g3 := x1.block h3
  have HC := Lib.hid (eadd_any p r Fr E.L _ 3 3 _ 4 _ (cell_of_heap g3 rfl) (h4.ext x1) (HoldsG.litB w [false, false, true] 4 _ rfl 3 rfl) (Nat.le_refl _) (by unfold maxLen; omega) entered_bits (by decide) (by decide))
  clear h4
  go_enter Try.func11, Try.ntmps11
  go_wp2_with fail
  refine HC.out.mono ?_; rintro e w2 ⟨G, rfl, k2, y2, g2⟩
  go_wp2
  go_returns
  obtain ⟨G', a1, a2, a3⟩ := ES.put h1 h2 g3 h5 (by decide) (by decide) k2 y2 g2
  exact ⟨G', rfl, (Keep.of_ext x1).trans a1 fun i hi => .inl hi, a2, a3.low x1⟩
theorem rest_bits : (flF (ofB []) 0 : Int) = 0 := by rfl
theorem erestarted_any (p : Nat) (F : Nat → Prop) (E : Eve) (b : Bool) (w : World) (h : ES w p F E) : Calls Try.prog 13 #[.pointer (some ⟨p, 0, none⟩), .bool b] w fun e w' => ∃ G, e = .returned (.tuple #[]) ∧ Keep F w w' ∧ ES w' p G (restE E b) ∧ Grows F G w := by
  obtain ⟨r, Fr, h1, h2, h3, h4, h5⟩ := h
  have c0 : w.cell? ⟨p, 0, none⟩ = some (.pointer (some ⟨r, 0, none⟩)) := cell_of_heap h3 rfl
  have HR := Lib.hid (restE_w h5 b)
  have fin : ∀ (L : List Int) (w1 w2 : World) (G1 G2 : Nat → Prop), EveW ⟨putL L 64 0, 0⟩ → Keep Fr w w1 → Grows Fr G1 w → RG w1 r G1 64 L → Keep G1 w1 w2 → RG w2 r G2 64 (putL L 64 0) → Grows G1 G2 w1 →
      (w2.cell? ⟨p, 1, none⟩ = some (.int .u16 E.n) ∧ w2.frozen? ⟨p, 1, none⟩ = false) ∧ ∃ G, Keep F w (w2.setCell ⟨p, 1, none⟩ (.int .u16 0)) ∧ ES (w2.setCell ⟨p, 1, none⟩ (.int .u16 0)) p G ⟨putL L 64 0, 0⟩ ∧ Grows F G w := by
    intro L w1 w2 G1 G2 hE k1 g1 y1 k2 y2 g2
    have k3 : Keep Fr w w2 := k1.trans k2 g1
    have g3 : Grows Fr G2 w := g1.trans g2 k1.size
    have hG : ¬ G2 p := fun hp => (g3 p hp).elim h2 (fun hl => absurd (lt_of_heapE h3) (by omega))
    have hb := (k3.block p (lt_of_heapE h3) h2).trans h3
    obtain ⟨z1, z2⟩ := ES.count_put (m := 0) hG hb y2 hE
    refine ⟨⟨cell_of_heap hb rfl, frozenE hb⟩, _, (k3.mono fun i hi => (h1 i).2 (.inr hi)).trans z2 fun i hi => .inl (hi ▸ (h1 p).2 (.inl rfl)), z1, ?_⟩
    rintro j (rfl | hj)
    · exact .inl ((h1 _).2 (.inl rfl))
    · exact (g3 j hj).imp (fun hi => (h1 j).2 (.inr hi)) id
  have HF := Lib.hid fin
  have hadd := fun (L : List Int) (Fq : Nat → Prop) (W : World) (c : W.cell? ⟨p, 0, none⟩ = some (.pointer (some ⟨r, 0, none⟩))) (y : RG W r Fq 64 L) => eadd_any p r Fq L none 0 0 (ofB []) 0 W c y (.inl rfl) (Nat.le_refl _) (Nat.zero_le _) rest_bits (by decide) (by decide)
  have HA := Lib.hid hadd
  have HC := Lib.hid (gclear_any r 64 Fr E.L w h4)
  have H2 := Lib.hid (And.intro h2 h4)
  clear fin hadd h4 h5 h2 h1
  cases b
  · go_enter Try.func13, Try.ntmps13
    go_wp2_with fail
    refine (emade_v p r w c0).mono ?_; rintro e w' ⟨rfl, rfl⟩
    go_wp2_with fail
    refine (HA.out E.L Fr w' c0 H2.out.2).mono ?_; rintro e w2 ⟨G2, rfl, k2, y2, g2⟩
    obtain ⟨⟨c1, f1⟩, HZ⟩ := HF.out E.L w' w2 Fr G2 HR.out (Keep.refl _ _) (Grows.refl _ _) H2.out.2 k2 y2 g2
    have HZ := Lib.hid HZ
    clear k2 y2 g2
    go_wp2
    go_returns
    obtain ⟨G, a1, a2, a3⟩ := HZ.out
    exact ⟨G, rfl, a1, a2, a3⟩
  · go_enter Try.func13, Try.ntmps13
    go_wp2_with fail
    refine (emade_v p r w c0).mono ?_; rintro e w' ⟨rfl, rfl⟩
    go_wp2_with fail
    refine HC.out.mono ?_; rintro e w1 ⟨rfl, G1, k1, y1, g1⟩
    have c1 : w1.cell? ⟨p, 0, none⟩ = some (.pointer (some ⟨r, 0, none⟩)) := k1.cell H2.out.1 c0
    clear c0
    go_wp2_with fail
    refine (HA.out [] G1 w1 c1 y1).mono ?_; rintro e w2 ⟨G2, rfl, k2, y2, g2⟩
    obtain ⟨⟨c2, f2⟩, HZ⟩ := HF.out [] w1 w2 G1 G2 HR.out k1 g1 y1 k2 y2 g2
    have HZ := Lib.hid HZ
    clear k1 y1 g1 k2 y2 g2
    go_wp2
    go_returns
    obtain ⟨G, a1, a2, a3⟩ := HZ.out
    exact ⟨G, rfl, a1, a2, a3⟩
theorem edone_any (p : Nat) (F : Nat → Prop) (E : Eve) (w : World) (h : ES w p F E) : Calls Try.prog 15 #[.pointer (some ⟨p, 0, none⟩)] w fun e w' => ∃ G, e = .returned (.tuple #[]) ∧ Keep F w w' ∧ ES w' p G (doneE E) ∧ Grows F G w := by
  obtain ⟨r, Fr, h1, h2, h3, h4, h5⟩ := h
  have c0 : w.cell? ⟨p, 0, none⟩ = some (.pointer (some ⟨r, 0, none⟩)) := cell_of_heap h3 rfl
  have c1 : w.cell? ⟨p, 1, none⟩ = some (.int .u16 E.n) := cell_of_heap h3 rfl
  have f1 := frozenE (j := 1) h3
  have hw : IntKind.u16.wrap (E.n + 1) = (E.n + 1) % 65536 := by rw [IntKind.wrap_u16]
  have HZ := Lib.hid (ES.count_put (m := (E.n + 1) % 65536) h2 h3 h4 (doneE_w h5))
  have H1 := Lib.hid h1
  clear h1 h2 h3 h4 h5
  unfold doneE
  generalize (E.n + 1) % 65536 = m at *
  go_enter Try.func15, Try.ntmps15
  go_wp2_with fail
  refine (emade_v p r w c0).mono ?_; rintro e w' ⟨rfl, rfl⟩
  go_wp2
  go_returns
  refine ⟨_, rfl, HZ.out.2.mono fun i hi => hi ▸ (H1.out p).2 (.inl rfl), HZ.out.1, ?_⟩
  exact fun i hi => .inl ((H1.out i).2 hi)
theorem edone_nil (w : World) : Calls Try.prog 15 #[.pointer none] w fun e w' => e = .returned (.tuple #[]) ∧ Ext w w' := by
  go_enter Try.func15, Try.ntmps15
  go_wp2_with fail
  refine (emade_nil w).mono ?_; rintro e w' ⟨rfl, rfl⟩
  go_wp2
  go_returns
  exact ⟨rfl, Ext.refl _⟩
theorem ecount_any (p : Nat) (F : Nat → Prop) (E : Eve) (w : World) (h : ES w p F E) : Calls Try.prog 17 #[.pointer (some ⟨p, 0, none⟩)] w fun e w' => e = .returned (.int .u16 E.n) ∧ Ext w w' := by
  obtain ⟨r, Fr, h1, h2, h3, h4, h5⟩ := h
  have c1 : w.cell? ⟨p, 1, none⟩ = some (.int .u16 E.n) := cell_of_heap h3 rfl
  clear h1 h2 h3 h4 h5
  go_enter Try.func17, Try.ntmps17
  go_wp2
  go_ret
  exact ⟨rfl, Ext.refl _⟩
theorem ecount_nil (w : World) : Calls Try.prog 17 #[.pointer none] w fun e w' => e = .returned (.int .u16 0) ∧ Ext w w' := by
  go_enter Try.func17, Try.ntmps17
  go_wp2
  go_ret
  exact ⟨rfl, Ext.refl _⟩
/-- List, told that it is new. -/
theorem elist_any (p : Nat) (F : Nat → Prop) (E : Eve) (w : World) (h : ES w p F E) : Calls Try.prog 19 #[.pointer (some ⟨p, 0, none⟩)] w fun e w' => ∃ b q, e = .returned (.slice b E.L.length q) ∧ HoldsG (Value.int .u8) w' b E.L.length (ofL E.L) ∧ E.L.length ≤ q ∧ q ≤ maxLen ∧ Ext w w' := by
  obtain ⟨r, Fr, h1, h2, h3, h4, h5⟩ := h
  have c0 : w.cell? ⟨p, 0, none⟩ = some (.pointer (some ⟨r, 0, none⟩)) := cell_of_heap h3 rfl
  have HL := Lib.hid (glist_any r 64 Fr E.L w h4)
  clear h1 h2 h3 h4 h5
  go_enter Try.func19, Try.ntmps19
  go_wp2_with fail
  refine (emade_v p r w c0).mono ?_; rintro e w' ⟨rfl, rfl⟩
  go_wp2_with fail
  refine HL.out.mono ?_; rintro e w2 ⟨b, q, rfl, l1, l2, hh, x2⟩
  go_wp2
  go_ret
  exact ⟨b, q, rfl, hh, l1, l2, x2⟩
theorem elist_nil (w : World) : Calls Try.prog 19 #[.pointer none] w fun e w' => ∃ b q, e = .returned (.slice b 0 q) ∧ Ext w w' := by
  go_enter Try.func19, Try.ntmps19
  go_wp2_with fail
  refine (emade_nil w).mono ?_; rintro e w' ⟨rfl, rfl⟩
  go_wp2
  go_ret
  exact ⟨_, _, rfl, Ext.refl _⟩
theorem eshort_any (p : Nat) (F : Nat → Prop) (E : Eve) (w : World) (h : ES w p F E) : Calls Try.prog 20 #[.pointer (some ⟨p, 0, none⟩)] w fun e w' => ∃ b q, e = .returned (.slice b 4 q) ∧ HoldsG (Value.int .u8) w' b 4 (shF E) ∧ 4 ≤ q ∧ q ≤ maxLen ∧ Ext w w' := by
  obtain ⟨r, Fr, h1, h2, h3, h4, h5⟩ := h
  have c0 : w.cell? ⟨p, 0, none⟩ = some (.pointer (some ⟨r, 0, none⟩)) := cell_of_heap h3 rfl
  have c1 : w.cell? ⟨p, 1, none⟩ = some (.int .u16 E.n) := cell_of_heap h3 rfl
  have x1 := Ext.alloc w (.cells #[.int .u16 0, .int .u16 E.n] 23)
  have HP := Lib.hid (put_new (some ⟨w.heap.size, 0, none⟩) 2 2 (ofL [0, E.n]) _ (Holds.lit w [0, E.n] 23 _ rfl 2 rfl) (by decide) (fun i hi => by
    have hi2 : i = 0 ∨ i = 1 := by omega
    rcases hi2 with rfl | rfl
    · exact ⟨Int.le_refl 0, by show (0 : Int) < 65536; decide⟩
    · exact h5.n))
  clear h1 h2 h3 h4 h5
  go_enter Try.func20, Try.ntmps20
  go_wp2_with fail
  refine (emade_v p r w c0).mono ?_; rintro e w' ⟨rfl, rfl⟩
  go_wp2_with fail
  refine HP.out.mono ?_; rintro e w2 ⟨b, d, rfl, d1, d2, hh, hfr, x2⟩
  go_wp2
  go_ret
  exact ⟨b, d, rfl, hh, d1, d2, Ext.trans x1 x2⟩
theorem long_cat (E : Eve) (m : Int) (i : Nat) : catF 1 (fun _ => 6 + (E.L.length : Int)) (catF (4 + 2 * 1) (catF 4 (shF E) (putF (ofL [m]))) (ofL E.L)) i = lgF E m i := by
  unfold catF lgF
  by_cases h0 : i = 0
  · rw [if_pos (by omega), if_pos h0]
  · rw [if_neg (by omega), if_neg h0]
    by_cases h7 : i < 7
    · rw [if_pos (by omega), if_pos h7]
      rcases (show i = 1 ∨ i = 2 ∨ i = 3 ∨ i = 4 ∨ i = 5 ∨ i = 6 by omega) with rfl | rfl | rfl | rfl | rfl | rfl <;> rfl
    · rw [if_neg (by omega), if_neg h7]
      congr 1
set_option maxHeartbeats 2000000 in
theorem elong_any (p : Nat) (F : Nat → Prop) (E : Eve) (m : Int) (w : World) (h : ES w p F E) (m0 : 0 ≤ m) (m1 : m < 65536) : Calls Try.prog 22 #[.pointer (some ⟨p, 0, none⟩), .int .u16 m] w fun e w' => ∃ b q, e = .returned (.slice b (lgN E) q) ∧ HoldsG (Value.int .u8) w' b (lgN E) (lgF E m) ∧ lgN E ≤ q ∧ q ≤ maxLen ∧ Ext w w' := by
  have HS := Lib.hid (fun W (x : Ext w W) => eshort_any p F E W (h.ext x))
  have HL := Lib.hid (fun W (x : Ext w W) => elist_any p F E W (h.ext x))
  have hl := h.bd.l
  obtain ⟨r, Fr, h1, h2, h3, h4, h5⟩ := h
  have c0 : w.cell? ⟨p, 0, none⟩ = some (.pointer (some ⟨r, 0, none⟩)) := cell_of_heap h3 rfl
  have HP := Lib.hid (fun W => put_new (some ⟨W.heap.size, 0, none⟩) 1 1 (ofL [m]) (W.alloc (.cells #[.int .u16 m] 23)) (Holds.lit W [m] 23 _ rfl 1 rfl) (by decide) (fun i hi => by
    obtain rfl : i = 0 := by omega
    exact ⟨m0, m1⟩))
  have HE := Lib.hid (long_cat E m)
  have hlg : lgN E = 1 + (4 + 2 * 1 + E.L.length) := by unfold lgN; omega
  rw [hlg]
  clear h1 h2 h3 h4 h5 hlg
  generalize E.L.length = n at *
  have hw8 : IntKind.u8.wrap (((4 + 2 * 1 + n : Nat) : Int)) = 6 + (n : Int) := by rw [IntKind.wrap_u8]; omega
  go_enter Try.func22, Try.ntmps22
  go_wp2_with fail
  refine (emade_v p r w c0).mono ?_; rintro e w' ⟨rfl, rfl⟩
  go_wp2_with fail
  refine (HS.out _ (Ext.refl _)).mono ?_; rintro e w1 ⟨b1, q1, rfl, t1, l1, u1, x1⟩
  go_wp2_with fail
  have y1 := Ext.alloc w1 (.cells #[.int .u16 m] 23)
  refine (HP.out w1).mono ?_; rintro e w2 ⟨b2, q2, rfl, l2, u2, t2, f2, x2⟩
  have x2 : Ext w1 w2 := Ext.trans y1 x2
  have t1 := t1.ext x2
  have x2 := x1.trans x2
  clear y1 x1
  go_wp2_with fail
  refine (HL.out _ x2).mono ?_; rintro e w3 ⟨b3, q3, rfl, t3, l3, u3, x3⟩
  have t1 := t1.ext x3
  have t2 := t2.ext x3
  have x3 := x2.trans x3
  clear x2 HS HL HP f2
  have HC := Lib.hid (concat_three w3 b1 b2 b3 4 q1 (2 * 1) q2 n q3 (shF E) (putF (ofL [m])) (ofL E.L) t1 t2 t3 (by omega))
  have y3 := Ext.alloc w3 (.cells #[.slice b1 4 q1, .slice b2 (2 * 1) q2, .slice b3 n q3] 27)
  clear t1 t2 t3
  go_wp2_with fail
  refine HC.out.mono ?_; rintro e w4 ⟨b4, q4, rfl, l4, u4, t4, f4, x4⟩
  have x4 : Ext w' w4 := x3.trans (Ext.trans y3 x4)
  clear HC y3 x3
  have y4 := Ext.alloc w4 (.cells #[.int .u8 (6 + (n : Int))] 5)
  have HD := concat_two (w4.alloc (.cells #[.int .u8 (6 + (n : Int))] 5)) (some ⟨w4.heap.size, 0, none⟩) b4 1 1 (4 + 2 * 1 + n) q4 (fun _ => 6 + (n : Int)) _ (one_held (cell_of_heap (heap_alloc_new w4 _) rfl)) (t4.ext y4) (by omega)
  rw [show (w4.alloc (.cells #[.int .u8 (6 + (n : Int))] 5)).heap.size = w4.heap.size + 1 from by simp] at HD
  have y5 := Ext.alloc (w4.alloc (.cells #[.int .u8 (6 + (n : Int))] 5)) (.cells #[.slice (some ⟨w4.heap.size, 0, none⟩) 1 1, .slice b4 (4 + 2 * 1 + n) q4] 27)
  have HD := Lib.hid HD
  clear t4
  go_wp2_with fail
  refine HD.out.mono ?_; rintro e w5 ⟨b5, q5, rfl, l5, u5, t5, f5, x5⟩
  go_wp2
  go_ret
  exact ⟨b5, q5, rfl, t5.congr (fun i _ => HE.out i), l5, u5, x4.trans (y4.trans (Ext.trans y5 x5))⟩
set_option maxHeartbeats 2000000 in
theorem eclone_any (p : Nat) (F : Nat → Prop) (E : Eve) (w : World) (h : ES w p F E) : Calls Try.prog 16 #[.pointer (some ⟨p, 0, none⟩)] w fun e w' => ∃ p' F', e = .returned (.pointer (some ⟨p', 0, none⟩)) ∧ Ext w w' ∧ ES w' p' F' E ∧ Above w F' := by
  obtain ⟨r, Fr, h1, h2, h3, h4, h5⟩ := h
  have c0 : w.cell? ⟨p, 0, none⟩ = some (.pointer (some ⟨r, 0, none⟩)) := cell_of_heap h3 rfl
  have c1 : w.cell? ⟨p, 1, none⟩ = some (.int .u16 E.n) := cell_of_heap h3 rfl
  have hp := lt_of_heapE h3
  have HC := Lib.hid (fun W (x : Ext w W) => gclone_any r 64 Fr E.L W (h4.ext x))
  have HK := Lib.hid (fun W (x : Ext w W) => (⟨x.cell hp c0, x.cell hp c1⟩ : W.cell? ⟨p, 0, none⟩ = some (.pointer (some ⟨r, 0, none⟩)) ∧ W.cell? ⟨p, 1, none⟩ = some (.int .u16 E.n)))
  clear h1 h2 h3 h4 hp
  go_enter Try.func16, Try.ntmps16
  go_wp2_with fail
  have z := Ext.drew w
  have d0 := (HK.out _ z).1
  have d1 := (HK.out _ z).2
  clear c0 c1
  go_region_with (go_at_call 30; refine (HC.out _ (by assumption)).mono ?_; rintro e w2 ⟨r2, G, rfl, x2, y2, a2⟩; have x2 := Ext.trans (by assumption) x2; have d0 := (HK.out _ x2).1; have d1 := (HK.out _ x2).2)
  all_goals
    go_wp2
    go_ret
    refine ⟨_, fun i => i = w2.heap.size ∨ G i, rfl, x2.trans (Ext.alloc _ _), ⟨r2, G, fun i => Iff.rfl, fun h => absurd (y2.lt _ h) (by omega), heap_alloc_new w2 _, y2.ext (Ext.alloc _ _), h5⟩, ?_⟩
    rintro i (rfl | h)
    · exact x2.size
    · exact Nat.le_trans (Nat.le_of_eq rfl) (a2 i h)
theorem eventC : EventC ES where
  keep := ES.keep
  lt := ES.lt
  bd := ES.bd
  new := enew_any
  heard := eheard_any
  said := esaid_any
  entered := eentered_any
  restarted := erestarted_any
  done := edone_any
  doneNil := edone_nil
  count := ecount_any
  countNil := ecount_nil
  list := elist_any
  listNil := elist_nil
  short := eshort_any
  long := elong_any
  clone := eclone_any
end Go.Proofs.Ytjbmmklgpjnbmaa
