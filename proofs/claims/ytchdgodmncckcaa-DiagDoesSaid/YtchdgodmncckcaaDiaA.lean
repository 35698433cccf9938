/-
  CONTRACTS: package diag (layer 18): 'DS w p F D': the state at p stands as D; its calls but Do; what each subfunction does.
-/
import Derived.Test.YtchdgodmncckcaaDiaC
import Derived.Test.YtchdgodmncckcaaDiaP
import Derived.Test.YtchdgodmncckcaaTallyC
import Derived.Deep.DeepCutAuto
import Derived.StillTailTactics
namespace Go.Proofs.Ytchdgodmncckcaa
open Go.RowKit
set_option linter.unusedVariables false
set_option maxRecDepth 100000

def dstC (t : Nat) (D : Dia) : Array Value := #[.pointer (some ⟨t, 0, none⟩), .int .u16 D.reg, .bool D.li, .int .u8 D.de]
def DS (w : World) (p : Nat) (F : Nat → Prop) (D : Dia) : Prop :=
  ∃ t Ft, (∀ i, F i ↔ (i = p ∨ Ft i)) ∧ ¬ Ft p ∧ w.heap[p]? = some (.cells (dstC t D) 53 (0, 0)) ∧ TY w t Ft D.C ∧ DiaW D
theorem lt_of_heapD {w : World} {p : Nat} {o : Obj} (h : w.heap[p]? = some o) : p < w.heap.size := by
  rcases Nat.lt_or_ge p w.heap.size with hlt | hge
  · exact hlt
  · rw [Array.getElem?_eq_none hge] at h; cases h
theorem DS.keep {F G : Nat → Prop} {w w' : World} {p : Nat} {D : Dia} (h : DS w p F D) (k : Keep G w w') (hG : ∀ i, F i → ¬ G i) : DS w' p F D := by
  obtain ⟨t, Ft, h1, h2, h3, h4, h5⟩ := h
  exact ⟨t, Ft, h1, h2, (k.block p (lt_of_heapD h3) (hG p ((h1 p).2 (.inl rfl)))).trans h3, h4.keep k (fun i hi => hG i ((h1 i).2 (.inr hi))), h5⟩
theorem DS.lt {F : Nat → Prop} {w : World} {p : Nat} {D : Dia} (h : DS w p F D) : ∀ i, F i → i < w.heap.size := by
  obtain ⟨t, Ft, h1, h2, h3, h4, h5⟩ := h
  intro i hi
  rcases (h1 i).1 hi with e | e
  · rw [e]; exact lt_of_heapD h3
  · exact h4.lt i e
theorem DS.bd {F : Nat → Prop} {w : World} {p : Nat} {D : Dia} (h : DS w p F D) : DiaW D := by obtain ⟨t, Ft, h1, h2, h3, h4, h5⟩ := h; exact h5
theorem DS.ext {F : Nat → Prop} {w w' : World} {p : Nat} {D : Dia} (h : DS w p F D) (x : Ext w w') : DS w' p F D := h.keep (G := fun _ => False) (.of_ext x) (fun _ _ e => e)
/-- A state in whose counters something was done. -/
theorem DS.counters {Ft G : Nat → Prop} {w w' : World} {p t : Nat} {D : Dia} {f : Nat → Int} (h2 : ¬ Ft p) (h3 : w.heap[p]? = some (.cells (dstC t D) 53 (0, 0))) (h5 : DiaW D) (k : Keep Ft w w') (y : TY w' t G f) (g : Grows Ft G w) :
    DS w' p (fun i => i = p ∨ G i) { D with C := f } ∧ ¬ G p ∧ w'.heap[p]? = some (.cells (dstC t D) 53 (0, 0)) := by
  have hG : ¬ G p := fun hp => (g p hp).elim h2 (fun hl => absurd (lt_of_heapD h3) (by omega))
  have hb := (k.block p (lt_of_heapD h3) h2).trans h3
  exact ⟨⟨t, G, fun i => Iff.rfl, hG, hb, y, ⟨y.small, h5.r, h5.d⟩⟩, hG, hb⟩
/-- One of its own cells is stored into. -/
theorem DS.cell_put {G : Nat → Prop} {w : World} {p t o : Nat} {D D' : Dia} {v : Value} (hG : ¬ G p) (h3 : w.heap[p]? = some (.cells (dstC t D) 53 (0, 0))) (y : TY w t G D'.C) (hD : DiaW D') (he : (dstC t D).setIfInBounds o v = dstC t D') :
    DS (w.setCell ⟨p, o, none⟩ v) p (fun i => i = p ∨ G i) D' ∧ Keep (fun i => i = p) w (w.setCell ⟨p, o, none⟩ v) :=
  ⟨⟨t, G, fun i => Iff.rfl, hG, by rw [← he]; exact heap_setCell_same _ _ _ _ _ _ h3, y.keep (keepCellM w p o v) (fun i hi e => hG (e ▸ hi)), hD⟩, keepCellM w p o v⟩
theorem frozenD {w : World} {B j : Nat} {cs : Array Value} {t : TypeId} (h : w.heap[B]? = some (.cells cs t (0, 0))) : w.frozen? ⟨B, j, none⟩ = false := by simp [World.frozen?, h]

theorem dset_v (p t : Nat) (w : World) (c : w.cell? ⟨p, 0, none⟩ = some (.pointer (some ⟨t, 0, none⟩))) : Calls Try.prog 30 #[.pointer (some ⟨p, 0, none⟩)] w fun e w' => e = .returned (.pointer (some ⟨t, 0, none⟩)) ∧ w' = w := by
  go_enter Try.func30, Try.ntmps30
  go_wp2
  go_ret
  exact ⟨rfl, rfl⟩
theorem dset_nil (w : World) : Calls Try.prog 30 #[.pointer none] w fun e w' => e = .returned (.pointer none) ∧ w' = w := by
  go_enter Try.func30, Try.ntmps30
  go_wp2
  go_ret
  exact ⟨rfl, rfl⟩
theorem dmade_v (p t : Nat) (w : World) (c : w.cell? ⟨p, 0, none⟩ = some (.pointer (some ⟨t, 0, none⟩))) : Calls Try.prog 21 #[.pointer (some ⟨p, 0, none⟩)] w fun e w' => e = .returned (.bool true) ∧ w' = w := by
  go_enter Try.func21, Try.ntmps21
  go_wp2_with fail
  refine (dset_v p t w c).mono ?_; rintro e w' ⟨rfl, rfl⟩
  go_wp2
  go_ret
  exact ⟨rfl, rfl⟩
theorem dmade_nil (w : World) : Calls Try.prog 21 #[.pointer none] w fun e w' => e = .returned (.bool false) ∧ w' = w := by
  go_enter Try.func21, Try.ntmps21
  go_wp2_with fail
  refine (dset_nil w).mono ?_; rintro e w' ⟨rfl, rfl⟩
  go_wp2
  go_ret
  exact ⟨rfl, rfl⟩
theorem dnew_any (w : World) : Calls Try.prog 6 #[] w fun e w' => ∃ p F, e = .returned (.pointer (some ⟨p, 0, none⟩)) ∧ Ext w w' ∧ DS w' p F newD ∧ Above w F := by
  go_enter Try.func6, Try.ntmps6
  go_wp2_with fail
  refine (tnew_any w).mono ?_; rintro e w1 ⟨t, Ft, rfl, x1, y1, a1⟩
  go_wp2
  go_ret
  refine ⟨_, fun i => i = w1.heap.size ∨ Ft i, rfl, x1.trans (Ext.alloc _ _), ⟨t, Ft, fun i => Iff.rfl, fun h => absurd (y1.lt _ h) (by omega), heap_alloc_new w1 _, y1.ext0 (Ext.alloc _ _), newD_w⟩, ?_⟩
  rintro i (rfl | h)
  · exact x1.size
  · exact a1 i h
theorem dcount_any (p : Nat) (F : Nat → Prop) (D : Dia) (i : Int) (w : World) (h : DS w p F D) (hi : (Lit.int .i64 i).wf = true) : Calls Try.prog 11 #[.pointer (some ⟨p, 0, none⟩), .int .i64 i] w fun e w' => ∃ G, e = .returned (.int .i64 (cntE i)) ∧ Keep F w w' ∧ DS w' p G (cntD D i) ∧ Grows F G w := by
  obtain ⟨t, Ft, h1, h2, h3, h4, h5⟩ := h
  have c0 : w.cell? ⟨p, 0, none⟩ = some (.pointer (some ⟨t, 0, none⟩)) := cell_of_heap h3 rfl
  have hF : ∀ i, Ft i → F i := fun i hi => (h1 i).2 (.inr hi)
  by_cases ho : 0 ≤ i ∧ i ≤ 7
  · obtain ⟨k, hk, rfl⟩ : ∃ k : Nat, k < 8 ∧ i = (k : Int) := ⟨i.toNat, by omega, by omega⟩
    have HE : Hid (cntE (k : Int) = 0 ∧ cntD D (k : Int) = { D with C := upd D.C k ((D.C k + 1) % 65536) }) := Lib.hid ⟨if_pos (by omega), by unfold cntD; rw [if_pos (by omega), Int.toNat_natCast]⟩
    have HC := Lib.hid (tadd_ok t Ft D.C k 1 w h4 hk (by decide) (by decide))
    clear h4 ho hi hk
    go_enter Try.func11, Try.ntmps11
    go_wp2_with fail
    refine (dset_v p t w c0).mono ?_; rintro e w' ⟨rfl, rfl⟩
    go_wp2_with fail
    refine HC.out.mono ?_; rintro e w2 ⟨G, rfl, k2, y2, g2⟩
    go_wp2
    go_ret
    obtain ⟨z1, z2, z3⟩ := DS.counters h2 h3 h5 k2 y2 g2
    rw [HE.out.1, HE.out.2]
    refine ⟨_, rfl, k2.mono hF, z1, ?_⟩
    rintro j (rfl | hj)
    · exact .inl ((h1 _).2 (.inl rfl))
    · exact (g2 j hj).imp (hF j) id
  · have HE : Hid (cntE i = 11 ∧ cntD D i = D) := Lib.hid ⟨if_neg (by omega), if_neg (by omega)⟩
    have HC := Lib.hid (tadd_no t Ft D.C i 1 w h4 hi (by decide) (by omega))
    clear ho hi
    go_enter Try.func11, Try.ntmps11
    go_wp2_with fail
    refine (dset_v p t w c0).mono ?_; rintro e w' ⟨rfl, rfl⟩
    go_wp2_with fail
    refine HC.out.mono ?_; rintro e w2 ⟨rfl, x2⟩
    go_wp2
    go_ret
    rw [HE.out.1, HE.out.2]
    exact ⟨F, rfl, .of_ext x2, DS.ext ⟨t, Ft, h1, h2, h3, h4, h5⟩ x2, Grows.refl _ _⟩
theorem dcount_nil (w : World) : Calls Try.prog 11 #[.pointer none, .int .i64 0] w fun e w' => e = .returned (.int .i64 11) ∧ Ext w w' := by
  go_enter Try.func11, Try.ntmps11
  go_wp2_with fail
  refine (dset_nil w).mono ?_; rintro e w' ⟨rfl, rfl⟩
  go_wp2_with fail
  refine (tadd_nil 0 1 w' (by decide) (by decide)).mono ?_; rintro e w2 ⟨rfl, x2⟩
  go_wp2
  go_ret
  exact ⟨rfl, x2⟩
theorem dall_any (p : Nat) (F : Nat → Prop) (D : Dia) (w : World) (h : DS w p F D) : Calls Try.prog 16 #[.pointer (some ⟨p, 0, none⟩)] w fun e w' => ∃ b q, e = .returned (.slice b 8 q) ∧ HoldsG (Value.int .u16) w' b 8 D.C ∧ Ext w w' := by
  obtain ⟨t, Ft, h1, h2, h3, h4, h5⟩ := h
  have c0 : w.cell? ⟨p, 0, none⟩ = some (.pointer (some ⟨t, 0, none⟩)) := cell_of_heap h3 rfl
  have HC := Lib.hid (tall_any t Ft D.C w h4)
  clear h1 h2 h3 h4 h5
  go_enter Try.func16, Try.ntmps16
  go_wp2_with fail
  refine (dset_v p t w c0).mono ?_; rintro e w' ⟨rfl, rfl⟩
  go_wp2_with fail
  refine HC.out.mono ?_; rintro e w2 ⟨z, u, rfl, l1, l2, hh, x2⟩
  go_wp2
  go_ret
  exact ⟨z, u, rfl, hh, x2⟩
theorem dlistening_any (p : Nat) (F : Nat → Prop) (D : Dia) (w : World) (h : DS w p F D) : Calls Try.prog 17 #[.pointer (some ⟨p, 0, none⟩)] w fun e w' => e = .returned (.bool D.li) ∧ Ext w w' := by
  obtain ⟨t, Ft, h1, h2, h3, h4, h5⟩ := h
  have c0 : w.cell? ⟨p, 2, none⟩ = some (.bool D.li) := cell_of_heap h3 rfl
  clear h1 h2 h3 h4 h5
  go_enter Try.func17, Try.ntmps17
  go_wp2
  go_ret
  exact ⟨rfl, Ext.refl _⟩
theorem dlistening_nil (w : World) : Calls Try.prog 17 #[.pointer none] w fun e w' => e = .returned (.bool false) ∧ Ext w w' := by
  go_enter Try.func17, Try.ntmps17
  go_wp2
  go_ret
  exact ⟨rfl, Ext.refl _⟩
theorem dregister_any (p : Nat) (F : Nat → Prop) (D : Dia) (w : World) (h : DS w p F D) : Calls Try.prog 18 #[.pointer (some ⟨p, 0, none⟩)] w fun e w' => e = .returned (.int .u16 D.reg) ∧ Ext w w' := by
  obtain ⟨t, Ft, h1, h2, h3, h4, h5⟩ := h
  have c0 : w.cell? ⟨p, 1, none⟩ = some (.int .u16 D.reg) := cell_of_heap h3 rfl
  clear h1 h2 h3 h4 h5
  go_enter Try.func18, Try.ntmps18
  go_wp2
  go_ret
  exact ⟨rfl, Ext.refl _⟩
theorem ddelim_any (p : Nat) (F : Nat → Prop) (D : Dia) (w : World) (h : DS w p F D) : Calls Try.prog 19 #[.pointer (some ⟨p, 0, none⟩)] w fun e w' => e = .returned (.int .u8 D.de) ∧ Ext w w' := by
  obtain ⟨t, Ft, h1, h2, h3, h4, h5⟩ := h
  have c0 : w.cell? ⟨p, 3, none⟩ = some (.int .u8 D.de) := cell_of_heap h3 rfl
  clear h1 h2 h3 h4 h5
  go_enter Try.func19, Try.ntmps19
  go_wp2
  go_ret
  exact ⟨rfl, Ext.refl _⟩
theorem dsetreg_any (p : Nat) (F : Nat → Prop) (D : Dia) (v : Int) (w : World) (h : DS w p F D) (v0 : 0 ≤ v) (v1 : v < 65536) : Calls Try.prog 12 #[.pointer (some ⟨p, 0, none⟩), .int .u16 v] w fun e w' => ∃ G, e = .returned (.tuple #[]) ∧ Keep F w w' ∧ DS w' p G { D with reg := v } ∧ Grows F G w := by
  obtain ⟨t, Ft, h1, h2, h3, h4, h5⟩ := h
  have c0 : w.cell? ⟨p, 0, none⟩ = some (.pointer (some ⟨t, 0, none⟩)) := cell_of_heap h3 rfl
  have c1 : w.cell? ⟨p, 1, none⟩ = some (.int .u16 D.reg) := cell_of_heap h3 rfl
  have f1 := frozenD (j := 1) h3
  have HZ := Lib.hid (DS.cell_put (o := 1) (v := .int .u16 v) (D' := { D with reg := v }) h2 h3 h4 ⟨h5.c, ⟨v0, v1⟩, h5.d⟩ rfl)
  clear h2 h3 h4 h5 v0 v1
  go_enter Try.func12, Try.ntmps12
  go_wp2_with fail
  refine (dmade_v p t w c0).mono ?_; rintro e w' ⟨rfl, rfl⟩
  go_wp2
  go_returns
  exact ⟨_, rfl, HZ.out.2.mono (fun i e => (h1 i).2 (.inl e)), HZ.out.1, fun i hi => .inl ((h1 i).2 hi)⟩
theorem dclone_any (p : Nat) (F : Nat → Prop) (D : Dia) (w : World) (h : DS w p F D) : Calls Try.prog 13 #[.pointer (some ⟨p, 0, none⟩)] w fun e w' => ∃ p' F', e = .returned (.pointer (some ⟨p', 0, none⟩)) ∧ Ext w w' ∧ DS w' p' F' D ∧ Above w F' := by
  obtain ⟨t, Ft, h1, h2, h3, h4, h5⟩ := h
  have c0 : w.cell? ⟨p, 0, none⟩ = some (.pointer (some ⟨t, 0, none⟩)) := cell_of_heap h3 rfl
  obtain ⟨W, hW, eW, HW⟩ : ∃ W, W = w.alloc (.cells (dstC t D) 53) ∧ Ext w W ∧ Hid (W.heap[w.heap.size]? = some (.cells (dstC t D) 53 (0, 0)) ∧ W.heap.size = w.heap.size + 1) := ⟨_, rfl, Ext.alloc _ _, Lib.hid ⟨heap_alloc_new w _, by simp⟩⟩
  have c1 : w.cell? ⟨p, 1, none⟩ = some (.int .u16 D.reg) := cell_of_heap h3 rfl
  have c2 : w.cell? ⟨p, 2, none⟩ = some (.bool D.li) := cell_of_heap h3 rfl
  have c3 : w.cell? ⟨p, 3, none⟩ = some (.int .u8 D.de) := cell_of_heap h3 rfl
  have hp := lt_of_heapD h3
  have HC := Lib.hid (tclone_any t Ft D.C W (h4.ext0 eW))
  have k0 : W.cell? ⟨p, 0, none⟩ = some (.pointer (some ⟨t, 0, none⟩)) := eW.cell hp c0
  have H5 := Lib.hid h5
  clear h1 h2 h3 h4 h5 hp
  go_enter Try.func13, Try.ntmps13
  go_upto_region 4 with fail
  rw [show (w.alloc (.cells #[.pointer (some ⟨t, 0, none⟩), .int .u16 D.reg, .bool D.li, .int .u8 D.de] 53)) = W from hW.symm]
  clear hW
  go_wp2_with fail
  refine HC.out.mono ?_; rintro e w2 ⟨r, G, rfl, x2, y2, a2⟩
  have gq := x2.block HW.out.1
  have k2 : w2.cell? ⟨w.heap.size, 0, none⟩ = some (.pointer (some ⟨t, 0, none⟩)) := cell_of_heap gq rfl
  have f2 := frozenD (j := 0) gq
  have HG : Hid (¬ G w.heap.size) := Lib.hid (fun hh => by have := a2 _ hh; have := HW.out.2; omega)
  have HZ := Lib.hid (DS.cell_put (o := 0) (v := .pointer (some ⟨r, 0, none⟩)) (t := t) (D := D) (D' := D) (G := G) HG.out gq)
  have HY := Lib.hid y2
  have HA := Lib.hid (And.intro x2 a2)
  clear gq y2 x2 a2
  go_wp2
  go_ret
  refine ⟨_, fun i => i = w.heap.size ∨ G i, rfl, ?_, ?_, ?_⟩
  · exact Below.setCell (eW.trans HA.out.1) (Nat.le_refl _) _
  · have gq := HA.out.1.block HW.out.1
    refine ⟨r, G, fun i => Iff.rfl, HG.out, heap_setCell_same _ _ 0 _ _ (.pointer (some ⟨r, 0, none⟩)) gq, HY.out.keep (keepCellM w2 w.heap.size 0 _) (fun i hi e => HG.out (e ▸ hi)), H5.out⟩
  · rintro i (rfl | hi)
    · exact Nat.le_refl _
    · exact Nat.le_trans (by have := HW.out.2; omega) (HA.out.2 i hi)
end Go.Proofs.Ytchdgodmncckcaa
