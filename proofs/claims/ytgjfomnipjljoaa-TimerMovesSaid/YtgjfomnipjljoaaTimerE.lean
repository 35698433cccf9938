/-
  CONTRACTS: package timer: Clone.
-/
import Derived.Test.YtgjfomnipjljoaaTimerD
import Derived.Shelf.SlMaps.Clone
import Derived.Laws.Externs
import Derived.Deep.RegionHeld3
namespace Go.Proofs.Ytgjfomnipjljoaa
open Go.RowKit
set_option linter.unusedVariables false

theorem mclone_any (M n : Nat) (g : Int → Option Int) (w : World) (h : Tab w M n g) :
    Calls Try.prog 28 #[.map (some M)] w fun e w' => e = .returned (.map (some w.heap.size)) ∧ Ext w w' ∧ Tab w' w.heap.size n g := by
  obtain ⟨es, clock, hb, T⟩ := h
  have hq := fun w => run_eql_map_nil_sl (P := Try.prog) w 52 _ _ (some M) Try.underlying52
  have HT := Lib.hid T
  clear T
  go_enter Try.func28, Try.ntmps28
  go_wp2
  rw [run_callFunc_extern Try.func33 (by kernel_rfl) (by kernel_rfl) (by kernel_rfl) (e := Extern.MapsClone.clone) (by kernel_rfl), run_maps_clone_sl w 52 hb]
  simp only [Result.andThen]
  rw [Oper.upon_value]
  go_wp2
  rw [run_typeAssert_map_sl _ 52 20 _ _ _ Try.underlying52]
  simp only [Result.andThen]
  rw [Oper.upon_value]
  go_wp2
  go_ret
  exact ⟨rfl, Ext.alloc _ _, es, clock, (MapKept.heap_alloc w _).1, HT.out⟩
theorem run_equalIn_slice_nil {P : Program} (w : World) (d : Nat) (t e : TypeId) (p : Option Addr) (n c : Nat) (h : P.underlying t = some (.slice e)) :
    (Op.equalIn (d + 1) t (.slice p n c) (.slice none 0 0)).run P w = .ok p.isNone w := by
  cases p <;> simp [Op.equalIn, run_underlying h]
theorem run_eql_slice_nil {P : Program} (w : World) (t e : TypeId) (p : Option Addr) (n c : Nat) (h : P.underlying t = some (.slice e)) :
    (binOp .eql t (.slice p n c) (.slice none 0 0)).run P w = .ok (.bool p.isNone) w := by
  simp only [binOp]
  simp [show Op.equal t (.slice p n c) (.slice none 0 0) = Op.equalIn (9999 + 1) t (.slice p n c) (.slice none 0 0) from rfl, run_equalIn_slice_nil w 9999 t e p n c h]
theorem own_base {w : World} {base : Nat} {e : TypeId} {size : Nat} {v : Value} {n : Nat} {xs : List Value} (h : w.ownsRow base e size v n xs) : w.ownsRow 0 e size v n xs := by
  refine ⟨h.1, ?_⟩
  rcases h.2 with h | ⟨g, cap, cur, hv, hg, r⟩
  · exact .inl h
  · exact .inr ⟨g, cap, cur, hv, Nat.zero_le _, r⟩
theorem one_two (L : List (Int × Int)) : ∀ u ∈ L.flatMap two, u.oneCell' = true := fun u hu => by
  obtain ⟨x, _, h⟩ := List.mem_flatMap.1 hu
  simp only [two, List.mem_cons, List.not_mem_nil, or_false] at h
  rcases h with rfl | rfl <;> rfl
theorem sclone_any (v : Value) (n : Nat) (a : Nat → Int × Int) (w : World) (h : w.ownsRow 0 64 2 v n ((lstT a n).flatMap two)) (hn : n ≤ 256) :
    Calls Try.prog 27 #[v] w fun e w' => ∃ v', e = .returned v' ∧ w'.ownsRow w.heap.size 64 2 v' n ((lstT a n).flatMap two) ∧ Ext w w' := by
  obtain ⟨i0, hi0, hz0, hz1, hz2⟩ := info_parts Try.infoDue
  have hl : ((lstT a n).flatMap two).length = n * 2 := by rw [flat_length two_length, lstT_length]
  rcases id h.2 with ⟨rfl, rfl⟩ | ⟨g, cap, cur, rfl, _, hg, hnc, hcm, hs, ht⟩
  · have e0 : (lstT a 0).flatMap two = [] := rfl
    rw [e0]
    have hq := run_eql_slice_nil (P := Try.prog) w 53 _ none 0 0 Try.underlying53
    go_enter Try.func27, Try.ntmps27
    go_wp2
    go_ret
    exact ⟨_, rfl, World.ownsRow_nil _ _ _ _, Ext.refl _⟩
  · have hnew : (w.alloc (.cells #[] 64)).ownsRow w.heap.size 64 2 (.slice (some ⟨w.heap.size, 0, none⟩) 0 0) 0 [] :=
      ⟨rfl, .inr ⟨w.heap.size, 0, #[], rfl, Nat.le_refl _, heap_alloc_new _ _, Nat.le_refl _, Nat.zero_le _, rfl, rfl⟩⟩
    have hcells : ∀ j u, ((lstT a n).flatMap two)[j]? = some u → w.cell? ⟨g, j, none⟩ = some u := fun j u hu => by
      rw [← ht, List.getElem?_take] at hu
      rw [cell_of_row w g j _ _ _ hg]
      split at hu
      · rw [Array.getElem?_toList] at hu; exact hu
      · cases hu
    have hq := run_eql_slice_nil (P := Try.prog) w 53 _ (some ⟨g, 0, none⟩) n cap Try.underlying53
    have hglt : g < w.heap.size := (Array.getElem?_eq_some_iff.1 hg).1
    have HC := Lib.hid hcells
    clear h hcells ht hs hcm
    rcases Nat.eq_zero_or_pos n with hn0 | hn0
    · subst hn0
      have hz : ∀ ty, (Builtin.append_ #[53, 53] ty #[.slice (some ⟨w.heap.size, 0, none⟩) 0 0, .slice (some ⟨g, 0, none⟩) 0 cap]).run Try.prog (w.alloc (.cells #[] 64)) = .ok (.slice (some ⟨w.heap.size, 0, none⟩) 0 0) (w.alloc (.cells #[] 64)) := fun ty => by
        simp [Builtin.append_, run_underlying Try.underlying53, sizeOf, typeInfo, hi0, Builtin.lenOf, Builtin.firstCells, storeCells, loadCells, loadCellsFrom]
      have e0 : (lstT a 0).flatMap two = [] := rfl
      rw [e0]
      have HN := Lib.hid hnew
      clear hnew
      go_enter Try.func27, Try.ntmps27
      go_wp2
      go_ret
      exact ⟨_, rfl, HN.out, Ext.alloc _ _⟩
    · go_enter Try.func27, Try.ntmps27
      go_wp2_with (at_builtin; refine wpList_append_lies _ rfl (.tmp 5) (.tmp 6) _ rfl w.heap.size 64 i0 _ 2 16 Try.underlying53 hi0 hz0 hz1 hz2 rfl (by omega) (.slice (some ⟨w.heap.size, 0, none⟩) 0 0) 0 [] rfl hnew ⟨g, 0, none⟩ n cap ((lstT a n).flatMap two) rfl hl (fun j u hu => by
          have e1 : (⟨g, 0, none⟩ : Addr).add j = ⟨g, j, none⟩ := by unfold Addr.add; split <;> simp_all
          rw [e1]; exact (Ext.alloc w _).cell hglt (HC.out j u hu)) (one_two _) (by omega) (by unfold maxLen; omega) (by omega) (by simp) (w.heap.size + 1) (by simp) ?_; intro q cap2 w3 hown3 hgr3 hat3 hlt3)
      have x3 : Ext w w3 := ⟨hgr3.os, hgr3.tape, hgr3.output, Nat.le_trans (Ext.alloc w _).size hgr3.size, fun k hk => (hgr3.block k (Nat.lt_of_lt_of_le hk (Ext.alloc w _).size) (fun e => by cases e; exact absurd hk (Nat.lt_irrefl _))).trans (heap_alloc_old w _ hk)⟩
      go_wp2
      go_ret
      exact ⟨_, rfl, by simpa using hown3, x3⟩
theorem sclone_form (v : Value) (n : Nat) (a : Nat → Int × Int) (w : World) (h : w.ownsRow 0 64 2 v n ((lstT a n).flatMap two)) (hn : n ≤ 256) :
    Calls Try.prog 27 #[v] w fun e w' => ∃ A u, e = .returned (.slice A n u) ∧ w'.ownsRow w.heap.size 64 2 (.slice A n u) n ((lstT a n).flatMap two) ∧ Ext w w' :=
  (sclone_any v n a w h hn).mono fun e w' ⟨v', he, ho, x⟩ => by
    obtain ⟨A, u, rfl, _⟩ := HoldsL.of_own two_length ho (lstT_length a n).symm
    exact ⟨A, u, he, ho, x⟩
set_option maxHeartbeats 2000000 in
theorem kclone_any (p : Nat) (F : Nat → Prop) (L : List (Int × Int)) (w : World) (h : TQ w p F L) :
    Calls Try.prog 15 #[.pointer (some ⟨p, 0, none⟩)] w fun e w' => ∃ r G, e = .returned (.pointer (some ⟨r, 0, none⟩)) ∧ Ext w w' ∧ TQ w' r G L ∧ Above w G := by
  obtain ⟨s, pb, a, ⟨v, M, h⟩, hh, hp⟩ := h
  have hm := kmade_any p pb w h.cellQ
  have c := h.cellQ
  have c0 := h.cell0
  have c1 := h.cell1
  have hfew := h.few
  generalize hN : L.length = n at *
  -- what the two calls and the two boxes leave
  have hend : ∀ (w1 w2 w3 : World) (v' : Value), Ext w w1 → w1.heap.size ≤ w2.heap.size → Ext w1 w2 → Tab w2 w1.heap.size n (plc a n) → w1.ownsRow w.heap.size 64 2 v' n ((lstT a n).flatMap two) → Ext w2 w3 →
      ∃ r G, Ending.returned (.pointer (some ⟨w3.heap.size + 1, 0, none⟩)) = .returned (.pointer (some ⟨r, 0, none⟩)) ∧
        Ext w ((w3.alloc (.cells #[v', .map (some w1.heap.size)] 55)).alloc (.cells #[.pointer (some ⟨w3.heap.size, 0, none⟩)] 57)) ∧
        TQ ((w3.alloc (.cells #[v', .map (some w1.heap.size)] 55)).alloc (.cells #[.pointer (some ⟨w3.heap.size, 0, none⟩)] 57)) r G L ∧ Above w G := by
    intro w1 w2 w3 v' x1 hs x2 ht hown x3
    have x4 : Ext w3 ((w3.alloc (.cells #[v', .map (some w1.heap.size)] 55)).alloc (.cells #[.pointer (some ⟨w3.heap.size, 0, none⟩)] 57)) := (Ext.alloc _ _).alloc' _
    refine ⟨w3.heap.size + 1, fun i => i = w3.heap.size + 1 ∨ i = w3.heap.size ∨ i = w1.heap.size ∨ v'.ownBlock = some i, rfl, ((x1.trans x2).trans x3).trans x4, ⟨s, w3.heap.size, a, ⟨v', w1.heap.size, fun i => Iff.rfl, heap_alloc_eq _ _ (by simp), (heap_alloc_old _ _ (by simp)).trans (heap_alloc_eq _ _ rfl), ?_, ?_, ?_, ?_, ?_⟩, ?_, ?_⟩, fun i hi => ?_⟩
    · rw [hN]; exact own_ext (own_ext (own_ext (own_base hown) x2) x3) x4
    · rw [hN]; exact (ht.of_block (Below.block x3 _ ht.lt)).of_block (Below.block x4 _ (Nat.lt_of_lt_of_le ht.lt x3.size))
    · rw [hN]; exact h.once
    · rw [hN]; exact h.may
    · rw [hN]; exact hfew
    · rw [hN]; exact hh
    · rw [hN]; exact hp
    · have y1 := x1.size
      have y2 := x2.size
      have y3 := x3.size
      rcases hi with e | e | e | e
      · omega
      · omega
      · omega
      · exact (hown.lt i e).1
  have HE := Lib.hid hend
  have HOwn := Lib.hid (fun w' (x : Ext w w') => own_ext h.own x)
  have HTab := Lib.hid (fun w' (x : Ext w w') => h.tab.of_block (Below.block x _ h.tab.lt))
  have HC := Lib.hid (fun w' (x : Ext w w') => x.cell (World.block_lt_of_cell? w _ c) c)
  have HC0 := Lib.hid (fun w' (x : Ext w w') => x.cell (World.block_lt_of_cell? w _ c0) c0)
  have HC1 := Lib.hid (fun w' (x : Ext w w') => x.cell (World.block_lt_of_cell? w _ c1) c1)
  clear s h hh hp hN hend
  go_enter Try.func15, Try.ntmps15
  go_wp2_with fail
  refine hm.mono ?_; rintro e w' ⟨rfl, rfl⟩
  go_wp2_with fail
  go_region_held3 (fun w' => w'.cell? ⟨p, 0, none⟩ = some (.pointer (some ⟨pb, 0, none⟩)) ∧ w'.cell? ⟨pb, 0, none⟩ = some v ∧ w'.cell? ⟨pb, 1, none⟩ = some (.map (some M)))
    (first
      | exact ⟨c, c0, c1⟩
      | exact ⟨d, d0, d1⟩
      | exact ⟨e, e0, e1⟩
      | (go_keep; done))
    (first
      | (go_at_call 27; refine (sclone_form v n a _ (HOwn.out _ (by (repeat (first | (with_reducible exact Ext.refl _) | (with_reducible assumption) | (with_reducible refine Ext.trans ?_ (Ext.drew _)) | (with_reducible refine Ext.trans ?_ (Ext.drewN _ _)))))) hfew).mono ?_; rintro e w1 ⟨A', u', rfl, own1, x1⟩; have y1 : Ext w w1 := Ext.trans (by (repeat (first | (with_reducible exact Ext.refl _) | (with_reducible assumption) | (with_reducible refine Ext.trans ?_ (Ext.drew _)) | (with_reducible refine Ext.trans ?_ (Ext.drewN _ _))))) x1; have d := HC.out _ y1; have d0 := HC0.out _ y1; have d1 := HC1.out _ y1)
      | (go_at_call 28; refine (mclone_any M n (plc a n) _ (HTab.out _ (by (repeat (first | (with_reducible exact Ext.refl _) | (with_reducible assumption) | (with_reducible refine Ext.trans ?_ (Ext.drew _)) | (with_reducible refine Ext.trans ?_ (Ext.drewN _ _))))))).mono ?_; rintro e w2 ⟨rfl, x2, t2⟩; have y2 : Ext w w2 := Ext.trans (by (repeat (first | (with_reducible exact Ext.refl _) | (with_reducible assumption) | (with_reducible refine Ext.trans ?_ (Ext.drew _)) | (with_reducible refine Ext.trans ?_ (Ext.drewN _ _))))) x2; have e := HC.out _ y2; have e0 := HC0.out _ y2; have e1 := HC1.out _ y2))
  go_wp2
  go_ret
  exact HE.out w1 w2 w2 _ y1 x2.size x2 t2 own1 (Ext.refl _)
end Go.Proofs.Ytgjfomnipjljoaa
