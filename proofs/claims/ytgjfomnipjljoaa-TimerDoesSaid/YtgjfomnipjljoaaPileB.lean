/-
  PILES: Swap.
-/
import Derived.Test.YtgjfomnipjljoaaPileA
namespace Go.Proofs.Ytgjfomnipjljoaa
open Go.RowKit Go.MapKept
open Go.ChangeMaps (setBlock)

theorem Try.zeroInt (w : World) : (zeroValue 3).run Try.prog w = .ok (.int .i64 0) w := by kernel_rfl
theorem swp_once {a : Nat → Int × Int} {n i j : Nat} (o : Once a n) (hi : i < n) (hj : j < n) : Once (swp a i j) n := by
  have hinj : ∀ k, k < n → ∃ k', k' < n ∧ swp a i j k = a k' ∧ (k' = if k = i then j else if k = j then i else k) := by
    intro k hk
    by_cases e1 : k = i
    · exact ⟨j, hj, by rw [e1, swp_left], by rw [if_pos e1]⟩
    · by_cases e2 : k = j
      · exact ⟨i, hi, by rw [e2, swp_right], by rw [if_neg e1, if_pos e2]⟩
      · exact ⟨k, hk, swp_other a e1 e2, by rw [if_neg e1, if_neg e2]⟩
  intro k l hk hl h
  obtain ⟨k', hk', e1, f1⟩ := hinj k hk
  obtain ⟨l', hl', e2, f2⟩ := hinj l hl
  rw [e1, e2] at h
  have h3 := o k' l' hk' hl' h
  rw [f1, f2] at h3
  split at h3 <;> split at h3 <;> (try split at h3) <;> (try split at h3) <;> omega
theorem plc_swp {a : Nat → Int × Int} {n i j : Nat} (o : Once a n) (hi : i < n) (hj : j < n) (q : Int) : updO (updO (plc a n) (a j).1 (some (i : Int))) (a i).1 (some (j : Int)) q = plc (swp a i j) n q := by
  have o2 := swp_once o hi hj
  by_cases e1 : q = (a i).1
  · rw [e1, updO_same]
    exact (plc_some o2 hj (by rw [swp_right])).symm
  · rw [updO_other _ _ e1]
    by_cases e2 : q = (a j).1
    · rw [e2, updO_same]
      exact (plc_some o2 hi (by rw [swp_left])).symm
    · rw [updO_other _ _ e2]
      rcases plc_cases a n q o with ⟨h, hno⟩ | ⟨k, hk, h, hp⟩
      · rw [h]
        refine (plc_none fun k hk e => ?_).symm
        by_cases f1 : k = i
        · rw [f1, swp_left] at e; exact e2 e.symm
        · by_cases f2 : k = j
          · rw [f2, swp_right] at e; exact e1 e.symm
          · rw [swp_other a f1 f2] at e; exact hno k hk e
      · rw [hp]
        have f1 : k ≠ i := fun e => e1 (by rw [← h, e])
        have f2 : k ≠ j := fun e => e2 (by rw [← h, e])
        exact (plc_some o2 hk (by rw [swp_other a f1 f2]; exact h)).symm
theorem flat2_get (a : Nat → Int × Int) (n k : Nat) : ((lstT a n).flatMap two)[k]? = if k < n * 2 then some (.int .i64 (if k % 2 = 0 then (a (k / 2)).1 else (a (k / 2)).2)) else none := by
  by_cases h : k < n * 2
  · rw [if_pos h]
    have h1 := flat_get two_length (lstT a n) (k / 2) (a (k / 2)) (lstT_get a (by omega)) (k % 2)
    rcases Nat.mod_two_eq_zero_or_one k with e | e
    · have := h1 (.int .i64 (a (k / 2)).1) (by rw [e]; rfl)
      rw [show k / 2 * 2 + k % 2 = k by omega] at this
      rw [this, if_pos e]
    · have := h1 (.int .i64 (a (k / 2)).2) (by rw [e]; rfl)
      rw [show k / 2 * 2 + k % 2 = k by omega] at this
      rw [this, if_neg (by omega)]
  · rw [if_neg h, List.getElem?_eq_none]
    rw [flat_length two_length, lstT_length]; omega
/-- One element of a row of the call's own is stored anew. -/
theorem own_set2 {w : World} {e : TypeId} {g n cap i : Nat} {a : Nat → Int × Int} (h : w.ownsRow 0 e 2 (.slice (some ⟨g, 0, none⟩) n cap) n ((lstT a n).flatMap two)) (x : Int × Int) :
    ((w.setCell ⟨g, i * 2, none⟩ (.int .i64 x.1)).setCell ⟨g, i * 2 + 1, none⟩ (.int .i64 x.2)).ownsRow 0 e 2 (.slice (some ⟨g, 0, none⟩) n cap) n ((lstT (upd a i x) n).flatMap two) := by
  obtain ⟨h1, h2⟩ := h
  refine ⟨by rw [flat_length two_length, lstT_length], .inr ?_⟩
  rcases h2 with ⟨hv, _⟩ | ⟨g', cap', cur, hv, hb, hg, hnc, hc, hs, ht⟩
  · cases hv
  · injection hv with e1 e2 e3
    injection e1 with e1
    injection e1 with e1
    subst e1; subst e3
    refine ⟨g, cap, (cur.setIfInBounds (i * 2) (.int .i64 x.1)).setIfInBounds (i * 2 + 1) (.int .i64 x.2), rfl, hb, by simp [World.setCell, Array.getElem?_modify, hg], hnc, hc, by simpa using hs, ?_⟩
    apply List.ext_getElem?
    intro k
    rw [flat2_get]
    by_cases hk : k < n * 2
    · have hks : k < cur.size := by rw [hs]; omega
      rw [if_pos hk, List.getElem?_take, if_pos hk, Array.getElem?_toList]
      have hold : cur[k]? = some (.int .i64 (if k % 2 = 0 then (a (k / 2)).1 else (a (k / 2)).2)) := by
        have : (cur.toList.take (n * 2))[k]? = ((lstT a n).flatMap two)[k]? := by rw [ht]
        rw [flat2_get, if_pos hk, List.getElem?_take, if_pos hk, Array.getElem?_toList] at this
        exact this
      by_cases e1 : k = i * 2 + 1
      · subst e1
        rw [Array.getElem?_setIfInBounds_self_of_lt (by simpa using hks), if_neg (by omega), show (i * 2 + 1) / 2 = i by omega, upd_same]
      · rw [Array.getElem?_setIfInBounds_ne (Ne.symm e1)]
        by_cases e2 : k = i * 2
        · subst e2
          rw [Array.getElem?_setIfInBounds_self_of_lt hks, if_pos (by omega), show i * 2 / 2 = i by omega, upd_same]
        · rw [Array.getElem?_setIfInBounds_ne (Ne.symm e2), hold, upd_other _ _ _ _ (by omega)]
    · rw [if_neg hk, List.getElem?_eq_none]
      rw [List.length_take]; omega
theorem swp_upd {α : Type} (a : Nat → α) (i j : Nat) : swp a i j = upd (upd a i (a j)) j (a i) := by
  funext k
  by_cases e : k = j
  · rw [e, swp_right, upd_same]
  · rw [upd_other _ _ _ _ e]
    by_cases e2 : k = i
    · rw [e2, swp_left, upd_same]
    · rw [upd_other _ _ _ _ e2, swp_other a e2 e]
theorem setBlock_other {w : World} {M k : Nat} (o : Obj) (h : k ≠ M) : (setBlock w M o).heap[k]? = w.heap[k]? := Array.getElem?_setIfInBounds_ne (Ne.symm h)
theorem setBlock_self {w : World} {M : Nat} (o : Obj) (h : M < w.heap.size) : (setBlock w M o).heap[M]? = some o := Array.getElem?_setIfInBounds_self_of_lt h
set_option maxHeartbeats 4000000 in
theorem pswap_any (p pb : Nat) (F : Nat → Prop) (w : World) (a : Nat → Int × Int) (n i j : Nat) (h : Pile p pb F w a n) (hi : i < n) (hj : j < n) (hn : n ≤ 1000000) :
    Calls Try.prog 54 #[.pointer (some ⟨pb, 0, none⟩), .int .i64 i, .int .i64 j] w fun e w' => e = .returned (.tuple #[]) ∧ Keep F w w' ∧ Pile p pb F w' (swp a i j) n := by
  obtain ⟨v, M, h⟩ := h
  obtain ⟨g, cap, rfl, _, _, hc, hf⟩ := h.form (by omega)
  obtain ⟨ci0, ci1⟩ := hc i hi
  obtain ⟨cj0, cj1⟩ := hc j hj
  have fi0 := hf (i * 2)
  have fi1 := hf (i * 2 + 1)
  have fj0 := hf (j * 2)
  have fj1 := hf (j * 2 + 1)
  have c0 := h.cell0
  have hgp : g ≠ pb := h.gp rfl
  have hgM : g ≠ M := h.gM rfl
  -- the list behind the exchange
  have hw2 : ∃ w2, w2 = ((((w.setCell ⟨g, i * 2, none⟩ (.int .i64 (a j).1)).setCell ⟨g, i * 2 + 1, none⟩ (.int .i64 (a j).2)).setCell ⟨g, j * 2, none⟩ (.int .i64 (a i).1)).setCell ⟨g, j * 2 + 1, none⟩ (.int .i64 (a i).2)) := ⟨_, rfl⟩
  obtain ⟨w2, hw2⟩ := hw2
  have hown2 : w2.ownsRow 0 64 2 (.slice (some ⟨g, 0, none⟩) n cap) n ((lstT (swp a i j) n).flatMap two) := by
    rw [hw2, swp_upd]; exact own_set2 (own_set2 h.own (a j)) (a i)
  have hb2 : ∀ k, k ≠ g → w2.heap[k]? = w.heap[k]? := fun k hk => by
    rw [hw2, Below.heap_setCell _ _ _ k hk, Below.heap_setCell _ _ _ k hk, Below.heap_setCell _ _ _ k hk, Below.heap_setCell _ _ _ k hk]
  have hs2 : w2.heap.size = w.heap.size := by rw [hw2]; simp [World.setCell]
  have hr2 : w2.os = w.os ∧ w2.tape = w.tape ∧ w2.output = w.output := by rw [hw2]; exact ⟨rfl, rfl, rfl⟩
  have htab2 : Tab w2 M n (plc a n) := h.tab.of_block (hb2 M (Ne.symm hgM))
  have hMlt : M < w2.heap.size := htab2.lt
  -- the map
  obtain ⟨s1, he1, hs1⟩ := htab2.entry Try.underlying52 Try.underlying3 (plc_some h.once hj rfl)
  obtain ⟨o1, hst1, ht1⟩ := hs1 i
  have hst1' := hst1 w2.drew.drew rfl
  have he1' := he1 w2.drew.drew rfl
  obtain ⟨w3, hw3⟩ : ∃ w3, w3 = setBlock w2.drew.drew M o1 := ⟨_, rfl⟩
  rw [← hw3] at hst1'
  have ht3 := ht1 w3 (by rw [hw3]; exact setBlock_self _ hMlt)
  have hq2 : ∃ u, updO (plc a n) (a j).1 (some (i : Int)) (a i).1 = some u := by
    by_cases e : (a i).1 = (a j).1
    · rw [e, updO_same]; exact ⟨_, rfl⟩
    · rw [updO_other _ _ e]; exact ⟨_, plc_some h.once hi rfl⟩
  obtain ⟨u2, hq2⟩ := hq2
  obtain ⟨s2, he2, hs2'⟩ := ht3.entry Try.underlying52 Try.underlying3 hq2
  obtain ⟨o2, hst2, ht2⟩ := hs2' j
  have hst2' := hst2 w3 rfl
  have he2' := he2 w3 rfl
  obtain ⟨w4, hw4⟩ : ∃ w4, w4 = setBlock w3 M o2 := ⟨_, rfl⟩
  rw [← hw4] at hst2'
  have hb4 : ∀ k, k ≠ g → k ≠ M → w4.heap[k]? = w.heap[k]? := fun k hk hk2 => by
    rw [hw4, setBlock_other _ hk2, hw3, setBlock_other _ hk2]; exact hb2 k hk
  have hgg : w4.heap[g]? = w2.heap[g]? := by rw [hw4, setBlock_other _ hgM, hw3, setBlock_other _ hgM]; rfl
  have hEnd : Keep F w w4 ∧ Pile p pb F w4 (swp a i j) n := by
    refine ⟨⟨?_, ?_, ?_, ?_, fun k _ hk => hb4 k (fun e => hk ((h.foot k).2 (.inr (.inr (.inr (by rw [e]; rfl)))))) (fun e => hk ((h.foot k).2 (.inr (.inr (.inl e)))))⟩, _, M, ⟨h.foot, (hb4 p (Ne.symm (h.gq rfl)) h.qM).trans h.queue, (hb4 pb (Ne.symm hgp) h.pM).trans h.pile, own_kept hown2 (fun g' hg' => by cases hg'; exact hgg), (ht2 w4 (by rw [hw4]; exact setBlock_self _ ht3.lt)).congr (plc_swp h.once hi hj), swp_once h.once hi hj, fun k hk => ?_, h.few⟩⟩
    · rw [hw4, hw3]; exact hr2.1
    · rw [hw4, hw3]; exact hr2.2.1
    · rw [hw4, hw3]; exact hr2.2.2
    · rw [hw4, hw3]; simp only [setBlock, Array.size_setIfInBounds]; exact Nat.le_of_eq hs2.symm
    · by_cases e1 : k = i
      · rw [e1, swp_left]; exact h.may j hj
      · by_cases e2 : k = j
        · rw [e2, swp_right]; exact h.may i hi
        · rw [swp_other a e1 e2]; exact h.may k hk
  have k0 : w2.cell? ⟨pb, 0, none⟩ = some (.slice (some ⟨g, 0, none⟩) n cap) := by rw [cell_of_row w2 pb 0 _ _ _ ((hb2 pb (Ne.symm hgp)).trans h.pile)]; rfl
  have k1 : w2.cell? ⟨pb, 1, none⟩ = some (.map (some M)) := by rw [cell_of_row w2 pb 1 _ _ _ ((hb2 pb (Ne.symm hgp)).trans h.pile)]; rfl
  have hcell2 : ∀ k, k < n → w2.cell? ⟨g, k * 2, none⟩ = some (.int .i64 (swp a i j k).1) := fun k hk => by
    obtain ⟨A, c, hv, _, _, hh, _⟩ := HoldsL.of_own two_length hown2 (lstT_length _ n).symm
    injection hv with e1 e2 e3
    subst e1
    have := (HoldsL.two_at hh k (by rw [lstT_length]; exact hk)).1
    have e : (lstT (swp a i j) n)[k]'(by rw [lstT_length]; exact hk) = swp a i j k := by simp [lstT]
    rw [e] at this
    simpa using this
  have k2 := hcell2 i hi
  have k3 := hcell2 j hj
  rw [swp_left] at k2
  rw [swp_right] at k3
  have HEnd := Lib.hid hEnd
  have HW2 := Lib.hid hw2
  have hd1 := cell?_setCell_some (w := w) (p := ⟨g, i * 2, none⟩) (x := .int .i64 (a j).1) (q := ⟨g, j * 2, none⟩) cj0
  have hd2 : ∃ u, ((w.setCell ⟨g, i * 2, none⟩ (.int .i64 (a j).1)).setCell ⟨g, i * 2 + 1, none⟩ (.int .i64 (a j).2)).cell? ⟨g, j * 2 + 1, none⟩ = some u := by
    obtain ⟨u, hu⟩ := cell?_setCell_some (w := w) (p := ⟨g, i * 2, none⟩) (x := .int .i64 (a j).1) (q := ⟨g, j * 2 + 1, none⟩) cj1
    exact cell?_setCell_some hu
  obtain ⟨u0, d0⟩ := hd1
  obtain ⟨u1, d1⟩ := hd2
  clear h hc hf hown2 hb2 hs2 hr2 htab2 hMlt he1 hs1 hst1 ht1 hw3 ht3 hq2 he2 hs2' hst2 ht2 hw4 hb4 hgg hEnd hcell2 hw2 hgM
  generalize a i = x at ci0 ci1 HW2 k3 he2' d0 d1
  generalize a j = y at cj0 cj1 HW2 k2 he1' d0 d1
  obtain ⟨x0, x1⟩ := x
  obtain ⟨y0, y1⟩ := y
  simp only at ci0 ci1 cj0 cj1 k2 k3 he1' he2' d0 d1
  have hi' : (i : Int) < n := by omega
  have hj' : (j : Int) < n := by omega
  go_enter Try.func54, Try.ntmps54
  go_wp2
  go_region
  have e2 := HW2.out.symm
  rw [e2]
  clear HW2 e2 ci0 ci1 cj0 cj1 fi0 fi1 fj0 fj1 c0 d0 d1
  go_wp2
  go_region
  go_end0
  exact ⟨rfl, HEnd.out⟩
end Go.Proofs.Ytgjfomnipjljoaa
