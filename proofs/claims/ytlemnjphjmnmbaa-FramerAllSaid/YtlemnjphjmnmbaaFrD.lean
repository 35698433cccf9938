/-
  CONTRACTS: package framer: a byte more.
-/
import Derived.Test.YtlemnjphjmnmbaaFrC
import Derived.Deep.RegionLaw
namespace Go.Proofs.Ytlemnjphjmnmbaa
open Go.RowKit
set_option linter.unusedVariables false

/-- A framer in memory. -/
structure FrM (w : World) (p : Nat) (A : Option Addr) (cp : Nat) (x : Fr) : Prop where
  row : FrRow w p A cp x
  own : w.ownsRow 0 5 1 (.slice A x.sg.n cp) x.sg.n (lst .u8 x.sg.f x.sg.n)
  np : (Value.slice A x.sg.n cp).ownBlock ≠ some p
/-- The blocks that it may change. -/
def FrF (p : Nat) (A : Option Addr) (n cp : Nat) : Nat → Prop := fun i => i = p ∨ (Value.slice A n cp).ownBlock = some i
theorem FrM.lt {w : World} {p : Nat} {A : Option Addr} {cp : Nat} {x : Fr} (h : FrM w p A cp x) : ∀ i, FrF p A x.sg.n cp i → i < w.heap.size := by
  rintro i (rfl | e)
  · exact h.row.lt
  · exact (h.own.lt _ e).2
theorem FrM.keep {G : Nat → Prop} {w w' : World} {p : Nat} {A : Option Addr} {cp : Nat} {x : Fr} (h : FrM w p A cp x) (k : Keep G w w') (hG : ∀ i, FrF p A x.sg.n cp i → ¬ G i) : FrM w' p A cp x :=
  ⟨(k.block p h.row.lt (hG p (.inl rfl))).trans h.row, own_same h.own fun g hg => k.block g (h.own.lt _ hg).2 (hG g (.inr hg)), h.np⟩
theorem FrM.ext {w w' : World} {p : Nat} {A : Option Addr} {cp : Nat} {x : Fr} (h : FrM w p A cp x) (k : Ext w w') : FrM w' p A cp x := h.keep (G := fun _ => False) (.of_ext k) (fun _ _ e => e)
theorem set3_same {w : World} {p : Nat} {t : TypeId} {cs : Array Value} (i j k : Nat) (u v z : Value) (h : w.heap[p]? = some (.cells cs t (0, 0))) :
    (((w.setCell ⟨p, i, none⟩ u).setCell ⟨p, j, none⟩ v).setCell ⟨p, k, none⟩ z).heap[p]? = some (.cells (((cs.setIfInBounds i u).setIfInBounds j v).setIfInBounds k z) t (0, 0)) :=
  heap_setCell_same _ _ _ _ _ _ (heap_setCell_same _ _ _ _ _ _ (heap_setCell_same _ _ _ _ _ _ h))
theorem set3_keep (w : World) (p i j k : Nat) (u v z : Value) : Keep (fun i => i = p) w (((w.setCell ⟨p, i, none⟩ u).setCell ⟨p, j, none⟩ v).setCell ⟨p, k, none⟩ z) :=
  ((Keep.set _ _ _ _).same (Keep.set _ _ _ _)).same (Keep.set _ _ _ _)
set_option maxRecDepth 100000 in
set_option maxHeartbeats 8000000 in
/-- The open segment with a byte more. -/
theorem fput_any (p : Nat) (A : Option Addr) (cp : Nat) (x : Fr) (b : Byt) (w : World) (h : FrM w p A cp x) (hn : (x.sg.n : Int) = if x.sg.count < 256 then x.sg.count else 256) (hc : 0 ≤ x.sg.count) (hk : x.sg.count ≤ 1000000)
    (hf : x.sg.count = 0 → x.sg.first = b.1) :
    Calls Try.prog 56 #[.pointer (some ⟨p, 0, none⟩), .agg (byt b).toArray] w fun e w' => ∃ A' cp', e = .returned (.tuple #[]) ∧ Keep (FrF p A x.sg.n cp) w w' ∧ FrM w' p A' cp' { x with sg := oneS x.sg b } ∧ Grows (FrF p A x.sg.n cp) (FrF p A' (oneS x.sg b).n cp') w := by
  obtain ⟨i8, hi8, hz80, hz81, hz82⟩ := info_parts Try.info8e
  obtain ⟨c, s, l, u, f, t, ⟨n, g, t0, t1, k, gp, bd⟩⟩ := x
  obtain ⟨y0, y1, y2⟩ := b
  rw [show (byt (y0, y1, y2)).toArray = #[.int .i64 y0, .int .u8 y1, .bool y2] from rfl]
  obtain ⟨hrow, hown, hnp⟩ := h
  unfold FrRow frC at hrow
  simp only at hrow hown hnp hn hc hk hf ⊢
  obtain ⟨W, hW⟩ : ∃ W, W = w.alloc (.cells #[.int .i64 y0, .int .u8 y1, .bool y2] 46) := ⟨_, rfl⟩
  obtain ⟨S, hS⟩ : ∃ S, S = w.heap.size := ⟨_, rfl⟩
  have xW : Ext w W := by rw [hW]; exact Ext.alloc _ _
  have gS : W.heap[S]? = some (.cells #[.int .i64 y0, .int .u8 y1, .bool y2] 46 (0, 0)) := by rw [hW, hS]; exact heap_alloc_new _ _
  have sW : W.heap.size = S + 1 := by rw [hW, hS]; simp
  have hrow' := xW.block hrow
  have hown' := own_ext hown xW
  have hpS : p < S := by rw [hS]; exact heap_lt hrow
  have hlt' : ∀ i, (Value.slice A n cp).ownBlock = some i → i < S := fun i hi => by rw [hS]; exact (hown.lt _ hi).2
  have HS := Lib.hid hS
  have HXW := Lib.hid xW
  have HNP := Lib.hid hnp
  have HLt := Lib.hid hlt'
  have HN := Lib.hid hn
  have HF := Lib.hid hf
  have c9 := cell_of_heap (j := 9) hrow rfl
  have hpw := heap_lt hrow
  clear hrow hown hS xW hnp hlt' hn hf
  go_enter Try.func56, Try.ntmps56
  go_upto_if 9 with fail
  rw [← hW, ← HS.out]
  clear hW c9 hpw
  go_cut [] (fun wx => ∃ A' c' n' g', Keep (FrF p A n cp) w wx ∧ S + 1 ≤ wx.heap.size ∧ wx.heap[p]? = some (.cells #[.int .i64 c, .int .i64 s, .int .i64 l, .int .i64 u, .int .i64 f, .int .i64 t, .slice A' n' c', .int .i64 t0, .int .i64 t1, .int .i64 k, .bool gp, .bool bd] 58 (0, 0)) ∧
    wx.heap[S]? = some (.cells #[.int .i64 y0, .int .u8 y1, .bool y2] 46 (0, 0)) ∧ n' = (if n < 256 then n + 1 else n) ∧ g' = (if n < 256 then upd g n y1 else g) ∧
    wx.ownsRow 0 5 1 (.slice A' n' c') n' (lst .u8 g' n') ∧ (∀ i, (Value.slice A' n' c').ownBlock = some i → i ≠ p ∧ ((Value.slice A n cp).ownBlock = some i ∨ S ≤ i)))
  case first =>
    have hxk : Keep (FrF p A n cp) w W := .of_ext HXW.out
    by_cases hlt : k < 256
    · have hn1 := HN.out
      rw [if_pos hlt] at hn1
      have hn256 : n < 256 := by omega
      have c6 := cell_of_heap (j := 6) hrow' rfl
      have f6 := frozen_of_row _ _ 6 _ _ hrow'
      have b1 := cell_of_heap (j := 1) gS rfl
      have HRow := Lib.hid hrow'
      have HGS := Lib.hid gS
      have HOwn := Lib.hid hown'
      have HK := Lib.hid hxk
      have HN2 := Lib.hid hn256
      clear hrow' gS hown' hxk hn256 hn1
      go_wp2_with fail
      go_region_law
        (first
          | (refine step_append_lies _ rfl (.tmp 15) (.tmp 18) 42 rfl 0 5 i8 (.int .u8 0) 1 1 Try.underlying42 hi8 hz80 hz81 hz82 rfl (by decide) _ n (lst .u8 g n) (by rfl)
              (own_ext HOwn.out (ext_drew (Ext.alloc _ _))) ⟨S + 1, 0, none⟩ 1 1 [.int .u8 y1] (by rfl) rfl (World.news_of_block (heap_new_at _ _ (by simp [sW]))) (by simp [Value.oneCell']) (by decide) (by unfold maxLen; have := HN2.out; omega) (by have := HN2.out; omega) (Nat.zero_le _) (S + 2) (by simp [sW]) ?_
             intro g19 c2 w19 hown19 hgr19 hg19 hlt19
             have hblk : ∀ q, q < W.heap.size → (Value.slice A n cp).ownBlock ≠ some q → w19.heap[q]? = W.heap[q]? := fun q hq hne =>
               (hgr19.block q (by simp [World.drew]; omega) (fun e => hne e.symm)).trans (heap_alloc_old _ _ (by simpa [World.drew] using hq))
             have r19 := (hblk p (by omega) HNP.out).trans HRow.out
             have s19 := (hblk S (by omega) (fun e => by have := HLt.out S e; omega)).trans HGS.out
             have c19 := cell_of_heap (j := 6) r19 rfl
             have f19 := frozen_of_row _ _ 6 _ _ r19
             have k19 : Keep (FrF p A n cp) W w19 := by
               refine ⟨?_, ?_, ?_, ?_, fun q hq hF => hblk q hq fun e => hF (.inr e)⟩
               · exact hgr19.os
               · exact hgr19.tape
               · exact hgr19.output
               · exact Nat.le_trans (by simp) hgr19.size
             have hown23 : w19.ownsRow 0 5 1 (.slice (some ⟨g19, 0, none⟩) (n + 1) c2) (n + 1) (lst .u8 (upd g n y1) (n + 1)) := (by rw [← lst_snoc]; exact hown19)
             have hgg : ∀ i, (Value.slice (some ⟨g19, 0, none⟩) (n + 1) c2).ownBlock = some i → i ≠ p ∧ ((Value.slice A n cp).ownBlock = some i ∨ S ≤ i) := fun i hi => by
               have hi' : g19 = i := by simpa [Value.ownBlock] using hi
               subst hi'
               rcases hg19 with e | e
               · exact ⟨fun e2 => HNP.out (by rw [← e2]; exact e), .inl e⟩
               · exact ⟨by omega, .inr (by omega)⟩
             clear hown19 hgr19 hg19 hlt19 hblk))
      all_goals
        have hend : ∃ A' c' n' g', Keep (FrF p A n cp) w (w19.setCell ⟨p, 6, none⟩ (.slice (some ⟨g19, 0, none⟩) (n + 1) c2)) ∧ S + 1 ≤ (w19.setCell ⟨p, 6, none⟩ (.slice (some ⟨g19, 0, none⟩) (n + 1) c2)).heap.size ∧
            (w19.setCell ⟨p, 6, none⟩ (.slice (some ⟨g19, 0, none⟩) (n + 1) c2)).heap[p]? = some (.cells #[.int .i64 c, .int .i64 s, .int .i64 l, .int .i64 u, .int .i64 f, .int .i64 t, .slice A' n' c', .int .i64 t0, .int .i64 t1, .int .i64 k, .bool gp, .bool bd] 58 (0, 0)) ∧
            (w19.setCell ⟨p, 6, none⟩ (.slice (some ⟨g19, 0, none⟩) (n + 1) c2)).heap[S]? = some (.cells #[.int .i64 y0, .int .u8 y1, .bool y2] 46 (0, 0)) ∧ n' = (if n < 256 then n + 1 else n) ∧ g' = (if n < 256 then upd g n y1 else g) ∧
            (w19.setCell ⟨p, 6, none⟩ (.slice (some ⟨g19, 0, none⟩) (n + 1) c2)).ownsRow 0 5 1 (.slice A' n' c') n' (lst .u8 g' n') ∧ (∀ i, (Value.slice A' n' c').ownBlock = some i → i ≠ p ∧ ((Value.slice A n cp).ownBlock = some i ∨ S ≤ i)) := by
          refine ⟨some ⟨g19, 0, none⟩, c2, n + 1, upd g n y1, ?_, ?_, ?_, ?_, (if_pos HN2.out).symm, (if_pos HN2.out).symm, ?_, hgg⟩
          · exact (HK.out.same k19).same ((Keep.set _ _ _ _).mono fun i hi => .inl hi)
          · have := k19.size; have := (Keep.set w19 p 6 (.slice (some ⟨g19, 0, none⟩) (n + 1) c2)).size; omega
          · exact (heap_setCell_same _ _ _ _ _ _ r19).trans rfl
          · exact (heap_setCell_other _ _ _ _ (by simp; omega)).trans s19
          · exact own_same hown23 fun q hq => heap_setCell_other _ _ _ _ (by have := (hgg q hq).1; simpa using this)
        have HEnd := Lib.hid hend
        clear hend r19 s19 c19 f19 k19 hown23 hgg
        go_wp2_with fail
        go_meet
        exact HEnd.out
    · have hn1 := HN.out
      rw [if_neg hlt] at hn1
      have hn256 : ¬ n < 256 := by omega
      have HRow := Lib.hid hrow'
      have HGS := Lib.hid gS
      have HOwn := Lib.hid hown'
      have HK := Lib.hid hxk
      have HN2 := Lib.hid hn256
      clear hrow' gS hown' hxk hn256 hn1
      go_wp2_with fail
      go_meet
      exact ⟨A, cp, n, g, HK.out, Nat.le_of_eq sW.symm, HRow.out, HGS.out, (if_neg HN2.out).symm, (if_neg HN2.out).symm, HOwn.out, fun i hi => ⟨fun e => HNP.out (by rw [← e]; exact hi), .inl hi⟩⟩
  case rest =>
    obtain ⟨A', c', n', g', k1, s1, r1, d1, en, eg, o1, hg1⟩ := hcut
    have b0 := cell_of_heap (j := 0) d1 rfl
    have b2 := cell_of_heap (j := 2) d1 rfl
    have a8 := cell_of_heap (j := 8) r1 rfl
    have a9 := cell_of_heap (j := 9) r1 rfl
    have a11 := cell_of_heap (j := 11) r1 rfl
    have f8 := frozen_of_row _ _ 8 _ _ r1
    have f9 := frozen_of_row _ _ 9 _ _ r1
    have f11 := frozen_of_row _ _ 11 _ _ r1
    have w9 : IntKind.i64.wrap (k + 1) = k + 1 := IntWalk.i64_in _ (by omega)
    have hend : Keep (FrF p A n cp) w (((wc.setCell ⟨p, 9, none⟩ (.int .i64 (k + 1))).setCell ⟨p, 8, none⟩ (.int .i64 y0)).setCell ⟨p, 11, none⟩ (.bool (bd || y2))) ∧
        FrM (((wc.setCell ⟨p, 9, none⟩ (.int .i64 (k + 1))).setCell ⟨p, 8, none⟩ (.int .i64 y0)).setCell ⟨p, 11, none⟩ (.bool (bd || y2))) p A' c' ⟨c, s, l, u, f, t, oneS ⟨n, g, t0, t1, k, gp, bd⟩ (y0, y1, y2)⟩ ∧ Grows (FrF p A n cp) (FrF p A' (oneS ⟨n, g, t0, t1, k, gp, bd⟩ (y0, y1, y2)).n c') w := by
      have e1 : (oneS ⟨n, g, t0, t1, k, gp, bd⟩ (y0, y1, y2)).n = n' := by rw [en]; rfl
      have e2 : (oneS ⟨n, g, t0, t1, k, gp, bd⟩ (y0, y1, y2)).f = g' := by rw [eg]; rfl
      have e3 : (oneS ⟨n, g, t0, t1, k, gp, bd⟩ (y0, y1, y2)).first = t0 := by
        show (if k = 0 then y0 else t0) = t0
        by_cases e : k = 0
        · rw [if_pos e]; exact (HF.out e).symm
        · rw [if_neg e]
      refine ⟨k1.same ((set3_keep _ _ _ _ _ _ _ _).mono fun i hi => .inl hi), ⟨?_, ?_, ?_⟩, ?_⟩
      · unfold FrRow frC
        simp only
        rw [e1, e3]
        exact (set3_same _ _ _ _ _ _ r1).trans rfl
      · simp only
        rw [e1, e2]
        exact own_same o1 fun q hq => by
          have := (hg1 q hq).1
          rw [heap_setCell_other _ _ _ _ (by simpa using this), heap_setCell_other _ _ _ _ (by simpa using this), heap_setCell_other _ _ _ _ (by simpa using this)]
      · simp only
        rw [e1]
        exact fun e => (hg1 p e).1 rfl
      · rintro i (e | e)
        · exact .inl (.inl e)
        · rw [e1] at e
          rcases (hg1 i e).2 with e | e
          · exact .inl (.inr e)
          · exact .inr (by rw [← HS.out]; exact e)
    have HEnd := Lib.hid hend
    clear hend en eg o1 hg1 k1 r1 d1 s1 hrow' gS hown'
    cases bd
    all_goals
      simp only [Bool.false_or, Bool.true_or] at HEnd
      go_wp2
      go_end0
      exact ⟨A', c', rfl, HEnd.out⟩
theorem ftake_yes (p : Nat) (A : Option Addr) (cp : Nat) (x : Fr) (w : World) (h : FrRow w p A cp x) (hk : 0 < x.sg.count) :
    Calls Try.prog 32 #[.pointer (some ⟨p, 0, none⟩)] w fun e w' => e = .returned (.func (Fn.func 45) #[] #[]) ∧ w = w' := by
  have hop := fopen_any p A cp x w h
  rw [decide_eq_true hk] at hop
  clear h hk
  go_enter Try.func32, Try.ntmps32
  go_wp2_with fail
  refine hop.mono ?_; rintro e w1 ⟨rfl, rfl⟩
  go_wp2
  go_ret
  exact ⟨rfl, rfl⟩
theorem ftake_no (p : Nat) (A : Option Addr) (cp : Nat) (x : Fr) (w : World) (h : FrRow w p A cp x) (hk : ¬ 0 < x.sg.count) :
    Calls Try.prog 32 #[.pointer (some ⟨p, 0, none⟩)] w fun e w' => e = .returned (.func (Fn.func 46) #[] #[]) ∧ w = w' := by
  have hop := fopen_any p A cp x w h
  rw [decide_eq_false hk] at hop
  clear h hk
  go_enter Try.func32, Try.ntmps32
  go_wp2_with fail
  refine hop.mono ?_; rintro e w1 ⟨rfl, rfl⟩
  go_wp2
  go_ret
  exact ⟨rfl, rfl⟩
end Go.Proofs.Ytlemnjphjmnmbaa
