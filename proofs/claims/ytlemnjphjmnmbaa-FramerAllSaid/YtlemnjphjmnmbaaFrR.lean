/-
  CONTRACTS: bilgeref10: last, Due, Held.
-/
import Derived.Test.YtlemnjphjmnmbaaFrI
import Derived.Deep.RegionLaw
namespace Go.Proofs.Ytlemnjphjmnmbaa
open Go.RowKit
set_option linter.unusedVariables false

/-- The document's framer, by value. -/
def refC (x : Fr) (a : Option Addr) (n cp told : Nat) : Array Value := #[.int .i64 x.c, .int .i64 x.s, .int .i64 x.l, .int .i64 x.u, .int .i64 x.since, .int .i64 x.now, .slice a n cp, .int .i64 told]
/-- The bytes so far, in memory. -/
structure RefM (w : World) (a : Option Addr) (cp : Nat) (L : List Byt) : Prop where
  holds : HoldsL 3 byt w a L
  le : L.length ≤ cp
  max : cp ≤ maxLen
  few : L.length ≤ 1000000
  small : ∀ x ∈ L, 0 ≤ x.2.1 ∧ x.2.1 < 256
theorem RefM.ext {w w' : World} {a : Option Addr} {cp : Nat} {L : List Byt} (h : RefM w a cp L) (x : Ext w w') : RefM w' a cp L := ⟨h.holds.ext x, h.le, h.max, h.few, h.small⟩
theorem cutL_len (x : Fr) (L : List Byt) : (cutL x L).length ≤ L.length + 1 := cutG_len _ _ _ _ _ _
set_option maxRecDepth 100000 in
set_option maxHeartbeats 4000000 in
/-- The open segment, if there is one. -/
theorem rlast_any (x : Fr) (a : Option Addr) (n cp : Nat) (L : List Byt) (T : List Seg) (w : World) (hx : FrOk x) (hr : RefR x L T) (hm : RefM w a cp L) (hn : L.length = n) :
    Calls Try.prog 27 #[.agg (refC x a n cp T.length)] w fun e w' => ∃ A c, e = .returned (.tuple #[.agg (segC A c x.sg), .bool (decide (0 < x.sg.count))]) ∧ Ext w w' ∧ SegT w' (fun _ => False) A c x.sg ∧ (x.sg.n ≠ 0 → Fresh w A) := by
  obtain ⟨o1, o2⟩ := hr.open
  have hnone := hx.none
  have hcnt := hx.count
  have hall : allS x.c x.s x.l x.u x.since L = cutL x L := by unfold allS; rw [if_pos ⟨hx.right, hr.right⟩]; rfl
  have hA := fun w' (y : Ext w w') => rall_any a n cp L x.c x.s x.l x.u x.since w' (hm.holds.ext y) hn (by have := hm.few; omega) hm.small
  rw [hall] at hA
  have hlen : T.length ≤ 1000001 := by
    have h1 := cutL_len x L
    have h2 := hm.few
    by_cases hk : 0 < x.sg.count
    · have := (o2 hk).1; omega
    · have := o1 (by omega); omega
  have hsmall := hx.small
  have hfew := hx.few
  obtain ⟨c, s, l, u, f, t, sg⟩ := x
  unfold refC
  simp only at o1 o2 hnone hcnt hA hsmall hfew ⊢
  obtain ⟨ob, hob⟩ : ∃ ob, ob = decide (0 < sg.count) := ⟨_, rfl⟩
  rw [← hob]
  have HOb := Lib.hid hob
  clear hob
  generalize T.length = told at o1 o2 hlen ⊢
  obtain ⟨W, hW⟩ : ∃ W, W = (w.alloc (.cells #[.int .i64 c, .int .i64 s, .int .i64 l, .int .i64 u, .int .i64 f, .int .i64 t, .slice a n cp, .int .i64 told] 31)).alloc (.cells (segC none 0 zeroS) 48) := ⟨_, rfl⟩
  obtain ⟨S, hS⟩ : ∃ S, S = w.heap.size := ⟨_, rfl⟩
  have xW : Ext w W := by rw [hW]; exact (Ext.alloc _ _).alloc' _
  have gR : W.heap[S + 1]? = some (.cells (segC none 0 zeroS) 48 (0, 0)) := by rw [hW, hS]; exact heap_new_at _ _ (by simp)
  have gB : W.heap[S]? = some (.cells #[.int .i64 c, .int .i64 s, .int .i64 l, .int .i64 u, .int .i64 f, .int .i64 t, .slice a n cp, .int .i64 told] 31 (0, 0)) := by rw [hW, hS, heap_alloc_old _ _ (by simp)]; exact heap_new_at _ _ rfl
  have HA := Lib.hid hA
  have HW := Lib.hid hW
  have HS := Lib.hid hS
  have HX := Lib.hid xW
  have HR := Lib.hid gR
  have HB := Lib.hid gB
  have HO := Lib.hid (And.intro o1 o2)
  have HNone := Lib.hid hnone
  have HCnt := Lib.hid hcnt
  have HSm := Lib.hid (And.intro hsmall hfew)
  clear hx hr hm hn hall hA hW hS xW gR gB o1 o2 hnone hcnt hsmall hfew
  go_enter Try.func27, Try.ntmps27
  go_wp2_with fail
  rw [show #[Value.slice none 0 0, .int .i64 0, .int .i64 0, .int .i64 0, .bool false, .bool false] = segC none 0 zeroS from rfl, ← HW.out, ← HS.out]
  clear HW
  refine (HA.out _ HX.out).mono ?_; rintro e w1 ⟨z, cz, Ls, rfl, x1, hs, hmap⟩
  clear HA
  have g7 : w1.cell? ⟨S, 7, none⟩ = some (.int .i64 told) := cell_of_heap (j := 7) (x1.block HB.out) rfl
  have hR1 := x1.block HR.out
  have hSW : S + 1 < W.heap.size := heap_lt HR.out
  have hlen2 : Ls.length = (cutL ⟨c, s, l, u, f, t, sg⟩ L).length := by rw [← hmap, List.length_map]
  have HX1 := Lib.hid (HX.out.trans x1)
  have HS1 := Lib.hid hs
  have HMap := Lib.hid hmap
  have HLe := Lib.hid (Nat.le_of_eq HS.out.symm)
  clear HX HB HR x1 hs hmap
  by_cases hk : 0 < sg.count
  · obtain ⟨q1, q2⟩ := HO.out.2 hk
    have hob : ob = true := by rw [HOb.out]; exact decide_eq_true hk
    have HOb2 := Lib.hid hob
    clear hob HOb
    have hlt : told < Ls.length := by omega
    have hlt1 : ¬ ((Ls.length : Int) ≤ told) := by omega
    have hlt2 : (told : Int) < Ls.length := by omega
    have hget : (Ls[told]).2 = sg := by
      have : (Ls.map Prod.snd)[told]? = some sg := by rw [HMap.out]; exact q2
      rw [List.getElem?_map, List.getElem?_eq_getElem hlt] at this
      simpa using this
    have heach := HS1.out.each Ls[told] (List.getElem_mem _)
    obtain ⟨zb, zo, rfl, hzb, -⟩ := HS1.out.segs.holds.resolve_left (by intro e; rw [e] at hlt; simp at hlt)
    obtain ⟨c0, c1, c2, c3, c4, c5⟩ := HS1.out.segs.holds.seg_at told hlt
    have hoff := fun h p hp => (HS1.out.off (Ls[told]'hlt) (List.getElem_mem hlt) h p hp).1
    generalize Ls[told] = y at hget heach hoff c0 c1 c2 c3 c4 c5
    obtain ⟨⟨A, cA⟩, sg'⟩ := y
    simp only at hget heach hoff c0 c1 c2 c3 c4 c5
    subst hget
    obtain ⟨e1, e2, e3, -, -⟩ := heach
    obtain ⟨n1, g1, t0, t1, k1, gp, bd⟩ := sg'
    simp only at c0 c1 c2 c3 c4 c5 e1 e2 hoff
    have hend : Ext w (w1.setRow (S + 1) (segC A cA ⟨n1, g1, t0, t1, k1, gp, bd⟩)) := below_setRow HX1.out (Nat.le_succ_of_le HLe.out) _
    have hseg : SegT (w1.setRow (S + 1) (segC A cA ⟨n1, g1, t0, t1, k1, gp, bd⟩)) (fun _ => False) A cA ⟨n1, g1, t0, t1, k1, gp, bd⟩ := by
      refine ⟨e1.blocks fun q o hq hne hlt => setRow_other _ _ _ _ ?_, e2, e3, HSm.out.1, HSm.out.2, fun q _ h => h⟩
      have := hoff hne ⟨q, o, none⟩ hq
      simp only at this
      omega
    have hfresh : n1 ≠ 0 → Fresh w A := fun h p hp => by have := hoff h p hp; have := HLe.out; omega
    have HEnd := Lib.hid (And.intro hend (And.intro hseg hfresh))
    generalize Ls.length = m at hlt1 hlt2 hlt
    clear HS1 HMap HX1 HLe HO HNone HCnt HSm hend hseg hfresh e1 e2 e3 q1 q2 hlen2 hk hoff
    go_wp2_with (refine wpList_store_row rfl 48 (.tmp 2) (.tmp 22) rfl (S + 1) _ rfl rfl 48 _ hR1 (by kernel_rfl) (by rfl) (by simp [Value.oneCell']) ?_)
    refine bodyPost_ret (results_row_tmp rfl _ _ (S + 1) 48 _ (0, 0) _ rfl (setRow_heap _ _ _ _ _ _ hR1) Try.underlying48 rfl (by kernel_rfl)) rfl ?_
    exact ⟨A, cA, by rw [HOb2.out]; rfl, HEnd.out⟩
  · obtain rfl := HNone.out (by have := HCnt.out; omega)
    have q1 := HO.out.1 rfl
    have hob : ob = false := by rw [HOb.out]; exact decide_eq_false hk
    have HOb2 := Lib.hid hob
    have hlt1 : (Ls.length : Int) ≤ told := by omega
    have hend : Ext w (w1.setRow (S + 1) (segC none 0 zeroS)) := below_setRow HX1.out (Nat.le_succ_of_le HLe.out) _
    have HEnd := Lib.hid (And.intro hend (And.intro (SegT.nil (w1.setRow (S + 1) (segC none 0 zeroS)) (fun _ => False)) (fun _ => Fresh.nil w : (zeroS.n ≠ 0 → Fresh w none))))
    generalize Ls.length = m at hlt1
    clear HS1 HMap HX1 HLe HO HNone HCnt HSm hend q1 hlen2 hk hob HOb
    go_wp2_with (refine wpList_store_row rfl 48 (.tmp 2) (.tmp 17) rfl (S + 1) _ rfl rfl 48 _ hR1 (by kernel_rfl) (by rfl) (by simp [Value.oneCell']) ?_)
    refine bodyPost_ret (results_row_tmp rfl _ _ (S + 1) 48 _ (0, 0) _ rfl (setRow_heap _ _ _ _ _ _ hR1) Try.underlying48 rfl (by kernel_rfl)) rfl ?_
    exact ⟨none, 0, by rw [HOb2.out]; rfl, HEnd.out⟩
/-- When it is over, if nothing comes. -/
theorem rdue_any10 (x : Fr) (a : Option Addr) (n cp : Nat) (L : List Byt) (T : List Seg) (w : World) (hx : FrOk x) (hr : RefR x L T) (hm : RefM w a cp L) (hn : L.length = n) :
    Calls Try.prog 10 #[.agg (refC x a n cp T.length)] w fun e w' => e = .returned (.tuple #[.int .i64 (dueI x), .bool (decide (0 < x.sg.count))]) ∧ Ext w w' := by
  have hl := fun w' (y : Ext w w') => rlast_any x a n cp L T w' hx hr (hm.ext y) hn
  have HAdd := Lib.hid (fun w => radd_any x.sg.last x.l w)
  unfold dueI
  obtain ⟨c, s, l, u, f, t, sg⟩ := x
  unfold refC at hl ⊢
  simp only at hl HAdd ⊢
  generalize T.length = told at hl ⊢
  have HL := Lib.hid hl
  clear hx hr hm hn hl
  by_cases hk : 0 < sg.count
  · rw [decide_eq_true hk] at HL ⊢
    rw [if_pos hk]
    generalize addI sg.last l = v at HAdd ⊢
    clear hk
    go_enter Try.func10, Try.ntmps10
    go_wp2_with fail
    refine (HL.out _ (Ext.alloc _ _)).mono ?_; rintro e w1 ⟨A, cA, rfl, x1, -⟩
    have c2 := x1.made 2 _ rfl
    have y1 := (Ext.alloc w _).trans x1
    have hlt := World.block_lt_of_cell? w1 _ c2
    simp only at hlt
    obtain ⟨B, hB⟩ : ∃ B, B = w.heap.size := ⟨_, rfl⟩
    rw [← hB] at c2 hlt ⊢
    clear hB
    obtain ⟨n1, g1, t0, t1, k1, gp, bd⟩ := sg
    unfold segC
    simp only at HAdd ⊢
    clear HL x1
    go_wp2_with fail
    refine (HAdd.out _).mono ?_; rintro e w2 ⟨rfl, rfl⟩
    go_wp2
    go_ret2
    exact ⟨rfl, y1.trans (Ext.alloc _ _)⟩
  · rw [decide_eq_false hk] at HL ⊢
    rw [if_neg hk]
    clear hk
    go_enter Try.func10, Try.ntmps10
    go_wp2_with fail
    refine (HL.out _ (Ext.alloc _ _)).mono ?_; rintro e w1 ⟨A, cA, rfl, x1, -⟩
    have y1 := (Ext.alloc w _).trans x1
    obtain ⟨n1, g1, t0, t1, k1, gp, bd⟩ := sg
    unfold segC
    simp only
    clear HL x1 HAdd
    go_wp2
    go_ret2
    exact ⟨rfl, y1.trans (Ext.alloc _ _)⟩
/-- How many bytes are held. -/
theorem rheld_any10 (x : Fr) (a : Option Addr) (n cp : Nat) (L : List Byt) (T : List Seg) (w : World) (hx : FrOk x) (hr : RefR x L T) (hm : RefM w a cp L) (hn : L.length = n) :
    Calls Try.prog 12 #[.agg (refC x a n cp T.length)] w fun e w' => e = .returned (.int .i64 (x.sg.n : Int)) ∧ Ext w w' := by
  have hl := fun w' (y : Ext w w') => rlast_any x a n cp L T w' hx hr (hm.ext y) hn
  obtain ⟨c, s, l, u, f, t, sg⟩ := x
  unfold refC at hl ⊢
  simp only at hl ⊢
  generalize T.length = told at hl ⊢
  have HL := Lib.hid hl
  clear hx hr hm hn hl
  go_enter Try.func12, Try.ntmps12
  go_wp2_with fail
  refine (HL.out _ (Ext.alloc _ _)).mono ?_; rintro e w1 ⟨A, cA, rfl, x1, -⟩
  have y1 := (Ext.alloc w _).trans x1
  obtain ⟨n1, g1, t0, t1, k1, gp, bd⟩ := sg
  unfold segC
  simp only
  clear HL x1
  go_wp2
  go_ret
  exact ⟨rfl, y1.trans (Ext.alloc _ _)⟩
end Go.Proofs.Ytlemnjphjmnmbaa
