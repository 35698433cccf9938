/-
  CONTRACTS: package object (layer 20): one object (bytes.Clone, apart, mayBe, Size), two lists (slices.EqualFunc, Same), where one is (slices.IndexFunc).
-/
import Derived.Test.YthdkhdbabohohaaObjB
namespace Go.Proofs.Ythdkhdbabohohaa
open Go.RowKit
set_option linter.unusedVariables false
set_option maxRecDepth 100000

theorem Try.infoU8c : (Try.prog.info? 5).map (fun i => (i.zero, i.size, i.bytes)) = some (some (.int .u8 0), 1, 1) := by kernel_rfl
theorem cnil_v (a : Option Addr) (n c : Nat) (w : World) : (binOp .eql 25 (.slice a n c) (.slice none 0 0)).run Try.prog w = .ok (.bool a.isNone) w :=
  Lib.run_eql_slice_nil w 25 5 a n c 0 0 Try.underlying25
theorem clone_any (a : Option Addr) (n c : Nat) (f : Nat → Int) (w : World) (h : Holds .u8 w a n f) (hn : n ≤ 1000000) :
    Calls Try.prog 49 #[.slice a n c] w fun e w' => ∃ b q, e = .returned (.slice b n q) ∧ Holds .u8 w' b n f ∧ n ≤ q ∧ q ≤ maxLen ∧ Fresh w b ∧ Ext w w' := by
  obtain ⟨iU, hiU, hzU0, hzU1, hzU2⟩ := info_parts Try.infoU8c
  have hnil := fun w => cnil_v a n c w
  cases a with
  | none =>
    have h0 : n = 0 := by
      rcases h with h | ⟨b, off, ha, _⟩
      · exact h
      · cases ha
    subst h0
    clear h
    go_enter Try.func49, Try.ntmps49
    go_wp2
    go_ret
    exact ⟨none, 0, rfl, .inl rfl, Nat.le_refl _, Nat.zero_le _, (fun p hp => by cases hp), Ext.refl _⟩
  | some p =>
    have x1 := Ext.alloc w (.cells #[] 5)
    have hg := heap_alloc_new w (.cells #[] 5)
    have h1 := h.ext x1
    have HW := Lib.hid x1
    have hb1 : w.heap.size ≤ (w.alloc (.cells #[] 5)).heap.size := x1.size
    clear h x1
    go_enter Try.func49, Try.ntmps49
    go_wp2_with (at_builtin; refine wpList_append_holds (mk := Value.int .u8) rfl _ _ 25 rfl w.heap.size 5 iU (.int .u8 0) 1 Try.underlying25 hiU hzU0 hzU1 hzU2 rfl _ 0 [] rfl (own_empty hg (Nat.le_refl _)) (some p) n c f rfl h1 (fun _ => rfl) (by unfold maxLen; omega) (by omega) hb1 ?_; intro v' w2 hown _ hb)
    rw [Nat.zero_add, List.nil_append] at hown
    obtain ⟨b, q, rfl, h1, h2, h3, h4⟩ := Holds.of_own_at hown
    go_ret
    exact ⟨b, q, rfl, h3, h1, h2, h4, Below.trans HW.out hb⟩

theorem size_any (z : Ob) (w : World) (hz : ObjAt w z) (hn : z.n ≤ 1000000) : Calls Try.prog 22 #[.agg (obC z)] w fun e w' => e = .returned (.int .i64 (2 + (z.n : Int))) ∧ Ext w w' := by
  unfold obC
  obtain ⟨zi, za, zn, zc, zf⟩ := z
  simp only at hn ⊢
  have e1 : IntKind.i64.wrap (2 + (zn : Int)) = 2 + zn := IntWalk.i64_in _ (by omega)
  clear hz
  go_enter Try.func22, Try.ntmps22
  go_wp2
  go_ret
  exact ⟨rfl, Ext.alloc _ _⟩
theorem Holds.blocksO {k : IntKind} {w w' : World} {a : Option Addr} {n : Nat} {f : Nat → Int} (h : Holds k w a n f) (e : ∀ q o, a = some ⟨q, o, none⟩ → n ≠ 0 → q < w.heap.size → w'.heap[q]? = w.heap[q]?) : Holds k w' a n f := by
  rcases h with h | ⟨b, off, ha, hlt, hc⟩
  · exact .inl h
  · by_cases hn : n = 0
    · exact .inl hn
    · have hb := e b off ha hn hlt
      refine .inr ⟨b, off, ha, ?_, fun i hi => ?_⟩
      · rw [Array.getElem?_eq_getElem hlt] at hb
        exact heap_lt hb
      · rw [← hc i hi]; unfold World.cell?; simp only [hb]
set_option maxRecDepth 100000 in
set_option maxHeartbeats 4000000 in
theorem row2_set {w : World} {B : Nat} {t : TypeId} {o0 o1 : Value} (v0 v1 : Value) (h : w.heap[B]? = some (.cells #[o0, o1] t (0, 0))) : ((w.setCell ⟨B, 0, none⟩ v0).setCell ⟨B, 1, none⟩ v1).heap[B]? = some (.cells #[v0, v1] t (0, 0)) :=
  (heap_setCell_same _ _ _ _ _ _ (heap_setCell_same _ _ _ _ _ _ h)).trans rfl
theorem row2_other {w : World} {B q : Nat} (v0 v1 : Value) (h : q ≠ B) : ((w.setCell ⟨B, 0, none⟩ v0).setCell ⟨B, 1, none⟩ v1).heap[q]? = w.heap[q]? := by
  rw [heap_setCell_other _ _ _ _ (by simpa using h), heap_setCell_other _ _ _ _ (by simpa using h)]
theorem row2_ext {w w' : World} {B : Nat} (v0 v1 : Value) (x : Ext w w') (h : w.heap.size ≤ B) : Ext w ((w'.setCell ⟨B, 0, none⟩ v0).setCell ⟨B, 1, none⟩ v1) := Below.set (Below.set x h _) h _
theorem apart_fin {w W0 w2 : World} {A zn zc q : Nat} {zi : Int} {za b : Option Addr} {zf : Nat → Int} (hA : A = w.heap.size) (hz : ObjAt w ⟨zi, za, zn, zc, zf⟩) (l1 : A + 1 < W0.heap.size) (x : Ext w w2) (h1 : Holds .u8 w2 b zn zf) (h2 : zn ≤ q) (h3 : q ≤ maxLen) (h4 : Fresh W0 b) :
    ∃ y : Ob, Ending.returned (Value.agg #[Value.int .i64 zi, Value.slice b zn q]) = .returned (.agg #[.int .i64 y.id, .slice y.a y.n y.c]) ∧ ObjAt ((w2.setCell ⟨A + 1, 0, none⟩ (.int .i64 zi)).setCell ⟨A + 1, 1, none⟩ (.slice b zn q)) y ∧ sameZ y ⟨zi, za, zn, zc, zf⟩ = true ∧ y.n = zn ∧ Fresh w y.a ∧ Ext w ((w2.setCell ⟨A + 1, 0, none⟩ (.int .i64 zi)).setCell ⟨A + 1, 1, none⟩ (.slice b zn q)) := by
  refine ⟨⟨zi, b, zn, q, zf⟩, rfl, ⟨?_, h2, h3, hz.s, hz.b, hz.wi⟩, sameZ_iff.2 ⟨rfl, rfl, fun _ _ => rfl⟩, rfl, fun p hp => by have := h4 p hp; omega, row2_ext _ _ x (by omega)⟩
  refine Holds.blocksO h1 fun q' o' hq _ _ => row2_other _ _ ?_
  have hq : b = some ⟨q', o', none⟩ := hq
  have := h4 _ hq
  simp at this; omega
set_option maxHeartbeats 2000000 in
theorem apart_any (z : Ob) (w : World) (hz : ObjAt w z) (hn : z.n ≤ 1000000) : Calls Try.prog 45 #[.agg (obC z)] w fun e w' => ∃ y, e = .returned (.agg (obC y)) ∧ ObjAt w' y ∧ sameZ y z = true ∧ y.n = z.n ∧ Fresh w y.a ∧ Ext w w' := by
  unfold obC
  obtain ⟨zi, za, zn, zc, zf⟩ := z
  simp only at hn ⊢
  have HC := Lib.hid (fun W (x : Ext w W) => clone_any za zn zc zf W (hz.h.ext x) hn)
  have HZ := Lib.hid hz
  clear hz hn
  obtain ⟨W0, hW0⟩ : ∃ W0, W0 = (w.alloc (.cells #[.int .i64 zi, .slice za zn zc] 49)).alloc (.cells #[.int .i64 0, .slice none 0 0] 49) := ⟨_, rfl⟩
  have x0 : Ext w W0 := by rw [hW0]; exact (Ext.alloc _ _).alloc' _
  have g0 : W0.heap[w.heap.size]? = some (.cells #[.int .i64 zi, .slice za zn zc] 49 (0, 0)) := by rw [hW0]; exact (heap_alloc_old _ _ (by simp)).trans (heap_alloc_new _ _)
  have g1 : W0.heap[w.heap.size + 1]? = some (.cells #[.int .i64 0, .slice none 0 0] 49 (0, 0)) := by rw [hW0]; exact heap_new_at _ _ (by simp)
  have c0 := cell_of_heap (j := 0) g0 rfl; have c1 := cell_of_heap (j := 1) g0 rfl
  have HX := Lib.hid x0
  obtain ⟨A, hA⟩ : ∃ A, A = w.heap.size := ⟨_, rfl⟩
  have HB := Lib.hid hA
  go_enter Try.func45, Try.ntmps45
  go_wp2_with fail
  rw [← hW0]
  rw [← hA] at g0 g1 c0 c1 ⊢
  have l0 := heap_lt g0
  have l1 := heap_lt g1
  clear hW0 hA x0
  have G0 := Lib.hid g0
  have G1 := Lib.hid g1
  clear g0 g1
  go_region_with (first | (go_at_call 49; refine (HC.out _ (ext_drew HX.out)).mono ?_; rintro e w2 ⟨b, q, rfl, h1, h2, h3, h4, x2⟩; have G0 := Lib.hid (x2.block G0.out); have G1 := Lib.hid (x2.block G1.out); have c0 := cell_of_heap (j := 0) G0.out rfl; have c1 := cell_of_heap (j := 1) G0.out rfl; have d0 := cell_of_heap (j := 0) G1.out rfl; have d1 := cell_of_heap (j := 1) G1.out rfl; have f0 := frozen_of_row _ _ 0 _ _ G1.out; have f1 := frozen_of_row _ _ 1 _ _ G1.out; have l0' := heap_lt G0.out; have l1' := heap_lt G1.out))
  all_goals go_wp2_with fail
  all_goals
    refine bodyPost_ret (results_cell_row rfl _ _ (A + 1) 49 _ (0, 0) _ rfl (row2_set _ _ G1.out) Try.underlying49 rfl (by kernel_rfl)) rfl ?_
    exact apart_fin HB.out HZ.out l1 ((ext_drew HX.out).trans x2) h1 h2 h3 h4
theorem ofI2_mb {id : Int} (h : ofI 2 id = false) : ¬ (0 ≤ id ∧ id ≤ 6) := by
  intro hh
  unfold ofI at h
  rw [if_neg (by decide), if_pos rfl, decide_eq_true hh] at h
  cases h
theorem ofI2_yes {id : Int} (h : ofI 2 id = true) : 0 ≤ id ∧ id ≤ 6 := by
  unfold ofI at h
  rw [if_neg (by decide), if_pos rfl] at h
  exact of_decide_eq_true h
set_option maxHeartbeats 2000000 in
theorem maybe_any (z : Ob) (w : World) (hz : ObjAt w z) (hn : z.n ≤ 1000000) : Calls Try.prog 42 #[.agg (obC z)] w fun e w' => e = .returned (.bool (okO z)) ∧ Ext w w' := by
  have HS := Lib.hid (fun W => sort_yes 2 W (by decide) (by decide))
  have HI := Lib.hid (fun W => within_any 128 255 (fun z : Ob => decide (128 ≤ z.id ∧ z.id ≤ 255)) W (fun z hz => rfl))
  have HW := Lib.hid (fun b1 b2 P W (h : TakesW W b1 b2 P) => wit_any b1 b2 P z W h hz.wi)
  have HO : Hid (okO z = ((ofI 2 z.id || decide (128 ≤ z.id ∧ z.id ≤ 255)) && decide ((z.n : Int) ≤ 240))) := Lib.hid (by
    rw [Bool.eq_iff_iff, okO_iff, Bool.and_eq_true, Bool.or_eq_true, decide_eq_true_iff, decide_eq_true_iff]
    constructor
    · rintro ⟨h1, h2, h3, h4⟩
      refine ⟨?_, by omega⟩
      rcases h3 with h3 | h3
      · left; unfold ofI; rw [if_neg (by decide), if_pos rfl]; exact decide_eq_true ⟨h1, h3⟩
      · exact .inr ⟨h3, h2⟩
    · rintro ⟨h1, h2⟩
      rcases h1 with h1 | h1
      · have := ofI2_yes h1; exact ⟨by omega, by omega, by omega, by omega⟩
      · exact ⟨by omega, by omega, by omega, by omega⟩)
  rw [HO.out]
  unfold obC at HW ⊢
  obtain ⟨zi, za, zn, zc, zf⟩ := z
  simp only at HW hn ⊢
  clear hz HO
  have x0 := Ext.alloc w (.cells #[.int .i64 zi, .slice za zn zc] 49)
  have g0 := heap_alloc_new w (.cells #[.int .i64 zi, .slice za zn zc] 49)
  obtain ⟨W0, hW0⟩ : ∃ W0, W0 = w.alloc (.cells #[.int .i64 zi, .slice za zn zc] 49) := ⟨_, rfl⟩
  obtain ⟨A, hA⟩ : ∃ A, A = w.heap.size := ⟨_, rfl⟩
  rw [← hW0] at x0 g0
  rw [← hA] at g0
  obtain ⟨K, hK⟩ : ∃ K, K = ofI 2 zi := ⟨_, rfl⟩
  obtain ⟨M, hM⟩ : ∃ M, M = decide (128 ≤ zi ∧ zi ≤ 255) := ⟨_, rfl⟩
  obtain ⟨D, hD⟩ : ∃ D, D = (K || M) := ⟨_, rfl⟩
  rw [← hK, ← hM, ← hD]
  have HW2 : Hid (∀ b1 b2 W, TakesW W b1 b2 (fun z => ofI 2 z.id) → Calls Try.prog 55 #[.agg #[.int .i64 zi, .slice za zn zc], .pointer (some ⟨b1, 0, none⟩), .pointer (some ⟨b2, 0, none⟩)] W fun e w' => e = .returned (.bool K) ∧ Ext W w') := Lib.hid (fun b1 b2 W h => by rw [hK]; exact HW.out b1 b2 _ W h)
  have HW3 : Hid (∀ b1 b2 W, TakesW W b1 b2 (fun z => decide (128 ≤ z.id ∧ z.id ≤ 255)) → Calls Try.prog 55 #[.agg #[.int .i64 zi, .slice za zn zc], .pointer (some ⟨b1, 0, none⟩), .pointer (some ⟨b2, 0, none⟩)] W fun e w' => e = .returned (.bool M) ∧ Ext W w') := Lib.hid (fun b1 b2 W h => by rw [hM]; exact HW.out b1 b2 _ W h)
  unfold witV at HS HI
  clear HW hK hM
  have HD := Lib.hid hD
  go_enter Try.func42, Try.ntmps42
  go_wp2_with fail
  rw [← hW0, ← hA]
  have HX := Lib.hid x0
  have G0 := Lib.hid g0
  have l0 := heap_lt g0
  have c0 := cell_of_heap (j := 0) g0 rfl; have c1 := cell_of_heap (j := 1) g0 rfl
  clear hW0 hA x0 g0 hD
  go_cut [3] from 4 to 12 (fun pv wx => pv = .bool D ∧ Ext w wx ∧ wx.heap[A]? = some (.cells #[.int .i64 zi, .slice za zn zc] 49 (0, 0)))
  case first =>
    cases K
    · go_region_with (first
        | (go_at_call 41; refine (HS.out _).mono ?_; rintro e w2 ⟨b1, b2, rfl, t2, x2⟩; have G0 := Lib.hid (x2.block G0.out); have c0 := cell_of_heap (j := 0) G0.out rfl; have c1 := cell_of_heap (j := 1) G0.out rfl; have l0 := heap_lt G0.out; have HX := Lib.hid ((ext_drew HX.out).trans x2))
        | (go_at_call 44; refine (HI.out _).mono ?_; rintro e w4 ⟨b3, b4, rfl, t4, x4⟩; have G0 := Lib.hid (x4.block G0.out); have c0 := cell_of_heap (j := 0) G0.out rfl; have c1 := cell_of_heap (j := 1) G0.out rfl; have l0 := heap_lt G0.out; have HX := Lib.hid (HX.out.trans x4))
        | (go_at_call 55; first
            | (refine (HW3.out _ _ _ t4).mono ?_; rintro e w5 ⟨rfl, x5⟩; have G0 := Lib.hid (x5.block G0.out); have c0 := cell_of_heap (j := 0) G0.out rfl; have c1 := cell_of_heap (j := 1) G0.out rfl; have l0 := heap_lt G0.out; have HX := Lib.hid (HX.out.trans x5))
            | (refine (HW2.out _ _ _ t2).mono ?_; rintro e w3 ⟨rfl, x3⟩; have G0 := Lib.hid (x3.block G0.out); have c0 := cell_of_heap (j := 0) G0.out rfl; have c1 := cell_of_heap (j := 1) G0.out rfl; have l0 := heap_lt G0.out; have HX := Lib.hid (HX.out.trans x3))))
      all_goals go_wp2_with fail
      all_goals go_meet
      all_goals exact ⟨by rw [HD.out]; rfl, HX.out, G0.out⟩
    · go_region_with (first
        | (go_at_call 41; refine (HS.out _).mono ?_; rintro e w2 ⟨b1, b2, rfl, t2, x2⟩; have G0 := Lib.hid (x2.block G0.out); have c0 := cell_of_heap (j := 0) G0.out rfl; have c1 := cell_of_heap (j := 1) G0.out rfl; have l0 := heap_lt G0.out; have HX := Lib.hid ((ext_drew HX.out).trans x2))
        | (go_at_call 55; refine (HW2.out _ _ _ t2).mono ?_; rintro e w3 ⟨rfl, x3⟩; have G0 := Lib.hid (x3.block G0.out); have c0 := cell_of_heap (j := 0) G0.out rfl; have c1 := cell_of_heap (j := 1) G0.out rfl; have l0 := heap_lt G0.out; have HX := Lib.hid (HX.out.trans x3)))
      all_goals go_wp2_with fail
      all_goals go_meet
      all_goals exact ⟨by rw [HD.out]; rfl, HX.out, G0.out⟩
  case rest =>
    obtain ⟨rfl, xc, gc⟩ := hcut
    clear c0 c1 l0 G0
    have c1 := cell_of_heap (j := 1) gc rfl
    have l0 := heap_lt gc
    clear gc
    cases D
    · go_wp2_with fail
      go_ret
      exact ⟨rfl, xc⟩
    · go_wp2_with fail
      go_ret
      exact ⟨rfl, xc⟩
end Go.Proofs.Ythdkhdbabohohaa
