/-
  CONTRACTS: package file (layer 14): Same.
-/
import Derived.Test.YtkfpnijacfeogaaFilP
import Derived.Test.YtkfpnijacfeogaaFilN
import Derived.Test.YtkfpnijacfeogaaStepStore
import Derived.Test.YtkfpnijacfeogaaWin
namespace Go.Proofs.Ytkfpnijacfeogaa
open Go.RowKit
set_option linter.unusedVariables false

set_option maxHeartbeats 2000000 in
theorem sleqbool_any (a b : Option Addr) (n m c d : Nat) (f g : Nat → Bool) (w : World) (ha : HoldsG Value.bool w a n f) (hb : HoldsG Value.bool w b m g) (hn : n ≤ 1000000) (hm : m ≤ 1000000) :
    Calls Try.prog 63 #[.slice a n c, .slice b m d] w fun e w' => e = .returned (.bool (eqG n m f g)) ∧ ∃ q, w' = w.drewN q := by
  by_cases hnm : n = m
  · subst hnm
    go_enter Try.func63, Try.ntmps63
    go_wp2
    go_loopw [13] (fun i wr => ∃ j : Nat, j ≤ n ∧ i = .int .i64 j ∧ (∀ t, t < j → f t = g t) ∧ ∃ q, wr = w.drewN q) (fun i _ => n - (intOf i).toNat)
    case atStart => exact ⟨0, Nat.zero_le _, rfl, fun t ht => absurd ht (by omega), 0, rfl⟩
    case round =>
      obtain ⟨j, hj, rfl, hall0, q, rfl⟩ := hrel
      have hall := Lib.hid hall0
      clear hall0
      by_cases hlt : j < n
      · obtain ⟨p, o, rfl, hp, hc⟩ := ha.resolve_left (by omega)
        obtain ⟨p', o', rfl, hp', hc'⟩ := hb.resolve_left (by omega)
        have c1 := hc j hlt
        have c2 := hc' j hlt
        clear hc hc' ha hb
        obtain ⟨x, hx⟩ : ∃ x, x = f j := ⟨_, rfl⟩
        obtain ⟨y, hy⟩ : ∃ y, y = g j := ⟨_, rfl⟩
        rw [← hx] at c1
        rw [← hy] at c2
        have HX := Lib.hid hx
        have HY := Lib.hid hy
        clear hx hy
        by_cases hxy : x = y
        · cases x <;> cases y <;> (first | (cases hxy; done) | skip)
          all_goals
            clear hxy
            go_wp2
            go_quiet (fail)
            go_wp2
            go_roundw
            case rel => exact ⟨j + 1, by omega, by go_num, fun t ht => by rcases Nat.lt_or_ge t j with h | h; exact hall.out t h; obtain rfl : t = j := by omega
                                                                          exact HX.out.symm.trans HY.out, q + _, rfl⟩
            case measure => simp [intOf]; omega
        · have he := Lib.hid (eqG_false (n := n) (m := n) (f := f) (g := g) (.inr ⟨j, hlt, by rw [← HX.out, ← HY.out]; exact hxy⟩))
          cases x <;> cases y <;> (first | (exact absurd rfl hxy; done) | skip)
          all_goals
            clear hxy
            go_wp2
            go_quiet (fail)
            go_wp2
            go_ret
            exact ⟨ret_b he.out.symm, dr2 _ _ _⟩
      · have he := Lib.hid (eqG_true (n := n) (m := n) (f := f) (g := g) rfl (fun i hi => hall.out i (by omega)))
        clear ha hb
        go_wp2
        go_ret
        exact ⟨ret_b he.out.symm, _, rfl⟩
  · have he := Lib.hid (eqG_false (n := n) (m := m) (f := f) (g := g) (.inl hnm))
    clear ha hb
    go_enter Try.func63, Try.ntmps63
    go_wp2
    go_ret
    exact ⟨ret_b he.out.symm, 0, rfl⟩
set_option maxHeartbeats 2000000 in
theorem slequint16_any (a b : Option Addr) (n m c d : Nat) (f g : Nat → Int) (w : World) (ha : HoldsG (Value.int .u16) w a n f) (hb : HoldsG (Value.int .u16) w b m g) (hn : n ≤ 1000000) (hm : m ≤ 1000000) :
    Calls Try.prog 65 #[.slice a n c, .slice b m d] w fun e w' => e = .returned (.bool (eqB n m f g)) ∧ ∃ q, w' = w.drewN q := by
  by_cases hnm : n = m
  · subst hnm
    go_enter Try.func65, Try.ntmps65
    go_wp2
    go_loopw [13] (fun i wr => ∃ j : Nat, j ≤ n ∧ i = .int .i64 j ∧ (∀ t, t < j → f t = g t) ∧ ∃ q, wr = w.drewN q) (fun i _ => n - (intOf i).toNat)
    case atStart => exact ⟨0, Nat.zero_le _, rfl, fun t ht => absurd ht (by omega), 0, rfl⟩
    case round =>
      obtain ⟨j, hj, rfl, hall0, q, rfl⟩ := hrel
      have hall := Lib.hid hall0
      clear hall0
      by_cases hlt : j < n
      · obtain ⟨p, o, rfl, hp, hc⟩ := ha.resolve_left (by omega)
        obtain ⟨p', o', rfl, hp', hc'⟩ := hb.resolve_left (by omega)
        have c1 := hc j hlt
        have c2 := hc' j hlt
        clear hc hc' ha hb
        by_cases hfg : f j = g j
        · have hfe := Lib.hid hfg
          have hff : (f j != g j) = false := by simp [hfg]
          clear hfg
          go_wp2
          go_quiet (fail)
          go_wp2
          go_roundw
          case rel => exact ⟨j + 1, by omega, by go_num, fun t ht => by rcases Nat.lt_or_ge t j with h | h; exact hall.out t h; obtain rfl : t = j := by omega
                                                                        exact hfe.out, q + _, rfl⟩
          case measure => simp [intOf]; omega
        · have he := Lib.hid (eqB_false (n := n) (m := n) (f := f) (g := g) (.inr ⟨j, hlt, hfg⟩))
          have hff : (f j != g j) = true := by simp [hfg]
          clear hfg
          go_wp2
          go_quiet (fail)
          go_wp2
          go_ret
          exact ⟨by rw [he.out]; rfl, drewN_two _ _ _⟩
      · have he := Lib.hid (eqB_true (n := n) (m := n) (f := f) (g := g) rfl (fun i hi => hall.out i (by omega)))
        clear ha hb
        go_wp2
        go_ret
        exact ⟨by rw [he.out]; rfl, _, rfl⟩
  · have he := Lib.hid (eqB_false (n := n) (m := m) (f := f) (g := g) (.inl hnm))
    clear ha hb
    go_enter Try.func65, Try.ntmps65
    go_wp2
    go_ret
    exact ⟨by rw [he.out]; rfl, 0, rfl⟩
set_option maxRecDepth 100000 in
set_option maxHeartbeats 8000000 in
theorem fagainst_coils (V : FilV) (F : Fil) (U : FilV) (G : Fil) (A D : Nat) (w : World) (hA : w.heap[A]? = some (.cells (filC V F) 96 (0, 0))) (hD : w.heap[D]? = some (.cells (filC U G) 96 (0, 0))) (hf : FilAt w V F) (hg : FilAt w U G) (sF : Small F) (sG : Small G) :
    Calls Try.prog 62 #[.func (Fn.func 32) #[] #[], .pointer (some ⟨A, 0, none⟩), .pointer (some ⟨D, 0, none⟩)] w fun e w' => e = .returned (.bool (eqW F.cf F.cc G.cf G.cc && eqG F.nC G.nC F.C G.C)) ∧ Ext w w' := by
  have HT := Lib.hid (fun w' hb => fcoils_v V F A w' hb)
  have HU := Lib.hid (fun w' hb => fcoils_v U G D w' hb)
  have K := Lib.hid (fun w' (hx : Ext w w') => (sleqbool_any V.a1 U.a1 F.nC G.nC V.d1 U.d1 F.C G.C w' (hf.h1.ext hx) (hg.h1.ext hx) sF.s1 sG.s1).mono fun _ _ h => (⟨h.1, Ext.of_drewN h.2⟩ : _ ∧ Ext w' _))
  generalize eqG F.nC G.nC F.C G.C = B at K ⊢
  have hgd := fun x y xs ys w => weqg .eql x y xs ys w
  clear hf hg sF sG
  cases he : eqW F.cf F.cc G.cf G.cc with
  | false =>
    have hq := fun w => weql_v he w
    clear he K
    rw [Bool.false_and]
    go_enter Try.func62, Try.ntmps62
    go_wp2_with fail
    refine (HT.out _ hA).mono ?_; rintro e w1 ⟨rfl, x1⟩
    have y1 := x1.trans (Ext.alloc w1 (.cells #[.int .i64 F.cf, .int .i64 F.cc] 23))
    have hD1 := y1.block hD
    have a1 : (w1.alloc (.cells #[.int .i64 F.cf, .int .i64 F.cc] 23)).heap[w1.heap.size]? = some (.cells #[.int .i64 F.cf, .int .i64 F.cc] 23 (0, 0)) := heap_alloc_new w1 _
    go_wp2_with fail
    refine (HU.out _ hD1).mono ?_; rintro e w2 ⟨rfl, x2⟩
    obtain ⟨W3, hW3, HY, HE⟩ : ∃ W3, W3 = w2.alloc (.cells #[.int .i64 G.cf, .int .i64 G.cc] 23) ∧ Hid (∀ W, Ext W3 W → W.cell? ⟨w1.heap.size, 0, none⟩ = some (.int .i64 F.cf) ∧ W.cell? ⟨w1.heap.size, 1, none⟩ = some (.int .i64 F.cc) ∧ W.cell? ⟨w2.heap.size, 0, none⟩ = some (.int .i64 G.cf) ∧ W.cell? ⟨w2.heap.size, 1, none⟩ = some (.int .i64 G.cc) ∧ W.cell? ⟨A, 10, none⟩ = some (.slice V.a1 F.nC V.d1) ∧ W.cell? ⟨D, 10, none⟩ = some (.slice U.a1 G.nC U.d1)) ∧ Hid (Ext w W3) :=
      ⟨_, rfl, Lib.hid (fun W hx => have z := (x2.trans (Ext.alloc w2 _)).trans hx; ⟨cell_of_heap (z.block a1) rfl, cell_of_heap (z.block a1) rfl, hx.made 0 _ rfl, hx.made 1 _ rfl, cell_of_heap ((y1.trans z).block hA) rfl, cell_of_heap ((y1.trans z).block hD) rfl⟩), Lib.hid (y1.trans (x2.trans (Ext.alloc _ _)))⟩
    clear x1 y1 hD1 a1 x2 hA hD
    go_wp2_with fail
    rw [← hW3]
    clear hW3
    obtain ⟨q0, q1, q2, q3, q4, q5⟩ := HY.out W3.drew (Ext.drew _)
    have y0 : Ext W3 W3.drew := Ext.drew _
    go_region
    go_wp2
    go_ret
    exact ⟨rfl, HE.out.trans (Ext.drew _)⟩
  | true =>
    have hq := fun w => weql_v he w
    clear he
    rw [Bool.true_and]
    go_enter Try.func62, Try.ntmps62
    go_wp2_with fail
    refine (HT.out _ hA).mono ?_; rintro e w1 ⟨rfl, x1⟩
    have y1 := x1.trans (Ext.alloc w1 (.cells #[.int .i64 F.cf, .int .i64 F.cc] 23))
    have hD1 := y1.block hD
    have a1 : (w1.alloc (.cells #[.int .i64 F.cf, .int .i64 F.cc] 23)).heap[w1.heap.size]? = some (.cells #[.int .i64 F.cf, .int .i64 F.cc] 23 (0, 0)) := heap_alloc_new w1 _
    go_wp2_with fail
    refine (HU.out _ hD1).mono ?_; rintro e w2 ⟨rfl, x2⟩
    obtain ⟨W3, hW3, HY, HE⟩ : ∃ W3, W3 = w2.alloc (.cells #[.int .i64 G.cf, .int .i64 G.cc] 23) ∧ Hid (∀ W, Ext W3 W → W.cell? ⟨w1.heap.size, 0, none⟩ = some (.int .i64 F.cf) ∧ W.cell? ⟨w1.heap.size, 1, none⟩ = some (.int .i64 F.cc) ∧ W.cell? ⟨w2.heap.size, 0, none⟩ = some (.int .i64 G.cf) ∧ W.cell? ⟨w2.heap.size, 1, none⟩ = some (.int .i64 G.cc) ∧ W.cell? ⟨A, 10, none⟩ = some (.slice V.a1 F.nC V.d1) ∧ W.cell? ⟨D, 10, none⟩ = some (.slice U.a1 G.nC U.d1)) ∧ Hid (Ext w W3) :=
      ⟨_, rfl, Lib.hid (fun W hx => have z := (x2.trans (Ext.alloc w2 _)).trans hx; ⟨cell_of_heap (z.block a1) rfl, cell_of_heap (z.block a1) rfl, hx.made 0 _ rfl, hx.made 1 _ rfl, cell_of_heap ((y1.trans z).block hA) rfl, cell_of_heap ((y1.trans z).block hD) rfl⟩), Lib.hid (y1.trans (x2.trans (Ext.alloc _ _)))⟩
    clear x1 y1 hD1 a1 x2 hA hD
    go_wp2_with fail
    rw [← hW3]
    clear hW3
    obtain ⟨q0, q1, q2, q3, q4, q5⟩ := HY.out W3.drew (Ext.drew _)
    have y0 : Ext W3 W3.drew := Ext.drew _
    go_region_held3 (fun w' => w'.cell? ⟨w1.heap.size, 0, none⟩ = some (.int .i64 F.cf) ∧ w'.cell? ⟨w1.heap.size, 1, none⟩ = some (.int .i64 F.cc) ∧ w'.cell? ⟨w2.heap.size, 0, none⟩ = some (.int .i64 G.cf) ∧ w'.cell? ⟨w2.heap.size, 1, none⟩ = some (.int .i64 G.cc) ∧ w'.cell? ⟨A, 10, none⟩ = some (.slice V.a1 F.nC V.d1) ∧ w'.cell? ⟨D, 10, none⟩ = some (.slice U.a1 G.nC U.d1) ∧ Ext W3 w')
      ((refine ⟨?_, ?_, ?_, ?_, ?_, ?_, ?_⟩ <;> assumption))
      (first
        | (go_at_call 63; refine (K.out _ (HE.out.trans (by assumption))).mono ?_; rintro e w6 ⟨rfl, x6⟩; have y6 : Ext W3 w6 := Ext.trans (by assumption) x6; obtain ⟨a0, a1, a2, a3, a4, a5⟩ := HY.out _ y6))
    clear q0 q1 q2 q3 q4 q5 a0 a1 a2 a3 a4 a5
    go_wp2
    go_ret
    exact ⟨rfl, HE.out.trans y6⟩
set_option maxRecDepth 100000 in
set_option maxHeartbeats 8000000 in
theorem fagainst_inputs (V : FilV) (F : Fil) (U : FilV) (G : Fil) (A D : Nat) (w : World) (hA : w.heap[A]? = some (.cells (filC V F) 96 (0, 0))) (hD : w.heap[D]? = some (.cells (filC U G) 96 (0, 0))) (hf : FilAt w V F) (hg : FilAt w U G) (sF : Small F) (sG : Small G) :
    Calls Try.prog 62 #[.func (Fn.func 33) #[] #[], .pointer (some ⟨A, 0, none⟩), .pointer (some ⟨D, 0, none⟩)] w fun e w' => e = .returned (.bool (eqW F.jf F.jc G.jf G.jc && eqG F.nI G.nI F.I G.I)) ∧ Ext w w' := by
  have HT := Lib.hid (fun w' hb => finputs_v V F A w' hb)
  have HU := Lib.hid (fun w' hb => finputs_v U G D w' hb)
  have K := Lib.hid (fun w' (hx : Ext w w') => (sleqbool_any V.a2 U.a2 F.nI G.nI V.d2 U.d2 F.I G.I w' (hf.h2.ext hx) (hg.h2.ext hx) sF.s2 sG.s2).mono fun _ _ h => (⟨h.1, Ext.of_drewN h.2⟩ : _ ∧ Ext w' _))
  generalize eqG F.nI G.nI F.I G.I = B at K ⊢
  have hgd := fun x y xs ys w => weqg .eql x y xs ys w
  clear hf hg sF sG
  cases he : eqW F.jf F.jc G.jf G.jc with
  | false =>
    have hq := fun w => weql_v he w
    clear he K
    rw [Bool.false_and]
    go_enter Try.func62, Try.ntmps62
    go_wp2_with fail
    refine (HT.out _ hA).mono ?_; rintro e w1 ⟨rfl, x1⟩
    have y1 := x1.trans (Ext.alloc w1 (.cells #[.int .i64 F.jf, .int .i64 F.jc] 23))
    have hD1 := y1.block hD
    have a1 : (w1.alloc (.cells #[.int .i64 F.jf, .int .i64 F.jc] 23)).heap[w1.heap.size]? = some (.cells #[.int .i64 F.jf, .int .i64 F.jc] 23 (0, 0)) := heap_alloc_new w1 _
    go_wp2_with fail
    refine (HU.out _ hD1).mono ?_; rintro e w2 ⟨rfl, x2⟩
    obtain ⟨W3, hW3, HY, HE⟩ : ∃ W3, W3 = w2.alloc (.cells #[.int .i64 G.jf, .int .i64 G.jc] 23) ∧ Hid (∀ W, Ext W3 W → W.cell? ⟨w1.heap.size, 0, none⟩ = some (.int .i64 F.jf) ∧ W.cell? ⟨w1.heap.size, 1, none⟩ = some (.int .i64 F.jc) ∧ W.cell? ⟨w2.heap.size, 0, none⟩ = some (.int .i64 G.jf) ∧ W.cell? ⟨w2.heap.size, 1, none⟩ = some (.int .i64 G.jc) ∧ W.cell? ⟨A, 11, none⟩ = some (.slice V.a2 F.nI V.d2) ∧ W.cell? ⟨D, 11, none⟩ = some (.slice U.a2 G.nI U.d2)) ∧ Hid (Ext w W3) :=
      ⟨_, rfl, Lib.hid (fun W hx => have z := (x2.trans (Ext.alloc w2 _)).trans hx; ⟨cell_of_heap (z.block a1) rfl, cell_of_heap (z.block a1) rfl, hx.made 0 _ rfl, hx.made 1 _ rfl, cell_of_heap ((y1.trans z).block hA) rfl, cell_of_heap ((y1.trans z).block hD) rfl⟩), Lib.hid (y1.trans (x2.trans (Ext.alloc _ _)))⟩
    clear x1 y1 hD1 a1 x2 hA hD
    go_wp2_with fail
    rw [← hW3]
    clear hW3
    obtain ⟨q0, q1, q2, q3, q4, q5⟩ := HY.out W3.drew (Ext.drew _)
    have y0 : Ext W3 W3.drew := Ext.drew _
    go_region
    go_wp2
    go_ret
    exact ⟨rfl, HE.out.trans (Ext.drew _)⟩
  | true =>
    have hq := fun w => weql_v he w
    clear he
    rw [Bool.true_and]
    go_enter Try.func62, Try.ntmps62
    go_wp2_with fail
    refine (HT.out _ hA).mono ?_; rintro e w1 ⟨rfl, x1⟩
    have y1 := x1.trans (Ext.alloc w1 (.cells #[.int .i64 F.jf, .int .i64 F.jc] 23))
    have hD1 := y1.block hD
    have a1 : (w1.alloc (.cells #[.int .i64 F.jf, .int .i64 F.jc] 23)).heap[w1.heap.size]? = some (.cells #[.int .i64 F.jf, .int .i64 F.jc] 23 (0, 0)) := heap_alloc_new w1 _
    go_wp2_with fail
    refine (HU.out _ hD1).mono ?_; rintro e w2 ⟨rfl, x2⟩
    obtain ⟨W3, hW3, HY, HE⟩ : ∃ W3, W3 = w2.alloc (.cells #[.int .i64 G.jf, .int .i64 G.jc] 23) ∧ Hid (∀ W, Ext W3 W → W.cell? ⟨w1.heap.size, 0, none⟩ = some (.int .i64 F.jf) ∧ W.cell? ⟨w1.heap.size, 1, none⟩ = some (.int .i64 F.jc) ∧ W.cell? ⟨w2.heap.size, 0, none⟩ = some (.int .i64 G.jf) ∧ W.cell? ⟨w2.heap.size, 1, none⟩ = some (.int .i64 G.jc) ∧ W.cell? ⟨A, 11, none⟩ = some (.slice V.a2 F.nI V.d2) ∧ W.cell? ⟨D, 11, none⟩ = some (.slice U.a2 G.nI U.d2)) ∧ Hid (Ext w W3) :=
      ⟨_, rfl, Lib.hid (fun W hx => have z := (x2.trans (Ext.alloc w2 _)).trans hx; ⟨cell_of_heap (z.block a1) rfl, cell_of_heap (z.block a1) rfl, hx.made 0 _ rfl, hx.made 1 _ rfl, cell_of_heap ((y1.trans z).block hA) rfl, cell_of_heap ((y1.trans z).block hD) rfl⟩), Lib.hid (y1.trans (x2.trans (Ext.alloc _ _)))⟩
    clear x1 y1 hD1 a1 x2 hA hD
    go_wp2_with fail
    rw [← hW3]
    clear hW3
    obtain ⟨q0, q1, q2, q3, q4, q5⟩ := HY.out W3.drew (Ext.drew _)
    have y0 : Ext W3 W3.drew := Ext.drew _
    go_region_held3 (fun w' => w'.cell? ⟨w1.heap.size, 0, none⟩ = some (.int .i64 F.jf) ∧ w'.cell? ⟨w1.heap.size, 1, none⟩ = some (.int .i64 F.jc) ∧ w'.cell? ⟨w2.heap.size, 0, none⟩ = some (.int .i64 G.jf) ∧ w'.cell? ⟨w2.heap.size, 1, none⟩ = some (.int .i64 G.jc) ∧ w'.cell? ⟨A, 11, none⟩ = some (.slice V.a2 F.nI V.d2) ∧ w'.cell? ⟨D, 11, none⟩ = some (.slice U.a2 G.nI U.d2) ∧ Ext W3 w')
      ((refine ⟨?_, ?_, ?_, ?_, ?_, ?_, ?_⟩ <;> assumption))
      (first
        | (go_at_call 63; refine (K.out _ (HE.out.trans (by assumption))).mono ?_; rintro e w6 ⟨rfl, x6⟩; have y6 : Ext W3 w6 := Ext.trans (by assumption) x6; obtain ⟨a0, a1, a2, a3, a4, a5⟩ := HY.out _ y6))
    clear q0 q1 q2 q3 q4 q5 a0 a1 a2 a3 a4 a5
    go_wp2
    go_ret
    exact ⟨rfl, HE.out.trans y6⟩
set_option maxRecDepth 100000 in
set_option maxHeartbeats 8000000 in
theorem fagainst_holding (V : FilV) (F : Fil) (U : FilV) (G : Fil) (A D : Nat) (w : World) (hA : w.heap[A]? = some (.cells (filC V F) 96 (0, 0))) (hD : w.heap[D]? = some (.cells (filC U G) 96 (0, 0))) (hf : FilAt w V F) (hg : FilAt w U G) (sF : Small F) (sG : Small G) :
    Calls Try.prog 64 #[.func (Fn.func 40) #[] #[], .pointer (some ⟨A, 0, none⟩), .pointer (some ⟨D, 0, none⟩)] w fun e w' => e = .returned (.bool (eqW F.hf F.hc G.hf G.hc && eqB F.nH G.nH F.H G.H)) ∧ Ext w w' := by
  have HT := Lib.hid (fun w' hb => fholding_v V F A w' hb)
  have HU := Lib.hid (fun w' hb => fholding_v U G D w' hb)
  have K := Lib.hid (fun w' (hx : Ext w w') => (slequint16_any V.a3 U.a3 F.nH G.nH V.d3 U.d3 F.H G.H w' (hf.h3.ext hx) (hg.h3.ext hx) sF.s3 sG.s3).mono fun _ _ h => (⟨h.1, Ext.of_drewN h.2⟩ : _ ∧ Ext w' _))
  generalize eqB F.nH G.nH F.H G.H = B at K ⊢
  have hgd := fun x y xs ys w => weqg .eql x y xs ys w
  clear hf hg sF sG
  cases he : eqW F.hf F.hc G.hf G.hc with
  | false =>
    have hq := fun w => weql_v he w
    clear he K
    rw [Bool.false_and]
    go_enter Try.func64, Try.ntmps64
    go_wp2_with fail
    refine (HT.out _ hA).mono ?_; rintro e w1 ⟨rfl, x1⟩
    have y1 := x1.trans (Ext.alloc w1 (.cells #[.int .i64 F.hf, .int .i64 F.hc] 23))
    have hD1 := y1.block hD
    have a1 : (w1.alloc (.cells #[.int .i64 F.hf, .int .i64 F.hc] 23)).heap[w1.heap.size]? = some (.cells #[.int .i64 F.hf, .int .i64 F.hc] 23 (0, 0)) := heap_alloc_new w1 _
    go_wp2_with fail
    refine (HU.out _ hD1).mono ?_; rintro e w2 ⟨rfl, x2⟩
    obtain ⟨W3, hW3, HY, HE⟩ : ∃ W3, W3 = w2.alloc (.cells #[.int .i64 G.hf, .int .i64 G.hc] 23) ∧ Hid (∀ W, Ext W3 W → W.cell? ⟨w1.heap.size, 0, none⟩ = some (.int .i64 F.hf) ∧ W.cell? ⟨w1.heap.size, 1, none⟩ = some (.int .i64 F.hc) ∧ W.cell? ⟨w2.heap.size, 0, none⟩ = some (.int .i64 G.hf) ∧ W.cell? ⟨w2.heap.size, 1, none⟩ = some (.int .i64 G.hc) ∧ W.cell? ⟨A, 12, none⟩ = some (.slice V.a3 F.nH V.d3) ∧ W.cell? ⟨D, 12, none⟩ = some (.slice U.a3 G.nH U.d3)) ∧ Hid (Ext w W3) :=
      ⟨_, rfl, Lib.hid (fun W hx => have z := (x2.trans (Ext.alloc w2 _)).trans hx; ⟨cell_of_heap (z.block a1) rfl, cell_of_heap (z.block a1) rfl, hx.made 0 _ rfl, hx.made 1 _ rfl, cell_of_heap ((y1.trans z).block hA) rfl, cell_of_heap ((y1.trans z).block hD) rfl⟩), Lib.hid (y1.trans (x2.trans (Ext.alloc _ _)))⟩
    clear x1 y1 hD1 a1 x2 hA hD
    go_wp2_with fail
    rw [← hW3]
    clear hW3
    obtain ⟨q0, q1, q2, q3, q4, q5⟩ := HY.out W3.drew (Ext.drew _)
    have y0 : Ext W3 W3.drew := Ext.drew _
    go_region
    go_wp2
    go_ret
    exact ⟨rfl, HE.out.trans (Ext.drew _)⟩
  | true =>
    have hq := fun w => weql_v he w
    clear he
    rw [Bool.true_and]
    go_enter Try.func64, Try.ntmps64
    go_wp2_with fail
    refine (HT.out _ hA).mono ?_; rintro e w1 ⟨rfl, x1⟩
    have y1 := x1.trans (Ext.alloc w1 (.cells #[.int .i64 F.hf, .int .i64 F.hc] 23))
    have hD1 := y1.block hD
    have a1 : (w1.alloc (.cells #[.int .i64 F.hf, .int .i64 F.hc] 23)).heap[w1.heap.size]? = some (.cells #[.int .i64 F.hf, .int .i64 F.hc] 23 (0, 0)) := heap_alloc_new w1 _
    go_wp2_with fail
    refine (HU.out _ hD1).mono ?_; rintro e w2 ⟨rfl, x2⟩
    obtain ⟨W3, hW3, HY, HE⟩ : ∃ W3, W3 = w2.alloc (.cells #[.int .i64 G.hf, .int .i64 G.hc] 23) ∧ Hid (∀ W, Ext W3 W → W.cell? ⟨w1.heap.size, 0, none⟩ = some (.int .i64 F.hf) ∧ W.cell? ⟨w1.heap.size, 1, none⟩ = some (.int .i64 F.hc) ∧ W.cell? ⟨w2.heap.size, 0, none⟩ = some (.int .i64 G.hf) ∧ W.cell? ⟨w2.heap.size, 1, none⟩ = some (.int .i64 G.hc) ∧ W.cell? ⟨A, 12, none⟩ = some (.slice V.a3 F.nH V.d3) ∧ W.cell? ⟨D, 12, none⟩ = some (.slice U.a3 G.nH U.d3)) ∧ Hid (Ext w W3) :=
      ⟨_, rfl, Lib.hid (fun W hx => have z := (x2.trans (Ext.alloc w2 _)).trans hx; ⟨cell_of_heap (z.block a1) rfl, cell_of_heap (z.block a1) rfl, hx.made 0 _ rfl, hx.made 1 _ rfl, cell_of_heap ((y1.trans z).block hA) rfl, cell_of_heap ((y1.trans z).block hD) rfl⟩), Lib.hid (y1.trans (x2.trans (Ext.alloc _ _)))⟩
    clear x1 y1 hD1 a1 x2 hA hD
    go_wp2_with fail
    rw [← hW3]
    clear hW3
    obtain ⟨q0, q1, q2, q3, q4, q5⟩ := HY.out W3.drew (Ext.drew _)
    have y0 : Ext W3 W3.drew := Ext.drew _
    go_region_held3 (fun w' => w'.cell? ⟨w1.heap.size, 0, none⟩ = some (.int .i64 F.hf) ∧ w'.cell? ⟨w1.heap.size, 1, none⟩ = some (.int .i64 F.hc) ∧ w'.cell? ⟨w2.heap.size, 0, none⟩ = some (.int .i64 G.hf) ∧ w'.cell? ⟨w2.heap.size, 1, none⟩ = some (.int .i64 G.hc) ∧ w'.cell? ⟨A, 12, none⟩ = some (.slice V.a3 F.nH V.d3) ∧ w'.cell? ⟨D, 12, none⟩ = some (.slice U.a3 G.nH U.d3) ∧ Ext W3 w')
      ((refine ⟨?_, ?_, ?_, ?_, ?_, ?_, ?_⟩ <;> assumption))
      (first
        | (go_at_call 65; refine (K.out _ (HE.out.trans (by assumption))).mono ?_; rintro e w6 ⟨rfl, x6⟩; have y6 : Ext W3 w6 := Ext.trans (by assumption) x6; obtain ⟨a0, a1, a2, a3, a4, a5⟩ := HY.out _ y6))
    clear q0 q1 q2 q3 q4 q5 a0 a1 a2 a3 a4 a5
    go_wp2
    go_ret
    exact ⟨rfl, HE.out.trans y6⟩
set_option maxRecDepth 100000 in
set_option maxHeartbeats 8000000 in
theorem fagainst_regs (V : FilV) (F : Fil) (U : FilV) (G : Fil) (A D : Nat) (w : World) (hA : w.heap[A]? = some (.cells (filC V F) 96 (0, 0))) (hD : w.heap[D]? = some (.cells (filC U G) 96 (0, 0))) (hf : FilAt w V F) (hg : FilAt w U G) (sF : Small F) (sG : Small G) :
    Calls Try.prog 64 #[.func (Fn.func 38) #[] #[], .pointer (some ⟨A, 0, none⟩), .pointer (some ⟨D, 0, none⟩)] w fun e w' => e = .returned (.bool (eqW F.rf F.rc G.rf G.rc && eqB F.nR G.nR F.R G.R)) ∧ Ext w w' := by
  have HT := Lib.hid (fun w' hb => fregs_v V F A w' hb)
  have HU := Lib.hid (fun w' hb => fregs_v U G D w' hb)
  have K := Lib.hid (fun w' (hx : Ext w w') => (slequint16_any V.a4 U.a4 F.nR G.nR V.d4 U.d4 F.R G.R w' (hf.h4.ext hx) (hg.h4.ext hx) sF.s4 sG.s4).mono fun _ _ h => (⟨h.1, Ext.of_drewN h.2⟩ : _ ∧ Ext w' _))
  generalize eqB F.nR G.nR F.R G.R = B at K ⊢
  have hgd := fun x y xs ys w => weqg .eql x y xs ys w
  clear hf hg sF sG
  cases he : eqW F.rf F.rc G.rf G.rc with
  | false =>
    have hq := fun w => weql_v he w
    clear he K
    rw [Bool.false_and]
    go_enter Try.func64, Try.ntmps64
    go_wp2_with fail
    refine (HT.out _ hA).mono ?_; rintro e w1 ⟨rfl, x1⟩
    have y1 := x1.trans (Ext.alloc w1 (.cells #[.int .i64 F.rf, .int .i64 F.rc] 23))
    have hD1 := y1.block hD
    have a1 : (w1.alloc (.cells #[.int .i64 F.rf, .int .i64 F.rc] 23)).heap[w1.heap.size]? = some (.cells #[.int .i64 F.rf, .int .i64 F.rc] 23 (0, 0)) := heap_alloc_new w1 _
    go_wp2_with fail
    refine (HU.out _ hD1).mono ?_; rintro e w2 ⟨rfl, x2⟩
    obtain ⟨W3, hW3, HY, HE⟩ : ∃ W3, W3 = w2.alloc (.cells #[.int .i64 G.rf, .int .i64 G.rc] 23) ∧ Hid (∀ W, Ext W3 W → W.cell? ⟨w1.heap.size, 0, none⟩ = some (.int .i64 F.rf) ∧ W.cell? ⟨w1.heap.size, 1, none⟩ = some (.int .i64 F.rc) ∧ W.cell? ⟨w2.heap.size, 0, none⟩ = some (.int .i64 G.rf) ∧ W.cell? ⟨w2.heap.size, 1, none⟩ = some (.int .i64 G.rc) ∧ W.cell? ⟨A, 13, none⟩ = some (.slice V.a4 F.nR V.d4) ∧ W.cell? ⟨D, 13, none⟩ = some (.slice U.a4 G.nR U.d4)) ∧ Hid (Ext w W3) :=
      ⟨_, rfl, Lib.hid (fun W hx => have z := (x2.trans (Ext.alloc w2 _)).trans hx; ⟨cell_of_heap (z.block a1) rfl, cell_of_heap (z.block a1) rfl, hx.made 0 _ rfl, hx.made 1 _ rfl, cell_of_heap ((y1.trans z).block hA) rfl, cell_of_heap ((y1.trans z).block hD) rfl⟩), Lib.hid (y1.trans (x2.trans (Ext.alloc _ _)))⟩
    clear x1 y1 hD1 a1 x2 hA hD
    go_wp2_with fail
    rw [← hW3]
    clear hW3
    obtain ⟨q0, q1, q2, q3, q4, q5⟩ := HY.out W3.drew (Ext.drew _)
    have y0 : Ext W3 W3.drew := Ext.drew _
    go_region
    go_wp2
    go_ret
    exact ⟨rfl, HE.out.trans (Ext.drew _)⟩
  | true =>
    have hq := fun w => weql_v he w
    clear he
    rw [Bool.true_and]
    go_enter Try.func64, Try.ntmps64
    go_wp2_with fail
    refine (HT.out _ hA).mono ?_; rintro e w1 ⟨rfl, x1⟩
    have y1 := x1.trans (Ext.alloc w1 (.cells #[.int .i64 F.rf, .int .i64 F.rc] 23))
    have hD1 := y1.block hD
    have a1 : (w1.alloc (.cells #[.int .i64 F.rf, .int .i64 F.rc] 23)).heap[w1.heap.size]? = some (.cells #[.int .i64 F.rf, .int .i64 F.rc] 23 (0, 0)) := heap_alloc_new w1 _
    go_wp2_with fail
    refine (HU.out _ hD1).mono ?_; rintro e w2 ⟨rfl, x2⟩
    obtain ⟨W3, hW3, HY, HE⟩ : ∃ W3, W3 = w2.alloc (.cells #[.int .i64 G.rf, .int .i64 G.rc] 23) ∧ Hid (∀ W, Ext W3 W → W.cell? ⟨w1.heap.size, 0, none⟩ = some (.int .i64 F.rf) ∧ W.cell? ⟨w1.heap.size, 1, none⟩ = some (.int .i64 F.rc) ∧ W.cell? ⟨w2.heap.size, 0, none⟩ = some (.int .i64 G.rf) ∧ W.cell? ⟨w2.heap.size, 1, none⟩ = some (.int .i64 G.rc) ∧ W.cell? ⟨A, 13, none⟩ = some (.slice V.a4 F.nR V.d4) ∧ W.cell? ⟨D, 13, none⟩ = some (.slice U.a4 G.nR U.d4)) ∧ Hid (Ext w W3) :=
      ⟨_, rfl, Lib.hid (fun W hx => have z := (x2.trans (Ext.alloc w2 _)).trans hx; ⟨cell_of_heap (z.block a1) rfl, cell_of_heap (z.block a1) rfl, hx.made 0 _ rfl, hx.made 1 _ rfl, cell_of_heap ((y1.trans z).block hA) rfl, cell_of_heap ((y1.trans z).block hD) rfl⟩), Lib.hid (y1.trans (x2.trans (Ext.alloc _ _)))⟩
    clear x1 y1 hD1 a1 x2 hA hD
    go_wp2_with fail
    rw [← hW3]
    clear hW3
    obtain ⟨q0, q1, q2, q3, q4, q5⟩ := HY.out W3.drew (Ext.drew _)
    have y0 : Ext W3 W3.drew := Ext.drew _
    go_region_held3 (fun w' => w'.cell? ⟨w1.heap.size, 0, none⟩ = some (.int .i64 F.rf) ∧ w'.cell? ⟨w1.heap.size, 1, none⟩ = some (.int .i64 F.rc) ∧ w'.cell? ⟨w2.heap.size, 0, none⟩ = some (.int .i64 G.rf) ∧ w'.cell? ⟨w2.heap.size, 1, none⟩ = some (.int .i64 G.rc) ∧ w'.cell? ⟨A, 13, none⟩ = some (.slice V.a4 F.nR V.d4) ∧ w'.cell? ⟨D, 13, none⟩ = some (.slice U.a4 G.nR U.d4) ∧ Ext W3 w')
      ((refine ⟨?_, ?_, ?_, ?_, ?_, ?_, ?_⟩ <;> assumption))
      (first
        | (go_at_call 65; refine (K.out _ (HE.out.trans (by assumption))).mono ?_; rintro e w6 ⟨rfl, x6⟩; have y6 : Ext W3 w6 := Ext.trans (by assumption) x6; obtain ⟨a0, a1, a2, a3, a4, a5⟩ := HY.out _ y6))
    clear q0 q1 q2 q3 q4 q5 a0 a1 a2 a3 a4 a5
    go_wp2
    go_ret
    exact ⟨rfl, HE.out.trans y6⟩
end Go.Proofs.Ytkfpnijacfeogaa
