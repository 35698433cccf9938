/-
  CONTRACTS of package split: All.
-/
import Derived.Test.YtanoakebbfidiaaDoorSplitG
namespace Go.Proofs.YtanoakebbfidiaaDoor
open Go.RowKit
set_option linter.unusedVariables false
attribute [local go_sem] Oper.semAt_some

theorem IterM.keep {W W' : World} {B b3 b4 b5 : Nat} {a : Option Addr} {n cp : Nat} {L : List Byt} {s l f : Int} (h : IterM W b3 b4 b5 a n cp L s l f) (x : Keep (· = B) W W') (h3 : b3 ≠ B) (h4 : b4 ≠ B) (h5 : b5 ≠ B) (ho : OffN (· = B) a L.length) : IterM W' b3 b4 b5 a n cp L s l f :=
  ⟨x.cell h3 h.list, x.cell h4 h.short, x.cell h4 h.long, x.cell h5 h.from_, h.bytes.keepN x ho⟩
theorem rising_times : ∀ {L : List Byt} {f : Int}, 0 ≤ f → risingI f L = true → TimesOk L ∧ ∀ i, i < L.length → f ≤ (nth L i).1
  | [], f, _, _ => ⟨fun i hi => absurd hi (Nat.not_lt_zero _), fun i hi => absurd hi (Nat.not_lt_zero _)⟩
  | x :: L, f, h0, h => by
    obtain ⟨h1, h2, h3⟩ := rising_drop h
    obtain ⟨h4, h5⟩ := rising_times (L := L) (f := x.1) (by omega) h3
    have e : ∀ i, nth (x :: L) (i + 1) = nth L i := fun i => by unfold nth; simp
    have e0 : nth (x :: L) 0 = x := by unfold nth; simp
    refine ⟨fun i hi => ?_, fun i hi => ?_⟩
    · cases i with
      | zero => rw [e0]; exact ⟨⟨by omega, h2⟩, fun h => absurd h (Nat.lt_irrefl 0)⟩
      | succ i =>
        rw [e, Nat.add_sub_cancel]
        have hi' : i < L.length := by simpa using hi
        refine ⟨(h4 i hi').1, fun _ => ?_⟩
        cases i with
        | zero => rw [e0]; exact h5 0 hi'
        | succ i => rw [e]; have := (h4 (i + 1) hi').2 (by omega); rwa [Nat.add_sub_cancel] at this
    · cases i with
      | zero => rw [e0]; exact h1
      | succ i => rw [e]; have := h5 i (by simpa using hi); omega
theorem whole_len {s l : Int} {b : Bool} {f : Int} {L : List Byt} {S : List Seg} (h : WholeP s l b f L S) : S.length ≤ L.length := by
  induction h with
  | nil => simp
  | cons h hl hr ih => rw [List.length_drop] at ih; have := h.pos; have := h.le; simp only [List.length_cons]; omega
set_option maxHeartbeats 4000000 in
theorem sall_no (a : Option Addr) (n cp : Nat) (L : List Byt) (c s l u f : Int) (w : World) (ha : HoldsL 3 byt w a L) (hL : L.length = n) (hn : n ≤ 1000000) (h : ¬ (rightB c s l u = true ∧ rightI L f = true)) :
    Calls Tryd.prog 12 #[.slice a n cp, timesC c s l u, .int .i64 f] w fun e w' => e = .returned (.slice none 0 0) ∧ Ext w w' := by
  have hr := fun w => kright0 c s l u w
  have h9 := fun w' (x : Ext w w') => sright0 a n cp L f w' (ha.ext x) hL hn
  unfold timesC
  cases h1 : rightB c s l u
  · rw [h1] at hr
    clear h h9 ha hL hn h1
    go_enter Tryd.func12, Tryd.ntmps12
    go_wp2_with fail
    refine (hr _).mono ?_; rintro e w1 ⟨rfl, x1⟩
    clear hr
    go_wp2
    go_ret
    exact ⟨rfl, (Ext.alloc _ _).trans x1⟩
  · rw [h1] at hr h
    have h2 : rightI L f = false := by simpa using h
    rw [h2] at h9
    have H9 := Lib.hid h9
    clear h h9 ha hL hn h1 h2
    go_enter Tryd.func12, Tryd.ntmps12
    go_wp2_with fail
    refine (hr _).mono ?_; rintro e w1 ⟨rfl, x1⟩
    have x2 := (Ext.alloc _ _).trans x1
    clear hr x1
    go_wp2_with fail
    refine (H9.out _ x2).mono ?_; rintro e w2 ⟨rfl, x3⟩
    clear H9
    go_wp2
    go_ret
    exact ⟨rfl, x2.trans x3⟩
set_option maxRecDepth 100000 in
set_option maxHeartbeats 8000000 in
theorem sall_yes (a : Option Addr) (n cp : Nat) (L : List Byt) (c s l u f : Int) (w : World) (ha : HoldsL 3 byt w a L) (hL : L.length = n) (hcp : n ≤ cp) (hcm : cp ≤ maxLen) (hn : n ≤ 1000000) (hb : ∀ x ∈ L, 0 ≤ x.2.1 ∧ x.2.1 < 256) (h1 : rightB c s l u = true) (h2 : rightI L f = true) :
    Calls Tryd.prog 12 #[.slice a n cp, timesC c s l u, .int .i64 f] w fun e w' => ∃ z x Ls, e = .returned (.slice z (List.length Ls) x) ∧ Ext w w' ∧ SegsO w.heap.size w' z x Ls ∧ Ls.map Prod.snd = cutG s l true f zeroS L := by
  obtain ⟨iS, hiS, hzS0, hzS1, hzS2⟩ := info_parts Tryd.infoSegE
  have hr := fun w => kright0 c s l u w
  rw [h1] at hr
  have h9 := fun w' (x : Ext w w') => sright0 a n cp L f w' (ha.ext x) hL hn
  rw [h2] at h9
  have hc := (rightB_iff c s l u).1 h1
  have hf : (0 ≤ f ∧ f ≤ 1099511627776) ∧ risingI f L = true := by
    unfold rightI at h2
    simpa only [Bool.and_eq_true, decide_eq_true_eq] using h2
  have htm := rising_times hf.1.1 hf.2
  have hwh := whole_all s l f L
  obtain ⟨R, hR⟩ : ∃ R, R = cutG s l true f zeroS L := ⟨_, rfl⟩
  rw [← hR] at hwh ⊢
  have HR9 := Lib.hid h9; have HC := Lib.hid hc; have HF := Lib.hid hf; have HA := Lib.hid ha; have HL := Lib.hid hL; have HB := Lib.hid hb; have HN := Lib.hid hn; have HTm := Lib.hid htm; have HWh := Lib.hid hwh; have HCp := Lib.hid (And.intro hcp hcm)
  unfold timesC
  clear h1 h2 h9 hc hf hR ha hL hb hn htm hwh hcp hcm
  refine calls_of_marks Tryd.func12 rfl ?_
  simp only [Tryd.ntmps12, List.size_toArray, List.length_cons, List.length_nil, Nat.reduceAdd, Nat.reduceSub, Array.replicate_succ, Array.replicate_zero, List.push_toArray, List.append_toArray, List.nil_append, List.cons_append]
  go_wp2_with fail
  refine (hr _).mono ?_; rintro e w1 ⟨rfl, x1⟩
  have x2 := (Ext.alloc _ _).trans x1
  have T0 := x1.made 0 _ rfl; have T1 := x1.made 1 _ rfl; have T2 := x1.made 2 _ rfl; have T3 := x1.made 3 _ rfl
  clear hr x1
  go_wp2_with fail
  refine (HR9.out _ x2).mono ?_; rintro e w2 ⟨rfl, x3⟩
  have y2 := x2.trans x3
  have T0 := x3.cell (World.block_lt_of_cell? _ _ T0) T0
  have T1 := x3.cell (World.block_lt_of_cell? _ _ T1) T1
  have T2 := x3.cell (World.block_lt_of_cell? _ _ T2) T2
  have T3 := x3.cell (World.block_lt_of_cell? _ _ T3) T3
  have hwlt := World.block_lt_of_cell? _ _ T0
  clear HR9 x2 x3
  go_wp2_with fail
  refine (segs_any a n cp c s l u f _).mono ?_; rintro e w3 ⟨rfl, rfl⟩
  go_wp2_with fail
  obtain ⟨G, hG⟩ : ∃ G, G = w2.heap.size := ⟨_, rfl⟩
  obtain ⟨w4, hw4⟩ : ∃ w4, w4 = (((w2.alloc (.cells #[.slice none 0 0] 28)).alloc (.cells #[.slice a n cp] 22)).alloc (.cells #[.int .i64 c, .int .i64 s, .int .i64 l, .int .i64 u] 24)).alloc (.cells #[.int .i64 f] 3) := ⟨_, rfl⟩
  have x4 : Ext w2 w4 := by rw [hw4]; exact (((Ext.alloc _ _).alloc' _).alloc' _).alloc' _
  have y4 := y2.trans x4
  have hsz : w4.heap.size = G + 4 := by rw [hw4, hG]; simp
  have g0 : w4.heap[G]? = some (.cells #[.slice none 0 0] 28 (0, 0)) := by
    rw [hw4, hG, heap_alloc_old _ _ (by simp; omega), heap_alloc_old _ _ (by simp; omega), heap_alloc_old _ _ (by simp)]; exact heap_alloc_new _ _
  have g1 : w4.heap[G + 1]? = some (.cells #[.slice a n cp] 22 (0, 0)) := by
    rw [hw4, hG, heap_alloc_old _ _ (by simp), heap_alloc_old _ _ (by simp)]; exact heap_new_at _ _ (by simp)
  have g2 : w4.heap[G + 1 + 1]? = some (.cells #[.int .i64 c, .int .i64 s, .int .i64 l, .int .i64 u] 24 (0, 0)) := by
    rw [hw4, hG, heap_alloc_old _ _ (by simp)]; exact heap_new_at _ _ (by simp)
  have g3 : w4.heap[G + 1 + 1 + 1]? = some (.cells #[.int .i64 f] 3 (0, 0)) := by
    rw [hw4, hG]; exact heap_new_at _ _ (by simp)
  have hit : IterM w4 (G + 1) (G + 1 + 1) (G + 1 + 1 + 1) a n cp L s l f :=
    ⟨cell_of_heap (j := 0) g1 rfl, cell_of_heap (j := 1) g2 rfl, cell_of_heap (j := 2) g2 rfl, cell_of_heap (j := 0) g3 rfl, HA.out.ext y4⟩
  have hGw : w.heap.size ≤ G := by rw [hG]; exact y2.size
  have hoff : OffN (· = G) a L.length := HA.out.offN (fun i hi => by have hi : i = G := hi; omega) (Nat.le_refl _)
  rw [← hw4, ← hG]
  clear hw4 hG g1 g2 g3 T0 T1 T2 T3 hwlt x4
  refine wp_rangeFunc_on (gf := 35) (lb := #[.pointer (some ⟨G + 1, 0, none⟩), .pointer (some ⟨G + 1 + 1, 0, none⟩), .pointer (some ⟨G + 1 + 1 + 1, 0, none⟩)]) rfl (Go.Proofs.enters_of Tryd.func35 (by kernel_rfl) rfl)
    (fun x : SegP => .agg (segC x.1.1 x.1.2 x.2)) (TellS R) R.length (fun k W => ∃ v Ls', Ls'.length = k ∧ Ls'.map Prod.snd = R.take k ∧ AllM w4 W w4.heap.size G v Ls')
    ?ext ?turn
    ⟨.slice none 0 0, [], rfl, by simp, World.ownsRow_nil _ _ _ _, g0, (fun x hx => by simp at hx), Keep.refl _ _, rfl, by omega⟩
    ?seq (fun k x a' W2 => ∃ q, a' = { tmps := #[.slice a n cp, .agg #[.int .i64 c, .int .i64 s, .int .i64 l, .int .i64 u], .int .i64 f, undef, .pointer (some ⟨w.heap.size, 0, none⟩), undef, .slice none 0 0, .pointer (some ⟨G, 0, none⟩), .pointer (some ⟨q, 0, none⟩), .agg #[.int .i64 c, .int .i64 s, .int .i64 l, .int .i64 u], .bool true, .bool false, .bool false, .slice a n cp, .int .i64 f, .bool true, .bool false, .bool false, .slice a n cp, .agg #[.int .i64 c, .int .i64 s, .int .i64 l, .int .i64 u], .int .i64 f, .func (Fn.func 35) #[] #[.pointer (some ⟨G + 1, 0, none⟩), .pointer (some ⟨G + 1 + 1, 0, none⟩), .pointer (some ⟨G + 1 + 1 + 1, 0, none⟩)], .agg (segC x.1.1 x.1.2 x.2), undef, undef, undef, undef, undef], defers := [] } ∧ W2.heap[q]? = some (.cells (segC x.1.1 x.1.2 x.2) 33 (0, 0)))
    ?assign ?body ?done
  case seq =>
    intro l' J W x hJI hJx hY hJ0
    refine seg1_any l' (G + 1) (G + 1 + 1) (G + 1 + 1 + 1) a n cp L s l f R J W HL.out HCp.out.1 HCp.out.2 HN.out HB.out HTm.out.1 HF.out.1.1 HTm.out.2 (by have := HC.out; omega) (by have := HC.out; omega) HWh.out ?_ hJx hY hJ0
    intro k W hJ
    obtain ⟨v, Ls', -, -, hm⟩ := hJI k W hJ
    exact hit.keep hm.keep (by omega) (by omega) (by omega) hoff
  case ext =>
    rintro k W W' ⟨v, Ls', e1, e2, hm⟩ x
    exact ⟨v, Ls', e1, e2, hm.later x⟩
  case turn =>
    rintro k W l' o o' ⟨v, Ls', e1, e2, hm⟩ hl' ho hc'
    exact ⟨v, Ls', e1, e2, hm.turn o' hl' ho hc'⟩
  case assign =>
    rintro l' k ⟨⟨A, c'⟩, ⟨xn, xf, xt0, xt1, xk, xg, xb⟩⟩ W0 W1 K hI x01 hX hK
    unfold segC at hK ⊢
    simp only at hK ⊢
    gi_wp2_with fail
    exact hK _ _ (Ext.alloc _ _) ⟨_, rfl, heap_alloc_new _ _⟩
  case body =>
    rintro l' o' k ⟨⟨A, c'⟩, ⟨xn, xf, xt0, xt1, xk, xg, xb⟩⟩ a' W0 W1 W2 ⟨v, Ls', e1, e2, hm⟩ x01 ⟨hRk, hH, hle, hmax, hsm, hfew, hfr⟩ x12 ⟨q, rfl, hq⟩ hwl hlW ⟨r, hlr⟩ hkN
    have hm2 := hm.later (x01.trans x12)
    have hm3 := hm2.turn o' hwl hlr rfl
    have hql : q ≠ l' := fun e => by rw [e, hlr] at hq; cases hq
    have hAl : ∀ q' o'', A = some ⟨q', o'', none⟩ → q' ≠ l' := fun q' o'' h => by have := hfr _ h; simp at this; omega
    have hq3 : (W2.putObj l' o').heap[q]? = some (.cells (segC A c' ⟨xn, xf, xt0, xt1, xk, xg, xb⟩) 33 (0, 0)) := (World.putObj_heap_other hql).trans hq
    have hH3 : Holds .u8 (W2.putObj l' o') A xn xf := Holds.blocks (Holds.ext hH x12) fun q' o'' h _ _ => World.putObj_heap_other (hAl _ _ h)
    have hk3 : ∀ q', q' < W0.heap.size → q' ≠ l' → (W2.putObj l' o').heap[q']? = W0.heap[q']? := fun q' h1 h2 => (World.putObj_heap_other h2).trans (Below.block (x01.trans x12) q' h1)
    have hsz3 : W0.heap.size ≤ (W2.putObj l' o').heap.size := by rw [World.putObj_size]; exact (x01.trans x12).size
    obtain ⟨W3, hW3⟩ : ∃ W3, W3 = W2.putObj l' o' := ⟨_, rfl⟩
    rw [← hW3] at hm3 hq3 hH3 hk3 hsz3 ⊢
    have hlen : Ls'.length ≤ 1000001 := by
      have h1 := whole_len HWh.out
      rw [HL.out] at h1
      have := HN.out
      omega
    have hseg : segC A c' ⟨xn, xf, xt0, xt1, xk, xg, xb⟩ = #[.slice A xn c', .int .i64 xt0, .int .i64 xt1, .int .i64 xk, .bool xg, .bool xb] := rfl
    rw [hseg] at hq3
    rw [show segC ((A, c'), (⟨xn, xf, xt0, xt1, xk, xg, xb⟩ : Seg)).1.1 ((A, c'), (⟨xn, xf, xt0, xt1, xk, xg, xb⟩ : Seg)).1.2 ((A, c'), (⟨xn, xf, xt0, xt1, xk, xg, xb⟩ : Seg)).2 = #[.slice A xn c', .int .i64 xt0, .int .i64 xt1, .int .i64 xk, .bool xg, .bool xb] from rfl]
    have b0 := cell_of_heap (j := 0) hm3.box rfl
    have d0 := cell_of_heap (j := 0) hq3 rfl; have d1 := cell_of_heap (j := 1) hq3 rfl; have d2 := cell_of_heap (j := 2) hq3 rfl; have d3 := cell_of_heap (j := 3) hq3 rfl; have d4 := cell_of_heap (j := 4) hq3 rfl; have d5 := cell_of_heap (j := 5) hq3 rfl
    have hB3 : w4.heap.size ≤ W3.heap.size := hm3.keep.size
    have HM3 := Lib.hid hm3
    have HAll := Lib.hid (And.intro hm (And.intro hH3 (And.intro hle (And.intro hmax (And.intro hsm (And.intro hfew (And.intro hfr (And.intro hsz3 (And.intro hk3 (And.intro e1 (And.intro e2 (And.intro hRk (And.intro hwl hlW)))))))))))))
    clear hm hm2 hm3 hH hle hmax hsm hfew hfr hH3 hk3 hsz3 hAl hql hq hq3 hW3 x01 x12 e1 e2 hRk
    gi_wp2_with (first
      | (gi_at_builtin; refine wpListIn_append_lies _ rfl _ _ 28 rfl w4.heap.size 33 iS _ 6 56 Tryd.underlying28 hiS hzS0 hzS1 hzS2 rfl (by decide) _ _ _ rfl (own_ext HM3.out.own (Ext.alloc _ _)) ⟨W3.heap.size, 0, none⟩ 1 1 [.slice A xn c', .int .i64 xt0, .int .i64 xt1, .int .i64 xk, .bool xg, .bool xb] rfl rfl (World.news_of_block (heap_alloc_new W3 _)) (by simp [Value.oneCell']) (by decide) (by unfold maxLen; omega) (by omega) (by simp; omega) ?_
         intro gg cap w5 hown5 hgr5 hg5 hlt5
         have hb5 : w5.heap[G]? = some (.cells #[v] 28 (0, 0)) := (hgr5.block G (by have := heap_lt HM3.out.box; simp; omega) (fun e => HM3.out.nb e.symm)).trans ((heap_alloc_old _ _ (heap_lt HM3.out.box)).trans HM3.out.box)
         have k1 := cell_of_heap (j := 0) hb5 rfl
         have k2 := frozen_of_row _ _ 0 _ _ hb5
         have HO := Lib.hid (And.intro hown5 (And.intro hgr5 hg5))
         clear hown5 hgr5 hg5 hb5))
    obtain ⟨hm, hH3, hle, hmax, hsm, hfew, hfr, hsz3, hk3, e1, e2, hRk, hwl, hlW⟩ := HAll.out
    obtain ⟨hown5, hgr5, hg5⟩ := HO.out
    have hem := AllM.emit (x := ((A, c'), ⟨xn, xf, xt0, xt1, xk, xg, xb⟩)) hm (HM3.out.later (Ext.alloc _ _)) (hH3.ext (Ext.alloc _ _)) hle hmax hsm hfew hfr (by simp; omega) hown5 hgr5 hg5
    rw [hsz] at hem
    refine ⟨fun b o hb ho hc => ?_, _, _, ?_, ?_, hem⟩
    · rw [heap_setCell_other _ _ _ _ (by simp; omega)]
      exact (hgr5.block b (by have := heap_lt ho; simp; omega) (fun e => HM3.out.others ho hc e.symm)).trans ((heap_alloc_old _ _ (heap_lt ho)).trans ho)
    · simp [e1]
    · rw [List.map_append, e2, List.map_singleton, List.take_add_one, hRk]; rfl
  case done =>
    rintro D W hD ⟨v, Ls', e1, e2, hm⟩ hK
    have b0 := cell_of_heap (j := 0) hm.box rfl
    have hm2 := hm.turn (.deferred none) hD hK rfl
    obtain ⟨z, u', rfl, hs⟩ := hm2.done
    have x5 : Ext w (W.putObj D (.deferred none)) := Below.trans y4 (hm2.keep.below (B := w.heap.size) y4.size (fun i hi => by have hi : i = G := hi; omega))
    have HEnd := Lib.hid (And.intro x5 (hs.base (B' := w.heap.size) y4.size))
    have HE2 := Lib.hid e2
    clear hm hm2 hs x5 e2
    go_wp2_with fail
    refine ⟨by simp, .inl ⟨_, _, rfl, run_takeDeferred hK, ?_⟩⟩
    exact ⟨_, results_tmp rfl _ _ _, z, u', Ls', by first | rfl | (rw [e1]; rfl), HEnd.out.1, HEnd.out.2, by rw [HE2.out, List.take_length]⟩
/-- All segments. -/
theorem sall_any' (a : Option Addr) (n cp : Nat) (L : List Byt) (c s l u f : Int) (w : World) (ha : HoldsL 3 byt w a L) (hL : L.length = n) (hcp : n ≤ cp) (hcm : cp ≤ maxLen) (hn : n ≤ 1000000) (hb : ∀ x ∈ L, 0 ≤ x.2.1 ∧ x.2.1 < 256) :
    Calls Tryd.prog 12 #[.slice a n cp, timesC c s l u, .int .i64 f] w fun e w' => ∃ z x Ls, e = .returned (.slice z (List.length Ls) x) ∧ Ext w w' ∧ SegsO w.heap.size w' z x Ls ∧ Ls.map Prod.snd = allS c s l u f L := by
  by_cases h : rightB c s l u = true ∧ rightI L f = true
  · unfold allS; rw [if_pos h]
    exact sall_yes a n cp L c s l u f w ha hL hcp hcm hn hb h.1 h.2
  · unfold allS; rw [if_neg h]
    exact (sall_no a n cp L c s l u f w ha hL hn h).mono fun e w' ⟨he, x⟩ => ⟨none, 0, [], he, x, SegsO.nil _ _, rfl⟩
end Go.Proofs.YtanoakebbfidiaaDoor
