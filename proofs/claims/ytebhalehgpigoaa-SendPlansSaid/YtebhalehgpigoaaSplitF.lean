/-
  CONTRACTS of package split: segments and what it hands back (an iterator).
-/
import Derived.Test.YtebhalehgpigoaaSplitE
import Derived.Test.YtebhalehgpigoaaRangeF
import Derived.Deep.LoopGhost
import Derived.Deep.RegionWith
namespace Go.Proofs.Ytebhalehgpigoaa
open Go.RowKit
set_option linter.unusedVariables false

theorem gaps_first {s l f' : Int} {b : Bool} {L M : List Byt} : ∀ {k : Nat}, 0 < k → (∀ i, i < k → nth M i = nth L i) → gapsB s l b f' L k = (gapsB s 0 false 0 M k || (b && decide ((nth L 0).1 - f' < l)))
  | 0, h, _ => absurd h (by omega)
  | k + 1, _, e => by
    unfold gapsB
    by_cases h : k = 0
    · subst h
      rw [if_pos rfl, if_pos rfl]
      unfold gapsB
      simp
    · rw [if_neg h, if_neg h, gaps_first (k := k) (by omega) (fun i hi => e i (by omega)), e k (by omega), e (k - 1) (by omega)]
      generalize gapsB s 0 false 0 M k = x
      generalize (b && decide ((nth L 0).1 - f' < l)) = y
      generalize decide (s < (nth L k).1 - (nth L (k - 1)).1) = z
      cases x <;> cases y <;> cases z <;> rfl
theorem nth_take {L : List Byt} {k i : Nat} (h : i < k) : nth (L.take k) i = nth L i := by
  unfold nth; rw [List.getD_eq_getElem?_getD, List.getD_eq_getElem?_getD, List.getElem?_take, if_pos h]
/-- A chunk, as 'of' tells it. -/
theorem chunk {s l f' : Int} {b : Bool} {L : List Byt} {k : Nat} {g : Seg} (h : SegOf s l b f' L k g) (A : Option Addr) (c : Nat) :
    (ofS s (L.take k)).n = g.n ∧ (∀ i, i < g.n → (ofS s (L.take k)).f i = g.f i) ∧ (ofS s (L.take k)).first = g.first ∧ (ofS s (L.take k)).last = g.last ∧ (ofS s (L.take k)).count = g.count ∧ (ofS s (L.take k)).bad = g.bad ∧
      g.gap = ((ofS s (L.take k)).gap || (b && decide (g.first - f' < l))) := by
  have hk := h.pos
  have hl : (L.take k).length = k := by rw [List.length_take]; have := h.le; omega
  have hn : (ofS s (L.take k)).n = g.n := by show min (L.take k).length 256 = _; rw [hl, h.n]
  refine ⟨hn, fun i hi => ?_, ?_, ?_, ?_, ?_, ?_⟩
  · have hi' : i < min k 256 := by rw [← h.n]; exact hi
    show (nth (L.take k) i).2.1 = _
    rw [nth_take (by omega), h.bytes i hi']
  · show (nth (L.take k) 0).1 = _; rw [nth_take hk, h.first]
  · show (nth (L.take k) ((L.take k).length - 1)).1 = _; rw [hl, nth_take (by omega), h.last]
  · show (((L.take k).length : Nat) : Int) = _; rw [hl, h.count]
  · show badsB (L.take k) (L.take k).length = _; rw [hl, h.bad]; exact badsB_congr fun i hi => nth_take hi
  · rw [h.gap, gaps_first hk (fun i hi => nth_take (L := L) hi), h.first]
    show _ = (gapsB s 0 false 0 (L.take k) (L.take k).length || _)
    rw [hl]
theorem HoldsL.take {w : World} {a : Option Addr} {L : List Byt} (h : HoldsL 3 byt w a L) (k : Nat) : HoldsL 3 byt w a (L.take k) := by
  rcases h with h | ⟨b, off, ha, hlt, hc⟩
  · exact .inl (by rw [h]; simp)
  · refine .inr ⟨b, off, ha, hlt, fun i x hx => hc i x ?_⟩
    rw [List.getElem?_take] at hx
    split at hx
    · exact hx
    · cases hx
theorem HoldsL.drop {w : World} {b off : Nat} {L : List Byt} (h : HoldsL 3 byt w (some ⟨b, off, none⟩) L) (k : Nat) : HoldsL 3 byt w (some ⟨b, off + k * 3, none⟩) (L.drop k) := by
  rcases h with h | ⟨b', off', ha, hlt, hc⟩
  · exact .inl (by rw [h]; simp)
  · cases ha
    refine .inr ⟨b, off + k * 3, rfl, hlt, fun i x hx j v hv => ?_⟩
    rw [List.getElem?_drop] at hx
    have := hc (k + i) x hx j v hv
    rw [Nat.add_mul] at this
    rw [show off + k * 3 + i * 3 + j = off + (k * 3 + i * 3) + j by omega]; exact this
theorem TimesOk.take {M : List Byt} (h : TimesOk M) (k : Nat) : TimesOk (M.take k) := fun i hi => by
  rw [List.length_take] at hi
  have h1 := h i (by omega)
  rw [nth_take (by omega)]
  exact ⟨h1.1, fun h0 => by rw [nth_take (by omega)]; exact h1.2 h0⟩
theorem TimesOk.drop {M : List Byt} (h : TimesOk M) (k : Nat) : TimesOk (M.drop k) := fun i hi => by
  rw [List.length_drop] at hi
  have h1 := h (k + i) (by omega)
  rw [nth_drop]
  exact ⟨h1.1, fun h0 => by rw [nth_drop, show k + (i - 1) = k + i - 1 by omega]; exact h1.2 (by omega)⟩
theorem TimesOk.le {M : List Byt} (h : TimesOk M) {i : Nat} : ∀ {j : Nat}, i ≤ j → j < M.length → (nth M i).1 ≤ (nth M j).1
  | 0, hij, hj => by obtain rfl : i = 0 := by omega
                     exact Int.le_refl _
  | j + 1, hij, hj => by
    by_cases e : i = j + 1
    · subst e; exact Int.le_refl _
    · have h1 := h.le (i := i) (j := j) (by omega) (by omega)
      have h2 := (h (j + 1) hj).2 (by omega)
      rw [Nat.add_sub_cancel] at h2
      omega
/-- What the iterator tells of the segment number k: it is the k-th one, its bytes lie in what is new behind W0. -/
def TellS (Ls : List Seg) (k : Nat) (x : SegP) (W0 W1 : World) : Prop :=
  Ls[k]? = some x.2 ∧ Holds .u8 W1 x.1.1 x.2.n x.2.f ∧ x.2.n ≤ x.1.2 ∧ x.1.2 ≤ maxLen ∧ SegB x.2 ∧ x.2.n ≤ 256 ∧ Fresh W0 x.1.1
/-- The memory that the iterator reads. -/
structure IterM (W : World) (b3 b4 b5 : Nat) (a : Option Addr) (n cp : Nat) (L : List Byt) (s l f : Int) : Prop where
  list : W.cell? ⟨b3, 0, none⟩ = some (.slice a n cp)
  short : W.cell? ⟨b4, 1, none⟩ = some (.int .i64 s)
  long : W.cell? ⟨b4, 2, none⟩ = some (.int .i64 l)
  from_ : W.cell? ⟨b5, 0, none⟩ = some (.int .i64 f)
  bytes : HoldsL 3 byt W a L
theorem IterM.ext {W W' : World} {b3 b4 b5 : Nat} {a : Option Addr} {n cp : Nat} {L : List Byt} {s l f : Int} (h : IterM W b3 b4 b5 a n cp L s l f) (x : Ext W W') : IterM W' b3 b4 b5 a n cp L s l f :=
  ⟨x.cell (World.block_lt_of_cell? _ _ h.list) h.list, x.cell (World.block_lt_of_cell? _ _ h.short) h.short, x.cell (World.block_lt_of_cell? _ _ h.long) h.long, x.cell (World.block_lt_of_cell? _ _ h.from_) h.from_, h.bytes.ext x⟩
/-- A row of six, stored cell by cell. -/
theorem set6 {w : World} {B : Nat} {t : TypeId} {o0 o1 o2 o3 o4 o5 : Value} (v0 v1 v2 v3 v4 v5 : Value) (h : w.heap[B]? = some (.cells #[o0, o1, o2, o3, o4, o5] t (0, 0))) :
    ((((((w.setCell ⟨B, 0, none⟩ v0).setCell ⟨B, 1, none⟩ v1).setCell ⟨B, 2, none⟩ v2).setCell ⟨B, 3, none⟩ v3).setCell ⟨B, 4, none⟩ v4).setCell ⟨B, 5, none⟩ v5).heap[B]? = some (.cells #[v0, v1, v2, v3, v4, v5] t (0, 0)) :=
  (heap_setCell_same _ _ _ _ _ _ (heap_setCell_same _ _ _ _ _ _ (heap_setCell_same _ _ _ _ _ _ (heap_setCell_same _ _ _ _ _ _ (heap_setCell_same _ _ _ _ _ _ (heap_setCell_same _ _ _ _ _ _ h)))))).trans rfl
theorem set6_other {w : World} {B q : Nat} (v0 v1 v2 v3 v4 v5 : Value) (h : q ≠ B) :
    ((((((w.setCell ⟨B, 0, none⟩ v0).setCell ⟨B, 1, none⟩ v1).setCell ⟨B, 2, none⟩ v2).setCell ⟨B, 3, none⟩ v3).setCell ⟨B, 4, none⟩ v4).setCell ⟨B, 5, none⟩ v5).heap[q]? = w.heap[q]? := by
  rw [heap_setCell_other _ _ _ _ (by simpa using h), heap_setCell_other _ _ _ _ (by simpa using h), heap_setCell_other _ _ _ _ (by simpa using h), heap_setCell_other _ _ _ _ (by simpa using h), heap_setCell_other _ _ _ _ (by simpa using h), heap_setCell_other _ _ _ _ (by simpa using h)]
theorem set6_ext {w w' : World} {B : Nat} (v0 v1 v2 v3 v4 v5 : Value) (x : Ext w w') (h : w.heap.size ≤ B) :
    Ext w ((((((w'.setCell ⟨B, 0, none⟩ v0).setCell ⟨B, 1, none⟩ v1).setCell ⟨B, 2, none⟩ v2).setCell ⟨B, 3, none⟩ v3).setCell ⟨B, 4, none⟩ v4).setCell ⟨B, 5, none⟩ v5) :=
  Below.set (Below.set (Below.set (Below.set (Below.set (Below.set x h _) h _) h _) h _) h _) h _
set_option maxRecDepth 100000 in
set_option maxHeartbeats 8000000 in
theorem seg1_any (l₀ b3 b4 b5 : Nat) (a : Option Addr) (n cp : Nat) (L : List Byt) (s l f : Int) (Ls : List Seg) (J : Nat → World → Prop) (W : World)
    (hL : L.length = n) (hcp : n ≤ cp) (hcm : cp ≤ maxLen) (hn : n ≤ 1000000) (hB : ∀ x ∈ L, 0 ≤ x.2.1 ∧ x.2.1 < 256) (hT : TimesOk L) (hf : 0 ≤ f) (hfL : ∀ i, i < L.length → f ≤ (nth L i).1) (hs : 0 ≤ s) (hl : 0 ≤ l) (hw : WholeP s l true f L Ls)
    (hMem : ∀ k W, J k W → IterM W b3 b4 b5 a n cp L s l f) (hJx : ∀ k W W', J k W → Ext W W' → J k W')
    (hY : ∀ k x W0 W1, J k W0 → Ext W0 W1 → TellS Ls k x W0 W1 → k < Ls.length → YieldAt Fence.wide 0 Try.prog l₀ #[.agg (segC x.1.1 x.1.2 x.2)] W1 fun e W' => e = .returned (.bool true) ∧ J (k + 1) W')
    (h0 : J 0 W) :
    Calls Try.prog 36 #[.func (.yield l₀) #[] #[], .pointer (some ⟨b3, 0, none⟩), .pointer (some ⟨b4, 0, none⟩), .pointer (some ⟨b5, 0, none⟩)] W fun e W' => (∃ v, e = .returned v) ∧ J Ls.length W' := by
  have hM0 := hMem 0 W h0
  have c3 := hM0.list
  obtain ⟨N, hN⟩ : ∃ N, N = Ls.length := ⟨_, rfl⟩
  rw [← hN]
  have HBy := Lib.hid hB; have HF := Lib.hid hf; have HSs := Lib.hid hs; have HLl := Lib.hid hl; have HMem := Lib.hid hMem; have HJx := Lib.hid hJx; have HY := Lib.hid hY; have HN := Lib.hid hn; have HNN := Lib.hid hN
  have HStart := Lib.hid (And.intro hL (And.intro hcp (And.intro hcm (And.intro hT (And.intro hfL hw)))))
  have HL := Lib.hid hL
  clear hL hcp hcm hn hB hT hf hfL hs hl hw hMem hJx hY hM0 hN
  go_enter Try.func36, Try.ntmps36
  go_wp2_with fail
  go_loopg [5] N (fun h rv wr => ∃ (k m : Nat) (a' : Option Addr) (cp' : Nat) (M : List Byt) (b : Bool) (f' : Int), rv = .slice a' m cp' ∧ k + h = N ∧ m ≤ n ∧ m ≤ cp' ∧ Hid (cp' ≤ maxLen ∧ M.length = m ∧ TimesOk M ∧ (∀ i, i < m → f ≤ (nth M i).1) ∧ (∀ x ∈ M, x ∈ L) ∧ (∀ W, HoldsL 3 byt W a L → HoldsL 3 byt W a' M)) ∧
    Hid (WholeP s l b f' M (Ls.drop k) ∧ (b = true → f' = f) ∧ (b = false → f ≤ f')) ∧ J k wr)
  case atStart => exact ⟨0, n, a, cp, L, true, f, rfl, by omega, Nat.le_refl _, HStart.out.2.1, Lib.hid ⟨HStart.out.2.2.1, HL.out, HStart.out.2.2.2.1, fun i hi => HStart.out.2.2.2.2.1 i (by rw [HL.out]; exact hi), fun x hx => hx, fun W h => h⟩, Lib.hid ⟨HStart.out.2.2.2.2.2, fun _ => rfl, fun h => by cases h⟩, h0⟩
  case round =>
    clear c3 h0 HStart
    obtain ⟨k, m, a', cp', M, b, f', rfl, hkh, hmn, hmc, HMf, HW, hJ⟩ := hrel
    cases gk with
    | zero =>
      have hS : Ls.drop k = [] := List.drop_of_length_le (by have := HNN.out; omega)
      have hM0 : M = [] := by
        have := HW.out.1
        rw [hS] at this
        cases this
        rfl
      have hm0 : m = 0 := by rw [← HMf.out.2.1, hM0]; rfl
      subst hm0
      have hJN : J N wr := by rw [show N = k by omega]; exact hJ
      have HJN := Lib.hid hJN
      clear hJN hJ hkh hS hM0
      go_wp2_with fail
      first
        | (refine bodyPost_ret (results_none rfl _ _ _) rfl ?_)
        | go_end0
      exact ⟨⟨_, rfl⟩, HJN.out⟩
    | succ gh =>
      have hkL : k < Ls.length := by have := HNN.out; omega
      have hwp := HW.out.1
      rw [List.drop_eq_getElem_cons hkL] at hwp
      obtain ⟨g, hg⟩ : ∃ g, g = Ls[k] := ⟨_, rfl⟩
      rw [← hg] at hwp
      have hgk : Ls[k]? = some g := by rw [List.getElem?_eq_getElem hkL, hg]
      have hwp' : ∃ q, SegOf s l b f' M q g ∧ (b = false → l ≤ (nth M 0).1 - f') ∧ WholeP s l false (nth M (q - 1)).1 (M.drop q) (Ls.drop (k + 1)) := by
        cases hwp with
        | cons hh hl hr => exact ⟨_, hh, hl, hr⟩
      obtain ⟨q, hso, hlong, hrest⟩ := hwp'
      obtain ⟨hcpm, hMm, hTM, hfM, hsub, hhol⟩ := HMf.out
      obtain ⟨-, hbt, hbf⟩ := HW.out
      have hq0 := hso.pos
      have hqm : q ≤ m := by have := hso.le; omega
      have hlq : q < m → l ≤ (nth M q).1 - (nth M (q - 1)).1 := fun hqm => by
        have hne : M.drop q ≠ [] := by
          intro e
          have := congrArg List.length e
          rw [List.length_drop] at this
          simp at this; omega
        generalize hD : M.drop q = D at hrest hne
        generalize Ls.drop (k + 1) = S9 at hrest
        cases hrest with
        | nil => exact absurd rfl hne
        | cons hh hl hr =>
          have := hl rfl
          rw [← hD, nth_drop, Nat.add_zero] at this
          exact this
      have hmem := HMem.out k wr hJ
      have hml : 0 < M.length := by omega
      obtain ⟨p, o, rfl, hp, -⟩ := (hhol _ hmem.bytes).resolve_left (by intro e; rw [e] at hml; simp at hml)
      have ht := tog_v (some ⟨p, o, none⟩) m cp' M l q wr (hhol _ hmem.bytes) hMm (by have := HN.out; omega) hTM hq0 hqm hso.close hlq
      have hxn00 : (ofS s (M.take q)).n ≠ 0 := by show min (M.take q).length 256 ≠ 0; rw [List.length_take]; omega
      have hof := fun w' (x : Ext wr w') => of_any (some ⟨p, o, none⟩) q cp' (M.take q) s w' (((hhol _ hmem.bytes).take q).ext x) (by rw [List.length_take]; omega) hq0 (by have := HN.out; omega) (hTM.take q) HSs.out
      have hch := fun A c => chunk hso A c
      have hfirst : g.first = (nth M 0).1 := hso.first
      have HM4 := Lib.hid (fun w' (x : Ext wr w') => hmem.ext x)
      have hgb : g.gap = ((ofS s (M.take q)).gap || decide (g.first - f < l)) := by
        rw [(hch none 0).2.2.2.2.2.2]
        congr 1
        cases b
        · have h1 := hlong rfl
          have h2 := hbf rfl
          rw [Bool.false_and, decide_eq_false (by rw [hfirst]; omega)]
        · rw [hbt rfl, Bool.true_and]
      have hff : 0 ≤ f ∧ f ≤ (nth M 0).1 ∧ (nth M 0).1 ≤ 1099511627776 := ⟨HF.out, hfM 0 (by omega), (hTM 0 hml).1.2⟩
      have hgr : SegB g ∧ g.n ≤ 256 := by
        refine ⟨fun i hi => ?_, by rw [hso.n]; omega⟩
        have hi' : i < min q 256 := by rw [← hso.n]; exact hi
        rw [hso.bytes i hi']
        have hiM : i < M.length := by omega
        rw [nth_get hiM]
        exact HBy.out _ (hsub _ (List.getElem_mem _))
      obtain ⟨e1, e2, e3, e4, e5, e6, -⟩ := hch none 0
      have hofn : (ofS s (M.take q)).n ≤ 256 := by rw [e1]; exact hgr.2
      obtain ⟨x, hx⟩ : ∃ x, x = ofS s (M.take q) := ⟨_, rfl⟩
      rw [← hx] at e1 e2 e3 e4 e5 e6 hgb hof hofn hxn00
      clear hx
      obtain ⟨xn, xf, xt0, xt1, xk, xg, xb⟩ := x
      unfold segC at hof
      simp only at e1 e2 e3 e4 e5 e6 hgb hof hofn hxn00
      have hxn0 := hxn00
      clear hxn00
      have HE := Lib.hid (And.intro e1 (And.intro e2 (And.intro e3 (And.intro e4 (And.intro e5 (And.intro e6 hgb))))))
      have HGr := Lib.hid hgr
      have HGk := Lib.hid hgk
      have HOf := Lib.hid hof
      have HRest := Lib.hid (And.intro hrest (And.intro hbt hbf))
      have HFf := Lib.hid hff
      have HFirst := Lib.hid hfirst
      have HQ := Lib.hid (And.intro hq0 hqm)
      have HJ := Lib.hid hJ
      have HK := Lib.hid (And.intro hkh hkL)
      have t4l := hmem.long
      have hqm' : (q : Int) ≤ m := by omega
      have hmp : (0 : Int) < m := by omega
      have hmcI : (m : Int) ≤ cp' := by omega
      have hcpI : (cp' : Int) ≤ 9223372036854775807 := by unfold maxLen at hcpm; omega
      clear hso hlong hrest hcpm hMm hTM hfM hsub hhol hbt hbf hlq hmem hml hof hch hfirst hgb hff hgr hgk hg hwp e1 e2 e3 e4 e5 e6 hJ hkL hkh
      go_upto_region 2 with fail
      go_wp2_with fail
      refine ht.mono ?_; rintro e w1 ⟨rfl, x1⟩
      clear ht t4l
      have hq0' : 0 < q := HQ.out.1
      have hqc : q ≤ cp' := by have := HQ.out.2; omega
      have t4s := (HM4.out _ x1).short
      have HX1 := Lib.hid x1
      have hb4 : b4 < w1.heap.size := World.block_lt_of_cell? _ _ t4s
      go_upto_region 3 with fail
      go_cut [7] from 9 to 40 (fun pv wx => ∃ (B A : Nat), pv = .pointer (some ⟨B, 0, none⟩) ∧ Ext w1 wx ∧ w1.heap.size ≤ B ∧ w1.heap.size ≤ A ∧ A ≠ B ∧ wx.heap[B]? = some (.cells #[.slice (some ⟨A, 0, none⟩) xn xn, .int .i64 xt0, .int .i64 xt1, .int .i64 xk, .bool xg, .bool xb] 44 (0, 0)) ∧ Holds .u8 wx (some ⟨A, 0, none⟩) xn xf)
      case first =>
        go_region_with
          (first
            | (go_at_call 38; refine (HOf.out _ ?_).mono ?_; exact HX1.out.trans (by first | exact Ext.drew _ | exact (Ext.alloc' (Ext.drew _) _) | exact ext_drew (Ext.alloc _ _)); rintro e w3 ⟨A, rfl, x3, h3, l3⟩
               first
                 | (have gB : w3.heap[w1.heap.size]? = some (.cells #[.slice none 0 0, .int .i64 0, .int .i64 0, .int .i64 0, .bool false, .bool false] 44 (0, 0)) := x3.block (heap_alloc_new _ _)
                    have k0 := cell_of_heap (j := 0) gB rfl; have q1 := frozen_of_row _ _ 0 _ _ gB; have k1 := cell_of_heap (j := 1) gB rfl; have q2 := frozen_of_row _ _ 1 _ _ gB; have k2 := cell_of_heap (j := 2) gB rfl; have q3 := frozen_of_row _ _ 2 _ _ gB; have k3 := cell_of_heap (j := 3) gB rfl; have q4 := frozen_of_row _ _ 3 _ _ gB; have k4 := cell_of_heap (j := 4) gB rfl; have q5 := frozen_of_row _ _ 4 _ _ gB; have k5 := cell_of_heap (j := 5) gB rfl; have q6 := frozen_of_row _ _ 5 _ _ gB)
                 | skip))
        all_goals go_wp2_with fail
        all_goals go_meet
        all_goals first
          | (refine ⟨w3.heap.size, A, rfl, (Ext.trans (Ext.drew _) x3).alloc' _, x3.size, Nat.le_of_lt l3, by have := h3.lt hxn0 rfl; simp at this; omega, heap_alloc_new _ _, h3.ext (Ext.alloc _ _)⟩; done)
          | (have xx : Ext w1 w3 := Ext.trans ((Ext.drew _).alloc' _) x3
             refine ⟨w1.heap.size, A, rfl, set6_ext _ _ _ _ _ _ xx (Nat.le_refl _), Nat.le_refl _, ?_, ?_, set6 _ _ _ _ _ _ gB, ?_⟩
             · have := l3; simp at this; omega
             · have := l3; simp at this; omega
             · refine h3.blocks fun q o' hq _ _ => set6_other _ _ _ _ _ _ ?_
               cases hq
               have := l3; simp at this; omega)
      case rest =>
        obtain ⟨B, A, rfl, xc, hBw, hAw, hAB, gB, hh⟩ := hcut
        clear hb4 t4s hmp hqc hq0'
        have hM5 := HM4.out _ (HX1.out.trans xc)
        have r5 := hM5.from_
        have r4 := hM5.long
        have c1 := cell_of_heap (j := 1) gB rfl
        have c4 := cell_of_heap (j := 4) gB rfl
        have f4 := frozen_of_row _ _ 4 _ _ gB
        obtain ⟨e1, e2, e3, e4, e5, e6, hgb⟩ := HE.out
        obtain ⟨D, hD⟩ : ∃ D, xt0 - f = D := ⟨_, rfl⟩
        have hfx := HFf.out
        rw [← HFirst.out, ← e3] at hfx
        have HS := Lib.hid (fun w => since_v w hfx.1 hfx.2.1 hfx.2.2 hD)
        rw [← e3, hD] at hgb
        have hseg : segC (some ⟨A, 0, none⟩) xn g = #[.slice (some ⟨A, 0, none⟩) xn xn, .int .i64 xt0, .int .i64 xt1, .int .i64 xk, .bool g.gap, .bool xb] := by
          unfold segC; rw [← e1, ← e3, ← e4, ← e5, ← e6]
        have hhg : Hid (∀ w', Holds .u8 w' (some ⟨A, 0, none⟩) xn xf → Holds .u8 w' (some ⟨A, 0, none⟩) g.n g.f) := Lib.hid (fun w' h => by rw [← e1]; exact h.congr fun i hi => e2 i (by rw [← e1]; exact hi))
        have HSeg := Lib.hid hseg
        have hgn : Hid (g.n = xn) := Lib.hid e1.symm
        generalize g.gap = G at hgb HSeg
        have HGb := Lib.hid hgb
        have HXc := Lib.hid xc
        have HBd := Lib.hid (And.intro hBw (And.intro hAw hAB))
        have HGB := Lib.hid gB
        have HH := Lib.hid hh
        clear e1 e2 e3 e4 e5 e6 hD hfx hgb hseg hM5 xc hBw hAw hAB gB hh
        go_upto_region 4 with fail
        go_cut [] from 9 to 40 (fun wx => Ext w1 wx ∧ wx.heap[B]? = some (.cells #[.slice (some ⟨A, 0, none⟩) xn xn, .int .i64 xt0, .int .i64 xt1, .int .i64 xk, .bool G, .bool xb] 44 (0, 0)) ∧ Holds .u8 wx (some ⟨A, 0, none⟩) xn xf)
        case first =>
          have hfin : ∀ G' wz, G = G' → wz = wc.drew → Ext w1 (wz.setCell ⟨B, 4, none⟩ (.bool G')) ∧ (wz.setCell ⟨B, 4, none⟩ (.bool G')).heap[B]? = some (.cells #[.slice (some ⟨A, 0, none⟩) xn xn, .int .i64 xt0, .int .i64 xt1, .int .i64 xk, .bool G, .bool xb] 44 (0, 0)) ∧ Holds .u8 (wz.setCell ⟨B, 4, none⟩ (.bool G')) (some ⟨A, 0, none⟩) xn xf := by
            rintro G' wz rfl rfl
            refine ⟨Below.set (ext_drew HXc.out) HBd.out.1 _, (heap_setCell_same _ _ _ _ _ _ HGB.out).trans rfl, HH.out.blocks fun q o' hq _ _ => heap_setCell_other _ _ _ _ ?_⟩
            cases hq
            exact HBd.out.2.2
          have HFin := Lib.hid hfin
          clear hfin
          cases xg
          · go_region_with (first | (go_at_call 39; refine (HS.out _).mono ?_; rintro e w9 ⟨rfl, rfl⟩))
            all_goals go_wp2_with fail
            all_goals go_meet
            all_goals exact HFin.out _ _ (by rw [HGb.out]; rfl) rfl
          · go_region
            all_goals go_wp2_with fail
            all_goals go_meet
            all_goals exact HFin.out _ _ (by rw [HGb.out]; rfl) rfl
        case rest =>
          clear c1 c4 f4 r5 r4 HS HGB HXc HH
          obtain ⟨xd, gD, hD⟩ := hcut
          have hfr : Fresh wr (some ⟨A, 0, none⟩) := fun p hp => by cases hp; have := HBd.out.2.1; have := HX1.out.size; simp; omega
          obtain ⟨fn, tmps, assign, body, hy, hR⟩ := HY.out k ((some ⟨A, 0, none⟩, xn), g) wr wc HJ.out (HX1.out.trans xd) ⟨HGk.out, hhg.out _ hD, by rw [hgn.out]; exact Nat.le_refl _, (show xn ≤ maxLen by unfold maxLen; omega), HGr.out.1, HGr.out.2, hfr⟩ HK.out.2
          dsimp only at hy
          rw [HSeg.out] at hy
          have d0 := cell_of_heap (j := 0) gD rfl; have d1 := cell_of_heap (j := 1) gD rfl; have d2 := cell_of_heap (j := 2) gD rfl; have d3 := cell_of_heap (j := 3) gD rfl; have d4 := cell_of_heap (j := 4) gD rfl; have d5 := cell_of_heap (j := 5) gD rfl
          go_upto_region 5 with fail
          refine (wpIn_wide (n := 0)).1 ?_
          gi_wp2_with fail
          refine ⟨rfl, hR.mono ?_⟩
          rintro e W3 ⟨rfl, hJ3⟩
          clear hR hy d0 d1 d2 d3 d4 d5 gD hD
          gi_wp2_with fail
          go_wp2_with fail
          · have hq := HQ.out
            go_roundg gh
            case rel =>
              have hmq : m = q := by omega
              obtain ⟨hcpm, hMm, hTM, hfM, hsub, hhol⟩ := HMf.out
              refine ⟨k + 1, m - q, _, 0, M.drop q, false, (nth M (q - 1)).1, rfl, by have := HK.out.1; omega, by omega, by omega, Lib.hid ⟨Nat.zero_le _, by rw [List.length_drop, hMm], hTM.drop q, fun i hi => by omega, fun x hx => hsub x (List.mem_of_mem_drop hx), fun W h => .inl (List.drop_of_length_le (by omega))⟩,
                Lib.hid ⟨HRest.out.1, fun h => (by cases h), fun _ => hfM _ (by omega)⟩, hJ3⟩
            case measure => omega
          · have hq := HQ.out
            go_roundg gh
            case rel =>
              obtain ⟨hcpm, hMm, hTM, hfM, hsub, hhol⟩ := HMf.out
              refine ⟨k + 1, m - q, _, cp' - q, M.drop q, false, (nth M (q - 1)).1, rfl, by have := HK.out.1; omega, by omega, by omega, Lib.hid ⟨by omega, by rw [List.length_drop, hMm], hTM.drop q, fun i hi => by rw [nth_drop]; exact hfM _ (by omega), fun x hx => hsub x (List.mem_of_mem_drop hx), fun W h => (hhol W h).drop q⟩,
                Lib.hid ⟨HRest.out.1, fun h => (by cases h), fun _ => hfM _ (by omega)⟩, hJ3⟩
            case measure => omega
end Go.Proofs.Ytebhalehgpigoaa
