/-
  CONTRACTS: bilgeref15 (layer 15): what is said by an ask.
-/
import Derived.Test.YtlafnobjfajamaaGreatPm21
import Derived.Test.YtlafnobjfajamaaGreatPm13
import Derived.Test.YtlafnobjfajamaaGreatPm5
import Derived.Test.YtlafnobjfajamaaGreatPm16
namespace Go.Proofs.YtlafnobjfajamaaGreat
open Go.RowKit
set_option linter.unusedVariables false

/-- append as a step of a region that draws, its place a literal. -/
theorem step_appendD {P : Program} {w : World} {α : Type} {mk : α → Value} {ops : Array Oper} {o : Oper} {a : Act} {K : Act → World → Prop} {Q : Exit → Act → World → Prop} {E : Prop} (hgd : o.guard = none) (s x : Operand) (t : TypeId)
    (ho : o.op = .call { callee := .builtin .append, args := #[s, x], argTypes := #[t, t] })
    (base : Nat) (e : TypeId) (i : TypeInfo) (z : Value) (bytes : Nat) (ht : P.underlying t = some (.slice e)) (hi : P.info? e = some i) (hz : i.zero = some z)
    (hsize : i.size = 1) (hby : i.bytes = bytes) (hzs : z.cells.size = 1)
    (v : Value) (n : Nat) (xs : List Value) (hs : a.eval s = v) (hown : w.ownsRow base e 1 v n xs)
    (A : Option Addr) (m c : Nat) (f : Nat → α) (hx : a.eval x = .slice A m c) (hh : HoldsG mk w A m f) (h1 : ∀ u, (mk u).oneCell' = true)
    (h63 : n + m ≤ maxLen) (hbytes : (n + m) * bytes ≤ 140737488355328) (hbase : base ≤ w.heap.size) (d : Tmp) (hd : o.dst = some d)
    (h : ∀ v' w', w'.ownsRow base e 1 v' (n + m) (xs ++ lstG mk f m) → w.grownBy w' v.ownBlock → Below base w w' → K (a.put (some d) v') w') :
    if Region.wanted o (yielded ops a.tmps) = true then Oper.wp P o a w K Q else E :=
  step_append_holds hgd s x t ho base e i z bytes ht hi hz hsize hby hzs v n xs hs hown A m c f hx hh h1 h63 hbytes hbase (fun v' w' k1 k2 k3 => by rw [hd]; exact h v' w' k1 k2 k3)
theorem lst_one {α : Type} (mk : α → Value) (x : α) : [mk x] = lstG mk (fun _ => x) 1 := by simp [lstG]
/-- What is said, as a list. -/
theorem say_list (Q : Qst) (g : Nat → Int) (m : Nat) (hm : m = tailN Q) (hg : ∀ i, i < m → g i = tailF Q i) :
    [Value.int .u8 Q.k] ++ lstG (Value.int .u8) (putF (numF Q)) (2 * numN Q) ++ lstG (Value.int .u8) g m = lstG (Value.int .u8) (sayF Q) (sayN Q) := by
  rw [lst_one (Value.int .u8) Q.k, lstG_append, lstG_append]
  subst hm
  unfold sayN
  unfold lstG
  refine List.map_congr_left fun i hi => ?_
  have hi := List.mem_range.1 hi
  dsimp only
  unfold sayF
  by_cases h0 : i = 0
  · rw [if_pos h0, if_pos (by omega), if_pos (by omega)]
  · rw [if_neg h0]
    by_cases h1 : i < 1 + 2 * numN Q
    · rw [if_pos h1, if_pos h1, if_neg (by omega)]
    · rw [if_neg h1, if_neg h1, hg _ (by omega)]
/-- A literal's row of one. -/
theorem own_lit (w : World) (x : Int) (base : Nat) (hb : base ≤ w.heap.size) : (w.alloc (.cells #[.int .u8 x] 5)).ownsRow base 5 1 (.slice (some ⟨w.heap.size, 0, none⟩) 1 1) 1 [.int .u8 x] :=
  ⟨rfl, .inr ⟨w.heap.size, 1, #[.int .u8 x], rfl, hb, heap_alloc_new w _, Nat.le_refl _, by unfold maxLen; omega, rfl, rfl⟩⟩
theorem two_words (w : World) (a b : Int) (f : Nat → Int) (h0 : f 0 = a) (h1 : f 1 = b) : HoldsG (Value.int .u16) (w.alloc (.cells #[.int .u16 a, .int .u16 b] 59)) (some ⟨w.heap.size, 0, none⟩) 2 f :=
  HoldsG.new _ _ _ 2 _ (fun i hi => by
    have h : i = 0 ∨ i = 1 := by omega
    rcases h with rfl | rfl
    · rw [h0]; rfl
    · rw [h1]; rfl)
theorem three_words (w : World) (a b c : Int) (f : Nat → Int) (h0 : f 0 = a) (h1 : f 1 = b) (h2 : f 2 = c) : HoldsG (Value.int .u16) (w.alloc (.cells #[.int .u16 a, .int .u16 b, .int .u16 c] 59)) (some ⟨w.heap.size, 0, none⟩) 3 f :=
  HoldsG.new _ _ _ 3 _ (fun i hi => by
    have h : i = 0 ∨ i = 1 ∨ i = 2 := by omega
    rcases h with rfl | rfl | rfl
    · rw [h0]; rfl
    · rw [h1]; rfl
    · rw [h2]; rfl)
theorem four_words (w : World) (a b c d : Int) (f : Nat → Int) (h0 : f 0 = a) (h1 : f 1 = b) (h2 : f 2 = c) (h3 : f 3 = d) : HoldsG (Value.int .u16) (w.alloc (.cells #[.int .u16 a, .int .u16 b, .int .u16 c, .int .u16 d] 59)) (some ⟨w.heap.size, 0, none⟩) 4 f :=
  HoldsG.new _ _ _ 4 _ (fun i hi => by
    have h : i = 0 ∨ i = 1 ∨ i = 2 ∨ i = 3 := by omega
    rcases h with rfl | rfl | rfl | rfl
    · rw [h0]; rfl
    · rw [h1]; rfl
    · rw [h2]; rfl
    · rw [h3]; rfl)
theorem w16 {x : Int} (h : 0 ≤ x ∧ x ≤ 65535) : IntKind.u16.wrap x = x := by simp [IntKind.wrap, IntKind.bits, IntKind.signed]; omega
theorem w8 {x : Int} (h : 0 ≤ x ∧ x ≤ 255) : IntKind.u8.wrap x = x := by simp [IntKind.wrap, IntKind.bits, IntKind.signed]; omega
/-- What is told of an ask. -/
def PrP (Q : Qst) (w : World) (e : Ending) (w' : World) : Prop :=
  ∃ b q, e = .returned (.tuple #[.slice b (prN Q) q, .bool (rightQ Q)]) ∧ prN Q ≤ q ∧ q ≤ maxLen ∧ HoldsG (Value.int .u8) w' b (prN Q) (sayF Q) ∧ Ext w w'
set_option maxRecDepth 100000 in
set_option maxHeartbeats 2000000 in
theorem rprint15_no (V : QstV) (Q : Qst) (w : World) (h : QstAt w V Q) (n1 : Q.nb ≤ 1000000) (n2 : Q.nr ≤ 1000000) (hr : rightQ Q = false) : Calls Tryz.prog 91 #[.agg (qstC V Q)] w (PrP Q w) := by
  have KR := Lib.hid (fun w' (x : Ext w w') => rright15_v hr w' (h.ext x) n1 n2)
  unfold PrP
  rw [hr, show prN Q = 0 from by unfold prN; rw [hr]; rfl]
  clear h n1 n2 hr
  obtain ⟨W0, hW0, HX, He⟩ : ∃ W0, W0 = w.alloc (.cells (qstC V Q) 31) ∧ Hid (∀ W, Ext W0 W → W.heap[w.heap.size]? = some (.cells (qstC V Q) 31 (0, 0))) ∧ Hid (Ext w W0) := ⟨_, rfl, Lib.hid fun W hx => hx.block (heap_alloc_new w _), Lib.hid (Ext.alloc w _)⟩
  have HC := Lib.hid (fun W (hx : Ext W0 W) => (⟨cell_of_heap (HX.out W hx) rfl, cell_of_heap (HX.out W hx) rfl, cell_of_heap (HX.out W hx) rfl, cell_of_heap (HX.out W hx) rfl, cell_of_heap (HX.out W hx) rfl, cell_of_heap (HX.out W hx) rfl, cell_of_heap (HX.out W hx) rfl, cell_of_heap (HX.out W hx) rfl, cell_of_heap (HX.out W hx) rfl, cell_of_heap (HX.out W hx) rfl⟩ :
    W.cell? ⟨w.heap.size, 0, none⟩ = some (.int .i64 Q.k) ∧ W.cell? ⟨w.heap.size, 1, none⟩ = some (.int .i64 Q.ad) ∧ W.cell? ⟨w.heap.size, 2, none⟩ = some (.int .i64 Q.ct) ∧ W.cell? ⟨w.heap.size, 3, none⟩ = some (.int .i64 Q.va) ∧ W.cell? ⟨w.heap.size, 4, none⟩ = some (.int .i64 Q.an) ∧ W.cell? ⟨w.heap.size, 5, none⟩ = some (.int .i64 Q.oo) ∧ W.cell? ⟨w.heap.size, 6, none⟩ = some (.int .i64 Q.fr) ∧ W.cell? ⟨w.heap.size, 7, none⟩ = some (.int .i64 Q.mn) ∧ W.cell? ⟨w.heap.size, 8, none⟩ = some (.slice V.a1 Q.nb V.d1) ∧ W.cell? ⟨w.heap.size, 9, none⟩ = some (.slice V.a2 Q.nr V.d2)))
  clear HC
  go_enter Tryz.func91, Tryz.ntmps91
  go_upto_region 1 with fail
  rw [← hW0]
  clear hW0
  have gA := HX.out W0 (Ext.refl _)
  go_wp2_with (first
    | (refine wpList_load_row rfl 31 (.tmp 1) rfl (w.heap.size) rfl 31 _ (0, 0) _ gA Tryz.underlying31 rfl (by kernel_rfl) ?_))
  refine (KR.out _ He.out).mono ?_; rintro e w1 ⟨rfl, x1⟩
  clear gA
  go_wp2
  go_ret2
  exact ⟨none, 0, rfl, Nat.le_refl _, by decide, .inl rfl, He.out.trans x1⟩
set_option maxRecDepth 100000 in
set_option maxHeartbeats 8000000 in
theorem rprint15_yes (V : QstV) (Q : Qst) (w : World) (h : QstAt w V Q) (n1 : Q.nb ≤ 1000000) (n2 : Q.nr ≤ 1000000) (hR : ∀ i, i < Q.nr → 0 ≤ Q.R i ∧ Q.R i < 65536) (hr : rightQ Q = true) : Calls Tryz.prog 91 #[.agg (qstC V Q)] w (PrP Q w) := by
  have KR := Lib.hid (fun w' (x : Ext w w') => rright15_v hr w' (h.ext x) n1 n2)
  have hF := numF_bd hr
  have hparts := hr
  rw [right_parts] at hparts
  simp only [Bool.and_eq_true] at hparts
  obtain ⟨⟨⟨hkn, -⟩, -⟩, hfits⟩ := hparts
  have hkk := (known_iff Q.k).1 hkn
  obtain ⟨i8, hi8, hz80, hz81, hz82⟩ := info_parts Tryz.info8
  unfold PrP
  rw [hr, show prN Q = sayN Q from by unfold prN; rw [hr]; rfl]
  clear hr hkn
  obtain ⟨W0, hW0, HX, He⟩ : ∃ W0, W0 = w.alloc (.cells (qstC V Q) 31) ∧ Hid (∀ W, Ext W0 W → W.heap[w.heap.size]? = some (.cells (qstC V Q) 31 (0, 0))) ∧ Hid (Ext w W0) := ⟨_, rfl, Lib.hid fun W hx => hx.block (heap_alloc_new w _), Lib.hid (Ext.alloc w _)⟩
  have HC := Lib.hid (fun W (hx : Ext W0 W) => (⟨cell_of_heap (HX.out W hx) rfl, cell_of_heap (HX.out W hx) rfl, cell_of_heap (HX.out W hx) rfl, cell_of_heap (HX.out W hx) rfl, cell_of_heap (HX.out W hx) rfl, cell_of_heap (HX.out W hx) rfl, cell_of_heap (HX.out W hx) rfl, cell_of_heap (HX.out W hx) rfl, cell_of_heap (HX.out W hx) rfl, cell_of_heap (HX.out W hx) rfl⟩ :
    W.cell? ⟨w.heap.size, 0, none⟩ = some (.int .i64 Q.k) ∧ W.cell? ⟨w.heap.size, 1, none⟩ = some (.int .i64 Q.ad) ∧ W.cell? ⟨w.heap.size, 2, none⟩ = some (.int .i64 Q.ct) ∧ W.cell? ⟨w.heap.size, 3, none⟩ = some (.int .i64 Q.va) ∧ W.cell? ⟨w.heap.size, 4, none⟩ = some (.int .i64 Q.an) ∧ W.cell? ⟨w.heap.size, 5, none⟩ = some (.int .i64 Q.oo) ∧ W.cell? ⟨w.heap.size, 6, none⟩ = some (.int .i64 Q.fr) ∧ W.cell? ⟨w.heap.size, 7, none⟩ = some (.int .i64 Q.mn) ∧ W.cell? ⟨w.heap.size, 8, none⟩ = some (.slice V.a1 Q.nb V.d1) ∧ W.cell? ⟨w.heap.size, 9, none⟩ = some (.slice V.a2 Q.nr V.d2)))
  rcases hkk with hk1 | hk2 | hk3 | hk4 | hk5 | hk6 | hk15 | hk16 | hk22 | hk23
  · have HK := Lib.hid hk1
    have hnn : numN Q = 2 := numN_two (by omega) (by omega)
    have hnum : ∀ i, i < 2 → 0 ≤ numF Q i ∧ numF Q i < 65536 := fun i hi => hF i (by rw [hnn]; exact hi)
    obtain ⟨hn0, hn1⟩ := numF_ct (Q := Q) (by omega) (by omega) (by omega)
    have hwk : IntKind.u8.wrap 1 = 1 := by decide
    have hw0 : IntKind.u16.wrap Q.ad = Q.ad := w16 (by have := hnum 0 (by decide); rw [hn0] at this; omega)
    have hw1 : IntKind.u16.wrap Q.ct = Q.ct := w16 (by have := hnum 1 (by decide); rw [hn1] at this; omega)
    have htn := tail_none (Q := Q) (by omega) (by omega)
    clear hk1
    go_enter Tryz.func91, Tryz.ntmps91
    go_upto_region 1 with fail
    rw [← hW0]
    clear hW0
    have gA := HX.out W0 (Ext.refl _)
    go_wp2_with (first
      | (refine wpList_load_row rfl 31 (.tmp 1) rfl (w.heap.size) rfl 31 _ (0, 0) _ gA Tryz.underlying31 rfl (by kernel_rfl) ?_))
    refine (KR.out _ He.out).mono ?_; rintro e w1 ⟨rfl, x1⟩
    clear gA
    obtain ⟨c0, c1, c2, c3, c4, c5, c6, c7, c8, c9⟩ := HC.out _ x1
    rw [HK.out] at c0
    obtain ⟨W2, hW2, HL, x2⟩ : ∃ W2, W2 = w1.alloc (.cells #[.int .u16 Q.ad, .int .u16 Q.ct] 59) ∧ Hid (∀ W, Ext W2 W → HoldsG (Value.int .u16) W (some ⟨w1.heap.size, 0, none⟩) 2 (numF Q)) ∧ Ext w1 W2 :=
      ⟨_, rfl, Lib.hid fun W hx => (two_words w1 _ _ (numF Q) hn0 hn1).ext hx, Ext.alloc w1 _⟩
    go_wp2_with fail
    rw [← hW2]
    clear hW2
    have hx0 : Ext W0 W2 := x1.trans x2
    clear x1 x2 c0 c1 c2 c3 c4 c5 c6 c7 c8 c9
    have hs : Ext W2 W2.drew := Ext.drew _
    refine wp_region_held_drew (S := fun W => Ext W2 W) (by kernel_rfl) hs (fun _ => ?_)
    obtain ⟨X, hX⟩ : ∃ X, X = W2.drew := ⟨_, rfl⟩
    rw [← hX] at hs ⊢
    clear hX
    have hx := hs
    refine tkG 0 107 (.pointer (some ⟨w.heap.size, 0, none⟩)) hs ?_
    simp only [Act.put, tkA, tkB, tkC]
    refine tkY 1 108 (.int .i64 1) hs ?_ (y := fun W hW => by have c0 := (HC.out W (hx0.trans hW)).1; rw [HK.out] at c0; go_simp)
    simp only [Act.put, tkA, tkB, tkC]
    refine tkG 2 109 (.int .u8 1) hs ?_
    simp only [Act.put, tkA, tkB, tkC]
    refine tkG 4 111 (.slice (some ⟨w1.heap.size, 0, none⟩) 2 2) hs ?_
    simp only [Act.put, tkA, tkB, tkC]
    refine wpAnyH_ready (rs := [3, 5]) (by kernel_rfl) (by simp) (AllReadyH.cons rfl (fun K hK => ?_) (AllReadyH.cons rfl (fun K hK => ?_) (AllReadyH.nil)))
    · go_simp
      refine hK.out _ _ (hs.trans (Ext.alloc _ _)) (fun hs => ?_)
      clear hK K
      refine wpAnyH_ready (rs := [5]) (by kernel_rfl) (by simp) (AllReadyH.cons rfl (fun K hK => ?_) (AllReadyH.nil))
      go_simp
      go_at_call 93
      refine (rput_any (some ⟨w1.heap.size, 0, none⟩) 2 2 (numF Q) _ (HL.out _ (hs)) (by decide) hnum).mono ?_; rintro e Wc ⟨b7, d7, rfl, hq, y⟩
      go_wp2_with fail
      refine hK.out _ _ (hs.trans y) (fun hs => ?_)
      clear hK K
      refine wpAnyH_ready (rs := [6]) (by kernel_rfl) (by simp) (AllReadyH.cons rfl (fun K hK => ?_) (AllReadyH.nil))
      refine step_appendD rfl (.tmp 110) (.tmp 112) 48 rfl W2.heap.size 5 i8 (.int .u8 0) 1 Tryz.underlying48 hi8 hz80 hz81 hz82 rfl _ 1 [.int .u8 1] (by rfl) (own_ext (own_lit X 1 W2.heap.size hx.size) y) b7 (2 * 2) d7 _ (by rfl) hq (fun _ => rfl) (by unfold maxLen; omega) (by omega) (Nat.le_trans hx.size (by have := y.size; simp at this; omega)) 113 rfl ?_
      intro v7 w7 hown7 _ hb7
      have hs : Ext W2 w7 := Below.trans hs hb7
      refine hK.out _ _ hs (fun hs => ?_)
      clear hK K hb7
      simp only [Act.put, tkA, tkB, tkC]
      refine tkG 7 7 (v7) hs ?_
      simp only [Act.put, tkA, tkB, tkC]
      refine wpAnyH_done (by kernel_rfl) ?_ _
      clear hx
      go_wp2_with (first
        | (at_builtin; refine wpList_append_holds (mk := Value.int .u8) rfl (.tmp 114) (.tmp 115) 48 rfl W2.heap.size 5 i8 (.int .u8 0) 1 Tryz.underlying48 hi8 hz80 hz81 hz82 rfl v7 (1 + 2 * 2) ([Value.int .u8 1] ++ lstG (Value.int .u8) (putF (numF Q)) (2 * 2)) rfl hown7 none 0 0 (tailF Q) rfl (.inl rfl) (fun _ => rfl) (by unfold maxLen; omega) (by omega) hs.size ?_; intro v8 w8 hown8 _ hb8))
      have hl := say_list Q (tailF Q) 0 htn.symm (fun i hi => absurd hi (Nat.not_lt_zero i))
      rw [HK.out, hnn] at hl
      have hsn : 1 + 2 * 2 + 0 = sayN Q := by unfold sayN; rw [hnn, htn]
      rw [hl, hsn] at hown8
      obtain ⟨b8, d8, rfl, l8, m8, h8⟩ := HoldsG.of_own (mk := Value.int .u8) hown8
      have x8 : Ext W2 w8 := Below.trans hs hb8
      go_ret2
      exact ⟨b8, d8, rfl, l8, m8, h8, He.out.trans (hx0.trans x8)⟩
    · go_simp
      go_at_call 93
      refine (rput_any (some ⟨w1.heap.size, 0, none⟩) 2 2 (numF Q) _ (HL.out _ (hs)) (by decide) hnum).mono ?_; rintro e Wc ⟨b7, d7, rfl, hq, y⟩
      go_wp2_with fail
      refine hK.out _ _ (hs.trans y) (fun hs => ?_)
      clear hK K
      refine wpAnyH_ready (rs := [3]) (by kernel_rfl) (by simp) (AllReadyH.cons rfl (fun K hK => ?_) (AllReadyH.nil))
      go_simp
      refine hK.out _ _ (hs.trans (Ext.alloc _ _)) (fun hs => ?_)
      clear hK K
      refine wpAnyH_ready (rs := [6]) (by kernel_rfl) (by simp) (AllReadyH.cons rfl (fun K hK => ?_) (AllReadyH.nil))
      refine step_appendD rfl (.tmp 110) (.tmp 112) 48 rfl W2.heap.size 5 i8 (.int .u8 0) 1 Tryz.underlying48 hi8 hz80 hz81 hz82 rfl _ 1 [.int .u8 1] (by rfl) (own_lit Wc 1 W2.heap.size (Nat.le_trans hx.size y.size)) b7 (2 * 2) d7 _ (by rfl) (hq.ext (Ext.alloc Wc _)) (fun _ => rfl) (by unfold maxLen; omega) (by omega) (Nat.le_trans hx.size (by have := y.size; simp; omega)) 113 rfl ?_
      intro v7 w7 hown7 _ hb7
      have hs : Ext W2 w7 := Below.trans hs hb7
      refine hK.out _ _ hs (fun hs => ?_)
      clear hK K hb7
      simp only [Act.put, tkA, tkB, tkC]
      refine tkG 7 7 (v7) hs ?_
      simp only [Act.put, tkA, tkB, tkC]
      refine wpAnyH_done (by kernel_rfl) ?_ _
      clear hx
      go_wp2_with (first
        | (at_builtin; refine wpList_append_holds (mk := Value.int .u8) rfl (.tmp 114) (.tmp 115) 48 rfl W2.heap.size 5 i8 (.int .u8 0) 1 Tryz.underlying48 hi8 hz80 hz81 hz82 rfl v7 (1 + 2 * 2) ([Value.int .u8 1] ++ lstG (Value.int .u8) (putF (numF Q)) (2 * 2)) rfl hown7 none 0 0 (tailF Q) rfl (.inl rfl) (fun _ => rfl) (by unfold maxLen; omega) (by omega) hs.size ?_; intro v8 w8 hown8 _ hb8))
      have hl := say_list Q (tailF Q) 0 htn.symm (fun i hi => absurd hi (Nat.not_lt_zero i))
      rw [HK.out, hnn] at hl
      have hsn : 1 + 2 * 2 + 0 = sayN Q := by unfold sayN; rw [hnn, htn]
      rw [hl, hsn] at hown8
      obtain ⟨b8, d8, rfl, l8, m8, h8⟩ := HoldsG.of_own (mk := Value.int .u8) hown8
      have x8 : Ext W2 w8 := Below.trans hs hb8
      go_ret2
      exact ⟨b8, d8, rfl, l8, m8, h8, He.out.trans (hx0.trans x8)⟩
  · have HK := Lib.hid hk2
    have hnn : numN Q = 2 := numN_two (by omega) (by omega)
    have hnum : ∀ i, i < 2 → 0 ≤ numF Q i ∧ numF Q i < 65536 := fun i hi => hF i (by rw [hnn]; exact hi)
    obtain ⟨hn0, hn1⟩ := numF_ct (Q := Q) (by omega) (by omega) (by omega)
    have hwk : IntKind.u8.wrap 2 = 2 := by decide
    have hw0 : IntKind.u16.wrap Q.ad = Q.ad := w16 (by have := hnum 0 (by decide); rw [hn0] at this; omega)
    have hw1 : IntKind.u16.wrap Q.ct = Q.ct := w16 (by have := hnum 1 (by decide); rw [hn1] at this; omega)
    have htn := tail_none (Q := Q) (by omega) (by omega)
    clear hk2
    go_enter Tryz.func91, Tryz.ntmps91
    go_upto_region 1 with fail
    rw [← hW0]
    clear hW0
    have gA := HX.out W0 (Ext.refl _)
    go_wp2_with (first
      | (refine wpList_load_row rfl 31 (.tmp 1) rfl (w.heap.size) rfl 31 _ (0, 0) _ gA Tryz.underlying31 rfl (by kernel_rfl) ?_))
    refine (KR.out _ He.out).mono ?_; rintro e w1 ⟨rfl, x1⟩
    clear gA
    obtain ⟨c0, c1, c2, c3, c4, c5, c6, c7, c8, c9⟩ := HC.out _ x1
    rw [HK.out] at c0
    obtain ⟨W2, hW2, HL, x2⟩ : ∃ W2, W2 = w1.alloc (.cells #[.int .u16 Q.ad, .int .u16 Q.ct] 59) ∧ Hid (∀ W, Ext W2 W → HoldsG (Value.int .u16) W (some ⟨w1.heap.size, 0, none⟩) 2 (numF Q)) ∧ Ext w1 W2 :=
      ⟨_, rfl, Lib.hid fun W hx => (two_words w1 _ _ (numF Q) hn0 hn1).ext hx, Ext.alloc w1 _⟩
    go_wp2_with fail
    rw [← hW2]
    clear hW2
    have hx0 : Ext W0 W2 := x1.trans x2
    clear x1 x2 c0 c1 c2 c3 c4 c5 c6 c7 c8 c9
    have hs : Ext W2 W2.drew := Ext.drew _
    refine wp_region_held_drew (S := fun W => Ext W2 W) (by kernel_rfl) hs (fun _ => ?_)
    obtain ⟨X, hX⟩ : ∃ X, X = W2.drew := ⟨_, rfl⟩
    rw [← hX] at hs ⊢
    clear hX
    have hx := hs
    refine tkG 0 107 (.pointer (some ⟨w.heap.size, 0, none⟩)) hs ?_
    simp only [Act.put, tkA, tkB, tkC]
    refine tkY 1 108 (.int .i64 2) hs ?_ (y := fun W hW => by have c0 := (HC.out W (hx0.trans hW)).1; rw [HK.out] at c0; go_simp)
    simp only [Act.put, tkA, tkB, tkC]
    refine tkG 2 109 (.int .u8 2) hs ?_
    simp only [Act.put, tkA, tkB, tkC]
    refine tkG 4 111 (.slice (some ⟨w1.heap.size, 0, none⟩) 2 2) hs ?_
    simp only [Act.put, tkA, tkB, tkC]
    refine wpAnyH_ready (rs := [3, 5]) (by kernel_rfl) (by simp) (AllReadyH.cons rfl (fun K hK => ?_) (AllReadyH.cons rfl (fun K hK => ?_) (AllReadyH.nil)))
    · go_simp
      refine hK.out _ _ (hs.trans (Ext.alloc _ _)) (fun hs => ?_)
      clear hK K
      refine wpAnyH_ready (rs := [5]) (by kernel_rfl) (by simp) (AllReadyH.cons rfl (fun K hK => ?_) (AllReadyH.nil))
      go_simp
      go_at_call 93
      refine (rput_any (some ⟨w1.heap.size, 0, none⟩) 2 2 (numF Q) _ (HL.out _ (hs)) (by decide) hnum).mono ?_; rintro e Wc ⟨b7, d7, rfl, hq, y⟩
      go_wp2_with fail
      refine hK.out _ _ (hs.trans y) (fun hs => ?_)
      clear hK K
      refine wpAnyH_ready (rs := [6]) (by kernel_rfl) (by simp) (AllReadyH.cons rfl (fun K hK => ?_) (AllReadyH.nil))
      refine step_appendD rfl (.tmp 110) (.tmp 112) 48 rfl W2.heap.size 5 i8 (.int .u8 0) 1 Tryz.underlying48 hi8 hz80 hz81 hz82 rfl _ 1 [.int .u8 2] (by rfl) (own_ext (own_lit X 2 W2.heap.size hx.size) y) b7 (2 * 2) d7 _ (by rfl) hq (fun _ => rfl) (by unfold maxLen; omega) (by omega) (Nat.le_trans hx.size (by have := y.size; simp at this; omega)) 113 rfl ?_
      intro v7 w7 hown7 _ hb7
      have hs : Ext W2 w7 := Below.trans hs hb7
      refine hK.out _ _ hs (fun hs => ?_)
      clear hK K hb7
      simp only [Act.put, tkA, tkB, tkC]
      refine tkG 7 7 (v7) hs ?_
      simp only [Act.put, tkA, tkB, tkC]
      refine wpAnyH_done (by kernel_rfl) ?_ _
      clear hx
      go_wp2_with (first
        | (at_builtin; refine wpList_append_holds (mk := Value.int .u8) rfl (.tmp 114) (.tmp 115) 48 rfl W2.heap.size 5 i8 (.int .u8 0) 1 Tryz.underlying48 hi8 hz80 hz81 hz82 rfl v7 (1 + 2 * 2) ([Value.int .u8 2] ++ lstG (Value.int .u8) (putF (numF Q)) (2 * 2)) rfl hown7 none 0 0 (tailF Q) rfl (.inl rfl) (fun _ => rfl) (by unfold maxLen; omega) (by omega) hs.size ?_; intro v8 w8 hown8 _ hb8))
      have hl := say_list Q (tailF Q) 0 htn.symm (fun i hi => absurd hi (Nat.not_lt_zero i))
      rw [HK.out, hnn] at hl
      have hsn : 1 + 2 * 2 + 0 = sayN Q := by unfold sayN; rw [hnn, htn]
      rw [hl, hsn] at hown8
      obtain ⟨b8, d8, rfl, l8, m8, h8⟩ := HoldsG.of_own (mk := Value.int .u8) hown8
      have x8 : Ext W2 w8 := Below.trans hs hb8
      go_ret2
      exact ⟨b8, d8, rfl, l8, m8, h8, He.out.trans (hx0.trans x8)⟩
    · go_simp
      go_at_call 93
      refine (rput_any (some ⟨w1.heap.size, 0, none⟩) 2 2 (numF Q) _ (HL.out _ (hs)) (by decide) hnum).mono ?_; rintro e Wc ⟨b7, d7, rfl, hq, y⟩
      go_wp2_with fail
      refine hK.out _ _ (hs.trans y) (fun hs => ?_)
      clear hK K
      refine wpAnyH_ready (rs := [3]) (by kernel_rfl) (by simp) (AllReadyH.cons rfl (fun K hK => ?_) (AllReadyH.nil))
      go_simp
      refine hK.out _ _ (hs.trans (Ext.alloc _ _)) (fun hs => ?_)
      clear hK K
      refine wpAnyH_ready (rs := [6]) (by kernel_rfl) (by simp) (AllReadyH.cons rfl (fun K hK => ?_) (AllReadyH.nil))
      refine step_appendD rfl (.tmp 110) (.tmp 112) 48 rfl W2.heap.size 5 i8 (.int .u8 0) 1 Tryz.underlying48 hi8 hz80 hz81 hz82 rfl _ 1 [.int .u8 2] (by rfl) (own_lit Wc 2 W2.heap.size (Nat.le_trans hx.size y.size)) b7 (2 * 2) d7 _ (by rfl) (hq.ext (Ext.alloc Wc _)) (fun _ => rfl) (by unfold maxLen; omega) (by omega) (Nat.le_trans hx.size (by have := y.size; simp; omega)) 113 rfl ?_
      intro v7 w7 hown7 _ hb7
      have hs : Ext W2 w7 := Below.trans hs hb7
      refine hK.out _ _ hs (fun hs => ?_)
      clear hK K hb7
      simp only [Act.put, tkA, tkB, tkC]
      refine tkG 7 7 (v7) hs ?_
      simp only [Act.put, tkA, tkB, tkC]
      refine wpAnyH_done (by kernel_rfl) ?_ _
      clear hx
      go_wp2_with (first
        | (at_builtin; refine wpList_append_holds (mk := Value.int .u8) rfl (.tmp 114) (.tmp 115) 48 rfl W2.heap.size 5 i8 (.int .u8 0) 1 Tryz.underlying48 hi8 hz80 hz81 hz82 rfl v7 (1 + 2 * 2) ([Value.int .u8 2] ++ lstG (Value.int .u8) (putF (numF Q)) (2 * 2)) rfl hown7 none 0 0 (tailF Q) rfl (.inl rfl) (fun _ => rfl) (by unfold maxLen; omega) (by omega) hs.size ?_; intro v8 w8 hown8 _ hb8))
      have hl := say_list Q (tailF Q) 0 htn.symm (fun i hi => absurd hi (Nat.not_lt_zero i))
      rw [HK.out, hnn] at hl
      have hsn : 1 + 2 * 2 + 0 = sayN Q := by unfold sayN; rw [hnn, htn]
      rw [hl, hsn] at hown8
      obtain ⟨b8, d8, rfl, l8, m8, h8⟩ := HoldsG.of_own (mk := Value.int .u8) hown8
      have x8 : Ext W2 w8 := Below.trans hs hb8
      go_ret2
      exact ⟨b8, d8, rfl, l8, m8, h8, He.out.trans (hx0.trans x8)⟩
  · have HK := Lib.hid hk3
    have hnn : numN Q = 2 := numN_two (by omega) (by omega)
    have hnum : ∀ i, i < 2 → 0 ≤ numF Q i ∧ numF Q i < 65536 := fun i hi => hF i (by rw [hnn]; exact hi)
    obtain ⟨hn0, hn1⟩ := numF_ct (Q := Q) (by omega) (by omega) (by omega)
    have hwk : IntKind.u8.wrap 3 = 3 := by decide
    have hw0 : IntKind.u16.wrap Q.ad = Q.ad := w16 (by have := hnum 0 (by decide); rw [hn0] at this; omega)
    have hw1 : IntKind.u16.wrap Q.ct = Q.ct := w16 (by have := hnum 1 (by decide); rw [hn1] at this; omega)
    have htn := tail_none (Q := Q) (by omega) (by omega)
    clear hk3
    go_enter Tryz.func91, Tryz.ntmps91
    go_upto_region 1 with fail
    rw [← hW0]
    clear hW0
    have gA := HX.out W0 (Ext.refl _)
    go_wp2_with (first
      | (refine wpList_load_row rfl 31 (.tmp 1) rfl (w.heap.size) rfl 31 _ (0, 0) _ gA Tryz.underlying31 rfl (by kernel_rfl) ?_))
    refine (KR.out _ He.out).mono ?_; rintro e w1 ⟨rfl, x1⟩
    clear gA
    obtain ⟨c0, c1, c2, c3, c4, c5, c6, c7, c8, c9⟩ := HC.out _ x1
    rw [HK.out] at c0
    obtain ⟨W2, hW2, HL, x2⟩ : ∃ W2, W2 = w1.alloc (.cells #[.int .u16 Q.ad, .int .u16 Q.ct] 59) ∧ Hid (∀ W, Ext W2 W → HoldsG (Value.int .u16) W (some ⟨w1.heap.size, 0, none⟩) 2 (numF Q)) ∧ Ext w1 W2 :=
      ⟨_, rfl, Lib.hid fun W hx => (two_words w1 _ _ (numF Q) hn0 hn1).ext hx, Ext.alloc w1 _⟩
    go_wp2_with fail
    rw [← hW2]
    clear hW2
    have hx0 : Ext W0 W2 := x1.trans x2
    clear x1 x2 c0 c1 c2 c3 c4 c5 c6 c7 c8 c9
    have hs : Ext W2 W2.drew := Ext.drew _
    refine wp_region_held_drew (S := fun W => Ext W2 W) (by kernel_rfl) hs (fun _ => ?_)
    obtain ⟨X, hX⟩ : ∃ X, X = W2.drew := ⟨_, rfl⟩
    rw [← hX] at hs ⊢
    clear hX
    have hx := hs
    refine tkG 0 107 (.pointer (some ⟨w.heap.size, 0, none⟩)) hs ?_
    simp only [Act.put, tkA, tkB, tkC]
    refine tkY 1 108 (.int .i64 3) hs ?_ (y := fun W hW => by have c0 := (HC.out W (hx0.trans hW)).1; rw [HK.out] at c0; go_simp)
    simp only [Act.put, tkA, tkB, tkC]
    refine tkG 2 109 (.int .u8 3) hs ?_
    simp only [Act.put, tkA, tkB, tkC]
    refine tkG 4 111 (.slice (some ⟨w1.heap.size, 0, none⟩) 2 2) hs ?_
    simp only [Act.put, tkA, tkB, tkC]
    refine wpAnyH_ready (rs := [3, 5]) (by kernel_rfl) (by simp) (AllReadyH.cons rfl (fun K hK => ?_) (AllReadyH.cons rfl (fun K hK => ?_) (AllReadyH.nil)))
    · go_simp
      refine hK.out _ _ (hs.trans (Ext.alloc _ _)) (fun hs => ?_)
      clear hK K
      refine wpAnyH_ready (rs := [5]) (by kernel_rfl) (by simp) (AllReadyH.cons rfl (fun K hK => ?_) (AllReadyH.nil))
      go_simp
      go_at_call 93
      refine (rput_any (some ⟨w1.heap.size, 0, none⟩) 2 2 (numF Q) _ (HL.out _ (hs)) (by decide) hnum).mono ?_; rintro e Wc ⟨b7, d7, rfl, hq, y⟩
      go_wp2_with fail
      refine hK.out _ _ (hs.trans y) (fun hs => ?_)
      clear hK K
      refine wpAnyH_ready (rs := [6]) (by kernel_rfl) (by simp) (AllReadyH.cons rfl (fun K hK => ?_) (AllReadyH.nil))
      refine step_appendD rfl (.tmp 110) (.tmp 112) 48 rfl W2.heap.size 5 i8 (.int .u8 0) 1 Tryz.underlying48 hi8 hz80 hz81 hz82 rfl _ 1 [.int .u8 3] (by rfl) (own_ext (own_lit X 3 W2.heap.size hx.size) y) b7 (2 * 2) d7 _ (by rfl) hq (fun _ => rfl) (by unfold maxLen; omega) (by omega) (Nat.le_trans hx.size (by have := y.size; simp at this; omega)) 113 rfl ?_
      intro v7 w7 hown7 _ hb7
      have hs : Ext W2 w7 := Below.trans hs hb7
      refine hK.out _ _ hs (fun hs => ?_)
      clear hK K hb7
      simp only [Act.put, tkA, tkB, tkC]
      refine tkG 7 7 (v7) hs ?_
      simp only [Act.put, tkA, tkB, tkC]
      refine wpAnyH_done (by kernel_rfl) ?_ _
      clear hx
      go_wp2_with (first
        | (at_builtin; refine wpList_append_holds (mk := Value.int .u8) rfl (.tmp 114) (.tmp 115) 48 rfl W2.heap.size 5 i8 (.int .u8 0) 1 Tryz.underlying48 hi8 hz80 hz81 hz82 rfl v7 (1 + 2 * 2) ([Value.int .u8 3] ++ lstG (Value.int .u8) (putF (numF Q)) (2 * 2)) rfl hown7 none 0 0 (tailF Q) rfl (.inl rfl) (fun _ => rfl) (by unfold maxLen; omega) (by omega) hs.size ?_; intro v8 w8 hown8 _ hb8))
      have hl := say_list Q (tailF Q) 0 htn.symm (fun i hi => absurd hi (Nat.not_lt_zero i))
      rw [HK.out, hnn] at hl
      have hsn : 1 + 2 * 2 + 0 = sayN Q := by unfold sayN; rw [hnn, htn]
      rw [hl, hsn] at hown8
      obtain ⟨b8, d8, rfl, l8, m8, h8⟩ := HoldsG.of_own (mk := Value.int .u8) hown8
      have x8 : Ext W2 w8 := Below.trans hs hb8
      go_ret2
      exact ⟨b8, d8, rfl, l8, m8, h8, He.out.trans (hx0.trans x8)⟩
    · go_simp
      go_at_call 93
      refine (rput_any (some ⟨w1.heap.size, 0, none⟩) 2 2 (numF Q) _ (HL.out _ (hs)) (by decide) hnum).mono ?_; rintro e Wc ⟨b7, d7, rfl, hq, y⟩
      go_wp2_with fail
      refine hK.out _ _ (hs.trans y) (fun hs => ?_)
      clear hK K
      refine wpAnyH_ready (rs := [3]) (by kernel_rfl) (by simp) (AllReadyH.cons rfl (fun K hK => ?_) (AllReadyH.nil))
      go_simp
      refine hK.out _ _ (hs.trans (Ext.alloc _ _)) (fun hs => ?_)
      clear hK K
      refine wpAnyH_ready (rs := [6]) (by kernel_rfl) (by simp) (AllReadyH.cons rfl (fun K hK => ?_) (AllReadyH.nil))
      refine step_appendD rfl (.tmp 110) (.tmp 112) 48 rfl W2.heap.size 5 i8 (.int .u8 0) 1 Tryz.underlying48 hi8 hz80 hz81 hz82 rfl _ 1 [.int .u8 3] (by rfl) (own_lit Wc 3 W2.heap.size (Nat.le_trans hx.size y.size)) b7 (2 * 2) d7 _ (by rfl) (hq.ext (Ext.alloc Wc _)) (fun _ => rfl) (by unfold maxLen; omega) (by omega) (Nat.le_trans hx.size (by have := y.size; simp; omega)) 113 rfl ?_
      intro v7 w7 hown7 _ hb7
      have hs : Ext W2 w7 := Below.trans hs hb7
      refine hK.out _ _ hs (fun hs => ?_)
      clear hK K hb7
      simp only [Act.put, tkA, tkB, tkC]
      refine tkG 7 7 (v7) hs ?_
      simp only [Act.put, tkA, tkB, tkC]
      refine wpAnyH_done (by kernel_rfl) ?_ _
      clear hx
      go_wp2_with (first
        | (at_builtin; refine wpList_append_holds (mk := Value.int .u8) rfl (.tmp 114) (.tmp 115) 48 rfl W2.heap.size 5 i8 (.int .u8 0) 1 Tryz.underlying48 hi8 hz80 hz81 hz82 rfl v7 (1 + 2 * 2) ([Value.int .u8 3] ++ lstG (Value.int .u8) (putF (numF Q)) (2 * 2)) rfl hown7 none 0 0 (tailF Q) rfl (.inl rfl) (fun _ => rfl) (by unfold maxLen; omega) (by omega) hs.size ?_; intro v8 w8 hown8 _ hb8))
      have hl := say_list Q (tailF Q) 0 htn.symm (fun i hi => absurd hi (Nat.not_lt_zero i))
      rw [HK.out, hnn] at hl
      have hsn : 1 + 2 * 2 + 0 = sayN Q := by unfold sayN; rw [hnn, htn]
      rw [hl, hsn] at hown8
      obtain ⟨b8, d8, rfl, l8, m8, h8⟩ := HoldsG.of_own (mk := Value.int .u8) hown8
      have x8 : Ext W2 w8 := Below.trans hs hb8
      go_ret2
      exact ⟨b8, d8, rfl, l8, m8, h8, He.out.trans (hx0.trans x8)⟩
  · have HK := Lib.hid hk4
    have hnn : numN Q = 2 := numN_two (by omega) (by omega)
    have hnum : ∀ i, i < 2 → 0 ≤ numF Q i ∧ numF Q i < 65536 := fun i hi => hF i (by rw [hnn]; exact hi)
    obtain ⟨hn0, hn1⟩ := numF_ct (Q := Q) (by omega) (by omega) (by omega)
    have hwk : IntKind.u8.wrap 4 = 4 := by decide
    have hw0 : IntKind.u16.wrap Q.ad = Q.ad := w16 (by have := hnum 0 (by decide); rw [hn0] at this; omega)
    have hw1 : IntKind.u16.wrap Q.ct = Q.ct := w16 (by have := hnum 1 (by decide); rw [hn1] at this; omega)
    have htn := tail_none (Q := Q) (by omega) (by omega)
    clear hk4
    go_enter Tryz.func91, Tryz.ntmps91
    go_upto_region 1 with fail
    rw [← hW0]
    clear hW0
    have gA := HX.out W0 (Ext.refl _)
    go_wp2_with (first
      | (refine wpList_load_row rfl 31 (.tmp 1) rfl (w.heap.size) rfl 31 _ (0, 0) _ gA Tryz.underlying31 rfl (by kernel_rfl) ?_))
    refine (KR.out _ He.out).mono ?_; rintro e w1 ⟨rfl, x1⟩
    clear gA
    obtain ⟨c0, c1, c2, c3, c4, c5, c6, c7, c8, c9⟩ := HC.out _ x1
    rw [HK.out] at c0
    obtain ⟨W2, hW2, HL, x2⟩ : ∃ W2, W2 = w1.alloc (.cells #[.int .u16 Q.ad, .int .u16 Q.ct] 59) ∧ Hid (∀ W, Ext W2 W → HoldsG (Value.int .u16) W (some ⟨w1.heap.size, 0, none⟩) 2 (numF Q)) ∧ Ext w1 W2 :=
      ⟨_, rfl, Lib.hid fun W hx => (two_words w1 _ _ (numF Q) hn0 hn1).ext hx, Ext.alloc w1 _⟩
    go_wp2_with fail
    rw [← hW2]
    clear hW2
    have hx0 : Ext W0 W2 := x1.trans x2
    clear x1 x2 c0 c1 c2 c3 c4 c5 c6 c7 c8 c9
    have hs : Ext W2 W2.drew := Ext.drew _
    refine wp_region_held_drew (S := fun W => Ext W2 W) (by kernel_rfl) hs (fun _ => ?_)
    obtain ⟨X, hX⟩ : ∃ X, X = W2.drew := ⟨_, rfl⟩
    rw [← hX] at hs ⊢
    clear hX
    have hx := hs
    refine tkG 0 107 (.pointer (some ⟨w.heap.size, 0, none⟩)) hs ?_
    simp only [Act.put, tkA, tkB, tkC]
    refine tkY 1 108 (.int .i64 4) hs ?_ (y := fun W hW => by have c0 := (HC.out W (hx0.trans hW)).1; rw [HK.out] at c0; go_simp)
    simp only [Act.put, tkA, tkB, tkC]
    refine tkG 2 109 (.int .u8 4) hs ?_
    simp only [Act.put, tkA, tkB, tkC]
    refine tkG 4 111 (.slice (some ⟨w1.heap.size, 0, none⟩) 2 2) hs ?_
    simp only [Act.put, tkA, tkB, tkC]
    refine wpAnyH_ready (rs := [3, 5]) (by kernel_rfl) (by simp) (AllReadyH.cons rfl (fun K hK => ?_) (AllReadyH.cons rfl (fun K hK => ?_) (AllReadyH.nil)))
    · go_simp
      refine hK.out _ _ (hs.trans (Ext.alloc _ _)) (fun hs => ?_)
      clear hK K
      refine wpAnyH_ready (rs := [5]) (by kernel_rfl) (by simp) (AllReadyH.cons rfl (fun K hK => ?_) (AllReadyH.nil))
      go_simp
      go_at_call 93
      refine (rput_any (some ⟨w1.heap.size, 0, none⟩) 2 2 (numF Q) _ (HL.out _ (hs)) (by decide) hnum).mono ?_; rintro e Wc ⟨b7, d7, rfl, hq, y⟩
      go_wp2_with fail
      refine hK.out _ _ (hs.trans y) (fun hs => ?_)
      clear hK K
      refine wpAnyH_ready (rs := [6]) (by kernel_rfl) (by simp) (AllReadyH.cons rfl (fun K hK => ?_) (AllReadyH.nil))
      refine step_appendD rfl (.tmp 110) (.tmp 112) 48 rfl W2.heap.size 5 i8 (.int .u8 0) 1 Tryz.underlying48 hi8 hz80 hz81 hz82 rfl _ 1 [.int .u8 4] (by rfl) (own_ext (own_lit X 4 W2.heap.size hx.size) y) b7 (2 * 2) d7 _ (by rfl) hq (fun _ => rfl) (by unfold maxLen; omega) (by omega) (Nat.le_trans hx.size (by have := y.size; simp at this; omega)) 113 rfl ?_
      intro v7 w7 hown7 _ hb7
      have hs : Ext W2 w7 := Below.trans hs hb7
      refine hK.out _ _ hs (fun hs => ?_)
      clear hK K hb7
      simp only [Act.put, tkA, tkB, tkC]
      refine tkG 7 7 (v7) hs ?_
      simp only [Act.put, tkA, tkB, tkC]
      refine wpAnyH_done (by kernel_rfl) ?_ _
      clear hx
      go_wp2_with (first
        | (at_builtin; refine wpList_append_holds (mk := Value.int .u8) rfl (.tmp 114) (.tmp 115) 48 rfl W2.heap.size 5 i8 (.int .u8 0) 1 Tryz.underlying48 hi8 hz80 hz81 hz82 rfl v7 (1 + 2 * 2) ([Value.int .u8 4] ++ lstG (Value.int .u8) (putF (numF Q)) (2 * 2)) rfl hown7 none 0 0 (tailF Q) rfl (.inl rfl) (fun _ => rfl) (by unfold maxLen; omega) (by omega) hs.size ?_; intro v8 w8 hown8 _ hb8))
      have hl := say_list Q (tailF Q) 0 htn.symm (fun i hi => absurd hi (Nat.not_lt_zero i))
      rw [HK.out, hnn] at hl
      have hsn : 1 + 2 * 2 + 0 = sayN Q := by unfold sayN; rw [hnn, htn]
      rw [hl, hsn] at hown8
      obtain ⟨b8, d8, rfl, l8, m8, h8⟩ := HoldsG.of_own (mk := Value.int .u8) hown8
      have x8 : Ext W2 w8 := Below.trans hs hb8
      go_ret2
      exact ⟨b8, d8, rfl, l8, m8, h8, He.out.trans (hx0.trans x8)⟩
    · go_simp
      go_at_call 93
      refine (rput_any (some ⟨w1.heap.size, 0, none⟩) 2 2 (numF Q) _ (HL.out _ (hs)) (by decide) hnum).mono ?_; rintro e Wc ⟨b7, d7, rfl, hq, y⟩
      go_wp2_with fail
      refine hK.out _ _ (hs.trans y) (fun hs => ?_)
      clear hK K
      refine wpAnyH_ready (rs := [3]) (by kernel_rfl) (by simp) (AllReadyH.cons rfl (fun K hK => ?_) (AllReadyH.nil))
      go_simp
      refine hK.out _ _ (hs.trans (Ext.alloc _ _)) (fun hs => ?_)
      clear hK K
      refine wpAnyH_ready (rs := [6]) (by kernel_rfl) (by simp) (AllReadyH.cons rfl (fun K hK => ?_) (AllReadyH.nil))
      refine step_appendD rfl (.tmp 110) (.tmp 112) 48 rfl W2.heap.size 5 i8 (.int .u8 0) 1 Tryz.underlying48 hi8 hz80 hz81 hz82 rfl _ 1 [.int .u8 4] (by rfl) (own_lit Wc 4 W2.heap.size (Nat.le_trans hx.size y.size)) b7 (2 * 2) d7 _ (by rfl) (hq.ext (Ext.alloc Wc _)) (fun _ => rfl) (by unfold maxLen; omega) (by omega) (Nat.le_trans hx.size (by have := y.size; simp; omega)) 113 rfl ?_
      intro v7 w7 hown7 _ hb7
      have hs : Ext W2 w7 := Below.trans hs hb7
      refine hK.out _ _ hs (fun hs => ?_)
      clear hK K hb7
      simp only [Act.put, tkA, tkB, tkC]
      refine tkG 7 7 (v7) hs ?_
      simp only [Act.put, tkA, tkB, tkC]
      refine wpAnyH_done (by kernel_rfl) ?_ _
      clear hx
      go_wp2_with (first
        | (at_builtin; refine wpList_append_holds (mk := Value.int .u8) rfl (.tmp 114) (.tmp 115) 48 rfl W2.heap.size 5 i8 (.int .u8 0) 1 Tryz.underlying48 hi8 hz80 hz81 hz82 rfl v7 (1 + 2 * 2) ([Value.int .u8 4] ++ lstG (Value.int .u8) (putF (numF Q)) (2 * 2)) rfl hown7 none 0 0 (tailF Q) rfl (.inl rfl) (fun _ => rfl) (by unfold maxLen; omega) (by omega) hs.size ?_; intro v8 w8 hown8 _ hb8))
      have hl := say_list Q (tailF Q) 0 htn.symm (fun i hi => absurd hi (Nat.not_lt_zero i))
      rw [HK.out, hnn] at hl
      have hsn : 1 + 2 * 2 + 0 = sayN Q := by unfold sayN; rw [hnn, htn]
      rw [hl, hsn] at hown8
      obtain ⟨b8, d8, rfl, l8, m8, h8⟩ := HoldsG.of_own (mk := Value.int .u8) hown8
      have x8 : Ext W2 w8 := Below.trans hs hb8
      go_ret2
      exact ⟨b8, d8, rfl, l8, m8, h8, He.out.trans (hx0.trans x8)⟩
  · have HK := Lib.hid hk5
    have hnn : numN Q = 2 := numN_two (by omega) (by omega)
    have hnum : ∀ i, i < 2 → 0 ≤ numF Q i ∧ numF Q i < 65536 := fun i hi => hF i (by rw [hnn]; exact hi)
    obtain ⟨hn0, hn1⟩ := numF_va (Q := Q) (by omega)
    have hwk : IntKind.u8.wrap 5 = 5 := by decide
    have hw0 : IntKind.u16.wrap Q.ad = Q.ad := w16 (by have := hnum 0 (by decide); rw [hn0] at this; omega)
    have hw1 : IntKind.u16.wrap Q.va = Q.va := w16 (by have := hnum 1 (by decide); rw [hn1] at this; omega)
    have htn := tail_none (Q := Q) (by omega) (by omega)
    clear hk5
    go_enter Tryz.func91, Tryz.ntmps91
    go_upto_region 1 with fail
    rw [← hW0]
    clear hW0
    have gA := HX.out W0 (Ext.refl _)
    go_wp2_with (first
      | (refine wpList_load_row rfl 31 (.tmp 1) rfl (w.heap.size) rfl 31 _ (0, 0) _ gA Tryz.underlying31 rfl (by kernel_rfl) ?_))
    refine (KR.out _ He.out).mono ?_; rintro e w1 ⟨rfl, x1⟩
    clear gA
    obtain ⟨c0, c1, c2, c3, c4, c5, c6, c7, c8, c9⟩ := HC.out _ x1
    rw [HK.out] at c0
    obtain ⟨W2, hW2, HL, x2⟩ : ∃ W2, W2 = w1.alloc (.cells #[.int .u16 Q.ad, .int .u16 Q.va] 59) ∧ Hid (∀ W, Ext W2 W → HoldsG (Value.int .u16) W (some ⟨w1.heap.size, 0, none⟩) 2 (numF Q)) ∧ Ext w1 W2 :=
      ⟨_, rfl, Lib.hid fun W hx => (two_words w1 _ _ (numF Q) hn0 hn1).ext hx, Ext.alloc w1 _⟩
    go_wp2_with fail
    rw [← hW2]
    clear hW2
    have hx0 : Ext W0 W2 := x1.trans x2
    clear x1 x2 c0 c1 c2 c3 c4 c5 c6 c7 c8 c9
    have hs : Ext W2 W2.drew := Ext.drew _
    refine wp_region_held_drew (S := fun W => Ext W2 W) (by kernel_rfl) hs (fun _ => ?_)
    obtain ⟨X, hX⟩ : ∃ X, X = W2.drew := ⟨_, rfl⟩
    rw [← hX] at hs ⊢
    clear hX
    have hx := hs
    refine tkG 0 107 (.pointer (some ⟨w.heap.size, 0, none⟩)) hs ?_
    simp only [Act.put, tkA, tkB, tkC]
    refine tkY 1 108 (.int .i64 5) hs ?_ (y := fun W hW => by have c0 := (HC.out W (hx0.trans hW)).1; rw [HK.out] at c0; go_simp)
    simp only [Act.put, tkA, tkB, tkC]
    refine tkG 2 109 (.int .u8 5) hs ?_
    simp only [Act.put, tkA, tkB, tkC]
    refine tkG 4 111 (.slice (some ⟨w1.heap.size, 0, none⟩) 2 2) hs ?_
    simp only [Act.put, tkA, tkB, tkC]
    refine wpAnyH_ready (rs := [3, 5]) (by kernel_rfl) (by simp) (AllReadyH.cons rfl (fun K hK => ?_) (AllReadyH.cons rfl (fun K hK => ?_) (AllReadyH.nil)))
    · go_simp
      refine hK.out _ _ (hs.trans (Ext.alloc _ _)) (fun hs => ?_)
      clear hK K
      refine wpAnyH_ready (rs := [5]) (by kernel_rfl) (by simp) (AllReadyH.cons rfl (fun K hK => ?_) (AllReadyH.nil))
      go_simp
      go_at_call 93
      refine (rput_any (some ⟨w1.heap.size, 0, none⟩) 2 2 (numF Q) _ (HL.out _ (hs)) (by decide) hnum).mono ?_; rintro e Wc ⟨b7, d7, rfl, hq, y⟩
      go_wp2_with fail
      refine hK.out _ _ (hs.trans y) (fun hs => ?_)
      clear hK K
      refine wpAnyH_ready (rs := [6]) (by kernel_rfl) (by simp) (AllReadyH.cons rfl (fun K hK => ?_) (AllReadyH.nil))
      refine step_appendD rfl (.tmp 110) (.tmp 112) 48 rfl W2.heap.size 5 i8 (.int .u8 0) 1 Tryz.underlying48 hi8 hz80 hz81 hz82 rfl _ 1 [.int .u8 5] (by rfl) (own_ext (own_lit X 5 W2.heap.size hx.size) y) b7 (2 * 2) d7 _ (by rfl) hq (fun _ => rfl) (by unfold maxLen; omega) (by omega) (Nat.le_trans hx.size (by have := y.size; simp at this; omega)) 113 rfl ?_
      intro v7 w7 hown7 _ hb7
      have hs : Ext W2 w7 := Below.trans hs hb7
      refine hK.out _ _ hs (fun hs => ?_)
      clear hK K hb7
      simp only [Act.put, tkA, tkB, tkC]
      refine tkG 7 7 (v7) hs ?_
      simp only [Act.put, tkA, tkB, tkC]
      refine wpAnyH_done (by kernel_rfl) ?_ _
      clear hx
      go_wp2_with (first
        | (at_builtin; refine wpList_append_holds (mk := Value.int .u8) rfl (.tmp 114) (.tmp 115) 48 rfl W2.heap.size 5 i8 (.int .u8 0) 1 Tryz.underlying48 hi8 hz80 hz81 hz82 rfl v7 (1 + 2 * 2) ([Value.int .u8 5] ++ lstG (Value.int .u8) (putF (numF Q)) (2 * 2)) rfl hown7 none 0 0 (tailF Q) rfl (.inl rfl) (fun _ => rfl) (by unfold maxLen; omega) (by omega) hs.size ?_; intro v8 w8 hown8 _ hb8))
      have hl := say_list Q (tailF Q) 0 htn.symm (fun i hi => absurd hi (Nat.not_lt_zero i))
      rw [HK.out, hnn] at hl
      have hsn : 1 + 2 * 2 + 0 = sayN Q := by unfold sayN; rw [hnn, htn]
      rw [hl, hsn] at hown8
      obtain ⟨b8, d8, rfl, l8, m8, h8⟩ := HoldsG.of_own (mk := Value.int .u8) hown8
      have x8 : Ext W2 w8 := Below.trans hs hb8
      go_ret2
      exact ⟨b8, d8, rfl, l8, m8, h8, He.out.trans (hx0.trans x8)⟩
    · go_simp
      go_at_call 93
      refine (rput_any (some ⟨w1.heap.size, 0, none⟩) 2 2 (numF Q) _ (HL.out _ (hs)) (by decide) hnum).mono ?_; rintro e Wc ⟨b7, d7, rfl, hq, y⟩
      go_wp2_with fail
      refine hK.out _ _ (hs.trans y) (fun hs => ?_)
      clear hK K
      refine wpAnyH_ready (rs := [3]) (by kernel_rfl) (by simp) (AllReadyH.cons rfl (fun K hK => ?_) (AllReadyH.nil))
      go_simp
      refine hK.out _ _ (hs.trans (Ext.alloc _ _)) (fun hs => ?_)
      clear hK K
      refine wpAnyH_ready (rs := [6]) (by kernel_rfl) (by simp) (AllReadyH.cons rfl (fun K hK => ?_) (AllReadyH.nil))
      refine step_appendD rfl (.tmp 110) (.tmp 112) 48 rfl W2.heap.size 5 i8 (.int .u8 0) 1 Tryz.underlying48 hi8 hz80 hz81 hz82 rfl _ 1 [.int .u8 5] (by rfl) (own_lit Wc 5 W2.heap.size (Nat.le_trans hx.size y.size)) b7 (2 * 2) d7 _ (by rfl) (hq.ext (Ext.alloc Wc _)) (fun _ => rfl) (by unfold maxLen; omega) (by omega) (Nat.le_trans hx.size (by have := y.size; simp; omega)) 113 rfl ?_
      intro v7 w7 hown7 _ hb7
      have hs : Ext W2 w7 := Below.trans hs hb7
      refine hK.out _ _ hs (fun hs => ?_)
      clear hK K hb7
      simp only [Act.put, tkA, tkB, tkC]
      refine tkG 7 7 (v7) hs ?_
      simp only [Act.put, tkA, tkB, tkC]
      refine wpAnyH_done (by kernel_rfl) ?_ _
      clear hx
      go_wp2_with (first
        | (at_builtin; refine wpList_append_holds (mk := Value.int .u8) rfl (.tmp 114) (.tmp 115) 48 rfl W2.heap.size 5 i8 (.int .u8 0) 1 Tryz.underlying48 hi8 hz80 hz81 hz82 rfl v7 (1 + 2 * 2) ([Value.int .u8 5] ++ lstG (Value.int .u8) (putF (numF Q)) (2 * 2)) rfl hown7 none 0 0 (tailF Q) rfl (.inl rfl) (fun _ => rfl) (by unfold maxLen; omega) (by omega) hs.size ?_; intro v8 w8 hown8 _ hb8))
      have hl := say_list Q (tailF Q) 0 htn.symm (fun i hi => absurd hi (Nat.not_lt_zero i))
      rw [HK.out, hnn] at hl
      have hsn : 1 + 2 * 2 + 0 = sayN Q := by unfold sayN; rw [hnn, htn]
      rw [hl, hsn] at hown8
      obtain ⟨b8, d8, rfl, l8, m8, h8⟩ := HoldsG.of_own (mk := Value.int .u8) hown8
      have x8 : Ext W2 w8 := Below.trans hs hb8
      go_ret2
      exact ⟨b8, d8, rfl, l8, m8, h8, He.out.trans (hx0.trans x8)⟩
  · have HK := Lib.hid hk6
    have hnn : numN Q = 2 := numN_two (by omega) (by omega)
    have hnum : ∀ i, i < 2 → 0 ≤ numF Q i ∧ numF Q i < 65536 := fun i hi => hF i (by rw [hnn]; exact hi)
    obtain ⟨hn0, hn1⟩ := numF_va (Q := Q) (by omega)
    have hwk : IntKind.u8.wrap 6 = 6 := by decide
    have hw0 : IntKind.u16.wrap Q.ad = Q.ad := w16 (by have := hnum 0 (by decide); rw [hn0] at this; omega)
    have hw1 : IntKind.u16.wrap Q.va = Q.va := w16 (by have := hnum 1 (by decide); rw [hn1] at this; omega)
    have htn := tail_none (Q := Q) (by omega) (by omega)
    clear hk6
    go_enter Tryz.func91, Tryz.ntmps91
    go_upto_region 1 with fail
    rw [← hW0]
    clear hW0
    have gA := HX.out W0 (Ext.refl _)
    go_wp2_with (first
      | (refine wpList_load_row rfl 31 (.tmp 1) rfl (w.heap.size) rfl 31 _ (0, 0) _ gA Tryz.underlying31 rfl (by kernel_rfl) ?_))
    refine (KR.out _ He.out).mono ?_; rintro e w1 ⟨rfl, x1⟩
    clear gA
    obtain ⟨c0, c1, c2, c3, c4, c5, c6, c7, c8, c9⟩ := HC.out _ x1
    rw [HK.out] at c0
    obtain ⟨W2, hW2, HL, x2⟩ : ∃ W2, W2 = w1.alloc (.cells #[.int .u16 Q.ad, .int .u16 Q.va] 59) ∧ Hid (∀ W, Ext W2 W → HoldsG (Value.int .u16) W (some ⟨w1.heap.size, 0, none⟩) 2 (numF Q)) ∧ Ext w1 W2 :=
      ⟨_, rfl, Lib.hid fun W hx => (two_words w1 _ _ (numF Q) hn0 hn1).ext hx, Ext.alloc w1 _⟩
    go_wp2_with fail
    rw [← hW2]
    clear hW2
    have hx0 : Ext W0 W2 := x1.trans x2
    clear x1 x2 c0 c1 c2 c3 c4 c5 c6 c7 c8 c9
    have hs : Ext W2 W2.drew := Ext.drew _
    refine wp_region_held_drew (S := fun W => Ext W2 W) (by kernel_rfl) hs (fun _ => ?_)
    obtain ⟨X, hX⟩ : ∃ X, X = W2.drew := ⟨_, rfl⟩
    rw [← hX] at hs ⊢
    clear hX
    have hx := hs
    refine tkG 0 107 (.pointer (some ⟨w.heap.size, 0, none⟩)) hs ?_
    simp only [Act.put, tkA, tkB, tkC]
    refine tkY 1 108 (.int .i64 6) hs ?_ (y := fun W hW => by have c0 := (HC.out W (hx0.trans hW)).1; rw [HK.out] at c0; go_simp)
    simp only [Act.put, tkA, tkB, tkC]
    refine tkG 2 109 (.int .u8 6) hs ?_
    simp only [Act.put, tkA, tkB, tkC]
    refine tkG 4 111 (.slice (some ⟨w1.heap.size, 0, none⟩) 2 2) hs ?_
    simp only [Act.put, tkA, tkB, tkC]
    refine wpAnyH_ready (rs := [3, 5]) (by kernel_rfl) (by simp) (AllReadyH.cons rfl (fun K hK => ?_) (AllReadyH.cons rfl (fun K hK => ?_) (AllReadyH.nil)))
    · go_simp
      refine hK.out _ _ (hs.trans (Ext.alloc _ _)) (fun hs => ?_)
      clear hK K
      refine wpAnyH_ready (rs := [5]) (by kernel_rfl) (by simp) (AllReadyH.cons rfl (fun K hK => ?_) (AllReadyH.nil))
      go_simp
      go_at_call 93
      refine (rput_any (some ⟨w1.heap.size, 0, none⟩) 2 2 (numF Q) _ (HL.out _ (hs)) (by decide) hnum).mono ?_; rintro e Wc ⟨b7, d7, rfl, hq, y⟩
      go_wp2_with fail
      refine hK.out _ _ (hs.trans y) (fun hs => ?_)
      clear hK K
      refine wpAnyH_ready (rs := [6]) (by kernel_rfl) (by simp) (AllReadyH.cons rfl (fun K hK => ?_) (AllReadyH.nil))
      refine step_appendD rfl (.tmp 110) (.tmp 112) 48 rfl W2.heap.size 5 i8 (.int .u8 0) 1 Tryz.underlying48 hi8 hz80 hz81 hz82 rfl _ 1 [.int .u8 6] (by rfl) (own_ext (own_lit X 6 W2.heap.size hx.size) y) b7 (2 * 2) d7 _ (by rfl) hq (fun _ => rfl) (by unfold maxLen; omega) (by omega) (Nat.le_trans hx.size (by have := y.size; simp at this; omega)) 113 rfl ?_
      intro v7 w7 hown7 _ hb7
      have hs : Ext W2 w7 := Below.trans hs hb7
      refine hK.out _ _ hs (fun hs => ?_)
      clear hK K hb7
      simp only [Act.put, tkA, tkB, tkC]
      refine tkG 7 7 (v7) hs ?_
      simp only [Act.put, tkA, tkB, tkC]
      refine wpAnyH_done (by kernel_rfl) ?_ _
      clear hx
      go_wp2_with (first
        | (at_builtin; refine wpList_append_holds (mk := Value.int .u8) rfl (.tmp 114) (.tmp 115) 48 rfl W2.heap.size 5 i8 (.int .u8 0) 1 Tryz.underlying48 hi8 hz80 hz81 hz82 rfl v7 (1 + 2 * 2) ([Value.int .u8 6] ++ lstG (Value.int .u8) (putF (numF Q)) (2 * 2)) rfl hown7 none 0 0 (tailF Q) rfl (.inl rfl) (fun _ => rfl) (by unfold maxLen; omega) (by omega) hs.size ?_; intro v8 w8 hown8 _ hb8))
      have hl := say_list Q (tailF Q) 0 htn.symm (fun i hi => absurd hi (Nat.not_lt_zero i))
      rw [HK.out, hnn] at hl
      have hsn : 1 + 2 * 2 + 0 = sayN Q := by unfold sayN; rw [hnn, htn]
      rw [hl, hsn] at hown8
      obtain ⟨b8, d8, rfl, l8, m8, h8⟩ := HoldsG.of_own (mk := Value.int .u8) hown8
      have x8 : Ext W2 w8 := Below.trans hs hb8
      go_ret2
      exact ⟨b8, d8, rfl, l8, m8, h8, He.out.trans (hx0.trans x8)⟩
    · go_simp
      go_at_call 93
      refine (rput_any (some ⟨w1.heap.size, 0, none⟩) 2 2 (numF Q) _ (HL.out _ (hs)) (by decide) hnum).mono ?_; rintro e Wc ⟨b7, d7, rfl, hq, y⟩
      go_wp2_with fail
      refine hK.out _ _ (hs.trans y) (fun hs => ?_)
      clear hK K
      refine wpAnyH_ready (rs := [3]) (by kernel_rfl) (by simp) (AllReadyH.cons rfl (fun K hK => ?_) (AllReadyH.nil))
      go_simp
      refine hK.out _ _ (hs.trans (Ext.alloc _ _)) (fun hs => ?_)
      clear hK K
      refine wpAnyH_ready (rs := [6]) (by kernel_rfl) (by simp) (AllReadyH.cons rfl (fun K hK => ?_) (AllReadyH.nil))
      refine step_appendD rfl (.tmp 110) (.tmp 112) 48 rfl W2.heap.size 5 i8 (.int .u8 0) 1 Tryz.underlying48 hi8 hz80 hz81 hz82 rfl _ 1 [.int .u8 6] (by rfl) (own_lit Wc 6 W2.heap.size (Nat.le_trans hx.size y.size)) b7 (2 * 2) d7 _ (by rfl) (hq.ext (Ext.alloc Wc _)) (fun _ => rfl) (by unfold maxLen; omega) (by omega) (Nat.le_trans hx.size (by have := y.size; simp; omega)) 113 rfl ?_
      intro v7 w7 hown7 _ hb7
      have hs : Ext W2 w7 := Below.trans hs hb7
      refine hK.out _ _ hs (fun hs => ?_)
      clear hK K hb7
      simp only [Act.put, tkA, tkB, tkC]
      refine tkG 7 7 (v7) hs ?_
      simp only [Act.put, tkA, tkB, tkC]
      refine wpAnyH_done (by kernel_rfl) ?_ _
      clear hx
      go_wp2_with (first
        | (at_builtin; refine wpList_append_holds (mk := Value.int .u8) rfl (.tmp 114) (.tmp 115) 48 rfl W2.heap.size 5 i8 (.int .u8 0) 1 Tryz.underlying48 hi8 hz80 hz81 hz82 rfl v7 (1 + 2 * 2) ([Value.int .u8 6] ++ lstG (Value.int .u8) (putF (numF Q)) (2 * 2)) rfl hown7 none 0 0 (tailF Q) rfl (.inl rfl) (fun _ => rfl) (by unfold maxLen; omega) (by omega) hs.size ?_; intro v8 w8 hown8 _ hb8))
      have hl := say_list Q (tailF Q) 0 htn.symm (fun i hi => absurd hi (Nat.not_lt_zero i))
      rw [HK.out, hnn] at hl
      have hsn : 1 + 2 * 2 + 0 = sayN Q := by unfold sayN; rw [hnn, htn]
      rw [hl, hsn] at hown8
      obtain ⟨b8, d8, rfl, l8, m8, h8⟩ := HoldsG.of_own (mk := Value.int .u8) hown8
      have x8 : Ext W2 w8 := Below.trans hs hb8
      go_ret2
      exact ⟨b8, d8, rfl, l8, m8, h8, He.out.trans (hx0.trans x8)⟩
  · have HK := Lib.hid hk15
    have hnn : numN Q = 2 := numN_two (by omega) (by omega)
    have hnum : ∀ i, i < 2 → 0 ≤ numF Q i ∧ numF Q i < 65536 := fun i hi => hF i (by rw [hnn]; exact hi)
    obtain ⟨hn0, hn1⟩ := numF_ct (Q := Q) (by omega) (by omega) (by omega)
    have hwk : IntKind.u8.wrap 15 = 15 := by decide
    have hw0 : IntKind.u16.wrap Q.ad = Q.ad := w16 (by have := hnum 0 (by decide); rw [hn0] at this; omega)
    have hw1 : IntKind.u16.wrap Q.ct = Q.ct := w16 (by have := hnum 1 (by decide); rw [hn1] at this; omega)
    have hfit := fits_bits hk15 hfits
    obtain ⟨htn, htf⟩ := tail_bits hk15
    clear hk15
    go_enter Tryz.func91, Tryz.ntmps91
    go_upto_region 1 with fail
    rw [← hW0]
    clear hW0
    have gA := HX.out W0 (Ext.refl _)
    go_wp2_with (first
      | (refine wpList_load_row rfl 31 (.tmp 1) rfl (w.heap.size) rfl 31 _ (0, 0) _ gA Tryz.underlying31 rfl (by kernel_rfl) ?_))
    refine (KR.out _ He.out).mono ?_; rintro e w1 ⟨rfl, x1⟩
    clear gA
    obtain ⟨c0, c1, c2, c3, c4, c5, c6, c7, c8, c9⟩ := HC.out _ x1
    rw [HK.out] at c0
    obtain ⟨W2, hW2, HL, x2⟩ : ∃ W2, W2 = w1.alloc (.cells #[.int .u16 Q.ad, .int .u16 Q.ct] 59) ∧ Hid (∀ W, Ext W2 W → HoldsG (Value.int .u16) W (some ⟨w1.heap.size, 0, none⟩) 2 (numF Q)) ∧ Ext w1 W2 :=
      ⟨_, rfl, Lib.hid fun W hx => (two_words w1 _ _ (numF Q) hn0 hn1).ext hx, Ext.alloc w1 _⟩
    go_upto_region 16 with fail
    rw [← hW2]
    clear hW2 c0 c1 c2 c3 c4 c5 c6 c7 c8 c9
    have xp := x1.trans x2
    obtain ⟨-, -, -, -, -, -, -, -, c8, -⟩ := HC.out _ xp
    go_wp2_with fail
    refine (rpack_any V.a1 Q.nb V.d1 Q.B _ (h.h1.ext (He.out.trans xp)) n1).mono ?_; rintro e w3 ⟨b3, d3, rfl, l3, m3, h3, x3⟩
    have xq := xp.trans x3
    have hs3 : szN Q.nb ≤ 255 := by unfold szN; omega
    have hw8 : IntKind.u8.wrap (szN Q.nb : Int) = (szN Q.nb : Int) := w8 (by omega)
    have hlen : (szN Q.nb : Int) ≤ 9223372036854775807 := by omega
    have HT := Lib.hid htf
    clear c8 xp htf
    go_wp2_with (first
      | (at_builtin; refine wpList_append_holds (mk := Value.int .u8) rfl (.tmp 50) (.tmp 51) 48 rfl w3.heap.size 5 i8 (.int .u8 0) 1 Tryz.underlying48 hi8 hz80 hz81 hz82 rfl _ 1 [.int .u8 (szN Q.nb : Int)] rfl (own_lit w3 _ _ (Nat.le_refl _)) b3 (szN Q.nb) d3 (pkF Q.B Q.nb) rfl (h3.ext (Ext.alloc w3 _)) (fun _ => rfl) (by unfold maxLen; omega) (by omega) (by simp) ?_; intro v4 w4 hown4 _ hb4; rw [lst_one (Value.int .u8) (szN Q.nb : Int), lstG_append] at hown4; have x4 : Ext w3 w4 := Below.trans (Ext.alloc w3 _) hb4; obtain ⟨b5, d5, rfl, l5, m5, h5⟩ := HoldsG.of_own (mk := Value.int .u8) hown4; clear hown4 hb4))
    have hx0 : Ext W0 w4 := xq.trans x4
    have hy0 : Ext W2 w4 := x3.trans x4
    clear xq x3 x4 x1 x2 h3 l3 m3
    have hs : Ext w4 w4.drew := Ext.drew _
    refine wp_region_held_drew (S := fun W => Ext w4 W) (by kernel_rfl) hs (fun _ => ?_)
    obtain ⟨X, hX⟩ : ∃ X, X = w4.drew := ⟨_, rfl⟩
    rw [← hX] at hs ⊢
    clear hX
    have hx := hs
    refine tkG 0 107 (.pointer (some ⟨w.heap.size, 0, none⟩)) hs ?_
    simp only [Act.put, tkA, tkB, tkC]
    refine tkY 1 108 (.int .i64 15) hs ?_ (y := fun W hW => by have c0 := (HC.out W (hx0.trans hW)).1; rw [HK.out] at c0; go_simp)
    simp only [Act.put, tkA, tkB, tkC]
    refine tkG 2 109 (.int .u8 15) hs ?_
    simp only [Act.put, tkA, tkB, tkC]
    refine tkG 4 111 (.slice (some ⟨w1.heap.size, 0, none⟩) 2 2) hs ?_
    simp only [Act.put, tkA, tkB, tkC]
    refine wpAnyH_ready (rs := [3, 5]) (by kernel_rfl) (by simp) (AllReadyH.cons rfl (fun K hK => ?_) (AllReadyH.cons rfl (fun K hK => ?_) (AllReadyH.nil)))
    · go_simp
      refine hK.out _ _ (hs.trans (Ext.alloc _ _)) (fun hs => ?_)
      clear hK K
      refine wpAnyH_ready (rs := [5]) (by kernel_rfl) (by simp) (AllReadyH.cons rfl (fun K hK => ?_) (AllReadyH.nil))
      go_simp
      go_at_call 93
      refine (rput_any (some ⟨w1.heap.size, 0, none⟩) 2 2 (numF Q) _ (HL.out _ (hy0.trans hs)) (by decide) hnum).mono ?_; rintro e Wc ⟨b7, d7, rfl, hq, y⟩
      go_wp2_with fail
      refine hK.out _ _ (hs.trans y) (fun hs => ?_)
      clear hK K
      refine wpAnyH_ready (rs := [6]) (by kernel_rfl) (by simp) (AllReadyH.cons rfl (fun K hK => ?_) (AllReadyH.nil))
      refine step_appendD rfl (.tmp 110) (.tmp 112) 48 rfl w4.heap.size 5 i8 (.int .u8 0) 1 Tryz.underlying48 hi8 hz80 hz81 hz82 rfl _ 1 [.int .u8 15] (by rfl) (own_ext (own_lit X 15 w4.heap.size hx.size) y) b7 (2 * 2) d7 _ (by rfl) hq (fun _ => rfl) (by unfold maxLen; omega) (by omega) (Nat.le_trans hx.size (by have := y.size; simp at this; omega)) 113 rfl ?_
      intro v7 w7 hown7 _ hb7
      have hs : Ext w4 w7 := Below.trans hs hb7
      refine hK.out _ _ hs (fun hs => ?_)
      clear hK K hb7
      simp only [Act.put, tkA, tkB, tkC]
      refine tkG 7 7 (v7) hs ?_
      simp only [Act.put, tkA, tkB, tkC]
      refine wpAnyH_done (by kernel_rfl) ?_ _
      clear hx
      go_wp2_with (first
        | (at_builtin; refine wpList_append_holds (mk := Value.int .u8) rfl (.tmp 114) (.tmp 115) 48 rfl w4.heap.size 5 i8 (.int .u8 0) 1 Tryz.underlying48 hi8 hz80 hz81 hz82 rfl v7 (1 + 2 * 2) ([Value.int .u8 15] ++ lstG (Value.int .u8) (putF (numF Q)) (2 * 2)) rfl hown7 b5 (1 + szN Q.nb) d5 (fun i => if i < 1 then (szN Q.nb : Int) else pkF Q.B Q.nb (i - 1)) rfl (h5.ext hs) (fun _ => rfl) (by unfold maxLen; omega) (by omega) hs.size ?_; intro v8 w8 hown8 _ hb8))
      have hl := say_list Q (fun i => if i < 1 then (szN Q.nb : Int) else pkF Q.B Q.nb (i - 1)) (1 + szN Q.nb) htn.symm (fun i _ => by rw [HT.out]; by_cases h0 : i = 0 <;> simp [h0])
      rw [HK.out, hnn] at hl
      have hsn : 1 + 2 * 2 + (1 + szN Q.nb) = sayN Q := by unfold sayN; rw [hnn, htn]
      rw [hl, hsn] at hown8
      obtain ⟨b8, d8, rfl, l8, m8, h8⟩ := HoldsG.of_own (mk := Value.int .u8) hown8
      have x8 : Ext w4 w8 := Below.trans hs hb8
      go_ret2
      exact ⟨b8, d8, rfl, l8, m8, h8, He.out.trans (hx0.trans x8)⟩
    · go_simp
      go_at_call 93
      refine (rput_any (some ⟨w1.heap.size, 0, none⟩) 2 2 (numF Q) _ (HL.out _ (hy0.trans hs)) (by decide) hnum).mono ?_; rintro e Wc ⟨b7, d7, rfl, hq, y⟩
      go_wp2_with fail
      refine hK.out _ _ (hs.trans y) (fun hs => ?_)
      clear hK K
      refine wpAnyH_ready (rs := [3]) (by kernel_rfl) (by simp) (AllReadyH.cons rfl (fun K hK => ?_) (AllReadyH.nil))
      go_simp
      refine hK.out _ _ (hs.trans (Ext.alloc _ _)) (fun hs => ?_)
      clear hK K
      refine wpAnyH_ready (rs := [6]) (by kernel_rfl) (by simp) (AllReadyH.cons rfl (fun K hK => ?_) (AllReadyH.nil))
      refine step_appendD rfl (.tmp 110) (.tmp 112) 48 rfl w4.heap.size 5 i8 (.int .u8 0) 1 Tryz.underlying48 hi8 hz80 hz81 hz82 rfl _ 1 [.int .u8 15] (by rfl) (own_lit Wc 15 w4.heap.size (Nat.le_trans hx.size y.size)) b7 (2 * 2) d7 _ (by rfl) (hq.ext (Ext.alloc Wc _)) (fun _ => rfl) (by unfold maxLen; omega) (by omega) (Nat.le_trans hx.size (by have := y.size; simp; omega)) 113 rfl ?_
      intro v7 w7 hown7 _ hb7
      have hs : Ext w4 w7 := Below.trans hs hb7
      refine hK.out _ _ hs (fun hs => ?_)
      clear hK K hb7
      simp only [Act.put, tkA, tkB, tkC]
      refine tkG 7 7 (v7) hs ?_
      simp only [Act.put, tkA, tkB, tkC]
      refine wpAnyH_done (by kernel_rfl) ?_ _
      clear hx
      go_wp2_with (first
        | (at_builtin; refine wpList_append_holds (mk := Value.int .u8) rfl (.tmp 114) (.tmp 115) 48 rfl w4.heap.size 5 i8 (.int .u8 0) 1 Tryz.underlying48 hi8 hz80 hz81 hz82 rfl v7 (1 + 2 * 2) ([Value.int .u8 15] ++ lstG (Value.int .u8) (putF (numF Q)) (2 * 2)) rfl hown7 b5 (1 + szN Q.nb) d5 (fun i => if i < 1 then (szN Q.nb : Int) else pkF Q.B Q.nb (i - 1)) rfl (h5.ext hs) (fun _ => rfl) (by unfold maxLen; omega) (by omega) hs.size ?_; intro v8 w8 hown8 _ hb8))
      have hl := say_list Q (fun i => if i < 1 then (szN Q.nb : Int) else pkF Q.B Q.nb (i - 1)) (1 + szN Q.nb) htn.symm (fun i _ => by rw [HT.out]; by_cases h0 : i = 0 <;> simp [h0])
      rw [HK.out, hnn] at hl
      have hsn : 1 + 2 * 2 + (1 + szN Q.nb) = sayN Q := by unfold sayN; rw [hnn, htn]
      rw [hl, hsn] at hown8
      obtain ⟨b8, d8, rfl, l8, m8, h8⟩ := HoldsG.of_own (mk := Value.int .u8) hown8
      have x8 : Ext w4 w8 := Below.trans hs hb8
      go_ret2
      exact ⟨b8, d8, rfl, l8, m8, h8, He.out.trans (hx0.trans x8)⟩
  · have HK := Lib.hid hk16
    have hnn : numN Q = 2 := numN_two (by omega) (by omega)
    have hnum : ∀ i, i < 2 → 0 ≤ numF Q i ∧ numF Q i < 65536 := fun i hi => hF i (by rw [hnn]; exact hi)
    obtain ⟨hn0, hn1⟩ := numF_ct (Q := Q) (by omega) (by omega) (by omega)
    have hwk : IntKind.u8.wrap 16 = 16 := by decide
    have hw0 : IntKind.u16.wrap Q.ad = Q.ad := w16 (by have := hnum 0 (by decide); rw [hn0] at this; omega)
    have hw1 : IntKind.u16.wrap Q.ct = Q.ct := w16 (by have := hnum 1 (by decide); rw [hn1] at this; omega)
    have hfit := fits_words (by omega) hfits
    have hwm : IntKind.i64.wrap (2 * Q.ct) = 2 * Q.ct := IntWalk.i64_in _ (by omega)
    have hwb : IntKind.u8.wrap (2 * Q.ct) = 2 * Q.ct := w8 (by omega)
    obtain ⟨htn, htf⟩ := tail_words (Q := Q) (by omega)
    clear hk16
    go_enter Tryz.func91, Tryz.ntmps91
    go_upto_region 1 with fail
    rw [← hW0]
    clear hW0
    have gA := HX.out W0 (Ext.refl _)
    go_wp2_with (first
      | (refine wpList_load_row rfl 31 (.tmp 1) rfl (w.heap.size) rfl 31 _ (0, 0) _ gA Tryz.underlying31 rfl (by kernel_rfl) ?_))
    refine (KR.out _ He.out).mono ?_; rintro e w1 ⟨rfl, x1⟩
    clear gA
    obtain ⟨c0, c1, c2, c3, c4, c5, c6, c7, c8, c9⟩ := HC.out _ x1
    rw [HK.out] at c0
    obtain ⟨W2, hW2, HL, x2⟩ : ∃ W2, W2 = w1.alloc (.cells #[.int .u16 Q.ad, .int .u16 Q.ct] 59) ∧ Hid (∀ W, Ext W2 W → HoldsG (Value.int .u16) W (some ⟨w1.heap.size, 0, none⟩) 2 (numF Q)) ∧ Ext w1 W2 :=
      ⟨_, rfl, Lib.hid fun W hx => (two_words w1 _ _ (numF Q) hn0 hn1).ext hx, Ext.alloc w1 _⟩
    go_wp2_with fail
    rw [← hW2]
    clear hW2
    have hx0 : Ext W0 W2 := x1.trans x2
    have HT := Lib.hid htf
    clear x1 x2 c0 c1 c2 c3 c4 c5 c6 c7 c8 c9 htf
    have hs : Ext W2 W2.drew := Ext.drew _
    refine wp_region_held_drew (S := fun W => Ext W2 W) (by kernel_rfl) hs (fun _ => ?_)
    obtain ⟨X, hX⟩ : ∃ X, X = W2.drew := ⟨_, rfl⟩
    rw [← hX] at hs ⊢
    clear hX
    have hx := hs
    refine tkG 0 62 (.pointer (some ⟨w.heap.size, 2, none⟩)) hs ?_
    simp only [Act.put, tkA, tkB, tkC]
    refine tkY 1 63 (.int .i64 Q.ct) hs ?_ (y := fun W hW => by obtain ⟨-, -, c2, -, -, -, -, -, -, c9⟩ := HC.out W (hx0.trans hW); go_simp)
    simp only [Act.put, tkA, tkB, tkC]
    refine tkG 2 64 (.int .i64 (2 * Q.ct)) hs ?_
    simp only [Act.put, tkA, tkB, tkC]
    refine tkG 3 65 (.int .u8 (2 * Q.ct)) hs ?_
    simp only [Act.put, tkA, tkB, tkC]
    refine tkG 5 67 (.pointer (some ⟨w.heap.size, 9, none⟩)) hs ?_
    simp only [Act.put, tkA, tkB, tkC]
    refine tkY 6 68 (.slice V.a2 Q.nr V.d2) hs ?_ (y := fun W hW => by obtain ⟨-, -, c2, -, -, -, -, -, -, c9⟩ := HC.out W (hx0.trans hW); go_simp)
    simp only [Act.put, tkA, tkB, tkC]
    refine wpAnyH_ready (rs := [4, 7]) (by kernel_rfl) (by simp) (AllReadyH.cons rfl (fun K hK => ?_) (AllReadyH.cons rfl (fun K hK => ?_) (AllReadyH.nil)))
    · go_simp
      refine hK.out _ _ (hs.trans (Ext.alloc _ _)) (fun hs => ?_)
      clear hK K
      refine wpAnyH_ready (rs := [7]) (by kernel_rfl) (by simp) (AllReadyH.cons rfl (fun K hK => ?_) (AllReadyH.nil))
      go_simp
      go_at_call 93
      refine (rput_any V.a2 Q.nr V.d2 Q.R _ (h.h2.ext (He.out.trans (hx0.trans hs))) n2 hR).mono ?_; rintro e Wc ⟨b5, d5, rfl, hq, y⟩
      go_wp2_with fail
      refine hK.out _ _ (hs.trans y) (fun hs => ?_)
      clear hK K
      refine wpAnyH_ready (rs := [8]) (by kernel_rfl) (by simp) (AllReadyH.cons rfl (fun K hK => ?_) (AllReadyH.nil))
      refine step_appendD rfl (.tmp 66) (.tmp 69) 48 rfl W2.heap.size 5 i8 (.int .u8 0) 1 Tryz.underlying48 hi8 hz80 hz81 hz82 rfl _ 1 [.int .u8 (2 * Q.ct)] (by rfl) (own_ext (own_lit X (2 * Q.ct) W2.heap.size hx.size) y) b5 (2 * Q.nr) d5 _ (by rfl) hq (fun _ => rfl) (by unfold maxLen; omega) (by omega) (Nat.le_trans hx.size (by have := y.size; simp at this; omega)) 70 rfl ?_
      intro v5 w5 hown5 _ hb5
      have hs : Ext W2 w5 := Below.trans hs hb5
      refine hK.out _ _ hs (fun hs => ?_)
      clear hK K hb5
      simp only [Act.put, tkA, tkB, tkC]
      refine tkG 9 5 (v5) hs ?_
      simp only [Act.put, tkA, tkB, tkC]
      refine wpAnyH_done (by kernel_rfl) ?_ _
      rw [lst_one (Value.int .u8) (2 * Q.ct), lstG_append] at hown5
      obtain ⟨b6, d6, rfl, l6, m6, h6⟩ := HoldsG.of_own (mk := Value.int .u8) hown5
      clear hown5 hx
      have hx1 : Ext W0 w5 := hx0.trans hs
      have hy0 := hs
      clear hs
      go_wp2_with fail
      have hs : Ext w5 w5.drew := Ext.drew _
      refine wp_region_held_drew (S := fun W => Ext w5 W) (by kernel_rfl) hs (fun _ => ?_)
      obtain ⟨X, hX⟩ : ∃ X, X = w5.drew := ⟨_, rfl⟩
      rw [← hX] at hs ⊢
      clear hX
      have hx := hs
      refine tkG 0 107 (.pointer (some ⟨w.heap.size, 0, none⟩)) hs ?_
      simp only [Act.put, tkA, tkB, tkC]
      refine tkY 1 108 (.int .i64 16) hs ?_ (y := fun W hW => by have c0 := (HC.out W (hx1.trans hW)).1; rw [HK.out] at c0; go_simp)
      simp only [Act.put, tkA, tkB, tkC]
      refine tkG 2 109 (.int .u8 16) hs ?_
      simp only [Act.put, tkA, tkB, tkC]
      refine tkG 4 111 (.slice (some ⟨w1.heap.size, 0, none⟩) 2 2) hs ?_
      simp only [Act.put, tkA, tkB, tkC]
      refine wpAnyH_ready (rs := [3, 5]) (by kernel_rfl) (by simp) (AllReadyH.cons rfl (fun K hK => ?_) (AllReadyH.cons rfl (fun K hK => ?_) (AllReadyH.nil)))
      · go_simp
        refine hK.out _ _ (hs.trans (Ext.alloc _ _)) (fun hs => ?_)
        clear hK K
        refine wpAnyH_ready (rs := [5]) (by kernel_rfl) (by simp) (AllReadyH.cons rfl (fun K hK => ?_) (AllReadyH.nil))
        go_simp
        go_at_call 93
        refine (rput_any (some ⟨w1.heap.size, 0, none⟩) 2 2 (numF Q) _ (HL.out _ (hy0.trans hs)) (by decide) hnum).mono ?_; rintro e Wc ⟨b7, d7, rfl, hq, y⟩
        go_wp2_with fail
        refine hK.out _ _ (hs.trans y) (fun hs => ?_)
        clear hK K
        refine wpAnyH_ready (rs := [6]) (by kernel_rfl) (by simp) (AllReadyH.cons rfl (fun K hK => ?_) (AllReadyH.nil))
        refine step_appendD rfl (.tmp 110) (.tmp 112) 48 rfl w5.heap.size 5 i8 (.int .u8 0) 1 Tryz.underlying48 hi8 hz80 hz81 hz82 rfl _ 1 [.int .u8 16] (by rfl) (own_ext (own_lit X 16 w5.heap.size hx.size) y) b7 (2 * 2) d7 _ (by rfl) hq (fun _ => rfl) (by unfold maxLen; omega) (by omega) (Nat.le_trans hx.size (by have := y.size; simp at this; omega)) 113 rfl ?_
        intro v7 w7 hown7 _ hb7
        have hs : Ext w5 w7 := Below.trans hs hb7
        refine hK.out _ _ hs (fun hs => ?_)
        clear hK K hb7
        simp only [Act.put, tkA, tkB, tkC]
        refine tkG 7 7 (v7) hs ?_
        simp only [Act.put, tkA, tkB, tkC]
        refine wpAnyH_done (by kernel_rfl) ?_ _
        clear hx
        go_wp2_with (first
          | (at_builtin; refine wpList_append_holds (mk := Value.int .u8) rfl (.tmp 114) (.tmp 115) 48 rfl w5.heap.size 5 i8 (.int .u8 0) 1 Tryz.underlying48 hi8 hz80 hz81 hz82 rfl v7 (1 + 2 * 2) ([Value.int .u8 16] ++ lstG (Value.int .u8) (putF (numF Q)) (2 * 2)) rfl hown7 b6 (1 + 2 * Q.nr) d6 (fun i => if i < 1 then 2 * Q.ct else putF Q.R (i - 1)) rfl (h6.ext hs) (fun _ => rfl) (by unfold maxLen; omega) (by omega) hs.size ?_; intro v8 w8 hown8 _ hb8))
        have hl := say_list Q (fun i => if i < 1 then 2 * Q.ct else putF Q.R (i - 1)) (1 + 2 * Q.nr) htn.symm (fun i _ => by rw [HT.out]; by_cases h0 : i = 0 <;> simp [h0])
        rw [HK.out, hnn] at hl
        have hsn : 1 + 2 * 2 + (1 + 2 * Q.nr) = sayN Q := by unfold sayN; rw [hnn, htn]
        rw [hl, hsn] at hown8
        obtain ⟨b8, d8, rfl, l8, m8, h8⟩ := HoldsG.of_own (mk := Value.int .u8) hown8
        have x8 : Ext w5 w8 := Below.trans hs hb8
        go_ret2
        exact ⟨b8, d8, rfl, l8, m8, h8, He.out.trans (hx1.trans x8)⟩
      · go_simp
        go_at_call 93
        refine (rput_any (some ⟨w1.heap.size, 0, none⟩) 2 2 (numF Q) _ (HL.out _ (hy0.trans hs)) (by decide) hnum).mono ?_; rintro e Wc ⟨b7, d7, rfl, hq, y⟩
        go_wp2_with fail
        refine hK.out _ _ (hs.trans y) (fun hs => ?_)
        clear hK K
        refine wpAnyH_ready (rs := [3]) (by kernel_rfl) (by simp) (AllReadyH.cons rfl (fun K hK => ?_) (AllReadyH.nil))
        go_simp
        refine hK.out _ _ (hs.trans (Ext.alloc _ _)) (fun hs => ?_)
        clear hK K
        refine wpAnyH_ready (rs := [6]) (by kernel_rfl) (by simp) (AllReadyH.cons rfl (fun K hK => ?_) (AllReadyH.nil))
        refine step_appendD rfl (.tmp 110) (.tmp 112) 48 rfl w5.heap.size 5 i8 (.int .u8 0) 1 Tryz.underlying48 hi8 hz80 hz81 hz82 rfl _ 1 [.int .u8 16] (by rfl) (own_lit Wc 16 w5.heap.size (Nat.le_trans hx.size y.size)) b7 (2 * 2) d7 _ (by rfl) (hq.ext (Ext.alloc Wc _)) (fun _ => rfl) (by unfold maxLen; omega) (by omega) (Nat.le_trans hx.size (by have := y.size; simp; omega)) 113 rfl ?_
        intro v7 w7 hown7 _ hb7
        have hs : Ext w5 w7 := Below.trans hs hb7
        refine hK.out _ _ hs (fun hs => ?_)
        clear hK K hb7
        simp only [Act.put, tkA, tkB, tkC]
        refine tkG 7 7 (v7) hs ?_
        simp only [Act.put, tkA, tkB, tkC]
        refine wpAnyH_done (by kernel_rfl) ?_ _
        clear hx
        go_wp2_with (first
          | (at_builtin; refine wpList_append_holds (mk := Value.int .u8) rfl (.tmp 114) (.tmp 115) 48 rfl w5.heap.size 5 i8 (.int .u8 0) 1 Tryz.underlying48 hi8 hz80 hz81 hz82 rfl v7 (1 + 2 * 2) ([Value.int .u8 16] ++ lstG (Value.int .u8) (putF (numF Q)) (2 * 2)) rfl hown7 b6 (1 + 2 * Q.nr) d6 (fun i => if i < 1 then 2 * Q.ct else putF Q.R (i - 1)) rfl (h6.ext hs) (fun _ => rfl) (by unfold maxLen; omega) (by omega) hs.size ?_; intro v8 w8 hown8 _ hb8))
        have hl := say_list Q (fun i => if i < 1 then 2 * Q.ct else putF Q.R (i - 1)) (1 + 2 * Q.nr) htn.symm (fun i _ => by rw [HT.out]; by_cases h0 : i = 0 <;> simp [h0])
        rw [HK.out, hnn] at hl
        have hsn : 1 + 2 * 2 + (1 + 2 * Q.nr) = sayN Q := by unfold sayN; rw [hnn, htn]
        rw [hl, hsn] at hown8
        obtain ⟨b8, d8, rfl, l8, m8, h8⟩ := HoldsG.of_own (mk := Value.int .u8) hown8
        have x8 : Ext w5 w8 := Below.trans hs hb8
        go_ret2
        exact ⟨b8, d8, rfl, l8, m8, h8, He.out.trans (hx1.trans x8)⟩
    · go_simp
      go_at_call 93
      refine (rput_any V.a2 Q.nr V.d2 Q.R _ (h.h2.ext (He.out.trans (hx0.trans hs))) n2 hR).mono ?_; rintro e Wc ⟨b5, d5, rfl, hq, y⟩
      go_wp2_with fail
      refine hK.out _ _ (hs.trans y) (fun hs => ?_)
      clear hK K
      refine wpAnyH_ready (rs := [4]) (by kernel_rfl) (by simp) (AllReadyH.cons rfl (fun K hK => ?_) (AllReadyH.nil))
      go_simp
      refine hK.out _ _ (hs.trans (Ext.alloc _ _)) (fun hs => ?_)
      clear hK K
      refine wpAnyH_ready (rs := [8]) (by kernel_rfl) (by simp) (AllReadyH.cons rfl (fun K hK => ?_) (AllReadyH.nil))
      refine step_appendD rfl (.tmp 66) (.tmp 69) 48 rfl W2.heap.size 5 i8 (.int .u8 0) 1 Tryz.underlying48 hi8 hz80 hz81 hz82 rfl _ 1 [.int .u8 (2 * Q.ct)] (by rfl) (own_lit Wc (2 * Q.ct) W2.heap.size (Nat.le_trans hx.size y.size)) b5 (2 * Q.nr) d5 _ (by rfl) (hq.ext (Ext.alloc Wc _)) (fun _ => rfl) (by unfold maxLen; omega) (by omega) (Nat.le_trans hx.size (by have := y.size; simp; omega)) 70 rfl ?_
      intro v5 w5 hown5 _ hb5
      have hs : Ext W2 w5 := Below.trans hs hb5
      refine hK.out _ _ hs (fun hs => ?_)
      clear hK K hb5
      simp only [Act.put, tkA, tkB, tkC]
      refine tkG 9 5 (v5) hs ?_
      simp only [Act.put, tkA, tkB, tkC]
      refine wpAnyH_done (by kernel_rfl) ?_ _
      rw [lst_one (Value.int .u8) (2 * Q.ct), lstG_append] at hown5
      obtain ⟨b6, d6, rfl, l6, m6, h6⟩ := HoldsG.of_own (mk := Value.int .u8) hown5
      clear hown5 hx
      have hx1 : Ext W0 w5 := hx0.trans hs
      have hy0 := hs
      clear hs
      go_wp2_with fail
      have hs : Ext w5 w5.drew := Ext.drew _
      refine wp_region_held_drew (S := fun W => Ext w5 W) (by kernel_rfl) hs (fun _ => ?_)
      obtain ⟨X, hX⟩ : ∃ X, X = w5.drew := ⟨_, rfl⟩
      rw [← hX] at hs ⊢
      clear hX
      have hx := hs
      refine tkG 0 107 (.pointer (some ⟨w.heap.size, 0, none⟩)) hs ?_
      simp only [Act.put, tkA, tkB, tkC]
      refine tkY 1 108 (.int .i64 16) hs ?_ (y := fun W hW => by have c0 := (HC.out W (hx1.trans hW)).1; rw [HK.out] at c0; go_simp)
      simp only [Act.put, tkA, tkB, tkC]
      refine tkG 2 109 (.int .u8 16) hs ?_
      simp only [Act.put, tkA, tkB, tkC]
      refine tkG 4 111 (.slice (some ⟨w1.heap.size, 0, none⟩) 2 2) hs ?_
      simp only [Act.put, tkA, tkB, tkC]
      refine wpAnyH_ready (rs := [3, 5]) (by kernel_rfl) (by simp) (AllReadyH.cons rfl (fun K hK => ?_) (AllReadyH.cons rfl (fun K hK => ?_) (AllReadyH.nil)))
      · go_simp
        refine hK.out _ _ (hs.trans (Ext.alloc _ _)) (fun hs => ?_)
        clear hK K
        refine wpAnyH_ready (rs := [5]) (by kernel_rfl) (by simp) (AllReadyH.cons rfl (fun K hK => ?_) (AllReadyH.nil))
        go_simp
        go_at_call 93
        refine (rput_any (some ⟨w1.heap.size, 0, none⟩) 2 2 (numF Q) _ (HL.out _ (hy0.trans hs)) (by decide) hnum).mono ?_; rintro e Wc ⟨b7, d7, rfl, hq, y⟩
        go_wp2_with fail
        refine hK.out _ _ (hs.trans y) (fun hs => ?_)
        clear hK K
        refine wpAnyH_ready (rs := [6]) (by kernel_rfl) (by simp) (AllReadyH.cons rfl (fun K hK => ?_) (AllReadyH.nil))
        refine step_appendD rfl (.tmp 110) (.tmp 112) 48 rfl w5.heap.size 5 i8 (.int .u8 0) 1 Tryz.underlying48 hi8 hz80 hz81 hz82 rfl _ 1 [.int .u8 16] (by rfl) (own_ext (own_lit X 16 w5.heap.size hx.size) y) b7 (2 * 2) d7 _ (by rfl) hq (fun _ => rfl) (by unfold maxLen; omega) (by omega) (Nat.le_trans hx.size (by have := y.size; simp at this; omega)) 113 rfl ?_
        intro v7 w7 hown7 _ hb7
        have hs : Ext w5 w7 := Below.trans hs hb7
        refine hK.out _ _ hs (fun hs => ?_)
        clear hK K hb7
        simp only [Act.put, tkA, tkB, tkC]
        refine tkG 7 7 (v7) hs ?_
        simp only [Act.put, tkA, tkB, tkC]
        refine wpAnyH_done (by kernel_rfl) ?_ _
        clear hx
        go_wp2_with (first
          | (at_builtin; refine wpList_append_holds (mk := Value.int .u8) rfl (.tmp 114) (.tmp 115) 48 rfl w5.heap.size 5 i8 (.int .u8 0) 1 Tryz.underlying48 hi8 hz80 hz81 hz82 rfl v7 (1 + 2 * 2) ([Value.int .u8 16] ++ lstG (Value.int .u8) (putF (numF Q)) (2 * 2)) rfl hown7 b6 (1 + 2 * Q.nr) d6 (fun i => if i < 1 then 2 * Q.ct else putF Q.R (i - 1)) rfl (h6.ext hs) (fun _ => rfl) (by unfold maxLen; omega) (by omega) hs.size ?_; intro v8 w8 hown8 _ hb8))
        have hl := say_list Q (fun i => if i < 1 then 2 * Q.ct else putF Q.R (i - 1)) (1 + 2 * Q.nr) htn.symm (fun i _ => by rw [HT.out]; by_cases h0 : i = 0 <;> simp [h0])
        rw [HK.out, hnn] at hl
        have hsn : 1 + 2 * 2 + (1 + 2 * Q.nr) = sayN Q := by unfold sayN; rw [hnn, htn]
        rw [hl, hsn] at hown8
        obtain ⟨b8, d8, rfl, l8, m8, h8⟩ := HoldsG.of_own (mk := Value.int .u8) hown8
        have x8 : Ext w5 w8 := Below.trans hs hb8
        go_ret2
        exact ⟨b8, d8, rfl, l8, m8, h8, He.out.trans (hx1.trans x8)⟩
      · go_simp
        go_at_call 93
        refine (rput_any (some ⟨w1.heap.size, 0, none⟩) 2 2 (numF Q) _ (HL.out _ (hy0.trans hs)) (by decide) hnum).mono ?_; rintro e Wc ⟨b7, d7, rfl, hq, y⟩
        go_wp2_with fail
        refine hK.out _ _ (hs.trans y) (fun hs => ?_)
        clear hK K
        refine wpAnyH_ready (rs := [3]) (by kernel_rfl) (by simp) (AllReadyH.cons rfl (fun K hK => ?_) (AllReadyH.nil))
        go_simp
        refine hK.out _ _ (hs.trans (Ext.alloc _ _)) (fun hs => ?_)
        clear hK K
        refine wpAnyH_ready (rs := [6]) (by kernel_rfl) (by simp) (AllReadyH.cons rfl (fun K hK => ?_) (AllReadyH.nil))
        refine step_appendD rfl (.tmp 110) (.tmp 112) 48 rfl w5.heap.size 5 i8 (.int .u8 0) 1 Tryz.underlying48 hi8 hz80 hz81 hz82 rfl _ 1 [.int .u8 16] (by rfl) (own_lit Wc 16 w5.heap.size (Nat.le_trans hx.size y.size)) b7 (2 * 2) d7 _ (by rfl) (hq.ext (Ext.alloc Wc _)) (fun _ => rfl) (by unfold maxLen; omega) (by omega) (Nat.le_trans hx.size (by have := y.size; simp; omega)) 113 rfl ?_
        intro v7 w7 hown7 _ hb7
        have hs : Ext w5 w7 := Below.trans hs hb7
        refine hK.out _ _ hs (fun hs => ?_)
        clear hK K hb7
        simp only [Act.put, tkA, tkB, tkC]
        refine tkG 7 7 (v7) hs ?_
        simp only [Act.put, tkA, tkB, tkC]
        refine wpAnyH_done (by kernel_rfl) ?_ _
        clear hx
        go_wp2_with (first
          | (at_builtin; refine wpList_append_holds (mk := Value.int .u8) rfl (.tmp 114) (.tmp 115) 48 rfl w5.heap.size 5 i8 (.int .u8 0) 1 Tryz.underlying48 hi8 hz80 hz81 hz82 rfl v7 (1 + 2 * 2) ([Value.int .u8 16] ++ lstG (Value.int .u8) (putF (numF Q)) (2 * 2)) rfl hown7 b6 (1 + 2 * Q.nr) d6 (fun i => if i < 1 then 2 * Q.ct else putF Q.R (i - 1)) rfl (h6.ext hs) (fun _ => rfl) (by unfold maxLen; omega) (by omega) hs.size ?_; intro v8 w8 hown8 _ hb8))
        have hl := say_list Q (fun i => if i < 1 then 2 * Q.ct else putF Q.R (i - 1)) (1 + 2 * Q.nr) htn.symm (fun i _ => by rw [HT.out]; by_cases h0 : i = 0 <;> simp [h0])
        rw [HK.out, hnn] at hl
        have hsn : 1 + 2 * 2 + (1 + 2 * Q.nr) = sayN Q := by unfold sayN; rw [hnn, htn]
        rw [hl, hsn] at hown8
        obtain ⟨b8, d8, rfl, l8, m8, h8⟩ := HoldsG.of_own (mk := Value.int .u8) hown8
        have x8 : Ext w5 w8 := Below.trans hs hb8
        go_ret2
        exact ⟨b8, d8, rfl, l8, m8, h8, He.out.trans (hx1.trans x8)⟩
  · have HK := Lib.hid hk22
    have hnn : numN Q = 3 := numN_three hk22
    have hnum : ∀ i, i < 3 → 0 ≤ numF Q i ∧ numF Q i < 65536 := fun i hi => hF i (by rw [hnn]; exact hi)
    obtain ⟨hn0, hn1, hn2⟩ := numF_an hk22
    have hwk : IntKind.u8.wrap 22 = 22 := by decide
    have hw0 : IntKind.u16.wrap Q.ad = Q.ad := w16 (by have := hnum 0 (by decide); rw [hn0] at this; omega)
    have hw1 : IntKind.u16.wrap Q.an = Q.an := w16 (by have := hnum 1 (by decide); rw [hn1] at this; omega)
    have hw2 : IntKind.u16.wrap Q.oo = Q.oo := w16 (by have := hnum 2 (by decide); rw [hn2] at this; omega)
    have htn := tail_none (Q := Q) (by omega) (by omega)
    clear hk22
    go_enter Tryz.func91, Tryz.ntmps91
    go_upto_region 1 with fail
    rw [← hW0]
    clear hW0
    have gA := HX.out W0 (Ext.refl _)
    go_wp2_with (first
      | (refine wpList_load_row rfl 31 (.tmp 1) rfl (w.heap.size) rfl 31 _ (0, 0) _ gA Tryz.underlying31 rfl (by kernel_rfl) ?_))
    refine (KR.out _ He.out).mono ?_; rintro e w1 ⟨rfl, x1⟩
    clear gA
    obtain ⟨c0, c1, c2, c3, c4, c5, c6, c7, c8, c9⟩ := HC.out _ x1
    rw [HK.out] at c0
    obtain ⟨W2, hW2, HL, x2⟩ : ∃ W2, W2 = w1.alloc (.cells #[.int .u16 Q.ad, .int .u16 Q.an, .int .u16 Q.oo] 59) ∧ Hid (∀ W, Ext W2 W → HoldsG (Value.int .u16) W (some ⟨w1.heap.size, 0, none⟩) 3 (numF Q)) ∧ Ext w1 W2 :=
      ⟨_, rfl, Lib.hid fun W hx => (three_words w1 _ _ _ (numF Q) hn0 hn1 hn2).ext hx, Ext.alloc w1 _⟩
    go_wp2_with fail
    rw [← hW2]
    clear hW2
    have hx0 : Ext W0 W2 := x1.trans x2
    clear x1 x2 c0 c1 c2 c3 c4 c5 c6 c7 c8 c9
    have hs : Ext W2 W2.drew := Ext.drew _
    refine wp_region_held_drew (S := fun W => Ext W2 W) (by kernel_rfl) hs (fun _ => ?_)
    obtain ⟨X, hX⟩ : ∃ X, X = W2.drew := ⟨_, rfl⟩
    rw [← hX] at hs ⊢
    clear hX
    have hx := hs
    refine tkG 0 107 (.pointer (some ⟨w.heap.size, 0, none⟩)) hs ?_
    simp only [Act.put, tkA, tkB, tkC]
    refine tkY 1 108 (.int .i64 22) hs ?_ (y := fun W hW => by have c0 := (HC.out W (hx0.trans hW)).1; rw [HK.out] at c0; go_simp)
    simp only [Act.put, tkA, tkB, tkC]
    refine tkG 2 109 (.int .u8 22) hs ?_
    simp only [Act.put, tkA, tkB, tkC]
    refine tkG 4 111 (.slice (some ⟨w1.heap.size, 0, none⟩) 3 3) hs ?_
    simp only [Act.put, tkA, tkB, tkC]
    refine wpAnyH_ready (rs := [3, 5]) (by kernel_rfl) (by simp) (AllReadyH.cons rfl (fun K hK => ?_) (AllReadyH.cons rfl (fun K hK => ?_) (AllReadyH.nil)))
    · go_simp
      refine hK.out _ _ (hs.trans (Ext.alloc _ _)) (fun hs => ?_)
      clear hK K
      refine wpAnyH_ready (rs := [5]) (by kernel_rfl) (by simp) (AllReadyH.cons rfl (fun K hK => ?_) (AllReadyH.nil))
      go_simp
      go_at_call 93
      refine (rput_any (some ⟨w1.heap.size, 0, none⟩) 3 3 (numF Q) _ (HL.out _ (hs)) (by decide) hnum).mono ?_; rintro e Wc ⟨b7, d7, rfl, hq, y⟩
      go_wp2_with fail
      refine hK.out _ _ (hs.trans y) (fun hs => ?_)
      clear hK K
      refine wpAnyH_ready (rs := [6]) (by kernel_rfl) (by simp) (AllReadyH.cons rfl (fun K hK => ?_) (AllReadyH.nil))
      refine step_appendD rfl (.tmp 110) (.tmp 112) 48 rfl W2.heap.size 5 i8 (.int .u8 0) 1 Tryz.underlying48 hi8 hz80 hz81 hz82 rfl _ 1 [.int .u8 22] (by rfl) (own_ext (own_lit X 22 W2.heap.size hx.size) y) b7 (2 * 3) d7 _ (by rfl) hq (fun _ => rfl) (by unfold maxLen; omega) (by omega) (Nat.le_trans hx.size (by have := y.size; simp at this; omega)) 113 rfl ?_
      intro v7 w7 hown7 _ hb7
      have hs : Ext W2 w7 := Below.trans hs hb7
      refine hK.out _ _ hs (fun hs => ?_)
      clear hK K hb7
      simp only [Act.put, tkA, tkB, tkC]
      refine tkG 7 7 (v7) hs ?_
      simp only [Act.put, tkA, tkB, tkC]
      refine wpAnyH_done (by kernel_rfl) ?_ _
      clear hx
      go_wp2_with (first
        | (at_builtin; refine wpList_append_holds (mk := Value.int .u8) rfl (.tmp 114) (.tmp 115) 48 rfl W2.heap.size 5 i8 (.int .u8 0) 1 Tryz.underlying48 hi8 hz80 hz81 hz82 rfl v7 (1 + 2 * 3) ([Value.int .u8 22] ++ lstG (Value.int .u8) (putF (numF Q)) (2 * 3)) rfl hown7 none 0 0 (tailF Q) rfl (.inl rfl) (fun _ => rfl) (by unfold maxLen; omega) (by omega) hs.size ?_; intro v8 w8 hown8 _ hb8))
      have hl := say_list Q (tailF Q) 0 htn.symm (fun i hi => absurd hi (Nat.not_lt_zero i))
      rw [HK.out, hnn] at hl
      have hsn : 1 + 2 * 3 + 0 = sayN Q := by unfold sayN; rw [hnn, htn]
      rw [hl, hsn] at hown8
      obtain ⟨b8, d8, rfl, l8, m8, h8⟩ := HoldsG.of_own (mk := Value.int .u8) hown8
      have x8 : Ext W2 w8 := Below.trans hs hb8
      go_ret2
      exact ⟨b8, d8, rfl, l8, m8, h8, He.out.trans (hx0.trans x8)⟩
    · go_simp
      go_at_call 93
      refine (rput_any (some ⟨w1.heap.size, 0, none⟩) 3 3 (numF Q) _ (HL.out _ (hs)) (by decide) hnum).mono ?_; rintro e Wc ⟨b7, d7, rfl, hq, y⟩
      go_wp2_with fail
      refine hK.out _ _ (hs.trans y) (fun hs => ?_)
      clear hK K
      refine wpAnyH_ready (rs := [3]) (by kernel_rfl) (by simp) (AllReadyH.cons rfl (fun K hK => ?_) (AllReadyH.nil))
      go_simp
      refine hK.out _ _ (hs.trans (Ext.alloc _ _)) (fun hs => ?_)
      clear hK K
      refine wpAnyH_ready (rs := [6]) (by kernel_rfl) (by simp) (AllReadyH.cons rfl (fun K hK => ?_) (AllReadyH.nil))
      refine step_appendD rfl (.tmp 110) (.tmp 112) 48 rfl W2.heap.size 5 i8 (.int .u8 0) 1 Tryz.underlying48 hi8 hz80 hz81 hz82 rfl _ 1 [.int .u8 22] (by rfl) (own_lit Wc 22 W2.heap.size (Nat.le_trans hx.size y.size)) b7 (2 * 3) d7 _ (by rfl) (hq.ext (Ext.alloc Wc _)) (fun _ => rfl) (by unfold maxLen; omega) (by omega) (Nat.le_trans hx.size (by have := y.size; simp; omega)) 113 rfl ?_
      intro v7 w7 hown7 _ hb7
      have hs : Ext W2 w7 := Below.trans hs hb7
      refine hK.out _ _ hs (fun hs => ?_)
      clear hK K hb7
      simp only [Act.put, tkA, tkB, tkC]
      refine tkG 7 7 (v7) hs ?_
      simp only [Act.put, tkA, tkB, tkC]
      refine wpAnyH_done (by kernel_rfl) ?_ _
      clear hx
      go_wp2_with (first
        | (at_builtin; refine wpList_append_holds (mk := Value.int .u8) rfl (.tmp 114) (.tmp 115) 48 rfl W2.heap.size 5 i8 (.int .u8 0) 1 Tryz.underlying48 hi8 hz80 hz81 hz82 rfl v7 (1 + 2 * 3) ([Value.int .u8 22] ++ lstG (Value.int .u8) (putF (numF Q)) (2 * 3)) rfl hown7 none 0 0 (tailF Q) rfl (.inl rfl) (fun _ => rfl) (by unfold maxLen; omega) (by omega) hs.size ?_; intro v8 w8 hown8 _ hb8))
      have hl := say_list Q (tailF Q) 0 htn.symm (fun i hi => absurd hi (Nat.not_lt_zero i))
      rw [HK.out, hnn] at hl
      have hsn : 1 + 2 * 3 + 0 = sayN Q := by unfold sayN; rw [hnn, htn]
      rw [hl, hsn] at hown8
      obtain ⟨b8, d8, rfl, l8, m8, h8⟩ := HoldsG.of_own (mk := Value.int .u8) hown8
      have x8 : Ext W2 w8 := Below.trans hs hb8
      go_ret2
      exact ⟨b8, d8, rfl, l8, m8, h8, He.out.trans (hx0.trans x8)⟩
  · have HK := Lib.hid hk23
    have hnn : numN Q = 4 := numN_four hk23
    have hnum : ∀ i, i < 4 → 0 ≤ numF Q i ∧ numF Q i < 65536 := fun i hi => hF i (by rw [hnn]; exact hi)
    obtain ⟨hn0, hn1, hn2, hn3⟩ := numF_fr hk23
    have hwk : IntKind.u8.wrap 23 = 23 := by decide
    have hw0 : IntKind.u16.wrap Q.fr = Q.fr := w16 (by have := hnum 0 (by decide); rw [hn0] at this; omega)
    have hw1 : IntKind.u16.wrap Q.mn = Q.mn := w16 (by have := hnum 1 (by decide); rw [hn1] at this; omega)
    have hw2 : IntKind.u16.wrap Q.ad = Q.ad := w16 (by have := hnum 2 (by decide); rw [hn2] at this; omega)
    have hw3 : IntKind.u16.wrap Q.ct = Q.ct := w16 (by have := hnum 3 (by decide); rw [hn3] at this; omega)
    have hfit := fits_words (by omega) hfits
    have hwm : IntKind.i64.wrap (2 * Q.ct) = 2 * Q.ct := IntWalk.i64_in _ (by omega)
    have hwb : IntKind.u8.wrap (2 * Q.ct) = 2 * Q.ct := w8 (by omega)
    obtain ⟨htn, htf⟩ := tail_words (Q := Q) (by omega)
    clear hk23
    go_enter Tryz.func91, Tryz.ntmps91
    go_upto_region 1 with fail
    rw [← hW0]
    clear hW0
    have gA := HX.out W0 (Ext.refl _)
    go_wp2_with (first
      | (refine wpList_load_row rfl 31 (.tmp 1) rfl (w.heap.size) rfl 31 _ (0, 0) _ gA Tryz.underlying31 rfl (by kernel_rfl) ?_))
    refine (KR.out _ He.out).mono ?_; rintro e w1 ⟨rfl, x1⟩
    clear gA
    obtain ⟨c0, c1, c2, c3, c4, c5, c6, c7, c8, c9⟩ := HC.out _ x1
    rw [HK.out] at c0
    obtain ⟨W2, hW2, HL, x2⟩ : ∃ W2, W2 = w1.alloc (.cells #[.int .u16 Q.fr, .int .u16 Q.mn, .int .u16 Q.ad, .int .u16 Q.ct] 59) ∧ Hid (∀ W, Ext W2 W → HoldsG (Value.int .u16) W (some ⟨w1.heap.size, 0, none⟩) 4 (numF Q)) ∧ Ext w1 W2 :=
      ⟨_, rfl, Lib.hid fun W hx => (four_words w1 _ _ _ _ (numF Q) hn0 hn1 hn2 hn3).ext hx, Ext.alloc w1 _⟩
    go_wp2_with fail
    rw [← hW2]
    clear hW2
    have hx0 : Ext W0 W2 := x1.trans x2
    have HT := Lib.hid htf
    clear x1 x2 c0 c1 c2 c3 c4 c5 c6 c7 c8 c9 htf
    have hs : Ext W2 W2.drew := Ext.drew _
    refine wp_region_held_drew (S := fun W => Ext W2 W) (by kernel_rfl) hs (fun _ => ?_)
    obtain ⟨X, hX⟩ : ∃ X, X = W2.drew := ⟨_, rfl⟩
    rw [← hX] at hs ⊢
    clear hX
    have hx := hs
    refine tkG 0 98 (.pointer (some ⟨w.heap.size, 2, none⟩)) hs ?_
    simp only [Act.put, tkA, tkB, tkC]
    refine tkY 1 99 (.int .i64 Q.ct) hs ?_ (y := fun W hW => by obtain ⟨-, -, c2, -, -, -, -, -, -, c9⟩ := HC.out W (hx0.trans hW); go_simp)
    simp only [Act.put, tkA, tkB, tkC]
    refine tkG 2 100 (.int .i64 (2 * Q.ct)) hs ?_
    simp only [Act.put, tkA, tkB, tkC]
    refine tkG 3 101 (.int .u8 (2 * Q.ct)) hs ?_
    simp only [Act.put, tkA, tkB, tkC]
    refine tkG 5 103 (.pointer (some ⟨w.heap.size, 9, none⟩)) hs ?_
    simp only [Act.put, tkA, tkB, tkC]
    refine tkY 6 104 (.slice V.a2 Q.nr V.d2) hs ?_ (y := fun W hW => by obtain ⟨-, -, c2, -, -, -, -, -, -, c9⟩ := HC.out W (hx0.trans hW); go_simp)
    simp only [Act.put, tkA, tkB, tkC]
    refine wpAnyH_ready (rs := [4, 7]) (by kernel_rfl) (by simp) (AllReadyH.cons rfl (fun K hK => ?_) (AllReadyH.cons rfl (fun K hK => ?_) (AllReadyH.nil)))
    · go_simp
      refine hK.out _ _ (hs.trans (Ext.alloc _ _)) (fun hs => ?_)
      clear hK K
      refine wpAnyH_ready (rs := [7]) (by kernel_rfl) (by simp) (AllReadyH.cons rfl (fun K hK => ?_) (AllReadyH.nil))
      go_simp
      go_at_call 93
      refine (rput_any V.a2 Q.nr V.d2 Q.R _ (h.h2.ext (He.out.trans (hx0.trans hs))) n2 hR).mono ?_; rintro e Wc ⟨b5, d5, rfl, hq, y⟩
      go_wp2_with fail
      refine hK.out _ _ (hs.trans y) (fun hs => ?_)
      clear hK K
      refine wpAnyH_ready (rs := [8]) (by kernel_rfl) (by simp) (AllReadyH.cons rfl (fun K hK => ?_) (AllReadyH.nil))
      refine step_appendD rfl (.tmp 102) (.tmp 105) 48 rfl W2.heap.size 5 i8 (.int .u8 0) 1 Tryz.underlying48 hi8 hz80 hz81 hz82 rfl _ 1 [.int .u8 (2 * Q.ct)] (by rfl) (own_ext (own_lit X (2 * Q.ct) W2.heap.size hx.size) y) b5 (2 * Q.nr) d5 _ (by rfl) hq (fun _ => rfl) (by unfold maxLen; omega) (by omega) (Nat.le_trans hx.size (by have := y.size; simp at this; omega)) 106 rfl ?_
      intro v5 w5 hown5 _ hb5
      have hs : Ext W2 w5 := Below.trans hs hb5
      refine hK.out _ _ hs (fun hs => ?_)
      clear hK K hb5
      simp only [Act.put, tkA, tkB, tkC]
      refine tkG 9 5 (v5) hs ?_
      simp only [Act.put, tkA, tkB, tkC]
      refine wpAnyH_done (by kernel_rfl) ?_ _
      rw [lst_one (Value.int .u8) (2 * Q.ct), lstG_append] at hown5
      obtain ⟨b6, d6, rfl, l6, m6, h6⟩ := HoldsG.of_own (mk := Value.int .u8) hown5
      clear hown5 hx
      have hx1 : Ext W0 w5 := hx0.trans hs
      have hy0 := hs
      clear hs
      go_wp2_with fail
      have hs : Ext w5 w5.drew := Ext.drew _
      refine wp_region_held_drew (S := fun W => Ext w5 W) (by kernel_rfl) hs (fun _ => ?_)
      obtain ⟨X, hX⟩ : ∃ X, X = w5.drew := ⟨_, rfl⟩
      rw [← hX] at hs ⊢
      clear hX
      have hx := hs
      refine tkG 0 107 (.pointer (some ⟨w.heap.size, 0, none⟩)) hs ?_
      simp only [Act.put, tkA, tkB, tkC]
      refine tkY 1 108 (.int .i64 23) hs ?_ (y := fun W hW => by have c0 := (HC.out W (hx1.trans hW)).1; rw [HK.out] at c0; go_simp)
      simp only [Act.put, tkA, tkB, tkC]
      refine tkG 2 109 (.int .u8 23) hs ?_
      simp only [Act.put, tkA, tkB, tkC]
      refine tkG 4 111 (.slice (some ⟨w1.heap.size, 0, none⟩) 4 4) hs ?_
      simp only [Act.put, tkA, tkB, tkC]
      refine wpAnyH_ready (rs := [3, 5]) (by kernel_rfl) (by simp) (AllReadyH.cons rfl (fun K hK => ?_) (AllReadyH.cons rfl (fun K hK => ?_) (AllReadyH.nil)))
      · go_simp
        refine hK.out _ _ (hs.trans (Ext.alloc _ _)) (fun hs => ?_)
        clear hK K
        refine wpAnyH_ready (rs := [5]) (by kernel_rfl) (by simp) (AllReadyH.cons rfl (fun K hK => ?_) (AllReadyH.nil))
        go_simp
        go_at_call 93
        refine (rput_any (some ⟨w1.heap.size, 0, none⟩) 4 4 (numF Q) _ (HL.out _ (hy0.trans hs)) (by decide) hnum).mono ?_; rintro e Wc ⟨b7, d7, rfl, hq, y⟩
        go_wp2_with fail
        refine hK.out _ _ (hs.trans y) (fun hs => ?_)
        clear hK K
        refine wpAnyH_ready (rs := [6]) (by kernel_rfl) (by simp) (AllReadyH.cons rfl (fun K hK => ?_) (AllReadyH.nil))
        refine step_appendD rfl (.tmp 110) (.tmp 112) 48 rfl w5.heap.size 5 i8 (.int .u8 0) 1 Tryz.underlying48 hi8 hz80 hz81 hz82 rfl _ 1 [.int .u8 23] (by rfl) (own_ext (own_lit X 23 w5.heap.size hx.size) y) b7 (2 * 4) d7 _ (by rfl) hq (fun _ => rfl) (by unfold maxLen; omega) (by omega) (Nat.le_trans hx.size (by have := y.size; simp at this; omega)) 113 rfl ?_
        intro v7 w7 hown7 _ hb7
        have hs : Ext w5 w7 := Below.trans hs hb7
        refine hK.out _ _ hs (fun hs => ?_)
        clear hK K hb7
        simp only [Act.put, tkA, tkB, tkC]
        refine tkG 7 7 (v7) hs ?_
        simp only [Act.put, tkA, tkB, tkC]
        refine wpAnyH_done (by kernel_rfl) ?_ _
        clear hx
        go_wp2_with (first
          | (at_builtin; refine wpList_append_holds (mk := Value.int .u8) rfl (.tmp 114) (.tmp 115) 48 rfl w5.heap.size 5 i8 (.int .u8 0) 1 Tryz.underlying48 hi8 hz80 hz81 hz82 rfl v7 (1 + 2 * 4) ([Value.int .u8 23] ++ lstG (Value.int .u8) (putF (numF Q)) (2 * 4)) rfl hown7 b6 (1 + 2 * Q.nr) d6 (fun i => if i < 1 then 2 * Q.ct else putF Q.R (i - 1)) rfl (h6.ext hs) (fun _ => rfl) (by unfold maxLen; omega) (by omega) hs.size ?_; intro v8 w8 hown8 _ hb8))
        have hl := say_list Q (fun i => if i < 1 then 2 * Q.ct else putF Q.R (i - 1)) (1 + 2 * Q.nr) htn.symm (fun i _ => by rw [HT.out]; by_cases h0 : i = 0 <;> simp [h0])
        rw [HK.out, hnn] at hl
        have hsn : 1 + 2 * 4 + (1 + 2 * Q.nr) = sayN Q := by unfold sayN; rw [hnn, htn]
        rw [hl, hsn] at hown8
        obtain ⟨b8, d8, rfl, l8, m8, h8⟩ := HoldsG.of_own (mk := Value.int .u8) hown8
        have x8 : Ext w5 w8 := Below.trans hs hb8
        go_ret2
        exact ⟨b8, d8, rfl, l8, m8, h8, He.out.trans (hx1.trans x8)⟩
      · go_simp
        go_at_call 93
        refine (rput_any (some ⟨w1.heap.size, 0, none⟩) 4 4 (numF Q) _ (HL.out _ (hy0.trans hs)) (by decide) hnum).mono ?_; rintro e Wc ⟨b7, d7, rfl, hq, y⟩
        go_wp2_with fail
        refine hK.out _ _ (hs.trans y) (fun hs => ?_)
        clear hK K
        refine wpAnyH_ready (rs := [3]) (by kernel_rfl) (by simp) (AllReadyH.cons rfl (fun K hK => ?_) (AllReadyH.nil))
        go_simp
        refine hK.out _ _ (hs.trans (Ext.alloc _ _)) (fun hs => ?_)
        clear hK K
        refine wpAnyH_ready (rs := [6]) (by kernel_rfl) (by simp) (AllReadyH.cons rfl (fun K hK => ?_) (AllReadyH.nil))
        refine step_appendD rfl (.tmp 110) (.tmp 112) 48 rfl w5.heap.size 5 i8 (.int .u8 0) 1 Tryz.underlying48 hi8 hz80 hz81 hz82 rfl _ 1 [.int .u8 23] (by rfl) (own_lit Wc 23 w5.heap.size (Nat.le_trans hx.size y.size)) b7 (2 * 4) d7 _ (by rfl) (hq.ext (Ext.alloc Wc _)) (fun _ => rfl) (by unfold maxLen; omega) (by omega) (Nat.le_trans hx.size (by have := y.size; simp; omega)) 113 rfl ?_
        intro v7 w7 hown7 _ hb7
        have hs : Ext w5 w7 := Below.trans hs hb7
        refine hK.out _ _ hs (fun hs => ?_)
        clear hK K hb7
        simp only [Act.put, tkA, tkB, tkC]
        refine tkG 7 7 (v7) hs ?_
        simp only [Act.put, tkA, tkB, tkC]
        refine wpAnyH_done (by kernel_rfl) ?_ _
        clear hx
        go_wp2_with (first
          | (at_builtin; refine wpList_append_holds (mk := Value.int .u8) rfl (.tmp 114) (.tmp 115) 48 rfl w5.heap.size 5 i8 (.int .u8 0) 1 Tryz.underlying48 hi8 hz80 hz81 hz82 rfl v7 (1 + 2 * 4) ([Value.int .u8 23] ++ lstG (Value.int .u8) (putF (numF Q)) (2 * 4)) rfl hown7 b6 (1 + 2 * Q.nr) d6 (fun i => if i < 1 then 2 * Q.ct else putF Q.R (i - 1)) rfl (h6.ext hs) (fun _ => rfl) (by unfold maxLen; omega) (by omega) hs.size ?_; intro v8 w8 hown8 _ hb8))
        have hl := say_list Q (fun i => if i < 1 then 2 * Q.ct else putF Q.R (i - 1)) (1 + 2 * Q.nr) htn.symm (fun i _ => by rw [HT.out]; by_cases h0 : i = 0 <;> simp [h0])
        rw [HK.out, hnn] at hl
        have hsn : 1 + 2 * 4 + (1 + 2 * Q.nr) = sayN Q := by unfold sayN; rw [hnn, htn]
        rw [hl, hsn] at hown8
        obtain ⟨b8, d8, rfl, l8, m8, h8⟩ := HoldsG.of_own (mk := Value.int .u8) hown8
        have x8 : Ext w5 w8 := Below.trans hs hb8
        go_ret2
        exact ⟨b8, d8, rfl, l8, m8, h8, He.out.trans (hx1.trans x8)⟩
    · go_simp
      go_at_call 93
      refine (rput_any V.a2 Q.nr V.d2 Q.R _ (h.h2.ext (He.out.trans (hx0.trans hs))) n2 hR).mono ?_; rintro e Wc ⟨b5, d5, rfl, hq, y⟩
      go_wp2_with fail
      refine hK.out _ _ (hs.trans y) (fun hs => ?_)
      clear hK K
      refine wpAnyH_ready (rs := [4]) (by kernel_rfl) (by simp) (AllReadyH.cons rfl (fun K hK => ?_) (AllReadyH.nil))
      go_simp
      refine hK.out _ _ (hs.trans (Ext.alloc _ _)) (fun hs => ?_)
      clear hK K
      refine wpAnyH_ready (rs := [8]) (by kernel_rfl) (by simp) (AllReadyH.cons rfl (fun K hK => ?_) (AllReadyH.nil))
      refine step_appendD rfl (.tmp 102) (.tmp 105) 48 rfl W2.heap.size 5 i8 (.int .u8 0) 1 Tryz.underlying48 hi8 hz80 hz81 hz82 rfl _ 1 [.int .u8 (2 * Q.ct)] (by rfl) (own_lit Wc (2 * Q.ct) W2.heap.size (Nat.le_trans hx.size y.size)) b5 (2 * Q.nr) d5 _ (by rfl) (hq.ext (Ext.alloc Wc _)) (fun _ => rfl) (by unfold maxLen; omega) (by omega) (Nat.le_trans hx.size (by have := y.size; simp; omega)) 106 rfl ?_
      intro v5 w5 hown5 _ hb5
      have hs : Ext W2 w5 := Below.trans hs hb5
      refine hK.out _ _ hs (fun hs => ?_)
      clear hK K hb5
      simp only [Act.put, tkA, tkB, tkC]
      refine tkG 9 5 (v5) hs ?_
      simp only [Act.put, tkA, tkB, tkC]
      refine wpAnyH_done (by kernel_rfl) ?_ _
      rw [lst_one (Value.int .u8) (2 * Q.ct), lstG_append] at hown5
      obtain ⟨b6, d6, rfl, l6, m6, h6⟩ := HoldsG.of_own (mk := Value.int .u8) hown5
      clear hown5 hx
      have hx1 : Ext W0 w5 := hx0.trans hs
      have hy0 := hs
      clear hs
      go_wp2_with fail
      have hs : Ext w5 w5.drew := Ext.drew _
      refine wp_region_held_drew (S := fun W => Ext w5 W) (by kernel_rfl) hs (fun _ => ?_)
      obtain ⟨X, hX⟩ : ∃ X, X = w5.drew := ⟨_, rfl⟩
      rw [← hX] at hs ⊢
      clear hX
      have hx := hs
      refine tkG 0 107 (.pointer (some ⟨w.heap.size, 0, none⟩)) hs ?_
      simp only [Act.put, tkA, tkB, tkC]
      refine tkY 1 108 (.int .i64 23) hs ?_ (y := fun W hW => by have c0 := (HC.out W (hx1.trans hW)).1; rw [HK.out] at c0; go_simp)
      simp only [Act.put, tkA, tkB, tkC]
      refine tkG 2 109 (.int .u8 23) hs ?_
      simp only [Act.put, tkA, tkB, tkC]
      refine tkG 4 111 (.slice (some ⟨w1.heap.size, 0, none⟩) 4 4) hs ?_
      simp only [Act.put, tkA, tkB, tkC]
      refine wpAnyH_ready (rs := [3, 5]) (by kernel_rfl) (by simp) (AllReadyH.cons rfl (fun K hK => ?_) (AllReadyH.cons rfl (fun K hK => ?_) (AllReadyH.nil)))
      · go_simp
        refine hK.out _ _ (hs.trans (Ext.alloc _ _)) (fun hs => ?_)
        clear hK K
        refine wpAnyH_ready (rs := [5]) (by kernel_rfl) (by simp) (AllReadyH.cons rfl (fun K hK => ?_) (AllReadyH.nil))
        go_simp
        go_at_call 93
        refine (rput_any (some ⟨w1.heap.size, 0, none⟩) 4 4 (numF Q) _ (HL.out _ (hy0.trans hs)) (by decide) hnum).mono ?_; rintro e Wc ⟨b7, d7, rfl, hq, y⟩
        go_wp2_with fail
        refine hK.out _ _ (hs.trans y) (fun hs => ?_)
        clear hK K
        refine wpAnyH_ready (rs := [6]) (by kernel_rfl) (by simp) (AllReadyH.cons rfl (fun K hK => ?_) (AllReadyH.nil))
        refine step_appendD rfl (.tmp 110) (.tmp 112) 48 rfl w5.heap.size 5 i8 (.int .u8 0) 1 Tryz.underlying48 hi8 hz80 hz81 hz82 rfl _ 1 [.int .u8 23] (by rfl) (own_ext (own_lit X 23 w5.heap.size hx.size) y) b7 (2 * 4) d7 _ (by rfl) hq (fun _ => rfl) (by unfold maxLen; omega) (by omega) (Nat.le_trans hx.size (by have := y.size; simp at this; omega)) 113 rfl ?_
        intro v7 w7 hown7 _ hb7
        have hs : Ext w5 w7 := Below.trans hs hb7
        refine hK.out _ _ hs (fun hs => ?_)
        clear hK K hb7
        simp only [Act.put, tkA, tkB, tkC]
        refine tkG 7 7 (v7) hs ?_
        simp only [Act.put, tkA, tkB, tkC]
        refine wpAnyH_done (by kernel_rfl) ?_ _
        clear hx
        go_wp2_with (first
          | (at_builtin; refine wpList_append_holds (mk := Value.int .u8) rfl (.tmp 114) (.tmp 115) 48 rfl w5.heap.size 5 i8 (.int .u8 0) 1 Tryz.underlying48 hi8 hz80 hz81 hz82 rfl v7 (1 + 2 * 4) ([Value.int .u8 23] ++ lstG (Value.int .u8) (putF (numF Q)) (2 * 4)) rfl hown7 b6 (1 + 2 * Q.nr) d6 (fun i => if i < 1 then 2 * Q.ct else putF Q.R (i - 1)) rfl (h6.ext hs) (fun _ => rfl) (by unfold maxLen; omega) (by omega) hs.size ?_; intro v8 w8 hown8 _ hb8))
        have hl := say_list Q (fun i => if i < 1 then 2 * Q.ct else putF Q.R (i - 1)) (1 + 2 * Q.nr) htn.symm (fun i _ => by rw [HT.out]; by_cases h0 : i = 0 <;> simp [h0])
        rw [HK.out, hnn] at hl
        have hsn : 1 + 2 * 4 + (1 + 2 * Q.nr) = sayN Q := by unfold sayN; rw [hnn, htn]
        rw [hl, hsn] at hown8
        obtain ⟨b8, d8, rfl, l8, m8, h8⟩ := HoldsG.of_own (mk := Value.int .u8) hown8
        have x8 : Ext w5 w8 := Below.trans hs hb8
        go_ret2
        exact ⟨b8, d8, rfl, l8, m8, h8, He.out.trans (hx1.trans x8)⟩
      · go_simp
        go_at_call 93
        refine (rput_any (some ⟨w1.heap.size, 0, none⟩) 4 4 (numF Q) _ (HL.out _ (hy0.trans hs)) (by decide) hnum).mono ?_; rintro e Wc ⟨b7, d7, rfl, hq, y⟩
        go_wp2_with fail
        refine hK.out _ _ (hs.trans y) (fun hs => ?_)
        clear hK K
        refine wpAnyH_ready (rs := [3]) (by kernel_rfl) (by simp) (AllReadyH.cons rfl (fun K hK => ?_) (AllReadyH.nil))
        go_simp
        refine hK.out _ _ (hs.trans (Ext.alloc _ _)) (fun hs => ?_)
        clear hK K
        refine wpAnyH_ready (rs := [6]) (by kernel_rfl) (by simp) (AllReadyH.cons rfl (fun K hK => ?_) (AllReadyH.nil))
        refine step_appendD rfl (.tmp 110) (.tmp 112) 48 rfl w5.heap.size 5 i8 (.int .u8 0) 1 Tryz.underlying48 hi8 hz80 hz81 hz82 rfl _ 1 [.int .u8 23] (by rfl) (own_lit Wc 23 w5.heap.size (Nat.le_trans hx.size y.size)) b7 (2 * 4) d7 _ (by rfl) (hq.ext (Ext.alloc Wc _)) (fun _ => rfl) (by unfold maxLen; omega) (by omega) (Nat.le_trans hx.size (by have := y.size; simp; omega)) 113 rfl ?_
        intro v7 w7 hown7 _ hb7
        have hs : Ext w5 w7 := Below.trans hs hb7
        refine hK.out _ _ hs (fun hs => ?_)
        clear hK K hb7
        simp only [Act.put, tkA, tkB, tkC]
        refine tkG 7 7 (v7) hs ?_
        simp only [Act.put, tkA, tkB, tkC]
        refine wpAnyH_done (by kernel_rfl) ?_ _
        clear hx
        go_wp2_with (first
          | (at_builtin; refine wpList_append_holds (mk := Value.int .u8) rfl (.tmp 114) (.tmp 115) 48 rfl w5.heap.size 5 i8 (.int .u8 0) 1 Tryz.underlying48 hi8 hz80 hz81 hz82 rfl v7 (1 + 2 * 4) ([Value.int .u8 23] ++ lstG (Value.int .u8) (putF (numF Q)) (2 * 4)) rfl hown7 b6 (1 + 2 * Q.nr) d6 (fun i => if i < 1 then 2 * Q.ct else putF Q.R (i - 1)) rfl (h6.ext hs) (fun _ => rfl) (by unfold maxLen; omega) (by omega) hs.size ?_; intro v8 w8 hown8 _ hb8))
        have hl := say_list Q (fun i => if i < 1 then 2 * Q.ct else putF Q.R (i - 1)) (1 + 2 * Q.nr) htn.symm (fun i _ => by rw [HT.out]; by_cases h0 : i = 0 <;> simp [h0])
        rw [HK.out, hnn] at hl
        have hsn : 1 + 2 * 4 + (1 + 2 * Q.nr) = sayN Q := by unfold sayN; rw [hnn, htn]
        rw [hl, hsn] at hown8
        obtain ⟨b8, d8, rfl, l8, m8, h8⟩ := HoldsG.of_own (mk := Value.int .u8) hown8
        have x8 : Ext w5 w8 := Below.trans hs hb8
        go_ret2
        exact ⟨b8, d8, rfl, l8, m8, h8, He.out.trans (hx1.trans x8)⟩
end Go.Proofs.YtlafnobjfajamaaGreat
