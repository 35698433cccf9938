/-
  CONTRACTS: package ask (layer 15): Print.
-/
import Derived.Test.YtokfgdjkafiicaaAskE
import Derived.Test.YtokfgdjkafiicaaAskP
import Derived.Test.YtokfgdjkafiicaaAskT
namespace Go.Proofs.Ytokfgdjkafiicaa
open Go.RowKit
set_option linter.unusedVariables false
set_option maxRecDepth 100000

/-- append onto what the call owns, told of what it owns then. -/
theorem wpList_append_holdsO {P : Program} {w : World} {α : Type} {mk : α → Value} {ops : Array Oper} {rest : List Oper} {o : Oper} {a : Act} {Q : Exit → Act → World → Prop} (hgd : o.guard = none) (s x : Operand) (t : TypeId)
    (ho : o.op = .call { callee := .builtin .append, args := #[s, x], argTypes := #[t, t] })
    (base : Nat) (e : TypeId) (i : TypeInfo) (z : Value) (bytes : Nat) (ht : P.underlying t = some (.slice e)) (hi : P.info? e = some i) (hz : i.zero = some z)
    (hsize : i.size = 1) (hby : i.bytes = bytes) (hzs : z.cells.size = 1)
    (v : Value) (n : Nat) (xs : List Value) (hs : a.eval s = v) (hown : w.ownsRow base e 1 v n xs)
    (A : Option Addr) (m c : Nat) (f : Nat → α) (hx : a.eval x = .slice A m c) (hh : HoldsG mk w A m f) (h1 : ∀ u, (mk u).oneCell' = true)
    (h63 : n + m ≤ maxLen) (hbytes : (n + m) * bytes ≤ 140737488355328) (hbase : base ≤ w.heap.size)
    (h : ∀ v' w', w'.ownsRow base e 1 v' (n + m) (xs ++ lstG mk f m) → w.grownBy w' v.ownBlock → (∀ q, v'.ownBlock = some q → v.ownBlock = some q ∨ q = w.heap.size) → wpList P ops Q rest (a.put o.dst v') w') : wpList P ops Q (o :: rest) a w := by
  by_cases hm : m = 0
  · subst hm
    refine wpList_append_zero hgd s x t ho base e i 1 ht hi v n xs hs hown A c hx (h v w (by simpa [lstG] using hown) (World.grownBy.refl w _) (fun q hq => .inl hq))
  · obtain ⟨b, off, rfl, hlt, hc⟩ := hh.resolve_left hm
    refine wpList_append_lies w hgd s x t ho base e i z 1 bytes ht hi hz hsize hby hzs (by omega) v n xs hs hown ⟨b, off, none⟩ m c (lstG mk f m) hx (by rw [lstG_length]; omega) ?_ ?_ (by omega) h63 hbytes hbase w.heap.size rfl ?_
    · intro j u hu
      have hj : j < m := by
        rcases Nat.lt_or_ge j m with h | h
        · exact h
        · rw [List.getElem?_eq_none (by rw [lstG_length]; omega)] at hu; cases hu
      rw [lstG_get _ _ _ _ hj] at hu
      have e1 : (⟨b, off, none⟩ : Addr).add j = ⟨b, off + j, none⟩ := by unfold Addr.add; split <;> simp_all
      rw [e1, hc j hj]; exact hu
    · intro u hu
      simp only [lstG, List.mem_map] at hu
      obtain ⟨k, _, rfl⟩ := hu
      exact h1 _
    · intro g cap w' h2 h3 h4 _
      refine h _ _ h2 h3 fun q hq => ?_
      have : q = g := by simpa [Value.ownBlock] using hq.symm
      rw [this]; exact h4
/-- Two lists of bytes, one behind the other. -/
def catF (n1 : Nat) (f g : Nat → Int) : Nat → Int := fun i => if i < n1 then f i else g (i - n1)
theorem concat_two (W : World) (p1 p2 : Option Addr) (n1 q1 n2 q2 : Nat) (f g : Nat → Int) (h1 : Holds .u8 W p1 n1 f) (h2 : Holds .u8 W p2 n2 g) (hs : n1 + n2 ≤ 1000000) :
    Calls Try.prog 22 #[.slice (some ⟨W.heap.size, 0, none⟩) 2 2] (W.alloc (.cells #[.slice p1 n1 q1, .slice p2 n2 q2] 28)) fun e w' =>
      ∃ b q, e = .returned (.slice b (n1 + n2) q) ∧ n1 + n2 ≤ q ∧ q ≤ maxLen ∧ HoldsG (Value.int .u8) w' b (n1 + n2) (catF n1 f g) ∧ Fresh W b ∧ Ext (W.alloc (.cells #[.slice p1 n1 q1, .slice p2 n2 q2] 28)) w' := by
  have x := Ext.alloc W (.cells #[.slice p1 n1 q1, .slice p2 n2 q2] 28)
  let P : Nat → Option Addr × Nat × Nat := fun i => if i = 0 then (p1, n1, q1) else (p2, n2, q2)
  let G : Nat → Nat → Int := fun i => if i = 0 then f else g
  have hA : HoldsG mkS (W.alloc (.cells #[.slice p1 n1 q1, .slice p2 n2 q2] 28)) (some ⟨W.heap.size, 0, none⟩) 2 P :=
    HoldsG.new _ _ _ 2 _ (fun i hi => by
      have h : i = 0 ∨ i = 1 := by omega
      rcases h with rfl | rfl <;> rfl)
  have hh : ∀ i, i < 2 → Holds .u8 (W.alloc (.cells #[.slice p1 n1 q1, .slice p2 n2 q2] 28)) (P i).1 (P i).2.1 (G i) := fun i hi => by
    have h : i = 0 ∨ i = 1 := by omega
    rcases h with rfl | rfl
    · exact h1.ext x
    · exact h2.ext x
  have hsum : sumC P 2 = n1 + n2 := by show 0 + n1 + n2 = n1 + n2; omega
  have hcat : catC P G 2 = lstG (Value.int .u8) (catF n1 f g) (n1 + n2) := by
    show ([] ++ lstG (Value.int .u8) f n1) ++ lstG (Value.int .u8) g n2 = _
    rw [List.nil_append, lstG_append]; rfl
  refine (concat_any _ 2 2 P G _ hA (by omega) (by rw [hsum]; exact hs) hh).mono ?_
  rintro e w' ⟨v, rfl, hown, y⟩
  rw [hsum, hcat] at hown
  obtain ⟨b, q, rfl, l, m, h⟩ := HoldsG.of_own (mk := Value.int .u8) hown
  exact ⟨b, q, rfl, l, m, h, fun p hp => by subst hp; exact Nat.le_trans x.size (hown.lt p.block rfl).1, y⟩
/-- What is told of an ask by package ask. -/
def PrA (Q : Qst) (w : World) (e : Ending) (w' : World) : Prop :=
  ∃ b q, e = .returned (.tuple #[.slice b (prN Q) q, .int .i64 (prE Q)]) ∧ prN Q ≤ q ∧ q ≤ maxLen ∧ HoldsG (Value.int .u8) w' b (prN Q) (sayF Q) ∧ Ext w w'
/-- The rest of what is said, as package ask puts it together. -/
theorem tail_cat {Q : Qst} (h : rightQ Q = true) : (tailN Q = if szN Q.nb + 2 * Q.nr = 0 then 0 else 1 + (szN Q.nb + 2 * Q.nr)) ∧ szN Q.nb + 2 * Q.nr ≤ 246 ∧ (∀ j, j < tailN Q → tailF Q j = if j < 1 then ((szN Q.nb + 2 * Q.nr : Nat) : Int) else catF (szN Q.nb) (pkF Q.B Q.nb) (putF Q.R) (j - 1)) := by
  obtain ⟨hkn, ho, -, hf⟩ := (rightQ_iff Q).1 h
  have hk := (known_iff Q.k).1 hkn
  have hz : szN 0 = 0 := by unfold szN; rfl
  by_cases h15 : Q.k = 15
  · obtain ⟨hb, hn⟩ := fits_bits h15 hf
    obtain ⟨t1, t2⟩ := tail_bits h15
    have hr : Q.nr = 0 := (ho.2.2.1 h15).2.2.2.2.2
    have hp : 1 ≤ szN Q.nb ∧ szN Q.nb ≤ 246 := by unfold szN; omega
    rw [hr]
    refine ⟨by rw [t1, if_neg (by omega)]; omega, by omega, fun j hj => ?_⟩
    rw [t2]
    by_cases hj0 : j = 0
    · rw [if_pos hj0, if_pos (by omega)]; simp
    · rw [if_neg hj0, if_neg (by omega)]
      unfold catF
      rw [if_pos (by omega)]
  by_cases h16 : Q.k = 16 ∨ Q.k = 23
  · obtain ⟨hb, hn⟩ := fits_words h16 hf
    obtain ⟨t1, t2⟩ := tail_words h16
    have hr : Q.nb = 0 := by
      rcases h16 with h | h
      · exact (ho.2.2.2.1 h).2.2.2.2.2
      · exact (ho.2.2.2.2.2 h).2.2.2
    rw [hr, hz]
    refine ⟨by rw [t1, if_neg (by omega)]; omega, by omega, fun j hj => ?_⟩
    rw [t2]
    by_cases hj0 : j = 0
    · rw [if_pos hj0, if_pos (by omega)]; omega
    · rw [if_neg hj0, if_neg (by omega)]
      unfold catF
      rw [if_neg (by omega), Nat.sub_zero]
  · have t := tail_none h15 h16
    have hb : Q.nb = 0 ∧ Q.nr = 0 := by
      obtain ⟨o1, o2, o3, o4, o5, o6⟩ := ho
      by_cases a1 : Q.k = 1 ∨ Q.k = 2 ∨ Q.k = 3 ∨ Q.k = 4
      · exact ⟨(o1 a1).2.2.2.2.2.1, (o1 a1).2.2.2.2.2.2⟩
      by_cases a2 : Q.k = 5 ∨ Q.k = 6
      · exact ⟨(o2 a2).2.2.2.2.2.1, (o2 a2).2.2.2.2.2.2⟩
      · have := o5 (by omega)
        exact ⟨this.2.2.2.2.1, this.2.2.2.2.2⟩
    rw [hb.1, hb.2, hz, t]
    exact ⟨rfl, by omega, fun j hj => absurd hj (by omega)⟩
theorem say_more {Q : Qst} {i : Nat} (hi : i < numN Q) : lstG (Value.int .u8) (sayF Q) (1 + 2 * i) ++ lstG (Value.int .u8) (putF (fun _ => numF Q i)) (2 * 1) = lstG (Value.int .u8) (sayF Q) (1 + 2 * (i + 1)) := by
  rw [lstG_append, show 1 + 2 * i + 2 * 1 = 1 + 2 * (i + 1) by omega]
  unfold lstG
  refine List.map_congr_left fun j hj => ?_
  have hj := List.mem_range.1 hj
  dsimp only
  by_cases h0 : j < 1 + 2 * i
  · rw [if_pos h0]
  · rw [if_neg h0]
    unfold sayF
    rw [if_neg (by omega), if_pos (by omega)]
    have h : j = 1 + 2 * i ∨ j = 1 + 2 * i + 1 := by omega
    rcases h with rfl | rfl
    · rw [show 1 + 2 * i - (1 + 2 * i) = 2 * 0 by omega, show 1 + 2 * i - 1 = 2 * i by omega, putF_even, putF_even]
    · rw [show 1 + 2 * i + 1 - (1 + 2 * i) = 2 * 0 + 1 by omega, show 1 + 2 * i + 1 - 1 = 2 * i + 1 by omega, putF_odd, putF_odd]
theorem say_end {Q : Qst} (h : rightQ Q = true) : (szN Q.nb + 2 * Q.nr = 0 → sayN Q = 1 + 2 * numN Q) ∧
    (szN Q.nb + 2 * Q.nr ≠ 0 → sayN Q = 1 + 2 * numN Q + 1 + (szN Q.nb + 2 * Q.nr) ∧
      lstG (Value.int .u8) (sayF Q) (1 + 2 * numN Q) ++ lstG (Value.int .u8) (fun _ => ((szN Q.nb + 2 * Q.nr : Nat) : Int)) 1 ++ lstG (Value.int .u8) (catF (szN Q.nb) (pkF Q.B Q.nb) (putF Q.R)) (szN Q.nb + 2 * Q.nr) = lstG (Value.int .u8) (sayF Q) (sayN Q)) := by
  obtain ⟨h1, h2, h3⟩ := tail_cat h
  generalize szN Q.nb + 2 * Q.nr = T at *
  constructor
  · intro h0
    unfold sayN
    rw [h1, if_pos h0]
    exact Nat.add_zero _
  · intro h0
    rw [if_neg h0] at h1
    have hn : sayN Q = 1 + 2 * numN Q + 1 + T := by unfold sayN; rw [h1]; omega
    refine ⟨hn, ?_⟩
    rw [lstG_append, lstG_append, hn]
    unfold lstG
    refine List.map_congr_left fun j hj => ?_
    have hj := List.mem_range.1 hj
    dsimp only
    by_cases a1 : j < 1 + 2 * numN Q
    · rw [if_pos (by omega), if_pos a1]
    · have e : sayF Q j = tailF Q (j - (1 + 2 * numN Q)) := by unfold sayF; rw [if_neg (by omega), if_neg a1]
      rw [e, h3 _ (by rw [h1]; omega)]
      by_cases a2 : j < 1 + 2 * numN Q + 1
      · rw [if_pos a2, if_neg a1, if_pos (by omega)]
      · rw [if_neg a2, if_neg (by omega), show j - (1 + 2 * numN Q) - 1 = j - (1 + 2 * numN Q + 1) by omega]
theorem FieS.grown {w0 wr wr' : World} {b off g : Nat} {V : QstV} {k : Int} {T : Qst} {row : Option Nat} (h : FieS w0 wr b off g V k T) (hg : wr.grownBy wr' row) (hr : ∀ q, row = some q → w0.heap.size ≤ q ∧ q ≠ g ∧ q ≠ b) : FieS w0 wr' b off g V k T := by
  have hk : Keep (fun i => row = some i) wr wr' := ⟨hg.os, hg.tape, hg.output, hg.size, fun k hk hn => hg.block k hk (fun e => hn e.symm)⟩
  exact ⟨Below.trans h.x (hk.below h.x.size fun i hi => (hr i hi).1), h.lo, (hg.block _ (heap_lt h.at_) (fun e => (hr _ e.symm).2.1 rfl)).trans h.at_, h.fl.keep hk (fun e => (hr _ e).2.2 rfl), h.ne⟩
set_option maxHeartbeats 2000000 in
theorem aprint_no (V : QstV) (Q : Qst) (w : World) (h : QstAt w V Q) (n1 : Q.nb ≤ 1000000) (n2 : Q.nr ≤ 1000000) (hr : rightQ Q = false) : Calls Try.prog 8 #[.agg (qstC V Q)] w (PrA Q w) := by
  have KR := Lib.hid (fun w' (x : Ext w w') => aright_v hr w' (h.ext x) n1 n2)
  unfold PrA
  rw [show prE Q = 11 from by unfold prE; rw [hr]; rfl, show prN Q = 0 from by unfold prN; rw [hr]; rfl]
  clear h n1 n2 hr
  obtain ⟨W0, hW0, HX, He⟩ : ∃ W0, W0 = w.alloc (.cells (qstC V Q) 25) ∧ Hid (∀ W, Ext W0 W → W.heap[w.heap.size]? = some (.cells (qstC V Q) 25 (0, 0))) ∧ Hid (Ext w W0) := ⟨_, rfl, Lib.hid fun W hx => hx.block (heap_alloc_new w _), Lib.hid (Ext.alloc w _)⟩
  go_enter Try.func8, Try.ntmps8
  go_upto_region 1 with fail
  rw [← hW0]
  clear hW0
  have gA := HX.out W0 (Ext.refl _)
  go_wp2_with (first
    | (refine wpList_load_row rfl 25 (.tmp 1) rfl (w.heap.size) rfl 25 _ (0, 0) _ gA Try.underlying25 rfl (by kernel_rfl) ?_))
  refine (KR.out _ He.out).mono ?_; rintro e w1 ⟨rfl, x1⟩
  clear gA
  go_wp2
  go_ret2
  exact ⟨none, 0, rfl, Nat.le_refl _, by decide, .inl rfl, He.out.trans x1⟩
set_option maxHeartbeats 8000000 in
theorem aprint_yes (V : QstV) (Q : Qst) (w : World) (h : QstAt w V Q) (n1 : Q.nb ≤ 1000000) (n2 : Q.nr ≤ 1000000) (hR : ∀ i, i < Q.nr → 0 ≤ Q.R i ∧ Q.R i < 65536) (hr : rightQ Q = true) : Calls Try.prog 8 #[.agg (qstC V Q)] w (PrA Q w) := by
  have KR := Lib.hid (fun w' (x : Ext w w') => aright_v hr w' (h.ext x) n1 n2)
  have HF := Lib.hid (numF_bd hr)
  have HTn := Lib.hid (tail_cat hr)
  have HSe := Lib.hid (say_end hr)
  have HSz := Lib.hid (say_size hr)
  have hkn := ((rightQ_iff Q).1 hr).1
  have HK := Lib.hid hkn
  have hkk := (known_iff Q.k).1 hkn
  have hkb : IntKind.u8.wrap Q.k = Q.k := w8 (by omega)
  obtain ⟨i8, hi8, hz80, hz81, hz82⟩ := info_parts Try.info8
  unfold PrA
  rw [show prE Q = 0 from by unfold prE; rw [hr]; rfl, show prN Q = sayN Q from by unfold prN; rw [hr]; rfl]
  obtain ⟨W0, hW0, HX, He⟩ : ∃ W0, W0 = w.alloc (.cells (qstC V Q) 25) ∧ Hid (∀ W, Ext W0 W → W.heap[w.heap.size]? = some (.cells (qstC V Q) 25 (0, 0))) ∧ Hid (Ext w W0) := ⟨_, rfl, Lib.hid fun W hx => hx.block (heap_alloc_new w _), Lib.hid (Ext.alloc w _)⟩
  have HK0 := Lib.hid (fun W (x : Ext W0 W) => (show W.cell? ⟨w.heap.size, 0, none⟩ = some (.int .i64 Q.k) from cell_of_heap (HX.out W x) rfl))
  have KPk := Lib.hid (fun W (x : Ext w W) => pack_any V.a1 Q.nb V.d1 Q.B W (h.h1.ext x) n1 h.l1 h.m1)
  have KWp := Lib.hid (fun W (x : Ext w W) => wput_any V.a2 Q.nr V.d2 Q.R W (h.h2.ext x) n2 hR)
  have hlo : w.heap.size < W0.heap.size := by rw [hW0]; simp
  clear h n1 n2 hr hkn hkk hR
  go_enter Try.func8, Try.ntmps8
  go_upto_region 1 with fail
  rw [← hW0]
  clear hW0
  have gA := HX.out W0 (Ext.refl _)
  go_wp2_with (first
    | (refine wpList_load_row rfl 25 (.tmp 1) rfl (w.heap.size) rfl 25 _ (0, 0) _ gA Try.underlying25 rfl (by kernel_rfl) ?_))
  refine (KR.out _ He.out).mono ?_; rintro e w1 ⟨rfl, x1⟩
  clear gA KR
  have hrow := HX.out _ x1
  obtain ⟨W3, hW3, x3, g3⟩ : ∃ W, W = ((w1.alloc (.cells #[.int .i64 0, .int .i64 0, .int .i64 0, .int .i64 0, .int .i64 0, .int .i64 0, .int .i64 0, .int .i64 0, .slice none 0 0, .slice none 0 0] 44)).setRow w1.heap.size (qstC V Q)) ∧ Ext w1 W ∧ W.heap[w1.heap.size]? = some (.cells (qstC V Q) 44 (0, 0)) := ⟨_, rfl, asked_row _ _ _ _⟩
  go_upto_region 4 with (first
    | (refine wpList_load_row rfl 25 (.tmp 1) rfl w.heap.size rfl 25 _ (0, 0) _ hrow Try.underlying25 rfl (by kernel_rfl) ?_)
    | (refine wpList_store_row rfl 44 (.tmp 4) (.tmp 12) rfl _ _ rfl rfl 44 _ (heap_new_at _ _ (by first | rfl | simp)) (by kernel_rfl) rfl (by simp [qstC, Value.oneCell']) ?_))
  rw [← hW3]
  clear hW3 hrow
  have c0 := HK0.out _ (x1.trans x3)
  go_upto_region 5 with fail
  obtain ⟨W4, hW4, x4, hown4⟩ : ∃ W, W = W3.alloc (.cells #[.int .u8 Q.k] 5) ∧ Ext W3 W ∧ W.ownsRow W0.heap.size 5 1 (.slice (some ⟨W3.heap.size, 0, none⟩) 1 1) (1 + 2 * 0) (lstG (Value.int .u8) (sayF Q) (1 + 2 * 0)) :=
    ⟨_, rfl, Ext.alloc _ _, own_lit W3 Q.k W0.heap.size (Nat.le_trans x1.size x3.size)⟩
  rw [← hW4]
  clear hW4 c0
  have c0 := HK0.out _ ((x1.trans x3).trans x4)
  go_wp2_with fail
  refine (fieldsOf_yes _ HK.out _).mono ?_; rintro e w5 ⟨F, rfl, hF, hw5⟩
  rw [hw5]
  have hen := hF.enters
  have HFr := Lib.hid hF.tells
  clear hw5 hF c0 w5
  go_wp2_with fail
  refine (HFr.out w1.heap.size _).mono ?_; rintro e w5 ⟨b, off, rfl, hf5, hb5, x5⟩
  have hglt : w1.heap.size < W3.heap.size := heap_lt g3
  have hS : FieS W0 w5 b off w1.heap.size V Q.k Q := ⟨((x1.trans x3).trans x4).trans x5, x1.size, (x4.trans x5).block g3, hf5, by have := x4.size; omega⟩
  have hown5 := own_ext hown4 x5
  have hoff : ∀ q, (Value.slice (some ⟨W3.heap.size, 0, none⟩) 1 1).ownBlock = some q → W0.heap.size ≤ q ∧ q ≠ w1.heap.size ∧ q ≠ b := fun q hq => by
    have : q = W3.heap.size := by simpa [Value.ownBlock] using hq.symm
    have h1 := x1.size
    have h3 := x3.size
    have h4 : W3.heap.size < W4.heap.size := by
      rcases hown4.2 with h | ⟨g, cap, cur, hv, -, hg, -⟩
      · cases h.1
      · cases hv; exact heap_lt hg
    omega
  have hnn := fldN_bd Q.k
  have HRN0 : fldN Q.k = numN Q := fldN_eq Q
  obtain ⟨n, hn⟩ : ∃ n, n = fldN Q.k := ⟨_, rfl⟩
  have HRN : Hid (n = numN Q) := Lib.hid (hn.trans HRN0)
  have HNq := Lib.hid hn
  rw [← hn] at hnn ⊢
  have HSn := Lib.hid hS
  have HO := Lib.hid hown5
  have HOff := Lib.hid hoff
  clear hf5 hb5 x5 g3 hglt x3 HFr hen HRN0 hn hS hown5 hown4 hoff x4 x1
  go_wp2_with fail
  go_loopw [22, 5] (fun iv sv wr => ∃ i : Nat, i ≤ n ∧ iv = .int .i64 i ∧ FieS W0 wr b off w1.heap.size V Q.k Q ∧ wr.ownsRow W0.heap.size 5 1 sv (1 + 2 * i) (lstG (Value.int .u8) (sayF Q) (1 + 2 * i)) ∧ ∀ q, sv.ownBlock = some q → W0.heap.size ≤ q ∧ q ≠ w1.heap.size ∧ q ≠ b) (fun iv _ _ => n - (intOf iv).toNat)
  case atStart => exact ⟨0, Nat.zero_le _, rfl, HSn.out, HO.out, HOff.out⟩
  case round =>
    clear HSn HO HOff
    obtain ⟨i, hi, rfl, hT, hown, hoff⟩ := hrel
    have HT := Lib.hid hT
    have HOw := Lib.hid hown
    have HOff := Lib.hid hoff
    clear hT hown hoff
    by_cases hlt : i < n
    · have hi' : i < fldN Q.k := by rw [← HNq.out]; exact hlt
      have hiq : i < numN Q := by rw [← HRN.out]; exact hlt
      have a0 := HT.out.fl.at0 i hi'
      have a1 := HT.out.fl.at1 i hi'
      have a2 := HT.out.fl.at2 i hi'
      have a3 := HT.out.fl.at3 i hi'
      have ob := fldO_bd Q.k i
      have hcell : wr.cell? ⟨w1.heap.size, fldO Q.k i, none⟩ = some (.int .i64 (numF Q i)) := by
        rw [cell_of_row _ _ _ _ _ _ HT.out.at_, getQ_cell V _ ob.1 ob.2, fld_num]
      have hgl := heap_lt HT.out.at_
      have hltI : (i : Int) < n := by omega
      have hbd := HF.out i hiq
      have hwn : IntKind.u16.wrap (numF Q i) = numF Q i := w16 (by omega)
      have HSay := Lib.hid (say_more hiq)
      obtain ⟨W6, hW6, y6, g6⟩ : ∃ W, W = ((wr.alloc (.cells #[.pointer none, .int .i64 0, .int .i64 0, .int .i64 0] 51)).setRow wr.heap.size #[.pointer (some ⟨w1.heap.size, fldO Q.k i, none⟩), .int .i64 (fldL Q.k i), .int .i64 (fldH Q.k i), .int .i64 (fldT Q.k i)]) ∧ Ext wr W ∧ W.heap[wr.heap.size]? = some (.cells #[.pointer (some ⟨w1.heap.size, fldO Q.k i, none⟩), .int .i64 (fldL Q.k i), .int .i64 (fldH Q.k i), .int .i64 (fldT Q.k i)] 51 (0, 0)) := ⟨_, rfl, asked_row _ _ _ _⟩
      go_upto_region 8 with (first
        | (refine wpList_store_row rfl 51 (.tmp 7) (.tmp 25) rfl _ _ rfl rfl 51 _ (heap_new_at _ _ (by first | rfl | simp)) (by kernel_rfl) rfl (by simp [Value.oneCell']) ?_))
      rw [← hW6]
      clear hW6 a0 a1 a2 a3
      have c5 : W6.cell? ⟨wr.heap.size, 0, none⟩ = some (.pointer (some ⟨w1.heap.size, fldO Q.k i, none⟩)) := cell_of_heap g6 rfl
      have c6 := y6.cell hgl hcell
      clear hcell g6
      go_wp2_with fail
      refine (wput_any (some ⟨W6.heap.size, 0, none⟩) 1 1 (fun _ => numF Q i) _ (one_held (cell_of_heap (heap_alloc_new W6 _) rfl)) (by omega) (fun _ _ => hbd)).mono ?_; rintro e w8 ⟨pb, pd, rfl, hp, x8⟩
      have y8 : Ext wr w8 := y6.trans ((Ext.alloc W6 _).trans x8)
      have hown8 := own_ext HOw.out y8
      have hsz8 : W0.heap.size ≤ w8.heap.size := Nat.le_trans HT.out.x.size y8.size
      have HT8 := Lib.hid (HT.out.ext y8)
      clear x8 c5 c6
      go_wp2_with (first
        | (at_builtin; refine wpList_append_holdsO (mk := Value.int .u8) rfl (.tmp 26) (.tmp 33) 28 rfl W0.heap.size 5 i8 (.int .u8 0) 1 Try.underlying28 hi8 hz80 hz81 hz82 rfl _ (1 + 2 * i) _ rfl hown8 pb (2 * 1) pd (putF (fun _ => numF Q i)) rfl hp (fun _ => rfl) (by unfold maxLen; omega) (by omega) hsz8 ?_; intro v9 w9 hown9 hgr9 hob9))
      go_roundw
      case rel =>
        rw [HSay.out] at hown9
        refine ⟨i + 1, by omega, by go_num, HT8.out.grown hgr9 HOff.out, hown9, fun q hq => ?_⟩
        rcases hob9 q hq with h | h
        · exact HOff.out q h
        · have z1 := heap_lt HT8.out.at_
          have z2 := HT8.out.fl.lt
          have z3 := hsz8
          omega
      case measure => simp [intOf]; omega
    · obtain rfl : i = n := by omega
      have x9 := Lib.hid HT.out.x
      have hown := HOw.out
      rw [HRN.out] at hown
      have HOw := Lib.hid hown
      clear hown HT HOff
      go_wp2_with fail
      obtain ⟨X, hX⟩ : ∃ X, X = wr.drew := ⟨_, rfl⟩
      have x10 : Ext wr X := by rw [hX]; exact Ext.drew _
      have hs := Ext.refl X
      refine wp_region_held_drew (S := fun W => Ext X W) (by kernel_rfl) (by rw [← hX]; exact hs) (fun _ => ?_)
      rw [← hX]
      clear hX
      have HC := Lib.hid (fun W (hx : Ext X W) => (⟨cell_of_heap (HX.out W ((x9.out.trans x10).trans hx)) rfl, cell_of_heap (HX.out W ((x9.out.trans x10).trans hx)) rfl⟩ : W.cell? ⟨w.heap.size, 8, none⟩ = some (.slice V.a1 Q.nb V.d1) ∧ W.cell? ⟨w.heap.size, 9, none⟩ = some (.slice V.a2 Q.nr V.d2)))
      have KP := Lib.hid (fun W (hx : Ext X W) => KPk.out W (He.out.trans ((x9.out.trans x10).trans hx)))
      have KW := Lib.hid (fun W (hx : Ext X W) => KWp.out W (He.out.trans ((x9.out.trans x10).trans hx)))
      refine wpAnyH_takeD (i := 0) (d := 36) (v := .pointer (some ⟨w.heap.size, 8, none⟩)) rfl rfl (by kernel_rfl) (by kernel_rfl) (by kernel_rfl) (fun _ _ _ h => h) (Or.inl ⟨by rfl, fun W hW => by go_simp⟩) hs ?_
      simp only [Act.put, List.setIfInBounds_toArray, List.set_cons_succ, List.set_cons_zero]
      refine wpAnyH_takeD (i := 1) (d := 37) (v := .slice V.a1 Q.nb V.d1) rfl rfl (by kernel_rfl) (by kernel_rfl) (by kernel_rfl) (fun _ _ _ h => h) (Or.inl ⟨by rfl, fun W hW => by obtain ⟨c8, c9⟩ := HC.out W hW; go_simp⟩) hs ?_
      simp only [Act.put, List.setIfInBounds_toArray, List.set_cons_succ, List.set_cons_zero]
      refine wpAnyH_takeD (i := 3) (d := 39) (v := .pointer (some ⟨w.heap.size, 9, none⟩)) rfl rfl (by kernel_rfl) (by kernel_rfl) (by kernel_rfl) (fun _ _ _ h => h) (Or.inl ⟨by rfl, fun W hW => by go_simp⟩) hs ?_
      simp only [Act.put, List.setIfInBounds_toArray, List.set_cons_succ, List.set_cons_zero]
      refine wpAnyH_takeD (i := 4) (d := 40) (v := .slice V.a2 Q.nr V.d2) rfl rfl (by kernel_rfl) (by kernel_rfl) (by kernel_rfl) (fun _ _ _ h => h) (Or.inl ⟨by rfl, fun W hW => by obtain ⟨c8, c9⟩ := HC.out W hW; go_simp⟩) hs ?_
      simp only [Act.put, List.setIfInBounds_toArray, List.set_cons_succ, List.set_cons_zero]
      refine wpAnyH_ready (rs := [2]) (by kernel_rfl) (by simp) (AllReadyH.cons rfl (fun K hK => ?_) AllReadyH.nil)
      go_simp
      go_at_call 23
      refine (KP.out _ hs).mono ?_; rintro e Wc ⟨p1, q1, rfl, -, -, h1, y⟩
      go_wp2_with fail
      refine hK.out _ _ (hs.trans y) (fun hs => ?_)
      clear hK K y
      refine wpAnyH_ready (rs := [5]) (by kernel_rfl) (by simp) (AllReadyH.cons rfl (fun K hK => ?_) AllReadyH.nil)
      go_simp
      go_at_call 21
      have H1 := Lib.hid (fun W (x : Ext Wc W) => h1.ext x)
      refine (KW.out _ hs).mono ?_; rintro e Wx ⟨p2, q2, rfl, h2, y⟩
      go_wp2_with fail
      have h1x := H1.out _ y
      have hXx := (hs.trans y).size
      refine hK.out _ _ (hs.trans y) (fun hs => ?_)
      clear hK K y H1
      refine wpAnyH_ready (rs := [6]) (by kernel_rfl) (by simp) (AllReadyH.cons rfl (fun K hK => ?_) AllReadyH.nil)
      go_simp
      refine hK.out _ _ (hs.trans (Ext.alloc _ _)) (fun hs => ?_)
      clear hK K
      refine wpAnyH_ready (rs := [7]) (by kernel_rfl) (by simp) (AllReadyH.cons rfl (fun K hK => ?_) AllReadyH.nil)
      go_simp
      go_at_call 22
      refine (concat_two Wx p1 p2 (szN Q.nb) q1 (2 * Q.nr) q2 (pkF Q.B Q.nb) (putF Q.R) h1x h2 (by have := HTn.out.2.1; omega)).mono ?_; rintro e Wc ⟨p3, q3, rfl, m1, m2, h3, f3, y⟩
      go_wp2_with fail
      refine hK.out _ _ (hs.trans y) (fun hs => ?_)
      clear hK K y
      refine wpAnyH_takeD (i := 8) (d := 8) (v := .slice p3 (szN Q.nb + 2 * Q.nr) q3) rfl rfl (by kernel_rfl) (by kernel_rfl) (by kernel_rfl) (fun _ _ _ h => h) (Or.inl ⟨by rfl, fun W hW => by go_simp⟩) hs ?_
      simp only [Act.put, List.setIfInBounds_toArray, List.set_cons_succ, List.set_cons_zero]
      refine wpAnyH_done (by kernel_rfl) ?_ _
      have hown := own_ext HOw.out (x10.trans hs)
      have xf := (x9.out.trans x10).trans hs
      have hsz : W0.heap.size ≤ Wc.heap.size := xf.size
      have hT2 := HTn.out.2.1
      obtain ⟨S1, S2⟩ := HSe.out
      have hnm := numN_le Q
      clear KP KW HC HTn HSe h1x h2
      generalize hTT : szN Q.nb + 2 * Q.nr = T at *
      generalize hCC : catF (szN Q.nb) (pkF Q.B Q.nb) (putF Q.R) = cf at *
      by_cases hT0 : T = 0
      · have hsn := Lib.hid (S1 hT0)
        subst hT0
        clear S1 S2
        go_wp2_with (first
          | (at_builtin; refine wpList_append_holds (mk := Value.int .u8) rfl (.tmp 53) (.tmp 54) 28 rfl W0.heap.size 5 i8 (.int .u8 0) 1 Try.underlying28 hi8 hz80 hz81 hz82 rfl _ (1 + 2 * numN Q) _ rfl hown p3 0 q3 cf rfl h3 (fun _ => rfl) (by unfold maxLen; omega) (by omega) hsz ?_; intro v9 w9 hown9 _ hb9))
        rw [show lstG (Value.int .u8) (sayF Q) (1 + 2 * numN Q) ++ lstG (Value.int .u8) cf 0 = lstG (Value.int .u8) (sayF Q) (sayN Q) from by rw [hsn.out]; simp [lstG], show 1 + 2 * numN Q + 0 = sayN Q from by rw [hsn.out]; exact Nat.add_zero _] at hown9
        obtain ⟨b8, d8, rfl, l8, m8, h8⟩ := HoldsG.of_own (mk := Value.int .u8) hown9
        go_ret2
        exact ⟨b8, d8, rfl, l8, m8, h8, He.out.trans (Below.trans xf hb9)⟩
      · obtain ⟨s2, s3⟩ := S2 hT0
        have HS3 := Lib.hid (And.intro s2 s3)
        have hTI : (0 : Int) < T := by omega
        have hwT : IntKind.u8.wrap (T : Int) = T := w8 (by omega)
        have hlit := Ext.alloc Wc (.cells #[.int .u8 (T : Int)] 5)
        clear S1 S2 s2 s3
        go_upto_region 13 with (first
          | (at_builtin; refine wpList_append_holdsO (mk := Value.int .u8) rfl (.tmp 47) (.tmp 51) 28 rfl W0.heap.size 5 i8 (.int .u8 0) 1 Try.underlying28 hi8 hz80 hz81 hz82 rfl _ (1 + 2 * numN Q) _ rfl (own_ext hown hlit) (some ⟨Wc.heap.size, 0, none⟩) 1 1 (fun _ => (T : Int)) rfl (one_held (cell_of_heap (heap_alloc_new Wc _) rfl)) (fun _ => rfl) (by unfold maxLen; omega) (by omega) (Nat.le_trans hsz hlit.size) ?_; intro v9 w9 hown9 hgr9 _))
        have hob := fun q hq => (HOw.out.lt q hq)
        have hb9 : Below W0.heap.size (Wc.alloc (.cells #[.int .u8 (T : Int)] 5)) w9 := (Below.refl _ _).grown hgr9 (Nat.le_trans hsz hlit.size) (fun q hq => (hob q hq).1)
        have h9 : HoldsG (Value.int .u8) w9 p3 T cf := (h3.ext hlit).keep (F := fun i => u5.ownBlock = some i) ⟨hgr9.os, hgr9.tape, hgr9.output, hgr9.size, fun k hk hn => hgr9.block k hk (fun e => hn e.symm)⟩ (fun p hp hq => by
          have z1 := f3 p hp
          have z2 := (hob _ hq).2
          have z3 := x10.size
          omega)
        have hsz9 : W0.heap.size ≤ w9.heap.size := Nat.le_trans (Nat.le_trans hsz hlit.size) hb9.size
        clear h3
        go_wp2_with (first
          | (at_builtin; refine wpList_append_holds (mk := Value.int .u8) rfl (.tmp 53) (.tmp 54) 28 rfl W0.heap.size 5 i8 (.int .u8 0) 1 Try.underlying28 hi8 hz80 hz81 hz82 rfl _ (1 + 2 * numN Q + 1) _ rfl hown9 p3 T q3 cf rfl h9 (fun _ => rfl) (by unfold maxLen; omega) (by omega) hsz9 ?_; intro vA wA hownA _ hbA))
        rw [HS3.out.2, ← HS3.out.1] at hownA
        obtain ⟨b8, d8, rfl, l8, m8, h8⟩ := HoldsG.of_own (mk := Value.int .u8) hownA
        go_ret2
        exact ⟨b8, d8, rfl, l8, m8, h8, He.out.trans (Below.trans (Below.trans (xf.trans hlit) hb9) hbA)⟩
theorem aprint_any (V : QstV) (Q : Qst) (w : World) (h : QstAt w V Q) (n1 : Q.nb ≤ 1000000) (n2 : Q.nr ≤ 1000000) (hR : ∀ i, i < Q.nr → 0 ≤ Q.R i ∧ Q.R i < 65536) : Calls Try.prog 8 #[.agg (qstC V Q)] w (PrA Q w) := by
  cases hr : rightQ Q with
  | true => exact aprint_yes V Q w h n1 n2 hR hr
  | false => exact aprint_no V Q w h n1 n2 hr
end Go.Proofs.Ytokfgdjkafiicaa
