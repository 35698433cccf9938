/-
  CONTRACTS: package ask (layer 15): Print.
-/
import Derived.Test.YtejiafihiielgaaAskE
import Derived.Test.YtejiafihiielgaaAskP
import Derived.Test.YtejiafihiielgaaAskT
namespace Go.Proofs.Ytejiafihiielgaa
open Go.RowKit
set_option linter.unusedVariables false
set_option maxRecDepth 100000

/-- append onto what the call owns, told of what it owns then. -/
theorem wpList_append_holdsO {P : Program} {w : World} {α : Type} {mk : α → Value} {ops : Array Oper} {rest : List Oper} {o : Oper} {a : Act} {Q : Exit → Act → World → Prop} (hgd : o.guard = none) (s x : Operand) (t : TypeId)
    (ho : o.op = .call { callee := .builtin .append, args := #[s, x], argTypes := #[t, t] })
    (base : Nat) (e : TypeId) (i : TypeInfo) (z : Value) (bytes : Nat) (ht : P.underlying t = some (.slice e)) (hi : P.info? e = some i) (hz : i.zero = some z)
    (hsize : i.size = 1) (hby : i.bytes = bytes) (hzs : z.cells.size = 1)
    (v : Value) (n : Nat) (xs : List Value) (hs : a.eval s = v) (hown : w.ownsRow base e 1 v n xs)
    (A : Option Addr) (m c : Nat) (f : Nat → α) (hx : a.eval x = .slice A m c) (hh : HoldsG mk w A m f) (h1 : ∀ u, (mk u).oneCell' = true)
    (h63 : n + m ≤ maxLen) (hbytes : (n + m) * bytes ≤ 140737488355328) (hbase : base ≤ w.heap.size)
    (h : ∀ v' w', w'.ownsRow base e 1 v' (n + m) (xs ++ lstG mk f m) → w.grownBy w' v.ownBlock → (∀ q, v'.ownBlock = some q → v.ownBlock = some q ∨ q = w.heap.size) → wpList P ops Q rest (a.put o.dst v') w') : wpList P ops Q (o :: rest) a w := by
  by_cases hm : m = 0
  · subst hm
    refine wpList_append_zero hgd s x t ho base e i 1 ht hi v n xs hs hown A c hx (h v w (by simpa [lstG] using hown) (World.grownBy.refl w _) (fun q hq => .inl hq))
  · obtain ⟨b, off, rfl, hlt, hc⟩ := hh.resolve_left hm
    refine wpList_append_lies w hgd s x t ho base e i z 1 bytes ht hi hz hsize hby hzs (by omega) v n xs hs hown ⟨b, off, none⟩ m c (lstG mk f m) hx (by rw [lstG_length]; omega) ?_ ?_ (by omega) h63 hbytes hbase w.heap.size rfl ?_
    · intro j u hu
      have hj : j < m := by
        rcases Nat.lt_or_ge j m with h | h
        · exact h
        · rw [List.getElem?_eq_none (by rw [lstG_length]; omega)] at hu; cases hu
      rw [lstG_get _ _ _ _ hj] at hu
      have e1 : (⟨b, off, none⟩ : Addr).add j = ⟨b, off + j, none⟩ := by unfold Addr.add; split <;> simp_all
      rw [e1, hc j hj]; exact hu
    · intro u hu
      simp only [lstG, List.mem_map] at hu
      obtain ⟨k, _, rfl⟩ := hu
      exact h1 _
    · intro g cap w' h2 h3 h4 _
      refine h _ _ h2 h3 fun q hq => ?_
      have : q = g := by simpa [Value.ownBlock] using hq.symm
      rw [this]; exact h4
/-- Two lists of bytes, one behind the other. -/
def catF (n1 : Nat) (f g : Nat → Int) : Nat → Int := fun i => if i < n1 then f i else g (i - n1)
theorem concat_two (W : World) (p1 p2 : Option Addr) (n1 q1 n2 q2 : Nat) (f g : Nat → Int) (h1 : Holds .u8 W p1 n1 f) (h2 : Holds .u8 W p2 n2 g) (hs : n1 + n2 ≤ 1000000) :
    Calls Try.prog 43 #[.slice (some ⟨W.heap.size, 0, none⟩) 2 2] (W.alloc (.cells #[.slice p1 n1 q1, .slice p2 n2 q2] 31)) fun e w' =>
      ∃ b q, e = .returned (.slice b (n1 + n2) q) ∧ n1 + n2 ≤ q ∧ q ≤ maxLen ∧ HoldsG (Value.int .u8) w' b (n1 + n2) (catF n1 f g) ∧ Fresh W b ∧ Ext (W.alloc (.cells #[.slice p1 n1 q1, .slice p2 n2 q2] 31)) w' := by
  have x := Ext.alloc W (.cells #[.slice p1 n1 q1, .slice p2 n2 q2] 31)
  let P : Nat → Option Addr × Nat × Nat := fun i => if i = 0 then (p1, n1, q1) else (p2, n2, q2)
  let G : Nat → Nat → Int := fun i => if i = 0 then f else g
  have hA : HoldsG mkS (W.alloc (.cells #[.slice p1 n1 q1, .slice p2 n2 q2] 31)) (some ⟨W.heap.size, 0, none⟩) 2 P :=
    HoldsG.new _ _ _ 2 _ (fun i hi => by
      have h : i = 0 ∨ i = 1 := by omega
      rcases h with rfl | rfl <;> rfl)
  have hh : ∀ i, i < 2 → Holds .u8 (W.alloc (.cells #[.slice p1 n1 q1, .slice p2 n2 q2] 31)) (P i).1 (P i).2.1 (G i) := fun i hi => by
    have h : i = 0 ∨ i = 1 := by omega
    rcases h with rfl | rfl
    · exact h1.ext x
    · exact h2.ext x
  have hsum : sumC P 2 = n1 + n2 := by show 0 + n1 + n2 = n1 + n2; omega
  have hcat : catC P G 2 = lstG (Value.int .u8) (catF n1 f g) (n1 + n2) := by
    show ([] ++ lstG (Value.int .u8) f n1) ++ lstG (Value.int .u8) g n2 = _
    rw [List.nil_append, lstG_append]; rfl
  refine (concat_any _ 2 2 P G _ hA (by omega) (by rw [hsum]; exact hs) hh).mono ?_
  rintro e w' ⟨v, rfl, hown, y⟩
  rw [hsum, hcat] at hown
  obtain ⟨b, q, rfl, l, m, h⟩ := HoldsG.of_own (mk := Value.int .u8) hown
  exact ⟨b, q, rfl, l, m, h, fun p hp => by subst hp; exact Nat.le_trans x.size (hown.lt p.block rfl).1, y⟩
/-- What is told of an ask by package ask. -/
def PrA (Q : Qst) (w : World) (e : Ending) (w' : World) : Prop :=
  ∃ b q, e = .returned (.tuple #[.slice b (prN Q) q, .int .i64 (prE Q)]) ∧ prN Q ≤ q ∧ q ≤ maxLen ∧ HoldsG (Value.int .u8) w' b (prN Q) (sayF Q) ∧ Ext w w'
/-- The rest of what is said, as package ask puts it together. -/
theorem tail_cat {Q : Qst} (h : rightQ Q = true) : (tailN Q = if szN Q.nb + 2 * Q.nr = 0 then 0 else 1 + (szN Q.nb + 2 * Q.nr)) ∧ szN Q.nb + 2 * Q.nr ≤ 246 ∧ (∀ j, j < tailN Q → tailF Q j = if j < 1 then ((szN Q.nb + 2 * Q.nr : Nat) : Int) else catF (szN Q.nb) (pkF Q.B Q.nb) (putF Q.R) (j - 1)) := by
  obtain ⟨hkn, ho, -, hf⟩ := (rightQ_iff Q).1 h
  have hk := (known_iff Q.k).1 hkn
  have hz : szN 0 = 0 := by unfold szN; rfl
  by_cases h15 : Q.k = 15
  · obtain ⟨hb, hn⟩ := fits_bits h15 hf
    obtain ⟨t1, t2⟩ := tail_bits h15
    have hr : Q.nr = 0 := (ho.2.2.1 h15).2.2.2.2.2
    have hp : 1 ≤ szN Q.nb ∧ szN Q.nb ≤ 246 := by unfold szN; omega
    rw [hr]
    refine ⟨by rw [t1, if_neg (by omega)]; omega, by omega, fun j hj => ?_⟩
    rw [t2]
    by_cases hj0 : j = 0
    · rw [if_pos hj0, if_pos (by omega)]; simp
    · rw [if_neg hj0, if_neg (by omega)]
      unfold catF
      rw [if_pos (by omega)]
  by_cases h16 : Q.k = 16 ∨ Q.k = 23
  · obtain ⟨hb, hn⟩ := fits_words h16 hf
    obtain ⟨t1, t2⟩ := tail_words h16
    have hr : Q.nb = 0 := by
      rcases h16 with h | h
      · exact (ho.2.2.2.1 h).2.2.2.2.2
      · exact (ho.2.2.2.2.2 h).2.2.2
    rw [hr, hz]
    refine ⟨by rw [t1, if_neg (by omega)]; omega, by omega, fun j hj => ?_⟩
    rw [t2]
    by_cases hj0 : j = 0
    · rw [if_pos hj0, if_pos (by omega)]; omega
    · rw [if_neg hj0, if_neg (by omega)]
      unfold catF
      rw [if_neg (by omega), Nat.sub_zero]
  · have t := tail_none h15 h16
    have hb : Q.nb = 0 ∧ Q.nr = 0 := by
      obtain ⟨o1, o2, o3, o4, o5, o6⟩ := ho
      by_cases a1 : Q.k = 1 ∨ Q.k = 2 ∨ Q.k = 3 ∨ Q.k = 4
      · exact ⟨(o1 a1).2.2.2.2.2.1, (o1 a1).2.2.2.2.2.2⟩
      by_cases a2 : Q.k = 5 ∨ Q.k = 6
      · exact ⟨(o2 a2).2.2.2.2.2.1, (o2 a2).2.2.2.2.2.2⟩
      · have := o5 (by omega)
        exact ⟨this.2.2.2.2.1, this.2.2.2.2.2⟩
    rw [hb.1, hb.2, hz, t]
    exact ⟨rfl, by omega, fun j hj => absurd hj (by omega)⟩
theorem say_more {Q : Qst} {i : Nat} (hi : i < numN Q) : lstG (Value.int .u8) (sayF Q) (1 + 2 * i) ++ lstG (Value.int .u8) (putF (fun _ => numF Q i)) (2 * 1) = lstG (Value.int .u8) (sayF Q) (1 + 2 * (i + 1)) := by
  rw [lstG_append, show 1 + 2 * i + 2 * 1 = 1 + 2 * (i + 1) by omega]
  unfold lstG
  refine List.map_congr_left fun j hj => ?_
  have hj := List.mem_range.1 hj
  dsimp only
  by_cases h0 : j < 1 + 2 * i
  · rw [if_pos h0]
  · rw [if_neg h0]
    unfold sayF
    rw [if_neg (by omega), if_pos (by omega)]
    have h : j = 1 + 2 * i ∨ j = 1 + 2 * i + 1 := by omega
    rcases h with rfl | rfl
    · rw [show 1 + 2 * i - (1 + 2 * i) = 2 * 0 by omega, show 1 + 2 * i - 1 = 2 * i by omega, putF_even, putF_even]
    · rw [show 1 + 2 * i + 1 - (1 + 2 * i) = 2 * 0 + 1 by omega, show 1 + 2 * i + 1 - 1 = 2 * i + 1 by omega, putF_odd, putF_odd]
theorem say_end {Q : Qst} (h : rightQ Q = true) : (szN Q.nb + 2 * Q.nr = 0 → sayN Q = 1 + 2 * numN Q) ∧
    (szN Q.nb + 2 * Q.nr ≠ 0 → sayN Q = 1 + 2 * numN Q + 1 + (szN Q.nb + 2 * Q.nr) ∧
      lstG (Value.int .u8) (sayF Q) (1 + 2 * numN Q) ++ lstG (Value.int .u8) (fun _ => ((szN Q.nb + 2 * Q.nr : Nat) : Int)) 1 ++ lstG (Value.int .u8) (catF (szN Q.nb) (pkF Q.B Q.nb) (putF Q.R)) (szN Q.nb + 2 * Q.nr) = lstG (Value.int .u8) (sayF Q) (sayN Q)) := by
  obtain ⟨h1, h2, h3⟩ := tail_cat h
  generalize szN Q.nb + 2 * Q.nr = T at *
  constructor
  · intro h0
    unfold sayN
    rw [h1, if_pos h0]
    exact Nat.add_zero _
  · intro h0
    rw [if_neg h0] at h1
    have hn : sayN Q = 1 + 2 * numN Q + 1 + T := by unfold sayN; rw [h1]; omega
    refine ⟨hn, ?_⟩
    rw [lstG_append, lstG_append, hn]
    unfold lstG
    refine List.map_congr_left fun j hj => ?_
    have hj := List.mem_range.1 hj
    dsimp only
    by_cases a1 : j < 1 + 2 * numN Q
    · rw [if_pos (by omega), if_pos a1]
    · have e : sayF Q j = tailF Q (j - (1 + 2 * numN Q)) := by unfold sayF; rw [if_neg (by omega), if_neg a1]
      rw [e, h3 _ (by rw [h1]; omega)]
      by_cases a2 : j < 1 + 2 * numN Q + 1
      · rw [if_pos a2, if_neg a1, if_pos (by omega)]
      · rw [if_neg a2, if_neg (by omega), show j - (1 + 2 * numN Q) - 1 = j - (1 + 2 * numN Q + 1) by omega]
theorem FieS.grown {w0 wr wr' : World} {b off g : Nat} {V : QstV} {k : Int} {T : Qst} {row : Option Nat} (h : FieS w0 wr b off g V k T) (hg : wr.grownBy wr' row) (hr : ∀ q, row = some q → w0.heap.size ≤ q ∧ q ≠ g ∧ q ≠ b) : FieS w0 wr' b off g V k T := by
  have hk : Keep (fun i => row = some i) wr wr' := ⟨hg.os, hg.tape, hg.output, hg.size, fun k hk hn => hg.block k hk (fun e => hn e.symm)⟩
  exact ⟨Below.trans h.x (hk.below h.x.size fun i hi => (hr i hi).1), h.lo, (hg.block _ (heap_lt h.at_) (fun e => (hr _ e.symm).2.1 rfl)).trans h.at_, h.fl.keep hk (fun e => (hr _ e).2.2 rfl), h.ne⟩
end Go.Proofs.Ytejiafihiielgaa
