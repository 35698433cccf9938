/-
  CONTRACTS: package ask (layer 15): Print.
  CONTRACTS: package tell (layer 16): put, say.
  CONTRACTS: package tell (layer 16): Print.
  CONTRACTS: package tell (layer 16): guess, Parse.
-/
import Derived.Test.YtlafnobjfajamaaGreatPk20
import Derived.Test.YtlafnobjfajamaaGreatPk19
import Derived.Test.YtlafnobjfajamaaGreatPk26
import Derived.Test.YtlafnobjfajamaaGreatPk25
namespace Go.Proofs.YtlafnobjfajamaaGreat
open Go.RowKit
set_option linter.unusedVariables false
set_option maxRecDepth 100000

/-- Two lists of bytes, one behind the other. -/
def catF (n1 : Nat) (f g : Nat → Int) : Nat → Int := fun i => if i < n1 then f i else g (i - n1)
theorem concat_two (W : World) (p1 p2 : Option Addr) (n1 q1 n2 q2 : Nat) (f g : Nat → Int) (h1 : Holds .u8 W p1 n1 f) (h2 : Holds .u8 W p2 n2 g) (hs : n1 + n2 ≤ 1000000) :
    Calls Tryz.prog 127 #[.slice (some ⟨W.heap.size, 0, none⟩) 2 2] (W.alloc (.cells #[.slice p1 n1 q1, .slice p2 n2 q2] 48)) fun e w' =>
      ∃ b q, e = .returned (.slice b (n1 + n2) q) ∧ n1 + n2 ≤ q ∧ q ≤ maxLen ∧ HoldsG (Value.int .u8) w' b (n1 + n2) (catF n1 f g) ∧ Fresh W b ∧ Ext (W.alloc (.cells #[.slice p1 n1 q1, .slice p2 n2 q2] 48)) w' := by
  have x := Ext.alloc W (.cells #[.slice p1 n1 q1, .slice p2 n2 q2] 48)
  let P : Nat → Option Addr × Nat × Nat := fun i => if i = 0 then (p1, n1, q1) else (p2, n2, q2)
  let G : Nat → Nat → Int := fun i => if i = 0 then f else g
  have hA : HoldsG mkS (W.alloc (.cells #[.slice p1 n1 q1, .slice p2 n2 q2] 48)) (some ⟨W.heap.size, 0, none⟩) 2 P :=
    HoldsG.new _ _ _ 2 _ (fun i hi => by
      have h : i = 0 ∨ i = 1 := by omega
      rcases h with rfl | rfl <;> rfl)
  have hh : ∀ i, i < 2 → Holds .u8 (W.alloc (.cells #[.slice p1 n1 q1, .slice p2 n2 q2] 48)) (P i).1 (P i).2.1 (G i) := fun i hi => by
    have h : i = 0 ∨ i = 1 := by omega
    rcases h with rfl | rfl
    · exact h1.ext x
    · exact h2.ext x
  have hsum : sumC P 2 = n1 + n2 := by show 0 + n1 + n2 = n1 + n2; omega
  have hcat : catC P G 2 = lstG (Value.int .u8) (catF n1 f g) (n1 + n2) := by
    show ([] ++ lstG (Value.int .u8) f n1) ++ lstG (Value.int .u8) g n2 = _
    rw [List.nil_append, lstG_append]; rfl
  refine (concat_any _ 2 2 P G _ hA (by omega) (by rw [hsum]; exact hs) hh).mono ?_
  rintro e w' ⟨v, rfl, hown, y⟩
  rw [hsum, hcat] at hown
  obtain ⟨b, q, rfl, l, m, h⟩ := HoldsG.of_own (mk := Value.int .u8) hown
  exact ⟨b, q, rfl, l, m, h, fun p hp => by subst hp; exact Nat.le_trans x.size (hown.lt p.block rfl).1, y⟩
end Go.Proofs.YtlafnobjfajamaaGreat
namespace Go.Proofs.YtlafnobjfajamaaGreat
open Go.RowKit
set_option linter.unusedVariables false
set_option maxRecDepth 100000

section
variable {P : Program} {w : World}
theorem run_append_types (t tx ty e e' : TypeId) (B A : Option Addr) (n q m c : Nat) (ht : P.underlying t = some (.slice e)) (hx : P.underlying tx = some (.slice e')) : (Builtin.append_ #[t, tx] ty #[.slice B n q, .slice A m c]).run P w = (Builtin.append_ #[t, t] ty #[.slice B n q, .slice A m c]).run P w := by
  unfold Builtin.append_
  simp [run_underlying ht, run_underlying hx]
theorem own_shape {w : World} {base : Nat} {e : TypeId} {size : Nat} {v : Value} {n : Nat} {xs : List Value} (h : w.ownsRow base e size v n xs) : ∃ b c, v = .slice b n c := by
  rcases h.2 with ⟨hv, h0⟩ | ⟨g, cap, cur, hv, _⟩
  · rw [h0]; exact ⟨_, _, hv⟩
  · exact ⟨_, _, hv⟩
/-- append of a slice of another type's name. -/
theorem wpList_append_holdsT {α : Type} {mk : α → Value} {ops : Array Oper} {rest : List Oper} {o : Oper} {a : Act} {Q : Exit → Act → World → Prop} (hgd : o.guard = none) (s x : Operand) (t tx : TypeId)
    (ho : o.op = .call { callee := .builtin .append, args := #[s, x], argTypes := #[t, tx] })
    (base : Nat) (e e' : TypeId) (i : TypeInfo) (z : Value) (bytes : Nat) (ht : P.underlying t = some (.slice e)) (htx : P.underlying tx = some (.slice e')) (hi : P.info? e = some i) (hz : i.zero = some z)
    (hsize : i.size = 1) (hby : i.bytes = bytes) (hzs : z.cells.size = 1)
    (v : Value) (n : Nat) (xs : List Value) (hs : a.eval s = v) (hown : w.ownsRow base e 1 v n xs)
    (A : Option Addr) (m c : Nat) (f : Nat → α) (hx : a.eval x = .slice A m c) (hh : HoldsG mk w A m f) (h1 : ∀ u, (mk u).oneCell' = true)
    (h63 : n + m ≤ maxLen) (hbytes : (n + m) * bytes ≤ 140737488355328) (hbase : base ≤ w.heap.size)
    (h : ∀ v' w', w'.ownsRow base e 1 v' (n + m) (xs ++ lstG mk f m) → w.grownBy w' v.ownBlock → (∀ q, v'.ownBlock = some q → v.ownBlock = some q ∨ q = w.heap.size) → wpList P ops Q rest (a.put o.dst v') w') : wpList P ops Q (o :: rest) a w := by
  have key : ∃ v' w', (Builtin.append_ #[t, t] o.type #[v, .slice A m c]).run P w = .ok v' w' ∧ w'.ownsRow base e 1 v' (n + m) (xs ++ lstG mk f m) ∧ w.grownBy w' v.ownBlock ∧ (∀ q, v'.ownBlock = some q → v.ownBlock = some q ∨ q = w.heap.size) := by
    by_cases hm : m = 0
    · subst hm
      exact ⟨v, w, run_append_zero base t o.type e i 1 ht hi v n xs hown A c, by simpa [lstG] using hown, World.grownBy.refl w _, fun q hq => .inl hq⟩
    · obtain ⟨b, off, rfl, hlt, hc⟩ := hh.resolve_left hm
      obtain ⟨g, cap, w', hr, h2, h3, h4, h5⟩ := run_append_lies (P := P) w t o.type base e i z 1 bytes ht hi hz hsize hby hzs (by omega) v n xs hown ⟨b, off, none⟩ m c (lstG mk f m) (by rw [lstG_length]; omega) (by
        intro j u hu
        have hj : j < m := by
          rcases Nat.lt_or_ge j m with h | h
          · exact h
          · rw [List.getElem?_eq_none (by rw [lstG_length]; omega)] at hu; cases hu
        rw [lstG_get _ _ _ _ hj] at hu
        have e1 : (⟨b, off, none⟩ : Addr).add j = ⟨b, off + j, none⟩ := by unfold Addr.add; split <;> simp_all
        rw [e1, hc j hj]; exact hu) (by
        intro u hu
        simp only [lstG, List.mem_map] at hu
        obtain ⟨k, _, rfl⟩ := hu
        exact h1 _) (by omega) h63 hbytes hbase w.heap.size rfl
      exact ⟨_, w', hr, h2, h3, fun q hq => by
        have : q = g := by simpa [Value.ownBlock] using hq.symm
        rw [this]; exact h4⟩
  obtain ⟨v', w', hrun, h2, h3, h4⟩ := key
  obtain ⟨sb, sc, rfl⟩ := own_shape hown
  rw [← run_append_types t tx o.type e e' sb A n sc m c ht htx] at hrun
  refine wpList_plain hgd fun K hK => ?_
  unfold Oper.wp
  simp [execOp, ho, resolve, invoke, builtin, hs, hx, hrun, Result.andThen]
  exact hK _ _ (h v' w' h2 h3 h4)
end
/-- What is said so far, in a box of the call's own. -/
structure Spk (W0 w : World) (R m : Nat) (xs : List Value) (v : Value) : Prop where
  at_ : w.heap[R]? = some (.cells #[v] 127 (0, 0))
  own : w.ownsRow W0.heap.size 5 1 v m xs
  ne : v.ownBlock ≠ some R
  lo : W0.heap.size ≤ R
/-- What a say may change. -/
def SpF (R : Nat) (v : Value) : Nat → Prop := fun i => i = R ∨ v.ownBlock = some i
theorem Spk.ext {W0 w w' : World} {R m : Nat} {xs : List Value} {v : Value} (h : Spk W0 w R m xs v) (x : Ext w w') : Spk W0 w' R m xs v := ⟨x.block h.at_, own_ext h.own x, h.ne, h.lo⟩
theorem Spk.lt {W0 w : World} {R m : Nat} {xs : List Value} {v : Value} (h : Spk W0 w R m xs v) : ∀ i, SpF R v i → W0.heap.size ≤ i ∧ i < w.heap.size := fun i hi => by
  rcases hi with rfl | hi
  · exact ⟨h.lo, heap_lt h.at_⟩
  · exact h.own.lt i hi
theorem Spk.low {W0 w w' : World} {R m : Nat} {xs : List Value} {v : Value} (h : Spk W0 w R m xs v) (k : Keep (SpF R v) w w') (x : Ext W0 w) : Ext W0 w' := Below.trans x (k.below x.size (fun i hi => (h.lt i hi).1))
set_option maxHeartbeats 2000000 in
theorem sput_c (W0 w : World) (R m : Nat) (v : Value) (xs : List Value) (A : Option Addr) (n c : Nat) (f : Nat → Int) (h : Spk W0 w R m xs v) (hm : m ≤ 1000) (hA : Holds .u8 w A n f) (hn : n ≤ 1000) (x0 : W0.heap.size ≤ w.heap.size) :
    Calls Tryz.prog 88 #[.pointer (some ⟨R, 0, none⟩), .slice A n c] w fun e w' => e = .returned (.tuple #[]) ∧ ∃ v', Spk W0 w' R (m + n) (xs ++ lstG (Value.int .u8) f n) v' ∧ Keep (SpF R v) w w' ∧ (∀ q, v'.ownBlock = some q → v.ownBlock = some q ∨ w.heap.size ≤ q) := by
  obtain ⟨i8, hi8, hz80, hz81, hz82⟩ := info_parts Tryz.info8
  have cR : w.cell? ⟨R, 0, none⟩ = some v := cell_of_heap h.at_ rfl
  have H := Lib.hid h
  have lR := heap_lt h.at_
  clear h
  go_enter Tryz.func88, Tryz.ntmps88
  go_wp2_with (first
    | (at_builtin; refine wpList_append_holdsT (mk := Value.int .u8) rfl (.tmp 7) (.tmp 8) 127 48 rfl W0.heap.size 5 5 i8 (.int .u8 0) 1 Tryz.underlying127 Tryz.underlying48 hi8 hz80 hz81 hz82 rfl _ m xs rfl H.out.own A n c f rfl hA (fun _ => rfl) (by unfold maxLen; omega) (by omega) x0 ?_; intro v9 w9 hown9 hgr9 hob9; obtain ⟨b9, c9, rfl⟩ := own_shape hown9; have gR : w9.heap[R]? = some (.cells #[v] 127 (0, 0)) := (hgr9.block R lR (Ne.symm H.out.ne)).trans H.out.at_; have p9 : w9.cell? ⟨R, 0, none⟩ = some v := cell_of_heap gR rfl; have q9 : w9.frozen? ⟨R, 0, none⟩ = false := frozenT gR))
  go_end0
  have hne9 : (Value.slice b9 (m + n) c9).ownBlock ≠ some R := fun e => by
    rcases hob9 R e with h | h
    · exact H.out.ne h
    · omega
  refine ⟨rfl, _, ⟨one_setCell gR, ownsRow_setCell_other hown9 hne9 _, hne9, H.out.lo⟩, ⟨hgr9.os, hgr9.tape, hgr9.output, by simpa [World.setCell] using hgr9.size, fun k hk hn => ?_⟩, fun q hq => ?_⟩
  · rw [heap_setCell_other _ _ _ _ (fun e => hn (.inl e))]
    exact hgr9.block k hk (fun e => hn (.inr e.symm))
  · rcases hob9 q hq with h | h
    · exact .inl h
    · exact .inr (Nat.le_of_eq h.symm)
def saidL (n : Nat) (f : Nat → Int) (T : Tel) : List Value := lstG (Value.int .u8) (putF f) (2 * n) ++ (if szN T.nb + 2 * T.nr = 0 then [] else lstG (Value.int .u8) (fun _ => ((szN T.nb + 2 * T.nr : Nat) : Int)) 1 ++ lstG (Value.int .u8) (catF (szN T.nb) (pkF T.B T.nb) (putF T.R)) (szN T.nb + 2 * T.nr))
def saidN (n : Nat) (T : Tel) : Nat := 2 * n + (if szN T.nb + 2 * T.nr = 0 then 0 else 1 + (szN T.nb + 2 * T.nr))
theorem put_more (f : Nat → Int) (k : Nat) : lstG (Value.int .u8) (putF f) (2 * k) ++ lstG (Value.int .u8) (putF (fun _ => f k)) (2 * 1) = lstG (Value.int .u8) (putF f) (2 * (k + 1)) := by
  rw [lstG_append, show 2 * k + 2 * 1 = 2 * (k + 1) by omega]
  unfold lstG
  refine List.map_congr_left fun j hj => ?_
  have hj := List.mem_range.1 hj
  by_cases h : j < 2 * k
  · simp only [if_pos h]
  · simp only [if_neg h]
    have h' : j = 2 * k ∨ j = 2 * k + 1 := by omega
    rcases h' with rfl | rfl
    · rw [show 2 * k - 2 * k = 2 * 0 by omega, putF_even, putF_even]
    · rw [show 2 * k + 1 - 2 * k = 2 * 0 + 1 by omega, putF_odd, putF_odd]
theorem holds_keep8 {F : Nat → Prop} {w w' : World} {p : Option Addr} {n : Nat} {f : Nat → Int} (h : HoldsG (Value.int .u8) w p n f) (x : Keep F w w') (hF : ∀ q, p = some q → ¬ F q.block) : HoldsG (Value.int .u8) w' p n f := h.keep x hF
set_option maxHeartbeats 8000000 in
theorem say_c (W0 w : World) (R m : Nat) (v : Value) (xs : List Value) (a : Option Addr) (n c : Nat) (f : Nat → Int) (U : QstV) (T : Tel) (h : Spk W0 w R m xs v) (x0 : Ext W0 w) (hm : m ≤ 100)
    (ha : HoldsG (Value.int .i64) w a n f) (hao : ∀ p, a = some p → n ≠ 0 → ¬ SpF R v p.block) (hn : n ≤ 3) (hf : ∀ i, i < n → 0 ≤ f i ∧ f i < 65536)
    (hT : TelAt W0 U T) (hL : szN T.nb + 2 * T.nr ≤ 255) (n1 : T.nb ≤ 1000000) (n2 : T.nr ≤ 1000000) (hTR : ∀ i, i < T.nr → 0 ≤ T.R i ∧ T.R i < 65536) :
    Calls Tryz.prog 86 #[.slice a n c, .agg (telC U T), .func (Fn.func 88) #[.pointer (some ⟨R, 0, none⟩)] #[]] w fun e w' => e = .returned (.tuple #[]) ∧ ∃ v', Spk W0 w' R (m + saidN n T) (xs ++ saidL n f T) v' ∧ Ext W0 w' := by
  have lF := h.lt
  obtain ⟨W1, hW1, e1, HX⟩ : ∃ W1, W1 = w.alloc (.cells (telC U T) 37) ∧ Ext w W1 ∧ W1.heap[w.heap.size]? = some (.cells (telC U T) 37 (0, 0)) := ⟨_, rfl, Ext.alloc _ _, heap_alloc_new w _⟩
  have H0 := Lib.hid (h.ext e1)
  have HA0 := Lib.hid (ha.ext e1)
  have HG0 := Lib.hid HX
  have hg4 : ∀ i, SpF R v i → i ≠ w.heap.size := fun i hi => by have := lF i hi; omega
  have HF0 := Lib.hid hg4
  have HO := Lib.hid hao
  have HT := Lib.hid hT
  have Hf := Lib.hid hf
  have x1 := x0.trans e1
  have HR2 := Lib.hid hTR
  have hRg : R ≠ w.heap.size := hg4 R (.inl rfl)
  have hlw : w.heap.size < W1.heap.size := heap_lt HX
  clear h ha hao hT hf hTR lF hg4 HX e1
  go_enter Tryz.func86, Tryz.ntmps86
  go_upto_region 1 with fail
  rw [← hW1]
  clear hW1
  go_wp2_with fail
  go_loopw [7, 11] (fun _ iv wr => ∃ (i : Nat) (v : Value), i ≤ n ∧ iv = .int .i64 i ∧ Spk W0 wr R (m + 2 * i) (xs ++ lstG (Value.int .u8) (putF f) (2 * i)) v ∧ HoldsG (Value.int .i64) wr a n f ∧ (∀ p, a = some p → n ≠ 0 → ¬ SpF R v p.block) ∧ wr.heap[w.heap.size]? = some (.cells (telC U T) 37 (0, 0)) ∧ (∀ i, SpF R v i → i ≠ w.heap.size) ∧ Ext W0 wr) (fun _ iv _ => n - (intOf iv).toNat)
  case atStart => exact ⟨0, v, Nat.zero_le _, rfl, by simpa [lstG] using H0.out, HA0.out, HO.out, HG0.out, HF0.out, x1⟩
  case round =>
    clear H0 HA0 HO HG0 HF0 x1 v
    obtain ⟨i, v, hi, rfl, h0, ha0, ho0, hg0, hf0, x⟩ := hrel
    have HS := Lib.hid h0
    have HA := Lib.hid ha0
    have HO := Lib.hid ho0
    have HG := Lib.hid hg0
    have HF := Lib.hid hf0
    have hwr : w.heap.size < wr.heap.size := heap_lt hg0
    clear h0 ha0 ho0 hg0 hf0
    by_cases hlt : i < n
    · obtain ⟨ab, off, rfl, hab, hc⟩ := HA.out.resolve_left (by omega)
      have c0 : wr.cell? ⟨ab, off + i, none⟩ = some (.int .i64 (f i)) := hc i hlt
      have hbd := Hf.out i hlt
      have hw16 : IntKind.u16.wrap (f i) = f i := by rw [IntKind.wrap_u16]; omega
      have hltI : (i : Int) < n := by omega
      have HB := Lib.hid hbd
      clear hc hbd
      go_wp2_with (first
        | (go_at_call 126; refine (wput_any (some ⟨wr.heap.size, 0, none⟩) 1 1 (fun _ => f i) _ (one_held (cell_of_heap (heap_alloc_new wr _) rfl)) (by omega) (fun _ _ => HB.out)).mono ?_; rintro e w8 ⟨pb, pd, rfl, hp, x8⟩; have y8 : Ext wr w8 := (Ext.alloc wr _).trans x8; have HS8 := Lib.hid (HS.out.ext y8); have hx8 := (x.trans y8).size)
        | (go_at_call 88; refine (sput_c W0 _ R (m + 2 * i) v _ pb (2 * 1) pd _ HS8.out (by omega) hp (by omega) hx8).mono ?_; rintro e w9 ⟨rfl, v9, hS9, hk9, ho9⟩))
      go_roundw
      case rel =>
        have hK : Keep (SpF R v) wr w9 := ⟨hk9.os.trans y8.os, hk9.tape.trans y8.tape, hk9.output.trans y8.output, Nat.le_trans y8.size hk9.size, fun k hk hn => (hk9.block k (Nat.lt_of_lt_of_le hk y8.size) hn).trans (Below.block y8 k hk)⟩
        have hgrow : ∀ q, SpF R v9 q → SpF R v q ∨ wr.heap.size ≤ q := fun q hq => by
          rcases hq with rfl | hq
          · exact .inl (.inl rfl)
          · rcases ho9 q hq with h | h
            · exact .inl (.inr h)
            · exact .inr (Nat.le_trans y8.size h)
        refine ⟨i + 1, v9, by omega, by go_num, ?_, HA.out.keep hK (fun p hp => HO.out p hp (by omega)), fun p hp _ hq => ?_, (hK.block w.heap.size hwr (fun hq => HF.out _ hq rfl)).trans HG.out, fun q hq => ?_, HS8.out.low hk9 (x.trans y8)⟩
        · rw [List.append_assoc, put_more, show m + 2 * i + 2 * 1 = m + 2 * (i + 1) by omega] at hS9
          exact hS9
        · cases hp
          rcases hgrow _ hq with h | h
          · exact HO.out _ rfl (by omega) h
          · have h : wr.heap.size ≤ ab := h
            omega
        · rcases hgrow q hq with h | h
          · exact HF.out q h
          · exact fun e => by omega
      case measure => simp [intOf]; omega
    · obtain rfl : i = n := by omega
      clear HA HO Hf
      go_wp2_with fail
      obtain ⟨X, hX⟩ : ∃ X, X = wr.drew := ⟨_, rfl⟩
      have x10 : Ext wr X := by rw [hX]; exact Ext.drew _
      have hs := Ext.refl X
      refine wp_region_held_drew (S := fun W => Ext X W) (by kernel_rfl) (by rw [← hX]; exact hs) (fun _ => ?_)
      rw [← hX]
      clear hX
      have HC := Lib.hid (fun W (hx : Ext X W) => (⟨cell_of_heap ((x10.trans hx).block HG.out) rfl, cell_of_heap ((x10.trans hx).block HG.out) rfl⟩ : W.cell? ⟨w.heap.size, 7, none⟩ = some (.slice U.a1 T.nb U.d1) ∧ W.cell? ⟨w.heap.size, 8, none⟩ = some (.slice U.a2 T.nr U.d2)))
      have KP := Lib.hid (fun W (hx : Ext X W) => pack_any U.a1 T.nb U.d1 T.B W (HT.out.h1.ext ((x.trans x10).trans hx)) n1 HT.out.l1 HT.out.m1)
      have KW := Lib.hid (fun W (hx : Ext X W) => wput_any U.a2 T.nr U.d2 T.R W (HT.out.h2.ext ((x.trans x10).trans hx)) n2 HR2.out)
      refine wpAnyH_takeD (i := 0) (d := 22) (v := .pointer (some ⟨w.heap.size, 7, none⟩)) rfl rfl (by kernel_rfl) (by kernel_rfl) (by kernel_rfl) (fun _ _ _ h => h) (Or.inl ⟨by rfl, fun W hW => by go_simp⟩) hs ?_
      simp only [Act.put, List.setIfInBounds_toArray, List.set_cons_succ, List.set_cons_zero]
      refine wpAnyH_takeD (i := 1) (d := 23) (v := .slice U.a1 T.nb U.d1) rfl rfl (by kernel_rfl) (by kernel_rfl) (by kernel_rfl) (fun _ _ _ h => h) (Or.inl ⟨by rfl, fun W hW => by obtain ⟨c7, c8⟩ := HC.out W hW; go_simp⟩) hs ?_
      simp only [Act.put, List.setIfInBounds_toArray, List.set_cons_succ, List.set_cons_zero]
      refine wpAnyH_takeD (i := 3) (d := 25) (v := .pointer (some ⟨w.heap.size, 8, none⟩)) rfl rfl (by kernel_rfl) (by kernel_rfl) (by kernel_rfl) (fun _ _ _ h => h) (Or.inl ⟨by rfl, fun W hW => by go_simp⟩) hs ?_
      simp only [Act.put, List.setIfInBounds_toArray, List.set_cons_succ, List.set_cons_zero]
      refine wpAnyH_takeD (i := 4) (d := 26) (v := .slice U.a2 T.nr U.d2) rfl rfl (by kernel_rfl) (by kernel_rfl) (by kernel_rfl) (fun _ _ _ h => h) (Or.inl ⟨by rfl, fun W hW => by obtain ⟨c7, c8⟩ := HC.out W hW; go_simp⟩) hs ?_
      simp only [Act.put, List.setIfInBounds_toArray, List.set_cons_succ, List.set_cons_zero]
      refine wpAnyH_ready (rs := [2]) (by kernel_rfl) (by simp) (AllReadyH.cons rfl (fun K hK => ?_) AllReadyH.nil)
      go_simp
      go_at_call 128
      refine (KP.out _ hs).mono ?_; rintro e Wc ⟨p1, q1, rfl, -, -, h1, y⟩
      go_wp2_with fail
      refine hK.out _ _ (hs.trans y) (fun hs => ?_)
      clear hK K y
      refine wpAnyH_ready (rs := [5]) (by kernel_rfl) (by simp) (AllReadyH.cons rfl (fun K hK => ?_) AllReadyH.nil)
      go_simp
      go_at_call 126
      have H1 := Lib.hid (fun W (x : Ext Wc W) => h1.ext x)
      refine (KW.out _ hs).mono ?_; rintro e Wx ⟨p2, q2, rfl, h2, y⟩
      go_wp2_with fail
      have h1x := H1.out _ y
      have hXx := (hs.trans y).size
      refine hK.out _ _ (hs.trans y) (fun hs => ?_)
      clear hK K y H1
      refine wpAnyH_ready (rs := [6]) (by kernel_rfl) (by simp) (AllReadyH.cons rfl (fun K hK => ?_) AllReadyH.nil)
      go_simp
      refine hK.out _ _ (hs.trans (Ext.alloc _ _)) (fun hs => ?_)
      clear hK K
      refine wpAnyH_ready (rs := [7]) (by kernel_rfl) (by simp) (AllReadyH.cons rfl (fun K hK => ?_) AllReadyH.nil)
      go_simp
      go_at_call 127
      refine (concat_two Wx p1 p2 (szN T.nb) q1 (2 * T.nr) q2 (pkF T.B T.nb) (putF T.R) h1x h2 (by omega)).mono ?_; rintro e Wc ⟨p3, q3, rfl, m1, m2, h3, f3, y⟩
      go_wp2_with fail
      refine hK.out _ _ (hs.trans y) (fun hs => ?_)
      clear hK K y
      refine wpAnyH_takeD (i := 8) (d := 8) (v := .slice p3 (szN T.nb + 2 * T.nr) q3) rfl rfl (by kernel_rfl) (by kernel_rfl) (by kernel_rfl) (fun _ _ _ h => h) (Or.inl ⟨by rfl, fun W hW => by go_simp⟩) hs ?_
      simp only [Act.put, List.setIfInBounds_toArray, List.set_cons_succ, List.set_cons_zero]
      refine wpAnyH_done (by kernel_rfl) ?_ _
      have HSc := Lib.hid (HS.out.ext (x10.trans hs))
      have xc := (x.trans x10).trans hs
      have hF3 : ∀ q, p3 = some q → ¬ SpF R v q.block := fun q hq hq2 => by
        have z1 := f3 q hq
        have z2 := (HS.out.lt _ hq2).2
        have z3 := x10.size
        omega
      have HP3 := Lib.hid hF3
      have hszc : W0.heap.size ≤ Wc.heap.size := xc.size
      have hlit := fun o => Ext.alloc Wc o
      clear KP KW HC h1x h2 HG HF HT HR2 hF3 m1 m2 hXx f3
      obtain ⟨L, hTT⟩ : ∃ L, szN T.nb + 2 * T.nr = L := ⟨_, rfl⟩
      obtain ⟨cf, hCC⟩ : ∃ cf, catF (szN T.nb) (pkF T.B T.nb) (putF T.R) = cf := ⟨_, rfl⟩
      rw [hTT] at hL ⊢
      rw [hTT, hCC] at h3
      have HE := Lib.hid (And.intro hTT hCC)
      clear hTT hCC
      by_cases hT0 : L = 0
      · subst hT0
        go_wp2
        go_end0
        refine ⟨rfl, v, ?_, xc⟩
        unfold saidN saidL
        rw [HE.out.1, HE.out.2, if_pos rfl, if_pos rfl, List.append_nil, Nat.add_zero]
        exact HSc.out
      · have hTI : (0 : Int) < L := by omega
        have hwT : IntKind.u8.wrap (L : Int) = L := w8 (by omega)
        have hneL := Lib.hid hT0
        clear hT0
        go_upto_region 9 with (first
          | (go_at_call 88; refine (sput_c W0 _ R (m + 2 * i) v _ (some ⟨Wc.heap.size, 0, none⟩) 1 1 (fun _ => (L : Int)) (HSc.out.ext (hlit _)) (by omega) (one_held (cell_of_heap (heap_alloc_new Wc _) rfl)) (by omega) (Nat.le_trans hszc (hlit _).size)).mono ?_; rintro e w9 ⟨rfl, v9, hS9, hk9, ho9⟩))
        have hk : Ext Wc (Wc.alloc (.cells #[.int .u8 (L : Int)] 5)) := hlit _
        have h39 : HoldsG (Value.int .u8) w9 p3 L cf := holds_keep8 (h3.ext hk) hk9 HP3.out
        have x9 : Ext W0 w9 := (HSc.out.ext hk).low hk9 (xc.trans hk)
        have HS9 := Lib.hid hS9
        clear hS9 h3
        go_wp2_with (first
          | (go_at_call 88; refine (sput_c W0 _ R (m + 2 * i + 1) v9 _ p3 L q3 cf HS9.out (by omega) h39 (by omega) x9.size).mono ?_; rintro e wA ⟨rfl, vA, hSA, hkA, hoA⟩))
        go_end0
        refine ⟨rfl, vA, ?_, HS9.out.low hkA x9⟩
        unfold saidN saidL
        rw [HE.out.1, HE.out.2]
        rw [if_neg hneL.out, if_neg hneL.out]
        rw [show m + (2 * i + (1 + L)) = m + 2 * i + 1 + L by omega]
        rw [List.append_assoc, List.append_assoc] at hSA
        exact hSA
end Go.Proofs.YtlafnobjfajamaaGreat
namespace Go.Proofs.YtlafnobjfajamaaGreat
open Go.RowKit
set_option linter.unusedVariables false
set_option maxRecDepth 100000

theorem agN_le (Q : Qst) : agN Q ≤ 3 := by unfold agN; repeat' split
                                           all_goals omega
theorem tnum_congr {A B : Tel} (h1 : A.k = B.k) (h2 : A.ad = B.ad) (h3 : A.ct = B.ct) (h4 : A.va = B.va) (h5 : A.an = B.an) (h6 : A.oo = B.oo) : tnumF A = tnumF B := by
  funext i
  unfold tnumF
  rw [h1, h2, h3, h4, h5, h6]
theorem again_nums {Q : Qst} {T : Tel} (h : rightT Q T = true) (hc : T.cd = 0) : agF Q = tnumF T := by
  obtain ⟨ha, hn, hq⟩ := tright_parts h hc
  have e := whole_nums Q T.nb Q.ct.toNat T.B (fun _ => false) T.nr (if Q.k = 23 then Q.mn.toNat else Q.ct.toNat) T.R (fun _ => 0) T
  have e1 : numsT T (wholeT Q T.nb T.B T.nr T.R) = true := (numsT_iff _ _).2 ⟨ha.k, ha.cd, ha.ad, ha.ct, ha.va, ha.an, ha.oo⟩
  rw [e] at e1
  obtain ⟨a1, a2, a3, a4, a5, a6, a7⟩ := (numsT_iff _ _).1 e1
  unfold agF replT
  exact (tnum_congr a1 a3 a4 a5 a6 a7).symm
theorem said_all {Q : Qst} {T : Tel} (h : rightT Q T = true) (hc : T.cd = 0) : [Value.int .u8 T.k] ++ saidL (agN Q) (agF Q) T = lstG (Value.int .u8) (tsayF T) (tsayN T) ∧ 1 + saidN (agN Q) T = tsayN T ∧ szN T.nb + 2 * T.nr ≤ 255 := by
  obtain ⟨c1, c2, c3, c4⟩ := tcnt h hc
  obtain ⟨hTk, hq⟩ := rightT_k h
  have hk := (known_iff Q.k).1 ((rightQ_iff Q).1 hq).1
  have hz : szN 0 = 0 := by unfold szN; rfl
  rw [again_nums h hc]
  unfold saidL saidN
  by_cases h1 : Q.k = 1 ∨ Q.k = 2
  · obtain ⟨d1, d2, d3, d4⟩ := c1 h1
    have hN : agN Q = 0 := by unfold agN; rw [if_neg (by omega), if_neg (by omega)]
    have hp : 1 ≤ szN T.nb ∧ szN T.nb ≤ 250 := by unfold szN; omega
    have hn : tsayN T = 2 + szN T.nb := by unfold tsayN; rw [if_neg (by omega), if_pos (by omega)]
    rw [hN, d4, if_neg (by omega), if_neg (by omega), hn]
    refine ⟨?_, by omega, by omega⟩
    have e := tsay_bits hc (by omega : T.k = 1 ∨ T.k = 2)
    rw [show 1 + 1 + szN T.nb = 2 + szN T.nb by omega, List.append_assoc] at e
    rw [← e]
    have e0 : lstG (Value.int .u8) (putF (tnumF T)) (2 * 0) = [] := rfl
    rw [e0, List.nil_append, Nat.mul_zero, Nat.add_zero]
    have e2 : lstG (Value.int .u8) (catF (szN T.nb) (pkF T.B T.nb) (putF T.R)) (szN T.nb) = lstG (Value.int .u8) (pkF T.B T.nb) (szN T.nb) := lstG_congr fun i hi => by unfold catF; rw [if_pos hi]
    rw [e2]
  by_cases h2 : Q.k = 3 ∨ Q.k = 4 ∨ Q.k = 23
  · have hd : T.nb = 0 ∧ 1 ≤ T.nr ∧ T.nr ≤ 125 := by
      by_cases h3 : Q.k = 23
      · obtain ⟨d1, d2, d3, d4⟩ := c3 h3; omega
      · obtain ⟨d1, d2, d3, d4⟩ := c2 (by omega); omega
    obtain ⟨d1, d2, d3⟩ := hd
    have hN : agN Q = 0 := by unfold agN; rw [if_neg (by omega), if_neg (by omega)]
    have hn : tsayN T = 2 + 2 * T.nr := by unfold tsayN; rw [if_neg (by omega), if_neg (by omega), if_pos (by omega)]
    rw [hN, d1, hz, if_neg (by omega), if_neg (by omega), hn]
    refine ⟨?_, by omega, by omega⟩
    have e := tsay_words hc (by omega : ¬ (T.k = 1 ∨ T.k = 2)) (by omega)
    rw [show 1 + 1 + 2 * T.nr = 2 + 2 * T.nr by omega, List.append_assoc] at e
    rw [← e]
    have e0 : lstG (Value.int .u8) (putF (tnumF T)) (2 * 0) = [] := rfl
    rw [e0, List.nil_append, Nat.zero_add]
    have e2 : lstG (Value.int .u8) (catF 0 (pkF T.B 0) (putF T.R)) (2 * T.nr) = lstG (Value.int .u8) (putF T.R) (2 * T.nr) := lstG_congr fun i hi => by unfold catF; rw [if_neg (Nat.not_lt_zero i), Nat.sub_zero]
    rw [e2]
    have e3 : (fun _ : Nat => ((2 * T.nr : Nat) : Int)) = fun _ => 2 * (T.nr : Int) := by funext _; omega
    rw [e3]
  · obtain ⟨d1, d2⟩ := c4 h1 h2
    rw [d1, d2, hz, if_pos (by omega), if_pos (by omega), List.append_nil, Nat.add_zero]
    have hn : tsayN T = 1 + 2 * agN Q := by
      unfold tsayN agN
      rw [if_neg (by omega), if_neg (by omega), if_neg (by omega)]
      by_cases h22 : Q.k = 22
      · rw [if_pos (by omega), if_neg (by omega), if_pos h22]
      · rw [if_neg (by omega), if_pos (by omega)]
    rw [hn]
    exact ⟨tsay_nums hc (by omega) (by omega) _, rfl, by omega⟩
set_option maxHeartbeats 2000000 in
theorem tref_yes {k c : Int} (h : 1 ≤ k ∧ k ≤ 127 ∧ 1 ≤ c ∧ c ≤ 4) (w : World) : Calls Tryz.prog 46 #[.int .i64 k, .int .i64 c] w fun e w' => ∃ b, e = .returned (.tuple #[.slice b 2 2, .int .i64 0]) ∧ HoldsG (Value.int .u8) w' b 2 (refF k c) ∧ Ext w w' := by
  have KR := fun w => refuses_v (c := c) (B := true) (by rw [inB_iff]; omega) w
  have d1 : decide (k < 1) = false := decide_eq_false (by omega)
  have d2 : decide (128 ≤ k) = false := decide_eq_false (by omega)
  have w1 : IntKind.i64.wrap (128 + k) = 128 + k := IntWalk.i64_in _ (by omega)
  have w2 : IntKind.u8.wrap (128 + k) = 128 + k := w8 (by omega)
  have w3 : IntKind.u8.wrap c = c := w8 (by omega)
  clear h
  go_enter Tryz.func46, Tryz.ntmps46
  go_wp2_with (first | (go_at_call 84; refine (KR _).mono ?_; rintro e W ⟨rfl, rfl⟩))
  go_ret2
  refine ⟨some ⟨_, 0, none⟩, by rfl, HoldsG.new _ _ _ 2 _ (fun i hi => ?_), Ext.alloc _ _⟩
  have h : i = 0 ∨ i = 1 := by omega
  rcases h with rfl | rfl
  · exact congrArg (fun z => some (Value.int .u8 z)) (Int.add_comm 128 k)
  · rfl
set_option maxHeartbeats 4000000 in
theorem tprint_c : TPrintC 47 := by
  intro V Q U T w hQ hW n1 n2 hT m1 m2 hR
  obtain ⟨W2, hW2, e0, HX⟩ : ∃ W2, W2 = (w.alloc (.cells (qstC V Q) 31)).alloc (.cells (telC U T) 37) ∧ Ext w W2 ∧ Hid (∀ W, Ext W2 W → W.heap[w.heap.size]? = some (.cells (qstC V Q) 31 (0, 0)) ∧ W.heap[w.heap.size + 1]? = some (.cells (telC U T) 37 (0, 0))) :=
    ⟨_, rfl, (Ext.alloc w _).trans (Ext.alloc _ _), Lib.hid fun W x => ⟨x.block ((heap_alloc_old _ _ (by simp)).trans (heap_alloc_new w _)), x.block (heap_new_at _ _ (by simp))⟩⟩
  have HK := Lib.hid (fun W (x : Ext W2 W) => (⟨cell_of_heap (HX.out W x).2 rfl, cell_of_heap (HX.out W x).2 rfl⟩ : W.cell? ⟨w.heap.size + 1, 0, none⟩ = some (.int .i64 T.k) ∧ W.cell? ⟨w.heap.size + 1, 1, none⟩ = some (.int .i64 T.cd)))
  obtain ⟨r0, r1⟩ := HX.out W2 (Ext.refl _)
  have HQ := Lib.hid hQ
  have HT := Lib.hid hT
  have HTR := Lib.hid hR
  have KR := Lib.hid (fun W (x : Ext w W) => tright_c V Q U T W (HQ.out.ext x) hW n1 n2 (HT.out.ext x) m1 m2)
  clear hQ hT hR
  obtain ⟨D, hD⟩ : ∃ D, rightT Q T = D := ⟨_, rfl⟩
  rw [hD] at KR
  cases D with
  | false =>
    obtain ⟨hE, hN⟩ := tprE_no hD
    rw [hE, hN]
    clear hD hE hN
    go_enter Tryz.func47, Tryz.ntmps47
    go_upto_region 1 with fail
    rw [← hW2]
    clear hW2
    go_wp2_with (first
      | (refine wpList_load_row rfl 31 (.tmp 2) rfl w.heap.size rfl 31 _ (0, 0) _ r0 Tryz.underlying31 rfl (by kernel_rfl) ?_)
      | (refine wpList_load_row rfl 37 (.tmp 3) rfl (w.heap.size + 1) rfl 37 _ (0, 0) _ r1 Tryz.underlying37 rfl (by kernel_rfl) ?_)
      | (go_at_call 85; refine (KR.out _ e0).mono ?_; rintro e w3 ⟨rfl, x3⟩))
    go_ret2
    exact ⟨none, 0, by rfl, Nat.le_refl _, Nat.zero_le _, .inl rfl, e0.trans x3⟩
  | true =>
    obtain ⟨hE, hN⟩ := tprE_yes hD
    rw [hE, hN]
    have hkk := (rightT_k hD).1
    have hk9 := (known_iff Q.k).1 ((rightQ_iff Q).1 (rightT_k hD).2).1
    have hkb : 1 ≤ T.k ∧ T.k ≤ 127 := by omega
    by_cases hc : T.cd = 0
    · obtain ⟨s1, s2, s3⟩ := said_all hD hc
      have HSA := Lib.hid (And.intro s1 s2)
      have HLL := Lib.hid s3
      have KY := Lib.hid (fun W => reply_any V Q W (rightT_k hD).2)
      have HAF := Lib.hid (fun i (hi : i < agN Q) => (by rw [again_nums hD hc]; exact tnum_bd hD hc i : 0 ≤ agF Q i ∧ agF Q i < 65536))
      have w8k : IntKind.u8.wrap T.k = T.k := w8 (by omega)
      have dne : (T.cd != 0) = false := by simp [hc]
      clear hD hE hN hkk hk9 hkb hc s1 s2 s3
      go_enter Tryz.func47, Tryz.ntmps47
      go_upto_region 1 with fail
      rw [← hW2]
      clear hW2
      go_upto_region 3 with (first
        | (refine wpList_load_row rfl 31 (.tmp 2) rfl w.heap.size rfl 31 _ (0, 0) _ r0 Tryz.underlying31 rfl (by kernel_rfl) ?_)
        | (refine wpList_load_row rfl 37 (.tmp 3) rfl (w.heap.size + 1) rfl 37 _ (0, 0) _ r1 Tryz.underlying37 rfl (by kernel_rfl) ?_)
        | (go_at_call 85; refine (KR.out _ e0).mono ?_; rintro e w3 ⟨rfl, x3⟩))
      obtain ⟨c0, c1⟩ := HK.out _ x3
      have xW := e0.trans x3
      obtain ⟨W5, hW5, x35, HS5⟩ : ∃ W5, W5 = (w3.alloc (.cells #[.int .u8 T.k] 5)).alloc (.cells #[.slice (some ⟨w3.heap.size, 0, none⟩) 1 1] 127) ∧ Ext w3 W5 ∧ Hid (Spk w3 W5 (w3.heap.size + 1) 1 [.int .u8 T.k] (.slice (some ⟨w3.heap.size, 0, none⟩) 1 1)) :=
        ⟨_, rfl, (Ext.alloc w3 _).trans (Ext.alloc _ _), Lib.hid ⟨heap_new_at _ _ (by simp), (World.ownsRow_lit w3 #[.int .u8 T.k] 1 (Nat.le_refl _) (by unfold maxLen; omega) rfl).alloc _, by simp [Value.ownBlock], by simp⟩⟩
      go_upto_region 6 with fail
      rw [← hW5]
      clear hW5
      have hs5 : Ext W5 W5.drew := Ext.drew _
      have hs : Ext w3 W5.drew := x35.trans hs5
      have HR := Lib.hid (fun W (hx : Ext w3 W) => HX.out W (x3.trans hx))
      refine wp_region_held_drew (S := fun W => Ext w3 W) (by kernel_rfl) hs (fun _ => ?_)
      refine wpAnyH_takeD (i := 0) (d := 25) rfl rfl (by kernel_rfl) (by kernel_rfl) (by kernel_rfl) (fun _ _ _ h => h) (yieldsIf_load_row (by rfl) 31 (.tmp 2) rfl (w.heap.size) rfl 31 _ (0, 0) _ (fun w' hw' => (HR.out _ hw').1) Tryz.underlying31 rfl (by kernel_rfl)) hs ?_
      simp only [Act.put, List.setIfInBounds_toArray, List.set_cons_succ, List.set_cons_zero]
      refine wpAnyH_takeD (i := 3) (d := 28) rfl rfl (by kernel_rfl) (by kernel_rfl) (by kernel_rfl) (fun _ _ _ h => h) (yieldsIf_load_row (by rfl) 37 (.tmp 3) rfl (w.heap.size + 1) rfl 37 _ (0, 0) _ (fun w' hw' => (HR.out _ hw').2) Tryz.underlying37 rfl (by kernel_rfl)) hs ?_
      simp only [Act.put, List.setIfInBounds_toArray, List.set_cons_succ, List.set_cons_zero]
      refine wpAnyH_takeD (i := 4) (d := 29) (v := .func (Fn.func 88) #[.pointer (some ⟨w3.heap.size + 1, 0, none⟩)] #[]) rfl rfl (by kernel_rfl) (by kernel_rfl) (by kernel_rfl) (fun _ _ _ h => h) (Or.inl ⟨by rfl, fun W hW => by go_simp⟩) hs ?_
      simp only [Act.put, List.setIfInBounds_toArray, List.set_cons_succ, List.set_cons_zero]
      refine wpAnyH_ready (rs := [1]) (by kernel_rfl) (by simp) (AllReadyH.cons rfl (fun K hK => ?_) AllReadyH.nil)
      go_simp
      go_at_call 87
      refine (KY.out _).mono ?_; rintro e Wc ⟨⟨X, b5, q5, rfl, ht5, ha5, l5, m5, f5⟩, y⟩
      go_wp2_with fail
      have yc := hs5.trans y
      have HS6 := Lib.hid (HS5.out.ext yc)
      have HA6 := Lib.hid ha5
      have hfd := fun w => again_field w X (replT Q) b5 (agN Q) q5
      have HO6 := Lib.hid (fun p (hp : b5 = some p) (_ : agN Q ≠ 0) => (fun hq => by have z1 := f5 p hp; have z2 := (HS5.out.lt _ hq).2; have z3 := hs5.size; omega : ¬ SpF (w3.heap.size + 1) (.slice (some ⟨w3.heap.size, 0, none⟩) 1 1) p.block))
      refine hK.out _ _ (x35.trans yc) (fun hs => ?_)
      clear hK K y ha5 ht5 f5
      refine wpAnyH_takeD (i := 2) (d := 27) (v := .slice b5 (agN Q) q5) rfl rfl (by kernel_rfl) (by kernel_rfl) (by kernel_rfl) (fun _ _ _ h => h) (Or.inl ⟨by rfl, fun W hW => by go_simp⟩) hs ?_
      simp only [Act.put, List.setIfInBounds_toArray, List.set_cons_succ, List.set_cons_zero]
      refine wpAnyH_ready (rs := [5]) (by kernel_rfl) (by simp) (AllReadyH.cons rfl (fun K hK => ?_) AllReadyH.nil)
      go_simp
      go_at_call 86
      refine (say_c w3 _ (w3.heap.size + 1) 1 _ _ b5 (agN Q) q5 (agF Q) U T HS6.out (x35.trans yc) (by omega) HA6.out HO6.out (agN_le Q) HAF.out (HT.out.ext xW) HLL.out m1 m2 HTR.out).mono ?_; rintro e Wd ⟨rfl, vd, hSd, xd⟩
      go_wp2_with fail
      refine hK.out _ _ xd (fun hs => ?_)
      clear hK K
      refine wpAnyH_done (by kernel_rfl) ?_ _
      obtain ⟨bd, cd', rfl⟩ := own_shape hSd.own
      have cv : Wd.cell? ⟨w3.heap.size + 1, 0, none⟩ = some (.slice bd (1 + saidN (agN Q) T) cd') := cell_of_heap hSd.at_ rfl
      have hown := hSd.own
      rw [HSA.out.1] at hown
      have HOW := Lib.hid hown
      clear hown hSd HR HS5 HS6 HA6 HO6 hfd
      go_wp2
      go_ret2
      have hown := HOW.out
      rw [HSA.out.2] at hown
      obtain ⟨b8, d8, e8, l8, m8, h8⟩ := HoldsG.of_own (mk := Value.int .u8) hown
      cases e8
      exact ⟨_, _, by rw [HSA.out.2]; rfl, l8, m8, h8, xW.trans xd⟩
    · obtain ⟨ha, hcc, -⟩ := tright_code hD hc
      have KF := Lib.hid (fun W => tref_yes (k := T.k) (c := T.cd) ⟨hkb.1, hkb.2, hcc.1, hcc.2⟩ W)
      have hn : tsayN T = 2 := by unfold tsayN; rw [if_pos hc]
      have hf : Hid (∀ i, i < 2 → refF T.k T.cd i = tsayF T i) := Lib.hid fun i hi => by
        unfold refF tsayF
        rw [if_pos hc]
      rw [hn]
      have dne : (T.cd != 0) = true := by simp [hc]
      clear hD hE hN hkk hk9 hkb hc ha hcc hn
      go_enter Tryz.func47, Tryz.ntmps47
      go_upto_region 1 with fail
      rw [← hW2]
      clear hW2
      go_upto_region 3 with (first
        | (refine wpList_load_row rfl 31 (.tmp 2) rfl w.heap.size rfl 31 _ (0, 0) _ r0 Tryz.underlying31 rfl (by kernel_rfl) ?_)
        | (refine wpList_load_row rfl 37 (.tmp 3) rfl (w.heap.size + 1) rfl 37 _ (0, 0) _ r1 Tryz.underlying37 rfl (by kernel_rfl) ?_)
        | (go_at_call 85; refine (KR.out _ e0).mono ?_; rintro e w3 ⟨rfl, x3⟩))
      obtain ⟨c0, c1⟩ := HK.out _ x3
      go_wp2_with (first
        | (go_at_call 46; refine (KF.out _).mono ?_; rintro e w4 ⟨b4, rfl, h4, x4⟩))
      go_ret2
      exact ⟨b4, 2, rfl, Nat.le_refl _, by unfold maxLen; omega, h4.congr hf.out, (e0.trans x3).trans x4⟩
end Go.Proofs.YtlafnobjfajamaaGreat
namespace Go.Proofs.YtlafnobjfajamaaGreat
open Go.RowKit
set_option linter.unusedVariables false
set_option maxRecDepth 100000

end Go.Proofs.YtlafnobjfajamaaGreat
