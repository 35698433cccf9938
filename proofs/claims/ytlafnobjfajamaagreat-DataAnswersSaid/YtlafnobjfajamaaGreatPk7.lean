/-
  LAYER 13, PLAIN: what is read, and written, of a table of cells.
  CONTRACTS: bilgeref13 (layer 13).
  LAYER 14, PLAIN: a file (api.File), its fourteen cells, what the calls tell.
  LAYER 14: what package file's calls tell, as premises; an operation of the laws (bilgelaw14.Op), plain.
-/
import Derived.Test.YtlafnobjfajamaaGreatPk4
import Derived.Test.YtlafnobjfajamaaGreatPk1
import Derived.Test.YtlafnobjfajamaaGreatPk5
import Derived.Test.YtlafnobjfajamaaGreatPk6
import Derived.Laws.CopyOwn
import Derived.Laws.Rows
namespace Go.Proofs.YtlafnobjfajamaaGreat
open Go.RowKit
set_option linter.unusedVariables false

/-- The error of a call that wants k cells from place x on, of a table of n cells. -/
def rdE (f c n x k : Int) : Int := if rgtB f c = true ∧ n = c ∧ 1 ≤ k then (if holdB f c x k = true then 0 else 2) else 11
/-- How many are told: none, where there is an error. -/
def rdN (f c n x k : Int) (m : Nat) : Nat := if rdE f c n x k = 0 then m else 0
/-- The cells from place x on. -/
def rdF {α : Type} (l : Nat → α) (f x : Int) : Nat → α := fun i => l ((x - f).toNat + i)
/-- A table with others from place x on. -/
def wrF {α : Type} (l v : Nat → α) (f x : Int) (m : Nat) : Nat → α := fun i => if i < (x - f).toNat then l i else if i < (x - f).toNat + m then v (i - (x - f).toNat) else l i
theorem rdE_own {f c n x k : Int} (h : (rgtB f c && decide (n = c)) = false) : rdE f c n x k = 11 := by
  unfold rdE; rw [if_neg]; rintro ⟨h1, h2, _⟩; rw [h1, decide_eq_true h2] at h; cases h
theorem rdE_few {f c n x k : Int} (h : k < 1) : rdE f c n x k = 11 := by unfold rdE; rw [if_neg]; omega
theorem rdE_out {f c n x k : Int} (h : (rgtB f c && decide (n = c)) = true) (h1 : 1 ≤ k) (h2 : holdB f c x k = false) : rdE f c n x k = 2 := by
  rw [Bool.and_eq_true, decide_eq_true_eq] at h
  unfold rdE; rw [if_pos ⟨h.1, h.2, h1⟩, if_neg (by rw [h2]; decide)]
theorem rdE_ok {f c n x k : Int} (h : (rgtB f c && decide (n = c)) = true) (h2 : holdB f c x k = true) : rdE f c n x k = 0 := by
  rw [Bool.and_eq_true, decide_eq_true_eq] at h
  have := (holdB_iff f c x k).1 h2
  unfold rdE; rw [if_pos ⟨h.1, h.2, by omega⟩, if_pos h2]
theorem rdN_no {f c n x k : Int} {m : Nat} {E : Int} (h : rdE f c n x k = E) (hE : E ≠ 0) : rdN f c n x k m = 0 := by unfold rdN; rw [h, if_neg hE]
theorem rdN_ok {f c n x k : Int} {m : Nat} (h : rdE f c n x k = 0) : rdN f c n x k m = m := by unfold rdN; rw [if_pos h]

/-- A block of the call's own whose first n cells are known. -/
def RowN {α : Type} (mk : α → Value) (t : TypeId) (w : World) (B n : Nat) (f : Nat → α) : Prop :=
  ∃ cs : Array Value, w.heap[B]? = some (.cells cs t (0, 0)) ∧ n ≤ cs.size ∧ ∀ i, i < n → cs[i]? = some (mk (f i))
section
variable {α : Type} {mk : α → Value} {t : TypeId} {w w' : World} {B n : Nat} {f : Nat → α}
theorem RowN.of_own {base : Nat} {v : Value} (h : w.ownsRow base t 1 v n (lstG mk f n)) (hn : 0 < n) :
    ∃ B cap, v = .slice (some ⟨B, 0, none⟩) n cap ∧ base ≤ B ∧ n ≤ cap ∧ cap ≤ maxLen ∧ RowN mk t w B n f := by
  obtain ⟨hlen, h2⟩ := id h
  rcases h2 with ⟨hv, hx⟩ | ⟨g, cap, cur, hv, hg, hh, hn2, hm, hs, ht⟩
  · have hl : (lstG mk f n).length = 0 := by rw [hx]; rfl
    rw [lstG_length] at hl; omega
  · subst hv
    refine ⟨g, cap, rfl, hg, hn2, hm, cur, hh, by omega, fun i hi => ?_⟩
    have hx := lstG_get mk f n i hi
    rw [← ht, List.getElem?_take, if_pos (by omega)] at hx
    simpa using hx
theorem RowN.lt (h : RowN mk t w B n f) : B < w.heap.size := by
  obtain ⟨cs, h1, _⟩ := h
  rcases Nat.lt_or_ge B w.heap.size with hlt | hge
  · exact hlt
  · rw [Array.getElem?_eq_none hge] at h1; cases h1
theorem RowN.cell (h : RowN mk t w B n f) (i : Nat) (hi : i < n) : w.cell? ⟨B, i, none⟩ = some (mk (f i)) := by
  obtain ⟨cs, h1, h2, h3⟩ := h
  rw [cell_of_row w B i cs t (0, 0) h1, h3 i hi]
theorem RowN.frozen (h : RowN mk t w B n f) (i : Nat) : w.frozen? ⟨B, i, none⟩ = false := by
  obtain ⟨cs, h1, h2, h3⟩ := h
  simp [World.frozen?, h1]
theorem RowN.set (h : RowN mk t w B n f) (j : Nat) (v : α) : RowN mk t (w.setCell ⟨B, j, none⟩ (mk v)) B n (upd f j v) := by
  obtain ⟨cs, h1, h2, h3⟩ := h
  refine ⟨cs.setIfInBounds j (mk v), ?_, by simpa using h2, fun i hi => ?_⟩
  · simp [World.setCell, Array.getElem?_modify, h1]
  · by_cases e : i = j
    · subst e; rw [upd_same]; simp [show i < cs.size from by omega]
    · rw [upd_other _ _ _ _ e, Array.getElem?_setIfInBounds_ne (Ne.symm e)]; exact h3 i hi
theorem RowN.drew (h : RowN mk t w B n f) : RowN mk t w.drew B n f := h
theorem RowN.holds (h : RowN mk t w B n f) : HoldsG mk w (some ⟨B, 0, none⟩) n f :=
  .inr ⟨B, 0, rfl, h.lt, fun i hi => by rw [Nat.zero_add]; exact h.cell i hi⟩
end
theorem upd_wrF {α : Type} (l v : Nat → α) (f x : Int) (q : Nat) : upd (wrF l v f x q) ((x - f).toNat + q) (v q) = wrF l v f x (q + 1) := by
  funext i
  unfold upd wrF
  by_cases h : i = (x - f).toNat + q
  · rw [if_pos h, if_neg (by omega), if_pos (by omega), h, show (x - f).toNat + q - (x - f).toNat = q by omega]
  · rw [if_neg h]
    by_cases h1 : i < (x - f).toNat
    · rw [if_pos h1, if_pos h1]
    · rw [if_neg h1, if_neg h1]
      by_cases h2 : i < (x - f).toNat + q
      · rw [if_pos h2, if_pos (by omega)]
      · rw [if_neg h2, if_neg (by omega)]
theorem wrF_zero {α : Type} (l v : Nat → α) (f x : Int) : wrF l v f x 0 = l := by
  funext i; unfold wrF
  by_cases h : i < (x - f).toNat
  · rw [if_pos h]
  · rw [if_neg h, if_neg (by omega)]

set_option maxHeartbeats 1000000 in
theorem rown_v {f c n : Int} {O : Bool} (h : (rgtB f c && decide (n = c)) = O) (w : World) : Calls Tryz.prog 118 #[.agg #[.int .i64 f, .int .i64 c], .int .i64 n] w fun e w' => e = .returned (.bool O) ∧ Ext w w' := by
  have e0 := Ext.alloc w (.cells #[.int .i64 f, .int .i64 c] 23)
  cases hr : rgtB f c with
  | false =>
    obtain rfl : O = false := by rw [← h, hr]; rfl
    have HR := Lib.hid hr
    clear hr h
    go_enter Tryz.func118, Tryz.ntmps118
    go_wp2_with fail
    refine (rwright_v HR.out _).mono ?_; rintro e w1 ⟨rfl, x1⟩
    have x2 := e0.trans x1
    go_wp2
    go_ret
    exact ⟨rfl, x2⟩
  | true =>
    have ho : O = decide (n = c) := by rw [← h, hr]; rfl
    have HO := Lib.hid ho
    have HR := Lib.hid hr
    clear hr h ho
    go_enter Tryz.func118, Tryz.ntmps118
    go_wp2_with fail
    refine (rwright_v HR.out _).mono ?_; rintro e w1 ⟨rfl, x1⟩
    have c0 := x1.made 0 _ rfl
    have c1 := x1.made 1 _ rfl
    have x2 := e0.trans x1
    clear x1 e0
    go_wp2
    go_ret
    exact ⟨ret_b (by rw [HO.out]; first | rfl | (cases h : decide (n = c) <;> simp_all)), x2⟩
theorem Tryz.infoCb : (Tryz.prog.info? 4).map (fun i => (i.zero, i.size, i.bytes)) = some (some (.bool false), 1, 1) := by kernel_rfl
theorem Tryz.infoCw : (Tryz.prog.info? 59).map (fun i => (i.zero, i.size, i.bytes)) = some (some (.int .u16 0), 1, 2) := by kernel_rfl

/-- What the call owns, as 'HoldsG', and where. -/
theorem HoldsG.of_own_at {α : Type} {mk : α → Value} {w : World} {base : Nat} {e : TypeId} {v : Value} {n : Nat} {f : Nat → α} (h : w.ownsRow base e 1 v n (lstG mk f n)) :
    ∃ a cap, v = .slice a n cap ∧ n ≤ cap ∧ cap ≤ maxLen ∧ HoldsG mk w a n f ∧ ∀ p, a = some p → base ≤ p.block := by
  obtain ⟨hlen, h2⟩ := id h
  rcases h2 with ⟨hv, hx⟩ | ⟨g, cap, cur, hv, hg, hh, r⟩
  · subst hx
    exact ⟨none, 0, hv, Nat.le_refl _, Nat.zero_le _, .inl rfl, fun p hp => by cases hp⟩
  · subst hv
    refine ⟨_, _, rfl, r.1, r.2.1, .inr ⟨g, 0, rfl, (h.lt g rfl).2, fun i hi => ?_⟩, fun p hp => by cases hp; exact hg⟩
    rw [Nat.zero_add, h.cellAt i (by omega), lstG_get _ _ _ _ hi]
set_option maxRecDepth 100000 in
set_option maxHeartbeats 2000000 in
theorem r13Bits_f (f c x k : Int) (a : Option Addr) (n d : Nat) (l : Nat → Bool) (w : World) (ha : HoldsG Value.bool w a n l) (hn : n ≤ 1000000) :
    Calls Tryz.prog 76 #[.agg #[.int .i64 f, .int .i64 c], .slice a n d, .int .i64 x, .int .i64 k] w fun e w' =>
      ∃ b q, e = .returned (.tuple #[.slice b (rdN f c n x k k.toNat) q, .int .i64 (rdE f c n x k)]) ∧ rdN f c n x k k.toNat ≤ q ∧ q ≤ maxLen ∧ HoldsG Value.bool w' b (rdN f c n x k k.toNat) (rdF l f x) ∧ Ext w w' ∧ Fresh w b := by
  have e0 := Ext.alloc w (.cells #[.int .i64 f, .int .i64 c] 23)
  cases ho : (rgtB f c && decide ((n : Int) = c)) with
  | false =>
    have hE := rdE_own (x := x) (k := k) ho
    have hN := rdN_no (m := k.toNat) hE (by decide)
    rw [hE, hN]
    have HO := Lib.hid ho
    clear ho hE hN
    go_enter Tryz.func76, Tryz.ntmps76
    go_wp2_with fail
    refine (rown_v HO.out _).mono ?_; rintro e w1 ⟨rfl, x1⟩
    have x2 := e0.trans x1
    go_wp2
    go_ret2
    exact ⟨_, _, rfl, Nat.zero_le _, Nat.zero_le _, .inl rfl, x2, Fresh.nil _⟩
  | true =>
    have HO := Lib.hid ho
    by_cases hk : k < 1
    · have hE := rdE_few (f := f) (c := c) (n := n) (x := x) hk
      have hN := rdN_no (m := k.toNat) hE (by decide)
      rw [hE, hN]
      clear ho hE hN
      go_enter Tryz.func76, Tryz.ntmps76
      go_wp2_with fail
      refine (rown_v HO.out _).mono ?_; rintro e w1 ⟨rfl, x1⟩
      have x2 := e0.trans x1
      go_wp2
      go_ret2
      exact ⟨_, _, rfl, Nat.zero_le _, Nat.zero_le _, .inl rfl, x2, Fresh.nil _⟩
    · cases hh : holdB f c x k with
      | false =>
        have hE := rdE_out ho (by omega) hh
        have hN := rdN_no (m := k.toNat) hE (by decide)
        rw [hE, hN]
        have HH := Lib.hid hh
        clear ho hE hN hh
        go_enter Tryz.func76, Tryz.ntmps76
        go_wp2_with fail
        refine (rown_v HO.out _).mono ?_; rintro e w1 ⟨rfl, x1⟩
        have c0 := x1.made 0 _ rfl
        have c1 := x1.made 1 _ rfl
        have x2 := e0.trans x1
        clear x1 e0
        go_wp2_with fail
        refine (rwholds_v HH.out _).mono ?_; rintro e w3 ⟨rfl, x3⟩
        have x4 := x2.trans x3
        go_wp2
        go_ret2
        exact ⟨_, _, rfl, Nat.zero_le _, Nat.zero_le _, .inl rfl, x4, Fresh.nil _⟩
      | true =>
        have hE := rdE_ok ho hh
        have hN := rdN_ok (m := k.toNat) hE
        rw [hE, hN]
        have hp := (holdB_iff f c x k).1 hh
        have hnc : (n : Int) = c := by rw [Bool.and_eq_true, decide_eq_true_eq] at ho; exact ho.2
        have HH := Lib.hid hh
        obtain ⟨K, hK⟩ : ∃ K : Nat, k = (K : Int) := ⟨k.toNat, by omega⟩
        subst hK
        rw [show ((K : Int)).toNat = K from Int.toNat_natCast K]
        obtain ⟨p1, p2, p3, p4, p5, p6, p7, p8⟩ := hp
        have HNC := Lib.hid hnc
        have HKn : Hid ((x - f).toNat + K ≤ n ∧ 0 ≤ x - f) := Lib.hid (by omega)
        obtain ⟨i0, hi0, hz0, hz1, hz2⟩ := info_parts Tryz.infoCb
        have hKb : K ≤ 1000000 := by omega
        have HB0 : Hid (w.heap.size = w.heap.size) := Lib.hid rfl
        clear ho hE hN hh hnc hk
        go_enter Tryz.func76, Tryz.ntmps76
        go_wp2_with fail
        refine (rown_v HO.out _).mono ?_; rintro e w1 ⟨rfl, x1⟩
        have c0 := x1.made 0 _ rfl
        have c1 := x1.made 1 _ rfl
        have x2 := e0.trans x1
        clear x1 e0
        obtain ⟨A, hA⟩ : ∃ A, A = w.heap.size := ⟨_, rfl⟩
        rw [← hA] at c0 c1 ⊢
        have W1 : WinAt w1 A f c := ⟨c0, c1⟩
        have HA := Lib.hid hA
        clear hA
        go_wp2_with fail
        refine (rwholds_v HH.out _).mono ?_; rintro e w3 ⟨rfl, x3⟩
        have x4 := x2.trans x3
        have W3 := W1.ext x3
        have ha3 := ha.ext x4
        obtain ⟨B, hB⟩ : ∃ B, B = w3.heap.size := ⟨_, rfl⟩
        have hb0 : Below B w3 w3 := by rw [hB]; exact Below.refl _ _
        have HB := Lib.hid hB
        clear c0 c1 x2 x3 W1 hB ha
        go_wp2_with fail
        go_loopw [10, 11] (fun v i wr => ∃ q : Nat, q ≤ K ∧ i = .int .i64 q ∧ wr.ownsRow B 4 1 v q (lstG Value.bool (rdF l f x) q) ∧ Below B w3 wr) (fun _ i _ => K - (intOf i).toNat)
        case atStart => exact ⟨0, Nat.zero_le _, rfl, World.ownsRow_nil _ _ _ _, hb0⟩
        case round =>
          obtain ⟨q, hq, rfl, hown, hbl⟩ := hrel
          have xr : Ext w3 wr := by rw [Ext, ← HB.out]; exact hbl
          by_cases hlt : q < K
          · have hlt' : (q : Int) < K := by omega
            obtain ⟨bb, off, rfl, hbb, hc⟩ := (ha3.ext xr).resolve_left (by have := HKn.out; omega)
            obtain ⟨z, hz⟩ : ∃ z : Nat, z = (x - f).toNat + q := ⟨_, rfl⟩
            have hzi : x - f + (q : Int) = (z : Int) := by have := HKn.out; omega
            have hzn : z < n := by have := HKn.out; omega
            have hzn' : (z : Int) < n := by omega
            have cz := hc z hzn
            have hrz : Hid (l z = rdF l f x q) := Lib.hid (by rw [hz]; rfl)
            obtain ⟨y, hy⟩ : ∃ y, y = l z := ⟨_, rfl⟩
            rw [← hy] at cz
            have HY := Lib.hid hy
            have W4 := W3.ext xr
            have c0 := W4.c0
            have hBs : B ≤ wr.heap.size := by have := hbl.size; rw [HB.out]; exact this
            have hob : ∀ r, u10.ownBlock = some r → B ≤ r := fun r hr => (hown.lt r hr).1
            clear hc hz hy
            go_wp2_with (at_builtin; refine wpList_append_lies _ rfl _ _ _ rfl B 4 i0 _ 1 1 Tryz.underlying26 hi0 hz0 hz1 hz2 rfl (by omega) u10 q _ rfl (hown.alloc _) ⟨wr.heap.size, 0, none⟩ 1 1 [Value.bool y] rfl rfl (World.news_of_block (cs := #[Value.bool y]) (t := 4) (fr := (0, 0)) (heap_alloc_new wr _)) (by simp [Value.oneCell']) (by omega) (by unfold maxLen; omega) (by omega) (by simp; omega) (wr.heap.size + 1) (by simp) ?_; intro gg cap w5 hown5 hgrow hat hlt5)
            have hown6 : w5.ownsRow B 4 1 (.slice (some ⟨gg, 0, none⟩) (q + 1) cap) (q + 1) (lstG Value.bool (rdF l f x) (q + 1)) := by rw [← lstG_succ, ← hrz.out, ← HY.out]; exact hown5
            have hb5 : Below B w3 w5 := (hbl.alloc hBs _).grown hgrow (by simp; omega) hob
            clear hown5 hgrow hat hown hbl hob cz c0
            go_wp2
            go_roundw
            case rel => exact ⟨q + 1, by omega, by go_num, hown6, hb5⟩
            case measure => simp [intOf]; omega
          · obtain rfl : K = q := by omega
            obtain ⟨b9, d9, hv, l9, m9, h9, f9⟩ := HoldsG.of_own_at hown
            have x9 := x4.trans xr
            clear ha3 hown hbl
            go_wp2
            go_ret2
            exact ⟨b9, d9, by rw [← hv]; rfl, l9, m9, h9, x9, fun p hp => by have h1 := f9 p hp; have h2 := x4.size; have h3 := HB.out; omega⟩

set_option maxRecDepth 100000 in
set_option maxHeartbeats 2000000 in
theorem r13SetBits_f (f c x : Int) (a : Option Addr) (n d : Nat) (l : Nat → Bool) (b : Option Addr) (m e : Nat) (v : Nat → Bool) (w : World) (ha : HoldsG Value.bool w a n l) (hv : HoldsG Value.bool w b m v) (hn : n ≤ 1000000) (hm : m ≤ 1000000) :
    Calls Tryz.prog 79 #[.agg #[.int .i64 f, .int .i64 c], .slice a n d, .int .i64 x, .slice b m e] w fun e w' =>
      ∃ y q, e = .returned (.tuple #[.slice y (rdN f c n x m n) q, .int .i64 (rdE f c n x m)]) ∧ rdN f c n x m n ≤ q ∧ q ≤ maxLen ∧ HoldsG Value.bool w' y (rdN f c n x m n) (wrF l v f x m) ∧ Ext w w' ∧ Fresh w y := by
  have e0 := Ext.alloc w (.cells #[.int .i64 f, .int .i64 c] 23)
  cases ho : (rgtB f c && decide ((n : Int) = c)) with
  | false =>
    have hE := rdE_own (x := x) (k := (m : Int)) ho
    have hN := rdN_no (m := n) hE (by decide)
    rw [hE, hN]
    have HO := Lib.hid ho
    clear ho hE hN
    go_enter Tryz.func79, Tryz.ntmps79
    go_wp2_with fail
    refine (rown_v HO.out _).mono ?_; rintro e w1 ⟨rfl, x1⟩
    have x2 := e0.trans x1
    go_wp2
    go_ret2
    exact ⟨_, _, rfl, Nat.zero_le _, Nat.zero_le _, .inl rfl, x2, Fresh.nil _⟩
  | true =>
    have HO := Lib.hid ho
    by_cases hk : m = 0
    · have hE := rdE_few (f := f) (c := c) (n := n) (x := x) (k := (m : Int)) (by omega)
      have hN := rdN_no (m := n) hE (by decide)
      rw [hE, hN]
      clear ho hE hN
      subst hk
      go_enter Tryz.func79, Tryz.ntmps79
      go_wp2_with fail
      refine (rown_v HO.out _).mono ?_; rintro e w1 ⟨rfl, x1⟩
      have x2 := e0.trans x1
      go_wp2
      go_ret2
      exact ⟨_, _, rfl, Nat.zero_le _, Nat.zero_le _, .inl rfl, x2, Fresh.nil _⟩
    · have hmz : ((m : Int) == 0) = false := by simp; omega
      cases hh : holdB f c x m with
      | false =>
        have hE := rdE_out ho (by omega) hh
        have hN := rdN_no (m := n) hE (by decide)
        rw [hE, hN]
        have HH := Lib.hid hh
        have HK := Lib.hid hk
        clear ho hE hN hh hk
        go_enter Tryz.func79, Tryz.ntmps79
        go_wp2_with fail
        refine (rown_v HO.out _).mono ?_; rintro e w1 ⟨rfl, x1⟩
        have c0 := x1.made 0 _ rfl
        have c1 := x1.made 1 _ rfl
        have x2 := e0.trans x1
        clear x1 e0
        go_wp2_with fail
        refine (rwholds_v HH.out _).mono ?_; rintro e w3 ⟨rfl, x3⟩
        have x4 := x2.trans x3
        go_wp2
        go_ret2
        exact ⟨_, _, rfl, Nat.zero_le _, Nat.zero_le _, .inl rfl, x4, Fresh.nil _⟩
      | true =>
        have hE := rdE_ok ho hh
        have hN := rdN_ok (m := n) hE
        rw [hE, hN]
        have hp := (holdB_iff f c x m).1 hh
        have hnc : (n : Int) = c := by rw [Bool.and_eq_true, decide_eq_true_eq] at ho; exact ho.2
        have HH := Lib.hid hh
        obtain ⟨p1, p2, p3, p4, p5, p6, p7, p8⟩ := hp
        have HNC := Lib.hid hnc
        have HKn : Hid ((x - f).toNat + m ≤ n ∧ 0 ≤ x - f ∧ 0 < n) := Lib.hid (by omega)
        obtain ⟨i0, hi0, hz0, hz1, hz2⟩ := info_parts Tryz.infoCb
        have HK := Lib.hid hk
        clear ho hE hN hh hnc hk
        go_enter Tryz.func79, Tryz.ntmps79
        go_wp2_with fail
        refine (rown_v HO.out _).mono ?_; rintro e w1 ⟨rfl, x1⟩
        have c0 := x1.made 0 _ rfl
        have c1 := x1.made 1 _ rfl
        have x2 := e0.trans x1
        clear x1 e0
        obtain ⟨A, hA⟩ : ∃ A, A = w.heap.size := ⟨_, rfl⟩
        rw [← hA] at c0 c1 ⊢
        have W1 : WinAt w1 A f c := ⟨c0, c1⟩
        have HA := Lib.hid hA
        clear hA
        go_wp2_with fail
        refine (rwholds_v HH.out _).mono ?_; rintro e w3 ⟨rfl, x3⟩
        have x4 := x2.trans x3
        have W3 := W1.ext x3
        have ha3 := ha.ext x4
        have hv3 := hv.ext x4
        clear c0 c1 x2 x3 W1 ha hv hmz
        go_wp2_with (at_builtin; refine wpList_append_holds rfl (.tmp 28) (.tmp 29) _ rfl w3.heap.size 4 i0 _ 1 Tryz.underlying26 hi0 hz0 hz1 hz2 rfl _ 0 [] rfl (World.ownsRow_lit w3 #[] 0 (Nat.le_refl _) (by unfold maxLen; omega) rfl) a n d l rfl (ha3.ext (Ext.alloc _ _)) (fun _ => rfl) (by unfold maxLen; omega) (by omega) (by simp) ?_; intro v5 w5 hown5 hgrow5 hbl5)
        rw [Nat.zero_add, List.nil_append] at hown5
        have x5 : Ext w3 w5 := Below.trans (Ext.alloc _ _) (hbl5.mono (by first | exact Nat.le_refl _ | simp))
        obtain ⟨B, cap, rfl, hB, hcap, hcm, R5⟩ := RowN.of_own hown5 HKn.out.2.2
        have R6 : RowN Value.bool 4 w5 B n (wrF l v f x 0) := by rw [wrF_zero]; exact R5
        have HB := Lib.hid hB
        have HCap := Lib.hid (And.intro hcap hcm)
        clear hown5 hgrow5 hbl5 R5 hB hcap hcm ha3
        go_wp2_with fail
        go_loopw [11] (fun i wr => ∃ q : Nat, q ≤ m ∧ i = .int .i64 q ∧ RowN Value.bool 4 wr B n (wrF l v f x q) ∧ Ext w3 wr) (fun i _ => m - (intOf i).toNat)
        case atStart => exact ⟨0, Nat.zero_le _, rfl, R6, x5⟩
        case round =>
          clear R6 x5
          obtain ⟨q, hq, rfl, R, xr⟩ := hrel
          by_cases hlt : q < m
          · have hlt' : (q : Int) < m := by omega
            obtain ⟨bb, off, rfl, hbb, hc⟩ := (hv3.ext xr).resolve_left (by omega)
            obtain ⟨z, hz⟩ : ∃ z : Nat, z = (x - f).toNat + q := ⟨_, rfl⟩
            have hzi : x - f + (q : Int) = (z : Int) := by have := HKn.out; omega
            have hzn : z < n := by have := HKn.out; omega
            have hzn' : (z : Int) < n := by omega
            have cz := hc q hlt
            obtain ⟨y, hy⟩ : ∃ y, y = v q := ⟨_, rfl⟩
            rw [← hy] at cz
            have W4 := W3.ext xr
            have c0 := W4.c0
            have f0 := R.frozen z
            have r0 := R.cell z hzn
            have hBl := R.lt
            have RS : RowN Value.bool 4 (wr.drew.setCell ⟨B, z, none⟩ (Value.bool y)) B n (wrF l v f x (q + 1)) := by
              rw [← upd_wrF, ← hz, ← hy]; exact R.drew.set z y
            have xs : Ext w3 (wr.drew.setCell ⟨B, z, none⟩ (Value.bool y)) := Below.setCell (ext_drew xr) HB.out _
            have HRS := Lib.hid (And.intro RS xs)
            clear hc hz hy RS xs R
            go_wp2_with fail
            go_region
            all_goals go_wp2_with fail
            all_goals go_roundw
            case rel => exact ⟨q + 1, by omega, by go_num, HRS.out.1, HRS.out.2⟩
            case measure => simp [intOf]; omega
          · obtain rfl : m = q := by omega
            have x9 := x4.trans xr
            go_wp2
            go_ret2
            exact ⟨_, _, rfl, HCap.out.1, HCap.out.2, R.holds, x9, fun p hp => by cases hp; exact Nat.le_trans x4.size HB.out⟩

set_option maxRecDepth 100000 in
set_option maxHeartbeats 2000000 in
theorem r13Words_f (f c x k : Int) (a : Option Addr) (n d : Nat) (l : Nat → Int) (w : World) (ha : HoldsG (Value.int .u16) w a n l) (hn : n ≤ 1000000) :
    Calls Tryz.prog 77 #[.agg #[.int .i64 f, .int .i64 c], .slice a n d, .int .i64 x, .int .i64 k] w fun e w' =>
      ∃ b q, e = .returned (.tuple #[.slice b (rdN f c n x k k.toNat) q, .int .i64 (rdE f c n x k)]) ∧ rdN f c n x k k.toNat ≤ q ∧ q ≤ maxLen ∧ HoldsG (Value.int .u16) w' b (rdN f c n x k k.toNat) (rdF l f x) ∧ Ext w w' ∧ Fresh w b := by
  have e0 := Ext.alloc w (.cells #[.int .i64 f, .int .i64 c] 23)
  cases ho : (rgtB f c && decide ((n : Int) = c)) with
  | false =>
    have hE := rdE_own (x := x) (k := k) ho
    have hN := rdN_no (m := k.toNat) hE (by decide)
    rw [hE, hN]
    have HO := Lib.hid ho
    clear ho hE hN
    go_enter Tryz.func77, Tryz.ntmps77
    go_wp2_with fail
    refine (rown_v HO.out _).mono ?_; rintro e w1 ⟨rfl, x1⟩
    have x2 := e0.trans x1
    go_wp2
    go_ret2
    exact ⟨_, _, rfl, Nat.zero_le _, Nat.zero_le _, .inl rfl, x2, Fresh.nil _⟩
  | true =>
    have HO := Lib.hid ho
    by_cases hk : k < 1
    · have hE := rdE_few (f := f) (c := c) (n := n) (x := x) hk
      have hN := rdN_no (m := k.toNat) hE (by decide)
      rw [hE, hN]
      clear ho hE hN
      go_enter Tryz.func77, Tryz.ntmps77
      go_wp2_with fail
      refine (rown_v HO.out _).mono ?_; rintro e w1 ⟨rfl, x1⟩
      have x2 := e0.trans x1
      go_wp2
      go_ret2
      exact ⟨_, _, rfl, Nat.zero_le _, Nat.zero_le _, .inl rfl, x2, Fresh.nil _⟩
    · cases hh : holdB f c x k with
      | false =>
        have hE := rdE_out ho (by omega) hh
        have hN := rdN_no (m := k.toNat) hE (by decide)
        rw [hE, hN]
        have HH := Lib.hid hh
        clear ho hE hN hh
        go_enter Tryz.func77, Tryz.ntmps77
        go_wp2_with fail
        refine (rown_v HO.out _).mono ?_; rintro e w1 ⟨rfl, x1⟩
        have c0 := x1.made 0 _ rfl
        have c1 := x1.made 1 _ rfl
        have x2 := e0.trans x1
        clear x1 e0
        go_wp2_with fail
        refine (rwholds_v HH.out _).mono ?_; rintro e w3 ⟨rfl, x3⟩
        have x4 := x2.trans x3
        go_wp2
        go_ret2
        exact ⟨_, _, rfl, Nat.zero_le _, Nat.zero_le _, .inl rfl, x4, Fresh.nil _⟩
      | true =>
        have hE := rdE_ok ho hh
        have hN := rdN_ok (m := k.toNat) hE
        rw [hE, hN]
        have hp := (holdB_iff f c x k).1 hh
        have hnc : (n : Int) = c := by rw [Bool.and_eq_true, decide_eq_true_eq] at ho; exact ho.2
        have HH := Lib.hid hh
        obtain ⟨K, hK⟩ : ∃ K : Nat, k = (K : Int) := ⟨k.toNat, by omega⟩
        subst hK
        rw [show ((K : Int)).toNat = K from Int.toNat_natCast K]
        obtain ⟨p1, p2, p3, p4, p5, p6, p7, p8⟩ := hp
        have HNC := Lib.hid hnc
        have HKn : Hid ((x - f).toNat + K ≤ n ∧ 0 ≤ x - f) := Lib.hid (by omega)
        obtain ⟨i0, hi0, hz0, hz1, hz2⟩ := info_parts Tryz.infoCw
        have hKb : K ≤ 1000000 := by omega
        have HB0 : Hid (w.heap.size = w.heap.size) := Lib.hid rfl
        clear ho hE hN hh hnc hk
        go_enter Tryz.func77, Tryz.ntmps77
        go_wp2_with fail
        refine (rown_v HO.out _).mono ?_; rintro e w1 ⟨rfl, x1⟩
        have c0 := x1.made 0 _ rfl
        have c1 := x1.made 1 _ rfl
        have x2 := e0.trans x1
        clear x1 e0
        obtain ⟨A, hA⟩ : ∃ A, A = w.heap.size := ⟨_, rfl⟩
        rw [← hA] at c0 c1 ⊢
        have W1 : WinAt w1 A f c := ⟨c0, c1⟩
        have HA := Lib.hid hA
        clear hA
        go_wp2_with fail
        refine (rwholds_v HH.out _).mono ?_; rintro e w3 ⟨rfl, x3⟩
        have x4 := x2.trans x3
        have W3 := W1.ext x3
        have ha3 := ha.ext x4
        obtain ⟨B, hB⟩ : ∃ B, B = w3.heap.size := ⟨_, rfl⟩
        have hb0 : Below B w3 w3 := by rw [hB]; exact Below.refl _ _
        have HB := Lib.hid hB
        clear c0 c1 x2 x3 W1 hB ha
        go_wp2_with fail
        go_loopw [10, 11] (fun v i wr => ∃ q : Nat, q ≤ K ∧ i = .int .i64 q ∧ wr.ownsRow B 59 1 v q (lstG (Value.int .u16) (rdF l f x) q) ∧ Below B w3 wr) (fun _ i _ => K - (intOf i).toNat)
        case atStart => exact ⟨0, Nat.zero_le _, rfl, World.ownsRow_nil _ _ _ _, hb0⟩
        case round =>
          obtain ⟨q, hq, rfl, hown, hbl⟩ := hrel
          have xr : Ext w3 wr := by rw [Ext, ← HB.out]; exact hbl
          by_cases hlt : q < K
          · have hlt' : (q : Int) < K := by omega
            obtain ⟨bb, off, rfl, hbb, hc⟩ := (ha3.ext xr).resolve_left (by have := HKn.out; omega)
            obtain ⟨z, hz⟩ : ∃ z : Nat, z = (x - f).toNat + q := ⟨_, rfl⟩
            have hzi : x - f + (q : Int) = (z : Int) := by have := HKn.out; omega
            have hzn : z < n := by have := HKn.out; omega
            have hzn' : (z : Int) < n := by omega
            have cz := hc z hzn
            have hrz : Hid (l z = rdF l f x q) := Lib.hid (by rw [hz]; rfl)
            obtain ⟨y, hy⟩ : ∃ y, y = l z := ⟨_, rfl⟩
            rw [← hy] at cz
            have HY := Lib.hid hy
            have W4 := W3.ext xr
            have c0 := W4.c0
            have hBs : B ≤ wr.heap.size := by have := hbl.size; rw [HB.out]; exact this
            have hob : ∀ r, u10.ownBlock = some r → B ≤ r := fun r hr => (hown.lt r hr).1
            clear hc hz hy
            go_wp2_with (at_builtin; refine wpList_append_lies _ rfl _ _ _ rfl B 59 i0 _ 1 2 Tryz.underlying27 hi0 hz0 hz1 hz2 rfl (by omega) u10 q _ rfl (hown.alloc _) ⟨wr.heap.size, 0, none⟩ 1 1 [(Value.int .u16) y] rfl rfl (World.news_of_block (cs := #[(Value.int .u16) y]) (t := 59) (fr := (0, 0)) (heap_alloc_new wr _)) (by simp [Value.oneCell']) (by omega) (by unfold maxLen; omega) (by omega) (by simp; omega) (wr.heap.size + 1) (by simp) ?_; intro gg cap w5 hown5 hgrow hat hlt5)
            have hown6 : w5.ownsRow B 59 1 (.slice (some ⟨gg, 0, none⟩) (q + 1) cap) (q + 1) (lstG (Value.int .u16) (rdF l f x) (q + 1)) := by rw [← lstG_succ, ← hrz.out, ← HY.out]; exact hown5
            have hb5 : Below B w3 w5 := (hbl.alloc hBs _).grown hgrow (by simp; omega) hob
            clear hown5 hgrow hat hown hbl hob cz c0
            go_wp2
            go_roundw
            case rel => exact ⟨q + 1, by omega, by go_num, hown6, hb5⟩
            case measure => simp [intOf]; omega
          · obtain rfl : K = q := by omega
            obtain ⟨b9, d9, hv, l9, m9, h9, f9⟩ := HoldsG.of_own_at hown
            have x9 := x4.trans xr
            clear ha3 hown hbl
            go_wp2
            go_ret2
            exact ⟨b9, d9, by rw [← hv]; rfl, l9, m9, h9, x9, fun p hp => by have h1 := f9 p hp; have h2 := x4.size; have h3 := HB.out; omega⟩

set_option maxRecDepth 100000 in
set_option maxHeartbeats 2000000 in
theorem r13SetWords_f (f c x : Int) (a : Option Addr) (n d : Nat) (l : Nat → Int) (b : Option Addr) (m e : Nat) (v : Nat → Int) (w : World) (ha : HoldsG (Value.int .u16) w a n l) (hv : HoldsG (Value.int .u16) w b m v) (hn : n ≤ 1000000) (hm : m ≤ 1000000) :
    Calls Tryz.prog 80 #[.agg #[.int .i64 f, .int .i64 c], .slice a n d, .int .i64 x, .slice b m e] w fun e w' =>
      ∃ y q, e = .returned (.tuple #[.slice y (rdN f c n x m n) q, .int .i64 (rdE f c n x m)]) ∧ rdN f c n x m n ≤ q ∧ q ≤ maxLen ∧ HoldsG (Value.int .u16) w' y (rdN f c n x m n) (wrF l v f x m) ∧ Ext w w' ∧ Fresh w y := by
  have e0 := Ext.alloc w (.cells #[.int .i64 f, .int .i64 c] 23)
  cases ho : (rgtB f c && decide ((n : Int) = c)) with
  | false =>
    have hE := rdE_own (x := x) (k := (m : Int)) ho
    have hN := rdN_no (m := n) hE (by decide)
    rw [hE, hN]
    have HO := Lib.hid ho
    clear ho hE hN
    go_enter Tryz.func80, Tryz.ntmps80
    go_wp2_with fail
    refine (rown_v HO.out _).mono ?_; rintro e w1 ⟨rfl, x1⟩
    have x2 := e0.trans x1
    go_wp2
    go_ret2
    exact ⟨_, _, rfl, Nat.zero_le _, Nat.zero_le _, .inl rfl, x2, Fresh.nil _⟩
  | true =>
    have HO := Lib.hid ho
    by_cases hk : m = 0
    · have hE := rdE_few (f := f) (c := c) (n := n) (x := x) (k := (m : Int)) (by omega)
      have hN := rdN_no (m := n) hE (by decide)
      rw [hE, hN]
      clear ho hE hN
      subst hk
      go_enter Tryz.func80, Tryz.ntmps80
      go_wp2_with fail
      refine (rown_v HO.out _).mono ?_; rintro e w1 ⟨rfl, x1⟩
      have x2 := e0.trans x1
      go_wp2
      go_ret2
      exact ⟨_, _, rfl, Nat.zero_le _, Nat.zero_le _, .inl rfl, x2, Fresh.nil _⟩
    · have hmz : ((m : Int) == 0) = false := by simp; omega
      cases hh : holdB f c x m with
      | false =>
        have hE := rdE_out ho (by omega) hh
        have hN := rdN_no (m := n) hE (by decide)
        rw [hE, hN]
        have HH := Lib.hid hh
        have HK := Lib.hid hk
        clear ho hE hN hh hk
        go_enter Tryz.func80, Tryz.ntmps80
        go_wp2_with fail
        refine (rown_v HO.out _).mono ?_; rintro e w1 ⟨rfl, x1⟩
        have c0 := x1.made 0 _ rfl
        have c1 := x1.made 1 _ rfl
        have x2 := e0.trans x1
        clear x1 e0
        go_wp2_with fail
        refine (rwholds_v HH.out _).mono ?_; rintro e w3 ⟨rfl, x3⟩
        have x4 := x2.trans x3
        go_wp2
        go_ret2
        exact ⟨_, _, rfl, Nat.zero_le _, Nat.zero_le _, .inl rfl, x4, Fresh.nil _⟩
      | true =>
        have hE := rdE_ok ho hh
        have hN := rdN_ok (m := n) hE
        rw [hE, hN]
        have hp := (holdB_iff f c x m).1 hh
        have hnc : (n : Int) = c := by rw [Bool.and_eq_true, decide_eq_true_eq] at ho; exact ho.2
        have HH := Lib.hid hh
        obtain ⟨p1, p2, p3, p4, p5, p6, p7, p8⟩ := hp
        have HNC := Lib.hid hnc
        have HKn : Hid ((x - f).toNat + m ≤ n ∧ 0 ≤ x - f ∧ 0 < n) := Lib.hid (by omega)
        obtain ⟨i0, hi0, hz0, hz1, hz2⟩ := info_parts Tryz.infoCw
        have HK := Lib.hid hk
        clear ho hE hN hh hnc hk
        go_enter Tryz.func80, Tryz.ntmps80
        go_wp2_with fail
        refine (rown_v HO.out _).mono ?_; rintro e w1 ⟨rfl, x1⟩
        have c0 := x1.made 0 _ rfl
        have c1 := x1.made 1 _ rfl
        have x2 := e0.trans x1
        clear x1 e0
        obtain ⟨A, hA⟩ : ∃ A, A = w.heap.size := ⟨_, rfl⟩
        rw [← hA] at c0 c1 ⊢
        have W1 : WinAt w1 A f c := ⟨c0, c1⟩
        have HA := Lib.hid hA
        clear hA
        go_wp2_with fail
        refine (rwholds_v HH.out _).mono ?_; rintro e w3 ⟨rfl, x3⟩
        have x4 := x2.trans x3
        have W3 := W1.ext x3
        have ha3 := ha.ext x4
        have hv3 := hv.ext x4
        clear c0 c1 x2 x3 W1 ha hv hmz
        go_wp2_with (at_builtin; refine wpList_append_holds rfl (.tmp 28) (.tmp 29) _ rfl w3.heap.size 59 i0 _ 2 Tryz.underlying27 hi0 hz0 hz1 hz2 rfl _ 0 [] rfl (World.ownsRow_lit w3 #[] 0 (Nat.le_refl _) (by unfold maxLen; omega) rfl) a n d l rfl (ha3.ext (Ext.alloc _ _)) (fun _ => rfl) (by unfold maxLen; omega) (by omega) (by simp) ?_; intro v5 w5 hown5 hgrow5 hbl5)
        rw [Nat.zero_add, List.nil_append] at hown5
        have x5 : Ext w3 w5 := Below.trans (Ext.alloc _ _) (hbl5.mono (by first | exact Nat.le_refl _ | simp))
        obtain ⟨B, cap, rfl, hB, hcap, hcm, R5⟩ := RowN.of_own hown5 HKn.out.2.2
        have R6 : RowN (Value.int .u16) 59 w5 B n (wrF l v f x 0) := by rw [wrF_zero]; exact R5
        have HB := Lib.hid hB
        have HCap := Lib.hid (And.intro hcap hcm)
        clear hown5 hgrow5 hbl5 R5 hB hcap hcm ha3
        go_wp2_with fail
        go_loopw [11] (fun i wr => ∃ q : Nat, q ≤ m ∧ i = .int .i64 q ∧ RowN (Value.int .u16) 59 wr B n (wrF l v f x q) ∧ Ext w3 wr) (fun i _ => m - (intOf i).toNat)
        case atStart => exact ⟨0, Nat.zero_le _, rfl, R6, x5⟩
        case round =>
          clear R6 x5
          obtain ⟨q, hq, rfl, R, xr⟩ := hrel
          by_cases hlt : q < m
          · have hlt' : (q : Int) < m := by omega
            obtain ⟨bb, off, rfl, hbb, hc⟩ := (hv3.ext xr).resolve_left (by omega)
            obtain ⟨z, hz⟩ : ∃ z : Nat, z = (x - f).toNat + q := ⟨_, rfl⟩
            have hzi : x - f + (q : Int) = (z : Int) := by have := HKn.out; omega
            have hzn : z < n := by have := HKn.out; omega
            have hzn' : (z : Int) < n := by omega
            have cz := hc q hlt
            obtain ⟨y, hy⟩ : ∃ y, y = v q := ⟨_, rfl⟩
            rw [← hy] at cz
            have W4 := W3.ext xr
            have c0 := W4.c0
            have f0 := R.frozen z
            have r0 := R.cell z hzn
            have hBl := R.lt
            have RS : RowN (Value.int .u16) 59 (wr.drew.setCell ⟨B, z, none⟩ ((Value.int .u16) y)) B n (wrF l v f x (q + 1)) := by
              rw [← upd_wrF, ← hz, ← hy]; exact R.drew.set z y
            have xs : Ext w3 (wr.drew.setCell ⟨B, z, none⟩ ((Value.int .u16) y)) := Below.setCell (ext_drew xr) HB.out _
            have HRS := Lib.hid (And.intro RS xs)
            clear hc hz hy RS xs R
            go_wp2_with fail
            go_region
            all_goals go_wp2_with fail
            all_goals go_roundw
            case rel => exact ⟨q + 1, by omega, by go_num, HRS.out.1, HRS.out.2⟩
            case measure => simp [intOf]; omega
          · obtain rfl : m = q := by omega
            have x9 := x4.trans xr
            go_wp2
            go_ret2
            exact ⟨_, _, rfl, HCap.out.1, HCap.out.2, R.holds, x9, fun p hp => by cases hp; exact Nat.le_trans x4.size HB.out⟩
/-- What a call that reads tells; the cells are new. -/
def RdPostF {α : Type} (mk : α → Value) (f c x k : Int) (n : Nat) (l : Nat → α) (w : World) (e : Ending) (w' : World) : Prop :=
  ∃ b q, e = .returned (.tuple #[.slice b (rdN f c n x k k.toNat) q, .int .i64 (rdE f c n x k)]) ∧ rdN f c n x k k.toNat ≤ q ∧ q ≤ maxLen ∧ HoldsG mk w' b (rdN f c n x k k.toNat) (rdF l f x) ∧ Ext w w' ∧ Fresh w b
def WrPostF {α : Type} (mk : α → Value) (f c x : Int) (n : Nat) (l : Nat → α) (m : Nat) (v : Nat → α) (w : World) (e : Ending) (w' : World) : Prop :=
  ∃ y q, e = .returned (.tuple #[.slice y (rdN f c n x m n) q, .int .i64 (rdE f c n x m)]) ∧ rdN f c n x m n ≤ q ∧ q ≤ maxLen ∧ HoldsG mk w' y (rdN f c n x m n) (wrF l v f x m) ∧ Ext w w' ∧ Fresh w y
def RdCF {α : Type} (mk : α → Value) (F : FuncId) : Prop :=
  ∀ (f c x k : Int) (a : Option Addr) (n d : Nat) (l : Nat → α) (w : World), HoldsG mk w a n l → n ≤ d → d ≤ maxLen → n ≤ 1000000 → (Lit.int .i64 x).wf = true → (Lit.int .i64 k).wf = true →
    Calls Tryz.prog F #[.agg #[.int .i64 f, .int .i64 c], .slice a n d, .int .i64 x, .int .i64 k] w (RdPostF mk f c x k n l w)
def WrCF {α : Type} (mk : α → Value) (F : FuncId) : Prop :=
  ∀ (f c x : Int) (a : Option Addr) (n d : Nat) (l : Nat → α) (b : Option Addr) (m e : Nat) (v : Nat → α) (w : World), HoldsG mk w a n l → n ≤ d → d ≤ maxLen → n ≤ 1000000 → HoldsG mk w b m v → m ≤ e → e ≤ maxLen → m ≤ 1000000 → (Lit.int .i64 x).wf = true →
    Calls Tryz.prog F #[.agg #[.int .i64 f, .int .i64 c], .slice a n d, .int .i64 x, .slice b m e] w (WrPostF mk f c x n l m v w)
end Go.Proofs.YtlafnobjfajamaaGreat
namespace Go.Proofs.YtlafnobjfajamaaGreat
open Go.RowKit
set_option linter.unusedVariables false

/-- A file: five windows (coils, inputs, holding, regs, broken), four tables. -/
structure Fil where
  cf : Int
  cc : Int
  jf : Int
  jc : Int
  hf : Int
  hc : Int
  rf : Int
  rc : Int
  bf : Int
  bc : Int
  nC : Nat
  C : Nat → Bool
  nI : Nat
  I : Nat → Bool
  nH : Nat
  H : Nat → Int
  nR : Nat
  R : Nat → Int
/-- Where the tables lie. -/
structure FilV where
  a1 : Option Addr
  d1 : Nat
  a2 : Option Addr
  d2 : Nat
  a3 : Option Addr
  d3 : Nat
  a4 : Option Addr
  d4 : Nat
/-- A bank's ten cells. -/
def bnkC (F : Fil) : Array Value := #[.int .i64 F.cf, .int .i64 F.cc, .int .i64 F.jf, .int .i64 F.jc, .int .i64 F.hf, .int .i64 F.hc, .int .i64 F.rf, .int .i64 F.rc, .int .i64 F.bf, .int .i64 F.bc]
/-- A file's fourteen cells. -/
def filC (V : FilV) (F : Fil) : Array Value := #[.int .i64 F.cf, .int .i64 F.cc, .int .i64 F.jf, .int .i64 F.jc, .int .i64 F.hf, .int .i64 F.hc, .int .i64 F.rf, .int .i64 F.rc, .int .i64 F.bf, .int .i64 F.bc, .slice V.a1 F.nC V.d1, .slice V.a2 F.nI V.d2, .slice V.a3 F.nH V.d3, .slice V.a4 F.nR V.d4]
/-- The tables' cells lie there. -/
structure FilAt (w : World) (V : FilV) (F : Fil) : Prop where
  h1 : HoldsG Value.bool w V.a1 F.nC F.C
  l1 : F.nC ≤ V.d1
  m1 : V.d1 ≤ maxLen
  h2 : HoldsG Value.bool w V.a2 F.nI F.I
  l2 : F.nI ≤ V.d2
  m2 : V.d2 ≤ maxLen
  h3 : HoldsG (Value.int .u16) w V.a3 F.nH F.H
  l3 : F.nH ≤ V.d3
  m3 : V.d3 ≤ maxLen
  h4 : HoldsG (Value.int .u16) w V.a4 F.nR F.R
  l4 : F.nR ≤ V.d4
  m4 : V.d4 ≤ maxLen
theorem FilAt.ext {w w' : World} {V : FilV} {F : Fil} (h : FilAt w V F) (x : Ext w w') : FilAt w' V F :=
  ⟨h.h1.ext x, h.l1, h.m1, h.h2.ext x, h.l2, h.m2, h.h3.ext x, h.l3, h.m3, h.h4.ext x, h.l4, h.m4⟩
/-- May the bank be? -/
def bankB (F : Fil) : Bool := rgtB F.cf F.cc && rgtB F.jf F.jc && rgtB F.hf F.hc && rgtB F.rf F.rc && rgtB F.bf F.bc
/-- May the file be? -/
def rightB (F : Fil) : Bool := bankB F && decide ((F.nC : Int) = F.cc) && decide ((F.nI : Int) = F.jc) && decide ((F.nH : Int) = F.hc) && decide ((F.nR : Int) = F.rc)
/-- Have two the same banks? -/
def sbankB (F G : Fil) : Bool := eqW F.cf F.cc G.cf G.cc && eqW F.jf F.jc G.jf G.jc && eqW F.hf F.hc G.hf G.hc && eqW F.rf F.rc G.rf G.rc && eqW F.bf F.bc G.bf G.bc
/-- Are two the same? -/
def sameF (F G : Fil) : Bool := sbankB F G && eqG F.nC G.nC F.C G.C && eqG F.nI G.nI F.I G.I && eqB F.nH G.nH F.H G.H && eqB F.nR G.nR F.R G.R
/-- No file. -/
def zeroF : Fil := ⟨0, 0, 0, 0, 0, 0, 0, 0, 0, 0, 0, fun _ => false, 0, fun _ => false, 0, fun _ => 0, 0, fun _ => 0⟩
def zeroV : FilV := ⟨none, 0, none, 0, none, 0, none, 0⟩
theorem zero_at (w : World) : FilAt w zeroV zeroF := ⟨.inl rfl, Nat.le_refl _, Nat.zero_le _, .inl rfl, Nat.le_refl _, Nat.zero_le _, .inl rfl, Nat.le_refl _, Nat.zero_le _, .inl rfl, Nat.le_refl _, Nat.zero_le _⟩
/-- A new file of a bank. -/
def newF (F : Fil) : Fil := { F with nC := F.cc.toNat, C := fun _ => false, nI := F.jc.toNat, I := fun _ => false, nH := F.hc.toNat, H := fun _ => 0, nR := F.rc.toNat, R := fun _ => 0 }

/-- Reading bits: the error; how many; which. -/
def bitE (F : Fil) (i : Bool) (x k : Int) : Int := if rightB F = true then (if i = true then rdE F.jf F.jc F.nI x k else rdE F.cf F.cc F.nC x k) else 11
def bitN (F : Fil) (i : Bool) (x k : Int) : Nat := if bitE F i x k = 0 then k.toNat else 0
def bitL (F : Fil) (i : Bool) (x : Int) : Nat → Bool := if i = true then rdF F.I F.jf x else rdF F.C F.cf x
/-- Reading words. -/
def brkE (F : Fil) (e x k : Int) : Int := if e = 0 ∧ meetB F.bf F.bc x k = true then 4 else e
def wrdE (F : Fil) (i : Bool) (x k : Int) : Int := if rightB F = true then (if i = true then rdE F.rf F.rc F.nR x k else brkE F (rdE F.hf F.hc F.nH x k) x k) else 11
def wrdN (F : Fil) (i : Bool) (x k : Int) : Nat := if wrdE F i x k = 0 then k.toNat else 0
def wrdL (F : Fil) (i : Bool) (x : Int) : Nat → Int := if i = true then rdF F.R F.rf x else rdF F.H F.hf x
/-- Writing. -/
def sbE (F : Fil) (x : Int) (m : Nat) : Int := if rightB F = true then rdE F.cf F.cc F.nC x m else 11
def sbF (F : Fil) (x : Int) (m : Nat) (v : Nat → Bool) : Fil := if sbE F x m = 0 then { F with C := wrF F.C v F.cf x m } else zeroF
def swE (F : Fil) (x : Int) (m : Nat) : Int := if rightB F = true then brkE F (rdE F.hf F.hc F.nH x m) x m else 11
def swF (F : Fil) (x : Int) (m : Nat) (v : Nat → Int) : Fil := if swE F x m = 0 then { F with H := wrF F.H v F.hf x m } else zeroF
/-- What a call tells that tells cells and an error: the cells are new. -/
def SlP {α : Type} (mk : α → Value) (E : Int) (N : Nat) (l : Nat → α) (w : World) (e : Ending) (w' : World) : Prop :=
  ∃ b q, e = .returned (.tuple #[.slice b N q, .int .i64 E]) ∧ N ≤ q ∧ q ≤ maxLen ∧ HoldsG mk w' b N l ∧ Ext w w' ∧ Fresh w b
theorem RdPostF.sl {α : Type} {mk : α → Value} {f c x k : Int} {n : Nat} {l : Nat → α} {w : World} {e : Ending} {w' : World} (h : RdPostF mk f c x k n l w e w') : SlP mk (rdE f c n x k) (rdN f c n x k k.toNat) (rdF l f x) w e w' := h
theorem WrPostF.sl {α : Type} {mk : α → Value} {f c x : Int} {n : Nat} {l : Nat → α} {m : Nat} {v : Nat → α} {w : World} {e : Ending} {w' : World} (h : WrPostF mk f c x n l m v w e w') : SlP mk (rdE f c n x m) (rdN f c n x m n) (wrF l v f x m) w e w' := h
/-- Each table of a file lies where one of another file does, or is new. -/
structure From (w : World) (V0 : FilV) (F : Fil) (V : FilV) (G : Fil) : Prop where
  f1 : (V.a1 = V0.a1 ∧ G.nC = F.nC) ∨ Fresh w V.a1
  f2 : (V.a2 = V0.a2 ∧ G.nI = F.nI) ∨ Fresh w V.a2
  f3 : (V.a3 = V0.a3 ∧ G.nH = F.nH) ∨ Fresh w V.a3
  f4 : (V.a4 = V0.a4 ∧ G.nR = F.nR) ∨ Fresh w V.a4
/-- What a call tells that tells a file and an error. -/
def FP (E : Int) (G : Fil) (V0 : FilV) (F : Fil) (w : World) (e : Ending) (w' : World) : Prop :=
  ∃ V, e = .returned (.tuple #[.agg (filC V G), .int .i64 E]) ∧ FilAt w' V G ∧ Ext w w' ∧ From w V0 F V G
theorem From.refl (w : World) (V : FilV) (F : Fil) : From w V F V F := ⟨.inl ⟨rfl, rfl⟩, .inl ⟨rfl, rfl⟩, .inl ⟨rfl, rfl⟩, .inl ⟨rfl, rfl⟩⟩
theorem From.zero (w : World) (V : FilV) (F : Fil) : From w V F zeroV zeroF := ⟨.inr (Fresh.nil w), .inr (Fresh.nil w), .inr (Fresh.nil w), .inr (Fresh.nil w)⟩
theorem Fresh.back {w a : World} {x : Option Addr} (h : Fresh a x) (e : Ext w a) : Fresh w x := fun p hp => Nat.le_trans e.size (h p hp)
theorem From.trans {w a : World} {V0 V1 V2 : FilV} {F0 F1 F2 : Fil} (h : From w V0 F0 V1 F1) (k : From a V1 F1 V2 F2) (e : Ext w a) : From w V0 F0 V2 F2 := by
  refine ⟨?_, ?_, ?_, ?_⟩
  · rcases k.f1 with ⟨k1, k2⟩ | k1
    · rcases h.f1 with ⟨h1, h2⟩ | h1
      · exact .inl ⟨k1.trans h1, k2.trans h2⟩
      · exact .inr (by rw [k1]; exact h1)
    · exact .inr (k1.back e)
  · rcases k.f2 with ⟨k1, k2⟩ | k1
    · rcases h.f2 with ⟨h1, h2⟩ | h1
      · exact .inl ⟨k1.trans h1, k2.trans h2⟩
      · exact .inr (by rw [k1]; exact h1)
    · exact .inr (k1.back e)
  · rcases k.f3 with ⟨k1, k2⟩ | k1
    · rcases h.f3 with ⟨h1, h2⟩ | h1
      · exact .inl ⟨k1.trans h1, k2.trans h2⟩
      · exact .inr (by rw [k1]; exact h1)
    · exact .inr (k1.back e)
  · rcases k.f4 with ⟨k1, k2⟩ | k1
    · rcases h.f4 with ⟨h1, h2⟩ | h1
      · exact .inl ⟨k1.trans h1, k2.trans h2⟩
      · exact .inr (by rw [k1]; exact h1)
    · exact .inr (k1.back e)
/-- None of the tables lies in the blocks of Φ. -/
structure FilOff (Φ : Nat → Prop) (V : FilV) (F : Fil) : Prop where
  o1 : OffN Φ V.a1 F.nC
  o2 : OffN Φ V.a2 F.nI
  o3 : OffN Φ V.a3 F.nH
  o4 : OffN Φ V.a4 F.nR
theorem HoldsG.keepN {α : Type} {mk : α → Value} {Φ : Nat → Prop} {w w' : World} {a : Option Addr} {n : Nat} {f : Nat → α} (h : HoldsG mk w a n f) (x : Keep Φ w w') (ho : OffN Φ a n) : HoldsG mk w' a n f := by
  rcases ho with e | e
  · exact .inl e
  · exact h.keep x e
theorem HoldsG.offN {α : Type} {mk : α → Value} {Φ : Nat → Prop} {v w : World} {a : Option Addr} {n : Nat} {f : Nat → α} (hh : HoldsG mk v a n f) (h : Above w Φ) (x : v.heap.size ≤ w.heap.size) : OffN Φ a n := by
  rcases hh with e | ⟨b, off, ha, hlt, _⟩
  · exact .inl e
  · exact .inr (h.off fun p hp => by rw [ha] at hp; cases hp; exact Nat.lt_of_lt_of_le hlt x)
theorem FilAt.keep {Φ : Nat → Prop} {w w' : World} {V : FilV} {F : Fil} (h : FilAt w V F) (x : Keep Φ w w') (o : FilOff Φ V F) : FilAt w' V F :=
  ⟨h.h1.keepN x o.o1, h.l1, h.m1, h.h2.keepN x o.o2, h.l2, h.m2, h.h3.keepN x o.o3, h.l3, h.m3, h.h4.keepN x o.o4, h.l4, h.m4⟩
theorem FilAt.off {Φ : Nat → Prop} {v w : World} {V : FilV} {F : Fil} (h : FilAt v V F) (k : Above w Φ) (x : v.heap.size ≤ w.heap.size) : FilOff Φ V F :=
  ⟨h.h1.offN k x, h.h2.offN k x, h.h3.offN k x, h.h4.offN k x⟩
theorem Fresh.offN {Φ : Nat → Prop} {w : World} {a : Option Addr} {n : Nat} (h : Fresh w a) (hF : ∀ i, Φ i → i < w.heap.size) : OffN Φ a n := .inr (h.off hF)
theorem From.off {Φ : Nat → Prop} {w : World} {V0 V : FilV} {F G : Fil} (h : From w V0 F V G) (o : FilOff Φ V0 F) (hF : ∀ i, Φ i → i < w.heap.size) : FilOff Φ V G := by
  refine ⟨?_, ?_, ?_, ?_⟩
  · rcases h.f1 with ⟨h1, h2⟩ | h1
    · rw [h1, h2]; exact o.o1
    · exact h1.offN hF
  · rcases h.f2 with ⟨h1, h2⟩ | h1
    · rw [h1, h2]; exact o.o2
    · exact h1.offN hF
  · rcases h.f3 with ⟨h1, h2⟩ | h1
    · rw [h1, h2]; exact o.o3
    · exact h1.offN hF
  · rcases h.f4 with ⟨h1, h2⟩ | h1
    · rw [h1, h2]; exact o.o4
    · exact h1.offN hF
theorem rightB_iff (F : Fil) : rightB F = true ↔ bankB F = true ∧ (F.nC : Int) = F.cc ∧ (F.nI : Int) = F.jc ∧ (F.nH : Int) = F.hc ∧ (F.nR : Int) = F.rc := by
  unfold rightB; simp only [Bool.and_eq_true, decide_eq_true_eq]; constructor
  · rintro ⟨⟨⟨⟨h1, h2⟩, h3⟩, h4⟩, h5⟩; exact ⟨h1, h2, h3, h4, h5⟩
  · rintro ⟨h1, h2, h3, h4, h5⟩; exact ⟨⟨⟨⟨h1, h2⟩, h3⟩, h4⟩, h5⟩
theorem bankB_iff (F : Fil) : bankB F = true ↔ rgtB F.cf F.cc = true ∧ rgtB F.jf F.jc = true ∧ rgtB F.hf F.hc = true ∧ rgtB F.rf F.rc = true ∧ rgtB F.bf F.bc = true := by
  unfold bankB; simp only [Bool.and_eq_true]; constructor
  · rintro ⟨⟨⟨⟨h1, h2⟩, h3⟩, h4⟩, h5⟩; exact ⟨h1, h2, h3, h4, h5⟩
  · rintro ⟨h1, h2, h3, h4, h5⟩; exact ⟨⟨⟨⟨h1, h2⟩, h3⟩, h4⟩, h5⟩
/-- How many cells the tables of a file that may be have. -/
theorem bank_small {F : Fil} (h : bankB F = true) : 0 ≤ F.cc ∧ F.cc ≤ 65536 ∧ 0 ≤ F.jc ∧ F.jc ≤ 65536 ∧ 0 ≤ F.hc ∧ F.hc ≤ 65536 ∧ 0 ≤ F.rc ∧ F.rc ≤ 65536 := by
  obtain ⟨h1, h2, h3, h4, _⟩ := (bankB_iff F).1 h
  have := (rgtB_iff _ _).1 h1; have := (rgtB_iff _ _).1 h2; have := (rgtB_iff _ _).1 h3; have := (rgtB_iff _ _).1 h4
  omega
theorem right_small {F : Fil} (h : rightB F = true) : F.nC ≤ 1000000 ∧ F.nI ≤ 1000000 ∧ F.nH ≤ 1000000 ∧ F.nR ≤ 1000000 := by
  obtain ⟨hb, h1, h2, h3, h4⟩ := (rightB_iff F).1 h
  have := bank_small hb
  omega
section
variable {F : Fil} {x k v : Int} {m : Nat}
theorem bitE_no (i : Bool) (h : rightB F = false) : bitE F i x k = 11 ∧ bitN F i x k = 0 := by
  have hE : bitE F i x k = 11 := by unfold bitE; rw [if_neg (by rw [h]; decide)]
  exact ⟨hE, by unfold bitN; rw [if_neg (by rw [hE]; decide)]⟩
theorem bitE_in (h : rightB F = true) : bitE F true x k = rdE F.jf F.jc F.nI x k ∧ bitN F true x k = rdN F.jf F.jc F.nI x k k.toNat := by
  have hE : bitE F true x k = rdE F.jf F.jc F.nI x k := by unfold bitE; rw [if_pos h, if_pos rfl]
  exact ⟨hE, by unfold bitN rdN; rw [hE]⟩
theorem bitE_out (h : rightB F = true) : bitE F false x k = rdE F.cf F.cc F.nC x k ∧ bitN F false x k = rdN F.cf F.cc F.nC x k k.toNat := by
  have hE : bitE F false x k = rdE F.cf F.cc F.nC x k := by unfold bitE; rw [if_pos h, if_neg (by decide)]
  exact ⟨hE, by unfold bitN rdN; rw [hE]⟩
theorem wrdE_no (i : Bool) (h : rightB F = false) : wrdE F i x k = 11 ∧ wrdN F i x k = 0 := by
  have hE : wrdE F i x k = 11 := by unfold wrdE; rw [if_neg (by rw [h]; decide)]
  exact ⟨hE, by unfold wrdN; rw [if_neg (by rw [hE]; decide)]⟩
theorem wrdE_in (h : rightB F = true) : wrdE F true x k = rdE F.rf F.rc F.nR x k ∧ wrdN F true x k = rdN F.rf F.rc F.nR x k k.toNat := by
  have hE : wrdE F true x k = rdE F.rf F.rc F.nR x k := by unfold wrdE; rw [if_pos h, if_pos rfl]
  exact ⟨hE, by unfold wrdN rdN; rw [hE]⟩
theorem wrdE_out (h : rightB F = true) : wrdE F false x k = brkE F (rdE F.hf F.hc F.nH x k) x k ∧ wrdN F false x k = if brkE F (rdE F.hf F.hc F.nH x k) x k = 0 then k.toNat else 0 := by
  have hE : wrdE F false x k = brkE F (rdE F.hf F.hc F.nH x k) x k := by unfold wrdE; rw [if_pos h, if_neg (by decide)]
  exact ⟨hE, by unfold wrdN; rw [hE]⟩
end
theorem keepRow (w : World) (g : Nat) (cs : Array Value) : Keep (fun i => i = g) w (w.setRow g cs) := ⟨rfl, rfl, rfl, by simp, fun k _ hn => setRow_other w g k cs hn⟩
theorem keepCell (w : World) (g o : Nat) (v : Value) : Keep (fun i => i = g) w (w.setCell ⟨g, o, none⟩ v) := ⟨rfl, rfl, rfl, by simp, fun k _ hn => Below.heap_setCell w ⟨g, o, none⟩ v k hn⟩
theorem frozen_of {w : World} {B j : Nat} {cs : Array Value} {t : TypeId} (h : w.heap[B]? = some (.cells cs t (0, 0))) : w.frozen? ⟨B, j, none⟩ = false := by simp [World.frozen?, h]
/-- A file's box and the box of what is told, one behind the other. -/
theorem two_boxes (w : World) (a b : Array Value) (t u : TypeId) : ((w.alloc (.cells a t)).alloc (.cells b u)).heap[w.heap.size]? = some (.cells a t (0, 0)) ∧ ((w.alloc (.cells a t)).alloc (.cells b u)).heap[w.heap.size + 1]? = some (.cells b u (0, 0)) :=
  ⟨(heap_alloc_old _ _ (by simp)).trans (heap_alloc_new w _), heap_new_at _ _ (by simp)⟩
end Go.Proofs.YtlafnobjfajamaaGreat
namespace Go.Proofs.YtlafnobjfajamaaGreat
open Go.RowKit
set_option linter.unusedVariables false

/-- Tables of no more than a million cells. -/
structure Small (F : Fil) : Prop where
  s1 : F.nC ≤ 1000000
  s2 : F.nI ≤ 1000000
  s3 : F.nH ≤ 1000000
  s4 : F.nR ≤ 1000000
theorem Small.all {F : Fil} (h : Small F) : F.nC ≤ 1000000 ∧ F.nI ≤ 1000000 ∧ F.nH ≤ 1000000 ∧ F.nR ≤ 1000000 := ⟨h.s1, h.s2, h.s3, h.s4⟩
theorem Small.of_right {F : Fil} (h : rightB F = true) : Small F := ⟨(right_small h).1, (right_small h).2.1, (right_small h).2.2.1, (right_small h).2.2.2⟩
theorem small_zero : Small zeroF := ⟨Nat.zero_le _, Nat.zero_le _, Nat.zero_le _, Nat.zero_le _⟩
theorem eqW_same (f c : Int) : eqW f c f c = true := decide_eq_true ⟨rfl, rfl⟩
theorem sameF_self (F : Fil) : sameF F F = true := by
  unfold sameF sbankB
  rw [eqW_same, eqW_same, eqW_same, eqW_same, eqW_same, eqG_true rfl (fun _ _ => rfl), eqG_true rfl (fun _ _ => rfl), eqB_true rfl (fun _ _ => rfl), eqB_true rfl (fun _ _ => rfl)]
  rfl
def FNewC (Fn : FuncId) : Prop := ∀ (F : Fil) (w : World), Calls Tryz.prog Fn #[.agg (bnkC F)] w (FP (if bankB F = true then 0 else 11) (if bankB F = true then newF F else zeroF) zeroV zeroF w)
def FRightC (Fn : FuncId) : Prop := ∀ (V : FilV) (F : Fil) (w : World), FilAt w V F → Calls Tryz.prog Fn #[.agg (filC V F)] w fun e w' => e = .returned (.bool (rightB F)) ∧ Ext w w'
def FBitsC (Fn : FuncId) : Prop := ∀ (V : FilV) (F : Fil) (i : Bool) (x k : Int) (w : World), FilAt w V F → (Lit.int .i64 x).wf = true → (Lit.int .i64 k).wf = true → Calls Tryz.prog Fn #[.agg (filC V F), .bool i, .int .i64 x, .int .i64 k] w (SlP Value.bool (bitE F i x k) (bitN F i x k) (bitL F i x) w)
def FWordsC (Fn : FuncId) : Prop := ∀ (V : FilV) (F : Fil) (i : Bool) (x k : Int) (w : World), FilAt w V F → (Lit.int .i64 x).wf = true → (Lit.int .i64 k).wf = true → Calls Tryz.prog Fn #[.agg (filC V F), .bool i, .int .i64 x, .int .i64 k] w (SlP (Value.int .u16) (wrdE F i x k) (wrdN F i x k) (wrdL F i x) w)
def FSetBitsC (Fn : FuncId) : Prop := ∀ (V : FilV) (F : Fil) (x : Int) (b : Option Addr) (m e : Nat) (v : Nat → Bool) (w : World), FilAt w V F → HoldsG Value.bool w b m v → m ≤ e → e ≤ maxLen → m ≤ 1000000 → (Lit.int .i64 x).wf = true →
  Calls Tryz.prog Fn #[.agg (filC V F), .int .i64 x, .slice b m e] w (FP (sbE F x m) (sbF F x m v) V F w)
def FSetWordsC (Fn : FuncId) : Prop := ∀ (V : FilV) (F : Fil) (x : Int) (b : Option Addr) (m e : Nat) (v : Nat → Int) (w : World), FilAt w V F → HoldsG (Value.int .u16) w b m v → m ≤ e → e ≤ maxLen → m ≤ 1000000 → (Lit.int .i64 x).wf = true →
  Calls Tryz.prog Fn #[.agg (filC V F), .int .i64 x, .slice b m e] w (FP (swE F x m) (swF F x m v) V F w)
def FSameC (Fn : FuncId) : Prop := ∀ (V : FilV) (F : Fil) (U : FilV) (G : Fil) (w : World), FilAt w V F → FilAt w U G → Small F → Small G → Calls Tryz.prog Fn #[.agg (filC V F), .agg (filC U G)] w fun e w' => e = .returned (.bool (sameF F G)) ∧ Ext w w'
def FCopyC (Fn : FuncId) : Prop := ∀ (V : FilV) (F : Fil) (w : World), FilAt w V F → Small F → Calls Tryz.prog Fn #[.agg (filC V F)] w fun e w' => ∃ U, e = .returned (.agg (filC U F)) ∧ FilAt w' U F ∧ Ext w w' ∧ From w V F U F

/-- An operation: its numbers, its bits and words. -/
structure Ope where
  k : Int
  x : Int
  c : Int
  v : Int
  nb : Nat
  B : Nat → Bool
  nr : Nat
  R : Nat → Int
structure OpeV where
  a1 : Option Addr
  d1 : Nat
  a2 : Option Addr
  d2 : Nat
section
variable {w wr wr' : World} {V : FilV} {F : Fil} {U : OpeV} {o : Ope} {VA : FilV} {A : Fil} {VB : FilV} {B : Fil}
end
/-- A box of the call's own, laid. -/
theorem boxed_row (w : World) (z cs : Array Value) (t : TypeId) : Ext w ((w.alloc (.cells z t)).setRow w.heap.size cs) ∧ ((w.alloc (.cells z t)).setRow w.heap.size cs).heap[w.heap.size]? = some (.cells cs t (0, 0)) :=
  ⟨below_setRow (Ext.alloc w _) (Nat.le_refl _) cs, setRow_heap _ _ _ _ _ _ (heap_alloc_new w _)⟩
end Go.Proofs.YtlafnobjfajamaaGreat
