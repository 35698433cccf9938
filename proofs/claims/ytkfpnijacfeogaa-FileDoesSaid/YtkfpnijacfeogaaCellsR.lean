/-
  LAYER 13, PLAIN: what is read, and written, of a table of cells.
  CONTRACTS: bilgeref13 (layer 13).
-/
import Derived.Test.YtkfpnijacfeogaaWinRef
import Derived.Test.YtkfpnijacfeogaaBlocks
import Derived.Test.YtkfpnijacfeogaaAppend
import Derived.Test.YtkfpnijacfeogaaStepAppend
import Derived.Test.YtkfpnijacfeogaaKeep
namespace Go.Proofs.Ytkfpnijacfeogaa
open Go.RowKit
set_option linter.unusedVariables false

/-- The error of a call that wants k cells from place x on, of a table of n cells. -/
def rdE (f c n x k : Int) : Int := if rgtB f c = true ∧ n = c ∧ 1 ≤ k then (if holdB f c x k = true then 0 else 2) else 11
/-- How many are told: none, where there is an error. -/
def rdN (f c n x k : Int) (m : Nat) : Nat := if rdE f c n x k = 0 then m else 0
/-- The cells from place x on. -/
def rdF {α : Type} (l : Nat → α) (f x : Int) : Nat → α := fun i => l ((x - f).toNat + i)
/-- A table with others from place x on. -/
def wrF {α : Type} (l v : Nat → α) (f x : Int) (m : Nat) : Nat → α := fun i => if i < (x - f).toNat then l i else if i < (x - f).toNat + m then v (i - (x - f).toNat) else l i
theorem rdE_own {f c n x k : Int} (h : (rgtB f c && decide (n = c)) = false) : rdE f c n x k = 11 := by
  unfold rdE; rw [if_neg]; rintro ⟨h1, h2, _⟩; rw [h1, decide_eq_true h2] at h; cases h
theorem rdE_few {f c n x k : Int} (h : k < 1) : rdE f c n x k = 11 := by unfold rdE; rw [if_neg]; omega
theorem rdE_out {f c n x k : Int} (h : (rgtB f c && decide (n = c)) = true) (h1 : 1 ≤ k) (h2 : holdB f c x k = false) : rdE f c n x k = 2 := by
  rw [Bool.and_eq_true, decide_eq_true_eq] at h
  unfold rdE; rw [if_pos ⟨h.1, h.2, h1⟩, if_neg (by rw [h2]; decide)]
theorem rdE_ok {f c n x k : Int} (h : (rgtB f c && decide (n = c)) = true) (h2 : holdB f c x k = true) : rdE f c n x k = 0 := by
  rw [Bool.and_eq_true, decide_eq_true_eq] at h
  have := (holdB_iff f c x k).1 h2
  unfold rdE; rw [if_pos ⟨h.1, h.2, by omega⟩, if_pos h2]
theorem rdN_no {f c n x k : Int} {m : Nat} {E : Int} (h : rdE f c n x k = E) (hE : E ≠ 0) : rdN f c n x k m = 0 := by unfold rdN; rw [h, if_neg hE]
theorem rdN_ok {f c n x k : Int} {m : Nat} (h : rdE f c n x k = 0) : rdN f c n x k m = m := by unfold rdN; rw [if_pos h]

/-- A block of the call's own whose first n cells are known. -/
def RowN {α : Type} (mk : α → Value) (t : TypeId) (w : World) (B n : Nat) (f : Nat → α) : Prop :=
  ∃ cs : Array Value, w.heap[B]? = some (.cells cs t (0, 0)) ∧ n ≤ cs.size ∧ ∀ i, i < n → cs[i]? = some (mk (f i))
section
variable {α : Type} {mk : α → Value} {t : TypeId} {w w' : World} {B n : Nat} {f : Nat → α}
theorem RowN.of_own {base : Nat} {v : Value} (h : w.ownsRow base t 1 v n (lstG mk f n)) (hn : 0 < n) :
    ∃ B cap, v = .slice (some ⟨B, 0, none⟩) n cap ∧ base ≤ B ∧ n ≤ cap ∧ cap ≤ maxLen ∧ RowN mk t w B n f := by
  obtain ⟨hlen, h2⟩ := id h
  rcases h2 with ⟨hv, hx⟩ | ⟨g, cap, cur, hv, hg, hh, hn2, hm, hs, ht⟩
  · have hl : (lstG mk f n).length = 0 := by rw [hx]; rfl
    rw [lstG_length] at hl; omega
  · subst hv
    refine ⟨g, cap, rfl, hg, hn2, hm, cur, hh, by omega, fun i hi => ?_⟩
    have hx := lstG_get mk f n i hi
    rw [← ht, List.getElem?_take, if_pos (by omega)] at hx
    simpa using hx
theorem RowN.lt (h : RowN mk t w B n f) : B < w.heap.size := by
  obtain ⟨cs, h1, _⟩ := h
  rcases Nat.lt_or_ge B w.heap.size with hlt | hge
  · exact hlt
  · rw [Array.getElem?_eq_none hge] at h1; cases h1
theorem RowN.cell (h : RowN mk t w B n f) (i : Nat) (hi : i < n) : w.cell? ⟨B, i, none⟩ = some (mk (f i)) := by
  obtain ⟨cs, h1, h2, h3⟩ := h
  rw [cell_of_row w B i cs t (0, 0) h1, h3 i hi]
theorem RowN.frozen (h : RowN mk t w B n f) (i : Nat) : w.frozen? ⟨B, i, none⟩ = false := by
  obtain ⟨cs, h1, h2, h3⟩ := h
  simp [World.frozen?, h1]
theorem RowN.congr {g : Nat → α} (h : RowN mk t w B n f) (e : ∀ i, i < n → f i = g i) : RowN mk t w B n g := by
  obtain ⟨cs, h1, h2, h3⟩ := h
  exact ⟨cs, h1, h2, fun i hi => by rw [h3 i hi, e i hi]⟩
theorem RowN.set (h : RowN mk t w B n f) (j : Nat) (v : α) : RowN mk t (w.setCell ⟨B, j, none⟩ (mk v)) B n (upd f j v) := by
  obtain ⟨cs, h1, h2, h3⟩ := h
  refine ⟨cs.setIfInBounds j (mk v), ?_, by simpa using h2, fun i hi => ?_⟩
  · simp [World.setCell, Array.getElem?_modify, h1]
  · by_cases e : i = j
    · subst e; rw [upd_same]; simp [show i < cs.size from by omega]
    · rw [upd_other _ _ _ _ e, Array.getElem?_setIfInBounds_ne (Ne.symm e)]; exact h3 i hi
theorem RowN.drew (h : RowN mk t w B n f) : RowN mk t w.drew B n f := h
theorem RowN.holds (h : RowN mk t w B n f) : HoldsG mk w (some ⟨B, 0, none⟩) n f :=
  .inr ⟨B, 0, rfl, h.lt, fun i hi => by rw [Nat.zero_add]; exact h.cell i hi⟩
end
theorem upd_wrF {α : Type} (l v : Nat → α) (f x : Int) (q : Nat) : upd (wrF l v f x q) ((x - f).toNat + q) (v q) = wrF l v f x (q + 1) := by
  funext i
  unfold upd wrF
  by_cases h : i = (x - f).toNat + q
  · rw [if_pos h, if_neg (by omega), if_pos (by omega), h, show (x - f).toNat + q - (x - f).toNat = q by omega]
  · rw [if_neg h]
    by_cases h1 : i < (x - f).toNat
    · rw [if_pos h1, if_pos h1]
    · rw [if_neg h1, if_neg h1]
      by_cases h2 : i < (x - f).toNat + q
      · rw [if_pos h2, if_pos (by omega)]
      · rw [if_neg h2, if_neg (by omega)]
theorem wrF_zero {α : Type} (l v : Nat → α) (f x : Int) : wrF l v f x 0 = l := by
  funext i; unfold wrF
  by_cases h : i < (x - f).toNat
  · rw [if_pos h]
  · rw [if_neg h, if_neg (by omega)]

set_option maxHeartbeats 1000000 in
theorem rown_v {f c n : Int} {O : Bool} (h : (rgtB f c && decide (n = c)) = O) (w : World) : Calls Try.prog 56 #[.agg #[.int .i64 f, .int .i64 c], .int .i64 n] w fun e w' => e = .returned (.bool O) ∧ Ext w w' := by
  have e0 := Ext.alloc w (.cells #[.int .i64 f, .int .i64 c] 23)
  cases hr : rgtB f c with
  | false =>
    obtain rfl : O = false := by rw [← h, hr]; rfl
    have HR := Lib.hid hr
    clear hr h
    go_enter Try.func56, Try.ntmps56
    go_wp2_with fail
    refine (rwright_v HR.out _).mono ?_; rintro e w1 ⟨rfl, x1⟩
    have x2 := e0.trans x1
    go_wp2
    go_ret
    exact ⟨rfl, x2⟩
  | true =>
    have ho : O = decide (n = c) := by rw [← h, hr]; rfl
    have HO := Lib.hid ho
    have HR := Lib.hid hr
    clear hr h ho
    go_enter Try.func56, Try.ntmps56
    go_wp2_with fail
    refine (rwright_v HR.out _).mono ?_; rintro e w1 ⟨rfl, x1⟩
    have c0 := x1.made 0 _ rfl
    have c1 := x1.made 1 _ rfl
    have x2 := e0.trans x1
    clear x1 e0
    go_wp2
    go_ret
    exact ⟨ret_b (by rw [HO.out]; first | rfl | (cases h : decide (n = c) <;> simp_all)), x2⟩
theorem Try.infoCb : (Try.prog.info? 4).map (fun i => (i.zero, i.size, i.bytes)) = some (some (.bool false), 1, 1) := by kernel_rfl
theorem Try.infoCw : (Try.prog.info? 61).map (fun i => (i.zero, i.size, i.bytes)) = some (some (.int .u16 0), 1, 2) := by kernel_rfl

/-- What the call owns, as 'HoldsG', and where. -/
theorem HoldsG.of_own_at {α : Type} {mk : α → Value} {w : World} {base : Nat} {e : TypeId} {v : Value} {n : Nat} {f : Nat → α} (h : w.ownsRow base e 1 v n (lstG mk f n)) :
    ∃ a cap, v = .slice a n cap ∧ n ≤ cap ∧ cap ≤ maxLen ∧ HoldsG mk w a n f ∧ ∀ p, a = some p → base ≤ p.block := by
  obtain ⟨hlen, h2⟩ := id h
  rcases h2 with ⟨hv, hx⟩ | ⟨g, cap, cur, hv, hg, hh, r⟩
  · subst hx
    exact ⟨none, 0, hv, Nat.le_refl _, Nat.zero_le _, .inl rfl, fun p hp => by cases hp⟩
  · subst hv
    refine ⟨_, _, rfl, r.1, r.2.1, .inr ⟨g, 0, rfl, (h.lt g rfl).2, fun i hi => ?_⟩, fun p hp => by cases hp; exact hg⟩
    rw [Nat.zero_add, h.cellAt i (by omega), lstG_get _ _ _ _ hi]
set_option maxRecDepth 100000 in
set_option maxHeartbeats 2000000 in
theorem r13Bits_f (f c x k : Int) (a : Option Addr) (n d : Nat) (l : Nat → Bool) (w : World) (ha : HoldsG Value.bool w a n l) (hn : n ≤ 1000000) :
    Calls Try.prog 36 #[.agg #[.int .i64 f, .int .i64 c], .slice a n d, .int .i64 x, .int .i64 k] w fun e w' =>
      ∃ b q, e = .returned (.tuple #[.slice b (rdN f c n x k k.toNat) q, .int .i64 (rdE f c n x k)]) ∧ rdN f c n x k k.toNat ≤ q ∧ q ≤ maxLen ∧ HoldsG Value.bool w' b (rdN f c n x k k.toNat) (rdF l f x) ∧ Ext w w' ∧ Fresh w b := by
  have e0 := Ext.alloc w (.cells #[.int .i64 f, .int .i64 c] 23)
  cases ho : (rgtB f c && decide ((n : Int) = c)) with
  | false =>
    have hE := rdE_own (x := x) (k := k) ho
    have hN := rdN_no (m := k.toNat) hE (by decide)
    rw [hE, hN]
    have HO := Lib.hid ho
    clear ho hE hN
    go_enter Try.func36, Try.ntmps36
    go_wp2_with fail
    refine (rown_v HO.out _).mono ?_; rintro e w1 ⟨rfl, x1⟩
    have x2 := e0.trans x1
    go_wp2
    go_ret2
    exact ⟨_, _, rfl, Nat.zero_le _, Nat.zero_le _, .inl rfl, x2, Fresh.nil _⟩
  | true =>
    have HO := Lib.hid ho
    by_cases hk : k < 1
    · have hE := rdE_few (f := f) (c := c) (n := n) (x := x) hk
      have hN := rdN_no (m := k.toNat) hE (by decide)
      rw [hE, hN]
      clear ho hE hN
      go_enter Try.func36, Try.ntmps36
      go_wp2_with fail
      refine (rown_v HO.out _).mono ?_; rintro e w1 ⟨rfl, x1⟩
      have x2 := e0.trans x1
      go_wp2
      go_ret2
      exact ⟨_, _, rfl, Nat.zero_le _, Nat.zero_le _, .inl rfl, x2, Fresh.nil _⟩
    · cases hh : holdB f c x k with
      | false =>
        have hE := rdE_out ho (by omega) hh
        have hN := rdN_no (m := k.toNat) hE (by decide)
        rw [hE, hN]
        have HH := Lib.hid hh
        clear ho hE hN hh
        go_enter Try.func36, Try.ntmps36
        go_wp2_with fail
        refine (rown_v HO.out _).mono ?_; rintro e w1 ⟨rfl, x1⟩
        have c0 := x1.made 0 _ rfl
        have c1 := x1.made 1 _ rfl
        have x2 := e0.trans x1
        clear x1 e0
        go_wp2_with fail
        refine (rwholds_v HH.out _).mono ?_; rintro e w3 ⟨rfl, x3⟩
        have x4 := x2.trans x3
        go_wp2
        go_ret2
        exact ⟨_, _, rfl, Nat.zero_le _, Nat.zero_le _, .inl rfl, x4, Fresh.nil _⟩
      | true =>
        have hE := rdE_ok ho hh
        have hN := rdN_ok (m := k.toNat) hE
        rw [hE, hN]
        have hp := (holdB_iff f c x k).1 hh
        have hnc : (n : Int) = c := by rw [Bool.and_eq_true, decide_eq_true_eq] at ho; exact ho.2
        have HH := Lib.hid hh
        obtain ⟨K, hK⟩ : ∃ K : Nat, k = (K : Int) := ⟨k.toNat, by omega⟩
        subst hK
        rw [show ((K : Int)).toNat = K from Int.toNat_natCast K]
        obtain ⟨p1, p2, p3, p4, p5, p6, p7, p8⟩ := hp
        have HNC := Lib.hid hnc
        have HKn : Hid ((x - f).toNat + K ≤ n ∧ 0 ≤ x - f) := Lib.hid (by omega)
        obtain ⟨i0, hi0, hz0, hz1, hz2⟩ := info_parts Try.infoCb
        have hKb : K ≤ 1000000 := by omega
        have HB0 : Hid (w.heap.size = w.heap.size) := Lib.hid rfl
        clear ho hE hN hh hnc hk
        go_enter Try.func36, Try.ntmps36
        go_wp2_with fail
        refine (rown_v HO.out _).mono ?_; rintro e w1 ⟨rfl, x1⟩
        have c0 := x1.made 0 _ rfl
        have c1 := x1.made 1 _ rfl
        have x2 := e0.trans x1
        clear x1 e0
        obtain ⟨A, hA⟩ : ∃ A, A = w.heap.size := ⟨_, rfl⟩
        rw [← hA] at c0 c1 ⊢
        have W1 : WinAt w1 A f c := ⟨c0, c1⟩
        have HA := Lib.hid hA
        clear hA
        go_wp2_with fail
        refine (rwholds_v HH.out _).mono ?_; rintro e w3 ⟨rfl, x3⟩
        have x4 := x2.trans x3
        have W3 := W1.ext x3
        have ha3 := ha.ext x4
        obtain ⟨B, hB⟩ : ∃ B, B = w3.heap.size := ⟨_, rfl⟩
        have hb0 : Below B w3 w3 := by rw [hB]; exact Below.refl _ _
        have HB := Lib.hid hB
        clear c0 c1 x2 x3 W1 hB ha
        go_wp2_with fail
        go_loopw [10, 11] (fun v i wr => ∃ q : Nat, q ≤ K ∧ i = .int .i64 q ∧ wr.ownsRow B 4 1 v q (lstG Value.bool (rdF l f x) q) ∧ Below B w3 wr) (fun _ i _ => K - (intOf i).toNat)
        case atStart => exact ⟨0, Nat.zero_le _, rfl, World.ownsRow_nil _ _ _ _, hb0⟩
        case round =>
          obtain ⟨q, hq, rfl, hown, hbl⟩ := hrel
          have xr : Ext w3 wr := by rw [Ext, ← HB.out]; exact hbl
          by_cases hlt : q < K
          · have hlt' : (q : Int) < K := by omega
            obtain ⟨bb, off, rfl, hbb, hc⟩ := (ha3.ext xr).resolve_left (by have := HKn.out; omega)
            obtain ⟨z, hz⟩ : ∃ z : Nat, z = (x - f).toNat + q := ⟨_, rfl⟩
            have hzi : x - f + (q : Int) = (z : Int) := by have := HKn.out; omega
            have hzn : z < n := by have := HKn.out; omega
            have hzn' : (z : Int) < n := by omega
            have cz := hc z hzn
            have hrz : Hid (l z = rdF l f x q) := Lib.hid (by rw [hz]; rfl)
            obtain ⟨y, hy⟩ : ∃ y, y = l z := ⟨_, rfl⟩
            rw [← hy] at cz
            have HY := Lib.hid hy
            have W4 := W3.ext xr
            have c0 := W4.c0
            have hBs : B ≤ wr.heap.size := by have := hbl.size; rw [HB.out]; exact this
            have hob : ∀ r, u10.ownBlock = some r → B ≤ r := fun r hr => (hown.lt r hr).1
            clear hc hz hy
            go_wp2_with (at_builtin; refine wpList_append_lies _ rfl _ _ _ rfl B 4 i0 _ 1 1 Try.underlying28 hi0 hz0 hz1 hz2 rfl (by omega) u10 q _ rfl (hown.alloc _) ⟨wr.heap.size, 0, none⟩ 1 1 [Value.bool y] rfl rfl (World.news_of_block (cs := #[Value.bool y]) (t := 4) (fr := (0, 0)) (heap_alloc_new wr _)) (by simp [Value.oneCell']) (by omega) (by unfold maxLen; omega) (by omega) (by simp; omega) (wr.heap.size + 1) (by simp) ?_; intro gg cap w5 hown5 hgrow hat hlt5)
            have hown6 : w5.ownsRow B 4 1 (.slice (some ⟨gg, 0, none⟩) (q + 1) cap) (q + 1) (lstG Value.bool (rdF l f x) (q + 1)) := by rw [← lstG_succ, ← hrz.out, ← HY.out]; exact hown5
            have hb5 : Below B w3 w5 := (hbl.alloc hBs _).grown hgrow (by simp; omega) hob
            clear hown5 hgrow hat hown hbl hob cz c0
            go_wp2
            go_roundw
            case rel => exact ⟨q + 1, by omega, by go_num, hown6, hb5⟩
            case measure => simp [intOf]; omega
          · obtain rfl : K = q := by omega
            obtain ⟨b9, d9, hv, l9, m9, h9, f9⟩ := HoldsG.of_own_at hown
            have x9 := x4.trans xr
            clear ha3 hown hbl
            go_wp2
            go_ret2
            exact ⟨b9, d9, by rw [← hv]; rfl, l9, m9, h9, x9, fun p hp => by have h1 := f9 p hp; have h2 := x4.size; have h3 := HB.out; omega⟩

set_option maxRecDepth 100000 in
set_option maxHeartbeats 2000000 in
theorem r13SetBits_f (f c x : Int) (a : Option Addr) (n d : Nat) (l : Nat → Bool) (b : Option Addr) (m e : Nat) (v : Nat → Bool) (w : World) (ha : HoldsG Value.bool w a n l) (hv : HoldsG Value.bool w b m v) (hn : n ≤ 1000000) (hm : m ≤ 1000000) :
    Calls Try.prog 53 #[.agg #[.int .i64 f, .int .i64 c], .slice a n d, .int .i64 x, .slice b m e] w fun e w' =>
      ∃ y q, e = .returned (.tuple #[.slice y (rdN f c n x m n) q, .int .i64 (rdE f c n x m)]) ∧ rdN f c n x m n ≤ q ∧ q ≤ maxLen ∧ HoldsG Value.bool w' y (rdN f c n x m n) (wrF l v f x m) ∧ Ext w w' ∧ Fresh w y := by
  have e0 := Ext.alloc w (.cells #[.int .i64 f, .int .i64 c] 23)
  cases ho : (rgtB f c && decide ((n : Int) = c)) with
  | false =>
    have hE := rdE_own (x := x) (k := (m : Int)) ho
    have hN := rdN_no (m := n) hE (by decide)
    rw [hE, hN]
    have HO := Lib.hid ho
    clear ho hE hN
    go_enter Try.func53, Try.ntmps53
    go_wp2_with fail
    refine (rown_v HO.out _).mono ?_; rintro e w1 ⟨rfl, x1⟩
    have x2 := e0.trans x1
    go_wp2
    go_ret2
    exact ⟨_, _, rfl, Nat.zero_le _, Nat.zero_le _, .inl rfl, x2, Fresh.nil _⟩
  | true =>
    have HO := Lib.hid ho
    by_cases hk : m = 0
    · have hE := rdE_few (f := f) (c := c) (n := n) (x := x) (k := (m : Int)) (by omega)
      have hN := rdN_no (m := n) hE (by decide)
      rw [hE, hN]
      clear ho hE hN
      subst hk
      go_enter Try.func53, Try.ntmps53
      go_wp2_with fail
      refine (rown_v HO.out _).mono ?_; rintro e w1 ⟨rfl, x1⟩
      have x2 := e0.trans x1
      go_wp2
      go_ret2
      exact ⟨_, _, rfl, Nat.zero_le _, Nat.zero_le _, .inl rfl, x2, Fresh.nil _⟩
    · have hmz : ((m : Int) == 0) = false := by simp; omega
      cases hh : holdB f c x m with
      | false =>
        have hE := rdE_out ho (by omega) hh
        have hN := rdN_no (m := n) hE (by decide)
        rw [hE, hN]
        have HH := Lib.hid hh
        have HK := Lib.hid hk
        clear ho hE hN hh hk
        go_enter Try.func53, Try.ntmps53
        go_wp2_with fail
        refine (rown_v HO.out _).mono ?_; rintro e w1 ⟨rfl, x1⟩
        have c0 := x1.made 0 _ rfl
        have c1 := x1.made 1 _ rfl
        have x2 := e0.trans x1
        clear x1 e0
        go_wp2_with fail
        refine (rwholds_v HH.out _).mono ?_; rintro e w3 ⟨rfl, x3⟩
        have x4 := x2.trans x3
        go_wp2
        go_ret2
        exact ⟨_, _, rfl, Nat.zero_le _, Nat.zero_le _, .inl rfl, x4, Fresh.nil _⟩
      | true =>
        have hE := rdE_ok ho hh
        have hN := rdN_ok (m := n) hE
        rw [hE, hN]
        have hp := (holdB_iff f c x m).1 hh
        have hnc : (n : Int) = c := by rw [Bool.and_eq_true, decide_eq_true_eq] at ho; exact ho.2
        have HH := Lib.hid hh
        obtain ⟨p1, p2, p3, p4, p5, p6, p7, p8⟩ := hp
        have HNC := Lib.hid hnc
        have HKn : Hid ((x - f).toNat + m ≤ n ∧ 0 ≤ x - f ∧ 0 < n) := Lib.hid (by omega)
        obtain ⟨i0, hi0, hz0, hz1, hz2⟩ := info_parts Try.infoCb
        have HK := Lib.hid hk
        clear ho hE hN hh hnc hk
        go_enter Try.func53, Try.ntmps53
        go_wp2_with fail
        refine (rown_v HO.out _).mono ?_; rintro e w1 ⟨rfl, x1⟩
        have c0 := x1.made 0 _ rfl
        have c1 := x1.made 1 _ rfl
        have x2 := e0.trans x1
        clear x1 e0
        obtain ⟨A, hA⟩ : ∃ A, A = w.heap.size := ⟨_, rfl⟩
        rw [← hA] at c0 c1 ⊢
        have W1 : WinAt w1 A f c := ⟨c0, c1⟩
        have HA := Lib.hid hA
        clear hA
        go_wp2_with fail
        refine (rwholds_v HH.out _).mono ?_; rintro e w3 ⟨rfl, x3⟩
        have x4 := x2.trans x3
        have W3 := W1.ext x3
        have ha3 := ha.ext x4
        have hv3 := hv.ext x4
        clear c0 c1 x2 x3 W1 ha hv hmz
        go_wp2_with (at_builtin; refine wpList_append_holds rfl (.tmp 28) (.tmp 29) _ rfl w3.heap.size 4 i0 _ 1 Try.underlying28 hi0 hz0 hz1 hz2 rfl _ 0 [] rfl (World.ownsRow_lit w3 #[] 0 (Nat.le_refl _) (by unfold maxLen; omega) rfl) a n d l rfl (ha3.ext (Ext.alloc _ _)) (fun _ => rfl) (by unfold maxLen; omega) (by omega) (by simp) ?_; intro v5 w5 hown5 hgrow5 hbl5)
        rw [Nat.zero_add, List.nil_append] at hown5
        have x5 : Ext w3 w5 := Below.trans (Ext.alloc _ _) (hbl5.mono (by first | exact Nat.le_refl _ | simp))
        obtain ⟨B, cap, rfl, hB, hcap, hcm, R5⟩ := RowN.of_own hown5 HKn.out.2.2
        have R6 : RowN Value.bool 4 w5 B n (wrF l v f x 0) := by rw [wrF_zero]; exact R5
        have HB := Lib.hid hB
        have HCap := Lib.hid (And.intro hcap hcm)
        clear hown5 hgrow5 hbl5 R5 hB hcap hcm ha3
        go_wp2_with fail
        go_loopw [11] (fun i wr => ∃ q : Nat, q ≤ m ∧ i = .int .i64 q ∧ RowN Value.bool 4 wr B n (wrF l v f x q) ∧ Ext w3 wr) (fun i _ => m - (intOf i).toNat)
        case atStart => exact ⟨0, Nat.zero_le _, rfl, R6, x5⟩
        case round =>
          clear R6 x5
          obtain ⟨q, hq, rfl, R, xr⟩ := hrel
          by_cases hlt : q < m
          · have hlt' : (q : Int) < m := by omega
            obtain ⟨bb, off, rfl, hbb, hc⟩ := (hv3.ext xr).resolve_left (by omega)
            obtain ⟨z, hz⟩ : ∃ z : Nat, z = (x - f).toNat + q := ⟨_, rfl⟩
            have hzi : x - f + (q : Int) = (z : Int) := by have := HKn.out; omega
            have hzn : z < n := by have := HKn.out; omega
            have hzn' : (z : Int) < n := by omega
            have cz := hc q hlt
            obtain ⟨y, hy⟩ : ∃ y, y = v q := ⟨_, rfl⟩
            rw [← hy] at cz
            have W4 := W3.ext xr
            have c0 := W4.c0
            have f0 := R.frozen z
            have r0 := R.cell z hzn
            have hBl := R.lt
            have RS : RowN Value.bool 4 (wr.drew.setCell ⟨B, z, none⟩ (Value.bool y)) B n (wrF l v f x (q + 1)) := by
              rw [← upd_wrF, ← hz, ← hy]; exact R.drew.set z y
            have xs : Ext w3 (wr.drew.setCell ⟨B, z, none⟩ (Value.bool y)) := Below.setCell (ext_drew xr) HB.out _
            have HRS := Lib.hid (And.intro RS xs)
            clear hc hz hy RS xs R
            go_wp2_with fail
            go_region
            all_goals go_wp2_with fail
            all_goals go_roundw
            case rel => exact ⟨q + 1, by omega, by go_num, HRS.out.1, HRS.out.2⟩
            case measure => simp [intOf]; omega
          · obtain rfl : m = q := by omega
            have x9 := x4.trans xr
            go_wp2
            go_ret2
            exact ⟨_, _, rfl, HCap.out.1, HCap.out.2, R.holds, x9, fun p hp => by cases hp; exact Nat.le_trans x4.size HB.out⟩

set_option maxRecDepth 100000 in
set_option maxHeartbeats 2000000 in
theorem r13Words_f (f c x k : Int) (a : Option Addr) (n d : Nat) (l : Nat → Int) (w : World) (ha : HoldsG (Value.int .u16) w a n l) (hn : n ≤ 1000000) :
    Calls Try.prog 42 #[.agg #[.int .i64 f, .int .i64 c], .slice a n d, .int .i64 x, .int .i64 k] w fun e w' =>
      ∃ b q, e = .returned (.tuple #[.slice b (rdN f c n x k k.toNat) q, .int .i64 (rdE f c n x k)]) ∧ rdN f c n x k k.toNat ≤ q ∧ q ≤ maxLen ∧ HoldsG (Value.int .u16) w' b (rdN f c n x k k.toNat) (rdF l f x) ∧ Ext w w' ∧ Fresh w b := by
  have e0 := Ext.alloc w (.cells #[.int .i64 f, .int .i64 c] 23)
  cases ho : (rgtB f c && decide ((n : Int) = c)) with
  | false =>
    have hE := rdE_own (x := x) (k := k) ho
    have hN := rdN_no (m := k.toNat) hE (by decide)
    rw [hE, hN]
    have HO := Lib.hid ho
    clear ho hE hN
    go_enter Try.func42, Try.ntmps42
    go_wp2_with fail
    refine (rown_v HO.out _).mono ?_; rintro e w1 ⟨rfl, x1⟩
    have x2 := e0.trans x1
    go_wp2
    go_ret2
    exact ⟨_, _, rfl, Nat.zero_le _, Nat.zero_le _, .inl rfl, x2, Fresh.nil _⟩
  | true =>
    have HO := Lib.hid ho
    by_cases hk : k < 1
    · have hE := rdE_few (f := f) (c := c) (n := n) (x := x) hk
      have hN := rdN_no (m := k.toNat) hE (by decide)
      rw [hE, hN]
      clear ho hE hN
      go_enter Try.func42, Try.ntmps42
      go_wp2_with fail
      refine (rown_v HO.out _).mono ?_; rintro e w1 ⟨rfl, x1⟩
      have x2 := e0.trans x1
      go_wp2
      go_ret2
      exact ⟨_, _, rfl, Nat.zero_le _, Nat.zero_le _, .inl rfl, x2, Fresh.nil _⟩
    · cases hh : holdB f c x k with
      | false =>
        have hE := rdE_out ho (by omega) hh
        have hN := rdN_no (m := k.toNat) hE (by decide)
        rw [hE, hN]
        have HH := Lib.hid hh
        clear ho hE hN hh
        go_enter Try.func42, Try.ntmps42
        go_wp2_with fail
        refine (rown_v HO.out _).mono ?_; rintro e w1 ⟨rfl, x1⟩
        have c0 := x1.made 0 _ rfl
        have c1 := x1.made 1 _ rfl
        have x2 := e0.trans x1
        clear x1 e0
        go_wp2_with fail
        refine (rwholds_v HH.out _).mono ?_; rintro e w3 ⟨rfl, x3⟩
        have x4 := x2.trans x3
        go_wp2
        go_ret2
        exact ⟨_, _, rfl, Nat.zero_le _, Nat.zero_le _, .inl rfl, x4, Fresh.nil _⟩
      | true =>
        have hE := rdE_ok ho hh
        have hN := rdN_ok (m := k.toNat) hE
        rw [hE, hN]
        have hp := (holdB_iff f c x k).1 hh
        have hnc : (n : Int) = c := by rw [Bool.and_eq_true, decide_eq_true_eq] at ho; exact ho.2
        have HH := Lib.hid hh
        obtain ⟨K, hK⟩ : ∃ K : Nat, k = (K : Int) := ⟨k.toNat, by omega⟩
        subst hK
        rw [show ((K : Int)).toNat = K from Int.toNat_natCast K]
        obtain ⟨p1, p2, p3, p4, p5, p6, p7, p8⟩ := hp
        have HNC := Lib.hid hnc
        have HKn : Hid ((x - f).toNat + K ≤ n ∧ 0 ≤ x - f) := Lib.hid (by omega)
        obtain ⟨i0, hi0, hz0, hz1, hz2⟩ := info_parts Try.infoCw
        have hKb : K ≤ 1000000 := by omega
        have HB0 : Hid (w.heap.size = w.heap.size) := Lib.hid rfl
        clear ho hE hN hh hnc hk
        go_enter Try.func42, Try.ntmps42
        go_wp2_with fail
        refine (rown_v HO.out _).mono ?_; rintro e w1 ⟨rfl, x1⟩
        have c0 := x1.made 0 _ rfl
        have c1 := x1.made 1 _ rfl
        have x2 := e0.trans x1
        clear x1 e0
        obtain ⟨A, hA⟩ : ∃ A, A = w.heap.size := ⟨_, rfl⟩
        rw [← hA] at c0 c1 ⊢
        have W1 : WinAt w1 A f c := ⟨c0, c1⟩
        have HA := Lib.hid hA
        clear hA
        go_wp2_with fail
        refine (rwholds_v HH.out _).mono ?_; rintro e w3 ⟨rfl, x3⟩
        have x4 := x2.trans x3
        have W3 := W1.ext x3
        have ha3 := ha.ext x4
        obtain ⟨B, hB⟩ : ∃ B, B = w3.heap.size := ⟨_, rfl⟩
        have hb0 : Below B w3 w3 := by rw [hB]; exact Below.refl _ _
        have HB := Lib.hid hB
        clear c0 c1 x2 x3 W1 hB ha
        go_wp2_with fail
        go_loopw [10, 11] (fun v i wr => ∃ q : Nat, q ≤ K ∧ i = .int .i64 q ∧ wr.ownsRow B 61 1 v q (lstG (Value.int .u16) (rdF l f x) q) ∧ Below B w3 wr) (fun _ i _ => K - (intOf i).toNat)
        case atStart => exact ⟨0, Nat.zero_le _, rfl, World.ownsRow_nil _ _ _ _, hb0⟩
        case round =>
          obtain ⟨q, hq, rfl, hown, hbl⟩ := hrel
          have xr : Ext w3 wr := by rw [Ext, ← HB.out]; exact hbl
          by_cases hlt : q < K
          · have hlt' : (q : Int) < K := by omega
            obtain ⟨bb, off, rfl, hbb, hc⟩ := (ha3.ext xr).resolve_left (by have := HKn.out; omega)
            obtain ⟨z, hz⟩ : ∃ z : Nat, z = (x - f).toNat + q := ⟨_, rfl⟩
            have hzi : x - f + (q : Int) = (z : Int) := by have := HKn.out; omega
            have hzn : z < n := by have := HKn.out; omega
            have hzn' : (z : Int) < n := by omega
            have cz := hc z hzn
            have hrz : Hid (l z = rdF l f x q) := Lib.hid (by rw [hz]; rfl)
            obtain ⟨y, hy⟩ : ∃ y, y = l z := ⟨_, rfl⟩
            rw [← hy] at cz
            have HY := Lib.hid hy
            have W4 := W3.ext xr
            have c0 := W4.c0
            have hBs : B ≤ wr.heap.size := by have := hbl.size; rw [HB.out]; exact this
            have hob : ∀ r, u10.ownBlock = some r → B ≤ r := fun r hr => (hown.lt r hr).1
            clear hc hz hy
            go_wp2_with (at_builtin; refine wpList_append_lies _ rfl _ _ _ rfl B 61 i0 _ 1 2 Try.underlying29 hi0 hz0 hz1 hz2 rfl (by omega) u10 q _ rfl (hown.alloc _) ⟨wr.heap.size, 0, none⟩ 1 1 [(Value.int .u16) y] rfl rfl (World.news_of_block (cs := #[(Value.int .u16) y]) (t := 61) (fr := (0, 0)) (heap_alloc_new wr _)) (by simp [Value.oneCell']) (by omega) (by unfold maxLen; omega) (by omega) (by simp; omega) (wr.heap.size + 1) (by simp) ?_; intro gg cap w5 hown5 hgrow hat hlt5)
            have hown6 : w5.ownsRow B 61 1 (.slice (some ⟨gg, 0, none⟩) (q + 1) cap) (q + 1) (lstG (Value.int .u16) (rdF l f x) (q + 1)) := by rw [← lstG_succ, ← hrz.out, ← HY.out]; exact hown5
            have hb5 : Below B w3 w5 := (hbl.alloc hBs _).grown hgrow (by simp; omega) hob
            clear hown5 hgrow hat hown hbl hob cz c0
            go_wp2
            go_roundw
            case rel => exact ⟨q + 1, by omega, by go_num, hown6, hb5⟩
            case measure => simp [intOf]; omega
          · obtain rfl : K = q := by omega
            obtain ⟨b9, d9, hv, l9, m9, h9, f9⟩ := HoldsG.of_own_at hown
            have x9 := x4.trans xr
            clear ha3 hown hbl
            go_wp2
            go_ret2
            exact ⟨b9, d9, by rw [← hv]; rfl, l9, m9, h9, x9, fun p hp => by have h1 := f9 p hp; have h2 := x4.size; have h3 := HB.out; omega⟩

set_option maxRecDepth 100000 in
set_option maxHeartbeats 2000000 in
theorem r13SetWords_f (f c x : Int) (a : Option Addr) (n d : Nat) (l : Nat → Int) (b : Option Addr) (m e : Nat) (v : Nat → Int) (w : World) (ha : HoldsG (Value.int .u16) w a n l) (hv : HoldsG (Value.int .u16) w b m v) (hn : n ≤ 1000000) (hm : m ≤ 1000000) :
    Calls Try.prog 54 #[.agg #[.int .i64 f, .int .i64 c], .slice a n d, .int .i64 x, .slice b m e] w fun e w' =>
      ∃ y q, e = .returned (.tuple #[.slice y (rdN f c n x m n) q, .int .i64 (rdE f c n x m)]) ∧ rdN f c n x m n ≤ q ∧ q ≤ maxLen ∧ HoldsG (Value.int .u16) w' y (rdN f c n x m n) (wrF l v f x m) ∧ Ext w w' ∧ Fresh w y := by
  have e0 := Ext.alloc w (.cells #[.int .i64 f, .int .i64 c] 23)
  cases ho : (rgtB f c && decide ((n : Int) = c)) with
  | false =>
    have hE := rdE_own (x := x) (k := (m : Int)) ho
    have hN := rdN_no (m := n) hE (by decide)
    rw [hE, hN]
    have HO := Lib.hid ho
    clear ho hE hN
    go_enter Try.func54, Try.ntmps54
    go_wp2_with fail
    refine (rown_v HO.out _).mono ?_; rintro e w1 ⟨rfl, x1⟩
    have x2 := e0.trans x1
    go_wp2
    go_ret2
    exact ⟨_, _, rfl, Nat.zero_le _, Nat.zero_le _, .inl rfl, x2, Fresh.nil _⟩
  | true =>
    have HO := Lib.hid ho
    by_cases hk : m = 0
    · have hE := rdE_few (f := f) (c := c) (n := n) (x := x) (k := (m : Int)) (by omega)
      have hN := rdN_no (m := n) hE (by decide)
      rw [hE, hN]
      clear ho hE hN
      subst hk
      go_enter Try.func54, Try.ntmps54
      go_wp2_with fail
      refine (rown_v HO.out _).mono ?_; rintro e w1 ⟨rfl, x1⟩
      have x2 := e0.trans x1
      go_wp2
      go_ret2
      exact ⟨_, _, rfl, Nat.zero_le _, Nat.zero_le _, .inl rfl, x2, Fresh.nil _⟩
    · have hmz : ((m : Int) == 0) = false := by simp; omega
      cases hh : holdB f c x m with
      | false =>
        have hE := rdE_out ho (by omega) hh
        have hN := rdN_no (m := n) hE (by decide)
        rw [hE, hN]
        have HH := Lib.hid hh
        have HK := Lib.hid hk
        clear ho hE hN hh hk
        go_enter Try.func54, Try.ntmps54
        go_wp2_with fail
        refine (rown_v HO.out _).mono ?_; rintro e w1 ⟨rfl, x1⟩
        have c0 := x1.made 0 _ rfl
        have c1 := x1.made 1 _ rfl
        have x2 := e0.trans x1
        clear x1 e0
        go_wp2_with fail
        refine (rwholds_v HH.out _).mono ?_; rintro e w3 ⟨rfl, x3⟩
        have x4 := x2.trans x3
        go_wp2
        go_ret2
        exact ⟨_, _, rfl, Nat.zero_le _, Nat.zero_le _, .inl rfl, x4, Fresh.nil _⟩
      | true =>
        have hE := rdE_ok ho hh
        have hN := rdN_ok (m := n) hE
        rw [hE, hN]
        have hp := (holdB_iff f c x m).1 hh
        have hnc : (n : Int) = c := by rw [Bool.and_eq_true, decide_eq_true_eq] at ho; exact ho.2
        have HH := Lib.hid hh
        obtain ⟨p1, p2, p3, p4, p5, p6, p7, p8⟩ := hp
        have HNC := Lib.hid hnc
        have HKn : Hid ((x - f).toNat + m ≤ n ∧ 0 ≤ x - f ∧ 0 < n) := Lib.hid (by omega)
        obtain ⟨i0, hi0, hz0, hz1, hz2⟩ := info_parts Try.infoCw
        have HK := Lib.hid hk
        clear ho hE hN hh hnc hk
        go_enter Try.func54, Try.ntmps54
        go_wp2_with fail
        refine (rown_v HO.out _).mono ?_; rintro e w1 ⟨rfl, x1⟩
        have c0 := x1.made 0 _ rfl
        have c1 := x1.made 1 _ rfl
        have x2 := e0.trans x1
        clear x1 e0
        obtain ⟨A, hA⟩ : ∃ A, A = w.heap.size := ⟨_, rfl⟩
        rw [← hA] at c0 c1 ⊢
        have W1 : WinAt w1 A f c := ⟨c0, c1⟩
        have HA := Lib.hid hA
        clear hA
        go_wp2_with fail
        refine (rwholds_v HH.out _).mono ?_; rintro e w3 ⟨rfl, x3⟩
        have x4 := x2.trans x3
        have W3 := W1.ext x3
        have ha3 := ha.ext x4
        have hv3 := hv.ext x4
        clear c0 c1 x2 x3 W1 ha hv hmz
        go_wp2_with (at_builtin; refine wpList_append_holds rfl (.tmp 28) (.tmp 29) _ rfl w3.heap.size 61 i0 _ 2 Try.underlying29 hi0 hz0 hz1 hz2 rfl _ 0 [] rfl (World.ownsRow_lit w3 #[] 0 (Nat.le_refl _) (by unfold maxLen; omega) rfl) a n d l rfl (ha3.ext (Ext.alloc _ _)) (fun _ => rfl) (by unfold maxLen; omega) (by omega) (by simp) ?_; intro v5 w5 hown5 hgrow5 hbl5)
        rw [Nat.zero_add, List.nil_append] at hown5
        have x5 : Ext w3 w5 := Below.trans (Ext.alloc _ _) (hbl5.mono (by first | exact Nat.le_refl _ | simp))
        obtain ⟨B, cap, rfl, hB, hcap, hcm, R5⟩ := RowN.of_own hown5 HKn.out.2.2
        have R6 : RowN (Value.int .u16) 61 w5 B n (wrF l v f x 0) := by rw [wrF_zero]; exact R5
        have HB := Lib.hid hB
        have HCap := Lib.hid (And.intro hcap hcm)
        clear hown5 hgrow5 hbl5 R5 hB hcap hcm ha3
        go_wp2_with fail
        go_loopw [11] (fun i wr => ∃ q : Nat, q ≤ m ∧ i = .int .i64 q ∧ RowN (Value.int .u16) 61 wr B n (wrF l v f x q) ∧ Ext w3 wr) (fun i _ => m - (intOf i).toNat)
        case atStart => exact ⟨0, Nat.zero_le _, rfl, R6, x5⟩
        case round =>
          clear R6 x5
          obtain ⟨q, hq, rfl, R, xr⟩ := hrel
          by_cases hlt : q < m
          · have hlt' : (q : Int) < m := by omega
            obtain ⟨bb, off, rfl, hbb, hc⟩ := (hv3.ext xr).resolve_left (by omega)
            obtain ⟨z, hz⟩ : ∃ z : Nat, z = (x - f).toNat + q := ⟨_, rfl⟩
            have hzi : x - f + (q : Int) = (z : Int) := by have := HKn.out; omega
            have hzn : z < n := by have := HKn.out; omega
            have hzn' : (z : Int) < n := by omega
            have cz := hc q hlt
            obtain ⟨y, hy⟩ : ∃ y, y = v q := ⟨_, rfl⟩
            rw [← hy] at cz
            have W4 := W3.ext xr
            have c0 := W4.c0
            have f0 := R.frozen z
            have r0 := R.cell z hzn
            have hBl := R.lt
            have RS : RowN (Value.int .u16) 61 (wr.drew.setCell ⟨B, z, none⟩ ((Value.int .u16) y)) B n (wrF l v f x (q + 1)) := by
              rw [← upd_wrF, ← hz, ← hy]; exact R.drew.set z y
            have xs : Ext w3 (wr.drew.setCell ⟨B, z, none⟩ ((Value.int .u16) y)) := Below.setCell (ext_drew xr) HB.out _
            have HRS := Lib.hid (And.intro RS xs)
            clear hc hz hy RS xs R
            go_wp2_with fail
            go_region
            all_goals go_wp2_with fail
            all_goals go_roundw
            case rel => exact ⟨q + 1, by omega, by go_num, HRS.out.1, HRS.out.2⟩
            case measure => simp [intOf]; omega
          · obtain rfl : m = q := by omega
            have x9 := x4.trans xr
            go_wp2
            go_ret2
            exact ⟨_, _, rfl, HCap.out.1, HCap.out.2, R.holds, x9, fun p hp => by cases hp; exact Nat.le_trans x4.size HB.out⟩
/-- What a call that reads tells. -/
def RdPost {α : Type} (mk : α → Value) (f c x k : Int) (n : Nat) (l : Nat → α) (w : World) (e : Ending) (w' : World) : Prop :=
  ∃ b q, e = .returned (.tuple #[.slice b (rdN f c n x k k.toNat) q, .int .i64 (rdE f c n x k)]) ∧ rdN f c n x k k.toNat ≤ q ∧ q ≤ maxLen ∧ HoldsG mk w' b (rdN f c n x k k.toNat) (rdF l f x) ∧ Ext w w'
/-- What a call that writes tells. -/
def WrPost {α : Type} (mk : α → Value) (f c x : Int) (n : Nat) (l : Nat → α) (m : Nat) (v : Nat → α) (w : World) (e : Ending) (w' : World) : Prop :=
  ∃ y q, e = .returned (.tuple #[.slice y (rdN f c n x m n) q, .int .i64 (rdE f c n x m)]) ∧ rdN f c n x m n ≤ q ∧ q ≤ maxLen ∧ HoldsG mk w' y (rdN f c n x m n) (wrF l v f x m) ∧ Ext w w'
/-- The contract of a call that reads. -/
def RdC {α : Type} (mk : α → Value) (F : FuncId) : Prop :=
  ∀ (f c x k : Int) (a : Option Addr) (n d : Nat) (l : Nat → α) (w : World), HoldsG mk w a n l → n ≤ d → d ≤ maxLen → n ≤ 1000000 → (Lit.int .i64 x).wf = true → (Lit.int .i64 k).wf = true →
    Calls Try.prog F #[.agg #[.int .i64 f, .int .i64 c], .slice a n d, .int .i64 x, .int .i64 k] w (RdPost mk f c x k n l w)
/-- The contract of a call that writes. -/
def WrC {α : Type} (mk : α → Value) (F : FuncId) : Prop :=
  ∀ (f c x : Int) (a : Option Addr) (n d : Nat) (l : Nat → α) (b : Option Addr) (m e : Nat) (v : Nat → α) (w : World), HoldsG mk w a n l → n ≤ d → d ≤ maxLen → n ≤ 1000000 → HoldsG mk w b m v → m ≤ e → e ≤ maxLen → m ≤ 1000000 → (Lit.int .i64 x).wf = true →
    Calls Try.prog F #[.agg #[.int .i64 f, .int .i64 c], .slice a n d, .int .i64 x, .slice b m e] w (WrPost mk f c x n l m v w)
/-- What a call that reads tells; the cells are new. -/
def RdPostF {α : Type} (mk : α → Value) (f c x k : Int) (n : Nat) (l : Nat → α) (w : World) (e : Ending) (w' : World) : Prop :=
  ∃ b q, e = .returned (.tuple #[.slice b (rdN f c n x k k.toNat) q, .int .i64 (rdE f c n x k)]) ∧ rdN f c n x k k.toNat ≤ q ∧ q ≤ maxLen ∧ HoldsG mk w' b (rdN f c n x k k.toNat) (rdF l f x) ∧ Ext w w' ∧ Fresh w b
def WrPostF {α : Type} (mk : α → Value) (f c x : Int) (n : Nat) (l : Nat → α) (m : Nat) (v : Nat → α) (w : World) (e : Ending) (w' : World) : Prop :=
  ∃ y q, e = .returned (.tuple #[.slice y (rdN f c n x m n) q, .int .i64 (rdE f c n x m)]) ∧ rdN f c n x m n ≤ q ∧ q ≤ maxLen ∧ HoldsG mk w' y (rdN f c n x m n) (wrF l v f x m) ∧ Ext w w' ∧ Fresh w y
theorem RdPostF.old {α : Type} {mk : α → Value} {f c x k : Int} {n : Nat} {l : Nat → α} {w : World} {e : Ending} {w' : World} (h : RdPostF mk f c x k n l w e w') : RdPost mk f c x k n l w e w' := by
  obtain ⟨b, q, h1, h2, h3, h4, h5, _⟩ := h; exact ⟨b, q, h1, h2, h3, h4, h5⟩
theorem WrPostF.old {α : Type} {mk : α → Value} {f c x : Int} {n : Nat} {l : Nat → α} {m : Nat} {v : Nat → α} {w : World} {e : Ending} {w' : World} (h : WrPostF mk f c x n l m v w e w') : WrPost mk f c x n l m v w e w' := by
  obtain ⟨b, q, h1, h2, h3, h4, h5, _⟩ := h; exact ⟨b, q, h1, h2, h3, h4, h5⟩
def RdCF {α : Type} (mk : α → Value) (F : FuncId) : Prop :=
  ∀ (f c x k : Int) (a : Option Addr) (n d : Nat) (l : Nat → α) (w : World), HoldsG mk w a n l → n ≤ d → d ≤ maxLen → n ≤ 1000000 → (Lit.int .i64 x).wf = true → (Lit.int .i64 k).wf = true →
    Calls Try.prog F #[.agg #[.int .i64 f, .int .i64 c], .slice a n d, .int .i64 x, .int .i64 k] w (RdPostF mk f c x k n l w)
def WrCF {α : Type} (mk : α → Value) (F : FuncId) : Prop :=
  ∀ (f c x : Int) (a : Option Addr) (n d : Nat) (l : Nat → α) (b : Option Addr) (m e : Nat) (v : Nat → α) (w : World), HoldsG mk w a n l → n ≤ d → d ≤ maxLen → n ≤ 1000000 → HoldsG mk w b m v → m ≤ e → e ≤ maxLen → m ≤ 1000000 → (Lit.int .i64 x).wf = true →
    Calls Try.prog F #[.agg #[.int .i64 f, .int .i64 c], .slice a n d, .int .i64 x, .slice b m e] w (WrPostF mk f c x n l m v w)
theorem RdCF.old {α : Type} {mk : α → Value} {F : FuncId} (h : RdCF mk F) : RdC mk F := fun f c x k a n d l w h1 h2 h3 h4 h5 h6 => (h f c x k a n d l w h1 h2 h3 h4 h5 h6).mono fun _ _ => RdPostF.old
theorem WrCF.old {α : Type} {mk : α → Value} {F : FuncId} (h : WrCF mk F) : WrC mk F := fun f c x a n d l b m e v w h1 h2 h3 h4 h5 h6 h7 h8 h9 => (h f c x a n d l b m e v w h1 h2 h3 h4 h5 h6 h7 h8 h9).mono fun _ _ => WrPostF.old
theorem r13Bits_any (f c x k : Int) (a : Option Addr) (n d : Nat) (l : Nat → Bool) (w : World) (ha : HoldsG Value.bool w a n l) (hn : n ≤ 1000000) :
    Calls Try.prog 36 #[.agg #[.int .i64 f, .int .i64 c], .slice a n d, .int .i64 x, .int .i64 k] w (RdPost Value.bool f c x k n l w) := (r13Bits_f f c x k a n d l w ha hn).mono fun _ _ => RdPostF.old
theorem r13SetBits_any (f c x : Int) (a : Option Addr) (n d : Nat) (l : Nat → Bool) (b : Option Addr) (m e : Nat) (v : Nat → Bool) (w : World) (ha : HoldsG Value.bool w a n l) (hv : HoldsG Value.bool w b m v) (hn : n ≤ 1000000) (hm : m ≤ 1000000) :
    Calls Try.prog 53 #[.agg #[.int .i64 f, .int .i64 c], .slice a n d, .int .i64 x, .slice b m e] w (WrPost Value.bool f c x n l m v w) := (r13SetBits_f f c x a n d l b m e v w ha hv hn hm).mono fun _ _ => WrPostF.old
theorem r13Words_any (f c x k : Int) (a : Option Addr) (n d : Nat) (l : Nat → Int) (w : World) (ha : HoldsG (Value.int .u16) w a n l) (hn : n ≤ 1000000) :
    Calls Try.prog 42 #[.agg #[.int .i64 f, .int .i64 c], .slice a n d, .int .i64 x, .int .i64 k] w (RdPost (Value.int .u16) f c x k n l w) := (r13Words_f f c x k a n d l w ha hn).mono fun _ _ => RdPostF.old
theorem r13SetWords_any (f c x : Int) (a : Option Addr) (n d : Nat) (l : Nat → Int) (b : Option Addr) (m e : Nat) (v : Nat → Int) (w : World) (ha : HoldsG (Value.int .u16) w a n l) (hv : HoldsG (Value.int .u16) w b m v) (hn : n ≤ 1000000) (hm : m ≤ 1000000) :
    Calls Try.prog 54 #[.agg #[.int .i64 f, .int .i64 c], .slice a n d, .int .i64 x, .slice b m e] w (WrPost (Value.int .u16) f c x n l m v w) := (r13SetWords_f f c x a n d l b m e v w ha hv hn hm).mono fun _ _ => WrPostF.old
end Go.Proofs.Ytkfpnijacfeogaa
