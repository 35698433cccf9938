/-
  CONTRACTS: package cells (layer 13).
-/
import Derived.Test.YtkgakeknnfnjdaaCellsR
import Derived.Test.YtkgakeknnfnjdaaMask
import Derived.Test.YtkgakeknnfnjdaaCopyRow
import Derived.MakeChecks
namespace Go.Proofs.Ytkgakeknnfnjdaa
open Go.RowKit
set_option linter.unusedVariables false

/-- The three ways of a call. -/
theorem rdE_ways (f c n x k : Int) : (rdE f c n x k = 11 ∧ ¬ (rgtB f c = true ∧ n = c ∧ 1 ≤ k)) ∨ (rdE f c n x k = 2 ∧ rgtB f c = true ∧ n = c ∧ 1 ≤ k ∧ holdB f c x k = false) ∨ (rdE f c n x k = 0 ∧ rgtB f c = true ∧ n = c ∧ 1 ≤ k ∧ holdB f c x k = true) := by
  unfold rdE
  by_cases h : rgtB f c = true ∧ n = c ∧ 1 ≤ k
  · rw [if_pos h]
    cases hh : holdB f c x k with
    | true => rw [if_pos rfl]; exact .inr (.inr ⟨rfl, h.1, h.2.1, h.2.2, rfl⟩)
    | false => rw [if_neg (by decide)]; exact .inr (.inl ⟨rfl, h.1, h.2.1, h.2.2, rfl⟩)
  · rw [if_neg h]; exact .inl ⟨rfl, h⟩
theorem over_rd {α : Type} (l : Nat → α) (f x : Int) (z : α) (K : Nat) : ∀ i, i < K → over (fun _ => z) 0 K (fun i => l ((x - f).toNat + i)) i = rdF l f x i := by
  intro i hi
  unfold over rdF
  rw [if_neg (by omega), if_pos (by omega), Nat.sub_zero]
theorem over_wr {α : Type} (l v : Nat → α) (f x : Int) (z : α) (n m : Nat) (h : (x - f).toNat + m ≤ n) : ∀ i, i < n → over (over (fun _ => z) 0 n l) (x - f).toNat m v i = wrF l v f x m i := by
  intro i hi
  unfold over wrF
  by_cases h1 : i < (x - f).toNat
  · rw [if_pos h1, if_pos h1, if_neg (by omega), if_pos (by omega), Nat.sub_zero]
  · rw [if_neg h1, if_neg h1]
    by_cases h2 : i < (x - f).toNat + m
    · rw [if_pos h2, if_pos h2]
    · rw [if_neg h2, if_neg h2, if_neg (by omega), if_pos (by omega), Nat.sub_zero]

set_option maxHeartbeats 2000000 in
theorem cfirstb_v {f c x k : Int} {n : Nat} {E O : Int} (hE : rdE f c n x k = E) (hO : E = 0 → x - f = O) (hO' : E ≠ 0 → O = 0) (a : Option Addr) (d : Nat) (w : World) (hn : n ≤ 1000000) :
    Calls Try.prog 37 #[.agg #[.int .i64 f, .int .i64 c], .slice a n d, .int .i64 x, .int .i64 k] w fun e w' => e = .returned (.tuple #[.int .i64 O, .int .i64 E]) ∧ Ext w w' := by
  have e0 := Ext.alloc w (.cells #[.int .i64 f, .int .i64 c] 23)
  have hnI : (n : Int) ≤ 1000000 := by omega
  rcases rdE_ways f c n x k with ⟨h, hno⟩ | ⟨h, hr, hc, hk, hh⟩ | ⟨h, hr, hc, hk, hh⟩
  · obtain rfl : E = 11 := by rw [← hE]; exact h
    obtain rfl : O = 0 := hO' (by decide)
    cases hr : rgtB f c with
    | false =>
      have HR := Lib.hid hr
      clear hr hE hO hO' h hno
      go_enter Try.func37, Try.ntmps37
      go_wp2_with fail
      refine (wright_v HR.out _).mono ?_; rintro e w1 ⟨rfl, x1⟩
      have x2 := e0.trans x1
      go_wp2
      go_ret2
      exact ⟨rfl, x2⟩
    | true =>
      have HR := Lib.hid hr
      by_cases hc : (n : Int) = c
      · subst hc
        have hk : k < 1 := by
          rcases Int.lt_or_le k 1 with h1 | h1
          · exact h1
          · exact absurd ⟨hr, rfl, h1⟩ hno
        clear hr hE hO hO' h hno
        go_enter Try.func37, Try.ntmps37
        go_wp2_with fail
        refine (wright_v HR.out _).mono ?_; rintro e w1 ⟨rfl, x1⟩
        have c0 := x1.made 0 _ rfl
        have c1 := x1.made 1 _ rfl
        have x2 := e0.trans x1
        clear x1 e0
        go_wp2
        go_ret2
        exact ⟨rfl, x2⟩
      · clear hr hE hO hO' h hno
        go_enter Try.func37, Try.ntmps37
        go_wp2_with fail
        refine (wright_v HR.out _).mono ?_; rintro e w1 ⟨rfl, x1⟩
        have c0 := x1.made 0 _ rfl
        have c1 := x1.made 1 _ rfl
        have x2 := e0.trans x1
        clear x1 e0
        go_wp2
        go_ret2
        exact ⟨rfl, x2⟩
  · obtain rfl : E = 2 := by rw [← hE]; exact h
    obtain rfl : O = 0 := hO' (by decide)
    subst hc
    have HR := Lib.hid hr
    have HH := Lib.hid hh
    clear hr hE hO hO' h hh
    go_enter Try.func37, Try.ntmps37
    go_wp2_with fail
    refine (wright_v HR.out _).mono ?_; rintro e w1 ⟨rfl, x1⟩
    have c0 := x1.made 0 _ rfl
    have c1 := x1.made 1 _ rfl
    have x2 := e0.trans x1
    clear x1 e0
    go_wp2_with fail
    refine (wholds_v HH.out _).mono ?_; rintro e w3 ⟨rfl, x3⟩
    have x4 := x2.trans x3
    clear c0 c1 x2 x3
    go_wp2
    go_ret2
    exact ⟨rfl, x4⟩
  · obtain rfl : E = 0 := by rw [← hE]; exact h
    have hO := hO rfl
    subst hc
    have hp := (holdB_iff f n x k).1 hh
    have hhas : hasB f n x = true := (hasB_iff f n x).2 (by omega)
    have hpl : plcI f n x = O := by unfold plcI; rw [if_pos hhas, hO]
    have HP := Lib.hid (fun w' => (hpl ▸ hhas ▸ wplace_any f n x w' : Calls Try.prog 30 #[.agg #[.int .i64 f, .int .i64 n], .int .i64 x] w' fun e w'' => e = .returned (.tuple #[.int .i64 O, .bool true]) ∧ Ext w' w''))
    have HR := Lib.hid hr
    have HH := Lib.hid hh
    clear hr hE hO hO' h hh hp hhas hpl
    go_enter Try.func37, Try.ntmps37
    go_wp2_with fail
    refine (wright_v HR.out _).mono ?_; rintro e w1 ⟨rfl, x1⟩
    have c0 := x1.made 0 _ rfl
    have c1 := x1.made 1 _ rfl
    have x2 := e0.trans x1
    have W1 : WinAt w1 w.heap.size f n := ⟨c0, c1⟩
    clear x1 e0
    go_wp2_with fail
    refine (wholds_v HH.out _).mono ?_; rintro e w3 ⟨rfl, x3⟩
    have x4 := x2.trans x3
    have d0 := (W1.ext x3).c0
    have d1 := (W1.ext x3).c1
    clear c0 c1 x2 x3 W1
    go_wp2_with fail
    refine (HP.out _).mono ?_; rintro e w5 ⟨rfl, x5⟩
    have x6 := x4.trans x5
    clear d0 d1 x4 x5
    go_wp2
    go_ret2
    exact ⟨rfl, x6⟩

set_option maxRecDepth 100000 in
set_option maxHeartbeats 2000000 in
theorem creadb_no (f c x k : Int) (a : Option Addr) (n d : Nat) (l : Nat → Bool) (w : World) (hn : n ≤ 1000000) {E : Int} (hE : rdE f c n x k = E) (h0 : E ≠ 0) (hl : E = 11 ∨ E = 2) :
    Calls Try.prog 33 #[.agg #[.int .i64 f, .int .i64 c], .slice a n d, .int .i64 x, .int .i64 k] w (RdPostF Value.bool f c x k n l w) := by
  unfold RdPostF
  have e0 := Ext.alloc w (.cells #[.int .i64 f, .int .i64 c] 23)
  have hN := rdN_no (m := k.toNat) hE h0
  have HF := Lib.hid (fun w' => cfirstb_v hE (fun h => absurd h h0) (fun _ => rfl) a d w' hn)
  rw [hN, hE]
  clear hE hN h0
  rcases hl with rfl | rfl <;>
  · go_enter Try.func33, Try.ntmps33
    go_wp2_with fail
    refine (HF.out _).mono ?_; rintro e w1 ⟨rfl, x1⟩
    have x2 := e0.trans x1
    go_wp2
    go_ret2
    exact ⟨_, _, rfl, Nat.zero_le _, Nat.zero_le _, .inl rfl, x2, Fresh.nil _⟩
set_option maxRecDepth 100000 in
set_option maxHeartbeats 2000000 in
theorem creadb_c : RdCF Value.bool 33 := by
  intro f c x k a n d l w ha hnd hdm hn2 wx wk
  rcases rdE_ways f c n x k with ⟨h, _⟩ | ⟨h, _⟩ | ⟨hE, hr, hc, hk, hh⟩
  · exact creadb_no f c x k a n d l w (by omega) h (by decide) (.inl rfl)
  · exact creadb_no f c x k a n d l w (by omega) h (by decide) (.inr rfl)
  · unfold RdPostF
    have e0 := Ext.alloc w (.cells #[.int .i64 f, .int .i64 c] 23)
    have hN := rdN_ok (m := k.toNat) hE
    have hp := (holdB_iff f c x k).1 hh
    obtain ⟨K, hK⟩ : ∃ K : Nat, k = (K : Int) := ⟨k.toNat, by omega⟩
    subst hK
    rw [hE, hN, show ((K : Int)).toNat = K from Int.toNat_natCast K]
    obtain ⟨p1, p2, p3, p4, p5, p6, p7, p8⟩ := hp
    obtain ⟨o, hoo⟩ : ∃ o : Nat, o = (x - f).toNat := ⟨_, rfl⟩
    have hxo : x - f = (o : Int) := by omega
    have HF := Lib.hid (fun w' => cfirstb_v hE (fun _ => hxo) (fun h => absurd rfl h) a d w' (by omega))
    have hoK : o + K ≤ n := by omega
    have hod : (o : Int) ≤ d := by omega
    have hon : (o : Int) ≤ n := by omega
    have hdI : (d : Int) ≤ 9223372036854775807 := by unfold maxLen at hdm; omega
    have ndI : (n : Int) ≤ d := by omega
    have HOO := Lib.hid hoo
    obtain ⟨i0, hi0, hz0, hz1, hz2⟩ := info_parts Try.infoCb
    have hK1 : 0 < K := by omega
    have hKb : K ≤ 1000000 := by omega
    clear hE hN hh hc hr hk hoo hxo
    go_enter Try.func33, Try.ntmps33
    go_wp2_with fail
    refine (HF.out _).mono ?_; rintro e w3 ⟨rfl, x1⟩
    have x4 := e0.trans x1
    clear x1 e0
    have ha3 := ha.ext x4
    obtain ⟨b, off, rfl, hb, hc⟩ := ha3.resolve_left (by omega)
    have hsrc := fun W' (hx : Ext w3 W') => (show HoldsG Value.bool W' (some ⟨b, off + o, none⟩) K (fun i => l ((x - f).toNat + i)) from .inr ⟨b, off + o, rfl, Nat.lt_of_lt_of_le hb hx.size, fun i hi => by rw [Nat.add_assoc, ← HOO.out]; exact hx.cell hb (hc (o + i) (by omega))⟩)
    have HSrc := Lib.hid hsrc
    clear ha hsrc hc ha3
    go_wp2_with (first
      | (at_make; refine wpList_make_full _ rfl _ _ 26 rfl w3.heap.size 4 i0 (.bool false) 1 Try.underlying26 hi0 hz0 hz1 .i64 .i64 K K K rfl rfl rfl rfl (by rw [hz2]; omega) (by unfold maxLen; omega) (Nat.le_refl _) ?_; intro w5 hown5 hgrow5; have r5 : Row Value.bool 4 w5 w3.heap.size K (fun _ => false) := Row.made hown5; have x5 : Ext w3 w5 := (Below.refl _ _).grown hgrow5 (Nat.le_refl _) (fun k hk => by cases hk); clear hown5 hgrow5)
      | (refine wpList_copy_row (mk := Value.bool) rfl (.tmp 26) (.tmp 29) _ _ rfl 4 Try.underlying26 (by kernel_rfl) _ _ _ _ _ _ K rfl rfl rfl (by omega) w3.heap.size 0 K 4 _ _ r5 (HSrc.out _ x5) (fun _ => rfl) (by omega) (fun _ => rfl) w3 x5 ?_; intro w6 r6 x6; clear r5 x5))
    go_ret2
    exact ⟨_, _, rfl, Nat.le_refl _, by unfold maxLen; omega, (r6.congr (over_rd l f x _ K)).holds, x4.trans x6, fun p hp => by cases hp; exact x4.size⟩

set_option maxHeartbeats 1000000 in
theorem cbits_f : RdCF Value.bool 26 := by
  intro f c x k a n d l w ha hnd hdm hn2 wx wk
  have K1 := Lib.hid (fun w' (hx : Ext w w') => creadb_c f c x k a n d l w' (ha.ext hx) hnd hdm hn2 wx wk)
  unfold RdPostF at K1 ⊢
  have e0 := Ext.alloc w (.cells #[.int .i64 f, .int .i64 c] 23)
  clear ha hnd hdm hn2 wx wk
  go_enter Try.func26, Try.ntmps26
  go_wp2_with fail
  refine (K1.out _ e0).mono ?_; rintro e w1 ⟨b, q, rfl, h1, h2, h3, h4, h5⟩
  go_wp2
  go_ret2
  exact ⟨b, q, rfl, h1, h2, h3, e0.trans h4, fun p hp => Nat.le_trans e0.size (h5 p hp)⟩
theorem cbits_c : RdC Value.bool 26 := cbits_f.old
end Go.Proofs.Ytkgakeknnfnjdaa
