/-
  CONTRACTS: package diag (layer 18): execution, fits, Do: all of them as one structure.
-/
import Derived.Test.YtchdgodmncckcaaDiaX
namespace Go.Proofs.Ytchdgodmncckcaa
open Go.RowKit
set_option linter.unusedVariables false
set_option maxRecDepth 100000

theorem exC_repeat : ExC 35 0 :=
  ⟨fun args w => call_enters18 Try.func35 (by kernel_rfl) rfl args w, fun p F D b m d u w h hh hO m2 md mm hu h0 hk h1 h3 => drepeat_x p F D b m d u w h hh h0⟩
theorem exC_restart : ExC 36 1 :=
  ⟨fun args w => call_enters18 Try.func36 (by kernel_rfl) rfl args w, fun p F D b m d u w h hh hO m2 md mm hu h0 hk h1 h3 => by obtain rfl : m = 2 := hk.resolve_left (by decide); exact drestart_x p F D b d u w h hh hO h0 (h1 rfl)⟩
theorem exC_tell : ExC 37 2 :=
  ⟨fun args w => call_enters18 Try.func37 (by kernel_rfl) rfl args w, fun p F D b m d u w h hh hO m2 md mm hu h0 hk h1 h3 => by obtain rfl : m = 2 := hk.resolve_left (by decide); exact dtell_x p F D b d u w h hh h0⟩
theorem exC_delim : ExC 38 3 :=
  ⟨fun args w => call_enters18 Try.func38 (by kernel_rfl) rfl args w, fun p F D b m d u w h hh hO m2 md mm hu h0 hk h1 h3 => by obtain rfl : m = 2 := hk.resolve_left (by decide); exact ddelim_x p F D b d u w h hh hO hu h0⟩
theorem exC_listen : ExC 39 4 :=
  ⟨fun args w => call_enters18 Try.func39 (by kernel_rfl) rfl args w, fun p F D b m d u w h hh hO m2 md mm hu h0 hk h1 h3 => by obtain rfl : m = 2 := hk.resolve_left (by decide); exact dlisten_x p F D b d u w h h0⟩
theorem exC_clear : ExC 40 10 :=
  ⟨fun args w => call_enters18 Try.func40 (by kernel_rfl) rfl args w, fun p F D b m d u w h hh hO m2 md mm hu h0 hk h1 h3 => by obtain rfl : m = 2 := hk.resolve_left (by decide); exact dclear_x p F D b d u w h hh hO h0⟩
theorem exC_counter (j : Nat) (hj : j < 8) (k : Int) (e : k = 11 + (j : Int)) : ExC 41 k :=
  ⟨fun args w => call_enters18 Try.func41 (by kernel_rfl) rfl args w, fun p F D b m d u w h hh hO m2 md mm hu h0 hk h1 h3 => by obtain rfl : m = 2 := hk.resolve_left (by omega); exact dcounter_x p F D b d u w j hj h hh (h0.trans e)⟩
theorem exC_drop : ExC 42 20 :=
  ⟨fun args w => call_enters18 Try.func42 (by kernel_rfl) rfl args w, fun p F D b m d u w h hh hO m2 md mm hu h0 hk h1 h3 => by obtain rfl : m = 2 := hk.resolve_left (by decide); exact ddrop_x p F D b d u w h hh hO h0⟩
set_option maxHeartbeats 4000000 in
theorem dexec_yes (k : Int) (k0 : 0 ≤ k) (h : dgK k = true) (w : World) : Calls Try.prog 23 #[.int .u16 k] w fun e w' => ∃ M, e = .returned (.func (Fn.func M) #[] #[]) ∧ ExC M k ∧ w' = w := by
  have hk : k = 0 ∨ k = 1 ∨ k = 2 ∨ k = 3 ∨ k = 4 ∨ k = 10 ∨ k = 11 ∨ k = 12 ∨ k = 13 ∨ k = 14 ∨ k = 15 ∨ k = 16 ∨ k = 17 ∨ k = 18 ∨ k = 20 := by have := of_decide_eq_true h; omega
  clear h k0
  rcases hk with rfl | rfl | rfl | rfl | rfl | rfl | rfl | rfl | rfl | rfl | rfl | rfl | rfl | rfl | rfl
  all_goals
    go_enter Try.func23, Try.ntmps23
    go_wp2
    go_ret
  · exact ⟨_, rfl, exC_repeat, rfl⟩
  · exact ⟨_, rfl, exC_restart, rfl⟩
  · exact ⟨_, rfl, exC_tell, rfl⟩
  · exact ⟨_, rfl, exC_delim, rfl⟩
  · exact ⟨_, rfl, exC_listen, rfl⟩
  · exact ⟨_, rfl, exC_clear, rfl⟩
  · exact ⟨_, rfl, exC_counter 0 (by decide) _ rfl, rfl⟩
  · exact ⟨_, rfl, exC_counter 1 (by decide) _ rfl, rfl⟩
  · exact ⟨_, rfl, exC_counter 2 (by decide) _ rfl, rfl⟩
  · exact ⟨_, rfl, exC_counter 3 (by decide) _ rfl, rfl⟩
  · exact ⟨_, rfl, exC_counter 4 (by decide) _ rfl, rfl⟩
  · exact ⟨_, rfl, exC_counter 5 (by decide) _ rfl, rfl⟩
  · exact ⟨_, rfl, exC_counter 6 (by decide) _ rfl, rfl⟩
  · exact ⟨_, rfl, exC_counter 7 (by decide) _ rfl, rfl⟩
  · exact ⟨_, rfl, exC_drop, rfl⟩
set_option maxHeartbeats 4000000 in
theorem dexec_no (k : Int) (k0 : 0 ≤ k) (h : dgK k = false) (w : World) : Calls Try.prog 23 #[.int .u16 k] w fun e w' => e = .returned .nilFunc ∧ w' = w := by
  have hk := of_decide_eq_false h
  have b0 : (k == 0) = false := by simp; omega
  have b1 : (k == 1) = false := by simp; omega
  have b2 : (k == 2) = false := by simp; omega
  have b3 : (k == 3) = false := by simp; omega
  have b4 : (k == 4) = false := by simp; omega
  have b10 : (k == 10) = false := by simp; omega
  have b11 : (k == 11) = false := by simp; omega
  have b12 : (k == 12) = false := by simp; omega
  have b13 : (k == 13) = false := by simp; omega
  have b14 : (k == 14) = false := by simp; omega
  have b15 : (k == 15) = false := by simp; omega
  have b16 : (k == 16) = false := by simp; omega
  have b17 : (k == 17) = false := by simp; omega
  have b18 : (k == 18) = false := by simp; omega
  have b20 : (k == 20) = false := by simp; omega
  clear hk h k0
  go_enter Try.func23, Try.ntmps23
  go_wp2
  go_ret
  exact ⟨rfl, rfl⟩
theorem dnil_in (d : Nat) (F : FuncId) (w : World) : (Op.equalIn (d + 1) 56 (.func (Fn.func F) #[] #[]) .nilFunc).run Try.prog w = .ok false w := by
  have hu := Try.underlying56
  simp [Op.equalIn, run_underlying hu]
theorem dnil_in' (d : Nat) (w : World) : (Op.equalIn (d + 1) 56 .nilFunc .nilFunc).run Try.prog w = .ok true w := by
  have hu := Try.underlying56
  simp [Op.equalIn, run_underlying hu]
theorem dnil_ne (F : FuncId) (w : World) : (binOp .eql 56 (.func (Fn.func F) #[] #[]) .nilFunc).run Try.prog w = .ok (.bool false) w := by
  have h := dnil_in 9999 F w
  simp only [binOp, Op.equal, Op.maxDepth, Sem.run_bind]
  rw [h]; rfl
theorem dnil_eq (w : World) : (binOp .eql 56 .nilFunc .nilFunc).run Try.prog w = .ok (.bool true) w := by
  have h := dnil_in' 9999 w
  simp only [binOp, Op.equal, Op.maxDepth, Sem.run_bind]
  rw [h]; rfl
/-- The words fit, or they don't. -/
theorem dfits_zero (x : Option Addr) (r c : Nat) (w : World) (hr : r ≤ 100000) : Calls Try.prog 25 #[.int .u16 0, .slice x r c] w fun e w' => e = .returned (.bool (decide (1 ≤ r ∧ r ≤ 125))) ∧ w' = w := by
  rcases (show r = 0 ∨ (1 ≤ r ∧ r ≤ 125) ∨ 125 < r by omega) with h | h | h
  · subst h
    go_enter Try.func25, Try.ntmps25
    go_wp2
    go_ret
    exact ⟨rfl, rfl⟩
  · have h1 : (1 : Int) ≤ r := by omega
    have h2 : (r : Int) ≤ 125 := by omega
    have HE : Hid (decide (1 ≤ r ∧ r ≤ 125) = true) := Lib.hid (decide_eq_true h)
    clear h hr
    rw [HE.out]
    go_enter Try.func25, Try.ntmps25
    go_wp2
    go_ret
    exact ⟨rfl, rfl⟩
  · have h1 : (1 : Int) ≤ r := by omega
    have h2 : ¬ (r : Int) ≤ 125 := by omega
    have HE : Hid (decide (1 ≤ r ∧ r ≤ 125) = false) := Lib.hid (decide_eq_false (by omega))
    clear h hr
    rw [HE.out]
    go_enter Try.func25, Try.ntmps25
    go_wp2
    go_ret
    exact ⟨by simp, rfl⟩
theorem dfits_many (k : Int) (x : Option Addr) (r c : Nat) (w : World) (hk : k ≠ 0) (hr : r ≠ 1) : Calls Try.prog 25 #[.int .u16 k, .slice x r c] w fun e w' => e = .returned (.bool false) ∧ w' = w := by
  have b0 : (k == 0) = false := by simpa using hk
  have b1 : ((r : Int) != 1) = true := by simp; omega
  clear hk hr
  go_enter Try.func25, Try.ntmps25
  go_wp2
  go_ret
  exact ⟨rfl, rfl⟩
theorem dfits_one (k v : Int) (g o c : Nat) (w : World) (hk : k ≠ 0) (c0 : w.cell? ⟨g, o, none⟩ = some (.int .u16 v)) (v0 : 0 ≤ v) (v1 : v < 65536) :
    Calls Try.prog 25 #[.int .u16 k, .slice (some ⟨g, o, none⟩) 1 c] w fun e w' => e = .returned (.bool (fitB k 1 v)) ∧ w' = w := by
  have b0 : (k == 0) = false := by simpa using hk
  by_cases k1 : k = 1
  · subst k1
    rcases (show v = 0 ∨ v = 65280 ∨ (v ≠ 0 ∧ v ≠ 65280) by omega) with h | h | ⟨h, h'⟩
    · subst h
      have HE : Hid (fitB 1 1 0 = true) := Lib.hid (by decide)
      rw [HE.out]
      clear v0 v1 hk b0
      go_enter Try.func25, Try.ntmps25
      go_wp2
      go_ret
      exact ⟨rfl, rfl⟩
    · subst h
      have HE : Hid (fitB 1 1 65280 = true) := Lib.hid (by decide)
      rw [HE.out]
      clear v0 v1 hk b0
      go_enter Try.func25, Try.ntmps25
      go_wp2
      go_ret
      exact ⟨rfl, rfl⟩
    · have b1 : (v == 0) = false := by simpa using h
      have b2 : (v == 65280) = false := by simpa using h'
      have HE : Hid (fitB 1 1 v = false) := Lib.hid (by unfold fitB; rw [if_neg (by decide)]; exact decide_eq_false (fun hh => (hh.2.1 rfl).elim h h'))
      rw [HE.out]
      clear v0 v1 hk b0 h h'
      go_enter Try.func25, Try.ntmps25
      go_wp2
      go_ret
      exact ⟨rfl, rfl⟩
  · have b1 : (k == 1) = false := by simpa using k1
    by_cases k3 : k = 3
    · subst k3
      have HE : Hid (fitB 3 1 v = (v % 256 == 0)) := Lib.hid (by
        unfold fitB; rw [if_neg (by decide)]
        by_cases h : v % 256 = 0
        · rw [h]; exact decide_eq_true ⟨rfl, fun e => absurd e (by decide), fun _ => rfl, fun _ e => absurd rfl e⟩
        · rw [show (v % 256 == 0) = false by simpa using h]; exact decide_eq_false (fun hh => h (hh.2.2.1 rfl)))
      have q0 : IntKind.u8.wrap v = v % 256 := by rw [IntKind.wrap_u8]
      rw [HE.out]
      clear v0 v1 hk b0 b1 k1
      go_enter Try.func25, Try.ntmps25
      go_wp2
      go_ret
      exact ⟨rfl, rfl⟩
    · have b3 : (k == 3) = false := by simpa using k3
      have HE : Hid (fitB k 1 v = (v == 0)) := Lib.hid (by
        unfold fitB; rw [if_neg hk]
        by_cases h : v = 0
        · rw [h]; exact decide_eq_true ⟨rfl, fun e => absurd e k1, fun e => absurd e k3, fun _ _ => rfl⟩
        · rw [show (v == 0) = false by simpa using h]; exact decide_eq_false (fun hh => h (hh.2.2.2 k1 k3)))
      rw [HE.out]
      clear v0 v1 hk k1 k3
      go_enter Try.func25, Try.ntmps25
      go_wp2
      go_ret
      exact ⟨rfl, rfl⟩
theorem dfits_v {k : Int} {x : Option Addr} {r c : Nat} {u : Nat → Int} {w : World} {B : Bool} (hB : fitB k r (u 0) = B) (hx : Holds .u16 w x r u) (hr : r ≤ 100000) (hu : ∀ i, i < r → 0 ≤ u i ∧ u i < 65536) :
    Calls Try.prog 25 #[.int .u16 k, .slice x r c] w fun e w' => e = .returned (.bool B) ∧ w' = w := by
  by_cases hk : k = 0
  · subst hk
    rw [← hB]; unfold fitB; rw [if_pos rfl]
    exact dfits_zero x r c w hr
  · by_cases h1 : r = 1
    · subst h1
      obtain ⟨g, o, rfl, hg, hc⟩ := hx.resolve_left (by decide)
      rw [← hB]
      exact dfits_one k (u 0) g o c w hk (hc 0 (by decide)) (hu 0 (by decide)).1 (hu 0 (by decide)).2
    · rw [← hB]; unfold fitB; rw [if_neg hk, decide_eq_false (fun hh => h1 hh.1)]
      exact dfits_many k x r c w hk h1

def DoP (p : Nat) (F : Nat → Prop) (D : Dia) (n : Nat) (f : Nat → Int) (w : World) (e : Ending) (w' : World) : Prop :=
  ∃ b q G, e = .returned (.tuple #[.slice b (dgM n f) q, .int .i64 (dgW n f), .int .i64 (dgE n f)]) ∧ HoldsG (Value.int .u8) w' b (dgM n f) (dgB D f) ∧ OffN G b (dgM n f) ∧ Keep F w w' ∧ DS w' p G (dgD D n f) ∧ Grows F G w
/-- It is refused. -/
theorem doP_no {p : Nat} {F : Nat → Prop} {D : Dia} {n : Nat} {f : Nat → Int} {w w' : World} {E : Int} (hE : dgE n f = E) (h0 : E ≠ 0) (h : DS w p F D) (x : Ext w w') : DoP p F D n f w (.returned (.tuple #[.slice none 0 0, .int .i64 0, .int .i64 E])) w' := by
  subst hE
  obtain ⟨e1, e2, e3⟩ := dg_err (D := D) h0
  unfold DoP
  rw [e1, e2, e3]
  exact ⟨none, 0, F, rfl, .inl rfl, .inl rfl, .of_ext x, h.ext x, Grows.refl _ _⟩
theorem ddo_nil (w : World) : Calls Try.prog 8 #[.pointer none, .slice none 0 0] w fun e w' => ∃ b m q, e = .returned (.tuple #[.slice b m q, .int .i64 0, .int .i64 11]) ∧ Ext w w' := by
  go_enter Try.func8, Try.ntmps8
  go_wp2_with fail
  refine (dmade_nil w).mono ?_; rintro e w' ⟨rfl, rfl⟩
  go_wp2
  go_returns
  exact ⟨none, 0, 0, rfl, Ext.refl _⟩
set_option maxHeartbeats 4000000 in
theorem ddo_any (p : Nat) (F : Nat → Prop) (D : Dia) (a : Option Addr) (n c : Nat) (f : Nat → Int) (w : World) (h : DS w p F D) (ha : Holds .u8 w a n f) (hO : OffN F a n) (hn : n ≤ 600) (hnc : n ≤ c) (hcm : c ≤ maxLen) (hf : ∀ i, i < n → 0 ≤ f i ∧ f i < 256) :
    Calls Try.prog 8 #[.pointer (some ⟨p, 0, none⟩), .slice a n c] w (DoP p F D n f w) := by
  obtain ⟨t, c0⟩ : ∃ t, w.cell? ⟨p, 0, none⟩ = some (.pointer (some ⟨t, 0, none⟩)) := by obtain ⟨t, Ft, h1, h2, h3, h4, h5⟩ := h; exact ⟨t, cell_of_heap h3 rfl⟩
  have HM := Lib.hid (dmade_v p t w c0)
  have HD := Lib.hid h
  rcases dg_ways n f with ⟨hE, h2⟩ | ⟨hE, h2, hk⟩ | ⟨hE, h2, hk, hr⟩ | ⟨hE, h2, hk, hr⟩
  · have HA := Lib.hid (at_none a n c 0 w (by omega) (.inr (by omega)))
    have HE := Lib.hid hE
    clear h ha hO hn hnc hcm hf hE h2 c0
    go_enter Try.func8, Try.ntmps8
    go_wp2_with fail
    refine HM.out.mono ?_; rintro e w1 ⟨rfl, rfl⟩
    go_wp2_with fail
    refine HA.out.mono ?_; rintro e w2 ⟨rfl, rfl⟩
    go_wp2
    go_returns
    exact doP_no HE.out (by decide) HD.out (Ext.refl _)
  · have HA := Lib.hid (show Calls Try.prog 22 #[.slice a n c, .int .i64 0] w (fun e w' => e = .returned (.tuple #[.int .u16 (dgN f), .bool true]) ∧ ∃ q, w' = w.drewN q) from at_some a n c 0 f w ha (by omega) (by omega) hf)
    have HE := Lib.hid hE
    have HN := Lib.hid (fun w => dexec_no (dgN f) (by have := hf 0 (by omega); have := hf 1 (by omega); unfold dgN; omega) hk w)
    have hne := dnil_eq
    generalize dgN f = k at HA HN
    clear h ha hO hn hnc hcm hf hE h2 c0 hk
    go_enter Try.func8, Try.ntmps8
    go_wp2_with fail
    refine HM.out.mono ?_; rintro e w1 ⟨rfl, rfl⟩
    go_wp2_with fail
    refine HA.out.mono ?_; rintro e w2 ⟨rfl, q, hw2⟩
    have x2 : Ext w1 w2 := by rw [hw2]; exact below_drewN (Below.refl _ _) q
    clear hw2
    go_wp2_with fail
    refine (HN.out w2).mono ?_; rintro e w3 ⟨rfl, rfl⟩
    go_wp2
    go_returns
    exact doP_no HE.out (by decide) HD.out x2
  · have HA := Lib.hid (show Calls Try.prog 22 #[.slice a n c, .int .i64 0] w (fun e w' => e = .returned (.tuple #[.int .u16 (dgN f), .bool true]) ∧ ∃ q, w' = w.drewN q) from at_some a n c 0 f w ha (by omega) (by omega) hf)
    have HE := Lib.hid hE
    have HN := Lib.hid (fun w => dexec_yes (dgN f) (by have := hf 0 (by omega); have := hf 1 (by omega); unfold dgN; omega) hk w)
    have hne := dnil_ne
    by_cases hod : n % 2 = 1
    · have HG := Lib.hid (fun w => get_odd a n c w (by omega) hod)
      generalize dgN f = k at HA HN
      clear h ha hO hn hnc hcm hf hE h2 c0 hk hr hod
      go_enter Try.func8, Try.ntmps8
      go_wp2_with fail
      refine HM.out.mono ?_; rintro e w1 ⟨rfl, rfl⟩
      go_wp2_with fail
      refine HA.out.mono ?_; rintro e w2 ⟨rfl, q, hw2⟩
      have x2 : Ext w1 w2 := by rw [hw2]; exact below_drewN (Below.refl _ _) q
      clear hw2
      go_wp2_with fail
      refine (HN.out w2).mono ?_; rintro e w3 ⟨M, rfl, hM, hw3⟩
      rw [hw3]; clear hw3 hM
      go_wp2_with fail
      refine (HG.out w2).mono ?_; rintro e w4 ⟨rfl, hw4⟩
      rw [← hw4]; clear hw4
      go_wp2
      go_returns
      exact doP_no HE.out (by decide) HD.out x2
    · obtain ⟨m, rfl⟩ : ∃ m, n = 2 * m := ⟨n / 2, by omega⟩
      have HB := Lib.hid (fit_dgR (by omega) hf)
      rw [hr] at HB
      have hu := getF_bd hf
      obtain ⟨k, hkk⟩ : ∃ k, dgN f = k := ⟨_, rfl⟩
      have HG := Lib.hid (fun w (x : Ext _ w) => get_new a m c f w (Holds.below ha x) (by omega) hf)
      have hm1 : (1 : Int) ≤ m := by omega
      have HI := Lib.hid (And.intro hn hu)
      rw [hkk] at HA HN HB
      clear h ha hO hn hnc hcm hf hE h2 c0 hk hr hod hkk hu
      go_enter Try.func8, Try.ntmps8
      go_wp2_with fail
      refine HM.out.mono ?_; rintro e w1 ⟨rfl, rfl⟩
      go_wp2_with fail
      refine HA.out.mono ?_; rintro e w2 ⟨rfl, q, hw2⟩
      have x2 : Ext w1 w2 := by rw [hw2]; exact below_drewN (Below.refl _ _) q
      clear hw2
      go_wp2_with fail
      refine (HN.out w2).mono ?_; rintro e w3 ⟨M, rfl, hM, hw3⟩
      rw [hw3]; clear hw3 hM
      go_wp2_with fail
      refine (HG.out w2 x2).mono ?_; rintro e w4 ⟨b, d, rfl, hmd, hdm, hh, hfr, x4⟩
      obtain ⟨g, o, rfl, hg, hc⟩ := hh.resolve_left (by omega)
      have hmd' : (m : Int) ≤ d := by omega
      have hdm' : (d : Int) ≤ 9223372036854775807 := by unfold maxLen at hdm; omega
      have HH := Lib.hid (And.intro hg hc)
      have HL := Lib.hid hmd
      clear hh hg hc hfr hmd hdm
      by_cases hd1 : d = 1
      · go_wp2_with fail
        refine (dfits_v (B := false) (u := fun i => getF f (1 + i)) HB.out.symm (.inl (by have := HL.out; omega)) (by have := HL.out; omega) (fun i hi => by have := HL.out; omega)).mono ?_; rintro e w5 ⟨rfl, hw5⟩
        rw [hw5]; clear hw5
        go_wp2
        go_returns
        exact doP_no HE.out (by decide) HD.out (x2.trans x4)
      · go_wp2_with fail
        refine (dfits_v (B := false) (u := fun i => getF f (1 + i)) HB.out.symm (.inr ⟨g, o + 1, rfl, HH.out.1, fun i hi => by rw [Nat.add_assoc]; exact HH.out.2 (1 + i) (by omega)⟩) (by have := HI.out.1; omega) (fun i hi => HI.out.2 _ (by omega))).mono ?_; rintro e w5 ⟨rfl, hw5⟩
        rw [hw5]; clear hw5
        go_wp2
        go_returns
        exact doP_no HE.out (by decide) HD.out (x2.trans x4)
  · have hod : ¬ n % 2 = 1 := fun e => by rw [odd_dgR e] at hr; cases hr
    have HA := Lib.hid (show Calls Try.prog 22 #[.slice a n c, .int .i64 0] w (fun e w' => e = .returned (.tuple #[.int .u16 (dgN f), .bool true]) ∧ ∃ q, w' = w.drewN q) from at_some a n c 0 f w ha (by omega) (by omega) hf)
    have HN := Lib.hid (fun w => dexec_yes (dgN f) (by have := hf 0 (by omega); have := hf 1 (by omega); unfold dgN; omega) hk w)
    have hne := dnil_ne
    obtain ⟨m, rfl⟩ : ∃ m, n = 2 * m := ⟨n / 2, by omega⟩
    have hB := fit_dgR (by omega) hf
    rw [hr] at hB
    replace hB := hB.symm
    have hu := getF_bd hf
    have HX := Lib.hid (ex_dg (D := D) hf hE)
    have hkk : getF f 0 = dgN f := rfl
    obtain ⟨hm2, hk0, h1, h3⟩ : 2 ≤ m ∧ (dgN f = 0 ∨ m = 2) ∧ (dgN f = 1 → getF f 1 = 0 ∨ getF f 1 = 65280) ∧ (dgN f = 3 → getF f 1 % 256 = 0) := by
      have hB' := hB
      unfold fitB at hB'
      by_cases e0 : dgN f = 0
      · rw [if_pos e0] at hB'
        have := of_decide_eq_true hB'
        exact ⟨by omega, .inl e0, fun e => by omega, fun e => by omega⟩
      · rw [if_neg e0] at hB'
        obtain ⟨y1, y2, y3, y4⟩ := of_decide_eq_true hB'
        exact ⟨by omega, .inr (by omega), y2, y3⟩
    have hm3 : m ≤ 126 := by
      have hB' := hB
      unfold fitB at hB'
      by_cases e0 : dgN f = 0
      · rw [if_pos e0] at hB'
        have := of_decide_eq_true hB'
        omega
      · rw [if_neg e0] at hB'
        have := (of_decide_eq_true hB').1
        omega
    have HK := Lib.hid (And.intro hk0 (And.intro h1 h3))
    have HB := Lib.hid hB
    obtain ⟨k, hkz⟩ : ∃ k, dgN f = k := ⟨_, rfl⟩
    have HG := Lib.hid (fun w (x : Ext _ w) => get_new a m c f w (Holds.below ha x) (by omega) hf)
    have hm1 : (1 : Int) ≤ m := by omega
    have HI := Lib.hid (And.intro hm3 (And.intro hm2 hu))
    rw [hkz] at HA HN HB HK hkk
    have HE := Lib.hid (And.intro hE hkk)
    clear h ha hO hn hnc hcm hf h2 c0 hk hr hod hkk hu hkz hB h1 h3 hk0 hm2 hm3 hE
    go_enter Try.func8, Try.ntmps8
    go_wp2_with fail
    refine HM.out.mono ?_; rintro e w1 ⟨rfl, rfl⟩
    go_wp2_with fail
    refine HA.out.mono ?_; rintro e w2 ⟨rfl, q, hw2⟩
    have x2 : Ext w1 w2 := by rw [hw2]; exact below_drewN (Below.refl _ _) q
    clear hw2
    go_wp2_with fail
    refine (HN.out w2).mono ?_; rintro e w3 ⟨M, rfl, hM, hw3⟩
    rw [hw3]; clear hw3
    have hent := hM.enters
    go_wp2_with fail
    refine (HG.out w2 x2).mono ?_; rintro e w4 ⟨b, d, rfl, hmd, hdm, hh, hfr, x4⟩
    have HR := Lib.hid hM
    have HH := Lib.hid (And.intro hh hfr)
    obtain ⟨g, o, rfl, hg, hc⟩ := hh.resolve_left (by have := HI.out.2.1; omega)
    have hmd' : (m : Int) ≤ d := by omega
    have hdm' : (d : Int) ≤ 9223372036854775807 := by unfold maxLen at hdm; omega
    have HC := Lib.hid (And.intro hg hc)
    have HL := Lib.hid hmd
    have hd1 : ¬ d = 1 := by have := HI.out.2.1; omega
    clear hh hg hc hfr hmd hdm hM
    go_wp2_with fail
    refine (dfits_v (B := true) (u := fun i => getF f (1 + i)) HB.out (.inr ⟨g, o + 1, rfl, HC.out.1, fun i hi => by rw [Nat.add_assoc]; exact HC.out.2 (1 + i) (by omega)⟩) (by have := HI.out.1; omega) (fun i hi => HI.out.2.2 _ (by omega))).mono ?_; rintro e w5 ⟨rfl, hw5⟩
    rw [hw5]; clear hw5
    go_wp2_with fail
    have hd4 := HD.out.ext (x2.trans x4)
    have hoff : Off F (some ⟨g, o, none⟩) := HH.out.2.off (fun i hi => Nat.lt_of_lt_of_le (HD.out.lt i hi) x2.size)
    refine (HR.out.does p F D (some ⟨g, o, none⟩) m d (getF f) w4 hd4 HH.out.1 hoff HI.out.2.1 HL.out HI.out.1 HI.out.2.2 HE.out.2 HK.out.1 HK.out.2.1 HK.out.2.2).mono ?_
    rintro e w6 ⟨x, q, G, rfl, h6, k6, d6, g6⟩
    have HP := Lib.hid (put_new x (exM (getF f 0) m) q (exU D (getF f)) w6 h6 (by unfold exM; split <;> (have := HI.out.1; omega)) (fun i hi => exU_bd HD.out.bd (u := getF f) (m := m) HI.out.2.2 i (by unfold exM at hi; split at hi <;> omega)))
    have HQ := Lib.hid (And.intro k6 (And.intro d6 g6))
    clear h6 k6 d6 g6 hd4 hoff
    go_wp2_with fail
    refine HP.out.mono ?_; rintro e w7 ⟨y, r, rfl, l1, l2, h7, f7, x7⟩
    have HZ := Lib.hid (And.intro h7 f7)
    clear h7 f7 l1 l2
    go_wp2
    go_returns
    unfold DoP
    obtain ⟨z1, z2, z3, z4⟩ := HX.out
    rw [z1, z2, z3, HE.out.1]
    have x24 : Ext w1 w4 := x2.trans x4
    refine ⟨_, _, G, rfl, ?_, .inr (HZ.out.2.off HQ.out.2.1.lt), ((Keep.of_ext x24).trans HQ.out.1 (fun i e => .inl e)).trans_ext x7, HQ.out.2.1.ext x7, fun i hi => (HQ.out.2.2 i hi).imp id (fun e => Nat.le_trans x24.size e)⟩
    exact Holds.congr HZ.out.1 (fun i hi => z4 i (by unfold exM at hi; split at hi <;> omega))

theorem diagC : DiagC DS where
  keep := DS.keep
  lt := DS.lt
  bd := DS.bd
  new := dnew_any
  does := ddo_any
  doNil := ddo_nil
  count := dcount_any
  countNil := dcount_nil
  all := dall_any
  listening := dlistening_any
  listeningNil := dlistening_nil
  register := dregister_any
  setreg := dsetreg_any
  delim := ddelim_any
  clone := dclone_any
end Go.Proofs.Ytchdgodmncckcaa
