/-
  CONTRACTS: package who (layer 22): Report, Read.
-/
import Derived.Test.YtkgakeknnfnjdaaWhoC
import Derived.Test.YtkgakeknnfnjdaaBytesEq
import Derived.Test.YtkgakeknnfnjdaaBytesCl
import Derived.Deep.CutBlock
namespace Go.Proofs.Ytkgakeknnfnjdaa
open Go.RowKit
set_option linter.unusedVariables false
set_option maxRecDepth 100000

set_option maxHeartbeats 4000000 in
theorem report_f (a : Option Addr) (n c : Nat) (f : Nat → Int) (r : Bool) (w : World) (ha : Holds .u8 w a n f) (hn : n ≤ 1000) :
    Calls Try.prog 8 #[.slice a n c, .bool r] w fun e w' => ∃ b q, e = .returned (.tuple #[.slice b (repK n) q, .int .i64 (repE n)]) ∧ Holds .u8 w' b (repK n) (ofL (repL n f r)) ∧ repK n ≤ q ∧ q ≤ maxLen ∧ Ext w w' := by
  obtain ⟨i8, hi8, hz80, hz81, hz82⟩ := info_parts Try.info8i
  by_cases h : n ≤ 240
  · have hk : repK n = n + 2 := if_pos h
    have hE : repE n = 0 := if_pos h
    rw [hk, hE]
    have h' : ¬ (240 : Int) < n := by omega
    have u1 : IntKind.u8.wrap ((n : Int) + 1) = n + 1 := by rw [IntKind.wrap_u8]; omega
    have u2 : IntKind.i64.wrap ((n : Int) + 1) = n + 1 := IntWalk.i64_in _ (by omega)
    obtain ⟨B, hB⟩ : ∃ B, B = w.heap.size := ⟨_, rfl⟩
    have HB := Lib.hid hB
    obtain ⟨W1, hW1, x1, hown1⟩ : ∃ W1, W1 = w.alloc (.cells #[.int .u8 ((n : Int) + 1)] 5) ∧ Ext w W1 ∧ W1.ownsRow B 5 1 (.slice (some ⟨w.heap.size, 0, none⟩) 1 1) 1 [.int .u8 ((n : Int) + 1)] := ⟨_, rfl, Ext.alloc _ _, own_lit1 w _ B (by rw [hB]; exact Nat.le_refl _)⟩
    have HA := Lib.hid (ha.ext x1)
    have HX := Lib.hid x1
    have HL : Hid (∀ V : Int, (if r = true then (255 : Int) else 0) = V → lst .u8 (ofL (repL n f r)) (n + 2) = ([.int .u8 ((n : Int) + 1)] ++ lstG (Value.int .u8) f n) ++ lstG (Value.int .u8) (ofL [V]) 1) := Lib.hid (fun V hV => by
      have e := lst_ofL (k := .u8) (repL n f r)
      rw [repL_len] at e
      rw [e]
      unfold repL
      rw [hV]
      simp [lstG, ofL])
    clear ha hB h hk hE
    cases r
    · go_enter Try.func8, Try.ntmps8
      go_upto_region 7 with fail
      go_upto_region 8 with (first
        | (at_builtin; refine wpList_append_holds rfl _ _ 30 rfl B 5 i8 (.int .u8 0) 1 Try.underlying30 hi8 hz80 hz81 hz82 rfl _ 1 _ (by rfl) (by rw [← hW1]; exact hown1) a n c f (by rfl) (by rw [← hW1]; exact HA.out) (fun _ => rfl) (by unfold maxLen; omega) (by omega) (by rw [HB.out, ← hW1]; exact HX.out.size) ?_; intro v2 w2 hown2 _ hb2))
      have x2 : Ext w w2 := Below.trans HX.out (by rw [← HB.out, hW1]; exact hb2)
      have hown3 := own_ext hown2 (Ext.alloc w2 (.cells #[.int .u8 0] 5))
      have HX2 := Lib.hid (x2.trans (Ext.alloc w2 (.cells #[.int .u8 0] 5)))
      clear hW1 hown1 hown2 hb2 x1 x2
      go_wp2_with (first
        | (at_builtin; refine wpList_append_holds rfl _ _ 30 rfl B 5 i8 (.int .u8 0) 1 Try.underlying30 hi8 hz80 hz81 hz82 rfl _ (1 + n) _ (by rfl) hown3 (some ⟨w2.heap.size, 0, none⟩) 1 1 (ofL [0]) (by rfl) (Holds.lit w2 [0] 5 _ rfl 1 rfl) (fun _ => rfl) (by unfold maxLen; omega) (by omega) (by rw [HB.out]; exact HX2.out.size) ?_; intro v3 w3 hown4 _ hb3))
      have hown5 : w3.ownsRow B 5 1 v3 (n + 2) (lst .u8 (ofL (repL n f false)) (n + 2)) := by
        rw [HL.out 0 rfl, show n + 2 = 1 + n + 1 by omega]; exact hown4
      have x3 : Ext w w3 := Below.trans HX2.out (by rw [← HB.out]; exact hb3)
      obtain ⟨b, q, rfl, q1, q2, q3, q4⟩ := Holds.of_own_at hown5
      go_ret2
      exact ⟨b, q, rfl, q3, q1, q2, x3⟩
    · go_enter Try.func8, Try.ntmps8
      go_upto_region 7 with fail
      go_upto_region 8 with (first
        | (at_builtin; refine wpList_append_holds rfl _ _ 30 rfl B 5 i8 (.int .u8 0) 1 Try.underlying30 hi8 hz80 hz81 hz82 rfl _ 1 _ (by rfl) (by rw [← hW1]; exact hown1) a n c f (by rfl) (by rw [← hW1]; exact HA.out) (fun _ => rfl) (by unfold maxLen; omega) (by omega) (by rw [HB.out, ← hW1]; exact HX.out.size) ?_; intro v2 w2 hown2 _ hb2))
      have x2 : Ext w w2 := Below.trans HX.out (by rw [← HB.out, hW1]; exact hb2)
      have hown3 := own_ext hown2 (Ext.alloc w2 (.cells #[.int .u8 255] 5))
      have HX2 := Lib.hid (x2.trans (Ext.alloc w2 (.cells #[.int .u8 255] 5)))
      clear hW1 hown1 hown2 hb2 x1 x2
      go_wp2_with (first
        | (at_builtin; refine wpList_append_holds rfl _ _ 30 rfl B 5 i8 (.int .u8 0) 1 Try.underlying30 hi8 hz80 hz81 hz82 rfl _ (1 + n) _ (by rfl) hown3 (some ⟨w2.heap.size, 0, none⟩) 1 1 (ofL [255]) (by rfl) (Holds.lit w2 [255] 5 _ rfl 1 rfl) (fun _ => rfl) (by unfold maxLen; omega) (by omega) (by rw [HB.out]; exact HX2.out.size) ?_; intro v3 w3 hown4 _ hb3))
      have hown5 : w3.ownsRow B 5 1 v3 (n + 2) (lst .u8 (ofL (repL n f true)) (n + 2)) := by
        rw [HL.out 255 rfl, show n + 2 = 1 + n + 1 by omega]; exact hown4
      have x3 : Ext w w3 := Below.trans HX2.out (by rw [← HB.out]; exact hb3)
      obtain ⟨b, q, rfl, q1, q2, q3, q4⟩ := Holds.of_own_at hown5
      go_ret2
      exact ⟨b, q, rfl, q3, q1, q2, x3⟩
  · have hk : repK n = 0 := if_neg h
    have hE : repE n = 13 := if_neg h
    rw [hk, hE]
    have h' : (240 : Int) < n := by omega
    clear ha hn h hk hE
    go_enter Try.func8, Try.ntmps8
    go_wp2
    go_ret2
    exact ⟨none, 0, rfl, .inl rfl, Nat.le_refl _, Nat.zero_le _, Ext.refl _⟩

/-! ### Read -/
/-- What stands before and behind what is read: said again, the same bytes, just when they may be. -/
theorem rr_eq {n : Nat} {f : Nat → Int} (h2 : 2 ≤ n) (h : n ≤ 242) :
    eqB n n (ofL (repL (n - 2) (rrF f) (decide (f (n - 1) = 255)))) f = rrB n f := by
  obtain ⟨e0, e1, e2⟩ := rep_at (n - 2) (rrF f) (decide (f (n - 1) = 255))
  rw [Bool.eq_iff_iff, eqB_iff]
  unfold rrB
  rw [decide_eq_true_iff]
  constructor
  · rintro ⟨-, hq⟩
    have q0 := hq 0 (by omega)
    have q1 := hq (n - 1) (by omega)
    rw [e0] at q0
    have e2' := e2
    rw [show n - 2 + 1 = n - 1 by omega] at e2'
    rw [e2'] at q1
    refine ⟨h2, h, by omega, ?_⟩
    by_cases e : f (n - 1) = 255
    · exact .inr e
    · rw [decide_eq_false e, if_neg (by decide)] at q1; exact .inl q1.symm
  · rintro ⟨-, -, q0, q1⟩
    refine ⟨rfl, fun i hi => ?_⟩
    rcases (show i = 0 ∨ (∃ j, i = 1 + j ∧ j < n - 2) ∨ i = n - 2 + 1 by
      by_cases h0 : i = 0
      · exact .inl h0
      · by_cases h5 : i = n - 2 + 1
        · exact .inr (.inr h5)
        · exact .inr (.inl ⟨i - 1, by omega, by omega⟩)) with rfl | ⟨j, rfl, hj⟩ | rfl
    · rw [e0]; omega
    · rw [e1 j hj]; rfl
    · rw [e2, show n - 2 + 1 = n - 1 by omega]
      by_cases e : f (n - 1) = 255
      · rw [decide_eq_true e, if_pos rfl, e]
      · rw [decide_eq_false e, if_neg (by decide)]; exact (q1.resolve_right e).symm
theorem rep_bytes {n : Nat} {f : Nat → Int} {r : Bool} (h : n ≤ 240) (hf : ∀ i, i < n → 0 ≤ f i ∧ f i < 256) : ∀ i, i < n + 2 → 0 ≤ ofL (repL n f r) i ∧ ofL (repL n f r) i < 256 := fun i hi => by
  obtain ⟨e0, e1, e2⟩ := rep_at n f r
  rcases (show i = 0 ∨ (∃ j, i = 1 + j ∧ j < n) ∨ i = n + 1 by
    by_cases h0 : i = 0
    · exact .inl h0
    · by_cases h5 : i = n + 1
      · exact .inr (.inr h5)
      · exact .inr (.inl ⟨i - 1, by omega, by omega⟩)) with rfl | ⟨j, rfl, hj⟩ | rfl
  · rw [e0]; omega
  · rw [e1 j hj]; exact hf j hj
  · rw [e2]; split <;> omega
theorem rrB_long {n : Nat} {f : Nat → Int} (h : ¬ (2 ≤ n ∧ n ≤ 242)) : rrB n f = false := decide_eq_false (fun h' => h ⟨h'.1, h'.2.1⟩)
set_option maxHeartbeats 4000000 in
theorem read_f (a : Option Addr) (n c : Nat) (f : Nat → Int) (w : World) (ha : Holds .u8 w a n f) (hn : n ≤ 1000) (hnc : n ≤ c) (hc : c ≤ maxLen) (hf : ∀ i, i < n → 0 ≤ f i ∧ f i < 256) :
    Calls Try.prog 13 #[.slice a n c] w fun e w' => ∃ b q, e = .returned (.tuple #[.slice b (rrN n f) q, .bool (rrR n f), .int .i64 (rrE n f)]) ∧ Holds .u8 w' b (rrN n f) (rrF f) ∧ rrN n f ≤ q ∧ q ≤ maxLen ∧ Ext w w' := by
  unfold maxLen at hc
  by_cases h2 : n < 2
  · obtain ⟨p1, p2, p3⟩ := rr_no (rrB_long (n := n) (f := f) (by omega))
    rw [p1, p2, p3]
    have h2' : (n : Int) < 2 := by omega
    clear ha hf p1 p2 p3 h2
    go_enter Try.func13, Try.ntmps13
    go_wp2
    go_ret3
    exact ⟨none, 0, rfl, .inl rfl, Nat.le_refl _, Nat.zero_le _, Ext.refl _⟩
  · obtain ⟨b, o, rfl, hlt, hcell⟩ := ha.resolve_left (by omega)
    obtain ⟨k, hk⟩ : ∃ k, n - 1 = k := ⟨_, rfl⟩
    obtain ⟨j, hj⟩ : ∃ j, k - 1 = j := ⟨_, rfl⟩
    have HK := Lib.hid (show n = j + 2 ∧ k = j + 1 by omega)
    have HJ := Lib.hid hj
    have h2' : ¬ (n : Int) < 2 := by omega
    have cl := hcell k (by omega)
    have hin : Hid (Holds .u8 w (some ⟨b, o + 1, none⟩) j (rrF f)) := Lib.hid (.inr ⟨b, o + 1, rfl, hlt, fun i hi => by rw [Nat.add_assoc]; exact hcell (1 + i) (by omega)⟩)
    have HA : Hid (Holds .u8 w (some ⟨b, o, none⟩) n f) := Lib.hid ha
    have HF := Lib.hid hf
    have HN := Lib.hid (And.intro hn (And.intro hnc hc))
    have e1 : IntKind.i64.wrap ((n : Int) - 1) = (k : Int) := by rw [show (n : Int) - 1 = k by omega]; exact IntWalk.i64_in _ (by omega)
    have b1 : (1 : Int) ≤ k := by omega
    have b2 : (k : Int) < n := by omega
    have b3 : (k : Int) ≤ c := by omega
    have c1 : ¬ c = 1 := by omega
    obtain ⟨r, hr⟩ : ∃ r, (f k == 255) = r := ⟨_, rfl⟩
    have HR : Hid (decide (f (n - 1) = 255) = r) := Lib.hid (by rw [hk, ← hr]; rfl)
    have HRr := Lib.hid hr
    have KR := Lib.hid (fun W (x : Ext w W) => report_f (some ⟨b, o + 1, none⟩) j (c - 1) (rrF f) r W (hin.out.ext x) (by omega))
    have HQ : Hid (j ≤ 240 → eqB n n (ofL (repL j (rrF f) r)) f = rrB n f) := Lib.hid (fun h => by
      have e := rr_eq (n := n) (f := f) (by omega) (by omega)
      rw [show n - 2 = j by omega, hk, show decide (f k = 255) = r from hr] at e
      exact e)
    obtain ⟨E, hE⟩ : ∃ E, repE j = E := ⟨_, rfl⟩
    obtain ⟨K, hKK⟩ : ∃ K, repK j = K := ⟨_, rfl⟩
    have HE : Hid ((j ≤ 240 ∧ E = 0 ∧ K = n) ∨ (¬ j ≤ 240 ∧ E = 13 ∧ K = 0)) := Lib.hid (by
      rw [← hE, ← hKK]
      unfold repE repK
      by_cases h : j ≤ 240
      · exact .inl ⟨h, if_pos h, by rw [if_pos h]; omega⟩
      · exact .inr ⟨h, if_neg h, if_neg h⟩)
    rw [hE, hKK] at KR
    clear ha hf hcell hlt hk h2 hn hr hj hE hKK
    go_enter Try.func13, Try.ntmps13
    go_upto_region 4 with fail
    go_quiet (fail)
    rw [HJ.out, HRr.out]
    have x0 : Ext w (w.drewN nq) := Ext.of_drewN ⟨_, rfl⟩
    clear c1 b1 b2 b3 e1 cl
    go_wp2_with fail
    refine (KR.out _ x0).mono ?_; rintro e w1 ⟨p, q, rfl, h1, l1, m1, x1⟩
    have z1 := x0.trans x1
    rcases HE.out with ⟨hj, hE, hK⟩ | ⟨hj, hE, hK⟩
    · subst hE hK
      obtain ⟨V, hV⟩ : ∃ V, rrB K f = V := ⟨_, rfl⟩
      have KE := equal_any p (some ⟨b, o, none⟩) K K q c _ f w1 h1 (HA.out.ext z1) (fun i hi => rep_bytes hj (fun i hi => HF.out _ (by have := HK.out; omega)) i (by have := HK.out; omega)) HF.out
      rw [HQ.out hj, hV] at KE
      have KEq := Lib.hid KE
      have HV := Lib.hid hV
      clear KE hV HE h1 l1 m1 x1 hj x0
      cases V
      · go_wp2_with fail
        refine KEq.out.mono ?_; rintro e w2 ⟨rfl, rfl⟩
        go_wp2_with fail
        go_ret3
        obtain ⟨p1, p2, p3⟩ := rr_no HV.out
        rw [p1, p2, p3]
        exact ⟨none, 0, rfl, .inl rfl, Nat.le_refl _, Nat.zero_le _, z1⟩
      · have KC := Lib.hid (clone_any (some ⟨b, o + 1, none⟩) j (c - 1) (rrF f) w1 (hin.out.ext z1) (by have := HN.out; have := HK.out; omega))
        go_wp2_with fail
        refine KEq.out.mono ?_; rintro e w2 ⟨rfl, rfl⟩
        go_wp2_with fail
        refine KC.out.mono ?_; rintro e w2 ⟨p2, q2, rfl, h2, l2, m2, -, x2⟩
        go_wp2_with fail
        go_ret3
        have p1 : rrN K f = j := by unfold rrN; rw [if_pos HV.out]; have := HK.out; omega
        have p3 : rrE K f = 0 := if_pos HV.out
        have p4 : rrR K f = r := by unfold rrR; rw [HV.out, Bool.true_and]; exact HR.out
        rw [p1, p3, p4]
        exact ⟨p2, q2, rfl, h2, l2, m2, z1.trans x2⟩
    · subst hE hK
      have HP := Lib.hid (rr_no (rrB_long (n := n) (f := f) (by have := HK.out; omega)))
      clear HE hj
      go_wp2_with fail
      go_ret3
      rw [HP.out.1, HP.out.2.1, HP.out.2.2]
      exact ⟨none, 0, rfl, .inl rfl, Nat.le_refl _, Nat.zero_le _, z1⟩
end Go.Proofs.Ytkgakeknnfnjdaa
