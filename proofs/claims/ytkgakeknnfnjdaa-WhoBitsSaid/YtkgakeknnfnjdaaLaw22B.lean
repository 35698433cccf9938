/-
  THE LAWS OF LAYER 22: WhoBack (package who's contracts as premises).
-/
import Derived.Test.YtkgakeknnfnjdaaLaw22A
import Derived.Laws.CopyOwn
namespace Go.Proofs.Ytkgakeknnfnjdaa
open Go.RowKit
set_option linter.unusedVariables false
set_option maxRecDepth 100000

theorem u8_bd22 {f : Nat → Int} {n : Nat} (h : ∀ i, i < n → (Lit.int .u8 (f i)).wf = true) : ∀ i, i < n → 0 ≤ f i ∧ f i < 256 := fun i hi => by have := h i hi; simp [Lit.wf, IntKind.min, IntKind.max, IntKind.signed, IntKind.bits] at this; omega
theorem rep_bd {n : Nat} {f : Nat → Int} {r : Bool} (hn : n ≤ 240) (hf : ∀ i, i < n → 0 ≤ f i ∧ f i < 256) : ∀ i, i < n + 2 → 0 ≤ ofL (repL n f r) i ∧ ofL (repL n f r) i < 256 := fun i hi => by
  obtain ⟨e0, e1, e2⟩ := rep_at n f r
  rcases (show i = 0 ∨ (∃ j, i = 1 + j ∧ j < n) ∨ i = n + 1 by
    by_cases h0 : i = 0
    · exact .inl h0
    · by_cases h5 : i = n + 1
      · exact .inr (.inr h5)
      · exact .inr (.inl ⟨i - 1, by omega, by omega⟩)) with rfl | ⟨j, rfl, hj⟩ | rfl
  · rw [e0]; omega
  · rw [e1 j hj]; exact hf j hj
  · rw [e2]; split <;> decide
set_option maxHeartbeats 16000000 in
theorem whoBack.small (K : WhoC) (a b : Option Addr) (n c m d : Nat) (f g : Nat → Int) (r : Bool) (w : World) (ha : Holds .u8 w a n f) (hnc : n ≤ c) (hcm : c ≤ maxLen) (hf : ∀ i, i < n → 0 ≤ f i ∧ f i < 256) (hb : Holds .u8 w b m g) (hmd : m ≤ d) (hdm : d ≤ maxLen) (hg : ∀ i, i < m → 0 ≤ g i ∧ g i < 256) (hs : n + m ≤ 600) :
    Calls Try.prog 4 #[.slice a n c, .bool r, .slice b m d] w fun e w' => e = .returned (.bool true) ∧ Ext w w' := by
  have HK := Lib.hid K
  have KA := K.report a n c f r w ha (by omega) hnc hcm
  have KB := Lib.hid (fun W (x : Ext w W) => K.read b m d g W (hb.ext x) (by omega) hmd hdm hg)
  obtain ⟨k, hk⟩ : ∃ k, repK n = k := ⟨_, rfl⟩
  obtain ⟨E, hE⟩ : ∃ E, repE n = E := ⟨_, rfl⟩
  rw [hk, hE] at KA
  have HKA := Lib.hid KA
  have Hk : Hid (k = if n ≤ 240 then n + 2 else 0) := Lib.hid hk.symm
  have HE : Hid (E = if n ≤ 240 then 0 else 13) := Lib.hid hE.symm
  have HA := Lib.hid (And.intro ha (And.intro hf (And.intro hb hs)))
  have hs' : ¬ (600 : Int) < (n : Int) + m := by omega
  have e1 : IntKind.i64.wrap ((n : Int) + m) = n + m := IntWalk.i64_in _ (by omega)
  have e2 : IntKind.i64.wrap ((n : Int) + 2) = n + 2 := IntWalk.i64_in _ (by omega)
  clear K KA hk hE ha hf hb hs hnc hcm hmd hdm hg
  go_enter Try.func4, Try.ntmps4
  go_wp2_with fail
  refine HKA.out.mono ?_; rintro e w1 ⟨x, q, rfl, h1, l1, m1, x1⟩
  have HX1 := Lib.hid (And.intro h1 (And.intro l1 m1))
  clear h1 l1 m1 HKA
  go_upto_if 31 with fail
  go_cut [58] from 31 to 58 (fun v wx => Ext w wx)
  case first =>
    as_aux_lemma =>
    by_cases h240 : n ≤ 240
    · have hk : k = n + 2 := by rw [Hk.out, if_pos h240]
      have hE : E = 0 := by rw [HE.out, if_pos h240]
      subst hk hE
      obtain ⟨r1, r2, r3, r4⟩ := rep_read (f := f) (r := r) h240
      have KD := HK.out.read x (n + 2) q (ofL (repL n f r)) w1 HX1.out.1 (by omega) HX1.out.2.1 HX1.out.2.2 (rep_bd h240 HA.out.2.1)
      rw [r2, r3, show rrE (n + 2) (ofL (repL n f r)) = 0 by unfold rrE; rw [r1]; rfl] at KD
      have HKD := Lib.hid KD
      have HR4 := Lib.hid r4
      clear KD r1 r2 r3 r4 h240
      cases r
      all_goals
        go_wp2_with fail
        refine HKD.out.mono ?_; rintro e w2 ⟨y, q2, rfl, h2, l2, m2, x2⟩
        have HB := Lib.hid (bytes_is y a n q2 c _ f w2 h2 (HA.out.1.ext (x1.trans x2)) (by have := HA.out.2.2.2; omega) HR4.out)
        have x12 := x1.trans x2
        clear h2 l2 m2 x1 x2
        go_wp2_with fail
        refine HB.out.mono ?_; rintro e w3 ⟨rfl, x3⟩
        go_wp2_with fail
        go_meet
        exact x12.trans x3
    · have hk : k = 0 := by rw [Hk.out, if_neg h240]
      have hE : E = 13 := by rw [HE.out, if_neg h240]
      subst hk hE
      clear h240
      go_wp2_with fail
      go_meet
      exact x1
  case rest =>
    have x3 := hcut
    clear Hk HE HX1
    go_wp2_with fail
    refine (KB.out _ x3).mono ?_; rintro e w4 ⟨y, q4, rfl, h4, l4, m4, x4⟩
    have z4 := x3.trans x4
    clear x3 x4 KB
    cases hr : rrB m g with
    | false =>
      have c1 : rrN m g = 0 := by unfold rrN; rw [hr]; rfl
      have c2 : rrR m g = false := by unfold rrR; rw [hr]; rfl
      have c3 : rrE m g = 14 := by unfold rrE; rw [hr]; rfl
      rw [c1, c2, c3]
      clear c1 c2 c3 hr h4 l4 m4
      go_wp2_with fail
      refine (sure22 HK.out _).mono ?_; rintro e w10 ⟨rfl, x10⟩
      go_wp2
      go_ret
      exact ⟨rfl, z4.trans x10⟩
    | true =>
      obtain ⟨c1, c2, c3⟩ := read_rep hr
      have c4 : rrE m g = 0 := by unfold rrE; rw [hr]; rfl
      rw [c4]
      obtain ⟨N, hN⟩ : ∃ N, rrN m g = N := ⟨_, rfl⟩
      obtain ⟨R, hR⟩ : ∃ R, rrR m g = R := ⟨_, rfl⟩
      rw [hN] at c1 c2 c3 h4 l4 ⊢
      rw [hR] at c3 ⊢
      have KW := HK.out.report y N q4 (rrF g) R w4 h4 (by omega) l4 m4
      rw [show repK N = m by unfold repK; rw [if_pos c1]; exact c2, show repE N = 0 by unfold repE; rw [if_pos c1]] at KW
      have HW := Lib.hid KW
      have H3 := Lib.hid c3
      clear KW c1 c2 c3 c4 hr hN hR h4 l4 m4
      go_wp2_with fail
      refine HW.out.mono ?_; rintro e w5 ⟨z, q5, rfl, h5, l5, m5, x5⟩
      have HB := Lib.hid (bytes_is z b m q5 d _ g w5 h5 (HA.out.2.2.1.ext (z4.trans x5)) (by have := HA.out.2.2.2; omega) H3.out)
      have z5 := z4.trans x5
      clear h5 l5 m5 x5 z4 HW
      go_wp2_with fail
      refine HB.out.mono ?_; rintro e w6 ⟨rfl, x6⟩
      go_wp2_with fail
      refine (sure22 HK.out _).mono ?_; rintro e w10 ⟨rfl, x10⟩
      go_wp2
      go_ret
      exact ⟨rfl, z5.trans (x6.trans x10)⟩
set_option maxHeartbeats 8000000 in
theorem whoBack.walk0 (K : WhoC) (a b : Option Addr) (n c m d : Nat) (f g : Nat → Int) (r : Bool) (w : World) (ha : Holds .u8 w a n f) (hnc : n ≤ c) (hcr : c * 1 ≤ 140737488351232) (hf : ∀ i, i < n → (Lit.int .u8 (f i)).wf = true) (hb : Holds .u8 w b m g) (hmd : m ≤ d) (hdr : d * 1 ≤ 140737488351232) (hg : ∀ i, i < m → (Lit.int .u8 (g i)).wf = true) :
    Calls Try.prog 4 #[.slice a n c, .bool r, .slice b m d] w fun e w' => e = .returned (.bool true) ∧ Ext w w' := by
  by_cases hs : n + m ≤ 600
  · exact whoBack.small K a b n c m d f g r w ha hnc (by unfold maxLen; omega) (u8_bd22 hf) hb hmd (by unfold maxLen; omega) (u8_bd22 hg) hs
  · have hs' : (600 : Int) < (n : Int) + m := by omega
    have e1 : IntKind.i64.wrap ((n : Int) + m) = n + m := IntWalk.i64_in _ (by omega)
    have HK := Lib.hid K
    clear K ha hf hb hg hs hnc hcr hmd hdr
    go_enter Try.func4, Try.ntmps4
    go_wp2_with fail
    refine (sure22 HK.out _).mono ?_; rintro e w2 ⟨rfl, x2⟩
    go_wp2
    go_ret
    exact ⟨rfl, x2⟩
end Go.Proofs.Ytkgakeknnfnjdaa
