/-
  CONTRACTS: container/heap, over whatever lies behind the interface: 'S w a n': in w it holds a 0 .. a (n - 1).
-/
import Derived.Test.YtgjfomnipjljoaaKeep
import Derived.Test.YtgjfomnipjljoaaHeapMath
import Derived.Test.YtgjfomnipjljoaaRows
import Derived.Deep.LoopGhost
import Derived.Deep.DeepCutAuto
import Derived.WalkLawsBesides
import Derived.WalkSpells
import Derived.Deep.QuietTactic
import Derived.BigQuiet
import Derived.RegionTactic
import Derived.Outline
import Derived.Lib.Hide
import Derived.Handy
import Derived.IntWalk
namespace Go.Proofs.Ytgjfomnipjljoaa
open Go.RowKit

section
variable {E : Type} (lt : E → E → Bool) (S : World → (Nat → E) → Nat → Prop) (F : Nat → Prop) (r : Value)
/-- What Less and Swap do. -/
def LessDoes : Prop := ∀ (w : World) (a : Nat → E) (n i j : Nat), S w a n → i < n → j < n → Calls Try.prog 51 #[r, .int .i64 i, .int .i64 j] w fun e w' => e = .returned (.bool (lt (a i) (a j))) ∧ Keep F w w' ∧ S w' a n
def SwapDoes : Prop := ∀ (w : World) (a : Nat → E) (n i j : Nat), S w a n → i < n → j < n → Calls Try.prog 54 #[r, .int .i64 i, .int .i64 j] w fun e w' => e = .returned (.tuple #[]) ∧ Keep F w w' ∧ S w' (swp a i j) n
variable {lt S F r}
set_option maxHeartbeats 1000000 in
theorem hup_any (hL : LessDoes lt S F r) (hS : SwapDoes S F r) (o : Order lt) (w : World) (a : Nat → E) (n m j : Nat) (h : S w a n) (hm : m ≤ n) (hj : j < m) (hn : n ≤ 1000000) (hi : UpInv lt a m j) :
    Calls Try.prog 32 #[.iface 51 r, .int .i64 j] w fun e w' => e = .returned (.tuple #[]) ∧ Keep F w w' ∧ ∃ b, S w' b n ∧ Heap lt b m ∧ ((List.range m).map b).Perm ((List.range m).map a) ∧ ∀ k, m ≤ k → b k = a k := by
  have HL := Lib.hid hL
  have HS := Lib.hid hS
  clear hL hS
  go_enter Try.func32, Try.ntmps32
  go_wp2
  go_loopw [1] (fun jv wr => ∃ (q : Nat) (b : Nat → E), jv = .int .i64 q ∧ q < m ∧ S wr b n ∧ UpInv lt b m q ∧ Keep F w wr ∧ ((List.range m).map b).Perm ((List.range m).map a) ∧ ∀ k, m ≤ k → b k = a k) (fun jv _ => (intOf jv).toNat)
  case atStart => exact ⟨j, a, rfl, hj, h, hi, Keep.refl _ _, .refl _, fun _ _ => rfl⟩
  case round =>
    clear h hi hj
    obtain ⟨q, b, rfl, hqm, h, hi, k, hp, hr⟩ := hrel
    have HR := Lib.hid hr
    have hq : q < n := by omega
    clear hr
    by_cases q0 : q = 0
    · subst q0
      have hh := hi.heap0
      clear HL HS hi
      go_wp2
      go_end0
      exact ⟨rfl, k, b, h, hh, hp, HR.out⟩
    · obtain ⟨i, hi2⟩ : ∃ i, i = par q := ⟨_, rfl⟩
      have hlt := par_lt (show 0 < q by omega)
      have e1 : ((q : Int) - 1).tdiv 2 = i := by
        rw [Int.tdiv_eq_ediv_of_nonneg (by omega), hi2]; unfold par; omega
      have hin : i < n := by omega
      have hne : ((i : Int) == (q : Int)) = false := by simp; omega
      have hL1 := HL.out wr b n q i h hq hin
      have hi' := hi
      have HIQ := Lib.hid (show i < q by omega)
      have HI := Lib.hid hi2
      have HIM := Lib.hid (show i < m by omega)
      have HQM := Lib.hid hqm
      clear hi2
      cases hb : lt (b q) (b i) with
      | true =>
        rw [hb] at hL1
        have hst := hi.step o (show 0 < q by omega) (by rw [← HI.out]; exact hb)
        rw [← HI.out] at hst
        have HST := Lib.hid hst
        clear hi hi' hst hb h
        go_wp2_with fail
        refine hL1.mono ?_; rintro e w2 ⟨rfl, k2, h2⟩
        have k3 := k.trans k2 (fun _ x => .inl x)
        clear hL1 k k2
        go_wp2_with fail
        refine (HS.out w2 b n i q h2 hin hq).mono ?_; rintro e w3 ⟨rfl, k4, h3⟩
        have k5 := k3.trans k4 (fun _ x => .inl x)
        clear k3 k4 h2
        go_wp2
        go_roundw
        case rel => exact ⟨i, swp b i q, rfl, HIM.out, h3, HST.out, k5, (swp_perm b HIM.out HQM.out).trans hp, fun x hx => by have h1 := HIM.out; have h2 := HQM.out; rw [swp_other b (by omega) (by omega)]; exact HR.out x hx⟩
        case measure => have := HIQ.out; simp [intOf]; omega
      | false =>
        rw [hb] at hL1
        have hh := hi.done (by rw [← HI.out]; exact hb)
        clear hi hi' hb h
        go_wp2_with fail
        refine hL1.mono ?_; rintro e w2 ⟨rfl, k2, h2⟩
        have k3 := k.trans k2 (fun _ x => .inl x)
        clear hL1 k k2
        go_wp2
        go_end0
        exact ⟨rfl, k3, b, h2, hh, hp, HR.out⟩
set_option maxHeartbeats 2000000 in
theorem hdown_any (hL : LessDoes lt S F r) (hS : SwapDoes S F r) (o : Order lt) (irr : ∀ x, lt x x = false) (w : World) (a : Nat → E) (n m i : Nat) (h : S w a n) (hm : m ≤ n) (hi : i ≤ m) (hn : n ≤ 1000000) (hf : FixInv lt a m i) :
    Calls Try.prog 31 #[.iface 51 r, .int .i64 i, .int .i64 m] w fun e w' => ∃ (b : Nat → E) (q : Nat), e = .returned (.bool (decide (i < q))) ∧ i ≤ q ∧ Keep F w w' ∧ S w' b n ∧ ((List.range m).map b).Perm ((List.range m).map a) ∧ (∀ k, m ≤ k → b k = a k) ∧ (q = i → b = a ∧ UpInv lt a m i) ∧ (i < q → Heap lt b m) := by
  have HL := Lib.hid hL
  have HS := Lib.hid hS
  have HF := Lib.hid hf
  clear hL hS hf
  go_enter Try.func31, Try.ntmps31
  go_wp2
  go_loopg [7] (m - i) (fun g jv wr => ∃ (q : Nat) (b : Nat → E), q + g = m ∧ jv = .int .i64 q ∧ i ≤ q ∧ q ≤ m ∧ S wr b n ∧ (q = i → b = a) ∧ (i < q → DownInv lt b m q) ∧ Keep F w wr ∧ ((List.range m).map b).Perm ((List.range m).map a) ∧ ∀ k, m ≤ k → b k = a k)
  case atStart => exact ⟨i, a, by omega, rfl, Nat.le_refl _, hi, h, fun _ => rfl, fun x => absurd x (Nat.lt_irrefl _), Keep.refl _ _, .refl _, fun _ _ => rfl⟩
  case round =>
    clear h hi
    obtain ⟨q, b, hqg, rfl, hiq, hqm, h, hba, hd, k, hp, hrest⟩ := hrel
    have hfix : FixInv lt b m q := by
      by_cases e : q = i
      · rw [hba e, e]; exact HF.out
      · exact (hd (by omega)).1
    have HFX := Lib.hid hfix
    have HD := Lib.hid hd
    have HBA := Lib.hid hba
    have HR := Lib.hid hrest
    have HIQ := Lib.hid hiq
    clear hfix hd hba hrest hiq
    by_cases hc : 2 * q + 1 < m
    · have hkp := kid_par (lt := lt) b m q
      have hkl := kid_lt (lt := lt) b hc
      have hleast := kid_least o irr b (n := m) (i := q)
      have hc1 : (2 * (q : Int) + 1) < m := by omega
      obtain ⟨B, hB⟩ : ∃ B, B = decide (2 * q + 2 < m ∧ lt (b (2 * q + 2)) (b (2 * q + 1)) = true) := ⟨_, rfl⟩
      have hk1 : B = true → kid lt b m q = 2 * q + 2 := fun x => if_pos (of_decide_eq_true (hB ▸ x))
      have hk2 : B = false → kid lt b m q = 2 * q + 1 := fun x => if_neg (of_decide_eq_false (hB ▸ x))
      go_upto_region 6 with fail
      go_cut [33] (fun v wx => v = .bool B ∧ Keep F w wx ∧ S wx b n)
      case first =>
        clear hk1 hk2 hkp hkl hleast
        by_cases h2 : 2 * q + 2 < m
        · have hL1 := HL.out wr b n (2 * q + 2) (2 * q + 1) h (by omega) (by omega)
          rw [show ((2 * q + 2 : Nat) : Int) = 2 * (q : Int) + 1 + 1 by omega, show ((2 * q + 1 : Nat) : Int) = 2 * (q : Int) + 1 by omega] at hL1
          have hc2 : (2 * (q : Int) + 1 + 1) < m := by omega
          have hBe : B = lt (b (2 * q + 2)) (b (2 * q + 1)) := by
            rw [hB]; cases lt (b (2 * q + 2)) (b (2 * q + 1)) <;> simp [h2]
          rw [← hBe] at hL1
          clear hB hBe HL HS HF h2
          go_wp2_with fail
          refine hL1.mono ?_; rintro e w2 ⟨rfl, k2, h2⟩
          clear hL1
          go_wp2_with fail
          go_meet
          exact ⟨rfl, k.trans k2 (fun _ x => .inl x), h2⟩
        · have hc2 : ¬ ((2 * (q : Int) + 1 + 1) < m) := by omega
          have hBe : B = false := by rw [hB]; simp [h2]
          subst hBe
          clear HL HS HF h2 hB
          go_wp2_with fail
          go_meet
          exact ⟨rfl, k, h⟩
      case rest =>
        clear k h
        obtain ⟨rfl, k, h⟩ := hcut
        clear hB hkp
        cases B with
        | true =>
          rw [hk1 rfl] at hkl hleast
          clear hk1 hk2
          have hqc : q < 2 * q + 2 := by omega
          have hL1 := HL.out wc b n (2 * q + 2) q h (by omega) (by omega)
          rw [show ((2 * q + 2 : Nat) : Int) = 2 * (q : Int) + 1 + 1 by omega] at hL1
          have hS1 := Lib.hid (fun w h => HS.out w b n q (2 * q + 2) h (show q < n by omega) (show 2 * q + 2 < n by omega))
          have hb0 := hleast
          cases hb : lt (b (2 * q + 2)) (b q) with
          | true =>
            rw [hb] at hL1
            have hst := HFX.out.step o (show 0 < 2 * q + 2 by omega) (by unfold par; omega) hkl hb hleast
            have HST := Lib.hid hst
            have HIQ2 := Lib.hid (show i < 2 * q + 2 by have := HIQ.out; omega)
            have HRR := Lib.hid (fun (k : Nat) (hk : m ≤ k) => show swp b q (2 * q + 2) k = a k by rw [swp_other b (by omega) (by omega)]; exact HR.out k hk)
            have HPP := Lib.hid ((swp_perm b (show q < m by omega) hkl).trans hp)
            have HKL := Lib.hid hkl
            clear hst hb h hb0 hleast hkl hqc hp
            go_wp2_with fail
            refine hL1.mono ?_; rintro e w2 ⟨rfl, k2, h2⟩
            have k3 := k.trans k2 (fun _ x => .inl x)
            clear hL1 k k2
            go_wp2_with fail
            have hS2 := hS1.out w2 h2
            rw [show ((2 * q + 2 : Nat) : Int) = 2 * (q : Int) + 1 + 1 by omega] at hS2
            refine hS2.mono ?_; rintro e w3 ⟨rfl, k4, h3⟩
            have k5 := k3.trans k4 (fun _ x => .inl x)
            clear k3 k4 h2 hS2
            go_wp2
            go_roundg (m - (2 * q + 2))
            case rel => exact ⟨2 * q + 2, swp b q (2 * q + 2), by have := HKL.out; omega, by congr 1, Nat.le_of_lt HIQ2.out, Nat.le_of_lt HKL.out, h3, fun e => absurd HIQ2.out (by omega), fun _ => HST.out, k5, HPP.out, HRR.out⟩
            case measure => have := HKL.out; omega
          | false =>
            rw [hb] at hL1
            have hno : ∀ k, 0 < k → k < m → par k = q → lt (b k) (b q) = false := fun k k0 kn hk => o.tr hb (hleast k k0 kn hk)
            have hfin1 : q = i → b = a ∧ UpInv lt a m i := fun e => ⟨HBA.out e, by
              have := HFX.out.up hno
              rw [HBA.out e, e] at this; exact this⟩
            have hfin2 : i < q → Heap lt b m := fun e => (HD.out e).done hno
            have H1 := Lib.hid hfin1
            have H2 := Lib.hid hfin2
            have HQ := Lib.hid (show (decide ((i : Int) < (q : Int))) = decide (i < q) by simp)
            clear hfin1 hfin2 hno hS1 hb h hb0 hleast hkl hqc
            go_wp2_with fail
            refine hL1.mono ?_; rintro e w2 ⟨rfl, k2, h2⟩
            have k3 := k.trans k2 (fun _ x => .inl x)
            clear hL1 k k2
            go_wp2
            go_ret
            exact ⟨b, q, by rw [← HQ.out]; rfl, HIQ.out, k3, h2, hp, HR.out, H1.out, H2.out⟩
        | false =>
          rw [hk2 rfl] at hkl hleast
          clear hk1 hk2
          have hqc : q < 2 * q + 1 := by omega
          have hL1 := HL.out wc b n (2 * q + 1) q h (by omega) (by omega)
          rw [show ((2 * q + 1 : Nat) : Int) = 2 * (q : Int) + 1 by omega] at hL1
          have hS1 := Lib.hid (fun w h => HS.out w b n q (2 * q + 1) h (show q < n by omega) (show 2 * q + 1 < n by omega))
          have hb0 := hleast
          cases hb : lt (b (2 * q + 1)) (b q) with
          | true =>
            rw [hb] at hL1
            have hst := HFX.out.step o (show 0 < 2 * q + 1 by omega) (by unfold par; omega) hkl hb hleast
            have HST := Lib.hid hst
            have HIQ2 := Lib.hid (show i < 2 * q + 1 by have := HIQ.out; omega)
            have HRR := Lib.hid (fun (k : Nat) (hk : m ≤ k) => show swp b q (2 * q + 1) k = a k by rw [swp_other b (by omega) (by omega)]; exact HR.out k hk)
            have HPP := Lib.hid ((swp_perm b (show q < m by omega) hkl).trans hp)
            have HKL := Lib.hid hkl
            clear hst hb h hb0 hleast hkl hqc hp
            go_wp2_with fail
            refine hL1.mono ?_; rintro e w2 ⟨rfl, k2, h2⟩
            have k3 := k.trans k2 (fun _ x => .inl x)
            clear hL1 k k2
            go_wp2_with fail
            have hS2 := hS1.out w2 h2
            rw [show ((2 * q + 1 : Nat) : Int) = 2 * (q : Int) + 1 by omega] at hS2
            refine hS2.mono ?_; rintro e w3 ⟨rfl, k4, h3⟩
            have k5 := k3.trans k4 (fun _ x => .inl x)
            clear k3 k4 h2 hS2
            go_wp2
            go_roundg (m - (2 * q + 1))
            case rel => exact ⟨2 * q + 1, swp b q (2 * q + 1), by have := HKL.out; omega, by congr 1, Nat.le_of_lt HIQ2.out, Nat.le_of_lt HKL.out, h3, fun e => absurd HIQ2.out (by omega), fun _ => HST.out, k5, HPP.out, HRR.out⟩
            case measure => have := HKL.out; omega
          | false =>
            rw [hb] at hL1
            have hno : ∀ k, 0 < k → k < m → par k = q → lt (b k) (b q) = false := fun k k0 kn hk => o.tr hb (hleast k k0 kn hk)
            have hfin1 : q = i → b = a ∧ UpInv lt a m i := fun e => ⟨HBA.out e, by
              have := HFX.out.up hno
              rw [HBA.out e, e] at this; exact this⟩
            have hfin2 : i < q → Heap lt b m := fun e => (HD.out e).done hno
            have H1 := Lib.hid hfin1
            have H2 := Lib.hid hfin2
            have HQ := Lib.hid (show (decide ((i : Int) < (q : Int))) = decide (i < q) by simp)
            clear hfin1 hfin2 hno hS1 hb h hb0 hleast hkl hqc
            go_wp2_with fail
            refine hL1.mono ?_; rintro e w2 ⟨rfl, k2, h2⟩
            have k3 := k.trans k2 (fun _ x => .inl x)
            clear hL1 k k2
            go_wp2
            go_ret
            exact ⟨b, q, by rw [← HQ.out]; rfl, HIQ.out, k3, h2, hp, HR.out, H1.out, H2.out⟩
    · have hno : ∀ k, 0 < k → k < m → par k = q → lt (b k) (b q) = false := fun k k0 kn hk => by
        rcases (par_iff k0).1 hk with e | e <;> omega
      have e1 : (2 * (q : Int) + 1 : Int) ≥ m := by omega
      have hfin1 : q = i → b = a ∧ UpInv lt a m i := fun e => ⟨HBA.out e, by
        have := HFX.out.up hno
        rw [HBA.out e, e] at this; exact this⟩
      have hfin2 : i < q → Heap lt b m := fun e => (HD.out e).done hno
      have H1 := Lib.hid hfin1
      have H2 := Lib.hid hfin2
      have HQ := Lib.hid (show (decide ((i : Int) < (q : Int))) = decide (i < q) by simp)
      clear hfin1 hfin2 hno HL HS HF
      go_wp2
      go_ret
      exact ⟨b, q, by rw [← HQ.out]; rfl, HIQ.out, k, h, hp, HR.out, H1.out, H2.out⟩
end
section
variable {E : Type} {lt : E → E → Bool} {S : (Nat → Prop) → World → (Nat → E) → Nat → Prop} {r : Value}
def LenDoes (S : (Nat → Prop) → World → (Nat → E) → Nat → Prop) (r : Value) : Prop := ∀ (F : Nat → Prop) (w : World) (a : Nat → E) (n : Nat), S F w a n → Calls Try.prog 22 #[r] w fun e w' => e = .returned (.int .i64 n) ∧ Keep F w w' ∧ S F w' a n
set_option maxHeartbeats 1000000 in
theorem hfix_any (hN : LenDoes S r) (hL : ∀ F, LessDoes lt (S F) F r) (hS : ∀ F, SwapDoes (S F) F r) (o : Order lt) (irr : ∀ x, lt x x = false) (F : Nat → Prop) (w : World) (a : Nat → E) (n i : Nat) (h : S F w a n) (hi : i < n) (hn : n ≤ 1000000) (hf : FixInv lt a n i) :
    Calls Try.prog 24 #[.iface 51 r, .int .i64 i] w fun e w' => e = .returned (.tuple #[]) ∧ Keep F w w' ∧ ∃ b, S F w' b n ∧ Heap lt b n ∧ ((List.range n).map b).Perm ((List.range n).map a) := by
  go_enter Try.func24, Try.ntmps24
  go_wp2_with fail
  refine (hN F w a n h).mono ?_; rintro e w1 ⟨rfl, k1, h1⟩
  go_wp2_with fail
  refine (hdown_any (hL F) (hS F) o irr w1 a n n i h1 (Nat.le_refl _) (Nat.le_of_lt hi) hn hf).mono ?_; rintro e w2 ⟨b, q, rfl, hq, k2, h2, hp, _, hq1, hq2⟩
  have k3 := k1.trans k2 (fun _ x => .inl x)
  clear k1 k2 h1
  by_cases e : i < q
  · have hh := hq2 e
    have ed : decide (i < q) = true := decide_eq_true e
    rw [ed]
    clear e hq1 hq2 hq ed
    go_wp2
    go_end0
    exact ⟨rfl, k3, b, h2, hh, hp⟩
  · obtain ⟨rfl, hu⟩ := hq1 (by omega)
    have ed : decide (i < q) = false := decide_eq_false e
    rw [ed]
    clear e hq1 hq2 hq ed hp
    go_wp2_with fail
    refine (hup_any (hL F) (hS F) o w2 b n n i h2 (Nat.le_refl _) hi hn hu).mono ?_; rintro e w4 ⟨rfl, k4, c, h4, hh, hp, _⟩
    have k5 := k3.trans k4 (fun _ x => .inl x)
    clear k3 k4 h2
    go_wp2
    go_end0
    exact ⟨rfl, k5, c, h4, hh, hp⟩
set_option maxHeartbeats 1000000 in
theorem hpush_any (hN : LenDoes S r) (hL : ∀ F, LessDoes lt (S F) F r) (hS : ∀ F, SwapDoes (S F) F r) (o : Order lt) (F : Nat → Prop) (w : World) (a : Nat → E) (n : Nat) (x : Value) (v : E) (hn : n < 1000000) (hh : Heap lt a n)
    (hP : Calls Try.prog 53 #[r, x] w fun e w' => e = .returned (.tuple #[]) ∧ ∃ G b, Keep F w w' ∧ Grows F G w ∧ S G w' b (n + 1) ∧ (∀ k, k < n → b k = a k) ∧ b n = v) :
    Calls Try.prog 25 #[.iface 51 r, x] w fun e w' => e = .returned (.tuple #[]) ∧ ∃ G b, Keep F w w' ∧ Grows F G w ∧ S G w' b (n + 1) ∧ Heap lt b (n + 1) ∧ ((List.range (n + 1)).map b).Perm ((List.range n).map a ++ [v]) := by
  go_enter Try.func25, Try.ntmps25
  go_wp2_with fail
  refine hP.mono ?_; rintro e w1 ⟨rfl, G, b, k1, g1, h1, hb, hbn⟩
  have hu : UpInv lt b (n + 1) n := ⟨fun k k0 kn e => by
      have hp := par_lt k0
      rw [hb k (by omega), hb (par k) (by omega)]; exact hh k k0 (by omega), fun k k0 kn hk _ => by have := par_lt k0; omega⟩
  have hlist : (List.range (n + 1)).map b = (List.range n).map a ++ [v] := by
    rw [List.range_succ, List.map_append, List.map_cons, List.map_nil, hbn, List.map_congr_left fun k hk => hb k (List.mem_range.1 hk)]
  clear hP hb hbn hh
  go_wp2_with fail
  refine (hN G w1 b (n + 1) h1).mono ?_; rintro e w2 ⟨rfl, k2, h2⟩
  have k3 := k1.trans k2 (fun i hi => g1 i hi)
  clear k1 k2 h1
  go_wp2_with fail
  refine (hup_any (hL G) (hS G) o w2 b (n + 1) (n + 1) n h2 (Nat.le_refl _) (Nat.lt_succ_self _) (by omega) hu).mono ?_; rintro e w4 ⟨rfl, k4, c, h4, hh, hp, _⟩
  have k5 := k3.trans k4 (fun i hi => g1 i hi)
  clear k3 k4 h2
  go_wp2
  go_end0
  exact ⟨rfl, G, c, k5, g1, h4, hh, by rw [← hlist]; exact hp⟩
/-- The last one is taken off. -/
def PopDoes (S : (Nat → Prop) → World → (Nat → E) → Nat → Prop) (r : Value) (enc : E → Value) : Prop := ∀ (F : Nat → Prop) (w : World) (b : Nat → E) (m : Nat), S F w b (m + 1) →
  Calls Try.prog 52 #[r] w fun e w' => e = .returned (enc (b m)) ∧ ∃ G c, Keep F w w' ∧ Grows F G w ∧ S G w' c m ∧ ∀ k, k < m → c k = b k
theorem taken {a b c : Nat → E} {m i : Nat} (hi : i ≤ m) (hb : ((List.range m).map b).Perm ((List.range m).map (swp a i m))) (hc : ∀ k, k < m → c k = b k) : ((List.range (m + 1)).map a).Perm (a i :: (List.range m).map c) := by
  have h1 := (swp_perm a (show i < m + 1 by omega) (show m < m + 1 by omega)).symm
  rw [List.map_congr_left fun k hk => hc k (List.mem_range.1 hk)]
  refine h1.trans ?_
  rw [List.range_succ, List.map_append, List.map_cons, List.map_nil, swp_right]
  exact (List.perm_append_comm).trans ((List.Perm.cons _ hb.symm))
set_option maxHeartbeats 2000000 in
theorem hpop_any {enc : E → Value} (hN : LenDoes S r) (hL : ∀ F, LessDoes lt (S F) F r) (hS : ∀ F, SwapDoes (S F) F r) (hP : PopDoes S r enc) (o : Order lt) (irr : ∀ x, lt x x = false) (F : Nat → Prop) (w : World) (a : Nat → E) (m : Nat) (h : S F w a (m + 1)) (hn : m < 1000000) (hh : Heap lt a (m + 1)) :
    Calls Try.prog 26 #[.iface 51 r] w fun e w' => e = .returned (enc (a 0)) ∧ ∃ G c, Keep F w w' ∧ Grows F G w ∧ S G w' c m ∧ Heap lt c m ∧ ((List.range (m + 1)).map a).Perm (a 0 :: (List.range m).map c) := by
  have hf : FixInv lt (swp a 0 m) m 0 := ⟨fun k k0 kn e e1 => by
      have hp := par_lt k0
      rw [swp_other a e (by omega), swp_other a e1 (by omega)]; exact hh k k0 (by omega), fun k k0 kn _ h0 => absurd h0 (Nat.lt_irrefl 0)⟩
  have HF := Lib.hid hf
  have HT := Lib.hid (fun b c hb hc => taken (a := a) (b := b) (c := c) (m := m) (i := 0) (by omega) hb hc)
  have HE : Hid (swp a 0 m m = a 0) := Lib.hid (swp_right a 0 m)
  have hm0 : (0 : Int) ≤ (m : Int) := by omega
  clear hf hh
  go_enter Try.func26, Try.ntmps26
  go_wp2_with fail
  refine (hN F w a (m + 1) h).mono ?_; rintro e w1 ⟨rfl, k1, h1⟩
  have e1 : ((m + 1 : Nat) : Int) = (m : Int) + 1 := by omega
  rw [e1]
  have hS1 := hS F w1 a (m + 1) 0 m h1 (by omega) (by omega)
  clear e1 h h1
  go_wp2_with fail
  refine hS1.mono ?_; rintro e w2 ⟨rfl, k2, h2⟩
  have k3 := k1.trans k2 (fun _ x => .inl x)
  clear k1 k2 hS1
  go_wp2_with fail
  refine (hdown_any (hL F) (hS F) o irr w2 (swp a 0 m) (m + 1) m 0 h2 (by omega) (Nat.zero_le _) (by omega) HF.out).mono ?_; rintro e w3 ⟨b, q, rfl, hq, k4, h4, hp, hr, hq1, hq2⟩
  have hb : Heap lt b m := by
    by_cases e : 0 < q
    · exact hq2 e
    · obtain ⟨e1, e2⟩ := hq1 (by omega)
      rw [e1]; exact e2.heap0
  have hbm : b m = a 0 := (hr m (Nat.le_refl _)).trans HE.out
  have k5 := k3.trans k4 (fun _ x => .inl x)
  have hP1 := hP F w3 b m h4
  rw [hbm] at hP1
  clear k3 k4 h2 h4 hq hq1 hq2 hr hbm
  go_wp2_with fail
  refine hP1.mono ?_; rintro e w4 ⟨rfl, G, c, k6, g6, h6, hc⟩
  have k7 := k5.trans k6 (fun _ x => .inl x)
  have g7 : Grows F G w := fun i hi => (g6 i hi).imp id (fun x => Nat.le_trans k5.size x)
  have hhc : Heap lt c m := fun k k0 kn => by
    have := par_lt k0
    rw [hc k kn, hc (par k) (by omega)]; exact hb k k0 kn
  have hpp := HT.out b c hp hc
  clear hP1 k5 k6 g6 hb hp hc
  go_wp2
  go_ret
  exact ⟨rfl, G, c, k7, g7, h6, hhc, hpp⟩
set_option maxHeartbeats 4000000 in
theorem hremove_any {enc : E → Value} (hN : LenDoes S r) (hL : ∀ F, LessDoes lt (S F) F r) (hS : ∀ F, SwapDoes (S F) F r) (hP : PopDoes S r enc) (o : Order lt) (irr : ∀ x, lt x x = false) (F : Nat → Prop) (w : World) (a : Nat → E) (m i : Nat) (h : S F w a (m + 1)) (hn : m < 1000000) (hi : i ≤ m) (hh : Heap lt a (m + 1)) :
    Calls Try.prog 29 #[.iface 51 r, .int .i64 i] w fun e w' => e = .returned (enc (a i)) ∧ ∃ G c, Keep F w w' ∧ Grows F G w ∧ S G w' c m ∧ Heap lt c m ∧ ((List.range (m + 1)).map a).Perm (a i :: (List.range m).map c) := by
  have hm0 : (0 : Int) ≤ (m : Int) := by omega
  have hend : ∀ (w3 : World) (b : Nat → E), S F w3 b (m + 1) → Heap lt b m → b m = a i → ((List.range m).map b).Perm ((List.range m).map (swp a i m)) → Keep F w w3 →
      Calls Try.prog 52 #[r] w3 fun e w' => e = .returned (enc (a i)) ∧ ∃ G c, Keep F w w' ∧ Grows F G w ∧ S G w' c m ∧ Heap lt c m ∧ ((List.range (m + 1)).map a).Perm (a i :: (List.range m).map c) := by
    intro w3 b h3 hb hbm hp k3
    have hP1 := hP F w3 b m h3
    rw [hbm] at hP1
    exact hP1.mono fun e w' ⟨he, G, c, k6, g6, h6, hc⟩ => ⟨he, G, c, k3.trans k6 (fun _ x => .inl x), fun i hi => (g6 i hi).imp id (fun x => Nat.le_trans k3.size x), h6, fun k k0 kn => by
      have := par_lt k0
      rw [hc k kn, hc (par k) (by omega)]; exact hb k k0 kn, taken hi hp hc⟩
  have HEnd := Lib.hid hend
  have hless : i = m → Heap lt a m := fun _ => hh.less (by omega)
  have hfix : i < m → FixInv lt (swp a i m) m i := fun him => ⟨fun k k0 kn e e1 => by
      have hp := par_lt k0
      rw [swp_other a e (by omega), swp_other a e1 (by omega)]; exact hh k k0 (by omega), fun k k0 kn hk h0 => by
      have hp := par_lt k0
      have hpi := par_lt h0
      rw [swp_other a (by omega) (by omega), swp_other a (by omega) (by omega)]
      have h1 := hh k k0 (by omega)
      rw [hk] at h1
      exact o.tr (hh i h0 (by omega)) h1⟩
  have HLess := Lib.hid hless
  have HFix := Lib.hid hfix
  clear hend hless hfix hh hP
  go_enter Try.func29, Try.ntmps29
  go_wp2_with fail
  refine (hN F w a (m + 1) h).mono ?_; rintro e w1 ⟨rfl, k1, h1⟩
  have e1 : ((m + 1 : Nat) : Int) = (m : Int) + 1 := by omega
  rw [e1]
  clear e1 h
  by_cases him : i = m
  · subst him
    have hE := HEnd.out w1 a h1 (HLess.out rfl) rfl (by rw [swp_self]) k1
    clear HEnd HLess HFix k1 h1
    go_wp2_with fail
    refine hE.mono ?_; rintro e w2 ⟨rfl, hrest⟩
    clear hE
    go_wp2
    go_ret
    exact ⟨rfl, hrest⟩
  · have hne : ((m : Int) == (i : Int)) = false := by simp; omega
    have hS1 := hS F w1 a (m + 1) i m h1 (by omega) (by omega)
    have hf := Lib.hid (HFix.out (by omega))
    have HIM := Lib.hid (show i < m by omega)
    clear h1 him HFix HLess
    go_wp2_with fail
    refine hS1.mono ?_; rintro e w2 ⟨rfl, k2, h2⟩
    have k3 := k1.trans k2 (fun _ x => .inl x)
    clear k1 k2 hS1
    go_wp2_with fail
    refine (hdown_any (hL F) (hS F) o irr w2 (swp a i m) (m + 1) m i h2 (by omega) hi (by omega) hf.out).mono ?_; rintro e w3 ⟨b, q, rfl, hq, k4, h4, hp, hr, hq1, hq2⟩
    have k5 := k3.trans k4 (fun _ x => .inl x)
    have hbm : b m = a i := (hr m (Nat.le_refl _)).trans (swp_right a i m)
    clear k3 k4 h2 hr
    by_cases e : i < q
    · have hb := hq2 e
      have ed : decide (i < q) = true := decide_eq_true e
      rw [ed]
      have hE := HEnd.out w3 b h4 hb hbm hp k5
      clear HEnd e hq1 hq2 hq ed hb hbm hp h4 k5 hf
      go_wp2_with fail
      refine hE.mono ?_; rintro e w4 ⟨rfl, hrest⟩
      clear hE
      go_wp2
      go_ret
      exact ⟨rfl, hrest⟩
    · obtain ⟨eb, hu⟩ := hq1 (by omega)
      have ed : decide (i < q) = false := decide_eq_false e
      rw [ed]
      rw [← eb] at hu
      clear e hq1 hq2 hq ed eb hf
      go_wp2_with fail
      refine (hup_any (hL F) (hS F) o w3 b (m + 1) m i h4 (by omega) HIM.out (by omega) hu).mono ?_; rintro e w4 ⟨rfl, k6, c, h6, hc, hpc, hrc⟩
      have hE := HEnd.out w4 c h6 hc ((hrc m (Nat.le_refl _)).trans hbm) (hpc.trans hp) (k5.trans k6 (fun _ x => .inl x))
      clear HEnd hu hp hbm h4 k5 k6 h6 hc hpc hrc
      go_wp2_with fail
      refine hE.mono ?_; rintro e w5 ⟨rfl, hrest⟩
      clear hE
      go_wp2
      go_ret
      exact ⟨rfl, hrest⟩
end
end Go.Proofs.Ytgjfomnipjljoaa
