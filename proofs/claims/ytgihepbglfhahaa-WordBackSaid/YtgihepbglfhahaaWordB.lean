/-
  CONTRACTS: the document's Turn and At (bilgeref01); word.Get and bilgeref01.Get.
-/
import Derived.Test.YtgihepbglfhahaaWordA
import Derived.Deep.RegionHeld3
import Derived.Deep.RegionWith
import Derived.Deep.AppendLies
import Derived.StillTailTactics
namespace Go.Proofs.Ytgihepbglfhahaa
open Go.RowKit

theorem rat_none (a : Option Addr) (n c : Nat) (i : Int) (w : World) (hn : n ≤ 1000000) (hi : i < 0 ∨ (n : Int) - 1 ≤ i) :
    Calls Try.prog 10 #[.slice a n c, .int .i64 i] w fun e w' => e = .returned (.tuple #[.int .u16 0, .bool false]) ∧ w = w' := by
  by_cases h0 : i < 0
  · go_enter Try.func10, Try.ntmps10
    go_wp2
    go_ret2
    exact ⟨rfl, rfl⟩
  · have h1 : (n : Int) - 1 ≤ i := by omega
    have h0' : 0 ≤ i := by omega
    clear hi h0
    go_enter Try.func10, Try.ntmps10
    go_wp2
    go_ret2
    exact ⟨rfl, rfl⟩
theorem rat_some (a : Option Addr) (n c i : Nat) (f : Nat → Int) (w : World) (ha : Holds .u8 w a n f) (hn : n ≤ 1000000) (hi : i + 1 < n) (hf : ∀ i, i < n → 0 ≤ f i ∧ f i < 256) :
    Calls Try.prog 10 #[.slice a n c, .int .i64 i] w fun e w' => e = .returned (.tuple #[.int .u16 (f i * 256 + f (i + 1)), .bool true]) ∧ ∃ q, w' = w.drewN q := by
  obtain ⟨p, o, rfl, hp, hc⟩ := ha.resolve_left (by omega)
  have c0 := hc i (by omega)
  have c1 : w.cell? ⟨p, o + (i + 1), none⟩ = some (.int .u8 (f (i + 1))) := hc (i + 1) (by omega)
  obtain ⟨f00, f01⟩ := hf i (by omega)
  obtain ⟨f10, f11⟩ := hf (i + 1) (by omega)
  clear hc ha hf
  have h1 : (i : Int) < (n : Int) - 1 := by omega
  have h0 : 0 ≤ (i : Int) := by omega
  have v1 : IntKind.u16.wrap (f i) = f i := by rw [IntKind.wrap_u16]; omega
  have v2 : IntKind.u16.wrap (f (i + 1)) = f (i + 1) := by rw [IntKind.wrap_u16]; omega
  have v3 : IntKind.u16.wrap (f i * 256) = f i * 256 := by rw [IntKind.wrap_u16]; omega
  have v4 : IntKind.u16.wrap (f i * 256 + f (i + 1)) = f i * 256 + f (i + 1) := by rw [IntKind.wrap_u16]; omega
  go_enter Try.func10, Try.ntmps10
  go_wp2
  go_quiet (fail)
  go_wp2
  go_ret2
  exact ⟨rfl, _, rfl⟩

theorem rk_step (k a : Nat) (v : Int) (hv : v = ((a / 2 ^ k : Nat) : Int)) : ((rk k a : Nat) : Int) * 2 + v % 2 = ((rk (k + 1) a : Nat) : Int) := by
  subst hv; simp only [rk]; omega

/-- Behind k rounds: what is left, and what has come. -/
def TurnAt (A k v r : Nat) : Prop := v = A / 2 ^ k ∧ r = rk k A

theorem rturn_any (a : Int) (w : World) (a0 : 0 ≤ a) (a1 : a < 65536) :
    Calls Try.prog 12 #[.int .u16 a] w fun e w' => e = .returned (.int .u16 (tw a)) ∧ w = w' := by
  obtain ⟨A, rfl⟩ := Int.eq_ofNat_of_zero_le a0
  obtain ⟨T, hT⟩ : ∃ T : Int, T = tw A := ⟨_, rfl⟩
  rw [← hT]
  have HT := Lib.hid hT
  clear hT
  go_enter Try.func12, Try.ntmps12
  go_wp2
  go_loop [0, 3, 4] (fun u o i => ∃ k v r : Nat, k ≤ 16 ∧ i = .int .i64 k ∧ u = .int .u16 v ∧ o = .int .u16 r ∧ TurnAt A k v r) (fun _ _ i => (16 - intOf i).toNat)
  case atStart => exact ⟨0, A, 0, by omega, rfl, rfl, rfl, by simp [TurnAt, rk]⟩
  case round =>
    obtain ⟨k, v, r, hk, rfl, rfl, rfl, ht⟩ := hrel
    have vb : (v : Int) < 65536 := by have := Nat.div_le_self A (2 ^ k); rw [ht.1]; omega
    by_cases hlt : k < 16
    · have rb : (r : Int) < 32768 := by
        have h1 := rk_lt k A
        have h2 : 2 ^ k ≤ 2 ^ 15 := Nat.pow_le_pow_right (by decide) (by omega)
        rw [ht.2]; omega
      have hd : decide ((k : Int) < 16) = true := by simp; omega
      have hlt' : (k : Int) < 16 := by omega
      clear hlt hk
      go_wp2
      go_round
      case rel =>
        refine ⟨k + 1, v / 2, r * 2 + v % 2, by omega, by go_num, by go_num, by go_num, ?_, ?_⟩
        · rw [ht.1, Nat.div_div_eq_div_mul, Nat.pow_succ]
        · rw [ht.1, ht.2]; rfl
      case measure => simp [intOf]; omega
    · have hd : decide ((k : Int) < 16) = false := by simp; omega
      have hge : Hid (k = 16) := Lib.hid (by omega)
      clear hlt hk
      go_wp2
      go_ret
      exact ⟨by obtain rfl : k = 16 := hge.out
                rw [HT.out, ht.2]; rfl, rfl⟩

/-- The words that bytes are. -/
def getF (f : Nat → Int) : Nat → Int := fun i => f (2 * i) * 256 + f (2 * i + 1)

theorem get_odd (a : Option Addr) (n c : Nat) (w : World) (hn : n ≤ 1000000) (ho : n % 2 = 1) :
    Calls Try.prog 7 #[.slice a n c] w fun e w' => e = .returned (.tuple #[.slice none 0 0, .int .i64 12]) ∧ w = w' := by
  have h : ((n : Int) % 2 != 0) = true := by simp; omega
  clear ho
  go_enter Try.func7, Try.ntmps7
  go_wp2
  go_ret2
  exact ⟨rfl, rfl⟩
theorem rget_odd (a : Option Addr) (n c : Nat) (w : World) (hn : n ≤ 1000000) (ho : n % 2 = 1) :
    Calls Try.prog 8 #[.slice a n c] w fun e w' => e = .returned (.tuple #[.slice none 0 0, .bool false]) ∧ w = w' := by
  have h : ((n : Int) % 2 == 1) = true := by simp; omega
  clear ho
  go_enter Try.func8, Try.ntmps8
  go_wp2
  go_ret2
  exact ⟨rfl, rfl⟩

theorem Try.info16 : (Try.prog.info? 30).map (fun i => (i.zero, i.size, i.bytes)) = some (some (.int .u16 0), 1, 2) := by kernel_rfl
theorem Try.info8 : (Try.prog.info? 5).map (fun i => (i.zero, i.size, i.bytes)) = some (some (.int .u8 0), 1, 1) := by kernel_rfl

set_option maxHeartbeats 800000 in
theorem get_even (a : Option Addr) (n c : Nat) (f : Nat → Int) (w : World) (ha : Holds .u8 w a (2 * n) f) (hn : n ≤ 1000000) (hf : ∀ i, i < 2 * n → 0 ≤ f i ∧ f i < 256) :
    Calls Try.prog 7 #[.slice a (2 * n) c] w fun e w' => ∃ b d, e = .returned (.tuple #[.slice b n d, .int .i64 0]) ∧ Holds .u16 w' b n (getF f) ∧ Below w.heap.size w w' := by
  obtain ⟨i0, hi0, hz0, hz1, hz2⟩ := info_parts Try.info16
  have e2 : ((2 * n : Nat) : Int) = 2 * (n : Int) := by omega
  have e3 : (2 * (n : Int)) % 2 = 0 := by omega
  have e4 : (2 * (n : Int)) / 2 = n := by omega
  go_enter Try.func7, Try.ntmps7
  go_wp2_with (at_make; refine wpList_make_full _ rfl _ _ 22 rfl w.heap.size 30 i0 (.int .u16 0) 1 Try.underlying22 hi0 hz0 hz1 .i64 .i64 n n n rfl rfl rfl rfl (by rw [hz2]; omega) (by unfold maxLen; omega) (Nat.le_refl _) ?_; intro w1 hown1 hgrow1)
  have hb1 : Below w.heap.size w w1 := (Below.refl _ _).grown hgrow1 (Nat.le_refl _) (fun k hk => by cases hk)
  obtain ⟨B, hB⟩ : ∃ B, B = w.heap.size := ⟨_, rfl⟩
  rw [← hB] at hown1 hb1 ⊢
  have HB := Lib.hid hB
  clear hB
  go_loopw [5, 16] (fun _ i wr => ∃ k : Nat, k ≤ n ∧ i = .int .i64 k ∧ ∃ xs, wr.ownsRow B 30 1 (.slice (some ⟨B, 0, none⟩) n n) n xs ∧ (∀ j, j < k → xs[j]? = some (.int .u16 (getF f j))) ∧ Below B w wr) (fun _ i _ => n - (intOf i).toNat)
  case atStart => exact ⟨0, Nat.zero_le _, rfl, _, hown1, fun j hj => absurd hj (by omega), hb1⟩
  case round =>
    obtain ⟨k, hk, rfl, xs, hown, hxs0, hb⟩ := hrel
    have hxs := Lib.hid hxs0
    clear hxs0 hown1 hgrow1 hb1
    by_cases hlt : k < n
    · obtain ⟨p, o, rfl, hp, hc⟩ := ha.resolve_left (by omega)
      have hpB : p < B := by rw [HB.out]; exact hp
      have hpne : p ≠ B := by omega
      have c0 : wr.cell? ⟨p, o + 2 * k, none⟩ = some (.int .u8 (f (2 * k))) := (hb.cell (p := ⟨p, o + 2 * k, none⟩) hpB).trans (hc (2 * k) (by omega))
      have c1 : wr.cell? ⟨p, o + (2 * k + 1), none⟩ = some (.int .u8 (f (2 * k + 1))) := (hb.cell (p := ⟨p, o + (2 * k + 1), none⟩) hpB).trans (hc (2 * k + 1) (by omega))
      obtain ⟨f00, f01⟩ := hf (2 * k) (by omega)
      obtain ⟨f10, f11⟩ := hf (2 * k + 1) (by omega)
      have hfr := hown.frozenAt k
      obtain ⟨v0, hv0⟩ : ∃ v, wr.cell? ⟨B, k, none⟩ = some v := by
        rw [hown.cellAt k (by omega)]; exact ⟨xs[k]'(by have := hown.1; omega), List.getElem?_eq_getElem _⟩
      have hst := (hown.stored k (.int .u16 (getF f k))).1
      clear hc ha hf e2 e3 e4
      have m1 : IntKind.i64.wrap (2 * (k : Int)) = 2 * k := IntWalk.i64_in _ (by omega)
      have m2 : IntKind.i64.wrap (2 * (k : Int) + 1) = 2 * k + 1 := IntWalk.i64_in _ (by omega)
      have m3 : (2 * (k : Int)).toNat = 2 * k := by omega
      have m4 : (2 * (k : Int) + 1).toNat = 2 * k + 1 := by omega
      have m5 : 0 ≤ 2 * (k : Int) := by omega
      have m6 : 0 ≤ 2 * (k : Int) + 1 := by omega
      have m7 : 2 * (k : Int) < 2 * n := by omega
      have m8 : 2 * (k : Int) + 1 < 2 * n := by omega
      have m9 : (k : Int) < n := by omega
      have m0 : 0 ≤ (k : Int) := by omega
      go_wp2_with fail
      refine wp_region_still_tail 15 (by kernel_rfl) (by kernel_rfl) ?_
      simp only [List.take_succ_cons, List.take_zero, List.drop_succ_cons, List.drop_zero]
      iterate 13 still_step
      still_call ((join_any _ _ _ f00 f01 f10 f11).mono fun e w2 h => ⟨h.1, h.2.symm⟩)
      still_step
      refine wpStill_nil ?_
      go_wp2
      go_roundw
      case rel =>
        refine ⟨k + 1, by omega, by go_num, _, hst.drew, fun j hj => ?_, (hb.setCell (Nat.le_refl _) _).drew⟩
        rcases Nat.lt_or_ge j k with h | h
        · rw [List.getElem?_set_ne (by omega)]; exact hxs.out j h
        · obtain rfl : j = k := by omega
          rw [List.getElem?_set_self (by have := hown.1; omega)]
      case measure => simp [intOf]; omega
    · clear ha hf e2 e3 e4
      go_wp2
      go_ret2
      obtain rfl : k = n := by omega
      exact ⟨_, _, rfl, .inr ⟨B, 0, rfl, (hown.lt B rfl).2, fun i hi => by rw [Nat.zero_add, hown.cellAt i (by omega), hxs.out i hi]⟩, by rw [← HB.out]; exact hb⟩
end Go.Proofs.Ytgihepbglfhahaa
