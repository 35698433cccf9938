/-
  CONTRACTS: bilgeref01.Get and Put: slices that are appended to.
-/
import Derived.Test.YtgihepbglfhahaaWordB
namespace Go.Proofs.Ytgihepbglfhahaa
open Go.RowKit

set_option maxHeartbeats 800000 in
theorem rget_even (a : Option Addr) (n c : Nat) (f : Nat → Int) (w : World) (ha : Holds .u8 w a (2 * n) f) (hn : n ≤ 1000000) (hf : ∀ i, i < 2 * n → 0 ≤ f i ∧ f i < 256) :
    Calls Try.prog 8 #[.slice a (2 * n) c] w fun e w' => ∃ b d, e = .returned (.tuple #[.slice b n d, .bool true]) ∧ Holds .u16 w' b n (getF f) ∧ Below w.heap.size w w' := by
  obtain ⟨i0, hi0, hz0, hz1, hz2⟩ := info_parts Try.info16
  have e2 : ((2 * n : Nat) : Int) = 2 * (n : Int) := by omega
  have e3 : (2 * (n : Int)) % 2 = 0 := by omega
  obtain ⟨B, hB⟩ : ∃ B, B = w.heap.size := ⟨_, rfl⟩
  have hb0 : Below B w w := Below.refl _ _
  rw [← hB]
  have HB := Lib.hid hB
  clear hB
  go_enter Try.func8, Try.ntmps8
  go_wp2
  go_loopw [4, 5] (fun v i wr => ∃ k : Nat, k ≤ n ∧ i = .int .i64 (2 * k : Nat) ∧ wr.ownsRow B 30 1 v k (lst .u16 (getF f) k) ∧ Below B w wr) (fun _ i _ => 2 * n - (intOf i).toNat)
  case atStart => exact ⟨0, Nat.zero_le _, rfl, World.ownsRow_nil _ _ _ _, hb0⟩
  case round =>
    obtain ⟨k, hk, rfl, hown, hb⟩ := hrel
    by_cases hlt : k < n
    · obtain ⟨p, o, rfl, hp, hc⟩ := ha.resolve_left (by omega)
      have hpB : p < B := by rw [HB.out]; exact hp
      have c0 : wr.cell? ⟨p, o + 2 * k, none⟩ = some (.int .u8 (f (2 * k))) := (hb.cell (p := ⟨p, o + 2 * k, none⟩) hpB).trans (hc (2 * k) (by omega))
      have c1 : wr.cell? ⟨p, o + (2 * k + 1), none⟩ = some (.int .u8 (f (2 * k + 1))) := (hb.cell (p := ⟨p, o + (2 * k + 1), none⟩) hpB).trans (hc (2 * k + 1) (by omega))
      obtain ⟨f00, f01⟩ := hf (2 * k) (by omega)
      obtain ⟨f10, f11⟩ := hf (2 * k + 1) (by omega)
      have hBs : B ≤ wr.heap.size := by have := hb.size; rw [HB.out]; exact this
      clear hc ha hf e2 e3
      have m1 : IntKind.i64.wrap (2 * (k : Int) + 1) = 2 * k + 1 := IntWalk.i64_in _ (by omega)
      have m3 : (2 * (k : Int)).toNat = 2 * k := by omega
      have m4 : (2 * (k : Int) + 1).toNat = 2 * k + 1 := by omega
      have m5 : 0 ≤ 2 * (k : Int) := by omega
      have m6 : 0 ≤ 2 * (k : Int) + 1 := by omega
      have m7 : 2 * (k : Int) < 2 * n := by omega
      have m8 : 2 * (k : Int) + 1 < 2 * n := by omega
      have v1 : IntKind.u16.wrap (f (2 * k)) = f (2 * k) := by rw [IntKind.wrap_u16]; omega
      have v2 : IntKind.u16.wrap (f (2 * k + 1)) = f (2 * k + 1) := by rw [IntKind.wrap_u16]; omega
      have v3 : IntKind.u16.wrap (f (2 * k) * 256) = f (2 * k) * 256 := by rw [IntKind.wrap_u16]; omega
      have v4 : IntKind.u16.wrap (f (2 * k) * 256 + f (2 * k + 1)) = f (2 * k) * 256 + f (2 * k + 1) := by rw [IntKind.wrap_u16]; omega
      go_wp2_with fail
      have hob : ∀ q, u4.ownBlock = some q → B ≤ q := fun q hq => (hown.lt q hq).1
      have hpw : p < wr.heap.size := by omega
      have hpv : u4.ownBlock ≠ some p := fun e => by have := hob p e; omega
      go_region_held3 (fun w' => w'.cell? ⟨p, o + 2 * k, none⟩ = some (.int .u8 (f (2 * k))) ∧ w'.cell? ⟨p, o + (2 * k + 1), none⟩ = some (.int .u8 (f (2 * k + 1))))
        (first
          | (rw [hgrow.cell_far _ (by simp; omega) (Ne.symm hpv), hgrow.cell_far _ (by simp; omega) (Ne.symm hpv)]; go_keep; done)
          | (go_keep; done))
        ((refine step_append_lies _ (by rfl) _ _ _ (by rfl) B 30 i0 _ 1 2 Try.underlying22 hi0 hz0 hz1 hz2 rfl (by omega) u4 k _ (by rfl) ((hown.alloc _).drew)
            ⟨wr.heap.size, 0, none⟩ 1 1 [.int .u16 (f (2 * k) * 256 + f (2 * k + 1))] (by rfl) (by rfl) (World.news_of_block (cs := #[.int .u16 (f (2 * k) * 256 + f (2 * k + 1))]) (t := 30) (fr := (0, 0)) (heap_alloc_new wr _)) (by simp [Value.oneCell'])
            (by omega) (by unfold maxLen; omega) (by omega) (by simp; omega) (wr.heap.size + 1) (by simp) ?_; intro gg cap w1 hown1 hgrow hat hlt1))
      have hown2 : w1.ownsRow B 30 1 (.slice (some ⟨gg, 0, none⟩) (k + 1) cap) (k + 1) (lst .u16 (getF f) (k + 1)) := by rw [← lst_succ]; exact hown1
      have hb2 : Below B w w1 := ((hb.alloc hBs _).drew).grown hgrow (by simp; omega) hob
      clear hown1 hgrow hat hown hb hob hpv m1 m3 m4 c0 c1 v1 v2 v3 v4
      go_wp2
      go_roundw
      case rel => exact ⟨k + 1, by omega, by go_num, hown2, hb2⟩
      case measure => simp [intOf]; omega
    · obtain ⟨b, d, hv, hh⟩ := Holds.of_own hown
      obtain rfl : k = n := by omega
      clear ha hf e2 e3
      go_wp2
      go_ret2
      exact ⟨b, d, by rw [← hv]; rfl, hh, hb⟩

/-- The bytes of words. -/
def putF (f : Nat → Int) : Nat → Int := fun j => if j % 2 = 0 then f (j / 2) / 256 else f (j / 2) % 256
theorem putF_even (f : Nat → Int) (k : Nat) : putF f (2 * k) = f k / 256 := by unfold putF; rw [if_pos (by omega)]; congr 2; omega
theorem putF_odd (f : Nat → Int) (k : Nat) : putF f (2 * k + 1) = f k % 256 := by unfold putF; rw [if_neg (by omega)]; congr 2; omega
theorem putF_bd (f : Nat → Int) (n : Nat) (hf : ∀ i, i < n → 0 ≤ f i ∧ f i < 65536) : ∀ j, j < 2 * n → 0 ≤ putF f j ∧ putF f j < 256 := by
  intro j hj
  have := hf (j / 2) (by omega)
  unfold putF; split <;> omega

set_option maxHeartbeats 800000 in
theorem rput_any (a : Option Addr) (n c : Nat) (f : Nat → Int) (w : World) (ha : Holds .u16 w a n f) (hn : n ≤ 1000000) (hf : ∀ i, i < n → 0 ≤ f i ∧ f i < 65536) :
    Calls Try.prog 16 #[.slice a n c] w fun e w' => ∃ b d, e = .returned (.slice b (2 * n) d) ∧ Holds .u8 w' b (2 * n) (putF f) ∧ Below w.heap.size w w' := by
  obtain ⟨i0, hi0, hz0, hz1, hz2⟩ := info_parts Try.info8
  obtain ⟨B, hB⟩ : ∃ B, B = w.heap.size := ⟨_, rfl⟩
  have hb0 : Below B w w := Below.refl _ _
  rw [← hB]
  have HB := Lib.hid hB
  clear hB
  go_enter Try.func16, Try.ntmps16
  go_wp2
  go_loopw [3, 4] (fun v i wr => ∃ k : Nat, k ≤ n ∧ i = .int .i64 k ∧ wr.ownsRow B 5 1 v (2 * k) (lst .u8 (putF f) (2 * k)) ∧ Below B w wr) (fun _ i _ => n - (intOf i).toNat)
  case atStart => exact ⟨0, Nat.zero_le _, rfl, World.ownsRow_nil _ _ _ _, hb0⟩
  case round =>
    obtain ⟨k, hk, rfl, hown, hb⟩ := hrel
    by_cases hlt : k < n
    · obtain ⟨p, o, rfl, hp, hc⟩ := ha.resolve_left (by omega)
      have hpB : p < B := by rw [HB.out]; exact hp
      have c0 : wr.cell? ⟨p, o + k, none⟩ = some (.int .u16 (f k)) := (hb.cell (p := ⟨p, o + k, none⟩) hpB).trans (hc k (by omega))
      obtain ⟨f00, f01⟩ := hf k (by omega)
      have hBs : B ≤ wr.heap.size := by have := hb.size; rw [HB.out]; exact this
      clear hc ha hf
      have m5 : 0 ≤ (k : Int) := by omega
      have m7 : (k : Int) < n := by omega
      have v1 : IntKind.u8.wrap (f k / 256) = f k / 256 := by rw [IntKind.wrap_u8]; omega
      have v2 : IntKind.u8.wrap (f k % 256) = f k % 256 := by rw [IntKind.wrap_u8]; omega
      have v3 : (f k).tdiv 256 = f k / 256 := Int.tdiv_eq_ediv_of_nonneg f00
      have v4 : (f k).tmod 256 = f k % 256 := Int.tmod_eq_emod_of_nonneg f00
      have v5 : IntKind.u16.wrap (f k / 256) = f k / 256 := by rw [IntKind.wrap_u16]; omega
      have hob : ∀ q, u3.ownBlock = some q → B ≤ q := fun q hq => (hown.lt q hq).1
      have hpw : p < wr.heap.size := by omega
      have hpv : u3.ownBlock ≠ some p := fun e => by have := hob p e; omega
      go_wp2_with fail
      go_region_held3 (fun w' => w'.cell? ⟨p, o + k, none⟩ = some (.int .u16 (f k)))
        (first
          | (rw [hgrow.cell_far _ (by simp; omega) (Ne.symm hpv)]; go_keep; done)
          | (go_keep; done))
        ((refine step_append_lies _ (by rfl) _ _ _ (by rfl) B 5 i0 _ 1 1 Try.underlying23 hi0 hz0 hz1 hz2 rfl (by omega) u3 (2 * k) _ (by rfl) ((hown.alloc _).drew)
            ⟨wr.heap.size, 0, none⟩ 2 2 [.int .u8 (f k / 256), .int .u8 (f k % 256)] (by rfl) (by rfl) (World.news_of_block (cs := #[.int .u8 (f k / 256), .int .u8 (f k % 256)]) (t := 5) (fr := (0, 0)) (heap_alloc_new wr _)) (by simp [Value.oneCell'])
            (by omega) (by unfold maxLen; omega) (by omega) (by simp; omega) (wr.heap.size + 1) (by simp) ?_; intro gg cap w1 hown1 hgrow hat hlt1))
      have hown2 : w1.ownsRow B 5 1 (.slice (some ⟨gg, 0, none⟩) (2 * (k + 1)) cap) (2 * (k + 1)) (lst .u8 (putF f) (2 * (k + 1))) := by
        rw [show 2 * (k + 1) = 2 * k + 2 from by omega, ← lst_succ2, putF_even, putF_odd]; exact hown1
      have hb2 : Below B w w1 := ((hb.alloc hBs _).drew).grown hgrow (by simp; omega) hob
      clear hown1 hgrow hat hown hb hob hpv c0 v1 v2 v3 v4 v5
      go_wp2
      go_roundw
      case rel => exact ⟨k + 1, by omega, by go_num, hown2, hb2⟩
      case measure => simp [intOf]; omega
    · obtain ⟨b, d, hv, hh⟩ := Holds.of_own hown
      obtain rfl : k = n := by omega
      clear ha hf
      go_wp2
      go_ret
      exact ⟨b, d, by rw [← hv]; rfl, hh, hb⟩
end Go.Proofs.Ytgihepbglfhahaa
