/-
  CONTRACTS: poly's remainder, each, Rem; bilgeref03.Rem.
-/
import Derived.Test.YtgemdnmcklpbkaaDoorPolyB
namespace Go.Proofs.YtgemdnmcklpbkaaDoor
open Go.RowKit


set_option maxHeartbeats 1600000 in
theorem add_any (B : Nat) (x : BitVec 16) (b : Int) (w : World) (hr : w.heap[B]? = some (.cells #[.int .u16 (vI x)] 58 (0, 0))) (h0 : 0 ≤ b) (h1 : b < 256) :
    Calls Tryd.prog 31 #[.pointer (some ⟨B, 0, none⟩), .int .u8 b] w fun e w' => e = .returned (.tuple #[]) ∧ w' = w.setCell ⟨B, 0, none⟩ (.int .u16 (vI (byteV x b))) := by
  have c0 := cell_of_one hr
  have f0 := free_of_one hr
  go_enter Tryd.func31, Tryd.ntmps31
  go_wp2_with fail
  refine (pbyte_any x b _ h0 h1).mono ?_; rintro e w' ⟨rfl, rfl⟩
  go_wp2
  go_end0
  exact ⟨rfl, rfl⟩

set_option maxHeartbeats 1600000 in
theorem each_any (a : Option Addr) (n c : Nat) (f : Nat → Int) (B : Nat) (x : BitVec 16) (w : World) (ha : Holds .u8 w a n f) (hn : n ≤ 1000000) (hf : ∀ i, i < n → 0 ≤ f i ∧ f i < 256)
    (hr : w.heap[B]? = some (.cells #[.int .u16 (vI x)] 58 (0, 0))) (hB : ∀ p o, a = some ⟨p, o, none⟩ → 0 < n → p < B) :
    Calls Tryd.prog 30 #[.slice a n c, .func (Fn.func 31) #[.pointer (some ⟨B, 0, none⟩)] #[]] w fun e w' => e = .returned (.tuple #[]) ∧ w'.heap[B]? = some (.cells #[.int .u16 (vI (remV x f n))] 58 (0, 0)) ∧ Below B w w' := by
  go_enter Tryd.func30, Tryd.ntmps30
  go_wp2
  go_loopw [8] (fun i wr => ∃ k : Nat, k ≤ n ∧ i = .int .i64 k ∧ wr.heap[B]? = some (.cells #[.int .u16 (vI (remV x f k))] 58 (0, 0)) ∧ Below B w wr) (fun i _ => n - (intOf i).toNat)
  case atStart => exact ⟨0, Nat.zero_le _, rfl, hr, Below.refl _ _⟩
  case round =>
    obtain ⟨k, hk, rfl, hrk, hbl⟩ := hrel
    by_cases hlt : k < n
    · obtain ⟨p, o, rfl, hp, hc⟩ := ha.resolve_left (by omega)
      have c0 := (hbl.cell (p := ⟨p, o + k, none⟩) (hB p o rfl (by omega))).trans (hc k hlt)
      obtain ⟨f0, f1⟩ := hf k hlt
      clear hc ha hf
      go_wp2_with fail
      refine (add_any B (remV x f k) (f k) _ hrk f0 f1).mono ?_; rintro e w' ⟨rfl, rfl⟩
      have hrk2 := one_setCell (u := .int .u16 (vI (byteV (remV x f k) (f k)))) hrk
      go_wp2
      go_roundw
      case rel => exact ⟨k + 1, by omega, by go_num, hrk2, hbl.setCell (Nat.le_refl _) _⟩
      case measure => simp [intOf]; omega
    · obtain rfl : k = n := by omega
      clear ha hf
      go_wp2
      go_end0
      exact ⟨rfl, hrk, hbl⟩

set_option maxHeartbeats 1600000 in
theorem rem_any (a : Option Addr) (n c : Nat) (f : Nat → Int) (x : BitVec 16) (w : World) (ha : Holds .u8 w a n f) (hn : n ≤ 1000000) (hf : ∀ i, i < n → 0 ≤ f i ∧ f i < 256) :
    Calls Tryd.prog 20 #[.int .u16 (vI x), .slice a n c] w fun e w' => e = .returned (.int .u16 (vI (remV x f n))) ∧ Ext w w' := by
  go_enter Tryd.func20, Tryd.ntmps20
  go_wp2_with fail
  refine (each_any a n c f w.heap.size x _ (ha.ext (Ext.alloc _ _)) hn hf (heap_alloc_new w _) (fun p o h h0 => ?_)).mono ?_
  · obtain ⟨p', o', h', hp, _⟩ := ha.resolve_left (by omega)
    rw [h'] at h; cases h; exact hp
  rintro e w1 ⟨rfl, h1, hb1⟩
  have c1 := cell_of_one h1
  have y1 : Ext w w1 := ((Below.refl _ _).alloc (Nat.le_refl _) _).trans hb1
  clear ha hf
  go_wp2
  go_ret
  exact ⟨rfl, y1⟩

set_option maxHeartbeats 1600000 in
theorem rrem_any (a : Option Addr) (n c : Nat) (f : Nat → Int) (x : BitVec 16) (w : World) (ha : Holds .u8 w a n f) (hn : n ≤ 1000000) (hf : ∀ i, i < n → 0 ≤ f i ∧ f i < 256) :
    Calls Tryd.prog 28 #[.int .u16 (vI x), .slice a n c] w fun e w' => e = .returned (.int .u16 (vI (remV x f n))) ∧ w = w' := by
  go_enter Tryd.func28, Tryd.ntmps28
  go_wp2
  go_loop [0, 5] (fun r i => ∃ k : Nat, k ≤ n ∧ i = .int .i64 k ∧ r = .int .u16 (vI (remV x f k))) (fun _ i => n - (intOf i).toNat)
  case atStart => exact ⟨0, Nat.zero_le _, rfl, rfl⟩
  case round =>
    obtain ⟨k, hk, rfl, rfl⟩ := hrel
    by_cases hlt : k < n
    · obtain ⟨p, o, rfl, hp, hc⟩ := ha.resolve_left (by omega)
      have c0 := hc k hlt
      obtain ⟨f0, f1⟩ := hf k hlt
      clear hc ha hf
      go_wp2_with fail
      refine (rbyte_any _ _ _ f0 f1).mono ?_; rintro e w' ⟨rfl, rfl⟩
      go_wp2
      go_round
      case rel => exact ⟨k + 1, by omega, by go_num, rfl⟩
      case measure => simp [intOf]; omega
    · obtain rfl : k = n := by omega
      clear ha hf
      go_wp2
      go_ret
      exact ⟨rfl, rfl⟩
end Go.Proofs.YtgemdnmcklpbkaaDoor
