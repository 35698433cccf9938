/-
  BITS AND WORDS THAT ARE TOLD: in memory that is new (bilgeref02.Unpack, bilgeref01.Get).
-/
import Derived.Test.YtejiafihiielgaaWord
import Derived.Test.YtejiafihiielgaaBitsD
import Derived.Test.YtejiafihiielgaaKeep
import Derived.BigQuiet
import Derived.Deep.AppendLies
import Derived.Deep.LoopGhost
import Derived.Deep.QuietTactic
import Derived.Deep.RegionHeld3
import Derived.Deep.RegionWith
import Derived.Handy
import Derived.KernelRfl
import Derived.Laws.BitsAllLaws
import Derived.Lib.Hide
import Derived.Lib.Tables
import Derived.Outline
import Derived.RegionTactic
import Derived.StillTailTactics
import Derived.WalkLawsBesides
import Derived.WalkMore
import Derived.WalkSpells
namespace Go.Proofs.Ytejiafihiielgaa
open Go.RowKit
set_option linter.unusedVariables false

theorem fresh_own {w wr : World} {B : Nat} {e : TypeId} {x : Option Addr} {n m d size : Nat} {xs : List Value} (h : wr.ownsRow B e size (.slice x n d) m xs) (hB : w.heap.size ≤ B) : Fresh w x := by
  intro p hp
  subst hp
  exact Nat.le_trans hB (h.lt p.block rfl).1
set_option maxHeartbeats 1000000 in
theorem runpack_f (a : Option Addr) (m c n : Nat) (b : Nat → Int) (w : World) (ha : Holds .u8 w a m b) (hm : m = szN n) (hn : n ≤ 1000000) (hb : ∀ i, i < m → 0 ≤ b i ∧ b i < 256) :
    Calls Try.prog 37 #[.slice a m c, .int .i64 n] w fun e w' => ∃ x d, e = .returned (.tuple #[.slice x n d, .int .i64 0]) ∧ n ≤ d ∧ d ≤ maxLen ∧ HoldsG Value.bool w' x n (unF b) ∧ Ext w w' ∧ Fresh w x := by
  obtain ⟨i0, hi0, hz0, hz1, hz2⟩ := info_parts Try.infoB
  have hmn : n ≤ 8 * m ∧ 8 * m ≤ n + 7 := by rw [hm]; unfold szN; omega
  have hsz : szI n = (m : Int) := by rw [hm]; exact szI_nat n
  have hmb : m ≤ 1000000 := by omega
  have h3 := fun w => rsize_any n w (by omega) (by omega)
  rw [hsz] at h3
  have H3 := Lib.hid h3
  have hn0 : decide ((n : Int) < 0) = false := by simp
  clear h3 hsz hm
  obtain ⟨B, hB⟩ : ∃ B, B = w.heap.size := ⟨_, rfl⟩
  have hb0 : Below B w w := by rw [hB]; exact Below.refl _ _
  have HB := Lib.hid hB
  clear hB
  go_enter Try.func37, Try.ntmps37
  go_wp2_with fail
  refine (H3.out _).mono ?_; rintro e w' ⟨rfl, rfl⟩
  go_wp2_with fail
  refine (H3.out _).mono ?_; rintro e w' ⟨rfl, rfl⟩
  go_wp2_with fail
  clear H3
  go_loopw [6, 7] (fun v i wr => ∃ k : Nat, k ≤ n ∧ i = .int .i64 k ∧ wr.ownsRow B 4 1 v k (lstG Value.bool (unF b) k) ∧ Below B w wr) (fun _ i _ => n - (intOf i).toNat)
  case atStart => exact ⟨0, Nat.zero_le _, rfl, World.ownsRow_nil _ _ _ _, hb0⟩
  case round =>
    obtain ⟨k, hk, rfl, hown, hbl⟩ := hrel
    by_cases hlt : k < n
    · have hak := ha.ext (w' := wr) (by rw [Ext, ← HB.out]; exact hbl)
      have hBs : B ≤ wr.heap.size := by have := hbl.size; rw [HB.out]; exact this
      have hob : ∀ q, u6.ownBlock = some q → B ≤ q := fun q hq => (hown.lt q hq).1
      go_wp2_with fail
      refine (bit_any a m c k b _ hak hmb (by omega) hb).mono ?_; rintro e w' ⟨rfl, rfl⟩
      go_wp2_with (at_builtin; refine wpList_append_lies _ rfl _ _ _ rfl B 4 i0 _ 1 1 Try.underlying22 hi0 hz0 hz1 hz2 rfl (by omega) u6 k _ rfl (hown.alloc _) ⟨wr.heap.size, 0, none⟩ 1 1 [.bool (unF b k)] rfl rfl (World.news_of_block (cs := #[.bool (unF b k)]) (t := 4) (fr := (0, 0)) (heap_alloc_new wr _)) (by simp [Value.oneCell']) (by omega) (by unfold maxLen; omega) (by omega) (by simp; omega) (wr.heap.size + 1) (by simp) ?_; intro gg cap w1 hown1 hgrow hat hlt1)
      have hown2 : w1.ownsRow B 4 1 (.slice (some ⟨gg, 0, none⟩) (k + 1) cap) (k + 1) (lstG Value.bool (unF b) (k + 1)) := by rw [← lstG_succ]; exact hown1
      have hb2 : Below B w w1 := (hbl.alloc hBs _).grown hgrow (by simp; omega) hob
      clear hown1 hgrow hat hown hbl hob hak
      go_wp2
      go_roundw
      case rel => exact ⟨k + 1, by omega, by go_num, hown2, hb2⟩
      case measure => simp [intOf]; omega
    · have HFr := Lib.hid (fun x d (hv : u6 = .slice x k d) => (fresh_own (hv ▸ hown) (by rw [HB.out]; exact Nat.le_refl _) : Fresh w x))
      obtain ⟨x, d, hv, hd1, hd2, hh⟩ := HoldsG.of_own hown
      obtain rfl : k = n := by omega
      clear ha hb
      go_wp2
      go_ret2
      exact ⟨x, d, by rw [← hv]; rfl, hd1, hd2, hh, by rw [Ext, ← HB.out]; exact hbl, HFr.out x d hv⟩
set_option maxRecDepth 100000 in
set_option maxHeartbeats 1000000 in
theorem rget_f (a : Option Addr) (n c : Nat) (f : Nat → Int) (w : World) (ha : Holds .u8 w a (2 * n) f) (hn : n ≤ 1000000) (hf : ∀ i, i < 2 * n → 0 ≤ f i ∧ f i < 256) :
    Calls Try.prog 38 #[.slice a (2 * n) c] w fun e w' => ∃ b d, e = .returned (.tuple #[.slice b n d, .bool true]) ∧ n ≤ d ∧ d ≤ maxLen ∧ Holds .u16 w' b n (getF f) ∧ Ext w w' ∧ Fresh w b := by
  obtain ⟨i0, hi0, hz0, hz1, hz2⟩ := info_parts Try.info16
  have e2 : ((2 * n : Nat) : Int) = 2 * (n : Int) := by omega
  have e3 : (2 * (n : Int)) % 2 = 0 := by omega
  obtain ⟨B, hB⟩ : ∃ B, B = w.heap.size := ⟨_, rfl⟩
  have hb0 : Below B w w := Below.refl _ _
  have HB := Lib.hid hB
  clear hB
  go_enter Try.func38, Try.ntmps38
  go_wp2
  go_loopw [4, 5] (fun v i wr => ∃ k : Nat, k ≤ n ∧ i = .int .i64 (2 * k : Nat) ∧ wr.ownsRow B 50 1 v k (lst .u16 (getF f) k) ∧ Below B w wr) (fun _ i _ => 2 * n - (intOf i).toNat)
  case atStart => exact ⟨0, Nat.zero_le _, rfl, World.ownsRow_nil _ _ _ _, hb0⟩
  case round =>
    obtain ⟨k, hk, rfl, hown, hb⟩ := hrel
    by_cases hlt : k < n
    · obtain ⟨p, o, rfl, hp, hc⟩ := ha.resolve_left (by omega)
      have hpB : p < B := by rw [HB.out]; exact hp
      have c0 : wr.cell? ⟨p, o + 2 * k, none⟩ = some (.int .u8 (f (2 * k))) := (hb.cell (p := ⟨p, o + 2 * k, none⟩) hpB).trans (hc (2 * k) (by omega))
      have c1 : wr.cell? ⟨p, o + (2 * k + 1), none⟩ = some (.int .u8 (f (2 * k + 1))) := (hb.cell (p := ⟨p, o + (2 * k + 1), none⟩) hpB).trans (hc (2 * k + 1) (by omega))
      obtain ⟨f00, f01⟩ := hf (2 * k) (by omega)
      obtain ⟨f10, f11⟩ := hf (2 * k + 1) (by omega)
      have hBs : B ≤ wr.heap.size := by have := hb.size; rw [HB.out]; exact this
      clear hc ha hf e2 e3
      have m1 : IntKind.i64.wrap (2 * (k : Int) + 1) = 2 * k + 1 := IntWalk.i64_in _ (by omega)
      have m3 : (2 * (k : Int)).toNat = 2 * k := by omega
      have m4 : (2 * (k : Int) + 1).toNat = 2 * k + 1 := by omega
      have m5 : 0 ≤ 2 * (k : Int) := by omega
      have m6 : 0 ≤ 2 * (k : Int) + 1 := by omega
      have m7 : 2 * (k : Int) < 2 * n := by omega
      have m8 : 2 * (k : Int) + 1 < 2 * n := by omega
      have v1 : IntKind.u16.wrap (f (2 * k)) = f (2 * k) := by rw [IntKind.wrap_u16]; omega
      have v2 : IntKind.u16.wrap (f (2 * k + 1)) = f (2 * k + 1) := by rw [IntKind.wrap_u16]; omega
      have v3 : IntKind.u16.wrap (f (2 * k) * 256) = f (2 * k) * 256 := by rw [IntKind.wrap_u16]; omega
      have v4 : IntKind.u16.wrap (f (2 * k) * 256 + f (2 * k + 1)) = f (2 * k) * 256 + f (2 * k + 1) := by rw [IntKind.wrap_u16]; omega
      go_wp2_with fail
      have hob : ∀ q, u4.ownBlock = some q → B ≤ q := fun q hq => (hown.lt q hq).1
      have hpw : p < wr.heap.size := by omega
      have hpv : u4.ownBlock ≠ some p := fun e => by have := hob p e; omega
      go_region_held3 (fun w' => w'.cell? ⟨p, o + 2 * k, none⟩ = some (.int .u8 (f (2 * k))) ∧ w'.cell? ⟨p, o + (2 * k + 1), none⟩ = some (.int .u8 (f (2 * k + 1))))
        (first
          | (rw [hgrow.cell_far _ (by simp; omega) (Ne.symm hpv), hgrow.cell_far _ (by simp; omega) (Ne.symm hpv)]; go_keep; done)
          | (go_keep; done))
        ((refine step_append_lies _ (by rfl) _ _ _ (by rfl) B 50 i0 _ 1 2 Try.underlying23 hi0 hz0 hz1 hz2 rfl (by omega) u4 k _ (by rfl) ((hown.alloc _).drew)
            ⟨wr.heap.size, 0, none⟩ 1 1 [.int .u16 (f (2 * k) * 256 + f (2 * k + 1))] (by rfl) (by rfl) (World.news_of_block (cs := #[.int .u16 (f (2 * k) * 256 + f (2 * k + 1))]) (t := 50) (fr := (0, 0)) (heap_alloc_new wr _)) (by simp [Value.oneCell'])
            (by omega) (by unfold maxLen; omega) (by omega) (by simp; omega) (wr.heap.size + 1) (by simp) ?_; intro gg cap w1 hown1 hgrow hat hlt1))
      have hown2 : w1.ownsRow B 50 1 (.slice (some ⟨gg, 0, none⟩) (k + 1) cap) (k + 1) (lst .u16 (getF f) (k + 1)) := by rw [← lst_succ]; exact hown1
      have hb2 : Below B w w1 := ((hb.alloc hBs _).drew).grown hgrow (by simp; omega) hob
      clear hown1 hgrow hat hown hb hob hpv m1 m3 m4 c0 c1 v1 v2 v3 v4
      go_wp2
      go_roundw
      case rel => exact ⟨k + 1, by omega, by go_num, hown2, hb2⟩
      case measure => simp [intOf]; omega
    · have HFr := Lib.hid (fun x d (hv : u4 = .slice x k d) => (fresh_own (hv ▸ hown) (by rw [HB.out]; exact Nat.le_refl _) : Fresh w x))
      obtain ⟨b, d, hv, hd1, hd2, hh⟩ := Holds.of_own3 hown
      obtain rfl : k = n := by omega
      clear ha hf e2 e3
      go_wp2
      go_ret2
      exact ⟨b, d, by rw [← hv]; rfl, hd1, hd2, hh, by rw [Ext, ← HB.out]; exact hb, HFr.out b d hv⟩

end Go.Proofs.Ytejiafihiielgaa
