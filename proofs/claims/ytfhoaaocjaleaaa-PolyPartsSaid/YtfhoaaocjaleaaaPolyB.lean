/-
  CONTRACTS: poly.Mix; bilgeref03.Mix.
-/
import Derived.Test.YtfhoaaocjaleaaaPolyA
import Derived.Test.YtfhoaaocjaleaaaBlocks
import Derived.Deep.RegionHeld3
namespace Go.Proofs.Ytfhoaaocjaleaaa
open Go.RowKit

theorem Try.info8p : (Try.prog.info? 5).map (fun i => (i.zero, i.size, i.bytes)) = some (some (.int .u8 0), 1, 1) := by kernel_rfl
theorem min_nat (n m : Nat) : min (n : Int) (m : Int) = ((min n m : Nat) : Int) := by omega
def mixF (f g : Nat → Int) : Nat → Int := fun i => xB (f i) (g i)
theorem mixF_at (f g : Nat → Int) (k : Nat) : mixF f g k = xB (f k) (g k) := rfl
theorem mixF_bd {f g : Nat → Int} {m : Nat} (hf : ∀ i, i < m → 0 ≤ f i ∧ f i < 256) (hg : ∀ i, i < m → 0 ≤ g i ∧ g i < 256) : ∀ i, i < m → 0 ≤ mixF f g i ∧ mixF f g i < 256 :=
  fun i hi => ⟨xB_lo _ _, xB_hi _ _ (hf i hi).2 (hg i hi).2⟩

set_option maxHeartbeats 1600000 in
theorem mix_any (a b : Option Addr) (n m c d l : Nat) (f g : Nat → Int) (w : World) (ha : Holds .u8 w a n f) (hb : Holds .u8 w b m g) (hn : n ≤ 1000000) (hm : m ≤ 1000000) (hl : l = min n m)
    (hf : ∀ i, i < n → 0 ≤ f i ∧ f i < 256) (hg : ∀ i, i < m → 0 ≤ g i ∧ g i < 256) :
    Calls Try.prog 14 #[.slice a n c, .slice b m d] w fun e w' => ∃ x y, e = .returned (.slice x l y) ∧ l ≤ y ∧ y ≤ maxLen ∧ Holds .u8 w' x l (mixF f g) ∧ Ext w w' := by
  obtain ⟨i0, hi0, hz0, hz1, hz2⟩ := info_parts Try.info8p
  by_cases hnm : n ≤ m
  · obtain rfl : l = n := by omega
    have hnm' : (l : Int) ≤ m := by omega
    clear hl hnm
    go_enter Try.func14, Try.ntmps14
    go_wp2_with (at_make; refine wpList_make_full _ rfl _ _ 23 rfl w.heap.size 5 i0 (.int .u8 0) 1 Try.underlying23 hi0 hz0 hz1 .i64 .i64 l l l rfl rfl rfl rfl (by rw [hz2]; omega) (by unfold maxLen; omega) (Nat.le_refl _) ?_; intro w1 hown1 hgrow1)
    have hb1 : Below w.heap.size w w1 := (Below.refl _ _).grown hgrow1 (Nat.le_refl _) (fun k hk => by cases hk)
    have hr1 : Row (.int .u8) 5 w1 w.heap.size l (fun _ => 0) := Row.made hown1
    obtain ⟨B, hB⟩ : ∃ B, B = w.heap.size := ⟨_, rfl⟩
    rw [← hB] at hr1 hb1 ⊢
    have HB := Lib.hid hB
    clear hB hown1 hgrow1
    go_loopw [15] (fun i wr => ∃ k : Nat, k ≤ l ∧ i = .int .i64 k ∧ ∃ h, Row (.int .u8) 5 wr B l h ∧ (∀ j, j < k → h j = mixF f g j) ∧ Below B w wr) (fun i _ => l - (intOf i).toNat)
    case atStart => exact ⟨0, Nat.zero_le _, rfl, _, hr1, fun j hj => absurd hj (by omega), hb1⟩
    case round =>
      obtain ⟨k, hk, rfl, h, hr, hg0, hbl⟩ := hrel
      have hgh := Lib.hid hg0
      clear hg0 hr1 hb1
      by_cases hlt : k < l
      · obtain ⟨p, o, rfl, hp, hc⟩ := ha.resolve_left (by omega)
        obtain ⟨p', o', rfl, hp', hc'⟩ := hb.resolve_left (by omega)
        have c0 := (hbl.cell (p := ⟨p, o + k, none⟩) (by show p < B; rw [HB.out]; exact hp)).trans (hc k (by omega))
        have c1 := (hbl.cell (p := ⟨p', o' + k, none⟩) (by show p' < B; rw [HB.out]; exact hp')).trans (hc' k (by omega))
        obtain ⟨f0, f1⟩ := hf k (by omega)
        obtain ⟨g0, g1⟩ := hg k (by omega)
        have hx := xB_bits _ _ f0 f1 g0 g1
        rw [← mixF_at] at hx
        clear hc ha hc' hb hf hg
        have r0 := hr.cell k hlt
        have r1 := hr.frozen k
        have hs := hr.set k (mixF f g k)
        have h1 : (k : Int) < l := by omega
        have h2 : (k : Int) < m := by omega
        go_wp2_with fail
        go_region
        go_wp2
        go_roundw
        case rel =>
          refine ⟨k + 1, by omega, by go_num, _, hs.drew, fun j hj => ?_, (hbl.setCell (Nat.le_refl _) _).drew⟩
          by_cases e : j = k
          · subst e; rw [upd_same]
          · rw [upd_other _ _ _ _ e]; exact hgh.out j (by omega)
        case measure => simp [intOf]; omega
      · clear ha hb
        go_wp2
        go_ret
        obtain rfl : k = l := by omega
        exact ⟨_, _, rfl, Nat.le_refl _, by unfold maxLen; omega, (hr.congr hgh.out).holds, by rw [Ext, ← HB.out]; exact hbl⟩
  · obtain rfl : l = m := by omega
    have hnm' : (l : Int) < n := by omega
    clear hl hnm
    go_enter Try.func14, Try.ntmps14
    go_wp2_with (at_make; refine wpList_make_full _ rfl _ _ 23 rfl w.heap.size 5 i0 (.int .u8 0) 1 Try.underlying23 hi0 hz0 hz1 .i64 .i64 l l l rfl rfl rfl rfl (by rw [hz2]; omega) (by unfold maxLen; omega) (Nat.le_refl _) ?_; intro w1 hown1 hgrow1)
    have hb1 : Below w.heap.size w w1 := (Below.refl _ _).grown hgrow1 (Nat.le_refl _) (fun k hk => by cases hk)
    have hr1 : Row (.int .u8) 5 w1 w.heap.size l (fun _ => 0) := Row.made hown1
    obtain ⟨B, hB⟩ : ∃ B, B = w.heap.size := ⟨_, rfl⟩
    rw [← hB] at hr1 hb1 ⊢
    have HB := Lib.hid hB
    clear hB hown1 hgrow1
    go_loopw [15] (fun i wr => ∃ k : Nat, k ≤ l ∧ i = .int .i64 k ∧ ∃ h, Row (.int .u8) 5 wr B l h ∧ (∀ j, j < k → h j = mixF f g j) ∧ Below B w wr) (fun i _ => l - (intOf i).toNat)
    case atStart => exact ⟨0, Nat.zero_le _, rfl, _, hr1, fun j hj => absurd hj (by omega), hb1⟩
    case round =>
      obtain ⟨k, hk, rfl, h, hr, hg0, hbl⟩ := hrel
      have hgh := Lib.hid hg0
      clear hg0 hr1 hb1
      by_cases hlt : k < l
      · obtain ⟨p, o, rfl, hp, hc⟩ := ha.resolve_left (by omega)
        obtain ⟨p', o', rfl, hp', hc'⟩ := hb.resolve_left (by omega)
        have c0 := (hbl.cell (p := ⟨p, o + k, none⟩) (by show p < B; rw [HB.out]; exact hp)).trans (hc k (by omega))
        have c1 := (hbl.cell (p := ⟨p', o' + k, none⟩) (by show p' < B; rw [HB.out]; exact hp')).trans (hc' k (by omega))
        obtain ⟨f0, f1⟩ := hf k (by omega)
        obtain ⟨g0, g1⟩ := hg k (by omega)
        have hx := xB_bits _ _ f0 f1 g0 g1
        rw [← mixF_at] at hx
        clear hc ha hc' hb hf hg
        have r0 := hr.cell k hlt
        have r1 := hr.frozen k
        have hs := hr.set k (mixF f g k)
        have h1 : (k : Int) < n := by omega
        have h2 : (k : Int) < l := by omega
        go_wp2_with fail
        go_region
        go_wp2
        go_roundw
        case rel =>
          refine ⟨k + 1, by omega, by go_num, _, hs.drew, fun j hj => ?_, (hbl.setCell (Nat.le_refl _) _).drew⟩
          by_cases e : j = k
          · subst e; rw [upd_same]
          · rw [upd_other _ _ _ _ e]; exact hgh.out j (by omega)
        case measure => simp [intOf]; omega
      · clear ha hb
        go_wp2
        go_ret
        obtain rfl : k = l := by omega
        exact ⟨_, _, rfl, Nat.le_refl _, by unfold maxLen; omega, (hr.congr hgh.out).holds, by rw [Ext, ← HB.out]; exact hbl⟩
end Go.Proofs.Ytfhoaaocjaleaaa
