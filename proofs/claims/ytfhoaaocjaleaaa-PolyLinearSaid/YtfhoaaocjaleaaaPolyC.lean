/-
  CONTRACTS: bilgeref03.Mix.
-/
import Derived.Test.YtfhoaaocjaleaaaPolyB
import Derived.Deep.AppendLies
namespace Go.Proofs.Ytfhoaaocjaleaaa
open Go.RowKit

set_option maxHeartbeats 1600000 in
theorem rmix_any (a b : Option Addr) (n m c d l : Nat) (f g : Nat → Int) (w : World) (ha : Holds .u8 w a n f) (hb : Holds .u8 w b m g) (hn : n ≤ 1000000) (_hm : m ≤ 1000000) (hl : l = min n m)
    (hf : ∀ i, i < n → 0 ≤ f i ∧ f i < 256) (hg : ∀ i, i < m → 0 ≤ g i ∧ g i < 256) :
    Calls Try.prog 15 #[.slice a n c, .slice b m d] w fun e w' => ∃ x y, e = .returned (.slice x l y) ∧ Holds .u8 w' x l (mixF f g) ∧ Ext w w' := by
  obtain ⟨i0, hi0, hz0, hz1, hz2⟩ := info_parts Try.info8p
  obtain ⟨B, hB⟩ : ∃ B, B = w.heap.size := ⟨_, rfl⟩
  have hb0 : Below B w w := by rw [hB]; exact Below.refl _ _
  have HB := Lib.hid hB
  clear hB
  have hl1 : l ≤ n := by omega
  have hl2 : l ≤ m := by omega
  have hl3 : ¬ (l < n ∧ l < m) := by omega
  clear hl
  go_enter Try.func15, Try.ntmps15
  go_wp2
  go_loopw [5, 6] (fun v i wr => ∃ k : Nat, k ≤ l ∧ i = .int .i64 k ∧ wr.ownsRow B 5 1 v k (lst .u8 (mixF f g) k) ∧ Below B w wr) (fun _ i _ => l - (intOf i).toNat)
  case atStart => exact ⟨0, Nat.zero_le _, rfl, World.ownsRow_nil _ _ _ _, hb0⟩
  case round =>
    obtain ⟨k, hk, rfl, hown, hbl⟩ := hrel
    by_cases hlt : k < l
    · obtain ⟨p, o, rfl, hp, hc⟩ := ha.resolve_left (by omega)
      obtain ⟨p', o', rfl, hp', hc'⟩ := hb.resolve_left (by omega)
      have hpB : p < B := by rw [HB.out]; exact hp
      have hpB' : p' < B := by rw [HB.out]; exact hp'
      have c0 := (hbl.cell (p := ⟨p, o + k, none⟩) hpB).trans (hc k (by omega))
      have c1 := (hbl.cell (p := ⟨p', o' + k, none⟩) hpB').trans (hc' k (by omega))
      obtain ⟨f0, f1⟩ := hf k (by omega)
      obtain ⟨g0, g1⟩ := hg k (by omega)
      have hx := xB_bits _ _ f0 f1 g0 g1
      rw [← mixF_at] at hx
      have hBs : B ≤ wr.heap.size := by have := hbl.size; rw [HB.out]; exact this
      clear hc ha hc' hb hf hg
      have h1 : (k : Int) < n := by omega
      have h2 : (k : Int) < m := by omega
      have hob : ∀ q, u5.ownBlock = some q → B ≤ q := fun q hq => (hown.lt q hq).1
      have hpw : p < wr.heap.size := by omega
      have hpw' : p' < wr.heap.size := by omega
      have hpv : u5.ownBlock ≠ some p := fun e => by have := hob p e; omega
      have hpv' : u5.ownBlock ≠ some p' := fun e => by have := hob p' e; omega
      go_wp2_with fail
      go_region_held3 (fun w' => w'.cell? ⟨p, o + k, none⟩ = some (.int .u8 (f k)) ∧ w'.cell? ⟨p', o' + k, none⟩ = some (.int .u8 (g k)))
        (first
          | (rw [hgrow.cell_far _ (by simp; omega) (Ne.symm hpv), hgrow.cell_far _ (by simp; omega) (Ne.symm hpv')]; go_keep; done)
          | (go_keep; done))
        ((refine step_append_lies _ (by rfl) _ _ _ (by rfl) B 5 i0 _ 1 1 Try.underlying23 hi0 hz0 hz1 hz2 rfl (by omega) u5 k _ (by rfl) ((hown.alloc _).drew)
            ⟨wr.heap.size, 0, none⟩ 1 1 [.int .u8 (mixF f g k)] (by rfl) (by rfl) (World.news_of_block (cs := #[.int .u8 (mixF f g k)]) (t := 5) (fr := (0, 0)) (heap_alloc_new wr _)) (by simp [Value.oneCell'])
            (by omega) (by unfold maxLen; omega) (by omega) (by simp <;> omega) (wr.heap.size + 1) (by simp) ?_; intro gg cap w1 hown1 hgrow hat hlt1))
      have hown2 : w1.ownsRow B 5 1 (.slice (some ⟨gg, 0, none⟩) (k + 1) cap) (k + 1) (lst .u8 (mixF f g) (k + 1)) := by rw [← lst_succ]; exact hown1
      have hb2 : Below B w w1 := ((hbl.alloc hBs _).drew).grown hgrow (by simp; omega) hob
      clear hown1 hgrow hat hown hbl hob hpv hpv' c0 c1
      go_wp2
      go_roundw
      case rel => exact ⟨k + 1, by omega, by go_num, hown2, hb2⟩
      case measure => simp [intOf]; omega
    · obtain ⟨x, y, hv, hh⟩ := Holds.of_own hown
      obtain rfl : k = l := by omega
      clear ha hb hf hg hown
      rcases (show ¬ k < n ∨ (k < n ∧ ¬ k < m) from by omega) with h | ⟨h, h'⟩
      · have h1 : ¬ (k : Int) < n := by omega
        clear h hl1 hl2 hl3 hlt
        go_wp2
        go_ret
        exact ⟨x, ⟨y, by rfl⟩, hh, by rw [Ext, ← HB.out]; exact hbl⟩
      · have h1 : (k : Int) < n := by omega
        have h2 : ¬ (k : Int) < m := by omega
        clear h h' hl1 hl2 hl3 hlt
        go_wp2
        go_ret
        exact ⟨x, ⟨y, by rfl⟩, hh, by rw [Ext, ← HB.out]; exact hbl⟩
end Go.Proofs.Ytfhoaaocjaleaaa
