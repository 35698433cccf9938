/-
  CONTRACTS: bilgeref01.Bytes, Words: are two slices the same?
-/
import Derived.Test.YtebhalehgpigoaaRows
import Derived.Test.YtebhalehgpigoaaSlices
import Derived.WalkLawsBesides
import Derived.WalkSpells
import Derived.Deep.QuietTactic
import Derived.BigQuiet
import Derived.RegionTactic
import Derived.Outline
import Derived.Lib.Hide
namespace Go.Proofs.Ytebhalehgpigoaa
open Go.RowKit

theorem drewN_two (w : World) (q r : Nat) : ∃ s, (w.drewN q).drewN r = w.drewN s := ⟨q + r, by simp⟩

set_option maxHeartbeats 400000 in
theorem bytes_any (a b : Option Addr) (n m c d : Nat) (f g : Nat → Int) (w : World) (ha : Holds .u8 w a n f) (hb : Holds .u8 w b m g) (hn : n ≤ 1000000) (hm : m ≤ 1000000) :
    Calls Try.prog 13 #[.slice a n c, .slice b m d] w fun e w' => e = .returned (.bool (eqB n m f g)) ∧ ∃ q, w' = w.drewN q := by
  by_cases hnm : n = m
  · subst hnm
    go_enter Try.func13, Try.ntmps13
    go_wp2
    go_loopw [5] (fun i wr => ∃ j : Nat, j ≤ n ∧ i = .int .i64 j ∧ (∀ t, t < j → f t = g t) ∧ ∃ q, wr = w.drewN q) (fun i _ => n - (intOf i).toNat)
    case atStart => exact ⟨0, Nat.zero_le _, rfl, fun t ht => absurd ht (by omega), 0, rfl⟩
    case round =>
      obtain ⟨j, hj, rfl, hall0, q, rfl⟩ := hrel
      have hall := Lib.hid hall0
      clear hall0
      by_cases hlt : j < n
      · obtain ⟨p, o, rfl, hp, hc⟩ := ha.resolve_left (by omega)
        obtain ⟨p', o', rfl, hp', hc'⟩ := hb.resolve_left (by omega)
        have c1 := hc j hlt
        have c2 := hc' j hlt
        clear hc hc' ha hb
        by_cases hfg : f j = g j
        · have hfe := Lib.hid hfg
          have hff : (f j != g j) = false := by simp [hfg]
          clear hfg
          go_wp2
          go_quiet (fail)
          go_wp2
          go_roundw
          case rel => exact ⟨j + 1, by omega, by go_num, fun t ht => by rcases Nat.lt_or_ge t j with h | h; exact hall.out t h; obtain rfl : t = j := by omega
                                                                        exact hfe.out, q + _, rfl⟩
          case measure => simp [intOf]; omega
        · have he := Lib.hid (eqB_false (n := n) (m := n) (f := f) (g := g) (.inr ⟨j, hlt, hfg⟩))
          have hff : (f j != g j) = true := by simp [hfg]
          clear hfg
          go_wp2
          go_quiet (fail)
          go_wp2
          go_ret
          exact ⟨by rw [he.out]; rfl, drewN_two _ _ _⟩
      · have he := Lib.hid (eqB_true (n := n) (m := n) (f := f) (g := g) rfl (fun i hi => hall.out i (by omega)))
        clear ha hb
        go_wp2
        go_ret
        exact ⟨by rw [he.out]; rfl, _, rfl⟩
  · have he := Lib.hid (eqB_false (n := n) (m := m) (f := f) (g := g) (.inl hnm))
    clear ha hb
    go_enter Try.func13, Try.ntmps13
    go_wp2
    go_ret
    exact ⟨by rw [he.out]; rfl, 0, rfl⟩

end Go.Proofs.Ytebhalehgpigoaa
