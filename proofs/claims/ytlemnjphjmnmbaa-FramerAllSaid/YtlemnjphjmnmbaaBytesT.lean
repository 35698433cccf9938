/-
  BYTES IN THEIR TIMES (api.Byte): lists of (time, byte, spoilt); bilgeref09.Right.
-/
import Derived.Test.YtlemnjphjmnmbaaRows
import Derived.Test.YtlemnjphjmnmbaaLists
import Derived.Test.YtlemnjphjmnmbaaLater
import Derived.WalkLawsBesides
import Derived.WalkSpells
import Derived.Deep.QuietTactic
import Derived.BigQuiet
import Derived.RegionTactic
import Derived.Outline
import Derived.Lib.Hide
import Derived.Handy
import Derived.IntWalk
namespace Go.Proofs.Ytlemnjphjmnmbaa
open Go.RowKit

/-- A byte in its time: when, which, spoilt. -/
def byt (x : Int × Int × Bool) : List Value := [.int .i64 x.1, .int .u8 x.2.1, .bool x.2.2]
theorem byt_length (x : Int × Int × Bool) : (byt x).length = 3 := rfl
theorem HoldsL.byt_at {w : World} {b off : Nat} {L : List (Int × Int × Bool)} (h : HoldsL 3 byt w (some ⟨b, off, none⟩) L) (i : Nat) (hi : i < L.length) :
    w.cell? ⟨b, off + i * 3, none⟩ = some (.int .i64 (L[i]).1) ∧ w.cell? ⟨b, off + i * 3 + 1, none⟩ = some (.int .u8 (L[i]).2.1) ∧ w.cell? ⟨b, off + i * 3 + 2, none⟩ = some (.bool (L[i]).2.2) := by
  rcases h with h | ⟨b', off', ha, hlt, hc⟩
  · subst h; simp at hi
  · cases ha
    exact ⟨hc i L[i] (by simp [hi]) 0 _ rfl, hc i L[i] (by simp [hi]) 1 _ rfl, hc i L[i] (by simp [hi]) 2 _ rfl⟩
/-- All that came in may be. -/
def WfB (O : List (Int × Int × Bool)) : Prop := ∀ x ∈ O, (Lit.int .i64 x.1).wf = true ∧ (Lit.int .u8 x.2.1).wf = true
/-- Do they come one behind the other from f on, each at a time that may be? -/
def risingI : Int → List (Int × Int × Bool) → Bool
  | _, [] => true
  | f, x :: l => decide (f ≤ x.1 ∧ x.1 ≤ 1099511627776) && risingI x.1 l
/-- .. and does f? -/
def rightI (l : List (Int × Int × Bool)) (f : Int) : Bool := decide (0 ≤ f ∧ f ≤ 1099511627776) && risingI f l
theorem risingI_no {f : Int} {x : Int × Int × Bool} {l : List (Int × Int × Bool)} (h : x.1 < f ∨ 1099511627776 < x.1) : risingI f (x :: l) = false := by
  unfold risingI
  rw [decide_eq_false (by omega)]; rfl
theorem risingI_yes {f : Int} {x : Int × Int × Bool} {l : List (Int × Int × Bool)} (h : ¬ x.1 < f) (k : ¬ 1099511627776 < x.1) : risingI f (x :: l) = risingI x.1 l := by
  conv => lhs; unfold risingI
  rw [decide_eq_true (by omega)]; rfl
theorem right_out (a : Option Addr) (n c : Nat) (f : Int) (w : World) (h : f < 0 ∨ 1099511627776 < f) :
    Calls Try.prog 53 #[.slice a n c, .int .i64 f] w fun e w' => e = .returned (.bool false) ∧ w = w' := by
  rcases (show f < 0 ∨ (¬ f < 0 ∧ 1099511627776 < f) by omega) with h1 | ⟨h1, h2⟩
  all_goals
    clear h
    go_enter Try.func53, Try.ntmps53
    go_wp2
    go_ret
    exact ⟨rfl, rfl⟩
set_option maxHeartbeats 1000000 in
theorem r9right_any (a : Option Addr) (n c : Nat) (L : List (Int × Int × Bool)) (f : Int) (w : World) (ha : HoldsL 3 byt w a L) (hL : L.length = n) (hn : n ≤ 1000000) :
    Calls Try.prog 53 #[.slice a n c, .int .i64 f] w fun e w' => e = .returned (.bool (rightI L f)) ∧ w = w' := by
  by_cases hf : f < 0 ∨ 1099511627776 < f
  · have e : rightI L f = false := by unfold rightI; rw [decide_eq_false (by omega)]; rfl
    rw [e]; exact right_out a n c f w hf
  · have e : rightI L f = risingI f L := by unfold rightI; rw [decide_eq_true (by omega)]; rfl
    rw [e]
    have f0 : ¬ f < 0 := by omega
    have f1 : ¬ 1099511627776 < f := by omega
    obtain ⟨B, hB⟩ : ∃ B, B = risingI f L := ⟨_, rfl⟩
    rw [← hB]
    have HB := Lib.hid hB
    have HL := Lib.hid hL
    have HA := Lib.hid ha
    clear hf e hB hL ha
    go_enter Try.func53, Try.ntmps53
    go_wp2
    go_loopw [1, 5] (fun fv iv wr => ∃ (k : Nat) (g : Int), k ≤ n ∧ iv = .int .i64 k ∧ fv = .int .i64 g ∧ wr = w ∧ B = risingI g (L.drop k)) (fun _ iv _ => n - (intOf iv).toNat)
    case atStart => exact ⟨0, f, Nat.zero_le _, rfl, rfl, rfl, by rw [HB.out]; rfl⟩
    case round =>
      clear f0 f1
      obtain ⟨k, g, hk, rfl, rfl, rfl, hr⟩ := hrel
      have HR := Lib.hid hr
      clear hr
      by_cases hlt : k < n
      · have hkL : k < L.length := by rw [HL.out]; exact hlt
        obtain ⟨p, o, rfl, hp, _⟩ := HA.out.resolve_left (by intro e; rw [e] at hkL; simp at hkL)
        obtain ⟨c0, -, -⟩ := HA.out.byt_at k hkL
        have hlt' : (k : Int) < n := by omega
        obtain ⟨x, hx⟩ : ∃ x, x = L[k] := ⟨_, rfl⟩
        rw [← hx] at c0
        have hd : L.drop k = x :: L.drop (k + 1) := by rw [List.drop_eq_getElem_cons hkL, ← hx]
        have HD := Lib.hid hd
        clear hd hx hkL
        obtain ⟨X, hX⟩ : ∃ X, X = x.1 := ⟨_, rfl⟩
        rw [← hX] at c0
        have HX := Lib.hid hX
        clear hX
        by_cases h1 : X < g
        · have hb : B = false := by rw [HR.out, HD.out]; exact risingI_no (.inl (by rw [← HX.out]; exact h1))
          have Hb := Lib.hid hb
          clear hb
          go_wp2
          go_ret
          exact ⟨by rw [Hb.out]; rfl, rfl⟩
        · by_cases h2 : 1099511627776 < X
          · have hb : B = false := by rw [HR.out, HD.out]; exact risingI_no (.inr (by rw [← HX.out]; exact h2))
            have Hb := Lib.hid hb
            clear hb
            go_wp2
            go_ret
            exact ⟨by rw [Hb.out]; rfl, rfl⟩
          · have hb : B = risingI X (L.drop (k + 1)) := by rw [HR.out, HD.out, HX.out]; exact risingI_yes (by rw [← HX.out]; exact h1) (by rw [← HX.out]; exact h2)
            have Hb := Lib.hid hb
            clear hb
            go_wp2
            go_roundw
            case rel => exact ⟨k + 1, X, by omega, by go_num, by first | rfl | trivial, by first | rfl | trivial, Hb.out⟩
            case measure => simp [intOf]; omega
      · have hb : B = true := by rw [HR.out, List.drop_of_length_le (by rw [HL.out]; omega)]; rfl
        have Hb := Lib.hid hb
        clear hb
        go_wp2
        go_ret
        exact ⟨by rw [Hb.out]; rfl, rfl⟩
end Go.Proofs.Ytlemnjphjmnmbaa
