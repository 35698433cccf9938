/-
  CONTRACTS: slices.Grow of nothing, slices.Concat of lists of bytes (any number; two; three).
-/
import Derived.Test.YtjbmmklgpjnbmaaRows
import Derived.Test.YtjbmmklgpjnbmaaStepAppend
import Derived.Test.YtjbmmklgpjnbmaaAppend
import Derived.Test.YtjbmmklgpjnbmaaBlocks
import Derived.Test.YtjbmmklgpjnbmaaKeep
import Derived.Test.YtjbmmklgpjnbmaaWord
import Derived.Lib.AppendZeros
namespace Go.Proofs.Ytjbmmklgpjnbmaa
open Go.RowKit
set_option linter.unusedVariables false
set_option maxRecDepth 100000

set_option maxHeartbeats 2000000 in
theorem grow_nil (k : Nat) (w : World) (hk : k ≤ 4000000) : Calls Try.prog 41 #[.slice none 0 0, .int .i64 k] w fun e w' => ∃ v, e = .returned v ∧ w'.ownsRow w.heap.size 5 1 v 0 [] ∧ Ext w w' := by
  obtain ⟨i8, hi8, hz80, hz81, hz82⟩ := info_parts Try.info8
  have hi : IntKind.i64.wrap (k : Int) = k := IntWalk.i64_in _ (by omega)
  have hd0 : decide ((k : Int) < 0) = false := decide_eq_false (by omega)
  by_cases h0 : k = 0
  · subst h0
    go_enter Try.func41, Try.ntmps41
    go_wp2
    go_ret
    exact ⟨_, rfl, World.ownsRow_nil _ _ _ _, Ext.refl _⟩
  · have hd1 : decide (0 < (k : Int)) = true := decide_eq_true (by omega)
    have happ := fun ty => Lib.run_append_nil_zeros (P := Try.prog) w 27 3 ty 5 i8 (.int .u8 0) .i64 .i64 Try.underlying27 Try.underlying3 hi8 hz80 k (by omega) (by omega) (by omega) (by rw [hz82]; omega)
    have hcapge : k ≤ grownCap w k 0 5 := grownCap_ge w _ 0 5
    have hcaple : grownCap w k 0 5 ≤ maxLen := grownCap_le_maxLen w _ 0 5 (by unfold maxLen; omega)
    generalize grownCap w k 0 5 = cap at happ hcapge hcaple
    generalize hZ : (Builtin.zeroCells (Value.int .u8 0).cells k ++ Builtin.zeroCells (Value.int .u8 0).cells (cap - k)) = Z at happ
    have hZs : Z.size = cap := by rw [← hZ]; simp [size_zeroCells, Value.cells]; omega
    clear hZ
    have hc0 : 0 ≤ cap := Nat.zero_le _
    go_enter Try.func41, Try.ntmps41
    go_wp2_with (at_builtin; refine Lib.wpList_append_run _ rfl _ _ _ _ rfl _ _ rfl rfl _ _ (happ _) ?_)
    go_ret
    refine ⟨_, rfl, ⟨rfl, .inr ⟨w.heap.size, cap, Z, rfl, Nat.le_refl _, ?_, Nat.zero_le _, hcaple, by rw [hZs]; omega, rfl⟩⟩, ?_⟩
    · exact heap_alloc_new w _
    · exact (Ext.drew w).trans (Ext.alloc _ _)
theorem own_base {w : World} {b b' : Nat} {e : TypeId} {size : Nat} {v : Value} {n : Nat} {xs : List Value} (h : w.ownsRow b e size v n xs) (hb : b' ≤ b) : w.ownsRow b' e size v n xs :=
  ⟨h.1, h.2.imp id fun ⟨g, cap, cur, hv, hg, rest⟩ => ⟨g, cap, cur, hv, Nat.le_trans hb hg, rest⟩⟩
/-- How many bytes the first lists hold; what they are. -/
def sumC (P : Nat → Option Addr × Nat × Nat) : Nat → Nat
  | 0 => 0
  | i + 1 => sumC P i + (P i).2.1
def catC (P : Nat → Option Addr × Nat × Nat) (G : Nat → Nat → Int) : Nat → List Value
  | 0 => []
  | i + 1 => catC P G i ++ lstG (Value.int .u8) (G i) (P i).2.1
theorem sumC_mono (P : Nat → Option Addr × Nat × Nat) {i m : Nat} (h : i ≤ m) : sumC P i ≤ sumC P m := by
  induction m with
  | zero => obtain rfl : i = 0 := by omega
            exact Nat.le_refl _
  | succ m ih =>
    by_cases he : i = m + 1
    · rw [he]; exact Nat.le_refl _
    · exact Nat.le_trans (ih (by omega)) (by simp [sumC])
def mkS (t : Option Addr × Nat × Nat) : Value := .slice t.1 t.2.1 t.2.2
set_option maxHeartbeats 4000000 in
theorem concat_any (a : Option Addr) (m c : Nat) (P : Nat → Option Addr × Nat × Nat) (G : Nat → Nat → Int) (w : World) (ha : HoldsG mkS w a m P) (hm : m ≤ 100) (hs : sumC P m ≤ 1000000) (hh : ∀ i, i < m → Holds .u8 w (P i).1 (P i).2.1 (G i)) :
    Calls Try.prog 33 #[.slice a m c] w fun e w' => ∃ v, e = .returned v ∧ w'.ownsRow w.heap.size 5 1 v (sumC P m) (catC P G m) ∧ Ext w w' := by
  obtain ⟨i8, hi8, hz80, hz81, hz82⟩ := info_parts Try.info8
  have HM := Lib.hid (fun i (h : i ≤ m) => sumC_mono P h)
  have HA := Lib.hid ha
  have HH := Lib.hid hh
  have KG := Lib.hid (fun w' => grow_nil (sumC P m) w' (by omega))
  obtain ⟨M, hM⟩ : ∃ M, M = sumC P m := ⟨_, rfl⟩
  rw [← hM] at KG hs HM
  have HMe := Lib.hid hM
  obtain ⟨B, hB⟩ : ∃ B, B = w.heap.size := ⟨_, rfl⟩
  have HBe := Lib.hid hB
  clear ha hh hM hB
  go_enter Try.func33, Try.ntmps33
  go_wp2
  go_loopw [11, 3] (fun iv sv wr => ∃ i : Nat, i ≤ m ∧ iv = .int .i64 i ∧ sv = .int .i64 (sumC P i : Nat) ∧ Ext w wr) (fun iv _ _ => m - (intOf iv).toNat)
  case atStart => exact ⟨0, Nat.zero_le _, rfl, rfl, Ext.refl _⟩
  case round =>
    obtain ⟨i, hi, rfl, rfl, x⟩ := hrel
    by_cases hlt : i < m
    · obtain ⟨b, off, rfl, hb, hc⟩ := HA.out.resolve_left (by omega)
      have c1 : wr.cell? ⟨b, off + i, none⟩ = some (.slice (P i).1 (P i).2.1 (P i).2.2) := x.cell hb (hc i hlt)
      have hltI : (i : Int) < m := by omega
      have hle := HM.out (i + 1) (by omega)
      have hsum : sumC P (i + 1) = sumC P i + (P i).2.1 := rfl
      rw [hsum] at hle
      have HSm := Lib.hid hsum
      generalize sumC P i = s at hle HSm ⊢
      generalize (P i).2.1 = l at hle HSm c1
      generalize (P i).1 = A at c1
      generalize (P i).2.2 = D at c1
      clear hsum hc
      have hw : IntKind.i64.wrap ((s : Int) + l) = s + l := IntWalk.i64_in _ (by omega)
      have hd : decide ((s : Int) + l < 0) = false := decide_eq_false (by omega)
      go_wp2
      go_roundw
      case rel => exact ⟨i + 1, by omega, by go_num, by rw [HSm.out]; push_cast; rfl, x⟩
      case measure => simp [intOf]; omega
    · obtain rfl : i = m := by omega
      rw [← HMe.out]
      go_wp2_with fail
      refine (KG.out _).mono ?_; rintro e w1 ⟨v, rfl, hown, x1⟩
      have hbl : Below B w w1 := by rw [HBe.out]; exact x.trans x1
      have hown0 : w1.ownsRow B 5 1 v (sumC P 0) (catC P G 0) := own_base hown (by rw [HBe.out]; exact x.size)
      clear hown x1 KG x
      go_wp2_with fail
      go_loopw [27, 6] (fun iv sv wr => ∃ j : Nat, j ≤ i ∧ iv = .int .i64 j ∧ wr.ownsRow B 5 1 sv (sumC P j) (catC P G j) ∧ Below B w wr) (fun iv _ _ => i - (intOf iv).toNat)
      case atStart => exact ⟨0, Nat.zero_le _, rfl, hown0, hbl⟩
      case round =>
        obtain ⟨j, hj, rfl, hown, hbl⟩ := hrel
        have x : Ext w wr := by rw [Ext, ← HBe.out]; exact hbl
        by_cases hlt : j < i
        · obtain ⟨b, off, rfl, hb, hc⟩ := HA.out.resolve_left (by omega)
          have c1 : wr.cell? ⟨b, off + j, none⟩ = some (.slice (P j).1 (P j).2.1 (P j).2.2) := x.cell hb (hc j hlt)
          have hltI : (j : Int) < i := by omega
          have hle := HM.out (j + 1) (by omega)
          have hsum : sumC P (j + 1) = sumC P j + (P j).2.1 := rfl
          have hcat : catC P G (j + 1) = catC P G j ++ lstG (Value.int .u8) (G j) (P j).2.1 := rfl
          rw [hsum] at hle
          have HSm := Lib.hid (And.intro hsum hcat)
          have hhj := (HH.out j hlt).ext x
          generalize sumC P j = s at hle HSm hown
          generalize catC P G j = xs at HSm hown
          generalize (P j).2.1 = l at hle HSm c1 hhj
          generalize (P j).1 = A at c1 hhj
          generalize (P j).2.2 = D at c1
          clear hsum hc hcat
          go_wp2_with (first
            | (at_builtin; refine wpList_append_holds (mk := Value.int .u8) rfl (.tmp 31) (.tmp 32) 27 rfl B 5 i8 (.int .u8 0) 1 Try.underlying27 hi8 hz80 hz81 hz82 rfl _ s xs rfl hown A l D (G j) rfl hhj (fun _ => rfl) (by unfold maxLen; omega) (by omega) (by rw [HBe.out]; exact x.size) ?_; intro v8 w8 hown8 _ hb8))
          go_roundw
          case rel => exact ⟨j + 1, by omega, by go_num, by rw [HSm.out.1, HSm.out.2]; exact hown8, hbl.trans hb8⟩
          case measure => simp [intOf]; omega
        · obtain rfl : j = i := by omega
          rw [← HMe.out] at hown
          go_wp2
          go_ret
          exact ⟨_, rfl, by rw [← HBe.out, ← HMe.out]; exact hown, x⟩
/-- Two lists of bytes, one behind the other. -/
def catF (n1 : Nat) (f g : Nat → Int) : Nat → Int := fun i => if i < n1 then f i else g (i - n1)
theorem concat_two (W : World) (p1 p2 : Option Addr) (n1 q1 n2 q2 : Nat) (f g : Nat → Int) (h1 : Holds .u8 W p1 n1 f) (h2 : Holds .u8 W p2 n2 g) (hs : n1 + n2 ≤ 1000000) :
    Calls Try.prog 33 #[.slice (some ⟨W.heap.size, 0, none⟩) 2 2] (W.alloc (.cells #[.slice p1 n1 q1, .slice p2 n2 q2] 27)) fun e w' =>
      ∃ b q, e = .returned (.slice b (n1 + n2) q) ∧ n1 + n2 ≤ q ∧ q ≤ maxLen ∧ HoldsG (Value.int .u8) w' b (n1 + n2) (catF n1 f g) ∧ Fresh W b ∧ Ext (W.alloc (.cells #[.slice p1 n1 q1, .slice p2 n2 q2] 27)) w' := by
  have x := Ext.alloc W (.cells #[.slice p1 n1 q1, .slice p2 n2 q2] 27)
  let P : Nat → Option Addr × Nat × Nat := fun i => if i = 0 then (p1, n1, q1) else (p2, n2, q2)
  let G : Nat → Nat → Int := fun i => if i = 0 then f else g
  have hA : HoldsG mkS (W.alloc (.cells #[.slice p1 n1 q1, .slice p2 n2 q2] 27)) (some ⟨W.heap.size, 0, none⟩) 2 P :=
    HoldsG.new _ _ _ 2 _ (fun i hi => by
      have h : i = 0 ∨ i = 1 := by omega
      rcases h with rfl | rfl <;> rfl)
  have hh : ∀ i, i < 2 → Holds .u8 (W.alloc (.cells #[.slice p1 n1 q1, .slice p2 n2 q2] 27)) (P i).1 (P i).2.1 (G i) := fun i hi => by
    have h : i = 0 ∨ i = 1 := by omega
    rcases h with rfl | rfl
    · exact h1.ext x
    · exact h2.ext x
  have hsum : sumC P 2 = n1 + n2 := by show 0 + n1 + n2 = n1 + n2; omega
  have hcat : catC P G 2 = lstG (Value.int .u8) (catF n1 f g) (n1 + n2) := by
    show ([] ++ lstG (Value.int .u8) f n1) ++ lstG (Value.int .u8) g n2 = _
    rw [List.nil_append, lstG_append]; rfl
  refine (concat_any _ 2 2 P G _ hA (by omega) (by rw [hsum]; exact hs) hh).mono ?_
  rintro e w' ⟨v, rfl, hown, y⟩
  rw [hsum, hcat] at hown
  obtain ⟨b, q, rfl, l, m, h⟩ := HoldsG.of_own (mk := Value.int .u8) hown
  exact ⟨b, q, rfl, l, m, h, fun p hp => by subst hp; exact Nat.le_trans x.size (hown.lt p.block rfl).1, y⟩
theorem concat_three (W : World) (p1 p2 p3 : Option Addr) (n1 q1 n2 q2 n3 q3 : Nat) (f g h : Nat → Int) (h1 : Holds .u8 W p1 n1 f) (h2 : Holds .u8 W p2 n2 g) (h3 : Holds .u8 W p3 n3 h) (hs : n1 + n2 + n3 ≤ 1000000) :
    Calls Try.prog 33 #[.slice (some ⟨W.heap.size, 0, none⟩) 3 3] (W.alloc (.cells #[.slice p1 n1 q1, .slice p2 n2 q2, .slice p3 n3 q3] 27)) fun e w' =>
      ∃ b q, e = .returned (.slice b (n1 + n2 + n3) q) ∧ n1 + n2 + n3 ≤ q ∧ q ≤ maxLen ∧ HoldsG (Value.int .u8) w' b (n1 + n2 + n3) (catF (n1 + n2) (catF n1 f g) h) ∧ Fresh W b ∧ Ext (W.alloc (.cells #[.slice p1 n1 q1, .slice p2 n2 q2, .slice p3 n3 q3] 27)) w' := by
  have x := Ext.alloc W (.cells #[.slice p1 n1 q1, .slice p2 n2 q2, .slice p3 n3 q3] 27)
  let P : Nat → Option Addr × Nat × Nat := fun i => if i = 0 then (p1, n1, q1) else if i = 1 then (p2, n2, q2) else (p3, n3, q3)
  let G : Nat → Nat → Int := fun i => if i = 0 then f else if i = 1 then g else h
  have hA : HoldsG mkS (W.alloc (.cells #[.slice p1 n1 q1, .slice p2 n2 q2, .slice p3 n3 q3] 27)) (some ⟨W.heap.size, 0, none⟩) 3 P :=
    HoldsG.new _ _ _ 3 _ (fun i hi => by
      have h : i = 0 ∨ i = 1 ∨ i = 2 := by omega
      rcases h with rfl | rfl | rfl <;> rfl)
  have hh : ∀ i, i < 3 → Holds .u8 (W.alloc (.cells #[.slice p1 n1 q1, .slice p2 n2 q2, .slice p3 n3 q3] 27)) (P i).1 (P i).2.1 (G i) := fun i hi => by
    have h : i = 0 ∨ i = 1 ∨ i = 2 := by omega
    rcases h with rfl | rfl | rfl
    · exact h1.ext x
    · exact h2.ext x
    · exact h3.ext x
  have hsum : sumC P 3 = n1 + n2 + n3 := by show 0 + n1 + n2 + n3 = n1 + n2 + n3; omega
  have hcat : catC P G 3 = lstG (Value.int .u8) (catF (n1 + n2) (catF n1 f g) h) (n1 + n2 + n3) := by
    show (([] ++ lstG (Value.int .u8) f n1) ++ lstG (Value.int .u8) g n2) ++ lstG (Value.int .u8) h n3 = _
    rw [List.nil_append, lstG_append, lstG_append]; rfl
  refine (concat_any _ 3 3 P G _ hA (by omega) (by rw [hsum]; exact hs) hh).mono ?_
  rintro e w' ⟨v, rfl, hown, y⟩
  rw [hsum, hcat] at hown
  obtain ⟨b, q, rfl, l, m, h⟩ := HoldsG.of_own (mk := Value.int .u8) hown
  exact ⟨b, q, rfl, l, m, h, fun p hp => by subst hp; exact Nat.le_trans x.size (hown.lt p.block rfl).1, y⟩
end Go.Proofs.Ytjbmmklgpjnbmaa
