/-
  CONTRACTS: slices.Grow of nothing, slices.Concat of lists of bytes.
-/
import Derived.Test.YtlafnobjfajamaaGreatPm20
import Derived.Test.YtlafnobjfajamaaGreatPm6
import Derived.Test.YtlafnobjfajamaaGreatPm5
import Derived.Test.YtlafnobjfajamaaGreatPm12
import Derived.Lib.AppendZeros
namespace Go.Proofs.YtlafnobjfajamaaGreat
open Go.RowKit
set_option linter.unusedVariables false
set_option maxRecDepth 100000

set_option maxHeartbeats 2000000 in
theorem grow_nil (k : Nat) (w : World) (hk : k ≤ 4000000) : Calls Tryz.prog 144 #[.slice none 0 0, .int .i64 k] w fun e w' => ∃ v, e = .returned v ∧ w'.ownsRow w.heap.size 5 1 v 0 [] ∧ Ext w w' := by
  obtain ⟨i8, hi8, hz80, hz81, hz82⟩ := info_parts Tryz.info8
  have hi : IntKind.i64.wrap (k : Int) = k := IntWalk.i64_in _ (by omega)
  have hd0 : decide ((k : Int) < 0) = false := decide_eq_false (by omega)
  by_cases h0 : k = 0
  · subst h0
    go_enter Tryz.func144, Tryz.ntmps144
    go_wp2
    go_ret
    exact ⟨_, rfl, World.ownsRow_nil _ _ _ _, Ext.refl _⟩
  · have hd1 : decide (0 < (k : Int)) = true := decide_eq_true (by omega)
    have happ := fun ty => Lib.run_append_nil_zeros (P := Tryz.prog) w 48 3 ty 5 i8 (.int .u8 0) .i64 .i64 Tryz.underlying48 Tryz.underlying3 hi8 hz80 k (by omega) (by omega) (by omega) (by rw [hz82]; omega)
    have hcapge : k ≤ grownCap w k 0 5 := grownCap_ge w _ 0 5
    have hcaple : grownCap w k 0 5 ≤ maxLen := grownCap_le_maxLen w _ 0 5 (by unfold maxLen; omega)
    generalize grownCap w k 0 5 = cap at happ hcapge hcaple
    generalize hZ : (Builtin.zeroCells (Value.int .u8 0).cells k ++ Builtin.zeroCells (Value.int .u8 0).cells (cap - k)) = Z at happ
    have hZs : Z.size = cap := by rw [← hZ]; simp [size_zeroCells, Value.cells]; omega
    clear hZ
    have hc0 : 0 ≤ cap := Nat.zero_le _
    go_enter Tryz.func144, Tryz.ntmps144
    go_wp2_with (at_builtin; refine Lib.wpList_append_run _ rfl _ _ _ _ rfl _ _ rfl rfl _ _ (happ _) ?_)
    go_ret
    refine ⟨_, rfl, ⟨rfl, .inr ⟨w.heap.size, cap, Z, rfl, Nat.le_refl _, ?_, Nat.zero_le _, hcaple, by rw [hZs]; omega, rfl⟩⟩, ?_⟩
    · exact heap_alloc_new w _
    · exact (Ext.drew w).trans (Ext.alloc _ _)
theorem own_base {w : World} {b b' : Nat} {e : TypeId} {size : Nat} {v : Value} {n : Nat} {xs : List Value} (h : w.ownsRow b e size v n xs) (hb : b' ≤ b) : w.ownsRow b' e size v n xs :=
  ⟨h.1, h.2.imp id fun ⟨g, cap, cur, hv, hg, rest⟩ => ⟨g, cap, cur, hv, Nat.le_trans hb hg, rest⟩⟩
/-- How many bytes the first lists hold; what they are. -/
def sumC (P : Nat → Option Addr × Nat × Nat) : Nat → Nat
  | 0 => 0
  | i + 1 => sumC P i + (P i).2.1
def catC (P : Nat → Option Addr × Nat × Nat) (G : Nat → Nat → Int) : Nat → List Value
  | 0 => []
  | i + 1 => catC P G i ++ lstG (Value.int .u8) (G i) (P i).2.1
theorem sumC_mono (P : Nat → Option Addr × Nat × Nat) {i m : Nat} (h : i ≤ m) : sumC P i ≤ sumC P m := by
  induction m with
  | zero => obtain rfl : i = 0 := by omega
            exact Nat.le_refl _
  | succ m ih =>
    by_cases he : i = m + 1
    · rw [he]; exact Nat.le_refl _
    · exact Nat.le_trans (ih (by omega)) (by simp [sumC])
def mkS (t : Option Addr × Nat × Nat) : Value := .slice t.1 t.2.1 t.2.2
set_option maxHeartbeats 4000000 in
theorem concat_any (a : Option Addr) (m c : Nat) (P : Nat → Option Addr × Nat × Nat) (G : Nat → Nat → Int) (w : World) (ha : HoldsG mkS w a m P) (hm : m ≤ 100) (hs : sumC P m ≤ 1000000) (hh : ∀ i, i < m → Holds .u8 w (P i).1 (P i).2.1 (G i)) :
    Calls Tryz.prog 127 #[.slice a m c] w fun e w' => ∃ v, e = .returned v ∧ w'.ownsRow w.heap.size 5 1 v (sumC P m) (catC P G m) ∧ Ext w w' := by
  obtain ⟨i8, hi8, hz80, hz81, hz82⟩ := info_parts Tryz.info8
  have HM := Lib.hid (fun i (h : i ≤ m) => sumC_mono P h)
  have HA := Lib.hid ha
  have HH := Lib.hid hh
  have KG := Lib.hid (fun w' => grow_nil (sumC P m) w' (by omega))
  obtain ⟨M, hM⟩ : ∃ M, M = sumC P m := ⟨_, rfl⟩
  rw [← hM] at KG hs HM
  have HMe := Lib.hid hM
  obtain ⟨B, hB⟩ : ∃ B, B = w.heap.size := ⟨_, rfl⟩
  have HBe := Lib.hid hB
  clear ha hh hM hB
  go_enter Tryz.func127, Tryz.ntmps127
  go_wp2
  go_loopw [11, 3] (fun iv sv wr => ∃ i : Nat, i ≤ m ∧ iv = .int .i64 i ∧ sv = .int .i64 (sumC P i : Nat) ∧ Ext w wr) (fun iv _ _ => m - (intOf iv).toNat)
  case atStart => exact ⟨0, Nat.zero_le _, rfl, rfl, Ext.refl _⟩
  case round =>
    obtain ⟨i, hi, rfl, rfl, x⟩ := hrel
    by_cases hlt : i < m
    · obtain ⟨b, off, rfl, hb, hc⟩ := HA.out.resolve_left (by omega)
      have c1 : wr.cell? ⟨b, off + i, none⟩ = some (.slice (P i).1 (P i).2.1 (P i).2.2) := x.cell hb (hc i hlt)
      have hltI : (i : Int) < m := by omega
      have hle := HM.out (i + 1) (by omega)
      have hsum : sumC P (i + 1) = sumC P i + (P i).2.1 := rfl
      rw [hsum] at hle
      have HSm := Lib.hid hsum
      generalize sumC P i = s at hle HSm ⊢
      generalize (P i).2.1 = l at hle HSm c1
      generalize (P i).1 = A at c1
      generalize (P i).2.2 = D at c1
      clear hsum hc
      have hw : IntKind.i64.wrap ((s : Int) + l) = s + l := IntWalk.i64_in _ (by omega)
      have hd : decide ((s : Int) + l < 0) = false := decide_eq_false (by omega)
      go_wp2
      go_roundw
      case rel => exact ⟨i + 1, by omega, by go_num, by rw [HSm.out]; push_cast; rfl, x⟩
      case measure => simp [intOf]; omega
    · obtain rfl : i = m := by omega
      rw [← HMe.out]
      go_wp2_with fail
      refine (KG.out _).mono ?_; rintro e w1 ⟨v, rfl, hown, x1⟩
      have hbl : Below B w w1 := by rw [HBe.out]; exact x.trans x1
      have hown0 : w1.ownsRow B 5 1 v (sumC P 0) (catC P G 0) := own_base hown (by rw [HBe.out]; exact x.size)
      clear hown x1 KG x
      go_wp2_with fail
      go_loopw [27, 6] (fun iv sv wr => ∃ j : Nat, j ≤ i ∧ iv = .int .i64 j ∧ wr.ownsRow B 5 1 sv (sumC P j) (catC P G j) ∧ Below B w wr) (fun iv _ _ => i - (intOf iv).toNat)
      case atStart => exact ⟨0, Nat.zero_le _, rfl, hown0, hbl⟩
      case round =>
        obtain ⟨j, hj, rfl, hown, hbl⟩ := hrel
        have x : Ext w wr := by rw [Ext, ← HBe.out]; exact hbl
        by_cases hlt : j < i
        · obtain ⟨b, off, rfl, hb, hc⟩ := HA.out.resolve_left (by omega)
          have c1 : wr.cell? ⟨b, off + j, none⟩ = some (.slice (P j).1 (P j).2.1 (P j).2.2) := x.cell hb (hc j hlt)
          have hltI : (j : Int) < i := by omega
          have hle := HM.out (j + 1) (by omega)
          have hsum : sumC P (j + 1) = sumC P j + (P j).2.1 := rfl
          have hcat : catC P G (j + 1) = catC P G j ++ lstG (Value.int .u8) (G j) (P j).2.1 := rfl
          rw [hsum] at hle
          have HSm := Lib.hid (And.intro hsum hcat)
          have hhj := (HH.out j hlt).ext x
          generalize sumC P j = s at hle HSm hown
          generalize catC P G j = xs at HSm hown
          generalize (P j).2.1 = l at hle HSm c1 hhj
          generalize (P j).1 = A at c1 hhj
          generalize (P j).2.2 = D at c1
          clear hsum hc hcat
          go_wp2_with (first
            | (at_builtin; refine wpList_append_holds (mk := Value.int .u8) rfl (.tmp 31) (.tmp 32) 48 rfl B 5 i8 (.int .u8 0) 1 Tryz.underlying48 hi8 hz80 hz81 hz82 rfl _ s xs rfl hown A l D (G j) rfl hhj (fun _ => rfl) (by unfold maxLen; omega) (by omega) (by rw [HBe.out]; exact x.size) ?_; intro v8 w8 hown8 _ hb8))
          go_roundw
          case rel => exact ⟨j + 1, by omega, by go_num, by rw [HSm.out.1, HSm.out.2]; exact hown8, hbl.trans hb8⟩
          case measure => simp [intOf]; omega
        · obtain rfl : j = i := by omega
          rw [← HMe.out] at hown
          go_wp2
          go_ret
          exact ⟨_, rfl, by rw [← HBe.out, ← HMe.out]; exact hown, x⟩
end Go.Proofs.YtlafnobjfajamaaGreat
