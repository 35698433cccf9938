/-
  LAYER 13, PLAIN: a word by a mask.
  CONTRACTS: bilgeref13.Mask (layer 13).
-/
import Derived.Test.YtlafnobjfajamaaGreatChecked
import Derived.Laws.BitsAllLaws
import Derived.WalkKit
import Derived.WalkSmall
import Derived.Lib.Hide
import Derived.Test.YtlafnobjfajamaaGreatPk2
import Derived.BigQuiet
namespace Go.Proofs.YtlafnobjfajamaaGreat
open Go.RowKit
set_option linter.unusedVariables false

/-- Sixteen bits as a number. -/
def vM (x : BitVec 16) : Int := (x.toNat : Int)
theorem vM_lo (x : BitVec 16) : 0 ≤ vM x := Int.natCast_nonneg _
theorem vM_hi (x : BitVec 16) : vM x < 65536 := by have := x.isLt; unfold vM; omega
theorem vM_of {r : Int} (h0 : 0 ≤ r) (h1 : r < 65536) : ∃ x, r = vM x := ⟨BitVec.ofNat 16 r.toNat, by unfold vM; rw [BitVec.toNat_ofNat]; omega⟩
theorem vM_toNat (x : BitVec 16) : (vM x).toNat = x.toNat := Int.toNat_natCast _
theorem vM_and (x y : BitVec 16) : bits .and .u16 (vM x) (vM y) = vM (x &&& y) := by
  rw [u16_and _ _ (vM_lo _) (vM_hi _) (vM_lo _) (vM_hi _), vM_toNat, vM_toNat]; unfold vM; rw [BitVec.toNat_and]
theorem vM_or (x y : BitVec 16) : bits .or .u16 (vM x) (vM y) = vM (x ||| y) := by
  rw [u16_or _ _ (vM_lo _) (vM_hi _) (vM_lo _) (vM_hi _), vM_toNat, vM_toNat]; unfold vM; rw [BitVec.toNat_or]
theorem vM_andNot (x y : BitVec 16) : bits .andNot .u16 (vM x) (vM y) = vM (x &&& ~~~y) := by
  rw [u16_andNot _ _ (vM_lo _) (vM_hi _) (vM_lo _) (vM_hi _), vM_toNat, vM_toNat]; unfold vM; rw [BitVec.toNat_and, BitVec.toNat_not]
/-- The bits of x where a has a 1, those of o where it has a 0. -/
def mskV (x a o : BitVec 16) : BitVec 16 := (x &&& a) ||| (o &&& ~~~a)
theorem mskV_bit (x a o : BitVec 16) (k : Nat) (hk : k < 16) : (mskV x a o).toNat.testBit k = if a.toNat.testBit k = true then x.toNat.testBit k else o.toNat.testBit k := by
  have e : (mskV x a o).getLsbD k = if a.getLsbD k = true then x.getLsbD k else o.getLsbD k := by
    unfold mskV
    simp only [BitVec.getLsbD_or, BitVec.getLsbD_and, BitVec.getLsbD_not, hk, decide_true, Bool.true_and]
    cases a.getLsbD k <;> simp
  exact e
/-- A word's bit, as a number. -/
def bitI (x : BitVec 16) (k : Nat) : Int := if x.toNat.testBit k = true then 1 else 0
theorem bitI_eq (x : BitVec 16) (k : Nat) : (vM x / 2 ^ k).tmod 2 = bitI x k := by
  have e : (vM x / 2 ^ k) = ((x.toNat / 2 ^ k : Nat) : Int) := by unfold vM; simp
  unfold bitI
  rw [e, Int.tmod_eq_emod_of_nonneg (Int.natCast_nonneg _), Nat.testBit_eq_decide_div_mod_eq]
  by_cases h : x.toNat / 2 ^ k % 2 = 1
  · rw [if_pos (decide_eq_true h)]; omega
  · rw [if_neg (by rw [decide_eq_true_eq]; exact h)]; omega
theorem bitI_two (x : BitVec 16) (k : Nat) : bitI x k = 0 ∨ bitI x k = 1 := by unfold bitI; split <;> omega
/-- The k low bits of a word, as a number. -/
def lowI (x : BitVec 16) (k : Nat) : Int := ((x.toNat % 2 ^ k : Nat) : Int)
theorem lowI_zero (x : BitVec 16) : lowI x 0 = 0 := by unfold lowI; simp [Nat.mod_one]
theorem lowI_all (x : BitVec 16) : lowI x 16 = vM x := by unfold lowI vM; rw [Nat.mod_eq_of_lt x.isLt]
theorem lowI_step (x : BitVec 16) (k : Nat) : lowI x (k + 1) = lowI x k + bitI x k * 2 ^ k := by
  have h : x.toNat % 2 ^ (k + 1) = x.toNat % 2 ^ k + 2 ^ k * (x.toNat / 2 ^ k % 2) := Nat.mod_pow_succ
  have e : ((2 ^ k : Nat) : Int) = (2 : Int) ^ k := by simp
  unfold lowI bitI
  rw [h, Nat.testBit_eq_decide_div_mod_eq]
  by_cases hb : x.toNat / 2 ^ k % 2 = 1
  · rw [if_pos (decide_eq_true hb), hb, ← e]; omega
  · rw [if_neg (by rw [decide_eq_true_eq]; exact hb), show x.toNat / 2 ^ k % 2 = 0 by omega]; omega
theorem lowI_bd (x : BitVec 16) (k : Nat) : 0 ≤ lowI x k ∧ lowI x k < 2 ^ k := by
  have h : x.toNat % 2 ^ k < 2 ^ k := Nat.mod_lt _ (Nat.two_pow_pos k)
  have e : ((2 ^ k : Nat) : Int) = (2 : Int) ^ k := by simp
  unfold lowI
  rw [← e]
  omega
theorem mskV_bitI (x a o : BitVec 16) (k : Nat) (hk : k < 16) : bitI (mskV x a o) k = if bitI a k = 1 then bitI x k else bitI o k := by
  unfold bitI
  rw [mskV_bit x a o k hk]
  cases a.toNat.testBit k <;> simp

set_option maxRecDepth 100000 in
set_option maxHeartbeats 2000000 in
theorem r13mask_any (x a o : BitVec 16) (w : World) : Calls Tryz.prog 43 #[.int .u16 (vM x), .int .u16 (vM a), .int .u16 (vM o)] w fun e w' => e = .returned (.int .u16 (vM (mskV x a o))) ∧ w = w' := by
  have HS := Lib.hid (fun k hk => And.intro (lowI_step (mskV x a o) k) (mskV_bitI x a o k hk))
  have HL := Lib.hid (fun k => lowI_bd (mskV x a o) k)
  have HZ := Lib.hid (And.intro (lowI_zero (mskV x a o)) (lowI_all (mskV x a o)))
  have HX := Lib.hid (fun k => And.intro (bitI_eq x k) (bitI_two x k))
  have HA := Lib.hid (fun k => And.intro (bitI_eq a k) (bitI_two a k))
  have HO := Lib.hid (fun k => And.intro (bitI_eq o k) (bitI_two o k))
  have x0 := vM_lo x; have x1 := vM_hi x; have a0 := vM_lo a; have a1 := vM_hi a; have o0 := vM_lo o; have o1 := vM_hi o
  generalize mskV x a o = m at HS HL HZ ⊢
  obtain ⟨X, hX⟩ : ∃ X, X = vM x := ⟨_, rfl⟩
  obtain ⟨A, hA⟩ : ∃ A, A = vM a := ⟨_, rfl⟩
  obtain ⟨O, hO⟩ : ∃ O, O = vM o := ⟨_, rfl⟩
  rw [← hX] at x0 x1 HX ⊢
  rw [← hA] at a0 a1 HA ⊢
  rw [← hO] at o0 o1 HO ⊢
  clear hX hA hO
  go_enter Tryz.func43, Tryz.ntmps43
  go_wp2
  go_loop [7, 8] (fun s i => ∃ k : Nat, k ≤ 16 ∧ i = .int .i64 k ∧ s = .int .u16 (lowI m k)) (fun _ i => 16 - (intOf i).toNat)
  case atStart => exact ⟨0, by omega, rfl, by rw [HZ.out.1]⟩
  case round =>
    obtain ⟨k, hk, rfl, rfl⟩ := hrel
    by_cases hlt : k < 16
    · have hlt' : (k : Int) < 16 := by omega
      obtain ⟨h1, h2⟩ := HS.out k hlt
      obtain ⟨s0, s1⟩ := HL.out k
      obtain ⟨e1, t1⟩ := HX.out k
      obtain ⟨e2, t2⟩ := HA.out k
      obtain ⟨e3, t3⟩ := HO.out k
      have hp : (2 : Int) ^ k ≤ 32768 := by
        have h : (2 : Nat) ^ k ≤ 2 ^ 15 := Nat.pow_le_pow_right (by decide) (by omega)
        have e : ((2 ^ k : Nat) : Int) = (2 : Int) ^ k := by simp
        omega
      obtain ⟨P, hP⟩ : ∃ P : Int, (2 : Int) ^ k = P := ⟨_, rfl⟩
      obtain ⟨S, hS⟩ : ∃ S, S = lowI m k := ⟨_, rfl⟩
      obtain ⟨bx, hbx⟩ : ∃ b, b = bitI x k := ⟨_, rfl⟩
      obtain ⟨ba, hba⟩ : ∃ b, b = bitI a k := ⟨_, rfl⟩
      obtain ⟨bo, hbo⟩ : ∃ b, b = bitI o k := ⟨_, rfl⟩
      rw [← hbx] at e1 t1 h2; rw [← hba] at e2 t2 h2; rw [← hbo] at e3 t3 h2
      rw [← hS] at h1 s0 s1 ⊢
      rw [hP] at h1 s1 e1 e2 e3 hp
      have H1 := Lib.hid h1; have H2 := Lib.hid h2
      have HSk := Lib.hid hS
      have hP0 : 0 ≤ P := by omega
      clear h1 h2 hS hbx hba hbo
      have hend : ∀ b, (if ba = 1 then bx else bo) = b → lowI m (k + 1) = S + b * P := fun b hb => by rw [H1.out, H2.out, hb]
      have HE := Lib.hid hend
      clear hend
      rcases t2 with rfl | rfl
      · rcases t3 with rfl | rfl
        · have hE := Lib.hid (HE.out 0 rfl)
          go_wp2
          go_round
          case rel => exact ⟨k + 1, by omega, by go_num, by rw [hE.out]; simp⟩
          case measure => simp [intOf]; omega
        · have hE := Lib.hid (HE.out 1 rfl)
          go_wp2
          go_round
          case rel => exact ⟨k + 1, by omega, by go_num, by rw [hE.out]; simp⟩
          case measure => simp [intOf]; omega
      · rcases t1 with rfl | rfl
        · have hE := Lib.hid (HE.out 0 rfl)
          go_wp2
          go_round
          case rel => exact ⟨k + 1, by omega, by go_num, by rw [hE.out]; simp⟩
          case measure => simp [intOf]; omega
        · have hE := Lib.hid (HE.out 1 rfl)
          go_wp2
          go_round
          case rel => exact ⟨k + 1, by omega, by go_num, by rw [hE.out]; simp⟩
          case measure => simp [intOf]; omega
    · obtain rfl : k = 16 := by omega
      have hz := Lib.hid HZ.out.2
      clear HS HL HZ HX HA HO
      go_wp2
      go_ret
      exact ⟨by rw [hz.out]; rfl, rfl⟩
end Go.Proofs.YtlafnobjfajamaaGreat
