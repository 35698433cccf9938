/-
  THE LAWS OF LAYER 13: the walk of CellsMask ('sure' and Mask's contract as premises).
-/
import Derived.Test.YtbabfhbkckokfaaMask
namespace Go.Proofs.Ytbabfhbkckokfaa
open Go.RowKit
set_option linter.unusedVariables false

theorem vM_not (a : BitVec 16) : bits .xor .u16 IntKind.u16.max (vM a) = vM (~~~a) := by
  have h := vM_xor (BitVec.allOnes 16) a
  rw [show vM (BitVec.allOnes 16) = IntKind.u16.max from by decide, BitVec.allOnes_xor] at h
  exact h
set_option maxHeartbeats 1600000 in
theorem cellsMask.any (x a o : BitVec 16) (w : World)
    (hm : ∀ (x a o : BitVec 16) (w : World), Calls Try.prog 18 #[.int .u16 (vM x), .int .u16 (vM a), .int .u16 (vM o)] w fun e w' => e = .returned (.int .u16 (vM (mskV x a o))) ∧ w = w')
    (sure : ∀ w, Calls Try.prog 7 #[] w fun e w' => e = .returned (.bool true) ∧ Ext w w') :
    Calls Try.prog 6 #[.int .u16 (vM x), .int .u16 (vM a), .int .u16 (vM o)] w fun e w' => e = .returned (.bool true) ∧ Ext w w' := by
  have H1 := Lib.hid (fun w => hm x a o w)
  have H2 := Lib.hid (fun w => show Calls Try.prog 18 #[.int .u16 (vM x), .int .u16 65535, .int .u16 (vM o)] w fun e w' => e = .returned (.int .u16 (vM x)) ∧ w = w' by have h := hm x 65535#16 o w; rw [mskV_all, show vM 65535#16 = 65535 from by decide] at h; exact h)
  have H3 := Lib.hid (fun w => show Calls Try.prog 18 #[.int .u16 (vM x), .int .u16 0, .int .u16 (vM o)] w fun e w' => e = .returned (.int .u16 (vM o)) ∧ w = w' by have h := hm x 0#16 o w; rw [mskV_none, show vM 0#16 = 0 from by decide] at h; exact h)
  have H4 := Lib.hid (fun w => show Calls Try.prog 18 #[.int .u16 (vM (mskV x a o)), .int .u16 (vM a), .int .u16 (vM o)] w fun e w' => e = .returned (.int .u16 (vM (mskV x a o))) ∧ w = w' by have h := hm (mskV x a o) a o w; rw [mskV_twice] at h; exact h)
  have H5 := Lib.hid (fun w => show Calls Try.prog 18 #[.int .u16 (vM (mskV x a o)), .int .u16 (vM (~~~a)), .int .u16 (vM x)] w fun e w' => e = .returned (.int .u16 (vM (mskV o (~~~a) x))) ∧ w = w' by have h := hm (mskV x a o) (~~~a) x w; rw [mskV_other] at h; exact h)
  have H6 := Lib.hid (fun w => hm o (~~~a) x w)
  have e1 := vM_and (mskV x a o) a
  rw [mskV_and] at e1
  have e2 := vM_and x a
  have e3 := vM_andNot (mskV x a o) a
  rw [mskV_andNot] at e3
  have e4 := vM_andNot o a
  have b0 := vM_lo a; have b1 := vM_hi a
  have hn := vM_not a
  generalize vM (mskV x a o) = R at *
  generalize vM (x &&& a) = Y at *
  generalize vM (o &&& ~~~a) = Z at *
  generalize vM (mskV o (~~~a) x) = Q at *
  generalize vM (~~~a) = A' at *
  generalize vM x = X at *
  generalize vM a = A at *
  generalize vM o = O at *
  have HS := Lib.hid sure
  have hsg : IntKind.u16.signed = false := rfl
  clear hm sure b0 b1
  go_enter Try.func6, Try.ntmps6
  go_wp2_with fail
  refine (H1.out _).mono ?_; rintro e w' ⟨rfl, rfl⟩
  go_wp2_with fail
  refine (H2.out _).mono ?_; rintro e w' ⟨rfl, rfl⟩
  go_wp2_with fail
  refine (H3.out _).mono ?_; rintro e w' ⟨rfl, rfl⟩
  go_wp2_with fail
  refine (H4.out _).mono ?_; rintro e w' ⟨rfl, rfl⟩
  go_wp2_with fail
  refine (H5.out _).mono ?_; rintro e w' ⟨rfl, rfl⟩
  go_wp2_with fail
  refine (H6.out _).mono ?_; rintro e w' ⟨rfl, rfl⟩
  go_wp2_with fail
  refine (HS.out _).mono ?_; rintro e w' ⟨rfl, x9⟩
  go_wp2
  go_ret
  exact ⟨rfl, x9⟩
theorem cellsMask.walk0 (p q r : Int) (w : World) (hp : (Lit.int .u16 p).wf = true) (hq : (Lit.int .u16 q).wf = true) (hr : (Lit.int .u16 r).wf = true)
    (hm : ∀ (x a o : BitVec 16) (w : World), Calls Try.prog 18 #[.int .u16 (vM x), .int .u16 (vM a), .int .u16 (vM o)] w fun e w' => e = .returned (.int .u16 (vM (mskV x a o))) ∧ w = w')
    (sure : ∀ w, Calls Try.prog 7 #[] w fun e w' => e = .returned (.bool true) ∧ Ext w w') :
    Calls Try.prog 6 #[.int .u16 p, .int .u16 q, .int .u16 r] w fun e w' => e = .returned (.bool true) ∧ Ext w w' := by
  have bd : ∀ z, (Lit.int .u16 z).wf = true → 0 ≤ z ∧ z < 65536 := fun z h => by
    simp [Lit.wf, IntKind.min, IntKind.max, IntKind.signed, IntKind.bits] at h; omega
  obtain ⟨x, rfl⟩ := vM_of (bd p hp).1 (bd p hp).2
  obtain ⟨a, rfl⟩ := vM_of (bd q hq).1 (bd q hq).2
  obtain ⟨o, rfl⟩ := vM_of (bd r hr).1 (bd r hr).2
  exact cellsMask.any x a o w hm sure
end Go.Proofs.Ytbabfhbkckokfaa
