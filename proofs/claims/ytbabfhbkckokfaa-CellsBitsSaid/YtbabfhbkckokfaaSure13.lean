/-
  THE LAWS OF LAYER 13: what must come whatever the input is ('sure'; package cells' contracts as premises).
-/
import Derived.Test.YtbabfhbkckokfaaLaw13B
namespace Go.Proofs.Ytbabfhbkckokfaa
open Go.RowKit
set_option linter.unusedVariables false

def s789 (i : Nat) : Int := if i = 0 then 7 else if i = 1 then 8 else 9
def s89 (i : Nat) : Int := if i = 0 then 8 else 9
def sTTT (i : Nat) : Bool := true
def sTTF (i : Nat) : Bool := decide (i < 2)
theorem lit3 {α : Type} {mk : α → Value} (w : World) (t : TypeId) (g : Nat → α) : HoldsG mk (w.alloc (.cells #[mk (g 0), mk (g 1), mk (g 2)] t)) (some ⟨w.heap.size, 0, none⟩) 3 g :=
  HoldsG.new w _ t 3 g fun i hi => by
    have : i = 0 ∨ i = 1 ∨ i = 2 := by omega
    rcases this with rfl | rfl | rfl <;> rfl
theorem lit2 {α : Type} {mk : α → Value} (w : World) (t : TypeId) (g : Nat → α) : HoldsG mk (w.alloc (.cells #[mk (g 0), mk (g 1)] t)) (some ⟨w.heap.size, 0, none⟩) 2 g :=
  HoldsG.new w _ t 2 g fun i hi => by
    have : i = 0 ∨ i = 1 := by omega
    rcases this with rfl | rfl <;> rfl
theorem lit1 {α : Type} {mk : α → Value} (w : World) (t : TypeId) (g : Nat → α) : HoldsG mk (w.alloc (.cells #[mk (g 0)] t)) (some ⟨w.heap.size, 0, none⟩) 1 g :=
  HoldsG.new w _ t 1 g fun i hi => by
    have : i = 0 := by omega
    subst this; rfl
theorem s13a : rdE 5 3 3 6 2 = 0 ∧ rdN 5 3 3 6 2 2 = 2 := by decide
theorem s13b : rdE 5 3 3 7 2 = 2 := by decide
theorem s13c : rdE 5 3 3 7 1 = 0 ∧ rdN 5 3 3 7 1 3 = 3 := by decide
theorem s13d : rdE 5 3 0 5 1 = 11 := by decide
theorem s13m : vM (mskV 18#16 242#16 37#16) = 23 ∧ vM 18#16 = 18 ∧ vM 242#16 = 242 ∧ vM 37#16 = 37 := by decide
set_option maxRecDepth 100000 in
set_option maxHeartbeats 3200000 in
theorem sure13_of (rd : RdC (Value.int .u16) 13) (wr : WrC (Value.int .u16) 15) (wr' : WrC Value.bool 10)
    (hm : ∀ (x a o : BitVec 16) (w : World), Calls Try.prog 18 #[.int .u16 (vM x), .int .u16 (vM a), .int .u16 (vM o)] w fun e w' => e = .returned (.int .u16 (vM (mskV x a o))) ∧ w = w')
    (w : World) : Calls Try.prog 7 #[] w fun e w' => e = .returned (.bool true) ∧ Ext w w' := by
  have K1 := Lib.hid (fun a W (h : HoldsG (Value.int .u16) W a 3 s789) => show Calls Try.prog 13 #[.agg #[.int .i64 5, .int .i64 3], .slice a 3 3, .int .i64 6, .int .i64 2] W fun e w' => ∃ b q, e = .returned (.tuple #[.slice b 2 q, .int .i64 0]) ∧ HoldsG (Value.int .u16) w' b 2 s89 ∧ Ext W w' from
    (rd 5 3 6 2 a 3 3 s789 W h (by decide) (by decide) (by decide) (by decide) (by decide)).mono fun e w' ⟨b, q, he, _, _, hh, hx⟩ => by
      rw [show (2 : Int).toNat = 2 from rfl, show ((3 : Nat) : Int) = 3 from rfl, s13a.1, s13a.2] at he
      rw [show (2 : Int).toNat = 2 from rfl, show ((3 : Nat) : Int) = 3 from rfl, s13a.2] at hh
      exact ⟨b, q, he, hh.congr fun i hi => by have : i = 0 ∨ i = 1 := by omega
                                               rcases this with rfl | rfl <;> rfl, hx⟩)
  have K2 := Lib.hid (fun a W (h : HoldsG (Value.int .u16) W a 3 s789) => show Calls Try.prog 13 #[.agg #[.int .i64 5, .int .i64 3], .slice a 3 3, .int .i64 7, .int .i64 2] W fun e w' => ∃ b n q, e = .returned (.tuple #[.slice b n q, .int .i64 2]) ∧ Ext W w' from
    (rd 5 3 7 2 a 3 3 s789 W h (by decide) (by decide) (by decide) (by decide) (by decide)).mono fun e w' ⟨b, q, he, _, _, hh, hx⟩ => by
      rw [show ((3 : Nat) : Int) = 3 from rfl, s13b] at he
      exact ⟨b, _, q, he, hx⟩)
  have K3 := Lib.hid (fun a b W (h : HoldsG Value.bool W a 3 sTTT) (h2 : HoldsG Value.bool W b 1 (fun _ => false)) => show Calls Try.prog 10 #[.agg #[.int .i64 5, .int .i64 3], .slice a 3 3, .int .i64 7, .slice b 1 1] W fun e w' => ∃ b q, e = .returned (.tuple #[.slice b 3 q, .int .i64 0]) ∧ HoldsG Value.bool w' b 3 sTTF ∧ Ext W w' from
    (wr' 5 3 7 a 3 3 sTTT b 1 1 (fun _ => false) W h (by decide) (by decide) (by decide) h2 (by decide) (by decide) (by decide) (by decide)).mono fun e w' ⟨b, q, he, _, _, hh, hx⟩ => by
      rw [show ((3 : Nat) : Int) = 3 from rfl, show ((1 : Nat) : Int) = 1 from rfl, s13c.1, s13c.2] at he
      rw [show ((3 : Nat) : Int) = 3 from rfl, show ((1 : Nat) : Int) = 1 from rfl, s13c.2] at hh
      exact ⟨b, q, he, hh.congr fun i hi => by have : i = 0 ∨ i = 1 ∨ i = 2 := by omega
                                               rcases this with rfl | rfl | rfl <;> rfl, hx⟩)
  have K4 := Lib.hid (fun b W (h2 : HoldsG (Value.int .u16) W b 1 (fun _ => 1)) => show Calls Try.prog 15 #[.agg #[.int .i64 5, .int .i64 3], .slice none 0 0, .int .i64 5, .slice b 1 1] W fun e w' => ∃ b n q, e = .returned (.tuple #[.slice b n q, .int .i64 11]) ∧ Ext W w' from
    (wr 5 3 5 none 0 0 (fun _ => 0) b 1 1 (fun _ => 1) W (.inl rfl) (by decide) (by decide) (by decide) h2 (by decide) (by decide) (by decide) (by decide)).mono fun e w' ⟨b, q, he, _, _, hh, hx⟩ => by
      rw [show ((0 : Nat) : Int) = 0 from rfl, show ((1 : Nat) : Int) = 1 from rfl, s13d] at he
      exact ⟨b, _, q, he, hx⟩)
  have hm1 := fun w => hm 18#16 242#16 37#16 w
  rw [s13m.1, s13m.2.1, s13m.2.2.1, s13m.2.2.2] at hm1
  have HM := Lib.hid hm1
  have T0 : WinAt (w.alloc (.cells #[.int .i64 5, .int .i64 3] 23)) w.heap.size 5 3 := ⟨(Ext.refl _).made 0 _ rfl, (Ext.refl _).made 1 _ rfl⟩
  have y0 := Ext.alloc w (.cells #[.int .i64 5, .int .i64 3] 23)
  have g1 := lit3 (mk := Value.int .u16) (w.alloc (.cells #[.int .i64 5, .int .i64 3] 23)) 40 s789
  rw [show (w.alloc (.cells #[.int .i64 5, .int .i64 3] 23)).heap.size = w.heap.size + 1 by simp] at g1
  clear rd wr wr' hm hm1
  go_enter Try.func7, Try.ntmps7
  go_wp2_with fail
  refine (K1.out _ _ g1).mono ?_; rintro e w1 ⟨b1, q1, rfl, h1, x1⟩
  have x1' := Ext.trans (Ext.alloc _ _) x1
  have T1 := T0.ext x1'
  have y1 := y0.trans x1'
  clear T0 y0 x1 x1' g1
  have a0 := T1.c0; have a1 := T1.c1
  go_wp2_with fail
  refine (K2.out _ _ (lit3 (mk := Value.int .u16) w1 40 s789)).mono ?_; rintro e w2 ⟨b2, n2, q2, rfl, x2⟩
  have x2' := Ext.trans (Ext.alloc _ _) x2
  have T2 := T1.ext x2'
  have y2 := y1.trans x2'
  have h2 := h1.ext x2'
  clear T1 y1 x2 x2' h1 a0 a1
  have a0 := T2.c0; have a1 := T2.c1
  have g3 := lit1 (mk := Value.bool) (w2.alloc (.cells #[.bool (sTTT 0), .bool (sTTT 1), .bool (sTTT 2)] 4)) 4 (fun _ => false)
  rw [show (w2.alloc (.cells #[.bool (sTTT 0), .bool (sTTT 1), .bool (sTTT 2)] 4)).heap.size = w2.heap.size + 1 by simp] at g3
  go_wp2_with fail
  refine (K3.out _ _ _ ((lit3 (mk := Value.bool) w2 4 sTTT).ext (Ext.alloc _ _)) g3).mono ?_; rintro e w3 ⟨b3, q3, rfl, h3, x3⟩
  have x3' := Ext.trans ((Ext.alloc _ _).alloc' _) x3
  have T3 := T2.ext x3'
  have y3 := y2.trans x3'
  have h23 := h2.ext x3'
  clear T2 y2 x3 x3' h2 a0 a1 g3
  have a0 := T3.c0; have a1 := T3.c1
  go_wp2_with fail
  refine (K4.out _ _ (lit1 (mk := Value.int .u16) w3 40 (fun _ => 1))).mono ?_; rintro e w4 ⟨b4, n4, q4, rfl, x4⟩
  have x4' := Ext.trans (Ext.alloc _ _) x4
  have y4 := y3.trans x4'
  have h24 := h23.ext x4'
  have h34 := h3.ext x4'
  clear T3 y3 x4 x4' h23 h3 a0 a1
  go_wp2_with fail
  refine (words_eq _ _ 2 2 _ _ s89 s89 _ (h24.ext (Ext.alloc _ _)) (lit2 (mk := Value.int .u16) w4 40 s89) (by decide) ⟨rfl, fun _ _ => rfl⟩).mono ?_; rintro e w5 ⟨rfl, x5⟩
  have x5' := Ext.trans (Ext.alloc _ _) x5
  have y5 := y4.trans x5'
  have h35 := h34.ext x5'
  clear y4 x5 x5' h24 h34
  go_wp2_with fail
  refine (same_eq _ _ 3 3 _ _ sTTF sTTF _ (h35.ext (Ext.alloc _ _)) (lit3 (mk := Value.bool) w5 4 sTTF) (by decide) ⟨rfl, fun _ _ => rfl⟩).mono ?_; rintro e w6 ⟨rfl, x6⟩
  have y6 := y5.trans (Ext.trans (Ext.alloc _ _) x6)
  clear y5 x6 h35
  go_wp2_with fail
  refine (HM.out _).mono ?_; rintro e w7 ⟨rfl, rfl⟩
  go_wp2
  go_ret
  exact ⟨rfl, y6⟩
end Go.Proofs.Ytbabfhbkckokfaa
