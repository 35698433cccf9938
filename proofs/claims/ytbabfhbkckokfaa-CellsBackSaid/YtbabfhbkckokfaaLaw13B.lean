/-
  THE LAWS OF LAYER 13: the walks of CellsBits and CellsWords (package cells' contracts and 'sure' as premises).
-/
import Derived.Test.YtbabfhbkckokfaaCellsR
import Derived.Test.YtbabfhbkckokfaaMask
import Derived.Test.YtbabfhbkckokfaaBitsX
import Derived.Test.YtbabfhbkckokfaaSame
namespace Go.Proofs.Ytbabfhbkckokfaa
open Go.RowKit
set_option linter.unusedVariables false

/-- What a call that reads tells. -/
def RdPost {α : Type} (mk : α → Value) (f c x k : Int) (n : Nat) (l : Nat → α) (w : World) (e : Ending) (w' : World) : Prop :=
  ∃ b q, e = .returned (.tuple #[.slice b (rdN f c n x k k.toNat) q, .int .i64 (rdE f c n x k)]) ∧ rdN f c n x k k.toNat ≤ q ∧ q ≤ maxLen ∧ HoldsG mk w' b (rdN f c n x k k.toNat) (rdF l f x) ∧ Ext w w'
/-- What a call that writes tells. -/
def WrPost {α : Type} (mk : α → Value) (f c x : Int) (n : Nat) (l : Nat → α) (m : Nat) (v : Nat → α) (w : World) (e : Ending) (w' : World) : Prop :=
  ∃ y q, e = .returned (.tuple #[.slice y (rdN f c n x m n) q, .int .i64 (rdE f c n x m)]) ∧ rdN f c n x m n ≤ q ∧ q ≤ maxLen ∧ HoldsG mk w' y (rdN f c n x m n) (wrF l v f x m) ∧ Ext w w'
/-- The contract of a call that reads. -/
def RdC {α : Type} (mk : α → Value) (F : FuncId) : Prop :=
  ∀ (f c x k : Int) (a : Option Addr) (n d : Nat) (l : Nat → α) (w : World), HoldsG mk w a n l → n ≤ d → d ≤ maxLen → n ≤ 2000 → (Lit.int .i64 x).wf = true → (Lit.int .i64 k).wf = true →
    Calls Try.prog F #[.agg #[.int .i64 f, .int .i64 c], .slice a n d, .int .i64 x, .int .i64 k] w (RdPost mk f c x k n l w)
/-- The contract of a call that writes. -/
def WrC {α : Type} (mk : α → Value) (F : FuncId) : Prop :=
  ∀ (f c x : Int) (a : Option Addr) (n d : Nat) (l : Nat → α) (b : Option Addr) (m e : Nat) (v : Nat → α) (w : World), HoldsG mk w a n l → n ≤ d → d ≤ maxLen → n ≤ 2000 → HoldsG mk w b m v → m ≤ e → e ≤ maxLen → m ≤ 2000 → (Lit.int .i64 x).wf = true →
    Calls Try.prog F #[.agg #[.int .i64 f, .int .i64 c], .slice a n d, .int .i64 x, .slice b m e] w (WrPost mk f c x n l m v w)
theorem rdN_le (f c x k : Int) (n : Nat) (hn : n ≤ 2000) : rdN f c n x k k.toNat ≤ 2000 := by
  unfold rdN; split
  · rename_i h
    unfold rdE at h
    by_cases h1 : rgtB f c = true ∧ (n : Int) = c ∧ 1 ≤ k
    · rw [if_pos h1] at h
      by_cases h2 : holdB f c x k = true
      · have := (holdB_iff f c x k).1 h2; omega
      · rw [if_neg h2] at h; omega
    · rw [if_neg h1] at h; omega
  · omega
theorem rdN_le' (f c x k : Int) (n : Nat) : rdN f c n x k n ≤ n := by unfold rdN; split <;> omega
/-- Six cells in a box. -/
theorem box_cells {w w' : World} {v0 v1 v2 v3 v4 v5 : Value} {t : TypeId} (x : Ext (w.alloc (.cells #[v0, v1, v2, v3, v4, v5] t)) w') :
    w'.cell? ⟨w.heap.size, 0, none⟩ = some v0 ∧ w'.cell? ⟨w.heap.size, 1, none⟩ = some v1 ∧ w'.cell? ⟨w.heap.size, 2, none⟩ = some v2 ∧ w'.cell? ⟨w.heap.size, 3, none⟩ = some v3 ∧ w'.cell? ⟨w.heap.size, 4, none⟩ = some v4 ∧ w'.cell? ⟨w.heap.size, 5, none⟩ = some v5 :=
  ⟨x.made 0 _ rfl, x.made 1 _ rfl, x.made 2 _ rfl, x.made 3 _ rfl, x.made 4 _ rfl, x.made 5 _ rfl⟩
/-- Three cells in a second box. -/
theorem box3_cells {w w' : World} {o : Obj} {v0 v1 v2 : Value} {t : TypeId} (x : Ext ((w.alloc o).alloc (.cells #[v0, v1, v2] t)) w') :
    w'.cell? ⟨w.heap.size + 1, 0, none⟩ = some v0 ∧ w'.cell? ⟨w.heap.size + 1, 1, none⟩ = some v1 ∧ w'.cell? ⟨w.heap.size + 1, 2, none⟩ = some v2 := by
  have s : (w.alloc o).heap.size = w.heap.size + 1 := by simp
  have m0 := x.made 0 _ rfl
  have m1 := x.made 1 _ rfl
  have m2 := x.made 2 _ rfl
  rw [s] at m0 m1 m2
  exact ⟨m0, m1, m2⟩

set_option maxRecDepth 100000 in
set_option maxHeartbeats 3200000 in
theorem cellsBits.walk0 (f c x k : Int) (a : Option Addr) (n ca : Nat) (l : Nat → Bool) (b : Option Addr) (m cb : Nat) (u : Nat → Bool) (w : World)
    (ha : HoldsG Value.bool w a n l) (hna : n ≤ ca) (hca : ca ≤ 140737488351232) (hb : HoldsG Value.bool w b m u) (hmb : m ≤ cb) (hcb : cb ≤ 140737488351232) (wx : (Lit.int .i64 x).wf = true) (wk : (Lit.int .i64 k).wf = true)
    (rd : RdC Value.bool 8) (wr : WrC Value.bool 10) 
    (sure : ∀ w, Calls Try.prog 7 #[] w fun e w' => e = .returned (.bool true) ∧ Ext w w') :
    Calls Try.prog 3 #[.agg #[.int .i64 f, .int .i64 c, .slice a n ca, .slice b m cb, .int .i64 x, .int .i64 k]] w fun e w' => e = .returned (.bool true) ∧ Ext w w' := by
  have e0 := Ext.alloc w (.cells #[.int .i64 f, .int .i64 c, .slice a n ca, .slice b m cb, .int .i64 x, .int .i64 k] 26)

  have HS := Lib.hid sure
  have hn9 : (n : Int) ≤ 140737488351232 := by omega
  have hm9 : (m : Int) ≤ 140737488351232 := by omega
  by_cases hbig : 2000 < n + m
  · have hbi : (2000 : Int) < (n : Int) + (m : Int) := by omega
    clear rd wr ha hb sure hbig
    go_enter Try.func3, Try.ntmps3
    go_wp2_with fail
    refine (HS.out _).mono ?_; rintro e w1 ⟨rfl, x1⟩
    go_wp2
    go_ret
    exact ⟨rfl, e0.trans x1⟩
  · have hbi : ¬ (2000 : Int) < (n : Int) + (m : Int) := by omega
    have hn2 : n ≤ 2000 := by omega
    have hm2 : m ≤ 2000 := by omega
    have hN1 := rdN_le f c x k n hn2
    have hN2 : rdN f c n x m n ≤ 2000 := Nat.le_trans (rdN_le' f c x m n) hn2
    have hcam : ca ≤ maxLen := by unfold maxLen; omega
    have hcbm : cb ≤ maxLen := by unfold maxLen; omega
    have K1 := Lib.hid (fun w' (hx : Ext w w') => rd f c x k a n ca l w' (ha.ext hx) hna hcam hn2 wx wk)
    have K2 := Lib.hid (fun w' (hx : Ext w w') => (r13Bits_any f c x k a n ca l w' (ha.ext hx) (by omega) : Calls Try.prog 9 _ w' (RdPost Value.bool f c x k n l w')))
    have K3 := Lib.hid (fun w' (hx : Ext w w') => wr f c x a n ca l b m cb u w' (ha.ext hx) hna hcam hn2 (hb.ext hx) hmb hcbm hm2 wx)
    have K4 := Lib.hid (fun w' (hx : Ext w w') => (r13SetBits_any f c x a n ca l b m cb u w' (ha.ext hx) (hb.ext hx) (by omega) (by omega) : Calls Try.prog 11 _ w' (WrPost Value.bool f c x n l m u w')))
    unfold RdPost at K1 K2
    unfold WrPost at K3 K4
    generalize rdN f c n x k k.toNat = N1 at K1 K2 hN1
    generalize rdE f c n x k = E1 at K1 K2
    generalize rdN f c n x m n = N2 at K3 K4 hN2
    generalize rdE f c n x m = E2 at K3 K4
    generalize rdF l f x = F1 at K1 K2
    generalize wrF l u f x m = F2 at K3 K4
    have HN := Lib.hid (And.intro hN1 hN2)
    clear rd wr ha hb sure hbig hN1 hN2 hcam hcbm hn2 hm2 wx wk
    have hBox := fun w' (hx : Ext (w.alloc (.cells #[.int .i64 f, .int .i64 c, .slice a n ca, .slice b m cb, .int .i64 x, .int .i64 k] 26)) w') => box_cells hx
    have HBox := Lib.hid hBox
    have He0 := Lib.hid e0
    clear hBox e0
    go_enter Try.func3, Try.ntmps3
    go_wp2_with fail
    refine (K1.out _ He0.out).mono ?_; rintro e w1 ⟨b1, q1, rfl, l1, m1, h1, x1⟩
    have y1 := x1
    obtain ⟨c0, c1, c2, c3, c4, c5⟩ := HBox.out _ y1
    clear x1
    go_wp2_with fail
    refine (K2.out _ (He0.out.trans y1)).mono ?_; rintro e w2 ⟨b2, q2, rfl, l2, m2, h2, x2⟩
    have y2 := y1.trans x2
    have h12 := h1.ext x2
    clear c0 c1 c2 c3 c4 c5 y1 h1 x2
    obtain ⟨c0, c1, c2, c3, c4, c5⟩ := HBox.out _ y2
    go_wp2_with fail
    refine (K3.out _ (He0.out.trans y2)).mono ?_; rintro e w3 ⟨b3, q3, rfl, l3, m3, h3, x3⟩
    have y3 := y2.trans x3
    have h13 := h12.ext x3
    have h23 := h2.ext x3
    clear c0 c1 c2 c3 c4 c5 y2 h12 h2 x3
    obtain ⟨c0, c1, c2, c3, c4, c5⟩ := HBox.out _ y3
    go_wp2_with fail
    refine (K4.out _ (He0.out.trans y3)).mono ?_; rintro e w4 ⟨b4, q4, rfl, l4, m4, h4, x4⟩
    have y4 := y3.trans x4
    have h14 := h13.ext x4
    have h24 := h23.ext x4
    have h34 := h3.ext x4
    clear c0 c1 c2 c3 c4 c5 y3 h13 h23 h3 x4
    go_wp2_with fail
    refine (same_eq b1 b2 N1 N1 q1 q2 F1 F1 _ h14 h24 (by have := HN.out.1; omega) ⟨rfl, fun _ _ => rfl⟩).mono ?_; rintro e w5 ⟨rfl, x5⟩
    have y5 := y4.trans x5
    have h35 := h34.ext x5
    have h45 := h4.ext x5
    clear y4 h14 h24 h34 h4 x5
    go_wp2_with fail
    refine (same_eq b3 b4 N2 N2 q3 q4 F2 F2 _ h35 h45 (by have := HN.out.2; omega) ⟨rfl, fun _ _ => rfl⟩).mono ?_; rintro e w6 ⟨rfl, x6⟩
    have y6 := y5.trans x6
    clear y5 h35 h45 x6

    go_wp2_with fail
    refine (HS.out _).mono ?_; rintro e w7 ⟨rfl, x7⟩
    go_wp2
    go_ret
    exact ⟨rfl, He0.out.trans (y6.trans x7)⟩

set_option maxRecDepth 100000 in
set_option maxHeartbeats 3200000 in
theorem cellsWords.walk0 (f c x k : Int) (a : Option Addr) (n ca : Nat) (l : Nat → Int) (b : Option Addr) (m cb : Nat) (u : Nat → Int) (p q r : BitVec 16) (w : World)
    (ha : HoldsG (Value.int .u16) w a n l) (hna : n ≤ ca) (hca : ca ≤ 140737488351232) (hb : HoldsG (Value.int .u16) w b m u) (hmb : m ≤ cb) (hcb : cb ≤ 140737488351232) (wx : (Lit.int .i64 x).wf = true) (wk : (Lit.int .i64 k).wf = true)
    (rd : RdC (Value.int .u16) 13) (wr : WrC (Value.int .u16) 15) (hm : ∀ (x a o : BitVec 16) (w : World), Calls Try.prog 18 #[.int .u16 (vM x), .int .u16 (vM a), .int .u16 (vM o)] w fun e w' => e = .returned (.int .u16 (vM (mskV x a o))) ∧ w = w')
    (sure : ∀ w, Calls Try.prog 7 #[] w fun e w' => e = .returned (.bool true) ∧ Ext w w') :
    Calls Try.prog 4 #[.agg #[.int .i64 f, .int .i64 c, .slice a n ca, .slice b m cb, .int .i64 x, .int .i64 k], .agg #[.int .u16 (vM p), .int .u16 (vM q), .int .u16 (vM r)]] w fun e w' => e = .returned (.bool true) ∧ Ext w w' := by
  have e0 := Ext.alloc w (.cells #[.int .i64 f, .int .i64 c, .slice a n ca, .slice b m cb, .int .i64 x, .int .i64 k] 39)
  have x0 := Ext.alloc (w.alloc (.cells #[.int .i64 f, .int .i64 c, .slice a n ca, .slice b m cb, .int .i64 x, .int .i64 k] 39)) (.cells #[.int .u16 (vM p), .int .u16 (vM q), .int .u16 (vM r)] 41)
  have hBox3 := fun w' (hx : Ext ((w.alloc (.cells #[.int .i64 f, .int .i64 c, .slice a n ca, .slice b m cb, .int .i64 x, .int .i64 k] 39)).alloc (.cells #[.int .u16 (vM p), .int .u16 (vM q), .int .u16 (vM r)] 41)) w') => box3_cells hx
  have HBox3 := Lib.hid hBox3
  have HM1 := Lib.hid (fun w => hm p q r w)
  have HM2 := Lib.hid (fun w => r13mask_any p q r w)
  have HX0 := Lib.hid x0
  clear hBox3 hm x0
  generalize vM (mskV p q r) = MR at HM1 HM2
  generalize vM p = P at HBox3 HM1 HM2 HX0 ⊢
  generalize vM q = Q at HBox3 HM1 HM2 HX0 ⊢
  generalize vM r = R at HBox3 HM1 HM2 HX0 ⊢
  have HS := Lib.hid sure
  have hn9 : (n : Int) ≤ 140737488351232 := by omega
  have hm9 : (m : Int) ≤ 140737488351232 := by omega
  by_cases hbig : 2000 < n + m
  · have hbi : (2000 : Int) < (n : Int) + (m : Int) := by omega
    clear rd wr ha hb sure hbig
    go_enter Try.func4, Try.ntmps4
    go_wp2_with fail
    refine (HS.out _).mono ?_; rintro e w1 ⟨rfl, x1⟩
    go_wp2
    go_ret
    exact ⟨rfl, (e0.trans HX0.out).trans x1⟩
  · have hbi : ¬ (2000 : Int) < (n : Int) + (m : Int) := by omega
    have hn2 : n ≤ 2000 := by omega
    have hm2 : m ≤ 2000 := by omega
    have hN1 := rdN_le f c x k n hn2
    have hN2 : rdN f c n x m n ≤ 2000 := Nat.le_trans (rdN_le' f c x m n) hn2
    have hcam : ca ≤ maxLen := by unfold maxLen; omega
    have hcbm : cb ≤ maxLen := by unfold maxLen; omega
    have K1 := Lib.hid (fun w' (hx : Ext w w') => rd f c x k a n ca l w' (ha.ext hx) hna hcam hn2 wx wk)
    have K2 := Lib.hid (fun w' (hx : Ext w w') => (r13Words_any f c x k a n ca l w' (ha.ext hx) (by omega) : Calls Try.prog 14 _ w' (RdPost (Value.int .u16) f c x k n l w')))
    have K3 := Lib.hid (fun w' (hx : Ext w w') => wr f c x a n ca l b m cb u w' (ha.ext hx) hna hcam hn2 (hb.ext hx) hmb hcbm hm2 wx)
    have K4 := Lib.hid (fun w' (hx : Ext w w') => (r13SetWords_any f c x a n ca l b m cb u w' (ha.ext hx) (hb.ext hx) (by omega) (by omega) : Calls Try.prog 16 _ w' (WrPost (Value.int .u16) f c x n l m u w')))
    unfold RdPost at K1 K2
    unfold WrPost at K3 K4
    generalize rdN f c n x k k.toNat = N1 at K1 K2 hN1
    generalize rdE f c n x k = E1 at K1 K2
    generalize rdN f c n x m n = N2 at K3 K4 hN2
    generalize rdE f c n x m = E2 at K3 K4
    generalize rdF l f x = F1 at K1 K2
    generalize wrF l u f x m = F2 at K3 K4
    have HN := Lib.hid (And.intro hN1 hN2)
    clear rd wr ha hb sure hbig hN1 hN2 hcam hcbm hn2 hm2 wx wk
    have hBox := fun w' (hx : Ext (w.alloc (.cells #[.int .i64 f, .int .i64 c, .slice a n ca, .slice b m cb, .int .i64 x, .int .i64 k] 39)) w') => box_cells hx
    have HBox := Lib.hid hBox
    have He0 := Lib.hid e0
    clear hBox e0
    go_enter Try.func4, Try.ntmps4
    go_wp2_with fail
    refine (K1.out _ (He0.out.trans HX0.out)).mono ?_; rintro e w1 ⟨b1, q1, rfl, l1, m1, h1, x1⟩
    have y1 := HX0.out.trans x1
    have z1 := x1
    obtain ⟨c0, c1, c2, c3, c4, c5⟩ := HBox.out _ y1
    clear x1
    go_wp2_with fail
    refine (K2.out _ (He0.out.trans y1)).mono ?_; rintro e w2 ⟨b2, q2, rfl, l2, m2, h2, x2⟩
    have y2 := y1.trans x2
    have z2 := z1.trans x2
    have h12 := h1.ext x2
    clear c0 c1 c2 c3 c4 c5 y1 h1 x2
    obtain ⟨c0, c1, c2, c3, c4, c5⟩ := HBox.out _ y2
    go_wp2_with fail
    refine (K3.out _ (He0.out.trans y2)).mono ?_; rintro e w3 ⟨b3, q3, rfl, l3, m3, h3, x3⟩
    have y3 := y2.trans x3
    have z3 := z2.trans x3
    have h13 := h12.ext x3
    have h23 := h2.ext x3
    clear c0 c1 c2 c3 c4 c5 y2 h12 h2 x3
    obtain ⟨c0, c1, c2, c3, c4, c5⟩ := HBox.out _ y3
    go_wp2_with fail
    refine (K4.out _ (He0.out.trans y3)).mono ?_; rintro e w4 ⟨b4, q4, rfl, l4, m4, h4, x4⟩
    have y4 := y3.trans x4
    have z4 := z3.trans x4
    have h14 := h13.ext x4
    have h24 := h23.ext x4
    have h34 := h3.ext x4
    clear c0 c1 c2 c3 c4 c5 y3 h13 h23 h3 x4
    go_wp2_with fail
    obtain ⟨d0, d1, d2⟩ := HBox3.out _ z4
    have D0 := Later.cell d0; have D1 := Later.cell d1; have D2 := Later.cell d2
    have G1 := Lib.hid (fun w' (hx : Ext w4 w') => words_eq b1 b2 N1 N1 q1 q2 F1 F1 w' (h14.ext hx) (h24.ext hx) (by have := HN.out.1; omega) ⟨rfl, fun _ _ => rfl⟩)
    have G2 := Lib.hid (fun w' (hx : Ext w4 w') => words_eq b3 b4 N2 N2 q3 q4 F2 F2 w' (h34.ext hx) (h4.ext hx) (by have := HN.out.2; omega) ⟨rfl, fun _ _ => rfl⟩)
    have Y4 := Lib.hid y4
    clear h14 h24 h34 h4 y4 d0 d1 d2 z1 z2 z3 z4
    refine wp_region_later (by kernel_rfl) (by kernel_rfl) ?_
    repeat (go_big_quiet_step (first
      | (go_at_call_of 17 b1; exact later_of (G1.out _ (Later.ext _)))
      | (go_at_call_of 17 b3; exact later_of (G2.out _ (Later.ext _)))
      | (go_at_call 18; exact later_same (HM1.out _))
      | (go_at_call 19; exact later_same (HM2.out _))
      | (go_at_call 7; exact later_of (HS.out _))))
    refine wpQuiet_nil ?_
    intro _ hw'
    obtain ⟨y, rfl⟩ := hw'
    have ey := y.ext
    generalize y.at = w9 at ey ⊢
    go_wp2
    go_ret
    exact ⟨rfl, He0.out.trans (Y4.out.trans ey)⟩
end Go.Proofs.Ytbabfhbkckokfaa
