/-
  THE LAWS OF LAYER 22: sure (package who's contracts as premises).
-/
import Derived.Test.YtkgakeknnfnjdaaWhoC
import Derived.Test.YtkgakeknnfnjdaaBitsB
import Derived.Test.YtkgakeknnfnjdaaRef01
import Derived.Test.YtkgakeknnfnjdaaLater
namespace Go.Proofs.Ytkgakeknnfnjdaa
open Go.RowKit
set_option linter.unusedVariables false
set_option maxRecDepth 100000

def sF22 : Fil := ⟨3, 2, 0, 0, 0, 0, 0, 0, 0, 0, 2, ofB [true, true], 0, fun _ => false, 0, fun _ => 0, 0, fun _ => 0⟩
theorem s22_1 : repK 2 = 4 ∧ repE 2 = 0 ∧ repL 2 (ofL [7, 8]) true = [3, 7, 8, 255] := ⟨by decide, by decide, by decide⟩
theorem s22_2 : rrN 4 (ofL [3, 7, 8, 255]) = 2 ∧ rrR 4 (ofL [3, 7, 8, 255]) = true ∧ rrE 4 (ofL [3, 7, 8, 255]) = 0 ∧ ∀ i, i < 2 → rrF (ofL [3, 7, 8, 255]) i = ofL [7, 8] i := ⟨by decide, by decide, by decide, below_of 2 (by decide)⟩
theorem s22_3 : rrN 2 (ofL [1, 3]) = 0 ∧ rrR 2 (ofL [1, 3]) = false ∧ rrE 2 (ofL [1, 3]) = 14 := ⟨by decide, by decide, by decide⟩
theorem s22_4 : repK 241 = 0 ∧ repE 241 = 13 := ⟨by decide, by decide⟩
theorem s22_5 : stF sF22 4 = 1 := by decide
theorem bytes_is (a b : Option Addr) (n c d : Nat) (f g : Nat → Int) (w : World) (ha : Holds .u8 w a n f) (hb : Holds .u8 w b n g) (hn : n ≤ 1000000) (e : ∀ i, i < n → f i = g i) :
    Calls Try.prog 12 #[.slice a n c, .slice b n d] w fun e w' => e = .returned (.bool true) ∧ Ext w w' :=
  (bytes_any a b n n c d f g w ha hb hn hn).mono fun _ _ h => ⟨by rw [h.1, eqB_true rfl e], Ext.of_drewN h.2⟩
set_option maxHeartbeats 8000000 in
theorem sure22 (K : WhoC) (w : World) : Calls Try.prog 7 #[] w fun e w' => e = .returned (.bool true) ∧ Ext w w' := by
  obtain ⟨i8, hi8, hz80, hz81, hz82⟩ := info_parts Try.info8i
  have HK := Lib.hid K
  have H1 := Lib.hid s22_1
  have H2 := Lib.hid s22_2
  have H3 := Lib.hid s22_3
  have H4 := Lib.hid s22_4
  have H5 := Lib.hid s22_5
  have A1 := HK.out.report (some ⟨w.heap.size, 0, none⟩) 2 2 (ofL [7, 8]) true (w.alloc (.cells #[.int .u8 7, .int .u8 8] 5)) (Holds.lit w [7, 8] 5 _ rfl 2 rfl) (by omega) (Nat.le_refl _) (by unfold maxLen; omega)
  rw [H1.out.1, H1.out.2.1, H1.out.2.2] at A1
  have HA1 := Lib.hid A1
  clear A1 K
  go_enter Try.func7, Try.ntmps7
  go_wp2_with fail
  refine HA1.out.mono ?_; rintro e w1 ⟨b, q, rfl, h1, l1, m1, x1⟩
  have z1 := (Ext.alloc w _).trans x1
  have A2 := HK.out.read b 4 q (ofL [3, 7, 8, 255]) w1 h1 (by omega) l1 m1 (below_of 4 (by decide))
  rw [H2.out.1, H2.out.2.1, H2.out.2.2.1] at A2
  have HA2 := Lib.hid A2
  have HH1 := Lib.hid h1
  clear A2 h1 l1 m1 x1 HA1
  go_wp2_with fail
  refine HA2.out.mono ?_; rintro e w2 ⟨c, r, rfl, h2, l2, m2, x2⟩
  have HH2 := Lib.hid h2
  have z2 := z1.trans x2
  have A3 := HK.out.read (some ⟨w2.heap.size, 0, none⟩) 2 2 (ofL [1, 3]) (w2.alloc (.cells #[.int .u8 1, .int .u8 3] 5)) (Holds.lit w2 [1, 3] 5 _ rfl 2 rfl) (by omega) (Nat.le_refl _) (by unfold maxLen; omega) (below_of 2 (by decide))
  rw [H3.out.1, H3.out.2.1, H3.out.2.2] at A3
  have HA3 := Lib.hid A3
  clear A3 h2 l2 m2 HA2
  go_wp2_with fail
  refine HA3.out.mono ?_; rintro e w3 ⟨d, s, rfl, -, -, -, x3⟩
  have y3 : Ext w2 w3 := (Ext.alloc w2 _).trans x3
  clear x3 HA3
  go_wp2_with (at_make; refine wpList_make_full _ rfl _ _ 30 rfl w3.heap.size 5 i8 (.int .u8 0) 1 Try.underlying30 hi8 hz80 hz81 .i64 .i64 241 241 241 rfl rfl rfl rfl (by rw [hz82]; first | omega | decide) (by first | decide | (unfold maxLen; omega)) (Nat.le_refl _) ?_; intro w4 hown4 hgrow4)
  have hb4 : Below w3.heap.size w3 w4 := (Below.refl _ _).grown hgrow4 (Nat.le_refl _) (fun k hk => by cases hk)
  have hr4 : Row (.int .u8) 5 w4 w3.heap.size 241 (fun _ => 0) := Row.made hown4
  have A4 := HK.out.report (some ⟨w3.heap.size, 0, none⟩) 241 241 (fun _ => 0) true w4 (.inr ⟨_, 0, rfl, hr4.lt, fun i hi => by rw [Nat.zero_add]; exact hr4.cell i hi⟩) (by omega) (Nat.le_refl _) (by unfold maxLen; omega)
  rw [H4.out.1, H4.out.2] at A4
  have HA4 := Lib.hid A4
  have y4 : Ext w2 w4 := y3.trans hb4
  clear A4 hb4 hr4 hown4 hgrow4 y3
  go_wp2_with fail
  refine HA4.out.mono ?_; rintro e w5 ⟨g, t, rfl, -, -, -, x5⟩
  have y5 : Ext w2 w5 := y4.trans x5
  have A5 := HK.out.status ⟨some ⟨w5.heap.size, 0, none⟩, 2, none, 0, none, 0, none, 0⟩ sF22 4 (w5.alloc (.cells #[.bool true, .bool true] 4)) ⟨HoldsG.litB w5 [true, true] 4 _ rfl 2 rfl, Nat.le_refl _, by show 2 ≤ maxLen; unfold maxLen; omega, .inl rfl, Nat.le_refl _, Nat.zero_le _, .inl rfl, Nat.le_refl _, Nat.zero_le _, .inl rfl, Nat.le_refl _, Nat.zero_le _⟩ (by decide)
  rw [H5.out] at A5
  have HA5 := Lib.hid A5
  clear A5 y4 x5 HA4
  go_wp2_with fail
  refine HA5.out.mono ?_; rintro e w6 ⟨rfl, x6⟩
  have y6 : Ext w2 w6 := y5.trans ((Ext.alloc w5 _).trans x6)
  have B1 := bytes_is b (some ⟨w6.heap.size, 0, none⟩) 4 q 4 (ofL [3, 7, 8, 255]) (ofL [3, 7, 8, 255]) (w6.alloc (.cells #[.int .u8 3, .int .u8 7, .int .u8 8, .int .u8 255] 5)) (HH1.out.ext (x2.trans (y6.trans (Ext.alloc _ _)))) (Holds.lit w6 [3, 7, 8, 255] 5 _ rfl 4 rfl) (by omega) (fun _ _ => rfl)
  have HB1 := Lib.hid B1
  clear B1 y5 x6 HA5
  go_wp2_with fail
  refine HB1.out.mono ?_; rintro e w7 ⟨rfl, x7⟩
  have y7 : Ext w2 w7 := y6.trans ((Ext.alloc w6 _).trans x7)
  have B2 := bytes_is c (some ⟨w7.heap.size, 0, none⟩) 2 r 2 (rrF (ofL [3, 7, 8, 255])) (ofL [7, 8]) (w7.alloc (.cells #[.int .u8 7, .int .u8 8] 5)) (HH2.out.ext (y7.trans (Ext.alloc _ _))) (Holds.lit w7 [7, 8] 5 _ rfl 2 rfl) (by omega) H2.out.2.2.2
  have HB2 := Lib.hid B2
  clear B2 x7 HB1
  go_wp2_with fail
  refine HB2.out.mono ?_; rintro e w8 ⟨rfl, x8⟩
  go_wp2
  go_ret
  exact ⟨rfl, z2.trans (y7.trans ((Ext.alloc w7 _).trans x8))⟩
end Go.Proofs.Ytkgakeknnfnjdaa
