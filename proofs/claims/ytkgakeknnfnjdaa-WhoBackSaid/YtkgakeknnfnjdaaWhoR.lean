/-
  CONTRACTS: bilgeref22 (layer 22): Status, Report.
-/
import Derived.Test.YtkgakeknnfnjdaaWho
import Derived.Test.YtkgakeknnfnjdaaFileR
import Derived.Test.YtkgakeknnfnjdaaWinRef
import Derived.Test.YtkgakeknnfnjdaaIdeW
import Derived.Test.YtkgakeknnfnjdaaMidArr
namespace Go.Proofs.Ytkgakeknnfnjdaa
open Go.RowKit
set_option linter.unusedVariables false
set_option maxRecDepth 100000

set_option maxHeartbeats 16000000 in
theorem rstatus22_any (V : FilV) (F : Fil) (x : Int) (w : World) (h : FilAt w V F) : Calls Try.prog 11 #[.agg (filC V F), .int .i64 x] w fun e w' => e = .returned (.int .u8 (stF F x)) ∧ Ext w w' := by
  obtain ⟨W0, hW0, x0, HG⟩ : ∃ W0, W0 = w.alloc (.cells (filC V F) 29) ∧ Ext w W0 ∧ Hid (∀ W, Ext W0 W → W.heap[w.heap.size]? = some (.cells (filC V F) 29 (0, 0))) := ⟨_, rfl, Ext.alloc _ _, Lib.hid (fun W y => y.block (heap_alloc_new _ _))⟩
  have HA := Lib.hid (h.ext x0)
  have HC := Lib.hid (fun W (y : Ext W0 W) => (⟨cell_of_heap (HG.out W y) rfl, cell_of_heap (HG.out W y) rfl, cell_of_heap (HG.out W y) rfl⟩ : W.cell? ⟨w.heap.size, 0, none⟩ = some (.int .i64 F.cf) ∧ W.cell? ⟨w.heap.size, 1, none⟩ = some (.int .i64 F.cc) ∧ W.cell? ⟨w.heap.size, 10, none⟩ = some (.slice V.a1 F.nC V.d1)))
  have HX := Lib.hid x0
  have HS : Hid (stF F x = if stG F x = true then (bt (cB F x) 8 : Int) else 0) := Lib.hid rfl
  have HSG : Hid (stG F x = (decide (x ≤ 65535) && (decide (-8 ≤ x) && rightB F))) := Lib.hid rfl
  have HRt := Lib.hid (fun W => rright14_any V F W)
  clear h x0
  go_enter Try.func11, Try.ntmps11
  go_upto_region 1 with fail
  rw [← hW0]
  clear hW0
  go_wp2_with fail
  go_loopw [5, 6] (fun ov iv wr => ∃ k : Nat, k ≤ 8 ∧ iv = .int .i64 k ∧ ov = .int .u8 (bt (cB F x) k : Int) ∧ Ext W0 wr ∧ (0 < k → stG F x = true)) (fun _ iv _ => 8 - (intOf iv).toNat)
  case atStart => exact ⟨0, by omega, rfl, rfl, Ext.refl _, fun h => absurd h (by omega)⟩
  case round =>
    obtain ⟨k, hk, rfl, rfl, xr, hg⟩ := hrel
    by_cases hk8 : k < 8
    · have hk8' : (k : Int) < 8 := by omega
      have HXr := Lib.hid xr
      have gR := HG.out wr xr
      cases hs : stG F x with
      | false =>
        have HE : Hid (stF F x = 0) := Lib.hid (by rw [HS.out, hs]; rfl)
        have hways : 65535 < x ∨ (¬ 65535 < x ∧ x < -8) ∨ (¬ 65535 < x ∧ ¬ x < -8 ∧ rightB F = false) := by
          rw [HSG.out] at hs
          by_cases h1 : 65535 < x
          · exact .inl h1
          · by_cases h2 : x < -8
            · exact .inr (.inl ⟨h1, h2⟩)
            · refine .inr (.inr ⟨h1, h2, ?_⟩)
              rw [decide_eq_true (by omega), decide_eq_true (by omega)] at hs
              simpa using hs
        generalize bt (cB F x) k = B
        clear hs hg xr
        rcases hways with h1 | ⟨h1, h2⟩ | ⟨h1, h2, h3⟩
        · go_wp2
          go_ret
          exact ⟨by rw [HE.out]; rfl, HX.out.trans HXr.out⟩
        · go_wp2
          go_ret
          exact ⟨by rw [HE.out]; rfl, HX.out.trans HXr.out⟩
        · have KR := Lib.hid (HRt.out wr)
          rw [h3] at KR
          clear h3
          go_wp2_with (refine wpList_load_row_g (by rfl) 29 (.tmp 2) rfl w.heap.size rfl 29 (filC V F) (0, 0) _ gR Try.underlying29 rfl (by kernel_rfl) ?_)
          refine KR.out.mono ?_; rintro e w5 ⟨rfl, x5⟩
          go_wp2
          go_ret
          exact ⟨by rw [HE.out]; rfl, HX.out.trans (HXr.out.trans x5)⟩
      | true =>
        have hs' := hs
        rw [HSG.out] at hs'
        simp only [Bool.and_eq_true, decide_eq_true_eq] at hs'
        obtain ⟨h1, h2, h3⟩ := hs'
        have h1' : ¬ 65535 < x := by omega
        have h2' : ¬ x < -8 := by omega
        have KR := Lib.hid (HRt.out wr)
        rw [h3] at KR
        have hcc : (F.nC : Int) = F.cc := by
          unfold rightB at h3
          simp only [Bool.and_eq_true, decide_eq_true_eq] at h3
          exact h3.1.1.1.2
        have KH := Lib.hid (fun W => rwhas_any F.cf F.cc (x + k) W)
        have hiff := hasB_iff F.cf F.cc (x + k)
        have hcb : cB F x k = (hasB F.cf F.cc (x + k) && F.C (x + k - F.cf).toNat) := rfl
        have HST := Lib.hid hs
        have hbt := bt_lt (cB F x) k
        have hbs : bt (cB F x) (k + 1) = bt (cB F x) k + (if cB F x k = true then 2 ^ k else 0) := rfl
        have e1 : IntKind.i64.wrap (x + k) = x + k := IntWalk.i64_in _ (by omega)
        obtain ⟨Bq, hBq⟩ : ∃ Bq, bt (cB F x) k = Bq := ⟨_, rfl⟩
        obtain ⟨Hq, hHq⟩ : ∃ Hq, hasB F.cf F.cc (x + k) = Hq := ⟨_, rfl⟩
        rw [hBq] at hbt hbs ⊢
        rw [hHq] at hiff KH hcb
        have HBS := Lib.hid (And.intro hbt hbs)
        have HIF := Lib.hid (And.intro hiff (And.intro hcb hcc))
        clear hs hg xr h1 h2 h3 hbt hbs hBq hiff hcb hcc hHq
        go_wp2_with (refine wpList_load_row_g (by rfl) 29 (.tmp 2) rfl w.heap.size rfl 29 (filC V F) (0, 0) _ gR Try.underlying29 rfl (by kernel_rfl) ?_)
        clear gR
        refine KR.out.mono ?_; rintro e w5 ⟨rfl, x5⟩
        obtain ⟨c0, c1, -⟩ := HC.out w5 (HXr.out.trans x5)
        go_wp2_with fail
        refine (KH.out w5).mono ?_; rintro e w6 ⟨rfl, x6⟩
        have x06 := HXr.out.trans (x5.trans x6)
        clear c0 c1 x5 x6
        cases Hq with
        | false =>
          have HN : Hid (bt (cB F x) (k + 1) = Bq) := Lib.hid (by rw [HBS.out.2, HIF.out.2.1]; simp)
          go_wp2
          go_roundw
          case rel => exact ⟨k + 1, by omega, by go_num, by rw [HN.out], x06, fun _ => by first | trivial | exact HST.out⟩
          case measure => simp [intOf]; omega
        | true =>
          obtain ⟨q0, q1, q2, q3, q4, q5, q6⟩ := HIF.out.1.1 rfl
          obtain ⟨j, hj⟩ : ∃ j : Nat, x + k - F.cf = j := ⟨(x + k - F.cf).toNat, by omega⟩
          have hjn : j < F.nC := by have := HIF.out.2.2; omega
          have hCj : cB F x k = F.C j := by rw [HIF.out.2.1, Bool.true_and, hj, Int.toNat_natCast]
          obtain ⟨c0, -, c10⟩ := HC.out w6 x06
          obtain ⟨b, off, ha1, hb, hc⟩ := HA.out.h1.resolve_left (by omega)
          rw [ha1] at c10
          have cj := x06.cell hb (hc j hjn)
          obtain ⟨Cq, hCq⟩ : ∃ Cq, F.C j = Cq := ⟨_, rfl⟩
          rw [hCq] at cj hCj
          have e2 : IntKind.i64.wrap (x + k - F.cf) = j := by rw [hj]; exact IntWalk.i64_in _ (by omega)
          have j0 : (0 : Int) ≤ j := by omega
          have j1 : (j : Int) < F.nC := by omega
          have HCC := Lib.hid hCj
          clear q0 q1 q2 q3 q4 q5 q6 hjn ha1 hc hb hCq hCj
          have HJ := Lib.hid hj
          clear hj
          cases Cq with
          | false =>
            have HN : Hid (bt (cB F x) (k + 1) = Bq) := Lib.hid (by rw [HBS.out.2, HCC.out]; simp)
            go_wp2
            go_roundw
            case rel => exact ⟨k + 1, by omega, by go_num, by rw [HN.out], x06, fun _ => by first | trivial | exact HST.out⟩
            case measure => simp [intOf]; omega
          | true =>
            have HN : Hid (bt (cB F x) (k + 1) = Bq + 2 ^ k) := Lib.hid (by rw [HBS.out.2, HCC.out]; simp)
            have HB2 := Lib.hid HBS.out.1
            clear HRt KR KH HIF HBS HCC
            have e3 : ((Bq : Int) + 2 ^ k % 256) % 256 = ((Bq + 2 ^ k : Nat) : Int) := by
              have hlt := HB2.out
              rcases (show k = 0 ∨ k = 1 ∨ k = 2 ∨ k = 3 ∨ k = 4 ∨ k = 5 ∨ k = 6 ∨ k = 7 by omega) with rfl | rfl | rfl | rfl | rfl | rfl | rfl | rfl
              all_goals
                simp only [show (2 : Nat) ^ 0 = 1 from rfl, show (2 : Nat) ^ 1 = 2 from rfl, show (2 : Nat) ^ 2 = 4 from rfl, show (2 : Nat) ^ 3 = 8 from rfl, show (2 : Nat) ^ 4 = 16 from rfl, show (2 : Nat) ^ 5 = 32 from rfl, show (2 : Nat) ^ 6 = 64 from rfl, show (2 : Nat) ^ 7 = 128 from rfl, show (2 : Int) ^ 0 = 1 from rfl, show (2 : Int) ^ 1 = 2 from rfl, show (2 : Int) ^ 2 = 4 from rfl, show (2 : Int) ^ 3 = 8 from rfl, show (2 : Int) ^ 4 = 16 from rfl, show (2 : Int) ^ 5 = 32 from rfl, show (2 : Int) ^ 6 = 64 from rfl, show (2 : Int) ^ 7 = 128 from rfl] at hlt ⊢
                omega
            have HE3 := Lib.hid e3
            clear e3
            go_wp2
            go_roundw
            case rel => exact ⟨k + 1, by omega, by go_num, by rw [HN.out, HE3.out], x06, fun _ => by first | trivial | exact HST.out⟩
            case measure => simp [intOf]; omega
    · have hk : k = 8 := by omega
      subst hk
      have HE : Hid (stF F x = (bt (cB F x) 8 : Int)) := Lib.hid (by rw [HS.out, hg (by omega)]; rfl)
      go_wp2
      go_ret
      exact ⟨by rw [HE.out]; rfl, HX.out.trans xr⟩
set_option maxHeartbeats 4000000 in
theorem rreport22_any (a : Option Addr) (n c : Nat) (f : Nat → Int) (r : Bool) (w : World) (ha : Holds .u8 w a n f) (hn : n ≤ 1000) :
    Calls Try.prog 9 #[.slice a n c, .bool r] w fun e w' => ∃ b q, e = .returned (.tuple #[.slice b (repK n) q, .bool (decide (n ≤ 240))]) ∧ Holds .u8 w' b (repK n) (ofL (repL n f r)) ∧ repK n ≤ q ∧ q ≤ maxLen ∧ Ext w w' := by
  obtain ⟨i8, hi8, hz80, hz81, hz82⟩ := info_parts Try.info8i
  by_cases h : n ≤ 240
  · have hk : repK n = n + 2 := if_pos h
    rw [hk, decide_eq_true h]
    have h' : ¬ (240 : Int) < n := by omega
    have u1 : IntKind.u8.wrap ((n : Int) + 1) = n + 1 := by rw [IntKind.wrap_u8]; omega
    have u2 : IntKind.i64.wrap ((n : Int) + 1) = n + 1 := IntWalk.i64_in _ (by omega)
    obtain ⟨B, hB⟩ : ∃ B, B = w.heap.size := ⟨_, rfl⟩
    have HB := Lib.hid hB
    obtain ⟨W1, hW1, x1, hown1⟩ : ∃ W1, W1 = w.alloc (.cells #[.int .u8 ((n : Int) + 1)] 5) ∧ Ext w W1 ∧ W1.ownsRow B 5 1 (.slice (some ⟨w.heap.size, 0, none⟩) 1 1) 1 [.int .u8 ((n : Int) + 1)] := ⟨_, rfl, Ext.alloc _ _, own_lit1 w _ B (by rw [hB]; exact Nat.le_refl _)⟩
    have HA := Lib.hid (ha.ext x1)
    have HX := Lib.hid x1
    have HL : Hid (∀ V : Int, (if r = true then (255 : Int) else 0) = V → lst .u8 (ofL (repL n f r)) (n + 2) = ([.int .u8 ((n : Int) + 1)] ++ lstG (Value.int .u8) f n) ++ lstG (Value.int .u8) (ofL [V]) 1) := Lib.hid (fun V hV => by
      have e := lst_ofL (k := .u8) (repL n f r)
      rw [repL_len] at e
      rw [e]
      unfold repL
      rw [hV]
      simp [lstG, ofL])
    clear ha hB h hk
    cases r
    · go_enter Try.func9, Try.ntmps9
      go_upto_region 3 with fail
      go_upto_region 4 with (first
        | (at_builtin; refine wpList_append_holds rfl _ _ 30 rfl B 5 i8 (.int .u8 0) 1 Try.underlying30 hi8 hz80 hz81 hz82 rfl _ 1 _ (by rfl) (by rw [← hW1]; exact hown1) a n c f (by rfl) (by rw [← hW1]; exact HA.out) (fun _ => rfl) (by unfold maxLen; omega) (by omega) (by rw [HB.out, ← hW1]; exact HX.out.size) ?_; intro v2 w2 hown2 _ hb2))
      have x2 : Ext w w2 := Below.trans HX.out (by rw [← HB.out, hW1]; exact hb2)
      have hown3 := own_ext hown2 (Ext.alloc w2 (.cells #[.int .u8 0] 5))
      have HX2 := Lib.hid (x2.trans (Ext.alloc w2 (.cells #[.int .u8 0] 5)))
      clear hW1 hown1 hown2 hb2 x1 x2
      go_upto_region 5 with (first
        | (at_builtin; refine wpList_append_holds rfl _ _ 30 rfl B 5 i8 (.int .u8 0) 1 Try.underlying30 hi8 hz80 hz81 hz82 rfl _ (1 + n) _ (by rfl) hown3 (some ⟨w2.heap.size, 0, none⟩) 1 1 (ofL [0]) (by rfl) (Holds.lit w2 [0] 5 _ rfl 1 rfl) (fun _ => rfl) (by unfold maxLen; omega) (by omega) (by rw [HB.out]; exact HX2.out.size) ?_; intro v3 w3 hown4 _ hb3))
      have hown5 : w3.ownsRow B 5 1 v3 (n + 2) (lst .u8 (ofL (repL n f false)) (n + 2)) := by
        rw [HL.out 0 rfl, show n + 2 = 1 + n + 1 by omega]; exact hown4
      have x3 : Ext w w3 := Below.trans HX2.out (by rw [← HB.out]; exact hb3)
      obtain ⟨b, q, rfl, q1, q2, q3, q4⟩ := Holds.of_own_at hown5
      go_ret2
      exact ⟨b, q, rfl, q3, q1, q2, x3⟩
    · go_enter Try.func9, Try.ntmps9
      go_upto_region 3 with fail
      go_upto_region 4 with (first
        | (at_builtin; refine wpList_append_holds rfl _ _ 30 rfl B 5 i8 (.int .u8 0) 1 Try.underlying30 hi8 hz80 hz81 hz82 rfl _ 1 _ (by rfl) (by rw [← hW1]; exact hown1) a n c f (by rfl) (by rw [← hW1]; exact HA.out) (fun _ => rfl) (by unfold maxLen; omega) (by omega) (by rw [HB.out, ← hW1]; exact HX.out.size) ?_; intro v2 w2 hown2 _ hb2))
      have x2 : Ext w w2 := Below.trans HX.out (by rw [← HB.out, hW1]; exact hb2)
      have hown3 := own_ext hown2 (Ext.alloc w2 (.cells #[.int .u8 255] 5))
      have HX2 := Lib.hid (x2.trans (Ext.alloc w2 (.cells #[.int .u8 255] 5)))
      clear hW1 hown1 hown2 hb2 x1 x2
      go_upto_region 6 with (first
        | (at_builtin; refine wpList_append_holds rfl _ _ 30 rfl B 5 i8 (.int .u8 0) 1 Try.underlying30 hi8 hz80 hz81 hz82 rfl _ (1 + n) _ (by rfl) hown3 (some ⟨w2.heap.size, 0, none⟩) 1 1 (ofL [255]) (by rfl) (Holds.lit w2 [255] 5 _ rfl 1 rfl) (fun _ => rfl) (by unfold maxLen; omega) (by omega) (by rw [HB.out]; exact HX2.out.size) ?_; intro v3 w3 hown4 _ hb3))
      have hown5 : w3.ownsRow B 5 1 v3 (n + 2) (lst .u8 (ofL (repL n f true)) (n + 2)) := by
        rw [HL.out 255 rfl, show n + 2 = 1 + n + 1 by omega]; exact hown4
      have x3 : Ext w w3 := Below.trans HX2.out (by rw [← HB.out]; exact hb3)
      obtain ⟨b, q, rfl, q1, q2, q3, q4⟩ := Holds.of_own_at hown5
      go_ret2
      exact ⟨b, q, rfl, q3, q1, q2, x3⟩
  · have hk : repK n = 0 := if_neg h
    rw [hk, decide_eq_false h]
    have h' : (240 : Int) < n := by omega
    clear ha hn h hk
    go_enter Try.func9, Try.ntmps9
    go_wp2
    go_ret2
    exact ⟨none, 0, rfl, .inl rfl, Nat.le_refl _, Nat.zero_le _, Ext.refl _⟩
end Go.Proofs.Ytkgakeknnfnjdaa
