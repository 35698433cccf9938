/-
  THE LAWS OF LAYER 8: the walk of TallySums.
-/
import Derived.Test.YtneekigkihbpiaaLaw08A
import Derived.Test.YtneekigkihbpiaaThree
import Derived.Deep.LoopGhost
namespace Go.Proofs.Ytneekigkihbpiaa
open Go.RowKit

theorem wf64b {n : Int} (h : -9223372036854775808 ≤ n) (k : n ≤ 9223372036854775807) : (Lit.int .i64 n).wf = true := by
  simp [Lit.wf, IntKind.min, IntKind.max, IntKind.signed, IntKind.bits]; omega
set_option maxRecDepth 100000 in
set_option maxHeartbeats 8000000 in
theorem tallySums.small (a : Option Addr) (n c : Nat) (O : List (Int × Int × Int)) (which : Int) (w : World) (ha : HoldsL 3 three w a O) (hO : O.length = n) (hn : n ≤ 300) (hw : Wf3 O) (h0 : 0 ≤ which) (h1 : which < 256) :
    Calls Try.prog 4 #[.slice a n c, .int .u8 which] w fun e w' => e = .returned (.bool true) ∧ Ext w w' := by
  have HO := Lib.hid hO
  have HW := Lib.hid hw
  have HA := Lib.hid ha
  obtain ⟨k, hk⟩ : ∃ k : Nat, which % 8 = k := ⟨(which % 8).toNat, by omega⟩
  have hk8 : k < 8 := by omega
  have et : which.tmod 8 = k := by rw [Int.tmod_eq_emod_of_nonneg h0, hk]
  clear hO hw ha hk
  have HK8 := Lib.hid hk8
  go_enter Try.func4, Try.ntmps4
  go_wp2_with fail
  refine (tnew_any _).mono ?_; rintro e w1 ⟨p, F, rfl, x1, T1, n1⟩
  go_wp2
  go_loopg [7, 8] n (fun h sv iv wr => ∃ (i : Nat) (F : Nat → Prop) (f : Nat → Int) (sum : Int), i + h = n ∧ iv = .int .i64 i ∧ sv = .int .i64 sum ∧ TY wr p F f ∧ f k = sum % 65536 ∧ 0 ≤ sum ∧ sum ≤ i * 65536 ∧ Ext w wr ∧ Above w F)
  case atStart => exact ⟨0, F, _, 0, by omega, rfl, rfl, T1, rfl, by omega, by omega, x1, n1⟩
  case round =>
    clear T1 n1 x1 et h0 h1
    obtain ⟨i, F, f, sum, hi, rfl, rfl, T, hfk, hs0, hs1, xr, nF⟩ := hrel
    have hi300 : (i : Int) ≤ 300 := by omega
    have hs2 : sum ≤ 30000000 := by omega
    have HS1 := Lib.hid hs1
    have HFK := Lib.hid hfk
    clear hs1 hfk
    cases gk with
    | zero =>
      have hi1 : ¬ ((i : Int) < n) := by omega
      have hG := tget_ok p F f k wr T HK8.out
      have hsm := T.small k HK8.out
      rw [HFK.out] at hG hsm
      have em : sum.tmod 65536 = sum % 65536 := Int.tmod_eq_emod_of_nonneg hs0
      obtain ⟨v, hv⟩ : ∃ v, v = sum % 65536 := ⟨_, rfl⟩
      rw [← hv] at hG hsm em
      obtain ⟨v0, v1⟩ := hsm
      clear hv T
      go_wp2_with fail
      refine hG.mono ?_; rintro e w2 ⟨rfl, x2⟩
      have xr2 := xr.trans x2
      clear hG xr x2
      go_wp2_with fail
      refine (sure8_any _).mono ?_; rintro e w3 ⟨rfl, x3⟩
      have xr3 := xr2.trans x3
      clear xr2 x3
      go_wp2
      go_ret
      exact ⟨rfl, xr3⟩
    | succ h =>
      have hiO : i < O.length := by rw [HO.out]; omega
      obtain ⟨b, off, rfl, hb, -⟩ := HA.out.resolve_left (by intro e; rw [e] at hiO; simp at hiO)
      obtain ⟨c0, c1, c2⟩ := HA.out.three_at i hiO
      obtain ⟨-, hq, ht⟩ := HW.out O[i] (List.getElem_mem _)
      have hi1 : (i : Int) < n := by omega
      have d0 := xr.cell hb c0
      have d1 := xr.cell hb c1
      have d2 := xr.cell hb c2
      generalize (O[i]).1 = kd at d0 c0
      generalize (O[i]).2.1 = q at hq d1 c1
      generalize (O[i]).2.2 = t at ht d2 c2
      clear c0 c1 c2 hiO
      have x0 : Ext wr (wr.alloc (.cells #[.int .i64 kd, .int .i64 q, .int .i64 t] 29)) := Ext.alloc _ _
      have T0 := T.ext x0
      have hBF : ¬ F wr.heap.size := fun h => absurd (T.lt _ h) (by omega)
      have b1 : (wr.alloc (.cells #[.int .i64 kd, .int .i64 q, .int .i64 t] 29)).cell? ⟨wr.heap.size, 1, none⟩ = some (.int .i64 q) := (Ext.refl _).made 1 _ rfl
      have b2 : (wr.alloc (.cells #[.int .i64 kd, .int .i64 q, .int .i64 t] 29)).cell? ⟨wr.heap.size, 2, none⟩ = some (.int .i64 t) := (Ext.refl _).made 2 _ rfl
      have xr0 := xr.trans x0
      clear T x0 xr
      by_cases hkd : kd = 0
      · subst hkd
        by_cases hin : 0 ≤ q ∧ q ≤ 7 ∧ 0 ≤ t ∧ t ≤ 65536
        · obtain ⟨j, rfl⟩ : ∃ j : Nat, q = j := ⟨q.toNat, by omega⟩
          have hj8 : j < 8 := by omega
          have t0 : 0 ≤ t := by omega
          have t1 : t ≤ 65536 := by omega
          have hAdd := tadd_ok p F f j t _ T0 hj8 t0 t1
          clear hin T0 hj8 hq ht
          go_wp2_with fail
          refine hAdd.mono ?_; rintro e w2 ⟨G, rfl, k2, T2, g2⟩
          have e1 := k2.cell hBF b1
          have e2 := k2.cell hBF b2
          have xr2 := xr0.keep k2 nF
          have nG := nF.grows g2 xr0
          clear hAdd b1 b2 k2 g2 xr0 nF d0 d1 d2
          obtain ⟨B, hB⟩ : ∃ B, B = wr.heap.size := ⟨_, rfl⟩
          rw [← hB] at e1 e2 ⊢
          clear hB hBF
          by_cases hjk : j = k
          · subst hjk
            go_wp2
            go_roundg h
            case rel => exact ⟨i + 1, G, _, sum + t, by omega, by go_num, rfl, T2, by rw [upd_same, HFK.out]; omega, by omega, by have := HS1.out; omega, xr2, nG⟩
            case measure => omega
          · have hne : ((j : Int) == (k : Int)) = false := by simp; omega
            have HNE := Lib.hid (show k ≠ j by omega)
            clear hjk
            go_wp2
            go_roundg h
            case rel => exact ⟨i + 1, G, _, sum, by omega, by go_num, rfl, T2, by rw [upd_other _ _ _ _ HNE.out]; exact HFK.out, hs0, by have := HS1.out; omega, xr2, nG⟩
            case measure => omega
        · have hAdd := tadd_no p F f q t _ T0 hq ht hin
          clear hin
          go_wp2_with fail
          refine hAdd.mono ?_; rintro e w2 ⟨rfl, x2⟩
          have T2 := T0.ext x2
          have xr2 := xr0.trans x2
          clear hAdd b1 b2 x2 xr0 d0 d1 d2 T0 hBF
          go_wp2
          go_roundg h
          case rel => exact ⟨i + 1, F, f, sum, by omega, by go_num, rfl, T2, HFK.out, hs0, by have := HS1.out; omega, xr2, nF⟩
          case measure => omega
      · have hkd2 : (kd == 0) = false := by simpa using hkd
        by_cases hin : 0 ≤ q ∧ q ≤ 7
        · obtain ⟨j, rfl⟩ : ∃ j : Nat, q = j := ⟨q.toNat, by omega⟩
          have hj8 : j < 8 := by omega
          have hAdd := tdrop_ok p F f j _ T0 hj8
          clear hin T0 hj8 hq ht
          go_wp2_with fail
          refine hAdd.mono ?_; rintro e w2 ⟨G, rfl, k2, T2, g2⟩
          have e1 := k2.cell hBF b1
          have xr2 := xr0.keep k2 nF
          have nG := nF.grows g2 xr0
          clear hAdd b1 b2 k2 g2 xr0 nF d0 d1 d2
          obtain ⟨B, hB⟩ : ∃ B, B = wr.heap.size := ⟨_, rfl⟩
          rw [← hB] at e1 ⊢
          clear hB hBF
          by_cases hjk : j = k
          · subst hjk
            go_wp2
            go_roundg h
            case rel => exact ⟨i + 1, G, _, 0, by omega, by go_num, rfl, T2, by rw [upd_same]; rfl, by omega, by omega, xr2, nG⟩
            case measure => omega
          · have hne : ((j : Int) == (k : Int)) = false := by simp; omega
            have HNE := Lib.hid (show k ≠ j by omega)
            clear hjk
            go_wp2
            go_roundg h
            case rel => exact ⟨i + 1, G, _, sum, by omega, by go_num, rfl, T2, by rw [upd_other _ _ _ _ HNE.out]; exact HFK.out, hs0, by have := HS1.out; omega, xr2, nG⟩
            case measure => omega
        · have hAdd := tdrop_no p F f q _ T0 hq hin
          clear hin
          go_wp2_with fail
          refine hAdd.mono ?_; rintro e w2 ⟨rfl, x2⟩
          have T2 := T0.ext x2
          have xr2 := xr0.trans x2
          clear hAdd b1 b2 x2 xr0 d0 d1 d2 T0 hBF
          go_wp2
          go_roundg h
          case rel => exact ⟨i + 1, F, f, sum, by omega, by go_num, rfl, T2, HFK.out, hs0, by have := HS1.out; omega, xr2, nF⟩
          case measure => omega
end Go.Proofs.Ytneekigkihbpiaa
