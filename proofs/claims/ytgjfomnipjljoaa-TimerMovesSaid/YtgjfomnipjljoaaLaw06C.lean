/-
  THE LAWS OF LAYER 6: the walk of TimerDoes.
-/
import Derived.Test.YtgjfomnipjljoaaLaw06B
import Derived.Test.YtgjfomnipjljoaaThree
namespace Go.Proofs.Ytgjfomnipjljoaa
open Go.RowKit

set_option maxRecDepth 100000 in
set_option maxHeartbeats 4000000 in
theorem timerDoes.any (a : Option Addr) (n c : Nat) (O : List (Int × Int × Int)) (w : World) (ha : HoldsL 3 three w a O) (hO : O.length = n) (hn : n ≤ maxLen) (hw : Wf3 O) :
    Calls Try.prog 3 #[.slice a n c] w fun e w' => e = .returned (.bool true) ∧ Ext w w' := by
  have hn' : n ≤ 9223372036854775807 := hn
  by_cases h300 : (300 : Int) < n
  · clear ha hO hw
    go_enter Try.func3, Try.ntmps3
    go_wp2_with fail
    refine (sure6_any _).mono ?_; rintro e w1 ⟨rfl, x1⟩
    go_wp2
    go_ret
    exact ⟨rfl, x1⟩
  · have HO := Lib.hid hO
    have HW := Lib.hid hw
    have HA := Lib.hid ha
    clear hO hw ha
    go_enter Try.func3, Try.ntmps3
    go_wp2_with fail
    refine (knew_any _).mono ?_; rintro e w1 ⟨p, F, rfl, x1, T1, n1⟩
    go_wp2
    go_loopw [3, 4, 5] (fun qv lv iv wr => ∃ (i p : Nat) (F : Nat → Prop) (L : List (Int × Int)) (x : Option Addr) (y : Nat), i ≤ n ∧ iv = .int .i64 i ∧ qv = .pointer (some ⟨p, 0, none⟩) ∧ lv = .slice x L.length y ∧ L.length ≤ y ∧ y ≤ maxLen ∧ TQ wr p F L ∧ HoldsL 2 two wr x L ∧ OffN F x L.length ∧ Ext w wr ∧ Above w F) (fun _ _ iv _ => n - (intOf iv).toNat)
    case atStart => exact ⟨0, p, F, [], none, 0, Nat.zero_le _, rfl, rfl, rfl, Nat.zero_le _, Nat.zero_le _, T1, .inl rfl, OffN.none _ _, x1, n1⟩
    case round =>
      clear T1 n1 x1
      obtain ⟨i, p, F, L, x, y, hi, rfl, rfl, rfl, hLy, hy, T, hx, ho, xr, nF⟩ := hrel
      by_cases hlt : i < n
      · have hiO : i < O.length := by rw [HO.out]; exact hlt
        obtain ⟨b, off, rfl, hb, _⟩ := HA.out.resolve_left (by intro e; rw [e] at hiO; simp at hiO)
        obtain ⟨c0, c1, c2⟩ := HA.out.three_at i hiO
        obtain ⟨-, hq, ht⟩ := HW.out O[i] (List.getElem_mem _)
        obtain ⟨o, hoo⟩ : ∃ o, o = O[i] := ⟨_, rfl⟩
        rw [← hoo] at c0 c1 c2 hq ht
        obtain ⟨k, q, t⟩ := o
        simp only at c0 c1 c2 hq ht
        have HC1 := Lib.hid (fun w' (x : Ext w w') => x.cell hb c1)
        have d0 := xr.cell hb c0
        have d1 := xr.cell hb c1
        have d2 := xr.cell hb c2
        have hi1 : (i : Int) < n := by omega
        have hni : n ≤ 300 := by omega
        clear hoo c0 c1 c2 hiO
        go_wp2_with fail
        refine (op_any p F L x y q t _ T hx hLy hy ho hq ht k).mono ?_; rintro e w2 ⟨r, G, x2, y2, M, rfl, l2, m2, T2, h2, o2, k2, g2⟩
        have xr2 := xr.keep k2 nF
        have nG := nF.grows g2 xr
        clear d0 d1 d2 T hx hLy hy ho xr nF k2 g2 ht
        go_wp2_with fail
        refine (klen_any r G M _ T2).mono ?_; rintro e w3 ⟨rfl, x3⟩
        have T3 := T2.keep (.of_ext x3) (G := fun _ => False) (fun _ _ h => h)
        have h3 := h2.ext x3
        have xr3 := xr2.trans x3
        clear T2 h2 xr2 x3
        go_wp2_with fail
        refine (kfirst_any r G M _ T3).mono ?_; rintro e w4 ⟨rfl, x4⟩
        have T4 := T3.keep (.of_ext x4) (G := fun _ => False) (fun _ _ h => h)
        have h4 := h3.ext x4
        have xr4 := xr3.trans x4
        have e1 := HC1.out _ xr4
        have few := T4.sorted.few
        clear T3 h3 xr3 x4
        rcases M with _ | ⟨⟨j0, t0⟩, M⟩
        · have HP : Hid (placeI [] q = -1) := Lib.hid rfl
          have HQ : Hid (whenI [] q = (0, false)) := Lib.hid rfl
          dsimp only [firstI]
          go_wp2_with fail
          refine (rfind_any x2 _ y2 _ q _ h4 rfl (by omega)).mono ?_; rintro e w' ⟨rfl, rfl⟩
          rw [HP.out]
          go_wp2_with fail
          refine (kwhen_any r G _ q _ T4 hq).mono ?_; rintro e w5 ⟨rfl, x5⟩
          rw [HQ.out]
          have T5 := T4.keep (.of_ext x5) (G := fun _ => False) (fun _ _ h => h)
          have h5 := h4.ext x5
          have xr5 := xr4.trans x5
          clear T4 h4 xr4 x5 e1
          go_wp2
          go_roundw
          case rel => exact ⟨i + 1, r, G, [], x2, y2, by omega, by go_num, rfl, rfl, l2, m2, T5, h5, o2, xr5, nG⟩
          case measure => simp [intOf]; omega
        · skip
          have hl1 : (0 : Int) < ((j0, t0) :: M).length := by simp
          obtain ⟨b2, off2, rfl, hb2, _⟩ := h4.resolve_left (by intro e; cases e)
          obtain ⟨g0, g1⟩ := h4.two_at 0 (by simp)
          simp only [Nat.zero_mul, Nat.add_zero, List.getElem_cons_zero] at g0 g1
          dsimp only [firstI]
          obtain ⟨N, hN⟩ : ∃ N, N = (j0, t0) :: M := ⟨_, rfl⟩
          rw [← hN] at T4 h4 l2 o2 few hl1 ⊢
          clear hN
          obtain ⟨m, hm⟩ : ∃ m, m = N.length := ⟨_, rfl⟩
          have HM := Lib.hid hm
          have hs := placeI_spec N q
          rw [← hm] at l2 o2 few hl1 ⊢
          rcases hs with ⟨h1, h2, -⟩ | ⟨kk, hkk, h1, -, h2⟩
          · have HP := Lib.hid h1
            have HQ := Lib.hid h2
            clear hm h1 h2
            go_wp2_with fail
            refine (rfind_any _ m y2 N q _ h4 HM.out.symm (by omega)).mono ?_; rintro e w' ⟨rfl, rfl⟩
            rw [HP.out]
            go_wp2_with fail
            refine (kwhen_any r G N q _ T4 hq).mono ?_; rintro e w5 ⟨rfl, x5⟩
            rw [HQ.out]
            have T5 := T4.keep (.of_ext x5) (G := fun _ => False) (fun _ _ h => h)
            have h5 := h4.ext x5
            have xr5 := xr4.trans x5
            clear T4 h4 xr4 x5 e1 g0 g1
            go_wp2
            go_roundw
            case rel => exact ⟨i + 1, r, G, N, _, y2, by omega, by go_num, rfl, by rw [← HM.out], by rw [← HM.out]; exact l2, m2, T5, h5, by rw [← HM.out]; exact o2, xr5, nG⟩
            case measure => simp [intOf]; omega
          · have HP := Lib.hid h1
            have HQ := Lib.hid h2
            obtain ⟨-, u1⟩ := h4.two_at kk hkk
            have hkm : kk < m := by omega
            generalize (N[kk]).2 = v at HQ u1
            clear hm h1 h2 hkk
            have hk0 : (0 : Int) ≤ (kk : Int) := by omega
            have hk1 : (kk : Int) < (m : Int) := by omega
            go_wp2_with fail
            refine (rfind_any _ m y2 N q _ h4 HM.out.symm (by omega)).mono ?_; rintro e w' ⟨rfl, rfl⟩
            rw [HP.out]
            go_wp2_with fail
            refine (kwhen_any r G N q _ T4 hq).mono ?_; rintro e w5 ⟨rfl, x5⟩
            rw [HQ.out]
            have T5 := T4.keep (.of_ext x5) (G := fun _ => False) (fun _ _ h => h)
            have h5 := h4.ext x5
            have xr5 := xr4.trans x5
            have u5 := x5.cell hb2 u1
            clear T4 h4 xr4 x5 e1 g0 g1 u1
            go_wp2
            go_roundw
            case rel => exact ⟨i + 1, r, G, N, _, y2, by omega, by go_num, rfl, by rw [← HM.out], by rw [← HM.out]; exact l2, m2, T5, h5, by rw [← HM.out]; exact o2, xr5, nG⟩
            case measure => simp [intOf]; omega
      · clear HA
        go_wp2_with fail
        refine (sure6_any _).mono ?_; rintro e w2 ⟨rfl, x2⟩
        have x9 := xr.trans x2
        clear T hx ho xr x2 nF
        go_wp2
        go_ret
        exact ⟨rfl, x9⟩
end Go.Proofs.Ytgjfomnipjljoaa
