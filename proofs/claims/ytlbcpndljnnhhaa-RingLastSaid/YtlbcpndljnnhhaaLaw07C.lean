/-
  THE LAWS OF LAYER 7: the walk of RingLast.
-/
import Derived.Test.YtlbcpndljnnhhaaLaw07A
import Derived.Deep.DeepCutAuto
import Derived.Deep.LoopGhost
namespace Go.Proofs.Ytlbcpndljnnhhaa
open Go.RowKit

/-- The first i of a row, the last one first. -/
def rv (f : Nat → Int) (i : Nat) : List Int := (List.range i).map fun j => f (i - 1 - j)
theorem rv_succ (f : Nat → Int) (i : Nat) : rv f (i + 1) = f i :: rv f i := by
  unfold rv
  rw [List.range_succ_eq_map, List.map_cons, List.map_map]
  congr 1
  exact List.map_congr_left fun j _ => by simp only [Function.comp]; congr 1; omega
theorem take0 (f : Nat → Int) (n : Nat) : (rv f 0).take n = [] := by simp [rv]
theorem rv_length (f : Nat → Int) (i : Nat) : (rv f i).length = i := by simp [rv]
theorem rv_get (f : Nat → Int) {i j : Nat} (h : j < i) : ofL (rv f i) j = f (i - 1 - j) := by
  rw [ofL_get (by rw [rv_length]; exact h)]; simp [rv]
theorem put_rv (f : Nat → Int) (i room : Nat) (h : 1 ≤ room) : putL ((rv f i).take room) room (f i) = (rv f (i + 1)).take room := by
  unfold putL
  rw [rv_succ]
  obtain ⟨r, rfl⟩ : ∃ r, room = r + 1 := ⟨room - 1, by omega⟩
  rw [List.take_succ_cons, List.take_succ_cons, List.take_take]
  congr 2; omega
theorem vb {x y : Int} (h : x = y) : Value.bool (x != y) = Value.bool false := by rw [h]; simp
set_option maxRecDepth 100000 in
set_option maxHeartbeats 8000000 in
theorem ringLast.small (qa qb : Int) (a : Option Addr) (N c : Nat) (f : Nat → Int) (w : World) (ha : Holds .u8 w a N f) (hN : N ≤ 300) (hf : ∀ i, i < N → 0 ≤ f i ∧ f i < 256) (a0 : 0 ≤ qa) (a1 : qa < 256) (b0 : 0 ≤ qb) (b1 : qb < 256) :
    Calls Try.prog 4 #[.int .u8 qa, .int .u8 qb, .slice a N c] w fun e w' => e = .returned (.bool true) ∧ Ext w w' := by
  have HA := Lib.hid ha
  have HF := Lib.hid hf
  obtain ⟨n, hn⟩ : ∃ n : Nat, (1 : Int) + qa % 64 = n := ⟨(1 + qa % 64).toNat, by omega⟩
  have hn1 : 1 ≤ n := by omega
  have hn2 : n ≤ 64 := by omega
  have hm0 : (0 : Int) < 65 - n := by omega
  obtain ⟨m, hm⟩ : ∃ m : Nat, (n : Int) + qb % (65 - n) = m := ⟨((n : Int) + qb % (65 - n)).toNat, by have := Int.emod_nonneg qb (show (65 : Int) - n ≠ 0 by omega); omega⟩
  have hq0 := Int.emod_nonneg qb (show (65 : Int) - n ≠ 0 by omega)
  have hq1 := Int.emod_lt_of_pos qb hm0
  have hmn : n ≤ m := by omega
  have hm2 : m ≤ 64 := by omega
  have t1 : qa.tmod 64 = qa % 64 := Int.tmod_eq_emod_of_nonneg a0
  have t2 : qb.tmod (65 - n) = qb % (65 - n) := Int.tmod_eq_emod_of_nonneg b0
  have hne : ((65 : Int) - n == 0) = false := by simp; omega
  generalize qb % (65 - n) = qr at *
  clear ha hf
  go_enter Try.func4, Try.ntmps4
  go_wp2_with fail
  refine (gnew_ok n _ hn1 hn2).mono ?_; rintro e w1 ⟨p, F, rfl, x1, T1, n1⟩
  clear t1 t2 hne hq0 hq1 hn hm hm0 a0 a1 b0 b1
  go_wp2_with fail
  refine (gnew_ok m _ (by omega) hm2).mono ?_; rintro e w2 ⟨r, H, rfl, x2, R2, n2⟩
  have T2 := T1.ext x2
  have hd2 : ∀ i, H i → ¬ F i := fun i hi hf => absurd (n2 i hi) (by have := T1.lt i hf; omega)
  have xr2 := x1.trans x2
  have nH2 : Above w H := n2.of x1
  clear T1 x1 x2 n2
  go_wp2
  go_loopg [11] N (fun h iv wr => ∃ (i : Nat) (F H : Nat → Prop), i + h = N ∧ iv = .int .i64 i ∧ RG wr p F n ((rv f i).take n) ∧ RG wr r H m ((rv f i).take m) ∧ (∀ j, H j → ¬ F j) ∧ Ext w wr ∧ Above w F ∧ Above w H)
  case atStart => exact ⟨0, F, H, by omega, rfl, by rw [take0]; exact T2, by rw [take0]; exact R2, hd2, xr2, n1, nH2⟩
  case round =>
    clear T2 R2 hd2 xr2 n1 nH2
    obtain ⟨i, F, H, hi, rfl, T, R, hd, xr, nF, nH⟩ := hrel
    cases gk with
    | succ h =>
      have hi1 : (i : Int) < N := by omega
      have hlt : i < N := by omega
      obtain ⟨pa, oa, rfl, hpa, hca⟩ := HA.out.resolve_left (by omega)
      have c0 := xr.cell hpa (hca i hlt)
      have HC := Lib.hid (fun w' (x : Ext w w') => x.cell hpa (hca i hlt))
      obtain ⟨f0, f1⟩ := HF.out i hlt
      have p1 := put_rv f i n hn1
      have p2 := put_rv f i m (by omega)
      have HP1 := Lib.hid p1
      have HP2 := Lib.hid p2
      have HK1 := Lib.hid (gput_any p n F _ (f i) wr T f0 f1)
      have HK2 := Lib.hid (fun w' (R : RG w' r H m ((rv f i).take m)) => gput_any r m H _ (f i) w' R f0 f1)
      rw [p1] at HK1
      rw [p2] at HK2
      have hFlt := Lib.hid T.lt
      have hHlt := Lib.hid R.lt
      clear p1 p2 hca T
      generalize f i = v at c0 HC HK1 HK2 f0 f1
      go_wp2_with fail
      refine HK1.out.mono ?_; rintro e w3 ⟨rfl, G, k3, T3, g3⟩
      have R3 := R.keep k3 hd
      have xr3 := xr.keep k3 nF
      have nG := nF.grows g3 xr
      have hd3 : ∀ j, H j → ¬ G j := fun j hj hg => (g3 j hg).elim (hd j hj) (fun x => absurd (hHlt.out j hj) (by omega))
      have c1 := HC.out _ xr3
      clear HK1 R k3 g3 xr nF c0 hd hFlt
      go_wp2_with fail
      refine (HK2.out _ R3).mono ?_; rintro e w4 ⟨rfl, K, k4, R4, g4⟩
      have T4 := T3.keep k4 (fun j hj hh => hd3 j hh hj)
      have xr4 := xr3.keep k4 nH
      have nK := nH.grows g4 xr3
      have hd4 : ∀ j, K j → ¬ G j := fun j hj hg => (g4 j hj).elim (fun x => hd3 j x hg) (fun x => absurd (T3.lt j hg) (by omega))
      clear HK2 R3 k4 g4 xr3 nH c1 hd3 T3
      go_wp2
      go_roundg h
      case rel => exact ⟨i + 1, G, K, by omega, by go_num, T4, R4, hd4, xr4, nG, nK⟩
      case measure => omega
    | zero =>
      obtain rfl : i = N := by omega
      have hi1 : ¬ ((i : Int) < i) := by omega
      obtain ⟨A, hA⟩ : ∃ A, A = ((rv f i).take n).length := ⟨_, rfl⟩
      obtain ⟨B, hB⟩ : ∃ B, B = ((rv f i).take m).length := ⟨_, rfl⟩
      have hA2 : A = min n i := by rw [hA, List.length_take, rv_length]
      have hB2 : B = min m i := by rw [hB, List.length_take, rv_length]
      have HLA := Lib.hid (glist_any p n F _ wr T)
      have HLB := Lib.hid (fun w' (R : RG w' r H m ((rv f i).take m)) => glist_any r m H _ w' R)
      rw [← hA] at HLA
      rw [← hB] at HLB
      have HGA := Lib.hid (fun j (h : j < A) => show ofL ((rv f i).take n) j = f (i - 1 - j) by rw [ofL_take (by omega), rv_get f (by omega)])
      have HGB := Lib.hid (fun j (h : j < B) => show ofL ((rv f i).take m) j = f (i - 1 - j) by rw [ofL_take (by omega), rv_get f (by omega)])
      have HAB := Lib.hid (show A ≤ B ∧ B ≤ i by omega)
      have HA2 := Lib.hid hA2
      have HB2 := Lib.hid hB2
      clear hA hB hd nF nH T hA2 hB2
      go_wp2_with fail
      refine HLA.out.mono ?_; rintro e w3 ⟨za, ua, rfl, -, -, h3, x3⟩
      have R3 := R.ext x3
      have xr3 := xr.trans x3
      have h3' := h3.congr HGA.out
      clear HLA R x3 xr h3
      go_wp2_with fail
      refine (HLB.out _ R3).mono ?_; rintro e w4 ⟨zb, ub, rfl, -, -, h4, x4⟩
      have xr4 := xr3.trans x4
      have hza := h3'.ext x4
      have hzb := h4.congr HGB.out
      clear HLB R3 x4 xr3 h3' h4
      have HZA := Lib.hid hza
      have HZB := Lib.hid hzb
      clear hza hzb HGA HGB
      go_upto_region 14 with fail
      go_cut [77] (fun v wx => v = .bool false ∧ wx = w4)
      case first =>
        have hA2 := HA2.out
        have hB2 := HB2.out
        have ba : ((A : Int) != ((min n i : Nat) : Int)) = false := by rw [hA2]; simp
        have bb : ((B : Int) != ((min m i : Nat) : Int)) = false := by rw [hB2]; simp
        have ba1 : n ≤ i → ((A : Int) != (n : Int)) = false := fun h => by rw [show A = n by omega]; simp
        have ba2 : ¬ n ≤ i → ((A : Int) != (i : Int)) = false := fun h => by rw [show A = i by omega]; simp
        have bb1 : m ≤ i → ((B : Int) != (m : Int)) = false := fun h => by rw [show B = m by omega]; simp
        have bb2 : ¬ m ≤ i → ((B : Int) != (i : Int)) = false := fun h => by rw [show B = i by omega]; simp
        clear hA2 hB2
        by_cases h1 : n ≤ i
        · have ba3 := ba1 h1
          have h1' : (n : Int) ≤ i := by omega
          by_cases h2 : m ≤ i
          · have bb3 := bb1 h2
            have h2' : (m : Int) ≤ i := by omega
            clear ba1 ba2 bb1 bb2 h1 h2 hmn
            go_wp2_with fail
            go_meet
            exact ⟨by first | rfl | exact vb (by omega), rfl⟩
          · have bb3 := bb2 h2
            have h2' : ¬ ((m : Int) ≤ i) := by omega
            clear ba1 ba2 bb1 bb2 h1 h2 hmn
            go_wp2_with fail
            go_meet
            exact ⟨by first | rfl | exact vb (by omega), rfl⟩
        · have ba3 := ba2 h1
          have h1' : ¬ ((n : Int) ≤ i) := by omega
          have h2 : ¬ m ≤ i := by omega
          have bb3 := bb2 h2
          have h2' : ¬ ((m : Int) ≤ i) := by omega
          clear ba1 ba2 bb1 bb2 h1 h2 hmn
          go_wp2_with fail
          go_meet
          exact ⟨by first | rfl | exact vb (by omega), rfl⟩
      case rest =>
        obtain ⟨rfl, rfl⟩ := hcut
        go_wp2_with fail
        go_loopg [14] B (fun h kv wr => ∃ k : Nat, k + h = B ∧ kv = .int .i64 k ∧ Ext wc wr)
        case atStart => exact ⟨0, by omega, rfl, Ext.refl _⟩
        case round =>
          obtain ⟨k, hk, rfl, xk⟩ := hrel
          have xr5 := xr4.trans xk
          have hBi := HAB.out
          cases gk with
          | succ h =>
            have hk1 : (k : Int) < B := by omega
            obtain ⟨pa, oa, rfl, hpa, hca⟩ := HA.out.resolve_left (by omega)
            obtain ⟨pb, ob, rfl, hpb, hcb⟩ := HZB.out.resolve_left (by omega)
            obtain ⟨s, hs⟩ : ∃ s, s = i - 1 - k := ⟨_, rfl⟩
            have hs1 : (i : Int) - 1 - k = s := by omega
            have hsi : (s : Int) < i := by omega
            have c0 := xr5.cell hpa (hca s (by omega))
            have c1 : wr.cell? ⟨pb, ob + k, none⟩ = some (.int .u8 (f (i - 1 - k))) := xk.cell hpb (hcb k (by omega))
            rw [← hs] at c1
            by_cases hkA : k < A
            · obtain ⟨pz, oz, rfl, hpz, hcz⟩ := HZA.out.resolve_left (by omega)
              have c2 : wr.cell? ⟨pz, oz + k, none⟩ = some (.int .u8 (f (i - 1 - k))) := xk.cell hpz (hcz k hkA)
              rw [← hs] at c2
              have hg1 : decide (k < A) = true := decide_eq_true (by omega)
              have hkA2 : (k : Int) < A := by omega
              generalize f s = v at c0 c1 c2
              clear hca hcb hcz hs hkA hBi
              go_wp2_with fail
              go_quiet (fail)
              go_wp2
              go_roundg h
              case rel => exact ⟨k + 1, by omega, by go_num, xk.trans (Ext.drewN _ _)⟩
              case measure => omega
            · have hg1 : decide (k < A) = false := decide_eq_false (by omega)
              generalize f s = v at c0 c1
              clear hca hcb hs hkA hBi
              go_wp2_with fail
              go_quiet (fail)
              go_wp2
              go_roundg h
              case rel => exact ⟨k + 1, by omega, by go_num, xk.trans (Ext.drewN _ _)⟩
              case measure => omega
          | zero =>
            obtain rfl : k = B := by omega
            have hk1 : ¬ ((k : Int) < k) := by omega
            clear xk
            go_wp2_with fail
            refine (sure7_any _).mono ?_; rintro e w6 ⟨rfl, x6⟩
            have x7 := xr5.trans x6
            clear xr5 x6
            go_wp2
            go_ret
            exact ⟨rfl, x7⟩
end Go.Proofs.Ytlbcpndljnnhhaa
