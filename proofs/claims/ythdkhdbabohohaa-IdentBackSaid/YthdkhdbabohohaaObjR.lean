/-
  CONTRACTS: bilgeref20 (layer 20).
-/
import Derived.Test.YthdkhdbabohohaaObjM
import Derived.Test.YthdkhdbabohohaaRef01
import Derived.Test.YthdkhdbabohohaaAppendL
import Derived.Test.YthdkhdbabohohaaStepAppend
import Derived.Test.YthdkhdbabohohaaStepStore
import Derived.Test.YthdkhdbabohohaaStructs
import Derived.Deep.LoopGhost
import Derived.Deep.DeepCutAuto
namespace Go.Proofs.Ythdkhdbabohohaa
open Go.RowKit
set_option linter.unusedVariables false
set_option maxRecDepth 100000

theorem rob_of (id s : Int) (w : World) : Calls Try.prog 57 #[.int .i64 id, .int .i64 s] w fun e w' => e = .returned (.bool (ofI s id)) ∧ w' = w := by
  unfold ofI
  by_cases h1 : s = 1
  · subst h1
    rw [if_pos rfl]
    by_cases h0 : 0 ≤ id
    · rw [show decide (0 ≤ id ∧ id ≤ 2) = decide (id ≤ 2) by simp [h0]]
      go_enter Try.func57, Try.ntmps57
      go_wp2
      go_ret
      exact ⟨rfl, rfl⟩
    · rw [show decide (0 ≤ id ∧ id ≤ 2) = false by simp [h0]]
      go_enter Try.func57, Try.ntmps57
      go_wp2
      go_ret
      exact ⟨rfl, rfl⟩
  · have b1 : (s == 1) = false := by simpa using h1
    rw [if_neg h1]
    by_cases h2 : s = 2
    · subst h2
      rw [if_pos rfl]
      clear b1 h1
      by_cases h0 : 0 ≤ id
      · rw [show decide (0 ≤ id ∧ id ≤ 6) = decide (id ≤ 6) by simp [h0]]
        go_enter Try.func57, Try.ntmps57
        go_wp2
        go_ret
        exact ⟨rfl, rfl⟩
      · rw [show decide (0 ≤ id ∧ id ≤ 6) = false by simp [h0]]
        go_enter Try.func57, Try.ntmps57
        go_wp2
        go_ret
        exact ⟨rfl, rfl⟩
    · have b2 : (s == 2) = false := by simpa using h2
      rw [if_neg h2]
      clear h1 h2
      go_enter Try.func57, Try.ntmps57
      go_wp2
      go_ret
      exact ⟨rfl, rfl⟩
theorem rfew20_any (a : Option Addr) (n c : Nat) (L : List Ob) (w : World) (h : ObjsAt w a n c L) (hn : n ≤ 1000000000000000) :
    Calls Try.prog 8 #[.slice a n c] w fun e w' => e = .returned (.bool (fewO L)) ∧ w' = w := by
  have HA := Lib.hid h
  have HL := Lib.hid h.len
  by_cases hs : n ≤ 140
  · have HB : Hid (∀ z ∈ L, z.n ≤ 1000000000000000) := Lib.hid (fun z hz => (h.each z hz).s)
    clear h
    go_enter Try.func8, Try.ntmps8
    go_wp2
    go_loopw [3, 4] (fun sv iv wr => ∃ k s : Nat, k ≤ n ∧ iv = .int .i64 k ∧ sv = .int .i64 s ∧ wr = w ∧ sumO L = s + sumO (L.drop k) ∧ s ≤ k * 1000000000000000) (fun _ iv _ => n - (intOf iv).toNat)
    case atStart => exact ⟨0, 0, Nat.zero_le _, rfl, rfl, rfl, by simp, Nat.le_refl _⟩
    case round =>
      obtain ⟨k, s, hk, rfl, rfl, rfl, hsum, hsb⟩ := hrel
      by_cases hlt : k < n
      · have hkL : k < L.length := by rw [HL.out]; exact hlt
        obtain ⟨p, o, rfl, hp, -⟩ := HA.out.h.resolve_left (by intro e; rw [e] at hkL; simp at hkL)
        obtain ⟨-, a1⟩ := HA.out.h.ob_at k hkL
        have hb := HB.out _ (List.getElem_mem hkL)
        have hdr : sumO L = (s + (L[k]).n) + sumO (L.drop (k + 1)) := by
          rw [hsum, List.drop_eq_getElem_cons hkL]; show s + ((L[k]).n + _) = _; omega
        have HD := Lib.hid hdr
        generalize L[k] = z at a1 hb HD
        obtain ⟨zi, za, zn, zc, zf⟩ := z
        simp only at a1 hb HD
        have hlt' : (k : Int) < n := by omega
        have e1 : IntKind.i64.wrap ((s : Int) + zn) = s + zn := IntWalk.i64_in _ (by omega)
        have HQ := Lib.hid (And.intro hsb hb)
        clear hsum hdr hkL hsb hb
        go_wp2
        go_roundw
        case rel => exact ⟨k + 1, s + zn, by omega, by go_num, by simp, by trivial, HD.out, by have := HQ.out.1; have := HQ.out.2; omega⟩
        case measure => simp [intOf]; omega
      · have hkn : k = n := by omega
        have hz : sumO L = s := by rw [hsum, List.drop_of_length_le (by rw [HL.out]; omega)]; rfl
        have h1 : (n : Int) ≤ 140 := by omega
        have HE : Hid (fewO L = decide ((s : Int) ≤ 6000)) := Lib.hid (by unfold fewO; rw [hz, HL.out]; exact decide_eq_decide.2 ⟨fun h => by omega, fun h => by omega⟩)
        clear hsum hz hsb
        go_wp2
        go_ret
        exact ⟨by rw [HE.out]; rfl, rfl⟩
  · have HE : Hid (fewO L = false) := Lib.hid (decide_eq_false (by rw [h.len]; omega))
    have h1 : ¬ (n : Int) ≤ 140 := by omega
    clear h
    go_enter Try.func8, Try.ntmps8
    go_wp2
    go_loopw [3, 4] (fun sv iv wr => ∃ (k : Nat) (s : Int), k ≤ n ∧ iv = .int .i64 k ∧ sv = .int .i64 s ∧ wr = w) (fun _ iv _ => n - (intOf iv).toNat)
    case atStart => exact ⟨0, 0, Nat.zero_le _, rfl, rfl, rfl⟩
    case round =>
      obtain ⟨k, s, hk, rfl, rfl, rfl⟩ := hrel
      by_cases hlt : k < n
      · have hkL : k < L.length := by rw [HL.out]; exact hlt
        obtain ⟨p, o, rfl, hp, -⟩ := HA.out.h.resolve_left (by intro e; rw [e] at hkL; simp at hkL)
        obtain ⟨-, a1⟩ := HA.out.h.ob_at k hkL
        generalize L[k] = z at a1
        obtain ⟨zi, za, zn, zc, zf⟩ := z
        simp only at a1
        have hlt' : (k : Int) < n := by omega
        clear hkL
        go_wp2
        go_roundw
        case rel => exact ⟨k + 1, _, by omega, by go_num, rfl, by trivial⟩
        case measure => simp [intOf]; omega
      · go_wp2
        go_ret
        exact ⟨by rw [HE.out]; rfl, rfl⟩
theorem ris_step {p : Int} {z : Ob} {L M : List Ob} {k : Nat} (hk : k < L.length) (e : L[k] = z) : (risO p (L.drop k) && firO M) = (okO z && decide (p < z.id) && risO z.id (L.drop (k + 1)) && firO M) := by
  rw [List.drop_eq_getElem_cons hk, e]; rfl
set_option maxHeartbeats 4000000 in
theorem rright20_any (a : Option Addr) (n c : Nat) (L : List Ob) (w : World) (h : ObjsAt w a n c L) (hn : n ≤ 1000000) :
    Calls Try.prog 36 #[.slice a n c] w fun e w' => e = .returned (.bool (rightO L)) ∧ w' = w := by
  have HA := Lib.hid h
  have HL := Lib.hid h.len
  obtain ⟨R, hR⟩ : ∃ R, R = rightO L := ⟨_, rfl⟩
  rw [← hR]
  have HR := Lib.hid hR
  clear h hR
  go_enter Try.func36, Try.ntmps36
  go_wp2
  go_loopw [3] (fun iv wr => ∃ k : Nat, k ≤ n ∧ iv = .int .i64 k ∧ wr = w ∧ ∃ p, ((k = 0 ∧ p = -1) ∨ (0 < k ∧ ∃ z, L[k - 1]? = some z ∧ p = z.id)) ∧ R = (risO p (L.drop k) && firO L)) (fun iv _ => n - (intOf iv).toNat)
  case atStart => exact ⟨0, Nat.zero_le _, rfl, rfl, -1, .inl ⟨rfl, rfl⟩, by rw [HR.out]; rfl⟩
  case round =>
    obtain ⟨k, hk, rfl, rfl, p, hp, hRp⟩ := hrel
    by_cases hlt : k < n
    · have hkL : k < L.length := by rw [HL.out]; exact hlt
      obtain ⟨b, o, rfl, hb, -⟩ := HA.out.h.resolve_left (by intro e; rw [e] at hkL; simp at hkL)
      obtain ⟨a0, a1⟩ := HA.out.h.ob_at k hkL
      obtain ⟨z, hz⟩ : ∃ z, L[k] = z := ⟨_, rfl⟩
      rw [hz] at a0 a1
      have HN : Hid (L[k + 1 - 1]? = some z) := Lib.hid (by rw [Nat.add_sub_cancel, List.getElem?_eq_getElem hkL, hz])
      have HS := Lib.hid (hRp.trans (ris_step hkL hz))
      obtain ⟨I, hI⟩ : ∃ I, z.id = I := ⟨_, rfl⟩
      obtain ⟨N, hN⟩ : ∃ N, z.n = N := ⟨_, rfl⟩
      rw [hI] at a0 HS
      rw [hN] at a1
      have hlt' : (k : Int) < n := by omega
      have HO : Hid (okO z = decide (0 ≤ I ∧ I ≤ 255 ∧ (I ≤ 6 ∨ 128 ≤ I) ∧ N ≤ 240)) := Lib.hid (by unfold okO; rw [hI, hN])
      have HI := Lib.hid hI
      clear hRp hz hI hN
      by_cases hok : 0 ≤ I ∧ I ≤ 255 ∧ (I ≤ 6 ∨ 128 ≤ I) ∧ N ≤ 240
      · have HT : Hid (R = (decide (p < I) && risO I (L.drop (k + 1)) && firO L)) := Lib.hid (by rw [HS.out, HO.out, decide_eq_true hok, Bool.true_and])
        obtain ⟨i0, i1, i2, i3⟩ := hok
        have g0 : ¬ I < 0 := by omega
        have g1 : ¬ 255 < I := by omega
        have g3 : ¬ (240 : Int) < N := by omega
        clear HS HO
        rcases hp with ⟨hk0, hp1⟩ | ⟨hk0, u, hu, hpu⟩
        · have HT2 : Hid (R = (risO I (L.drop (k + 1)) && firO L)) := Lib.hid (by rw [HT.out, decide_eq_true (by omega), Bool.true_and])
          have k0 : ¬ (0 : Int) < k := by omega
          clear HT hp1 hk0 hkL
          rcases (show I ≤ 6 ∨ (¬ I ≤ 6 ∧ ¬ I < 128) by omega) with j | ⟨j, j'⟩
          · have j2 : ¬ 6 < I := by omega
            clear i0 i1 i2 j
            go_wp2
            go_roundw
            case rel => exact ⟨k + 1, by omega, by go_num, by trivial, I, .inr ⟨by omega, z, HN.out, HI.out.symm⟩, HT2.out⟩
            case measure => simp [intOf]; omega
          · have j2 : 6 < I := by omega
            clear i0 i1 i2 j
            go_wp2
            go_roundw
            case rel => exact ⟨k + 1, by omega, by go_num, by trivial, I, .inr ⟨by omega, z, HN.out, HI.out.symm⟩, HT2.out⟩
            case measure => simp [intOf]; omega
        · have hk1 : k - 1 < L.length := by omega
          have hu2 : L[k - 1] = u := by rw [List.getElem?_eq_getElem hk1] at hu; exact Option.some.inj hu
          obtain ⟨u0, -⟩ := HA.out.h.ob_at (k - 1) hk1
          rw [hu2, ← hpu] at u0
          have k0 : (0 : Int) < k := by omega
          have m1 : IntKind.i64.wrap ((k : Int) - 1) = k - 1 := IntWalk.i64_in _ (by omega)
          have m2 : ((k : Int) - 1).toNat = k - 1 := by omega
          have m3 : 0 ≤ (k : Int) - 1 := by omega
          have m4 : (k : Int) - 1 < n := by omega
          by_cases hpI : p < I
          · have HT2 : Hid (R = (risO I (L.drop (k + 1)) && firO L)) := Lib.hid (by rw [HT.out, decide_eq_true hpI, Bool.true_and])
            have hq : ¬ I ≤ p := by omega
            clear HT hpu hu hu2 hk0 hk1 hkL
            rcases (show I ≤ 6 ∨ (¬ I ≤ 6 ∧ ¬ I < 128) by omega) with j | ⟨j, j'⟩
            · have j2 : ¬ 6 < I := by omega
              clear i0 i1 i2 j hpI
              go_wp2
              go_roundw
              case rel => exact ⟨k + 1, by omega, by go_num, by trivial, I, .inr ⟨by omega, z, HN.out, HI.out.symm⟩, HT2.out⟩
              case measure => simp [intOf]; omega
            · have j2 : 6 < I := by omega
              clear i0 i1 i2 j hpI
              go_wp2
              go_roundw
              case rel => exact ⟨k + 1, by omega, by go_num, by trivial, I, .inr ⟨by omega, z, HN.out, HI.out.symm⟩, HT2.out⟩
              case measure => simp [intOf]; omega
          · have HT2 : Hid (R = false) := Lib.hid (by rw [HT.out, decide_eq_false hpI]; rfl)
            have hq : I ≤ p := by omega
            clear HT hpu hu hu2 hk0 hk1 hkL
            rcases (show I ≤ 6 ∨ (¬ I ≤ 6 ∧ ¬ I < 128) by omega) with j | ⟨j, j'⟩
            · have j2 : ¬ 6 < I := by omega
              clear i0 i1 i2 j hpI
              go_wp2
              go_ret
              exact ⟨by rw [HT2.out]; rfl, rfl⟩
            · have j2 : 6 < I := by omega
              clear i0 i1 i2 j hpI
              go_wp2
              go_ret
              exact ⟨by rw [HT2.out]; rfl, rfl⟩
      · have HT2 : Hid (R = false) := Lib.hid (by rw [HS.out, HO.out, decide_eq_false hok]; rfl)
        clear HS HO hp HN HI
        rcases (show I < 0 ∨ (¬ I < 0 ∧ 255 < I) ∨ (¬ I < 0 ∧ ¬ 255 < I ∧ 6 < I ∧ I < 128) ∨ (¬ I < 0 ∧ ¬ 255 < I ∧ ¬ 6 < I ∧ (240 : Int) < N) ∨ (¬ I < 0 ∧ ¬ 255 < I ∧ 6 < I ∧ ¬ I < 128 ∧ (240 : Int) < N) by omega) with j | ⟨j, j1⟩ | ⟨j, j1, j2, j3⟩ | ⟨j, j1, j2, j3⟩ | ⟨j, j1, j2, j3, j4⟩
        all_goals
          clear hok hkL
          go_wp2
          go_ret
          exact ⟨by rw [HT2.out]; rfl, rfl⟩
    · have hkn : k = n := by omega
      have HT : Hid (R = firO L) := Lib.hid (by rw [hRp, List.drop_of_length_le (by rw [HL.out]; omega)]; rfl)
      clear hRp hp
      by_cases hn3 : 3 ≤ n
      · have h3 : (3 : Int) ≤ n := by omega
        obtain ⟨b, o, rfl, hb, -⟩ := HA.out.h.resolve_left (by intro e; have := HL.out; rw [e] at this; simp at this; omega)
        obtain ⟨x0, -⟩ := HA.out.h.ob_at 0 (by rw [HL.out]; omega)
        obtain ⟨x1, -⟩ := HA.out.h.ob_at 1 (by rw [HL.out]; omega)
        obtain ⟨x2, -⟩ := HA.out.h.ob_at 2 (by rw [HL.out]; omega)
        have HF : Hid (firO L = decide ((L[0]'(by rw [HL.out]; omega)).id = 0 ∧ (L[1]'(by rw [HL.out]; omega)).id = 1 ∧ (L[2]'(by rw [HL.out]; omega)).id = 2)) := Lib.hid (by
          have hl := HL.out
          match L, hl with
          | x :: y :: z :: M, _ => rfl
          | [x, y], hl => simp at hl; omega
          | [x], hl => simp at hl; omega
          | [], hl => simp at hl; omega)
        obtain ⟨X, hX⟩ : ∃ X, (L[0]'(by rw [HL.out]; omega)).id = X := ⟨_, rfl⟩
        obtain ⟨Y, hY⟩ : ∃ Y, (L[1]'(by rw [HL.out]; omega)).id = Y := ⟨_, rfl⟩
        obtain ⟨Z, hZ⟩ : ∃ Z, (L[2]'(by rw [HL.out]; omega)).id = Z := ⟨_, rfl⟩
        rw [hX] at x0 HF
        rw [hY] at x1 HF
        rw [hZ] at x2 HF
        rw [Nat.zero_mul, Nat.add_zero] at x0
        rw [Nat.one_mul] at x1
        rw [show 2 * 2 = 4 from rfl] at x2
        have n0 : (0 : Int) < n := by omega
        have n1 : (1 : Int) < n := by omega
        have n2 : (2 : Int) < n := by omega
        clear hX hY hZ hn3
        by_cases e0 : X = 0
        · subst e0
          by_cases e1 : Y = 1
          · subst e1
            have HE : Hid (R = (Z == 2)) := Lib.hid (by
              rw [HT.out, HF.out]
              by_cases e : Z = 2
              · rw [e]; rfl
              · rw [show (Z == 2) = false by simpa using e]; exact decide_eq_false (fun hh => e hh.2.2))
            go_wp2
            go_ret
            exact ⟨by rw [HE.out]; rfl, rfl⟩
          · have HE : Hid (R = false) := Lib.hid (by rw [HT.out, HF.out]; exact decide_eq_false (fun hh => e1 hh.2.1))
            have b1 : (Y == 1) = false := by simpa using e1
            clear e1
            go_wp2
            go_ret
            exact ⟨by rw [HE.out]; rfl, rfl⟩
        · have HE : Hid (R = false) := Lib.hid (by rw [HT.out, HF.out]; exact decide_eq_false (fun hh => e0 hh.1))
          have b1 : (X == 0) = false := by simpa using e0
          clear e0
          go_wp2
          go_ret
          exact ⟨by rw [HE.out]; rfl, rfl⟩
      · have HE : Hid (R = false) := Lib.hid (by
          rw [HT.out]
          have hl := HL.out
          match L, hl with
          | x :: y :: z :: M, hl => simp at hl; omega
          | [x, y], hl => rfl
          | [x], hl => rfl
          | [], hl => rfl)
        have h3 : ¬ (3 : Int) ≤ n := by omega
        go_wp2
        go_ret
        exact ⟨by rw [HE.out]; rfl, rfl⟩
theorem rlevel20_any (a : Option Addr) (n c : Nat) (L : List Ob) (w : World) (h : ObjsAt w a n c L) (hn : n ≤ 1000000) :
    Calls Try.prog 52 #[.slice a n c] w fun e w' => e = .returned (.int .i64 (levelO L)) ∧ w' = w := by
  have HC := Lib.hid (rright20_any a n c L w h hn)
  cases hr : rightO L with
  | false =>
    have HE : Hid (levelO L = 0) := Lib.hid (by unfold levelO; rw [hr]; rfl)
    rw [hr] at HC
    clear h hr
    go_enter Try.func52, Try.ntmps52
    go_wp2_with fail
    refine HC.out.mono ?_; rintro e w1 ⟨rfl, rfl⟩
    go_wp2
    go_ret
    exact ⟨by rw [HE.out]; rfl, rfl⟩
  | true =>
    have hl := right_len hr
    obtain ⟨x, hx, hlx, -⟩ := last_mem hr
    have hk : L.length - 1 < L.length := by omega
    rw [List.getElem?_eq_getElem hk] at hx
    obtain ⟨b, o, rfl, hb, -⟩ := h.h.resolve_left (by intro e; rw [e] at hl; simp at hl)
    obtain ⟨x0, -⟩ := h.h.ob_at (L.length - 1) hk
    rw [Option.some.inj hx, ← hlx] at x0
    rw [h.len] at x0 hl
    have m1 : IntKind.i64.wrap ((n : Int) - 1) = n - 1 := IntWalk.i64_in _ (by omega)
    have m2 : ((n : Int) - 1).toNat = n - 1 := by omega
    have m3 : 0 ≤ (n : Int) - 1 := by omega
    have m4 : (n : Int) - 1 < n := by omega
    obtain ⟨I, hI⟩ : ∃ I, lastO L = I := ⟨_, rfl⟩
    have HE : Hid (levelO L = if 128 ≤ I then 3 else if 3 ≤ I then 2 else 1) := Lib.hid (by unfold levelO; rw [if_pos hr, hI])
    rw [hI] at x0
    rw [hr] at HC
    clear h hr hl hx hlx hk hI
    rcases (show 128 ≤ I ∨ (¬ 128 ≤ I ∧ 3 ≤ I) ∨ (¬ 128 ≤ I ∧ ¬ 3 ≤ I) by omega) with j | ⟨j, j1⟩ | ⟨j, j1⟩
    · go_enter Try.func52, Try.ntmps52
      go_wp2_with fail
      refine HC.out.mono ?_; rintro e w1 ⟨rfl, rfl⟩
      go_wp2
      go_ret
      exact ⟨by rw [HE.out, if_pos j]; rfl, rfl⟩
    · go_enter Try.func52, Try.ntmps52
      go_wp2_with fail
      refine HC.out.mono ?_; rintro e w1 ⟨rfl, rfl⟩
      go_wp2
      go_ret
      exact ⟨by rw [HE.out, if_neg (by omega), if_pos (by omega)]; rfl, rfl⟩
    · go_enter Try.func52, Try.ntmps52
      go_wp2_with fail
      refine HC.out.mono ?_; rintro e w1 ⟨rfl, rfl⟩
      go_wp2
      go_ret
      exact ⟨by rw [HE.out, if_neg (by omega), if_neg (by omega)]; rfl, rfl⟩
def obC (z : Ob) : Array Value := #[.int .i64 z.id, .slice z.a z.n z.c]
theorem findO_drop {id : Int} {L : List Ob} {k : Nat} {z : Ob} (hk : k < L.length) (e : L[k] = z) : findO id (L.drop k) = if z.id = id then some z else findO id (L.drop (k + 1)) := by
  rw [List.drop_eq_getElem_cons hk, e]; rfl
set_option maxHeartbeats 2000000 in
theorem rfind20_any (a : Option Addr) (n c : Nat) (L : List Ob) (id : Int) (w : World) (h : ObjsAt w a n c L) (hn : n ≤ 1000000) :
    Calls Try.prog 38 #[.slice a n c, .int .i64 id] w fun e w' => e = .returned (.tuple #[.agg (obC ((findO id L).getD zeroOb)), .bool (findO id L).isSome]) ∧ Ext w w' := by
  obtain ⟨W0, hW0, HX⟩ : ∃ W0, W0 = w.alloc (.cells #[.int .i64 0, .slice none 0 0] 49) ∧ Hid (Ext w W0) := ⟨_, rfl, Lib.hid (Ext.alloc w _)⟩
  have HA := Lib.hid h
  have HL := Lib.hid h.len
  obtain ⟨R, hR⟩ : ∃ R, R = findO id L := ⟨_, rfl⟩
  rw [← hR]
  have HR := Lib.hid hR
  have HG := Lib.hid (fun cs => heap_alloc_new w (.cells cs 49))
  clear h hR
  go_enter Try.func38, Try.ntmps38
  go_wp2
  go_loopw [6] (fun iv wr => ∃ k : Nat, k ≤ n ∧ iv = .int .i64 k ∧ wr = w.alloc (.cells #[.int .i64 0, .slice none 0 0] 49) ∧ R = findO id (L.drop k)) (fun iv _ => n - (intOf iv).toNat)
  case atStart => exact ⟨0, Nat.zero_le _, rfl, rfl, HR.out⟩
  case round =>
    obtain ⟨k, hk, rfl, rfl, hRk⟩ := hrel
    by_cases hlt : k < n
    · have hkL : k < L.length := by rw [HL.out]; exact hlt
      obtain ⟨b, o, rfl, hb, -⟩ := HA.out.h.resolve_left (by intro e; rw [e] at hkL; simp at hkL)
      obtain ⟨a0, a1⟩ := HA.out.h.ob_at k hkL
      obtain ⟨z, hz⟩ : ∃ z, L[k] = z := ⟨_, rfl⟩
      rw [hz] at a0 a1
      have HS := Lib.hid (hRk.trans (findO_drop hkL hz))
      have hlt' : (k : Int) < n := by omega
      have hbn : b ≠ w.heap.size := by omega
      clear hRk hz hkL
      obtain ⟨zi, za, zn, zc, zf⟩ := z
      simp only at a0 a1 HS
      by_cases hi : zi = id
      · have HE : Hid (R = some ⟨zi, za, zn, zc, zf⟩) := Lib.hid (by rw [HS.out, if_pos hi])
        have b0 : (zi == id) = true := by simpa using hi
        clear HS hi
        go_wp2
        refine bodyPost_ret (results_row_tmp rfl _ _ w.heap.size 49 _ (0, 0) _ rfl (HG.out _) Try.underlying49 rfl (by kernel_rfl)) rfl ?_
        exact ⟨by rw [HE.out]; rfl, Ext.alloc _ _⟩
      · have HE : Hid (R = findO id (L.drop (k + 1))) := Lib.hid (by rw [HS.out, if_neg hi])
        have b0 : (zi == id) = false := by simpa using hi
        clear HS hi
        go_wp2
        go_roundw
        case rel => exact ⟨k + 1, by omega, by go_num, by trivial, HE.out⟩
        case measure => simp [intOf]; omega
    · have hkn : k = n := by omega
      have HE : Hid (R = none) := Lib.hid (by rw [hRk, List.drop_of_length_le (by rw [HL.out]; omega)]; rfl)
      clear hRk
      go_wp2
      refine bodyPost_ret (results_row_tmp rfl _ _ w.heap.size 49 _ (0, 0) _ rfl (HG.out _) Try.underlying49 rfl (by kernel_rfl)) rfl ?_
      exact ⟨by rw [HE.out]; rfl, Ext.alloc _ _⟩
theorem ofO_take {s : Int} {L : List Ob} {k : Nat} {z : Ob} (hk : k < L.length) (e : L[k] = z) : ofO s (L.take (k + 1)) = if ofI s z.id = true then ofO s (L.take k) ++ [z] else ofO s (L.take k) := by
  unfold ofO
  rw [List.take_succ_eq_append_getElem hk, e, List.filter_append, List.filter_cons]
  split
  · rfl
  · simp
theorem ofO_len (s : Int) (L : List Ob) : (ofO s L).length ≤ L.length := List.length_filter_le _ _
theorem Try.infoOb : (Try.prog.info? 49).map (fun i => (i.zero, i.size, i.bytes)) = some (some (.agg #[.int .i64 0, .slice none 0 0]), 2, 32) := by kernel_rfl
set_option maxHeartbeats 2000000 in
theorem rof20_any (a : Option Addr) (n c : Nat) (L : List Ob) (s : Int) (w : World) (h : ObjsAt w a n c L) (hn : n ≤ 1000000) :
    Calls Try.prog 51 #[.slice a n c, .int .i64 s] w fun e w' => ∃ b q, e = .returned (.slice b (ofO s L).length q) ∧ ObjsAt w' b (ofO s L).length q (ofO s L) ∧ Fresh w b ∧ Ext w w' := by
  obtain ⟨ii, hii, hz0, hz1, hz2⟩ := info_parts Try.infoOb
  have HA := Lib.hid h
  have HL := Lib.hid h.len
  obtain ⟨B, hB⟩ : ∃ B, B = w.heap.size := ⟨_, rfl⟩
  have HB := Lib.hid hB
  have hown0 : w.ownsRow B 49 2 (.slice none 0 0) 0 (([] : List Ob).flatMap obL) := World.ownsRow_nil _ _ _ _
  have HO := Lib.hid hown0
  clear h hB hown0
  go_enter Try.func51, Try.ntmps51
  go_wp2
  go_loopw [5, 6] (fun v iv wr => ∃ k : Nat, k ≤ n ∧ iv = .int .i64 k ∧ wr.ownsRow B 49 2 v (ofO s (L.take k)).length ((ofO s (L.take k)).flatMap obL) ∧ Ext w wr) (fun _ iv _ => n - (intOf iv).toNat)
  case atStart => exact ⟨0, Nat.zero_le _, rfl, HO.out, Ext.refl _⟩
  case round =>
    obtain ⟨k, hk, rfl, hown, xr⟩ := hrel
    by_cases hlt : k < n
    · have hkL : k < L.length := by rw [HL.out]; exact hlt
      obtain ⟨b, o, rfl, hb, -⟩ := HA.out.h.resolve_left (by intro e; rw [e] at hkL; simp at hkL)
      obtain ⟨a0, a1⟩ := HA.out.h.ob_at k hkL
      obtain ⟨z, hz⟩ : ∃ z, L[k] = z := ⟨_, rfl⟩
      rw [hz] at a0 a1
      have HT := Lib.hid (ofO_take (s := s) hkL hz)
      have hlt' : (k : Int) < n := by omega
      have c0 := xr.cell hb a0
      have c1 := xr.cell hb a1
      have HM : Hid ((ofO s (L.take k)).length ≤ n) := Lib.hid (Nat.le_trans (ofO_len _ _) (by rw [List.length_take]; omega))
      clear hz hkL a0 a1
      generalize ofO s (L.take k) = M at hown HT HM
      have HW := Lib.hid (And.intro hown xr)
      cases hs : ofI s z.id with
      | false =>
        have HE : Hid (ofO s (L.take (k + 1)) = M) := Lib.hid (by rw [HT.out, hs]; rfl)
        have HC := Lib.hid (rob_of z.id s wr)
        rw [hs] at HC
        obtain ⟨zi, za, zn, zc, zf⟩ := z
        simp only at c0 c1 HC
        clear HT hs hown xr
        go_wp2_with fail
        refine HC.out.mono ?_; rintro e w1 ⟨rfl, hw1⟩
        rw [hw1]; clear hw1
        go_wp2
        go_roundw
        case rel => exact ⟨k + 1, by omega, by go_num, by rw [HE.out]; exact HW.out.1, HW.out.2⟩
        case measure => simp [intOf]; omega
      | true =>
        have HE : Hid (ofO s (L.take (k + 1)) = M ++ [z]) := Lib.hid (by rw [HT.out, hs]; rfl)
        have HC := Lib.hid (rob_of z.id s wr)
        rw [hs] at HC
        have HZ : Hid (∃ zz, zz = z) := Lib.hid ⟨z, rfl⟩
        obtain ⟨zi, za, zn, zc, zf⟩ := z
        simp only at c0 c1 HC
        have hcell := heap_alloc_new wr (.cells #[.int .i64 zi, .slice za zn zc] 49)
        have hbase : B ≤ (wr.alloc (.cells #[.int .i64 zi, .slice za zn zc] 49)).heap.size := by rw [HB.out]; simp; have := xr.size; omega
        clear HT hs xr
        go_wp2_with fail
        refine HC.out.mono ?_; rintro e w1 ⟨rfl, hw1⟩
        rw [hw1]; clear hw1
        go_wp2_with (at_builtin; refine wpList_append_el rfl _ _ 22 rfl B 49 ii (.agg #[.int .i64 0, .slice none 0 0]) 32 Try.underlying22 hii hz0 hz1 hz2 rfl (by decide) _ M.length M rfl (own_ext hown (Ext.alloc wr _)) wr.heap.size #[.int .i64 zi, .slice za zn zc] 49 (0, 0) ⟨zi, za, zn, zc, zf⟩ rfl hcell rfl rfl (by simp [obL, Value.oneCell']) (by have := HM.out; unfold maxLen; omega) (by have := HM.out; omega) hbase ?_; intro v2 w2 hown2 hb2)
        go_roundw
        case rel => exact ⟨k + 1, by omega, by go_num, by rw [HE.out, List.length_append]; exact hown2, Below.trans (HW.out.2.trans (Ext.alloc _ _)) (by rw [← HB.out]; exact hb2)⟩
        case measure => simp [intOf]; omega
    · have hkn : k = n := by omega
      rw [List.take_of_length_le (by rw [HL.out]; omega)] at hown
      obtain ⟨b, q, rfl, h1, h2, h3, h4⟩ := HoldsL.of_own obL_length hown rfl
      have HF := Lib.hid (And.intro h1 (And.intro h2 (And.intro h3 h4)))
      clear h1 h2 h3 h4 hown
      go_wp2
      go_ret
      exact ⟨b, q, rfl, ⟨rfl, HF.out.2.2.1, HF.out.1, HF.out.2.1, fun z hz => (HA.out.each z (List.mem_filter.1 hz).1).ext xr⟩, fun p hp => by rw [← HB.out]; exact HF.out.2.2.2 p hp, xr⟩
theorem atO_step {id : Int} {L : List Ob} {k : Nat} {z : Ob} (hk : k < L.length) (e : L[k] = z) : atO id (L.drop k) = if z.id = id then L.drop k else atO id (L.drop (k + 1)) := by
  rw [List.drop_eq_getElem_cons hk, e]; rfl
theorem ObjsAt.drop {w : World} {b o n c : Nat} {L : List Ob} (h : ObjsAt w (some ⟨b, o, none⟩) n c L) {k : Nat} (hk : k ≤ n) : ObjsAt w (some ⟨b, o + k * 2, none⟩) (n - k) (c - k) (L.drop k) :=
  ⟨by rw [List.length_drop, h.len], h.h.dropL k, by have := h.l; omega, by have := h.m; omega, fun z hz => h.each z (List.mem_of_mem_drop hz)⟩
set_option maxHeartbeats 2000000 in
theorem rfrom20_any (a : Option Addr) (n c : Nat) (L : List Ob) (s id : Int) (w : World) (h : ObjsAt w a n c L) (hn : n ≤ 1000000) :
    Calls Try.prog 37 #[.slice a n c, .int .i64 s, .int .i64 id] w fun e w' => ∃ b q, e = .returned (.slice b (fromO s id L).length q) ∧ ObjsAt w' b (fromO s id L).length q (fromO s id L) ∧ Ext w w' := by
  have HC := Lib.hid (rof20_any a n c L s w h hn)
  have HR : Hid (fromO s id L = if atO id (ofO s L) = [] then ofO s L else atO id (ofO s L)) := Lib.hid rfl
  have HL : Hid ((ofO s L).length ≤ n) := Lib.hid (by rw [← h.len]; exact ofO_len _ _)
  generalize ofO s L = M at HC HR HL
  generalize fromO s id L = R at HR ⊢
  clear h
  go_enter Try.func37, Try.ntmps37
  go_wp2_with fail
  refine HC.out.mono ?_; rintro e w1 ⟨b, q, rfl, h1, -, x1⟩
  have HM := Lib.hid h1
  have HX := Lib.hid x1
  obtain ⟨m, hm⟩ : ∃ m, M.length = m := ⟨_, rfl⟩
  rw [hm] at h1 HL ⊢
  have Hm := Lib.hid hm
  have l1 : (m : Int) ≤ q := by have := h1.l; omega
  have l2 : (q : Int) ≤ 9223372036854775807 := by have := h1.m; unfold maxLen at this; omega
  clear h1 x1 hm HC
  go_wp2
  go_loopw [8] (fun iv wr => ∃ k : Nat, k ≤ m ∧ iv = .int .i64 k ∧ wr = w1 ∧ atO id M = atO id (M.drop k)) (fun iv _ => m - (intOf iv).toNat)
  case atStart => exact ⟨0, Nat.zero_le _, rfl, rfl, rfl⟩
  case round =>
    obtain ⟨k, hk, rfl, rfl, hRk⟩ := hrel
    by_cases hlt : k < m
    · have hkL : k < M.length := by rw [Hm.out]; exact hlt
      obtain ⟨g, o, rfl, hb, -⟩ := HM.out.h.resolve_left (by intro e; rw [e] at hkL; simp at hkL)
      obtain ⟨a0, -⟩ := HM.out.h.ob_at k hkL
      obtain ⟨z, hz⟩ : ∃ z, M[k] = z := ⟨_, rfl⟩
      rw [hz] at a0
      have HS := Lib.hid (hRk.trans (atO_step hkL hz))
      have hlt' : (k : Int) < m := by omega
      clear hRk hz
      obtain ⟨zi, za, zn, zc, zf⟩ := z
      simp only at a0 HS
      by_cases hi : zi = id
      · have HE : Hid (R = M.drop k) := Lib.hid (by
          have e1 : atO id M = M.drop k := by rw [HS.out, if_pos hi]
          have e2 : M.drop k ≠ [] := by rw [List.drop_eq_getElem_cons hkL]; exact List.cons_ne_nil _ _
          rw [HR.out, e1, if_neg e2])
        have b0 : (zi == id) = true := by simpa using hi
        have k1 : (k : Int) ≤ m := by omega
        have k2 : ¬ q = k := by omega
        clear HS hi hkL
        go_wp2
        go_ret
        rw [HE.out]
        exact ⟨_, _, by rw [List.length_drop, Hm.out]; rfl, by rw [List.length_drop]; exact (HM.out.drop (by rw [Hm.out]; omega)), HX.out⟩
      · have HE : Hid (atO id M = atO id (M.drop (k + 1))) := Lib.hid (by rw [HS.out, if_neg hi])
        have b0 : (zi == id) = false := by simpa using hi
        clear HS hi hkL
        go_wp2
        go_roundw
        case rel => exact ⟨k + 1, by omega, by go_num, by trivial, HE.out⟩
        case measure => simp [intOf]; omega
    · have hkn : k = m := by omega
      have HE : Hid (R = M) := Lib.hid (by rw [HR.out, hRk, List.drop_of_length_le (by rw [Hm.out]; omega)]; rfl)
      clear hRk
      go_wp2
      go_ret
      rw [HE.out]
      exact ⟨b, q, by rw [Hm.out]; rfl, HM.out, HX.out⟩
theorem sameO_step {L M : List Ob} {k : Nat} {x y : Ob} (hk : k < L.length) (hk' : k < M.length) (e : L[k] = x) (e' : M[k] = y) : sameO (L.drop k) (M.drop k) = (decide (x.id = y.id) && eqB x.n y.n x.f y.f && sameO (L.drop (k + 1)) (M.drop (k + 1))) := by
  rw [List.drop_eq_getElem_cons hk, List.drop_eq_getElem_cons hk', e, e']; rfl
set_option maxHeartbeats 4000000 in
theorem rsame20_any (a b : Option Addr) (n m c d : Nat) (L M : List Ob) (w : World) (ha : ObjsAt w a n c L) (hb : ObjsAt w b m d M) (fa : ObjF L) (fb : ObjF M) :
    Calls Try.prog 32 #[.slice a n c, .slice b m d] w fun e w' => e = .returned (.bool (sameO L M)) ∧ ∃ q, w' = w.drewN q := by
  by_cases hnm : n = m
  · subst hnm
    obtain ⟨R, hR⟩ : ∃ R, R = sameO L M := ⟨_, rfl⟩
    rw [← hR]
    have HR := Lib.hid hR
    have HA := Lib.hid ha
    have HB := Lib.hid hb
    have HF := Lib.hid (And.intro fa fb)
    have HL := Lib.hid ha.len
    have HM := Lib.hid hb.len
    have hn : n ≤ 100000 := by rw [← ha.len]; exact fa.n
    clear hR ha hb fa fb
    go_enter Try.func32, Try.ntmps32
    go_wp2
    go_loopw [5] (fun iv wr => ∃ k : Nat, k ≤ n ∧ iv = .int .i64 k ∧ (∃ q, wr = w.drewN q) ∧ R = sameO (L.drop k) (M.drop k)) (fun iv _ => n - (intOf iv).toNat)
    case atStart => exact ⟨0, Nat.zero_le _, rfl, ⟨0, rfl⟩, HR.out⟩
    case round =>
      obtain ⟨k, hk, rfl, hwr, hRk⟩ := hrel
      have HW := Lib.hid hwr
      have xr : Ext w wr := by obtain ⟨q, hq⟩ := hwr; rw [hq]; exact below_drewN (Below.refl _ _) q
      clear hwr
      by_cases hlt : k < n
      · have hkL : k < L.length := by rw [HL.out]; exact hlt
        have hkM : k < M.length := by rw [HM.out]; exact hlt
        obtain ⟨g, o, rfl, hp, -⟩ := HA.out.h.resolve_left (by intro e; rw [e] at hkL; simp at hkL)
        obtain ⟨g', o', rfl, hp', -⟩ := HB.out.h.resolve_left (by intro e; rw [e] at hkM; simp at hkM)
        obtain ⟨a0, a1⟩ := HA.out.h.ob_at k hkL
        obtain ⟨b0, b1⟩ := HB.out.h.ob_at k hkM
        have ea := HA.out.each L[k] (List.getElem_mem _)
        have eb := HB.out.each M[k] (List.getElem_mem _)
        have fa := HF.out.1.e L[k] (List.getElem_mem _)
        have fb := HF.out.2.e M[k] (List.getElem_mem _)
        obtain ⟨x, hx⟩ : ∃ x, L[k] = x := ⟨_, rfl⟩
        obtain ⟨y, hy⟩ : ∃ y, M[k] = y := ⟨_, rfl⟩
        rw [hx] at a0 a1 ea fa
        rw [hy] at b0 b1 eb fb
        have HD := Lib.hid (hRk.trans (sameO_step hkL hkM hx hy))
        have c0 := xr.cell hp a0
        have c1 := xr.cell hp a1
        have d0 := xr.cell hp' b0
        have d1 := xr.cell hp' b1
        have HS := Lib.hid (fun r => bytes_any x.a y.a x.n y.n x.c y.c x.f y.f (wr.drewN r) (ea.h.ext (xr.trans (below_drewN (Below.refl _ _) r))) (eb.h.ext (xr.trans (below_drewN (Below.refl _ _) r))) (by omega) (by omega))
        have hlt' : (k : Int) < n := by omega
        clear a0 a1 b0 b1 ea eb fa fb hRk hx hy hkL hkM
        obtain ⟨xi, xa, xn, xc, xf⟩ := x
        obtain ⟨yi, ya, yn, yc, yf⟩ := y
        simp only at c0 c1 d0 d1 HD HS
        by_cases hi : xi = yi
        · have b1 : (xi != yi) = false := by simpa using hi
          have HD2 := Lib.hid (show R = (eqB xn yn xf yf && sameO (L.drop (k + 1)) (M.drop (k + 1))) by rw [HD.out, decide_eq_true hi, Bool.true_and])
          generalize eqB xn yn xf yf = T at HS HD2
          clear HD hi
          clear xr
          go_wp2_with fail
          go_quiet ((go_at_call 14; exact Calls.quiet_of (HS.out _)))
          have HX : Hid (∃ q, wr.drewN nq = w.drewN q) := Lib.hid (by obtain ⟨q, hq⟩ := HW.out; exact ⟨q + nq, by rw [hq]; simp⟩)
          cases T
          · go_wp2
            go_ret
            exact ⟨by rw [HD2.out]; rfl, HX.out⟩
          · have HD3 : Hid (R = sameO (L.drop (k + 1)) (M.drop (k + 1))) := Lib.hid (by rw [HD2.out, Bool.true_and])
            clear HD2
            go_wp2
            go_roundw
            case rel => exact ⟨k + 1, by omega, by go_num, HX.out, HD3.out⟩
            case measure => simp [intOf]; omega
        · have b1 : (xi != yi) = true := by simpa using hi
          have HD2 := Lib.hid (show R = false by rw [HD.out, decide_eq_false hi]; rfl)
          clear HD hi HS xr
          go_wp2_with fail
          go_quiet (fail)
          have HX : Hid (∃ q, wr.drewN nq = w.drewN q) := Lib.hid (by obtain ⟨q, hq⟩ := HW.out; exact ⟨q + nq, by rw [hq]; simp⟩)
          go_wp2
          go_ret
          exact ⟨by rw [HD2.out]; rfl, HX.out⟩
      · have HR1 : Hid (R = true) := Lib.hid (by rw [hRk, List.drop_of_length_le (by rw [HL.out]; omega), List.drop_of_length_le (by rw [HM.out]; omega)]; rfl)
        clear hRk
        go_wp2
        go_ret
        exact ⟨by rw [HR1.out]; rfl, HW.out⟩
  · have HE : Hid (sameO L M = false) := Lib.hid (sameO_len_ne (by rw [ha.len, hb.len]; exact hnm))
    have hne : ((n : Int) != (m : Int)) = true := by simp; omega
    clear ha hb fa fb hnm
    go_enter Try.func32, Try.ntmps32
    go_wp2
    go_ret
    exact ⟨by rw [HE.out]; rfl, 0, rfl⟩
end Go.Proofs.Ythdkhdbabohohaa
