/-
  CONTRACTS: bilgeref21 (layer 21): size, Right, Same.
-/
import Derived.Test.YthdkhdbabohohaaIde
namespace Go.Proofs.Ythdkhdbabohohaa
open Go.RowKit
set_option linter.unusedVariables false
set_option maxRecDepth 100000

theorem lenO_drop {L : List Ob} {k : Nat} (hk : k < L.length) : lenO (L.drop k) = 2 + (L[k]).n + lenO (L.drop (k + 1)) := by
  rw [List.drop_eq_getElem_cons hk]; rfl
theorem rsize21_any (a : Option Addr) (n c : Nat) (L : List Ob) (w : World) (h : ObjsAt w a n c L) (f : ObjF L) :
    Calls Try.prog 48 #[.slice a n c] w fun e w' => e = .returned (.int .i64 (6 + (lenO L : Int))) ∧ w' = w := by
  have HA := Lib.hid h
  have HL := Lib.hid h.len
  have hn : n ≤ 100000 := by rw [← h.len]; exact f.n
  have HF := Lib.hid f
  clear h f
  go_enter Try.func48, Try.ntmps48
  go_wp2
  go_loopw [3, 4] (fun sv iv wr => ∃ k s : Nat, k ≤ n ∧ iv = .int .i64 k ∧ sv = .int .i64 s ∧ wr = w ∧ 6 + lenO L = s + lenO (L.drop k) ∧ s ≤ 6 + k * 1000002) (fun _ iv _ => n - (intOf iv).toNat)
  case atStart => exact ⟨0, 6, Nat.zero_le _, rfl, rfl, rfl, by simp, Nat.le_refl _⟩
  case round =>
    obtain ⟨k, s, hk, rfl, rfl, rfl, hsum, hsb⟩ := hrel
    by_cases hlt : k < n
    · have hkL : k < L.length := by rw [HL.out]; exact hlt
      obtain ⟨p, o, rfl, hp, -⟩ := HA.out.h.resolve_left (by intro e; rw [e] at hkL; simp at hkL)
      obtain ⟨-, a1⟩ := HA.out.h.ob_at k hkL
      have hb := HF.out.e _ (List.getElem_mem hkL)
      have hdr : 6 + lenO L = (s + 2 + (L[k]).n) + lenO (L.drop (k + 1)) := by rw [hsum, lenO_drop hkL]; omega
      have HD := Lib.hid hdr
      generalize L[k] = z at a1 hb HD
      obtain ⟨zi, za, zn, zc, zf⟩ := z
      simp only at a1 hb HD
      have hlt' : (k : Int) < n := by omega
      have e0 : IntKind.i64.wrap ((s : Int) + 2) = s + 2 := IntWalk.i64_in _ (by omega)
      have e1 : IntKind.i64.wrap ((s : Int) + 2 + zn) = s + 2 + zn := IntWalk.i64_in _ (by omega)
      have HQ := Lib.hid (And.intro hsb hb)
      clear hsum hdr hkL hsb hb
      go_wp2
      go_roundw
      case rel => exact ⟨k + 1, s + 2 + zn, by omega, by go_num, by simp, by trivial, HD.out, by have := HQ.out.1; have := HQ.out.2; omega⟩
      case measure => simp [intOf]; omega
    · have hz : 6 + lenO L = s := by rw [hsum, List.drop_of_length_le (by rw [HL.out]; omega)]; rfl
      have HE : Hid ((6 : Int) + (lenO L : Int) = s) := Lib.hid (by omega)
      clear hsum hz hsb
      go_wp2
      go_ret
      exact ⟨by rw [HE.out]; rfl, rfl⟩
theorem allD_drop {L : List Ob} {k : Nat} (hk : k < L.length) : allD (L.drop k) = (okD L[k] && allD (L.drop (k + 1))) := by
  rw [List.drop_eq_getElem_cons hk]; rfl
set_option maxHeartbeats 4000000 in
theorem rright21_any (P : Prt) (a : Option Addr) (n c : Nat) (w : World) (h : PrtAt w P a n c) (f : ObjF P.L) :
    Calls Try.prog 29 #[.agg (prC P a n c)] w fun e w' => e = .returned (.bool (rightP P)) ∧ Ext w w' := by
  obtain ⟨W0, hW0, x0, HG⟩ : ∃ W0, W0 = w.alloc (.cells (prC P a n c) 33) ∧ Ext w W0 ∧ Hid (∀ W, Ext W0 W → W.heap[w.heap.size]? = some (.cells (prC P a n c) 33 (0, 0))) := ⟨_, rfl, Ext.alloc _ _, Lib.hid (fun W x => x.block (heap_alloc_new _ _))⟩
  have HC := Lib.hid (fun W (x : Ext W0 W) => (⟨cell_of_heap (HG.out W x) rfl, cell_of_heap (HG.out W x) rfl, cell_of_heap (HG.out W x) rfl, cell_of_heap (HG.out W x) rfl, cell_of_heap (HG.out W x) rfl⟩ :
    W.cell? ⟨w.heap.size, 0, none⟩ = some (.int .i64 P.co) ∧ W.cell? ⟨w.heap.size, 1, none⟩ = some (.int .i64 P.lv) ∧ W.cell? ⟨w.heap.size, 2, none⟩ = some (.bool P.mo) ∧ W.cell? ⟨w.heap.size, 3, none⟩ = some (.int .i64 P.nx) ∧ W.cell? ⟨w.heap.size, 4, none⟩ = some (.slice a n c)))
  have HA := Lib.hid (h.o.ext x0)
  have HL := Lib.hid h.o.len
  have hn : n ≤ 100000 := by rw [← h.o.len]; exact f.n
  have HF := Lib.hid f
  have HX := Lib.hid x0
  have hlw : w.heap.size < W0.heap.size := by rw [hW0]; simp
  obtain ⟨R, hR⟩ : ∃ R, R = allD P.L := ⟨_, rfl⟩
  have HR := Lib.hid hR
  clear h f x0 hR
  go_enter Try.func29, Try.ntmps29
  go_upto_region 1 with fail
  rw [← hW0]
  clear hW0
  go_wp2_with fail
  go_loopw [3] (fun iv wr => ∃ k : Nat, k ≤ n ∧ iv = .int .i64 k ∧ Ext W0 wr ∧ R = allD (P.L.drop k)) (fun iv _ => n - (intOf iv).toNat)
  case atStart => exact ⟨0, Nat.zero_le _, rfl, Ext.refl _, HR.out⟩
  case round =>
    obtain ⟨k, hk, rfl, xr, hRk⟩ := hrel
    obtain ⟨c0, c1, c2, c3, c4⟩ := HC.out wr xr
    by_cases hlt : k < n
    · have hkL : k < P.L.length := by rw [HL.out]; exact hlt
      obtain ⟨p, o, rfl, hp, -⟩ := HA.out.h.resolve_left (by intro e; rw [e] at hkL; simp at hkL)
      obtain ⟨a0, a1⟩ := HA.out.h.ob_at k hkL
      have hdr := hRk.trans (allD_drop hkL)
      have HD := Lib.hid hdr
      generalize P.L[k] = z at a0 a1 HD
      obtain ⟨I, hI⟩ : ∃ I, z.id = I := ⟨_, rfl⟩
      obtain ⟨N, hN⟩ : ∃ N, z.n = N := ⟨_, rfl⟩
      rw [hI] at a0
      rw [hN] at a1
      have e0 := xr.cell hp a0
      have e1 := xr.cell hp a1
      have HO : Hid (okD z = decide (0 ≤ I ∧ I ≤ 255 ∧ N ≤ 240)) := Lib.hid (by unfold okD; rw [hI, hN])
      have hlt' : (k : Int) < n := by omega
      have xa : Ext W0 (wr.alloc (.cells #[.int .i64 I, .slice z.a N z.c] 49)) := xr.trans (Ext.alloc _ _)
      have HXA := Lib.hid xa
      clear hRk hdr hI hN a0 a1 hkL xa c0 c1 c2 c3
      by_cases hok : 0 ≤ I ∧ I ≤ 255 ∧ N ≤ 240
      · have HT : Hid (R = allD (P.L.drop (k + 1))) := Lib.hid (by rw [HD.out, HO.out, decide_eq_true hok, Bool.true_and])
        have g0 : ¬ I < 0 := by omega
        have g1 : ¬ 255 < I := by omega
        have g2 : ¬ (240 : Int) < N := by omega
        clear HD HO hok
        go_wp2
        go_roundw
        case rel => exact ⟨k + 1, by omega, by go_num, HXA.out, HT.out⟩
        case measure => simp [intOf]; omega
      · have HT : Hid (rightP P = false) := Lib.hid (by unfold rightP; rw [← HR.out, HD.out, HO.out, decide_eq_false hok]; rfl)
        clear HD HO
        rcases (show I < 0 ∨ (¬ I < 0 ∧ 255 < I) ∨ (¬ I < 0 ∧ ¬ 255 < I ∧ (240 : Int) < N) by omega) with j | ⟨j, j1⟩ | ⟨j, j1, j2⟩
        all_goals
          clear hok
          go_wp2
          go_ret
          exact ⟨by rw [HT.out]; rfl, HX.out.trans HXA.out⟩
    · have HT : Hid (rightP P = (decide (1 ≤ P.co ∧ P.co ≤ 4 ∧ 1 ≤ P.lv ∧ P.lv ≤ 3) && (nxB P && decide (P.L.length ≤ 255 ∧ 6 + lenO P.L ≤ 252)))) := Lib.hid (by
        have e : R = true := by rw [hRk, List.drop_of_length_le (by rw [HL.out]; omega)]; rfl
        unfold rightP; rw [← HR.out, e, Bool.true_and])
      have HZ := Lib.hid (fun W (x : Ext W0 W) => rsize21_any a n c P.L W (HA.out.ext x) HF.out)
      have HXr := Lib.hid (HX.out.trans xr)
      obtain ⟨N, hN⟩ : ∃ N, nxB P = N := ⟨_, rfl⟩
      obtain ⟨S, hS⟩ : ∃ S, 6 + lenO P.L = S := ⟨_, rfl⟩
      have hS' : (6 : Int) + (lenO P.L : Int) = S := by omega
      rw [hN, hS, HL.out] at HT
      rw [hS'] at HZ
      have HN := Lib.hid hN
      clear hRk hN hS hS'
      obtain ⟨MO, hMO⟩ : ∃ MO, P.mo = MO := ⟨_, rfl⟩
      obtain ⟨NX, hNX⟩ : ∃ NX, P.nx = NX := ⟨_, rfl⟩
      have HNX : Hid (N = if MO = true then decide (0 ≤ NX ∧ NX ≤ 255) else decide (NX = 0)) := Lib.hid (by rw [← HN.out]; unfold nxB; rw [hMO, hNX])
      rw [hMO] at c2
      rw [hNX] at c3
      clear hMO hNX
      go_upto_if 36 with fail
      go_cut [5] from 36 to 44 (fun v wx => v = .bool N ∧ wx = wr)
      case first =>
        cases MO
        · have HE : Hid (N = (NX == 0)) := Lib.hid (by
            rw [HNX.out, if_neg (by decide)]
            by_cases e : NX = 0
            · rw [e]; rfl
            · rw [decide_eq_false e]; exact (by simpa using e : (NX == 0) = false).symm)
          go_wp2
          go_meet
          exact ⟨by rw [HE.out], by trivial⟩
        · by_cases h0 : 0 ≤ NX
          · have HE : Hid (N = decide (NX ≤ 255)) := Lib.hid (by rw [HNX.out, if_pos rfl]; exact decide_eq_decide.2 ⟨fun h => h.2, fun h => ⟨h0, h⟩⟩)
            go_wp2
            go_meet
            exact ⟨by rw [HE.out], by trivial⟩
          · have HE : Hid (N = false) := Lib.hid (by rw [HNX.out, if_pos rfl]; exact decide_eq_false (fun h => h0 h.1))
            go_wp2
            go_meet
            exact ⟨by rw [HE.out], by trivial⟩
      case rest =>
        obtain ⟨rfl, hwc⟩ := hcut
        rw [hwc]
        clear hwc HN HNX
        obtain ⟨C, hC⟩ : ∃ C, P.co = C := ⟨_, rfl⟩
        obtain ⟨V, hV⟩ : ∃ V, P.lv = V := ⟨_, rfl⟩
        rw [hC] at c0
        rw [hV] at c1
        rw [hC, hV] at HT
        clear hC hV
        have fin : ∀ B : Bool, (decide (1 ≤ C ∧ C ≤ 4 ∧ 1 ≤ V ∧ V ≤ 3) && (N && decide (n ≤ 255 ∧ S ≤ 252))) = B → rightP P = B := fun B hB => by rw [HT.out, hB]
        have HFin := Lib.hid fin
        clear fin
        by_cases g1 : 1 ≤ C
        · by_cases g2 : C ≤ 4
          · by_cases g3 : 1 ≤ V
            · by_cases g4 : V ≤ 3
              · cases N
                · have HE := Lib.hid (HFin.out false (by simp))
                  go_wp2
                  go_ret
                  exact ⟨by rw [HE.out]; rfl, HXr.out⟩
                · by_cases g5 : n ≤ 255
                  · have g5' : (n : Int) ≤ 255 := by omega
                    have HE := Lib.hid (HFin.out (decide ((S : Int) ≤ 252)) (by rw [decide_eq_true ⟨g1, g2, g3, g4⟩, Bool.true_and, Bool.true_and]; exact decide_eq_decide.2 ⟨fun h => by omega, fun h => ⟨g5, by omega⟩⟩))
                    go_wp2_with fail
                    refine (HZ.out wr xr).mono ?_; rintro e w9 ⟨rfl, hw9⟩
                    rw [hw9]; clear hw9
                    go_wp2
                    go_ret
                    exact ⟨by rw [HE.out]; rfl, HXr.out⟩
                  · have g5' : ¬ (n : Int) ≤ 255 := by omega
                    have HE := Lib.hid (HFin.out false (by rw [decide_eq_false (p := n ≤ 255 ∧ S ≤ 252) (fun h => g5 h.1)]; simp))
                    go_wp2
                    go_ret
                    exact ⟨by rw [HE.out]; rfl, HXr.out⟩
              · have HE := Lib.hid (HFin.out false (by rw [decide_eq_false (fun h => g4 h.2.2.2)]; rfl))
                go_wp2
                go_ret
                exact ⟨by rw [HE.out]; rfl, HXr.out⟩
            · have HE := Lib.hid (HFin.out false (by rw [decide_eq_false (fun h => g3 h.2.2.1)]; rfl))
              go_wp2
              go_ret
              exact ⟨by rw [HE.out]; rfl, HXr.out⟩
          · have HE := Lib.hid (HFin.out false (by rw [decide_eq_false (fun h => g2 h.2.1)]; rfl))
            go_wp2
            go_ret
            exact ⟨by rw [HE.out]; rfl, HXr.out⟩
        · have HE := Lib.hid (HFin.out false (by rw [decide_eq_false (fun h => g1 h.1)]; rfl))
          go_wp2
          go_ret
          exact ⟨by rw [HE.out]; rfl, HXr.out⟩
set_option maxHeartbeats 4000000 in
theorem rsame21_any (P Q : Prt) (a b : Option Addr) (n m c d : Nat) (w : World) (hp : PrtAt w P a n c) (hq : PrtAt w Q b m d) (fp : ObjF P.L) (fq : ObjF Q.L) :
    Calls Try.prog 15 #[.agg (prC P a n c), .agg (prC Q b m d)] w fun e w' => e = .returned (.bool (sameP P Q)) ∧ Ext w w' := by
  obtain ⟨W0, hW0, x0, HG⟩ : ∃ W0, W0 = (w.alloc (.cells (prC P a n c) 33)).alloc (.cells (prC Q b m d) 33) ∧ Ext w W0 ∧ Hid (W0.heap[w.heap.size]? = some (.cells (prC P a n c) 33 (0, 0)) ∧ W0.heap[w.heap.size + 1]? = some (.cells (prC Q b m d) 33 (0, 0))) :=
    ⟨_, rfl, (Ext.alloc _ _).trans (Ext.alloc _ _), Lib.hid ⟨(heap_alloc_old _ _ (by simp)).trans (heap_alloc_new _ _), heap_new_at _ _ (by simp)⟩⟩
  have c0 : W0.cell? ⟨w.heap.size, 0, none⟩ = some (.int .i64 P.co) := cell_of_heap HG.out.1 rfl
  have c1 : W0.cell? ⟨w.heap.size, 1, none⟩ = some (.int .i64 P.lv) := cell_of_heap HG.out.1 rfl
  have c2 : W0.cell? ⟨w.heap.size, 2, none⟩ = some (.bool P.mo) := cell_of_heap HG.out.1 rfl
  have c3 : W0.cell? ⟨w.heap.size, 3, none⟩ = some (.int .i64 P.nx) := cell_of_heap HG.out.1 rfl
  have c4 : W0.cell? ⟨w.heap.size, 4, none⟩ = some (.slice a n c) := cell_of_heap HG.out.1 rfl
  have d0 : W0.cell? ⟨w.heap.size + 1, 0, none⟩ = some (.int .i64 Q.co) := cell_of_heap HG.out.2 rfl
  have d1 : W0.cell? ⟨w.heap.size + 1, 1, none⟩ = some (.int .i64 Q.lv) := cell_of_heap HG.out.2 rfl
  have d2 : W0.cell? ⟨w.heap.size + 1, 2, none⟩ = some (.bool Q.mo) := cell_of_heap HG.out.2 rfl
  have d3 : W0.cell? ⟨w.heap.size + 1, 3, none⟩ = some (.int .i64 Q.nx) := cell_of_heap HG.out.2 rfl
  have d4 : W0.cell? ⟨w.heap.size + 1, 4, none⟩ = some (.slice b m d) := cell_of_heap HG.out.2 rfl
  have HS := Lib.hid (rsame20_any a b n m c d P.L Q.L W0 (hp.o.ext x0) (hq.o.ext x0) fp fq)
  have HX := Lib.hid x0
  have HE : Hid (sameP P Q = (decide (P.co = Q.co) && (decide (P.lv = Q.lv) && (decide (P.mo = Q.mo) && (decide (P.nx = Q.nx) && sameO P.L Q.L))))) := Lib.hid rfl
  generalize sameO P.L Q.L = T at HS HE
  generalize sameP P Q = R at HE ⊢
  obtain ⟨pc, pl, pm, pn, pL⟩ := P
  obtain ⟨qc, ql, qm, qn, qL⟩ := Q
  simp only at c0 c1 c2 c3 d0 d1 d2 d3 HE
  clear hp hq fp fq x0 HG
  have fin : ∀ B : Bool, (decide (pc = qc) && (decide (pl = ql) && (decide (pm = qm) && (decide (pn = qn) && T)))) = B → R = B := fun B hB => by rw [HE.out, hB]
  have HFin := Lib.hid fin
  clear fin HE
  by_cases g1 : pc = qc
  · have b1 : (pc == qc) = true := by simpa using g1
    by_cases g2 : pl = ql
    · have b2 : (pl == ql) = true := by simpa using g2
      by_cases g3 : pm = qm
      · have b3 : (pm == qm) = true := by simpa using g3
        by_cases g4 : pn = qn
        · have b4 : (pn == qn) = true := by simpa using g4
          have HE := Lib.hid (HFin.out T (by rw [decide_eq_true g1, decide_eq_true g2, decide_eq_true g3, decide_eq_true g4]; simp))
          clear g1 g2 g3 g4
          go_enter Try.func15, Try.ntmps15
          go_upto_region 1 with fail
          rw [← hW0]
          clear hW0
          go_wp2_with fail
          refine HS.out.mono ?_; rintro e w9 ⟨rfl, hw9⟩
          have x9 : Ext W0 w9 := by obtain ⟨q, hq⟩ := hw9; rw [hq]; exact below_drewN (Below.refl _ _) q
          clear hw9
          go_wp2
          go_ret
          exact ⟨by rw [HE.out]; rfl, HX.out.trans x9⟩
        · have b4 : (pn == qn) = false := by simpa using g4
          have HE := Lib.hid (HFin.out false (by rw [decide_eq_false g4]; simp))
          clear g1 g2 g3 g4 HS
          go_enter Try.func15, Try.ntmps15
          go_upto_region 1 with fail
          rw [← hW0]
          clear hW0
          go_wp2
          go_ret
          exact ⟨by rw [HE.out]; rfl, HX.out⟩
      · have b3 : (pm == qm) = false := by simpa using g3
        have HE := Lib.hid (HFin.out false (by rw [decide_eq_false g3]; simp))
        clear g1 g2 g3 HS
        go_enter Try.func15, Try.ntmps15
        go_upto_region 1 with fail
        rw [← hW0]
        clear hW0
        go_wp2
        go_ret
        exact ⟨by rw [HE.out]; rfl, HX.out⟩
    · have b2 : (pl == ql) = false := by simpa using g2
      have HE := Lib.hid (HFin.out false (by rw [decide_eq_false g2]; simp))
      clear g1 g2 HS
      go_enter Try.func15, Try.ntmps15
      go_upto_region 1 with fail
      rw [← hW0]
      clear hW0
      go_wp2
      go_ret
      exact ⟨by rw [HE.out]; rfl, HX.out⟩
  · have b1 : (pc == qc) = false := by simpa using g1
    have HE := Lib.hid (HFin.out false (by rw [decide_eq_false g1]; simp))
    clear g1 HS
    go_enter Try.func15, Try.ntmps15
    go_upto_region 1 with fail
    rw [← hW0]
    clear hW0
    go_wp2
    go_ret
    exact ⟨by rw [HE.out]; rfl, HX.out⟩
end Go.Proofs.Ythdkhdbabohohaa
