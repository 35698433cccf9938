/-
  CONTRACTS: bilgeref21 (layer 21): Write.
-/
import Derived.Test.YthdkhdbabohohaaIdeR
import Derived.Test.YthdkhdbabohohaaMidArr
namespace Go.Proofs.Ythdkhdbabohohaa
open Go.RowKit
set_option linter.unusedVariables false
set_option maxRecDepth 100000

theorem Try.info8i : (Try.prog.info? 5).map (fun i => (i.zero, i.size, i.bytes)) = some (some (.int .u8 0), 1, 1) := by kernel_rfl
theorem own_six (w : World) (x0 x1 x2 x3 x4 x5 : Int) (base : Nat) (hb : base ≤ w.heap.size) : (w.alloc (.cells #[.int .u8 x0, .int .u8 x1, .int .u8 x2, .int .u8 x3, .int .u8 x4, .int .u8 x5] 5)).ownsRow base 5 1 (.slice (some ⟨w.heap.size, 0, none⟩) 6 6) 6 [.int .u8 x0, .int .u8 x1, .int .u8 x2, .int .u8 x3, .int .u8 x4, .int .u8 x5] :=
  ⟨rfl, .inr ⟨w.heap.size, 6, _, rfl, hb, heap_alloc_new w _, Nat.le_refl _, by unfold maxLen; omega, rfl, rfl⟩⟩
theorem lst_ofL {k : IntKind} (l : List Int) : lst k (ofL l) l.length = l.map (Value.int k) := by
  unfold lst
  apply List.ext_getElem?
  intro i
  by_cases hi : i < l.length
  · rw [List.getElem?_map, List.getElem?_map, List.getElem?_range hi, List.getElem?_eq_getElem hi]
    simp [ofL, List.getD_eq_getElem?_getD, List.getElem?_eq_getElem hi]
  · rw [List.getElem?_eq_none (by simp; omega), List.getElem?_eq_none (by simp; omega)]
set_option maxHeartbeats 8000000 in
theorem rwrite21_yes (P : Prt) (a : Option Addr) (n c : Nat) (w : World) (h : PrtAt w P a n c) (hr : rightP P = true) :
    Calls Try.prog 11 #[.agg (prC P a n c)] w fun e w' => ∃ b q, e = .returned (.tuple #[.slice b (6 + lenO P.L) q, .bool true]) ∧ Holds .u8 w' b (6 + lenO P.L) (ofL (sayP P)) ∧ 6 + lenO P.L ≤ q ∧ q ≤ maxLen ∧ Fresh w b ∧ Ext w w' := by
  obtain ⟨i8, hi8, hz80, hz81, hz82⟩ := info_parts Try.info8i
  obtain ⟨hd, ⟨q1, q2, q3, q4⟩, hnx, q5, q6⟩ := rightP_iff.1 hr
  obtain ⟨q7, q8⟩ := nxB_bd hnx
  have fL : ObjF P.L := ⟨by omega, fun z hz => by have := (okD_iff.1 (allD_iff.1 hd z hz)).2.2; omega⟩
  obtain ⟨W0, hW0, x0, HG⟩ : ∃ W0, W0 = w.alloc (.cells (prC P a n c) 33) ∧ Ext w W0 ∧ Hid (∀ W, Ext W0 W → W.heap[w.heap.size]? = some (.cells (prC P a n c) 33 (0, 0))) := ⟨_, rfl, Ext.alloc _ _, Lib.hid (fun W x => x.block (heap_alloc_new _ _))⟩
  have HC := Lib.hid (fun W (x : Ext W0 W) => (⟨cell_of_heap (HG.out W x) rfl, cell_of_heap (HG.out W x) rfl, cell_of_heap (HG.out W x) rfl, cell_of_heap (HG.out W x) rfl, cell_of_heap (HG.out W x) rfl⟩ :
    W.cell? ⟨w.heap.size, 0, none⟩ = some (.int .i64 P.co) ∧ W.cell? ⟨w.heap.size, 1, none⟩ = some (.int .i64 P.lv) ∧ W.cell? ⟨w.heap.size, 2, none⟩ = some (.bool P.mo) ∧ W.cell? ⟨w.heap.size, 3, none⟩ = some (.int .i64 P.nx) ∧ W.cell? ⟨w.heap.size, 4, none⟩ = some (.slice a n c)))
  have HA := Lib.hid (h.o.ext x0)
  have HL := Lib.hid h.o.len
  have HRi := Lib.hid (rright21_any P a n c W0 (h.ext x0) fL)
  rw [hr] at HRi
  have HF := Lib.hid (And.intro fL (And.intro hd q6))
  have HX := Lib.hid x0
  have hn : n ≤ 255 := by rw [← h.o.len]; exact q5
  have u1 : IntKind.u8.wrap P.co = P.co := by rw [IntKind.wrap_u8]; omega
  have u2 : IntKind.u8.wrap (128 + P.lv) = 128 + P.lv := by rw [IntKind.wrap_u8]; omega
  have u3 : IntKind.u8.wrap P.nx = P.nx := by rw [IntKind.wrap_u8]; omega
  have u4 : IntKind.u8.wrap (n : Int) = n := by rw [IntKind.wrap_u8]; omega
  have u5 : IntKind.i64.wrap (128 + P.lv) = 128 + P.lv := IntWalk.i64_in _ (by omega)
  obtain ⟨MV, hMV⟩ : ∃ MV, (if P.mo = true then (255 : Int) else 0) = MV := ⟨_, rfl⟩
  obtain ⟨C0, hC0⟩ : ∃ C0, P.co = C0 := ⟨_, rfl⟩
  obtain ⟨V0, hV0⟩ : ∃ V0, P.lv = V0 := ⟨_, rfl⟩
  obtain ⟨X0, hX0⟩ : ∃ X0, P.nx = X0 := ⟨_, rfl⟩
  obtain ⟨MO, hMO⟩ : ∃ MO, P.mo = MO := ⟨_, rfl⟩
  have HH : Hid (headP P = [14, C0, 128 + V0, MV, X0, (n : Int)]) := Lib.hid (by unfold headP; rw [hMV, hC0, hV0, hX0, HL.out])
  have HMV : Hid (MV = if MO = true then 255 else 0) := Lib.hid (by rw [← hMV, hMO])
  rw [hC0] at u1 HC
  rw [hV0] at u2 u5 HC
  rw [hX0] at u3 HC
  rw [hMO] at HC
  have HS0 := Lib.hid (show (sayP P).length = 6 + lenO P.L from sayP_len P)
  have HS : Hid (sayP P = headP P ++ P.L.flatMap sayO) := Lib.hid rfl
  clear h hr hd hnx q1 q2 q3 q4 q5 q6 q7 q8 fL x0 hMV hC0 hV0 hX0 hMO
  go_enter Try.func11, Try.ntmps11
  go_upto_region 1 with fail
  rw [← hW0]
  have hlw : W0.heap.size = w.heap.size + 1 := by rw [hW0]; simp
  clear hW0
  have gR := HG.out W0 (Ext.refl _)
  go_wp2_with (refine wpList_load_row rfl 33 (.tmp 1) rfl w.heap.size rfl 33 (prC P a n c) (0, 0) _ gR Try.underlying33 rfl (by kernel_rfl) ?_)
  clear gR
  refine HRi.out.mono ?_; rintro e w1 ⟨rfl, x1⟩
  obtain ⟨c0, c1, c2, c3, c4⟩ := HC.out w1 x1
  go_upto_if 11 with fail
  go_cut [4] from 11 to 11 (fun v wx => v = .int .u8 MV ∧ wx = w1)
  case first =>
    cases MO
    · have HE : Hid (MV = 0) := Lib.hid HMV.out
      go_wp2
      go_meet
      exact ⟨by rw [HE.out], by trivial⟩
    · have HE : Hid (MV = 255) := Lib.hid HMV.out
      go_wp2
      go_meet
      exact ⟨by rw [HE.out], by trivial⟩
  case rest =>
    obtain ⟨rfl, hwc⟩ := hcut
    rw [hwc]
    clear hwc HMV HRi
    obtain ⟨W2, hW2, x2, HO2⟩ : ∃ W2, W2 = w1.alloc (.cells #[.int .u8 14, .int .u8 C0, .int .u8 (128 + V0), .int .u8 MV, .int .u8 X0, .int .u8 n] 5) ∧ Ext w1 W2 ∧ Hid (∀ base, base ≤ w1.heap.size → W2.ownsRow base 5 1 (.slice (some ⟨w1.heap.size, 0, none⟩) 6 6) 6 [.int .u8 14, .int .u8 C0, .int .u8 (128 + V0), .int .u8 MV, .int .u8 X0, .int .u8 n]) :=
      ⟨_, rfl, Ext.alloc _ _, Lib.hid (fun base hb => own_six w1 _ _ _ _ _ _ base hb)⟩
    go_upto_region 7 with fail
    rw [← hW2]
    clear hW2 c0 c1 c2 c3 c4
    obtain ⟨B, hB0⟩ : ∃ B, B = W0.heap.size := ⟨_, rfl⟩
    have HB0 := Lib.hid hB0
    have HO0 := HO2.out B (by rw [hB0]; exact x1.size)
    have HO00 := Lib.hid HO0
    have x02 := x1.trans x2
    clear hB0 x1 x2 HO0 HO2
    go_wp2_with fail
    go_loopw [5, 6] (fun v iv wr => ∃ k : Nat, k ≤ n ∧ iv = .int .i64 k ∧ (∃ l : List Int, l = headP P ++ (P.L.take k).flatMap sayO ∧ wr.ownsRow B 5 1 v l.length (l.map (Value.int .u8))) ∧ Ext W0 wr) (fun _ iv _ => n - (intOf iv).toNat)
    case atStart => exact ⟨0, Nat.zero_le _, rfl, ⟨headP P, by simp, by rw [HH.out]; exact HO00.out⟩, x02⟩
    case round =>
      obtain ⟨k, hk, rfl, ⟨l, hl, hown⟩, xr⟩ := hrel
      have hll : l.length = 6 + lenO (P.L.take k) := by rw [hl, List.length_append, sayL_len]; rfl
      obtain ⟨-, -, -, -, c4⟩ := HC.out wr xr
      clear x02 HO00
      by_cases hlt : k < n
      · have hkL : k < P.L.length := by rw [HL.out]; exact hlt
        obtain ⟨g, o, rfl, hg, -⟩ := HA.out.h.resolve_left (by intro e; rw [e] at hkL; simp at hkL)
        obtain ⟨a0, a1⟩ := HA.out.h.ob_at k hkL
        have hob := (HA.out.each _ (List.getElem_mem hkL)).h
        have hok := okD_iff.1 (allD_iff.1 HF.out.2.1 _ (List.getElem_mem hkL))
        have htk : P.L.take (k + 1) = P.L.take k ++ [P.L[k]] := List.take_succ_eq_append_getElem hkL
        have hlb : l.length + 2 + (P.L[k]).n ≤ 252 := by
          have h1 : lenO (P.L.take (k + 1)) + lenO (P.L.drop (k + 1)) = lenO P.L := by rw [← lenO_append, List.take_append_drop]
          rw [htk, lenO_append] at h1
          have h2 : lenO [P.L[k]] = 2 + (P.L[k]).n := by simp [lenO]
          have := HF.out.2.2
          omega
        have hl2 : l ++ sayO P.L[k] = headP P ++ (P.L.take (k + 1)).flatMap sayO := by rw [htk, List.flatMap_append, hl]; simp
        generalize P.L[k] = z at a0 a1 hob hok hlb hl2
        obtain ⟨I, A, N, C, f⟩ := z
        simp only at a0 a1 hob hok hlb
        obtain ⟨i0, i1, i2⟩ := hok
        have u1' : IntKind.u8.wrap I = I := by rw [IntKind.wrap_u8]; omega
        have u2' : IntKind.u8.wrap (N : Int) = N := by rw [IntKind.wrap_u8]; omega
        have hlt' : (k : Int) < n := by omega
        have HLN : Hid (l.length + 2 + N ≤ 252) := Lib.hid hlb
        have HL2 : Hid (l ++ (I :: (N : Int) :: (List.range N).map f) = headP P ++ (P.L.take (k + 1)).flatMap sayO) := Lib.hid hl2
        have HC1 := Lib.hid (fun W (x : Ext W0 W) => (⟨(HC.out W x).2.2.2.2, x.cell hg a0, x.cell hg a1⟩ : W.cell? ⟨w.heap.size, 4, none⟩ = some (.slice (some ⟨g, o, none⟩) n c) ∧ W.cell? ⟨g, o + k * 2, none⟩ = some (.int .i64 I) ∧ W.cell? ⟨g, o + k * 2 + 1, none⟩ = some (.slice A N C)))
        have HOB := Lib.hid hob
        have HO := Lib.hid hown
        have HXR := Lib.hid xr
        clear hob hlb hl2 hll hl hown a0 a1 hkL i0 i1 i2 htk hg
        go_upto_region 10 with fail
        obtain ⟨X, hX⟩ : ∃ X, X = wr.drew := ⟨_, rfl⟩
        have hX0 : Ext wr X := by rw [hX]; exact Ext.drew _
        have hs : Ext W0 X := xr.trans hX0
        clear c4
        refine wp_region_held_drew (S := fun W => Ext W0 W) (by kernel_rfl) (by rw [← hX]; exact hs) (fun _ => ?_)
        rw [← hX]
        clear hX
        refine wpAnyH_takeD (i := 0) (d := 35) (v := u5) rfl rfl (by kernel_rfl) (by kernel_rfl) (by kernel_rfl) (fun _ _ _ h => h) (Or.inl ⟨by rfl, fun W hW => by go_simp⟩) hs ?_
        simp only [Act.put, List.setIfInBounds_toArray, List.set_cons_succ, List.set_cons_zero]
        refine wpAnyH_takeD (i := 1) (d := 36) (v := .pointer (some ⟨w.heap.size, 4, none⟩)) rfl rfl (by kernel_rfl) (by kernel_rfl) (by kernel_rfl) (fun _ _ _ h => h) (Or.inl ⟨by rfl, fun W hW => by go_simp⟩) hs ?_
        simp only [Act.put, List.setIfInBounds_toArray, List.set_cons_succ, List.set_cons_zero]
        refine wpAnyH_takeD (i := 2) (d := 37) (v := .slice (some ⟨g, o, none⟩) n c) rfl rfl (by kernel_rfl) (by kernel_rfl) (by kernel_rfl) (fun _ _ _ h => h) (Or.inl ⟨by rfl, fun W hW => by obtain ⟨k0, k1, k2⟩ := HC1.out W hW; go_simp⟩) hs ?_
        simp only [Act.put, List.setIfInBounds_toArray, List.set_cons_succ, List.set_cons_zero]
        refine wpAnyH_takeD (i := 3) (d := 38) (v := .int .i64 k) rfl rfl (by kernel_rfl) (by kernel_rfl) (by kernel_rfl) (fun _ _ _ h => h) (Or.inl ⟨by rfl, fun W hW => by go_simp⟩) hs ?_
        simp only [Act.put, List.setIfInBounds_toArray, List.set_cons_succ, List.set_cons_zero]
        refine wpAnyH_takeD (i := 4) (d := 39) (v := .pointer (some ⟨g, o + k * 2, none⟩)) rfl rfl (by kernel_rfl) (by kernel_rfl) (by kernel_rfl) (fun _ _ _ h => h) (Or.inl ⟨by rfl, fun W hW => by obtain ⟨k0, k1, k2⟩ := HC1.out W hW; go_simp⟩) hs ?_
        simp only [Act.put, List.setIfInBounds_toArray, List.set_cons_succ, List.set_cons_zero]
        refine wpAnyH_takeD (i := 5) (d := 40) (v := .pointer (some ⟨g, o + k * 2, none⟩)) rfl rfl (by kernel_rfl) (by kernel_rfl) (by kernel_rfl) (fun _ _ _ h => h) (Or.inl ⟨by rfl, fun W hW => by go_simp⟩) hs ?_
        simp only [Act.put, List.setIfInBounds_toArray, List.set_cons_succ, List.set_cons_zero]
        refine wpAnyH_takeD (i := 6) (d := 41) (v := .int .i64 I) rfl rfl (by kernel_rfl) (by kernel_rfl) (by kernel_rfl) (fun _ _ _ h => h) (Or.inl ⟨by rfl, fun W hW => by obtain ⟨k0, k1, k2⟩ := HC1.out W hW; go_simp⟩) hs ?_
        simp only [Act.put, List.setIfInBounds_toArray, List.set_cons_succ, List.set_cons_zero]
        refine wpAnyH_takeD (i := 7) (d := 42) (v := .int .u8 I) rfl rfl (by kernel_rfl) (by kernel_rfl) (by kernel_rfl) (fun _ _ _ h => h) (Or.inl ⟨by rfl, fun W hW => by go_simp⟩) hs ?_
        simp only [Act.put, List.setIfInBounds_toArray, List.set_cons_succ, List.set_cons_zero]
        refine wpAnyH_takeD (i := 8) (d := 43) (v := .pointer (some ⟨w.heap.size, 4, none⟩)) rfl rfl (by kernel_rfl) (by kernel_rfl) (by kernel_rfl) (fun _ _ _ h => h) (Or.inl ⟨by rfl, fun W hW => by go_simp⟩) hs ?_
        simp only [Act.put, List.setIfInBounds_toArray, List.set_cons_succ, List.set_cons_zero]
        refine wpAnyH_takeD (i := 9) (d := 44) (v := .slice (some ⟨g, o, none⟩) n c) rfl rfl (by kernel_rfl) (by kernel_rfl) (by kernel_rfl) (fun _ _ _ h => h) (Or.inl ⟨by rfl, fun W hW => by obtain ⟨k0, k1, k2⟩ := HC1.out W hW; go_simp⟩) hs ?_
        simp only [Act.put, List.setIfInBounds_toArray, List.set_cons_succ, List.set_cons_zero]
        refine wpAnyH_takeD (i := 10) (d := 45) (v := .int .i64 k) rfl rfl (by kernel_rfl) (by kernel_rfl) (by kernel_rfl) (fun _ _ _ h => h) (Or.inl ⟨by rfl, fun W hW => by go_simp⟩) hs ?_
        simp only [Act.put, List.setIfInBounds_toArray, List.set_cons_succ, List.set_cons_zero]
        refine wpAnyH_takeD (i := 11) (d := 46) (v := .pointer (some ⟨g, o + k * 2, none⟩)) rfl rfl (by kernel_rfl) (by kernel_rfl) (by kernel_rfl) (fun _ _ _ h => h) (Or.inl ⟨by rfl, fun W hW => by obtain ⟨k0, k1, k2⟩ := HC1.out W hW; go_simp⟩) hs ?_
        simp only [Act.put, List.setIfInBounds_toArray, List.set_cons_succ, List.set_cons_zero]
        refine wpAnyH_takeD (i := 12) (d := 47) (v := .pointer (some ⟨g, o + k * 2 + 1, none⟩)) rfl rfl (by kernel_rfl) (by kernel_rfl) (by kernel_rfl) (fun _ _ _ h => h) (Or.inl ⟨by rfl, fun W hW => by go_simp⟩) hs ?_
        simp only [Act.put, List.setIfInBounds_toArray, List.set_cons_succ, List.set_cons_zero]
        refine wpAnyH_takeD (i := 13) (d := 48) (v := .slice A N C) rfl rfl (by kernel_rfl) (by kernel_rfl) (by kernel_rfl) (fun _ _ _ h => h) (Or.inl ⟨by rfl, fun W hW => by obtain ⟨k0, k1, k2⟩ := HC1.out W hW; go_simp⟩) hs ?_
        simp only [Act.put, List.setIfInBounds_toArray, List.set_cons_succ, List.set_cons_zero]
        refine wpAnyH_takeD (i := 14) (d := 49) (v := .int .i64 N) rfl rfl (by kernel_rfl) (by kernel_rfl) (by kernel_rfl) (fun _ _ _ h => h) (Or.inl ⟨by rfl, fun W hW => by go_simp⟩) hs ?_
        simp only [Act.put, List.setIfInBounds_toArray, List.set_cons_succ, List.set_cons_zero]
        refine wpAnyH_takeD (i := 15) (d := 50) (v := .int .u8 N) rfl rfl (by kernel_rfl) (by kernel_rfl) (by kernel_rfl) (fun _ _ _ h => h) (Or.inl ⟨by rfl, fun W hW => by go_simp⟩) hs ?_
        simp only [Act.put, List.setIfInBounds_toArray, List.set_cons_succ, List.set_cons_zero]
        refine wpAnyH_ready (rs := [16]) (by kernel_rfl) (by simp) (AllReadyH.cons rfl (fun K hK => ?_) AllReadyH.nil)
        go_simp
        refine hK.out _ _ (Ext.trans hs (Ext.alloc _ _)) (fun hs => ?_)
        clear hK K
        refine wpAnyH_ready (rs := [17]) (by kernel_rfl) (by simp) (AllReadyH.cons rfl (fun K hK => ?_) AllReadyH.nil)
        refine step_appendM rfl (.tmp 35) (.tmp 51) 25 rfl B 5 i8 (.int .u8 0) 1 Try.underlying25 hi8 hz80 hz81 hz82 rfl u5 l.length (l.map (Value.int .u8)) (by rfl) (own_ext HO.out (hX0.trans (Ext.alloc _ _))) (some ⟨X.heap.size, 0, none⟩) 2 2 (ofL [I, N]) (by rfl) (Holds.lit X [I, (N : Int)] 5 _ rfl 2 rfl) (fun _ => rfl) (by have := HLN.out; unfold maxLen; omega) (by have := HLN.out; omega) (by rw [HB0.out]; have := HXR.out.size; have := hX0.size; simp; omega) 52 rfl ?_
        intro v2 w2 hown2 hb2
        have xB : Ext W0 w2 := Below.trans (HXR.out.trans (hX0.trans (Ext.alloc _ _))) (by rw [← HB0.out]; exact hb2)
        refine hK.out _ _ xB (fun hs => ?_)
        clear hK K
        refine wpAnyH_takeD (i := 18) (d := 5) (v := v2) rfl rfl (by kernel_rfl) (by kernel_rfl) (by kernel_rfl) (fun _ _ _ h => h) (Or.inl ⟨by rfl, fun W hW => by go_simp⟩) hs ?_
        simp only [Act.put, List.setIfInBounds_toArray, List.set_cons_succ, List.set_cons_zero]
        refine wpAnyH_done (by kernel_rfl) ?_ _
        obtain ⟨k0, k1, k2⟩ := HC1.out w2 hs
        have hown3 : w2.ownsRow B 5 1 v2 (l.length + 2) ((l ++ [I, (N : Int)]).map (Value.int .u8)) := by
          have e : (l ++ [I, (N : Int)]).map (Value.int .u8) = l.map (Value.int .u8) ++ lstG (Value.int .u8) (ofL [I, (N : Int)]) 2 := by rw [List.map_append]; rfl
          rw [e]; exact hown2
        have HW2 := Lib.hid hs
        clear hown2 hX0 xr xB hb2
        go_wp2_with (at_builtin; refine wpList_append_holds rfl _ _ 25 rfl B 5 i8 (.int .u8 0) 1 Try.underlying25 hi8 hz80 hz81 hz82 rfl v2 (l.length + 2) ((l ++ [I, (N : Int)]).map (Value.int .u8)) (by rfl) hown3 A N C f (by rfl) (HOB.out.ext HW2.out) (fun _ => rfl) (by have := HLN.out; unfold maxLen; omega) (by have := HLN.out; omega) (by rw [HB0.out]; exact HW2.out.size) ?_; intro v4 w4 hown4 _ hb4)
        go_roundw
        case rel =>
          refine ⟨k + 1, by omega, by go_num, ⟨_, HL2.out, ?_⟩, Below.trans HW2.out (by rw [← HB0.out]; exact hb4)⟩
          have e1 : (l ++ (I :: (N : Int) :: (List.range N).map f)).length = l.length + 2 + N := by simp; omega
          have e2 : (l ++ (I :: (N : Int) :: (List.range N).map f)).map (Value.int .u8) = (l ++ [I, (N : Int)]).map (Value.int .u8) ++ lstG (Value.int .u8) f N := by simp [lstG]
          rw [e1, e2]; exact hown4
        case measure => simp [intOf]; omega
      · have hkn : k = n := by omega
        have hl3 : l = sayP P := by rw [hl, HS.out, List.take_of_length_le (by rw [HL.out]; omega)]
        rw [hl3, HS0.out] at hown
        have hown5 : wr.ownsRow B 5 1 u5 (6 + lenO P.L) (lst .u8 (ofL (sayP P)) (6 + lenO P.L)) := by
          have e := lst_ofL (k := .u8) (sayP P)
          rw [HS0.out] at e
          rw [e]; exact hown
        obtain ⟨b, q, rfl, q1, q2, q3, q4⟩ := Holds.of_own_at hown5
        have HQ := Lib.hid (And.intro q1 (And.intro q2 (And.intro q3 q4)))
        have HXR := Lib.hid xr
        clear hll hl hl3 hown hown5 q1 q2 q3 q4 xr
        go_wp2
        go_ret2
        exact ⟨b, q, rfl, HQ.out.2.2.1, HQ.out.1, HQ.out.2.1, fun p hp => Nat.le_trans HX.out.size (by rw [← HB0.out]; exact HQ.out.2.2.2 p hp), HX.out.trans HXR.out⟩
theorem rwrite21_no (P : Prt) (a : Option Addr) (n c : Nat) (w : World) (h : PrtAt w P a n c) (f : ObjF P.L) (hr : rightP P = false) :
    Calls Try.prog 11 #[.agg (prC P a n c)] w fun e w' => e = .returned (.tuple #[.slice none 0 0, .bool false]) ∧ Ext w w' := by
  obtain ⟨W0, hW0, x0, HG⟩ : ∃ W0, W0 = w.alloc (.cells (prC P a n c) 33) ∧ Ext w W0 ∧ Hid (W0.heap[w.heap.size]? = some (.cells (prC P a n c) 33 (0, 0))) := ⟨_, rfl, Ext.alloc _ _, Lib.hid (heap_alloc_new _ _)⟩
  have HRi := Lib.hid (rright21_any P a n c W0 (h.ext x0) f)
  rw [hr] at HRi
  have HX := Lib.hid x0
  clear h hr f x0
  go_enter Try.func11, Try.ntmps11
  go_upto_region 1 with fail
  rw [← hW0]
  clear hW0
  have gR := HG.out
  go_wp2_with (refine wpList_load_row rfl 33 (.tmp 1) rfl w.heap.size rfl 33 (prC P a n c) (0, 0) _ gR Try.underlying33 rfl (by kernel_rfl) ?_)
  clear gR
  refine HRi.out.mono ?_; rintro e w1 ⟨rfl, x1⟩
  go_wp2
  go_ret2
  exact ⟨rfl, HX.out.trans x1⟩
end Go.Proofs.Ythdkhdbabohohaa
