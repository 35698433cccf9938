/-
  CONTRACTS of package split: together, of.
-/
import Derived.Test.YtebhalehgpigoaaSplitD
import Derived.Test.YtebhalehgpigoaaWholeP
import Derived.BigRegion
import Derived.BigQuiet
import Derived.Deep.DeepCutAuto
import Derived.Deep.RegionLaw
namespace Go.Proofs.Ytebhalehgpigoaa
open Go.RowKit
set_option linter.unusedVariables false

/-- The times of bytes: each may be, none is below the one ahead. -/
def TimesOk (M : List Byt) : Prop := ∀ i, i < M.length → (0 ≤ (nth M i).1 ∧ (nth M i).1 ≤ 1099511627776) ∧ (0 < i → (nth M (i - 1)).1 ≤ (nth M i).1)
theorem since_v {a d v : Int} (w : World) (ha : 0 ≤ a) (had : a ≤ d) (hd : d ≤ 1099511627776) (hv : d - a = v) : Calls Try.prog 39 #[.int .i64 a, .int .i64 d] w fun e w' => e = .returned (.int .i64 v) ∧ w = w' := by
  subst hv
  have h := ksince_in d a w
  have e : sinceI a d = d - a := by unfold sinceI; rw [clampI_in ha (by omega), clampI_in (by omega) hd, clampI_in (by omega) (by omega)]
  rw [e] at h
  generalize d - a = v at h ⊢
  clear e ha had hd
  go_enter Try.func39, Try.ntmps39
  go_wp2_with fail
  refine h.mono ?_; rintro e w' ⟨rfl, rfl⟩
  go_wp2
  go_ret
  exact ⟨rfl, rfl⟩
theorem HoldsL.nth_at {w : World} {b off : Nat} {L : List Byt} (h : HoldsL 3 byt w (some ⟨b, off, none⟩) L) (i : Nat) (hi : i < L.length) :
    w.cell? ⟨b, off + i * 3, none⟩ = some (.int .i64 (nth L i).1) ∧ w.cell? ⟨b, off + i * 3 + 1, none⟩ = some (.int .u8 (nth L i).2.1) ∧ w.cell? ⟨b, off + i * 3 + 2, none⟩ = some (.bool (nth L i).2.2) := by
  rw [nth_get hi]; exact h.byt_at i hi
set_option maxHeartbeats 2000000 in
theorem tog_v (a : Option Addr) (n cp : Nat) (M : List Byt) (l : Int) (k : Nat) (w : World) (ha : HoldsL 3 byt w a M) (hM : M.length = n) (hn : n ≤ 1000000) (hT : TimesOk M) (hk : 0 < k) (hkn : k ≤ n)
    (hc : ∀ i, 0 < i → i < k → ¬ l ≤ (nth M i).1 - (nth M (i - 1)).1) (hl : k < n → l ≤ (nth M k).1 - (nth M (k - 1)).1) :
    Calls Try.prog 37 #[.slice a n cp, .int .i64 l] w fun e w' => e = .returned (.int .i64 k) ∧ Ext w w' := by
  have HA := Lib.hid ha; have HM := Lib.hid hM; have HT := Lib.hid hT; have HC := Lib.hid hc; have HL := Lib.hid hl; have HK := Lib.hid (And.intro hk hkn)
  clear ha hM hT hc hl hk hkn
  go_enter Try.func37, Try.ntmps37
  go_wp2_with fail
  go_loopw [5] (fun iv wr => ∃ i : Nat, 0 < i ∧ i ≤ k ∧ iv = .int .i64 i ∧ Ext w wr) (fun iv _ => n - (intOf iv).toNat)
  case atStart => exact ⟨1, by omega, HK.out.1, rfl, Ext.refl _⟩
  case round =>
    obtain ⟨i, h0, hik, rfl, xr⟩ := hrel
    have HI := Lib.hid (And.intro h0 hik)
    by_cases hin : i < n
    · have hiL : i < M.length := by rw [HM.out]; exact hin
      have hjL : i - 1 < M.length := by omega
      obtain ⟨p, o, rfl, hp, -⟩ := HA.out.resolve_left (by intro e; rw [e] at hiL; simp at hiL)
      obtain ⟨c0, -, -⟩ := HA.out.nth_at i hiL
      obtain ⟨d0, -, -⟩ := HA.out.nth_at (i - 1) hjL
      have e0 := xr.cell hp c0
      have e1 := xr.cell hp d0
      obtain ⟨j, hj⟩ : ∃ j, j = i - 1 := ⟨_, rfl⟩
      rw [← hj] at e1
      obtain ⟨⟨t0, t1⟩, t2⟩ := HT.out i hiL
      obtain ⟨⟨t3, t4⟩, -⟩ := HT.out (i - 1) hjL
      have t2 := t2 (by omega)
      have hcl : i < k → (nth M i).1 - (nth M (i - 1)).1 < l := fun h => by have := HC.out i HI.out.1 h; omega
      have hlo : i = k → l ≤ (nth M i).1 - (nth M (i - 1)).1 := fun e => by subst e; exact HL.out hin
      rw [← hj] at t2 t3 t4 hcl hlo
      generalize (nth M i).1 = X at e0 t0 t1 t2 hcl hlo
      generalize (nth M j).1 = Y at e1 t2 t3 t4 hcl hlo
      obtain ⟨D, hD⟩ : ∃ D, X - Y = D := ⟨_, rfl⟩
      rw [hD] at hcl hlo
      have HS := Lib.hid (fun w => since_v w t3 t2 t1 hD)
      have HJ := Lib.hid hj
      have wj : IntKind.i64.wrap ((i : Int) - 1) = (j : Int) := by rw [IntWalk.i64_in _ (by omega)]; omega
      have hjn : (j : Int) < n := by omega
      have hinn : (i : Int) < n := by omega
      clear c0 d0 t0 t1 t2 t3 t4 hD hj hiL hjL
      by_cases hlt : i < k
      · have hno := hcl hlt
        clear hcl hlo h0 hik hin
        go_wp2_with fail
        go_quiet ((go_at_call 39; exact Calls.quiet_of_same ((HS.out _).mono fun e w' h => ⟨h.1, h.2.symm⟩)))
        go_wp2
        go_roundw
        case rel => exact ⟨i + 1, by omega, by omega, by go_num, xr.trans (Ext.drewN _ _)⟩
        case measure => simp [intOf]; omega
      · have hyes := hlo (by omega)
        have hik2 := Lib.hid (show k = i by omega)
        clear hcl hlo h0 hik hin
        go_wp2_with fail
        go_quiet ((go_at_call 39; exact Calls.quiet_of_same ((HS.out _).mono fun e w' h => ⟨h.1, h.2.symm⟩)))
        go_wp2
        go_ret
        exact ⟨by rw [hik2.out]; rfl, xr.trans (Ext.drewN _ _)⟩
    · have hin' : ¬ (i : Int) < n := by omega
      have hkn := Lib.hid (show k = n by have := HK.out; omega)
      clear h0 hik
      go_wp2
      go_ret
      exact ⟨by rw [hkn.out]; rfl, xr⟩
theorem Try.infoSegE : (Try.prog.info? 44).map (fun i => (i.zero, i.size, i.bytes)) = some (some (.agg #[.slice none 0 0, .int .i64 0, .int .i64 0, .int .i64 0, .bool false, .bool false]), 6, 56) := by kernel_rfl
theorem Try.info8e : (Try.prog.info? 5).map (fun i => (i.zero, i.size, i.bytes)) = some (some (.int .u8 0), 1, 1) := by kernel_rfl
/-- make([]byte, K, K). -/
theorem made8 (w : World) (K : Nat) (hK : K ≤ 256) : (Instr.makeSlice 22 (.int .i64 (K : Int)) (.int .i64 (K : Int))).run Try.prog w = .ok (.slice (some ⟨w.heap.size, 0, none⟩) K K) (w.alloc (.cells (madeCells #[.int .u8 0] K) 5)) := by
  obtain ⟨i8, hi8, hz80, hz81, hz82⟩ := info_parts Try.info8e
  have h := run_make (P := Try.prog) w 22 5 i8 (.int .u8 0) Try.underlying22 hi8 hz80 .i64 .i64 K K (by omega) (Int.le_refl _) (by rw [hz82]; omega) (by omega)
  rw [hz81] at h
  simpa [Value.cells] using h
/-- What 'of' holds of memory: its answer's cell S, the segment in block p, its bytes in block A. -/
structure OfM (w wr : World) (S p A K : Nat) (f : Nat → Int) (F Z N : Int) (g b : Bool) : Prop where
  ext : Ext w wr
  res : wr.heap[S]? = some (.cells #[.slice none 0 0, .int .i64 0, .int .i64 0, .int .i64 0, .bool false, .bool false] 44 (0, 0))
  box : wr.heap[p]? = some (.cells #[.slice (some ⟨A, 0, none⟩) K K, .int .i64 F, .int .i64 Z, .int .i64 N, .bool g, .bool b] 44 (0, 0))
  row : Row (Value.int .u8) 5 wr A K f
  ne : p ≠ A
  pS : S < p
  aS : S < A
  base : S = w.heap.size
section
variable {w wr w' : World} {S p A K : Nat} {f : Nat → Int} {F Z N : Int} {g b : Bool}
theorem OfM.later (h : OfM w wr S p A K f F Z N g b) (x : Ext wr w') : OfM w w' S p A K f F Z N g b :=
  ⟨h.ext.trans x, x.block h.res, x.block h.box, h.row.ext x, h.ne, h.pS, h.aS, h.base⟩
theorem OfM.byte (h : OfM w wr S p A K f F Z N g b) (k : Nat) (y : Int) : OfM w (wr.setCell ⟨A, k, none⟩ (.int .u8 y)) S p A K (upd f k y) F Z N g b :=
  ⟨Below.set h.ext (by have := h.aS; have := h.base; simp; omega) _, (heap_setCell_other _ _ _ _ (by have := h.aS; simp; omega)).trans h.res, (heap_setCell_other _ _ _ _ (by have := h.ne; simp; omega)).trans h.box, h.row.set k y, h.ne, h.pS, h.aS, h.base⟩
theorem OfM.gap (h : OfM w wr S p A K f F Z N g b) (g' : Bool) : OfM w (wr.setCell ⟨p, 4, none⟩ (.bool g')) S p A K f F Z N g' b :=
  ⟨Below.set h.ext (by have := h.pS; have := h.base; simp; omega) _, (heap_setCell_other _ _ _ _ (by have := h.pS; simp; omega)).trans h.res, (heap_setCell_same _ _ _ _ _ _ h.box).trans rfl, h.row.far (by have := h.ne; simp; omega) _, h.ne, h.pS, h.aS, h.base⟩
theorem OfM.bad (h : OfM w wr S p A K f F Z N g b) (b' : Bool) : OfM w (wr.setCell ⟨p, 5, none⟩ (.bool b')) S p A K f F Z N g b' :=
  ⟨Below.set h.ext (by have := h.pS; have := h.base; simp; omega) _, (heap_setCell_other _ _ _ _ (by have := h.pS; simp; omega)).trans h.res, (heap_setCell_same _ _ _ _ _ _ h.box).trans rfl, h.row.far (by have := h.ne; simp; omega) _, h.ne, h.pS, h.aS, h.base⟩
end
/-- The segment that bytes are. -/
def ofS (s : Int) (M : List Byt) : Seg := ⟨min M.length 256, fun i => (nth M i).2.1, (nth M 0).1, (nth M (M.length - 1)).1, M.length, gapsB s 0 false 0 M M.length, badsB M M.length⟩
theorem gaps_step {s : Int} {M : List Byt} {k : Nat} {g : Int} (hs : 0 ≤ s) (hg : g = if k = 0 then (nth M 0).1 else (nth M (k - 1)).1) : gapsB s 0 false 0 M (k + 1) = (gapsB s 0 false 0 M k || decide (s < (nth M k).1 - g)) := by
  conv => lhs; unfold gapsB
  by_cases h : k = 0
  · subst h
    rw [if_pos rfl] at hg ⊢
    subst hg
    rw [decide_eq_false (show ¬ s < (nth M 0).1 - (nth M 0).1 by omega)]; rfl
  · rw [if_neg h] at hg ⊢
    subst hg
    rfl
set_option maxRecDepth 100000 in
set_option maxHeartbeats 8000000 in
theorem of_any (a : Option Addr) (n cp : Nat) (M : List Byt) (s : Int) (w : World) (ha : HoldsL 3 byt w a M) (hM : M.length = n) (hn0 : 0 < n) (hn : n ≤ 1000000) (hT : TimesOk M) (hs : 0 ≤ s) :
    Calls Try.prog 38 #[.slice a n cp, .int .i64 s] w fun e w' => ∃ A, e = .returned (.agg (segC (some ⟨A, 0, none⟩) (ofS s M).n (ofS s M))) ∧ Ext w w' ∧ Holds .u8 w' (some ⟨A, 0, none⟩) (ofS s M).n (ofS s M).f ∧ w.heap.size < A := by
  obtain ⟨K, hK⟩ : ∃ K, K = min n 256 := ⟨_, rfl⟩
  have hmk := fun w => made8 w K (by omega)
  obtain ⟨CS, hCS⟩ : ∃ CS, CS = madeCells #[Value.int .u8 0] K := ⟨_, rfl⟩
  rw [← hCS] at hmk
  have hcs : ∀ w : World, Row (Value.int .u8) 5 (w.alloc (.cells CS 5)) w.heap.size K (fun _ => 0) := fun w => by
    refine Row.new _ _ _ _ _ (by rw [hCS, size_madeCells]) fun i hi => ?_
    have := made_get (Value.int .u8 0) K i hi
    rw [hCS]
    simpa using this
  have h0L : 0 < M.length := by omega
  have h1L : n - 1 < M.length := by omega
  obtain ⟨p, o, rfl, hp, -⟩ := ha.resolve_left (by intro e; rw [e] at h0L; simp at h0L)
  obtain ⟨c0, -, -⟩ := ha.nth_at 0 h0L
  obtain ⟨d0, -, -⟩ := ha.nth_at (n - 1) h1L
  obtain ⟨j, hj⟩ : ∃ j, j = n - 1 := ⟨_, rfl⟩
  rw [← hj] at d0
  have wj : IntKind.i64.wrap ((n : Int) - 1) = (j : Int) := by rw [IntWalk.i64_in _ (by omega)]; omega
  have hjn : (j : Int) < n := by omega
  have h0n : (0 : Int) < n := by omega
  simp only [Nat.zero_mul, Nat.add_zero] at c0
  have hmin : min (n : Int) 256 = (K : Int) := by omega
  obtain ⟨W1, hW1⟩ : ∃ W1, W1 = w.alloc (.cells #[.slice none 0 0, .int .i64 0, .int .i64 0, .int .i64 0, .bool false, .bool false] 44) := ⟨_, rfl⟩
  have x1 : Ext w W1 := by rw [hW1]; exact Ext.alloc _ _
  have r1 : W1.heap[w.heap.size]? = some (.cells #[.slice none 0 0, .int .i64 0, .int .i64 0, .int .i64 0, .bool false, .bool false] 44 (0, 0)) := by rw [hW1]; exact heap_alloc_new _ _
  have hs1 : W1.heap.size = w.heap.size + 1 := by rw [hW1]; simp
  have e0 := x1.cell hp c0
  have e1 := x1.cell hp d0
  have hpW : p < W1.heap.size := Nat.lt_of_lt_of_le hp x1.size
  have HX1 := Lib.hid x1
  have HR1 := Lib.hid r1
  have HS1 := Lib.hid hs1
  have HCs := Lib.hid hcs
  have HJ := Lib.hid hj
  have HK := Lib.hid hK
  have HM := Lib.hid hM
  have HA := Lib.hid ha
  have HT := Lib.hid hT
  have HN := Lib.hid (And.intro hn0 hn)
  have HSs := Lib.hid hs
  have eF : (ofS s M).first = (nth M 0).1 := rfl
  have eZ : (ofS s M).last = (nth M j).1 := by rw [hj, ← hM]; rfl
  obtain ⟨F, hF⟩ : ∃ F, F = (nth M 0).1 := ⟨_, rfl⟩
  obtain ⟨Z, hZ⟩ : ∃ Z, Z = (nth M j).1 := ⟨_, rfl⟩
  rw [← hF] at e0 eF; rw [← hZ] at e1 eZ
  have HF := Lib.hid hF
  have HEF := Lib.hid eF
  have HEZ := Lib.hid eZ
  obtain ⟨S, hS⟩ : ∃ S, S = w.heap.size := ⟨_, rfl⟩
  rw [← hS] at HR1 HS1
  have HS := Lib.hid hS
  clear c0 d0 hj h0L h1L ha hK hCS hcs x1 r1 hs1 hM hT hn0 hs hF hZ eF eZ
  go_enter Try.func38, Try.ntmps38
  go_upto_region 1 with fail
  rw [← hW1, ← hS]
  clear hW1 hS
  go_cut [5] (fun pv wr => ∃ p' A : Nat, pv = .pointer (some ⟨p', 0, none⟩) ∧ OfM w wr S p' A K (fun _ => 0) F Z n false false)
  case first =>
    go_region
    all_goals go_wp2_with fail
    all_goals go_meet
    · refine ⟨W1.heap.size + 1, W1.heap.size, by first | rfl | simp, ext_drew ((HX1.out.alloc' _).alloc' _), ?_, heap_new_at _ _ (by simp), (HCs.out W1).alloc _, by omega, by have := HS1.out; omega, by have := HS1.out; omega, HS.out⟩
      have h2 := HS1.out
      exact (heap_alloc_old _ _ (by simp; omega)).trans ((heap_alloc_old _ _ (by omega)).trans HR1.out)
    · refine ⟨W1.heap.size, W1.heap.size + 1, by first | rfl | simp, ext_drew ((HX1.out.alloc' _).alloc' _), ?_, (heap_alloc_old _ _ (by simp)).trans (heap_new_at _ _ rfl), ?_, by omega, by have := HS1.out; omega, by have := HS1.out; omega, HS.out⟩
      · have h2 := HS1.out
        exact (heap_alloc_old _ _ (by simp; omega)).trans ((heap_alloc_old _ _ (by omega)).trans HR1.out)
      · have h3 := HCs.out (W1.alloc (.cells #[.slice (some ⟨W1.heap.size + 1, 0, none⟩) K K, .int .i64 F, .int .i64 Z, .int .i64 n, .bool false, .bool false] 44))
        rw [show (W1.alloc (.cells #[.slice (some ⟨W1.heap.size + 1, 0, none⟩) K K, .int .i64 F, .int .i64 Z, .int .i64 n, .bool false, .bool false] 44)).heap.size = W1.heap.size + 1 by simp] at h3
        exact h3
  case rest =>
    clear e0 e1 hpW HX1 HR1 HS1 HCs hmk
    obtain ⟨p', A, rfl, hm⟩ := hcut
    have b0 := cell_of_heap (j := 0) hm.box rfl
    have HMm := Lib.hid hm
    clear hm hmin wj hjn h0n
    go_wp2_with fail
    go_loopw [31] (fun iv wr => ∃ (k : Nat) (f : Nat → Int), k ≤ K ∧ iv = .int .i64 k ∧ OfM w wr S p' A K f F Z n false false ∧ Hid (∀ i, i < k → f i = (nth M i).2.1)) (fun iv _ => K - (intOf iv).toNat)
    case atStart => exact ⟨0, _, Nat.zero_le _, rfl, HMm.out, Lib.hid (fun i hi => by omega)⟩
    case round =>
      clear b0 HMm
      obtain ⟨k, f, hk, rfl, hm, hf⟩ := hrel
      by_cases hlt : k < K
      · have hkn : k < n := by have := HK.out; omega
        have hkL : k < M.length := by rw [HM.out]; exact hkn
        obtain ⟨-, c1, -⟩ := HA.out.nth_at k hkL
        have c1 := hm.ext.cell hp c1
        have b0 := cell_of_heap (j := 0) hm.box rfl
        have q0 := hm.row.cell k hlt
        have q1 := hm.row.frozen k
        have hlt' : (k : Int) < K := by omega
        have hkn' : (k : Int) < n := by omega
        have hb := hm.byte k (nth M k).2.1
        have hf2 : ∀ i, i < k + 1 → upd f k (nth M k).2.1 i = (nth M i).2.1 := fun i hi => by
          by_cases e : i = k
          · subst e; exact upd_same _ _ _
          · rw [upd_other _ _ _ _ e]; exact hf.out i (by omega)
        generalize (nth M k).2.1 = Y at c1 hb hf2
        have HB := Lib.hid hb
        have HF2 := Lib.hid hf2
        clear hb hf2 hm hf hkn hkL
        go_wp2_with fail
        go_region
        go_wp2
        go_roundw
        case rel => exact ⟨k + 1, _, by omega, by go_num, HB.out.later (Ext.drew _), Lib.hid HF2.out⟩
        case measure => simp [intOf]; omega
      · have hkK := Lib.hid (show k = K by omega)
        have hlt' : ¬ (k : Int) < K := by omega
        have b1 := cell_of_heap (j := 1) hm.box rfl
        have HMm := Lib.hid hm
        have hf3 : Hid (∀ i, i < K → f i = (nth M i).2.1) := Lib.hid (fun i hi => hf.out i (by have := hkK.out; omega))
        clear hm hf hk hlt
        go_wp2_with fail
        clear b1 hlt' hkK
        go_loopw [7, 48] (fun av iv wr => ∃ (k : Nat) (h : Int) (g b : Bool), k ≤ n ∧ iv = .int .i64 k ∧ av = .int .i64 h ∧ OfM w wr S p' A K f F Z n g b ∧ Hid (h = if k = 0 then (nth M 0).1 else (nth M (k - 1)).1) ∧ Hid (g = gapsB s 0 false 0 M k ∧ b = badsB M k)) (fun _ iv _ => n - (intOf iv).toNat)
        case atStart => exact ⟨0, F, false, false, Nat.zero_le _, rfl, rfl, HMm.out, Lib.hid (by rw [if_pos rfl]; exact HF.out), Lib.hid ⟨rfl, rfl⟩⟩
        case round =>
          clear HMm
          obtain ⟨i, h, g, b, hin, rfl, rfl, hm, hh, hgb⟩ := hrel
          by_cases hlt : i < n
          · have hiL : i < M.length := by rw [HM.out]; exact hlt
            obtain ⟨c0, c1, c2⟩ := HA.out.nth_at i hiL
            have c0 := hm.ext.cell hp c0
            have c1 := hm.ext.cell hp c1
            have c2 := hm.ext.cell hp c2
            have hstep := gaps_step (s := s) (M := M) (k := i) HSs.out hh.out
            rw [← hgb.out.1] at hstep
            have hbst : badsB M (i + 1) = (b || (nth M i).2.2) := by rw [hgb.out.2]; rfl
            obtain ⟨⟨t0, t1⟩, t2⟩ := HT.out i hiL
            have hh0 : 0 ≤ h ∧ h ≤ (nth M i).1 := by
              have := hh.out
              by_cases e : i = 0
              · subst e; rw [if_pos rfl] at this; omega
              · rw [if_neg e] at this
                have h3 := HT.out (i - 1) (by omega)
                have h4 := t2 (by omega)
                omega
            have hnx : (nth M i).1 = if i + 1 = 0 then (nth M 0).1 else (nth M (i + 1 - 1)).1 := by rw [if_neg (by omega), Nat.add_sub_cancel]
            have HNx := Lib.hid hnx
            have HStep := Lib.hid hstep
            have HBst := Lib.hid hbst
            clear hnx hstep hbst t2 hiL hh hgb
            generalize nth M i = y at c0 c1 c2 t0 t1 hh0 HNx HStep HBst
            obtain ⟨X, Y, V⟩ := y
            simp only at c0 c1 c2 t0 t1 hh0
            obtain ⟨D, hD⟩ : ∃ D, X - h = D := ⟨_, rfl⟩
            have HS9 := Lib.hid (fun w => since_v w hh0.1 hh0.2 t1 hD)
            have HD := Lib.hid hD
            have hlt' : (i : Int) < n := by omega
            obtain ⟨wq, hwq⟩ : ∃ wq, wq = wr.alloc (.cells #[.int .i64 X, .int .u8 Y, .bool V] 35) := ⟨_, rfl⟩
            have hm2 : OfM w wq S p' A K f F Z n g b := by rw [hwq]; exact hm.later (Ext.alloc _ _)
            have b4 := cell_of_heap (j := 4) hm2.box rfl
            have b5 := cell_of_heap (j := 5) hm2.box rfl
            have f4 := frozen_of_row _ _ 4 _ _ hm2.box
            have f5 := frozen_of_row _ _ 5 _ _ hm2.box
            have hB0 : wq.heap[wr.heap.size]? = some (.cells #[.int .i64 X, .int .u8 Y, .bool V] 35 (0, 0)) := by rw [hwq]; exact heap_alloc_new _ _
            have s0 := cell_of_heap (j := 0) hB0 rfl
            have s2 := cell_of_heap (j := 2) hB0 rfl
            have hpl : p' < wr.heap.size := heap_lt hm.box
            have HM1 := Lib.hid (fun (g' b' : Bool) => (hm2.gap g').bad b')
            have HWq := Lib.hid hwq
            clear hD hh0 t0 t1 hB0 hm hm2 hlt hwq
            go_upto_region 11 with fail
            rw [← HWq.out]
            clear c0 c1 c2 HWq
            cases g
            · cases b
              · go_wp2_with fail
                refine (HS9.out _).mono ?_; rintro e w9 ⟨rfl, rfl⟩
                go_wp2_with fail
                go_roundw
                case rel => exact ⟨i + 1, X, decide (s < D), V, by omega, by go_num, rfl, HM1.out _ _, Lib.hid HNx.out, Lib.hid ⟨by rw [HStep.out, ← HD.out]; rfl, by rw [HBst.out]; rfl⟩⟩
                case measure => simp [intOf]; omega
              · go_wp2_with fail
                refine (HS9.out _).mono ?_; rintro e w9 ⟨rfl, rfl⟩
                go_wp2_with fail
                go_roundw
                case rel => exact ⟨i + 1, X, decide (s < D), true, by omega, by go_num, rfl, HM1.out _ _, Lib.hid HNx.out, Lib.hid ⟨by rw [HStep.out, ← HD.out]; rfl, by rw [HBst.out]; rfl⟩⟩
                case measure => simp [intOf]; omega
            · cases b
              · go_wp2_with fail
                go_roundw
                case rel => exact ⟨i + 1, X, true, V, by omega, by go_num, rfl, HM1.out _ _, Lib.hid HNx.out, Lib.hid ⟨by rw [HStep.out]; rfl, by rw [HBst.out]; rfl⟩⟩
                case measure => simp [intOf]; omega
              · go_wp2_with fail
                go_roundw
                case rel => exact ⟨i + 1, X, true, true, by omega, by go_num, rfl, HM1.out _ _, Lib.hid HNx.out, Lib.hid ⟨by rw [HStep.out]; rfl, by rw [HBst.out]; rfl⟩⟩
                case measure => simp [intOf]; omega
          · have hlt' : ¬ (i : Int) < n := by omega
            have hin2 : i = n := by omega
            have hfin : segC (some ⟨A, 0, none⟩) (ofS s M).n (ofS s M) = #[.slice (some ⟨A, 0, none⟩) K K, .int .i64 F, .int .i64 Z, .int .i64 n, .bool g, .bool b] := by
              have h1 : (ofS s M).n = K := by show min M.length 256 = K; rw [HM.out, HK.out]
              have h2 : (ofS s M).count = n := by show ((M.length : Nat) : Int) = n; rw [HM.out]
              have h3 : (ofS s M).gap = g := by show gapsB s 0 false 0 M M.length = g; rw [HM.out, hgb.out.1, hin2]
              have h4 : (ofS s M).bad = b := by show badsB M M.length = b; rw [HM.out, hgb.out.2, hin2]
              unfold segC
              rw [h1, h2, h3, h4, HEF.out, HEZ.out]
            have hh5 : Holds .u8 wr (some ⟨A, 0, none⟩) (ofS s M).n (ofS s M).f := by
              have h1 : (ofS s M).n = K := by show min M.length 256 = K; rw [HM.out, HK.out]
              rw [h1]
              exact Holds.congr (k := .u8) hm.row.holds (fun i hi => hf3.out i hi)
            have g5 := hm.box
            have gS := hm.res
            have HFin := Lib.hid hfin
            have HH5 := Lib.hid hh5
            have HM9 := Lib.hid hm
            clear hfin hh5 hm hgb hh hin2 hlt hin
            go_wp2_with (first | (refine wpList_load_row rfl 44 (.tmp 5) rfl p' rfl 44 _ (0, 0) _ g5 Try.underlying44 rfl (by kernel_rfl) ?_) | (refine wpList_store_row rfl 44 (.tmp 4) (.tmp 73) rfl S _ rfl rfl 44 _ gS (by kernel_rfl) rfl (by simp [Value.oneCell']) ?_))
            refine bodyPost_ret (results_cell_row rfl _ _ S 44 _ (0, 0) _ rfl (setRow_heap _ _ _ _ _ _ gS) Try.underlying44 rfl (by kernel_rfl)) rfl ?_
            refine ⟨A, by rw [HFin.out], below_setRow HM9.out.ext (by rw [HS.out]; exact Nat.le_refl _) _, ?_, by rw [← HS.out]; exact HM9.out.aS⟩
            refine HH5.out.blocks fun q o' hq _ _ => setRow_other _ _ _ _ ?_
            cases hq
            have := HM9.out.aS
            omega
end Go.Proofs.Ytebhalehgpigoaa
