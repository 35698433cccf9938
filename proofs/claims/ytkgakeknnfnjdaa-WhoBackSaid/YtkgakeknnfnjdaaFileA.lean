/-
  CONTRACTS: package file (layer 14): what may be; its tables.
  CONTRACTS: package file (layer 14): what is read.
  CONTRACTS: package file (layer 14): Bits, Words.
-/
import Derived.Test.YtkgakeknnfnjdaaFilC
import Derived.Test.YtkgakeknnfnjdaaFileR
import Derived.Test.YtkgakeknnfnjdaaCells
import Derived.Test.YtkgakeknnfnjdaaStepStore
namespace Go.Proofs.Ytkgakeknnfnjdaa
open Go.RowKit
set_option linter.unusedVariables false

/-- A bank's windows, by their numbers: may it be? -/
def winB (F : Fil) (j : Nat) : Bool := if j = 0 then rgtB F.cf F.cc else if j = 1 then rgtB F.jf F.jc else if j = 2 then rgtB F.hf F.hc else if j = 3 then rgtB F.rf F.rc else rgtB F.bf F.bc
theorem win_no {F : Fil} {j : Nat} (h : winB F j = false) : bankB F = false := by
  unfold winB at h
  unfold bankB
  split at h
  · rw [h]; rfl
  · split at h
    · rw [h, Bool.and_false]; rfl
    · split at h
      · rw [h, Bool.and_false]; rfl
      · split at h
        · rw [h, Bool.and_false]; rfl
        · rw [h, Bool.and_false]
theorem win_yes {F : Fil} (h : ∀ j, j < 5 → winB F j = true) : bankB F = true :=
  (bankB_iff F).2 ⟨h 0 (by decide), h 1 (by decide), h 2 (by decide), h 3 (by decide), h 4 (by decide)⟩
theorem win_at0 (cf cc jf jc hf hc rf rc bf bc : Int) (W : World) : (Instr.index 70 (.agg #[.int .i64 cf, .int .i64 cc, .int .i64 jf, .int .i64 jc, .int .i64 hf, .int .i64 hc, .int .i64 rf, .int .i64 rc, .int .i64 bf, .int .i64 bc]) (.int .i64 0)).run Try.prog W = .ok (.agg #[.int .i64 cf, .int .i64 cc]) W := by kernel_rfl
theorem win_at1 (cf cc jf jc hf hc rf rc bf bc : Int) (W : World) : (Instr.index 70 (.agg #[.int .i64 cf, .int .i64 cc, .int .i64 jf, .int .i64 jc, .int .i64 hf, .int .i64 hc, .int .i64 rf, .int .i64 rc, .int .i64 bf, .int .i64 bc]) (.int .i64 1)).run Try.prog W = .ok (.agg #[.int .i64 jf, .int .i64 jc]) W := by kernel_rfl
theorem win_at2 (cf cc jf jc hf hc rf rc bf bc : Int) (W : World) : (Instr.index 70 (.agg #[.int .i64 cf, .int .i64 cc, .int .i64 jf, .int .i64 jc, .int .i64 hf, .int .i64 hc, .int .i64 rf, .int .i64 rc, .int .i64 bf, .int .i64 bc]) (.int .i64 2)).run Try.prog W = .ok (.agg #[.int .i64 hf, .int .i64 hc]) W := by kernel_rfl
theorem win_at3 (cf cc jf jc hf hc rf rc bf bc : Int) (W : World) : (Instr.index 70 (.agg #[.int .i64 cf, .int .i64 cc, .int .i64 jf, .int .i64 jc, .int .i64 hf, .int .i64 hc, .int .i64 rf, .int .i64 rc, .int .i64 bf, .int .i64 bc]) (.int .i64 3)).run Try.prog W = .ok (.agg #[.int .i64 rf, .int .i64 rc]) W := by kernel_rfl
theorem win_at4 (cf cc jf jc hf hc rf rc bf bc : Int) (W : World) : (Instr.index 70 (.agg #[.int .i64 cf, .int .i64 cc, .int .i64 jf, .int .i64 jc, .int .i64 hf, .int .i64 hc, .int .i64 rf, .int .i64 rc, .int .i64 bf, .int .i64 bc]) (.int .i64 4)).run Try.prog W = .ok (.agg #[.int .i64 bf, .int .i64 bc]) W := by kernel_rfl
set_option maxHeartbeats 2000000 in
theorem fmaybe_v {F : Fil} {B : Bool} (h : bankB F = B) (w : World) : Calls Try.prog 27 #[.agg (bnkC F)] w fun e w' => e = .returned (.bool B) ∧ Ext w w' := by
  have e0 := Ext.alloc w (.cells (bnkC F) 25)
  have HNo := Lib.hid (fun j (k : winB F j = false) => (h.symm.trans (win_no k) : B = false))
  have HYes := Lib.hid (fun (k : ∀ j, j < 5 → winB F j = true) => (h.symm.trans (win_yes k) : B = true))
  have HW : Hid ((winB F 0 = rgtB F.cf F.cc) ∧ (winB F 1 = rgtB F.jf F.jc) ∧ (winB F 2 = rgtB F.hf F.hc) ∧ (winB F 3 = rgtB F.rf F.rc) ∧ (winB F 4 = rgtB F.bf F.bc)) := Lib.hid ⟨rfl, rfl, rfl, rfl, rfl⟩
  clear h
  generalize winB F = G at HNo HYes HW
  obtain ⟨cf, cc, jf, jc, hf, hc, rf, rc, bf, bc, nC, C, nI, I, nH, H, nR, R⟩ := F
  unfold bnkC at e0 ⊢
  simp only at e0 HW ⊢
  go_enter Try.func27, Try.ntmps27
  go_wp2
  go_loopw [16] (fun iv wr => ∃ k : Int, (0 ≤ k ∧ k ≤ 5) ∧ iv = .int .i64 k ∧ Hid (∀ j : Nat, (j : Int) < k → G j = true) ∧ Ext w wr) (fun iv _ => 5 - (intOf iv).toNat)
  case atStart => exact ⟨0, ⟨by decide, by decide⟩, rfl, Lib.hid fun j hj => absurd hj (by omega), e0⟩
  case round =>
    obtain ⟨k, hk, rfl, HG, xr⟩ := hrel
    clear e0
    have hk3 : k = 0 ∨ k = 1 ∨ k = 2 ∨ k = 3 ∨ k = 4 ∨ k = 5 := by omega
    clear hk
    rcases hk3 with rfl | rfl | rfl | rfl | rfl | rfl
    · have hix := fun W => win_at0 cf cc jf jc hf hc rf rc bf bc W
      cases hr : G 0 with
      | false =>
        have hB := HNo.out _ hr
        subst hB
        have HR := Lib.hid (HW.out.1.symm.trans hr)
        clear hr HNo HYes HG HW
        go_wp2_with fail
        refine (wright_v HR.out _).mono ?_; rintro e w1 ⟨rfl, x1⟩
        have y := xr.trans ((Ext.alloc _ _).trans x1)
        clear xr x1
        go_wp2
        go_ret
        exact ⟨rfl, y⟩
      | true =>
        have HR := Lib.hid (HW.out.1.symm.trans hr)
        have HG1 : Hid (∀ j : Nat, (j : Int) < 1 → G j = true) := Lib.hid fun j hj => by
          rcases Nat.lt_or_ge j 0 with h | h
          · exact HG.out j (by omega)
          · obtain rfl : j = 0 := by omega
            exact hr
        clear hr HNo HYes HG HW
        go_wp2_with fail
        refine (wright_v HR.out _).mono ?_; rintro e w1 ⟨rfl, x1⟩
        have y := xr.trans ((Ext.alloc _ _).trans x1)
        clear xr x1
        go_wp2
        go_roundw
        case rel => exact ⟨1, ⟨by decide, by decide⟩, by go_num, HG1, y⟩
        case measure => simp [intOf]
    · have hix := fun W => win_at1 cf cc jf jc hf hc rf rc bf bc W
      cases hr : G 1 with
      | false =>
        have hB := HNo.out _ hr
        subst hB
        have HR := Lib.hid (HW.out.2.1.symm.trans hr)
        clear hr HNo HYes HG HW
        go_wp2_with fail
        refine (wright_v HR.out _).mono ?_; rintro e w1 ⟨rfl, x1⟩
        have y := xr.trans ((Ext.alloc _ _).trans x1)
        clear xr x1
        go_wp2
        go_ret
        exact ⟨rfl, y⟩
      | true =>
        have HR := Lib.hid (HW.out.2.1.symm.trans hr)
        have HG1 : Hid (∀ j : Nat, (j : Int) < 2 → G j = true) := Lib.hid fun j hj => by
          rcases Nat.lt_or_ge j 1 with h | h
          · exact HG.out j (by omega)
          · obtain rfl : j = 1 := by omega
            exact hr
        clear hr HNo HYes HG HW
        go_wp2_with fail
        refine (wright_v HR.out _).mono ?_; rintro e w1 ⟨rfl, x1⟩
        have y := xr.trans ((Ext.alloc _ _).trans x1)
        clear xr x1
        go_wp2
        go_roundw
        case rel => exact ⟨2, ⟨by decide, by decide⟩, by go_num, HG1, y⟩
        case measure => simp [intOf]
    · have hix := fun W => win_at2 cf cc jf jc hf hc rf rc bf bc W
      cases hr : G 2 with
      | false =>
        have hB := HNo.out _ hr
        subst hB
        have HR := Lib.hid (HW.out.2.2.1.symm.trans hr)
        clear hr HNo HYes HG HW
        go_wp2_with fail
        refine (wright_v HR.out _).mono ?_; rintro e w1 ⟨rfl, x1⟩
        have y := xr.trans ((Ext.alloc _ _).trans x1)
        clear xr x1
        go_wp2
        go_ret
        exact ⟨rfl, y⟩
      | true =>
        have HR := Lib.hid (HW.out.2.2.1.symm.trans hr)
        have HG1 : Hid (∀ j : Nat, (j : Int) < 3 → G j = true) := Lib.hid fun j hj => by
          rcases Nat.lt_or_ge j 2 with h | h
          · exact HG.out j (by omega)
          · obtain rfl : j = 2 := by omega
            exact hr
        clear hr HNo HYes HG HW
        go_wp2_with fail
        refine (wright_v HR.out _).mono ?_; rintro e w1 ⟨rfl, x1⟩
        have y := xr.trans ((Ext.alloc _ _).trans x1)
        clear xr x1
        go_wp2
        go_roundw
        case rel => exact ⟨3, ⟨by decide, by decide⟩, by go_num, HG1, y⟩
        case measure => simp [intOf]
    · have hix := fun W => win_at3 cf cc jf jc hf hc rf rc bf bc W
      cases hr : G 3 with
      | false =>
        have hB := HNo.out _ hr
        subst hB
        have HR := Lib.hid (HW.out.2.2.2.1.symm.trans hr)
        clear hr HNo HYes HG HW
        go_wp2_with fail
        refine (wright_v HR.out _).mono ?_; rintro e w1 ⟨rfl, x1⟩
        have y := xr.trans ((Ext.alloc _ _).trans x1)
        clear xr x1
        go_wp2
        go_ret
        exact ⟨rfl, y⟩
      | true =>
        have HR := Lib.hid (HW.out.2.2.2.1.symm.trans hr)
        have HG1 : Hid (∀ j : Nat, (j : Int) < 4 → G j = true) := Lib.hid fun j hj => by
          rcases Nat.lt_or_ge j 3 with h | h
          · exact HG.out j (by omega)
          · obtain rfl : j = 3 := by omega
            exact hr
        clear hr HNo HYes HG HW
        go_wp2_with fail
        refine (wright_v HR.out _).mono ?_; rintro e w1 ⟨rfl, x1⟩
        have y := xr.trans ((Ext.alloc _ _).trans x1)
        clear xr x1
        go_wp2
        go_roundw
        case rel => exact ⟨4, ⟨by decide, by decide⟩, by go_num, HG1, y⟩
        case measure => simp [intOf]
    · have hix := fun W => win_at4 cf cc jf jc hf hc rf rc bf bc W
      cases hr : G 4 with
      | false =>
        have hB := HNo.out _ hr
        subst hB
        have HR := Lib.hid (HW.out.2.2.2.2.symm.trans hr)
        clear hr HNo HYes HG HW
        go_wp2_with fail
        refine (wright_v HR.out _).mono ?_; rintro e w1 ⟨rfl, x1⟩
        have y := xr.trans ((Ext.alloc _ _).trans x1)
        clear xr x1
        go_wp2
        go_ret
        exact ⟨rfl, y⟩
      | true =>
        have HR := Lib.hid (HW.out.2.2.2.2.symm.trans hr)
        have HG1 : Hid (∀ j : Nat, (j : Int) < 5 → G j = true) := Lib.hid fun j hj => by
          rcases Nat.lt_or_ge j 4 with h | h
          · exact HG.out j (by omega)
          · obtain rfl : j = 4 := by omega
            exact hr
        clear hr HNo HYes HG HW
        go_wp2_with fail
        refine (wright_v HR.out _).mono ?_; rintro e w1 ⟨rfl, x1⟩
        have y := xr.trans ((Ext.alloc _ _).trans x1)
        clear xr x1
        go_wp2
        go_roundw
        case rel => exact ⟨5, ⟨by decide, by decide⟩, by go_num, HG1, y⟩
        case measure => simp [intOf]
    · have hB := HYes.out (fun j hj => HG.out j (by omega))
      subst hB
      go_wp2
      go_ret
      exact ⟨rfl, xr⟩
set_option maxHeartbeats 2000000 in
theorem fright_any (V : FilV) (F : Fil) (w : World) : Calls Try.prog 16 #[.agg (filC V F)] w fun e w' => e = .returned (.bool (rightB F)) ∧ Ext w w' := by
  have e0 := Ext.alloc w (.cells (filC V F) 29)
  have e1 := Ext.alloc (w.alloc (.cells (filC V F) 29)) (.cells (bnkC F) 25)
  have H := Lib.hid (rightB_iff F)
  generalize rightB F = B at H ⊢
  have HB := Lib.hid (fun w' => fmaybe_v (F := F) rfl w')
  generalize bankB F = D at H HB
  obtain ⟨cf, cc, jf, jc, hf, hc, rf, rc, bf, bc, nC, C, nI, I, nH, H, nR, R⟩ := F
  obtain ⟨a1, d1, a2, d2, a3, d3, a4, d4⟩ := V
  unfold bnkC at HB e1
  unfold filC at e0 e1 ⊢
  simp only at HB e0 e1 ⊢
  have x2 := e0.trans e1
  clear e0 e1
  go_enter Try.func16, Try.ntmps16
  go_wp2_with fail
  all_goals
    refine (HB.out _).mono ?_; rintro e w1 ⟨rfl, x1⟩
    have x3 := x2.trans x1
    clear x1 x2
    cases D
    all_goals go_wp2
    all_goals
      go_ret
      refine ⟨ret_b (Bool.eq_iff_iff.2 (Iff.trans ?_ H.out.symm)), x3⟩
      first
        | (simp; done)
        | (simp; omega)
theorem fright_v {V : FilV} {F : Fil} {B : Bool} (h : rightB F = B) (w : World) : Calls Try.prog 16 #[.agg (filC V F)] w fun e w' => e = .returned (.bool B) ∧ Ext w w' := h ▸ fright_any V F w
theorem fright_c : FRightC 16 := fun V F w _ => fright_any V F w
theorem fcoils_v (V : FilV) (F : Fil) (g : Nat) (w : World) (hb : w.heap[g]? = some (.cells (filC V F) 66 (0, 0))) : Calls Try.prog 23 #[.pointer (some ⟨g, 0, none⟩)] w fun e w' => e = .returned (.tuple #[.agg #[.int .i64 F.cf, .int .i64 F.cc], .pointer (some ⟨g, 10, none⟩)]) ∧ Ext w w' := by
  obtain ⟨cf, cc, jf, jc, hf, hc, rf, rc, bf, bc, nC, C, nI, I, nH, H, nR, R⟩ := F
  unfold filC at hb
  simp only at hb ⊢
  have e0 := Ext.alloc w (.cells #[.int .i64 0, .int .i64 0] 23)
  have e1 := ext_drew e0
  have c0 := cell_of_heap (j := 0) (e1.block hb) rfl
  have c1 := cell_of_heap (j := 1) (e1.block hb) rfl
  have hlt := heap_lt hb
  have y := ext_drew (Ext.alloc w (.cells #[.int .i64 cf, .int .i64 cc] 23))
  clear e0 e1 hb
  go_enter Try.func23, Try.ntmps23
  go_wp2_with fail
  go_region
  go_wp2_with fail
  refine bodyPost_ret (results_row_tmp rfl _ _ w.heap.size 23 _ (0, 0) _ rfl (heap_alloc_new w _) Try.underlying23 rfl (by kernel_rfl)) rfl ⟨by rfl, y⟩
theorem finputs_v (V : FilV) (F : Fil) (g : Nat) (w : World) (hb : w.heap[g]? = some (.cells (filC V F) 66 (0, 0))) : Calls Try.prog 24 #[.pointer (some ⟨g, 0, none⟩)] w fun e w' => e = .returned (.tuple #[.agg #[.int .i64 F.jf, .int .i64 F.jc], .pointer (some ⟨g, 11, none⟩)]) ∧ Ext w w' := by
  obtain ⟨cf, cc, jf, jc, hf, hc, rf, rc, bf, bc, nC, C, nI, I, nH, H, nR, R⟩ := F
  unfold filC at hb
  simp only at hb ⊢
  have e0 := Ext.alloc w (.cells #[.int .i64 0, .int .i64 0] 23)
  have e1 := ext_drew e0
  have c0 := cell_of_heap (j := 2) (e1.block hb) rfl
  have c1 := cell_of_heap (j := 3) (e1.block hb) rfl
  have hlt := heap_lt hb
  have y := ext_drew (Ext.alloc w (.cells #[.int .i64 jf, .int .i64 jc] 23))
  clear e0 e1 hb
  go_enter Try.func24, Try.ntmps24
  go_wp2_with fail
  go_region
  go_wp2_with fail
  refine bodyPost_ret (results_row_tmp rfl _ _ w.heap.size 23 _ (0, 0) _ rfl (heap_alloc_new w _) Try.underlying23 rfl (by kernel_rfl)) rfl ⟨by rfl, y⟩
end Go.Proofs.Ytkgakeknnfnjdaa
namespace Go.Proofs.Ytkgakeknnfnjdaa
open Go.RowKit
set_option linter.unusedVariables false

set_option maxHeartbeats 2000000 in
theorem freadbool_no (V : FilV) (F : Fil) (T G : FuncId) (x k : Int) (w : World) (hr : rightB F = false) :
    Calls Try.prog 25 #[.agg (filC V F), .func (Fn.func T) #[] #[], .func (Fn.func G) #[] #[], .int .i64 x, .int .i64 k] w fun e w' => e = .returned (.tuple #[.slice none 0 0, .int .i64 11]) ∧ Ext w w' := by
  have e0 := Ext.alloc w (.cells (filC V F) 29)
  have HR := Lib.hid (fun w' => fright_v (V := V) hr w')
  clear hr
  unfold filC at HR e0 ⊢
  go_enter Try.func25, Try.ntmps25
  go_wp2_with fail
  refine (HR.out _).mono ?_; rintro e w1 ⟨rfl, x1⟩
  have x2 := e0.trans x1
  go_wp2
  go_ret2
  exact ⟨rfl, x2⟩
set_option maxRecDepth 100000 in
set_option maxHeartbeats 4000000 in
theorem fread_coils (V : FilV) (F : Fil) (x k : Int) (w : World) (h : FilAt w V F) (wx : (Lit.int .i64 x).wf = true) (wk : (Lit.int .i64 k).wf = true) (hr : rightB F = true) :
    Calls Try.prog 25 #[.agg (filC V F), .func (Fn.func 23) #[] #[], .func (Fn.func 26) #[] #[], .int .i64 x, .int .i64 k] w (SlP Value.bool (rdE F.cf F.cc F.nC x k) (rdN F.cf F.cc F.nC x k k.toNat) (rdF F.C F.cf x) w) := by
  have hs := right_small hr
  unfold SlP
  have e0 := Ext.alloc w (.cells (filC V F) 29)
  have HR := Lib.hid (fun w' => fright_v (V := V) hr w')
  have HT := Lib.hid (fun g w' hb => fcoils_v V F g w' hb)
  have K := Lib.hid (fun w' (hx : Ext w w') => (cbits_f F.cf F.cc x k V.a1 F.nC V.d1 F.C w' (h.h1.ext hx) h.l1 h.m1 (Nat.le_trans hs.1 (by decide)) wx wk).mono fun _ _ => RdPostF.sl)
  unfold SlP at K
  generalize rdE F.cf F.cc F.nC x k = E at K ⊢
  generalize rdN F.cf F.cc F.nC x k k.toNat = N at K ⊢
  generalize rdF F.C F.cf x = L at K ⊢
  clear h hs hr wx wk
  go_enter Try.func25, Try.ntmps25
  go_upto_region 1 with fail
  have gA := heap_alloc_new w (.cells (filC V F) 29)
  go_wp2_with (first | (refine wpList_load_row rfl 29 (.tmp 5) rfl w.heap.size rfl 29 _ (0, 0) _ gA Try.underlying29 rfl (by kernel_rfl) ?_))
  refine (HR.out _).mono ?_; rintro e w1 ⟨rfl, x1⟩
  have gB := x1.block gA
  have x2 := e0.trans x1
  clear gA x1 e0
  obtain ⟨W3, hW3, y3, b3⟩ : ∃ W, W = ((w1.alloc (.cells #[.int .i64 0, .int .i64 0, .int .i64 0, .int .i64 0, .int .i64 0, .int .i64 0, .int .i64 0, .int .i64 0, .int .i64 0, .int .i64 0, .slice none 0 0, .slice none 0 0, .slice none 0 0, .slice none 0 0] 66)).setRow w1.heap.size (filC V F)) ∧ Ext w1 W ∧ W.heap[w1.heap.size]? = some (.cells (filC V F) 66 (0, 0)) := ⟨_, rfl, boxed_row _ _ _ _⟩
  have gN := heap_alloc_new w1 (.cells #[.int .i64 0, .int .i64 0, .int .i64 0, .int .i64 0, .int .i64 0, .int .i64 0, .int .i64 0, .int .i64 0, .int .i64 0, .int .i64 0, .slice none 0 0, .slice none 0 0, .slice none 0 0, .slice none 0 0] 66)
  go_wp2_with (first
    | (refine wpList_load_row rfl 29 (.tmp 5) rfl w.heap.size rfl 29 _ (0, 0) _ gB Try.underlying29 rfl (by kernel_rfl) ?_)
    | (refine wpList_store_row rfl 66 (.tmp 12) (.tmp 18) rfl w1.heap.size _ rfl rfl 66 _ gN (by kernel_rfl) rfl (by simp [filC, Value.oneCell']) ?_))
  rw [← hW3]
  clear hW3 gN gB
  refine (HT.out _ _ b3).mono ?_; rintro e w4 ⟨rfl, x4⟩
  have b4 := x4.block b3
  obtain ⟨W5, hW5, HY, HE⟩ : ∃ W5, W5 = w4.alloc (.cells #[.int .i64 F.cf, .int .i64 F.cc] 23) ∧ Hid (∀ W, Ext W5 W → W.cell? ⟨w4.heap.size, 0, none⟩ = some (.int .i64 F.cf) ∧ W.cell? ⟨w4.heap.size, 1, none⟩ = some (.int .i64 F.cc) ∧ W.cell? ⟨w1.heap.size, 10, none⟩ = some (.slice V.a1 F.nC V.d1)) ∧ Hid (Ext w W5) :=
    ⟨_, rfl, Lib.hid (fun W hx => ⟨hx.made 0 _ rfl, hx.made 1 _ rfl, cell_of_heap (((Ext.alloc w4 _).trans hx).block b4) rfl⟩), Lib.hid (x2.trans (y3.trans (x4.trans (Ext.alloc _ _))))⟩
  clear y3 b3 x4 b4 x2
  go_wp2_with fail
  rw [← hW5]
  clear hW5
  obtain ⟨q0, q1, q2⟩ := HY.out W5.drew (Ext.drew _)
  have y0 : Ext W5 W5.drew := Ext.drew _
  go_region_held3 (fun w' => w'.cell? ⟨w4.heap.size, 0, none⟩ = some (.int .i64 F.cf) ∧ w'.cell? ⟨w4.heap.size, 1, none⟩ = some (.int .i64 F.cc) ∧ w'.cell? ⟨w1.heap.size, 10, none⟩ = some (.slice V.a1 F.nC V.d1) ∧ Ext W5 w')
    ((refine ⟨?_, ?_, ?_, ?_⟩ <;> assumption))
    (first
      | (go_at_call 26; refine (K.out _ (HE.out.trans (by assumption))).mono ?_; rintro e w6 ⟨b, q, rfl, h1, h2, h3, x6, f6⟩; have f7 : Fresh w b := Fresh.back f6 (HE.out.trans (by assumption)); have y6 : Ext W5 w6 := Ext.trans (by assumption) x6; obtain ⟨a0, a1, a2⟩ := HY.out _ y6))
  clear q0 q1 q2 a0 a1 a2
  go_wp2
  go_ret2
  exact ⟨b, q, rfl, h1, h2, h3, HE.out.trans y6, f7⟩
set_option maxRecDepth 100000 in
set_option maxHeartbeats 4000000 in
theorem fread_inputs (V : FilV) (F : Fil) (x k : Int) (w : World) (h : FilAt w V F) (wx : (Lit.int .i64 x).wf = true) (wk : (Lit.int .i64 k).wf = true) (hr : rightB F = true) :
    Calls Try.prog 25 #[.agg (filC V F), .func (Fn.func 24) #[] #[], .func (Fn.func 26) #[] #[], .int .i64 x, .int .i64 k] w (SlP Value.bool (rdE F.jf F.jc F.nI x k) (rdN F.jf F.jc F.nI x k k.toNat) (rdF F.I F.jf x) w) := by
  have hs := right_small hr
  unfold SlP
  have e0 := Ext.alloc w (.cells (filC V F) 29)
  have HR := Lib.hid (fun w' => fright_v (V := V) hr w')
  have HT := Lib.hid (fun g w' hb => finputs_v V F g w' hb)
  have K := Lib.hid (fun w' (hx : Ext w w') => (cbits_f F.jf F.jc x k V.a2 F.nI V.d2 F.I w' (h.h2.ext hx) h.l2 h.m2 (Nat.le_trans hs.2.1 (by decide)) wx wk).mono fun _ _ => RdPostF.sl)
  unfold SlP at K
  generalize rdE F.jf F.jc F.nI x k = E at K ⊢
  generalize rdN F.jf F.jc F.nI x k k.toNat = N at K ⊢
  generalize rdF F.I F.jf x = L at K ⊢
  clear h hs hr wx wk
  go_enter Try.func25, Try.ntmps25
  go_upto_region 1 with fail
  have gA := heap_alloc_new w (.cells (filC V F) 29)
  go_wp2_with (first | (refine wpList_load_row rfl 29 (.tmp 5) rfl w.heap.size rfl 29 _ (0, 0) _ gA Try.underlying29 rfl (by kernel_rfl) ?_))
  refine (HR.out _).mono ?_; rintro e w1 ⟨rfl, x1⟩
  have gB := x1.block gA
  have x2 := e0.trans x1
  clear gA x1 e0
  obtain ⟨W3, hW3, y3, b3⟩ : ∃ W, W = ((w1.alloc (.cells #[.int .i64 0, .int .i64 0, .int .i64 0, .int .i64 0, .int .i64 0, .int .i64 0, .int .i64 0, .int .i64 0, .int .i64 0, .int .i64 0, .slice none 0 0, .slice none 0 0, .slice none 0 0, .slice none 0 0] 66)).setRow w1.heap.size (filC V F)) ∧ Ext w1 W ∧ W.heap[w1.heap.size]? = some (.cells (filC V F) 66 (0, 0)) := ⟨_, rfl, boxed_row _ _ _ _⟩
  have gN := heap_alloc_new w1 (.cells #[.int .i64 0, .int .i64 0, .int .i64 0, .int .i64 0, .int .i64 0, .int .i64 0, .int .i64 0, .int .i64 0, .int .i64 0, .int .i64 0, .slice none 0 0, .slice none 0 0, .slice none 0 0, .slice none 0 0] 66)
  go_wp2_with (first
    | (refine wpList_load_row rfl 29 (.tmp 5) rfl w.heap.size rfl 29 _ (0, 0) _ gB Try.underlying29 rfl (by kernel_rfl) ?_)
    | (refine wpList_store_row rfl 66 (.tmp 12) (.tmp 18) rfl w1.heap.size _ rfl rfl 66 _ gN (by kernel_rfl) rfl (by simp [filC, Value.oneCell']) ?_))
  rw [← hW3]
  clear hW3 gN gB
  refine (HT.out _ _ b3).mono ?_; rintro e w4 ⟨rfl, x4⟩
  have b4 := x4.block b3
  obtain ⟨W5, hW5, HY, HE⟩ : ∃ W5, W5 = w4.alloc (.cells #[.int .i64 F.jf, .int .i64 F.jc] 23) ∧ Hid (∀ W, Ext W5 W → W.cell? ⟨w4.heap.size, 0, none⟩ = some (.int .i64 F.jf) ∧ W.cell? ⟨w4.heap.size, 1, none⟩ = some (.int .i64 F.jc) ∧ W.cell? ⟨w1.heap.size, 11, none⟩ = some (.slice V.a2 F.nI V.d2)) ∧ Hid (Ext w W5) :=
    ⟨_, rfl, Lib.hid (fun W hx => ⟨hx.made 0 _ rfl, hx.made 1 _ rfl, cell_of_heap (((Ext.alloc w4 _).trans hx).block b4) rfl⟩), Lib.hid (x2.trans (y3.trans (x4.trans (Ext.alloc _ _))))⟩
  clear y3 b3 x4 b4 x2
  go_wp2_with fail
  rw [← hW5]
  clear hW5
  obtain ⟨q0, q1, q2⟩ := HY.out W5.drew (Ext.drew _)
  have y0 : Ext W5 W5.drew := Ext.drew _
  go_region_held3 (fun w' => w'.cell? ⟨w4.heap.size, 0, none⟩ = some (.int .i64 F.jf) ∧ w'.cell? ⟨w4.heap.size, 1, none⟩ = some (.int .i64 F.jc) ∧ w'.cell? ⟨w1.heap.size, 11, none⟩ = some (.slice V.a2 F.nI V.d2) ∧ Ext W5 w')
    ((refine ⟨?_, ?_, ?_, ?_⟩ <;> assumption))
    (first
      | (go_at_call 26; refine (K.out _ (HE.out.trans (by assumption))).mono ?_; rintro e w6 ⟨b, q, rfl, h1, h2, h3, x6, f6⟩; have f7 : Fresh w b := Fresh.back f6 (HE.out.trans (by assumption)); have y6 : Ext W5 w6 := Ext.trans (by assumption) x6; obtain ⟨a0, a1, a2⟩ := HY.out _ y6))
  clear q0 q1 q2 a0 a1 a2
  go_wp2
  go_ret2
  exact ⟨b, q, rfl, h1, h2, h3, HE.out.trans y6, f7⟩
end Go.Proofs.Ytkgakeknnfnjdaa
namespace Go.Proofs.Ytkgakeknnfnjdaa
open Go.RowKit
set_option linter.unusedVariables false

set_option maxRecDepth 100000 in
set_option maxHeartbeats 4000000 in
theorem fbits_c : FBitsC 14 := by
  intro V F i x k w h wx wk
  unfold SlP
  cases hr : rightB F with
  | false =>
    obtain ⟨hE, hN⟩ := bitE_no (x := x) (k := k) i hr
    rw [hE, hN]
    have HR := Lib.hid (fun T G w' => freadbool_no V F T G x k w' hr)
    clear hr hE hN h wx wk
    cases i
    all_goals
      have gA := heap_alloc_new w (.cells (filC V F) 29)
      have e0 := Ext.alloc w (.cells (filC V F) 29)
      go_enter Try.func14, Try.ntmps14
      go_upto_region 1 with fail
      go_wp2_with (first | (refine wpList_load_row rfl 29 (.tmp 4) rfl w.heap.size rfl 29 _ (0, 0) _ gA Try.underlying29 rfl (by kernel_rfl) ?_))
      refine (HR.out _ _ _).mono ?_; rintro e w1 ⟨rfl, x1⟩
      have x2 := e0.trans x1
      clear gA
      go_wp2
      go_ret2
      exact ⟨_, _, rfl, Nat.zero_le _, Nat.zero_le _, .inl rfl, x2, Fresh.nil _⟩
  | true =>
    cases i with
    | true =>
      obtain ⟨hE, hN⟩ := bitE_in (x := x) (k := k) hr
      rw [hE, hN, show bitL F true x = rdF F.I F.jf x from rfl]
      have K := Lib.hid (fun w' (hx : Ext w w') => fread_inputs V F x k w' (h.ext hx) wx wk hr)
      unfold SlP at K
      generalize rdE F.jf F.jc F.nI x k = E at K ⊢
      generalize rdN F.jf F.jc F.nI x k k.toNat = N at K ⊢
      generalize rdF F.I F.jf x = L at K ⊢
      clear h hr hE hN wx wk
      have gA := heap_alloc_new w (.cells (filC V F) 29)
      have e0 := Ext.alloc w (.cells (filC V F) 29)
      go_enter Try.func14, Try.ntmps14
      go_upto_region 1 with fail
      go_wp2_with (first | (refine wpList_load_row rfl 29 (.tmp 4) rfl w.heap.size rfl 29 _ (0, 0) _ gA Try.underlying29 rfl (by kernel_rfl) ?_))
      refine (K.out _ e0).mono ?_; rintro e w3 ⟨b, q, rfl, h1, h2, h3, x3, f3⟩
      have x4 := e0.trans x3
      have f4 := f3.back e0
      clear gA x3 f3
      go_wp2
      go_ret2
      exact ⟨b, q, rfl, h1, h2, h3, x4, f4⟩
    | false =>
      obtain ⟨hE, hN⟩ := bitE_out (x := x) (k := k) hr
      rw [hE, hN, show bitL F false x = rdF F.C F.cf x from rfl]
      have K := Lib.hid (fun w' (hx : Ext w w') => fread_coils V F x k w' (h.ext hx) wx wk hr)
      unfold SlP at K
      generalize rdE F.cf F.cc F.nC x k = E at K ⊢
      generalize rdN F.cf F.cc F.nC x k k.toNat = N at K ⊢
      generalize rdF F.C F.cf x = L at K ⊢
      clear h hr hE hN wx wk
      have gA := heap_alloc_new w (.cells (filC V F) 29)
      have e0 := Ext.alloc w (.cells (filC V F) 29)
      go_enter Try.func14, Try.ntmps14
      go_upto_region 1 with fail
      go_wp2_with (first | (refine wpList_load_row rfl 29 (.tmp 4) rfl w.heap.size rfl 29 _ (0, 0) _ gA Try.underlying29 rfl (by kernel_rfl) ?_))
      refine (K.out _ e0).mono ?_; rintro e w3 ⟨b, q, rfl, h1, h2, h3, x3, f3⟩
      have x4 := e0.trans x3
      have f4 := f3.back e0
      clear gA x3 f3
      go_wp2
      go_ret2
      exact ⟨b, q, rfl, h1, h2, h3, x4, f4⟩
end Go.Proofs.Ytkgakeknnfnjdaa
