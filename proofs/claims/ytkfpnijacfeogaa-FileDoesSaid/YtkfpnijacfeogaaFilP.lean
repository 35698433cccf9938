/-
  CONTRACTS: package file (layer 14): what may be; its tables.
-/
import Derived.Test.YtkfpnijacfeogaaFilC
import Derived.Test.YtkfpnijacfeogaaFilT
namespace Go.Proofs.Ytkfpnijacfeogaa
open Go.RowKit
set_option linter.unusedVariables false

/-- A bank's windows, by their numbers: may it be? -/
def winB (F : Fil) (j : Nat) : Bool := if j = 0 then rgtB F.cf F.cc else if j = 1 then rgtB F.jf F.jc else if j = 2 then rgtB F.hf F.hc else if j = 3 then rgtB F.rf F.rc else rgtB F.bf F.bc
theorem win_no {F : Fil} {j : Nat} (h : winB F j = false) : bankB F = false := by
  unfold winB at h
  unfold bankB
  split at h
  · rw [h]; rfl
  · split at h
    · rw [h, Bool.and_false]; rfl
    · split at h
      · rw [h, Bool.and_false]; rfl
      · split at h
        · rw [h, Bool.and_false]; rfl
        · rw [h, Bool.and_false]
theorem win_yes {F : Fil} (h : ∀ j, j < 5 → winB F j = true) : bankB F = true :=
  (bankB_iff F).2 ⟨h 0 (by decide), h 1 (by decide), h 2 (by decide), h 3 (by decide), h 4 (by decide)⟩
theorem win_at0 (cf cc jf jc hf hc rf rc bf bc : Int) (W : World) : (Instr.index 92 (.agg #[.int .i64 cf, .int .i64 cc, .int .i64 jf, .int .i64 jc, .int .i64 hf, .int .i64 hc, .int .i64 rf, .int .i64 rc, .int .i64 bf, .int .i64 bc]) (.int .i64 0)).run Try.prog W = .ok (.agg #[.int .i64 cf, .int .i64 cc]) W := by kernel_rfl
theorem win_at1 (cf cc jf jc hf hc rf rc bf bc : Int) (W : World) : (Instr.index 92 (.agg #[.int .i64 cf, .int .i64 cc, .int .i64 jf, .int .i64 jc, .int .i64 hf, .int .i64 hc, .int .i64 rf, .int .i64 rc, .int .i64 bf, .int .i64 bc]) (.int .i64 1)).run Try.prog W = .ok (.agg #[.int .i64 jf, .int .i64 jc]) W := by kernel_rfl
theorem win_at2 (cf cc jf jc hf hc rf rc bf bc : Int) (W : World) : (Instr.index 92 (.agg #[.int .i64 cf, .int .i64 cc, .int .i64 jf, .int .i64 jc, .int .i64 hf, .int .i64 hc, .int .i64 rf, .int .i64 rc, .int .i64 bf, .int .i64 bc]) (.int .i64 2)).run Try.prog W = .ok (.agg #[.int .i64 hf, .int .i64 hc]) W := by kernel_rfl
theorem win_at3 (cf cc jf jc hf hc rf rc bf bc : Int) (W : World) : (Instr.index 92 (.agg #[.int .i64 cf, .int .i64 cc, .int .i64 jf, .int .i64 jc, .int .i64 hf, .int .i64 hc, .int .i64 rf, .int .i64 rc, .int .i64 bf, .int .i64 bc]) (.int .i64 3)).run Try.prog W = .ok (.agg #[.int .i64 rf, .int .i64 rc]) W := by kernel_rfl
theorem win_at4 (cf cc jf jc hf hc rf rc bf bc : Int) (W : World) : (Instr.index 92 (.agg #[.int .i64 cf, .int .i64 cc, .int .i64 jf, .int .i64 jc, .int .i64 hf, .int .i64 hc, .int .i64 rf, .int .i64 rc, .int .i64 bf, .int .i64 bc]) (.int .i64 4)).run Try.prog W = .ok (.agg #[.int .i64 bf, .int .i64 bc]) W := by kernel_rfl
set_option maxHeartbeats 2000000 in
theorem fmaybe_v {F : Fil} {B : Bool} (h : bankB F = B) (w : World) : Calls Try.prog 27 #[.agg (bnkC F)] w fun e w' => e = .returned (.bool B) ∧ Ext w w' := by
  have e0 := Ext.alloc w (.cells (bnkC F) 25)
  have HNo := Lib.hid (fun j (k : winB F j = false) => (h.symm.trans (win_no k) : B = false))
  have HYes := Lib.hid (fun (k : ∀ j, j < 5 → winB F j = true) => (h.symm.trans (win_yes k) : B = true))
  have HW : Hid ((winB F 0 = rgtB F.cf F.cc) ∧ (winB F 1 = rgtB F.jf F.jc) ∧ (winB F 2 = rgtB F.hf F.hc) ∧ (winB F 3 = rgtB F.rf F.rc) ∧ (winB F 4 = rgtB F.bf F.bc)) := Lib.hid ⟨rfl, rfl, rfl, rfl, rfl⟩
  clear h
  generalize winB F = G at HNo HYes HW
  obtain ⟨cf, cc, jf, jc, hf, hc, rf, rc, bf, bc, nC, C, nI, I, nH, H, nR, R⟩ := F
  unfold bnkC at e0 ⊢
  simp only at e0 HW ⊢
  go_enter Try.func27, Try.ntmps27
  go_wp2
  go_loopw [16] (fun iv wr => ∃ k : Int, (0 ≤ k ∧ k ≤ 5) ∧ iv = .int .i64 k ∧ Hid (∀ j : Nat, (j : Int) < k → G j = true) ∧ Ext w wr) (fun iv _ => 5 - (intOf iv).toNat)
  case atStart => exact ⟨0, ⟨by decide, by decide⟩, rfl, Lib.hid fun j hj => absurd hj (by omega), e0⟩
  case round =>
    obtain ⟨k, hk, rfl, HG, xr⟩ := hrel
    clear e0
    have hk3 : k = 0 ∨ k = 1 ∨ k = 2 ∨ k = 3 ∨ k = 4 ∨ k = 5 := by omega
    clear hk
    rcases hk3 with rfl | rfl | rfl | rfl | rfl | rfl
    · have hix := fun W => win_at0 cf cc jf jc hf hc rf rc bf bc W
      cases hr : G 0 with
      | false =>
        have hB := HNo.out _ hr
        subst hB
        have HR := Lib.hid (HW.out.1.symm.trans hr)
        clear hr HNo HYes HG HW
        go_wp2_with fail
        refine (wright_v HR.out _).mono ?_; rintro e w1 ⟨rfl, x1⟩
        have y := xr.trans ((Ext.alloc _ _).trans x1)
        clear xr x1
        go_wp2
        go_ret
        exact ⟨rfl, y⟩
      | true =>
        have HR := Lib.hid (HW.out.1.symm.trans hr)
        have HG1 : Hid (∀ j : Nat, (j : Int) < 1 → G j = true) := Lib.hid fun j hj => by
          rcases Nat.lt_or_ge j 0 with h | h
          · exact HG.out j (by omega)
          · obtain rfl : j = 0 := by omega
            exact hr
        clear hr HNo HYes HG HW
        go_wp2_with fail
        refine (wright_v HR.out _).mono ?_; rintro e w1 ⟨rfl, x1⟩
        have y := xr.trans ((Ext.alloc _ _).trans x1)
        clear xr x1
        go_wp2
        go_roundw
        case rel => exact ⟨1, ⟨by decide, by decide⟩, by go_num, HG1, y⟩
        case measure => simp [intOf]
    · have hix := fun W => win_at1 cf cc jf jc hf hc rf rc bf bc W
      cases hr : G 1 with
      | false =>
        have hB := HNo.out _ hr
        subst hB
        have HR := Lib.hid (HW.out.2.1.symm.trans hr)
        clear hr HNo HYes HG HW
        go_wp2_with fail
        refine (wright_v HR.out _).mono ?_; rintro e w1 ⟨rfl, x1⟩
        have y := xr.trans ((Ext.alloc _ _).trans x1)
        clear xr x1
        go_wp2
        go_ret
        exact ⟨rfl, y⟩
      | true =>
        have HR := Lib.hid (HW.out.2.1.symm.trans hr)
        have HG1 : Hid (∀ j : Nat, (j : Int) < 2 → G j = true) := Lib.hid fun j hj => by
          rcases Nat.lt_or_ge j 1 with h | h
          · exact HG.out j (by omega)
          · obtain rfl : j = 1 := by omega
            exact hr
        clear hr HNo HYes HG HW
        go_wp2_with fail
        refine (wright_v HR.out _).mono ?_; rintro e w1 ⟨rfl, x1⟩
        have y := xr.trans ((Ext.alloc _ _).trans x1)
        clear xr x1
        go_wp2
        go_roundw
        case rel => exact ⟨2, ⟨by decide, by decide⟩, by go_num, HG1, y⟩
        case measure => simp [intOf]
    · have hix := fun W => win_at2 cf cc jf jc hf hc rf rc bf bc W
      cases hr : G 2 with
      | false =>
        have hB := HNo.out _ hr
        subst hB
        have HR := Lib.hid (HW.out.2.2.1.symm.trans hr)
        clear hr HNo HYes HG HW
        go_wp2_with fail
        refine (wright_v HR.out _).mono ?_; rintro e w1 ⟨rfl, x1⟩
        have y := xr.trans ((Ext.alloc _ _).trans x1)
        clear xr x1
        go_wp2
        go_ret
        exact ⟨rfl, y⟩
      | true =>
        have HR := Lib.hid (HW.out.2.2.1.symm.trans hr)
        have HG1 : Hid (∀ j : Nat, (j : Int) < 3 → G j = true) := Lib.hid fun j hj => by
          rcases Nat.lt_or_ge j 2 with h | h
          · exact HG.out j (by omega)
          · obtain rfl : j = 2 := by omega
            exact hr
        clear hr HNo HYes HG HW
        go_wp2_with fail
        refine (wright_v HR.out _).mono ?_; rintro e w1 ⟨rfl, x1⟩
        have y := xr.trans ((Ext.alloc _ _).trans x1)
        clear xr x1
        go_wp2
        go_roundw
        case rel => exact ⟨3, ⟨by decide, by decide⟩, by go_num, HG1, y⟩
        case measure => simp [intOf]
    · have hix := fun W => win_at3 cf cc jf jc hf hc rf rc bf bc W
      cases hr : G 3 with
      | false =>
        have hB := HNo.out _ hr
        subst hB
        have HR := Lib.hid (HW.out.2.2.2.1.symm.trans hr)
        clear hr HNo HYes HG HW
        go_wp2_with fail
        refine (wright_v HR.out _).mono ?_; rintro e w1 ⟨rfl, x1⟩
        have y := xr.trans ((Ext.alloc _ _).trans x1)
        clear xr x1
        go_wp2
        go_ret
        exact ⟨rfl, y⟩
      | true =>
        have HR := Lib.hid (HW.out.2.2.2.1.symm.trans hr)
        have HG1 : Hid (∀ j : Nat, (j : Int) < 4 → G j = true) := Lib.hid fun j hj => by
          rcases Nat.lt_or_ge j 3 with h | h
          · exact HG.out j (by omega)
          · obtain rfl : j = 3 := by omega
            exact hr
        clear hr HNo HYes HG HW
        go_wp2_with fail
        refine (wright_v HR.out _).mono ?_; rintro e w1 ⟨rfl, x1⟩
        have y := xr.trans ((Ext.alloc _ _).trans x1)
        clear xr x1
        go_wp2
        go_roundw
        case rel => exact ⟨4, ⟨by decide, by decide⟩, by go_num, HG1, y⟩
        case measure => simp [intOf]
    · have hix := fun W => win_at4 cf cc jf jc hf hc rf rc bf bc W
      cases hr : G 4 with
      | false =>
        have hB := HNo.out _ hr
        subst hB
        have HR := Lib.hid (HW.out.2.2.2.2.symm.trans hr)
        clear hr HNo HYes HG HW
        go_wp2_with fail
        refine (wright_v HR.out _).mono ?_; rintro e w1 ⟨rfl, x1⟩
        have y := xr.trans ((Ext.alloc _ _).trans x1)
        clear xr x1
        go_wp2
        go_ret
        exact ⟨rfl, y⟩
      | true =>
        have HR := Lib.hid (HW.out.2.2.2.2.symm.trans hr)
        have HG1 : Hid (∀ j : Nat, (j : Int) < 5 → G j = true) := Lib.hid fun j hj => by
          rcases Nat.lt_or_ge j 4 with h | h
          · exact HG.out j (by omega)
          · obtain rfl : j = 4 := by omega
            exact hr
        clear hr HNo HYes HG HW
        go_wp2_with fail
        refine (wright_v HR.out _).mono ?_; rintro e w1 ⟨rfl, x1⟩
        have y := xr.trans ((Ext.alloc _ _).trans x1)
        clear xr x1
        go_wp2
        go_roundw
        case rel => exact ⟨5, ⟨by decide, by decide⟩, by go_num, HG1, y⟩
        case measure => simp [intOf]
    · have hB := HYes.out (fun j hj => HG.out j (by omega))
      subst hB
      go_wp2
      go_ret
      exact ⟨rfl, xr⟩
set_option maxHeartbeats 2000000 in
theorem fright_any (V : FilV) (F : Fil) (w : World) : Calls Try.prog 14 #[.agg (filC V F)] w fun e w' => e = .returned (.bool (rightB F)) ∧ Ext w w' := by
  have e0 := Ext.alloc w (.cells (filC V F) 31)
  have e1 := Ext.alloc (w.alloc (.cells (filC V F) 31)) (.cells (bnkC F) 25)
  have H := Lib.hid (rightB_iff F)
  generalize rightB F = B at H ⊢
  have HB := Lib.hid (fun w' => fmaybe_v (F := F) rfl w')
  generalize bankB F = D at H HB
  obtain ⟨cf, cc, jf, jc, hf, hc, rf, rc, bf, bc, nC, C, nI, I, nH, H, nR, R⟩ := F
  obtain ⟨a1, d1, a2, d2, a3, d3, a4, d4⟩ := V
  unfold bnkC at HB e1
  unfold filC at e0 e1 ⊢
  simp only at HB e0 e1 ⊢
  have x2 := e0.trans e1
  clear e0 e1
  go_enter Try.func14, Try.ntmps14
  go_wp2_with fail
  all_goals
    refine (HB.out _).mono ?_; rintro e w1 ⟨rfl, x1⟩
    have x3 := x2.trans x1
    clear x1 x2
    cases D
    all_goals go_wp2
    all_goals
      go_ret
      refine ⟨ret_b (Bool.eq_iff_iff.2 (Iff.trans ?_ H.out.symm)), x3⟩
      first
        | (simp; done)
        | (simp; omega)
theorem fright_v {V : FilV} {F : Fil} {B : Bool} (h : rightB F = B) (w : World) : Calls Try.prog 14 #[.agg (filC V F)] w fun e w' => e = .returned (.bool B) ∧ Ext w w' := h ▸ fright_any V F w
theorem fright_c : FRightC 14 := fun V F w _ => fright_any V F w
theorem fcoils_v (V : FilV) (F : Fil) (g : Nat) (w : World) (hb : w.heap[g]? = some (.cells (filC V F) 96 (0, 0))) : Calls Try.prog 32 #[.pointer (some ⟨g, 0, none⟩)] w fun e w' => e = .returned (.tuple #[.agg #[.int .i64 F.cf, .int .i64 F.cc], .pointer (some ⟨g, 10, none⟩)]) ∧ Ext w w' := by
  obtain ⟨cf, cc, jf, jc, hf, hc, rf, rc, bf, bc, nC, C, nI, I, nH, H, nR, R⟩ := F
  unfold filC at hb
  simp only at hb ⊢
  have e0 := Ext.alloc w (.cells #[.int .i64 0, .int .i64 0] 23)
  have e1 := ext_drew e0
  have c0 := cell_of_heap (j := 0) (e1.block hb) rfl
  have c1 := cell_of_heap (j := 1) (e1.block hb) rfl
  have hlt := heap_lt hb
  have y := ext_drew (Ext.alloc w (.cells #[.int .i64 cf, .int .i64 cc] 23))
  clear e0 e1 hb
  go_enter Try.func32, Try.ntmps32
  go_wp2_with fail
  go_region
  go_wp2_with fail
  refine bodyPost_ret (results_row_tmp rfl _ _ w.heap.size 23 _ (0, 0) _ rfl (heap_alloc_new w _) Try.underlying23 rfl (by kernel_rfl)) rfl ⟨by rfl, y⟩
theorem finputs_v (V : FilV) (F : Fil) (g : Nat) (w : World) (hb : w.heap[g]? = some (.cells (filC V F) 96 (0, 0))) : Calls Try.prog 33 #[.pointer (some ⟨g, 0, none⟩)] w fun e w' => e = .returned (.tuple #[.agg #[.int .i64 F.jf, .int .i64 F.jc], .pointer (some ⟨g, 11, none⟩)]) ∧ Ext w w' := by
  obtain ⟨cf, cc, jf, jc, hf, hc, rf, rc, bf, bc, nC, C, nI, I, nH, H, nR, R⟩ := F
  unfold filC at hb
  simp only at hb ⊢
  have e0 := Ext.alloc w (.cells #[.int .i64 0, .int .i64 0] 23)
  have e1 := ext_drew e0
  have c0 := cell_of_heap (j := 2) (e1.block hb) rfl
  have c1 := cell_of_heap (j := 3) (e1.block hb) rfl
  have hlt := heap_lt hb
  have y := ext_drew (Ext.alloc w (.cells #[.int .i64 jf, .int .i64 jc] 23))
  clear e0 e1 hb
  go_enter Try.func33, Try.ntmps33
  go_wp2_with fail
  go_region
  go_wp2_with fail
  refine bodyPost_ret (results_row_tmp rfl _ _ w.heap.size 23 _ (0, 0) _ rfl (heap_alloc_new w _) Try.underlying23 rfl (by kernel_rfl)) rfl ⟨by rfl, y⟩
theorem fholding_v (V : FilV) (F : Fil) (g : Nat) (w : World) (hb : w.heap[g]? = some (.cells (filC V F) 96 (0, 0))) : Calls Try.prog 40 #[.pointer (some ⟨g, 0, none⟩)] w fun e w' => e = .returned (.tuple #[.agg #[.int .i64 F.hf, .int .i64 F.hc], .pointer (some ⟨g, 12, none⟩)]) ∧ Ext w w' := by
  obtain ⟨cf, cc, jf, jc, hf, hc, rf, rc, bf, bc, nC, C, nI, I, nH, H, nR, R⟩ := F
  unfold filC at hb
  simp only at hb ⊢
  have e0 := Ext.alloc w (.cells #[.int .i64 0, .int .i64 0] 23)
  have e1 := ext_drew e0
  have c0 := cell_of_heap (j := 4) (e1.block hb) rfl
  have c1 := cell_of_heap (j := 5) (e1.block hb) rfl
  have hlt := heap_lt hb
  have y := ext_drew (Ext.alloc w (.cells #[.int .i64 hf, .int .i64 hc] 23))
  clear e0 e1 hb
  go_enter Try.func40, Try.ntmps40
  go_wp2_with fail
  go_region
  go_wp2_with fail
  refine bodyPost_ret (results_row_tmp rfl _ _ w.heap.size 23 _ (0, 0) _ rfl (heap_alloc_new w _) Try.underlying23 rfl (by kernel_rfl)) rfl ⟨by rfl, y⟩
theorem fregs_v (V : FilV) (F : Fil) (g : Nat) (w : World) (hb : w.heap[g]? = some (.cells (filC V F) 96 (0, 0))) : Calls Try.prog 38 #[.pointer (some ⟨g, 0, none⟩)] w fun e w' => e = .returned (.tuple #[.agg #[.int .i64 F.rf, .int .i64 F.rc], .pointer (some ⟨g, 13, none⟩)]) ∧ Ext w w' := by
  obtain ⟨cf, cc, jf, jc, hf, hc, rf, rc, bf, bc, nC, C, nI, I, nH, H, nR, R⟩ := F
  unfold filC at hb
  simp only at hb ⊢
  have e0 := Ext.alloc w (.cells #[.int .i64 0, .int .i64 0] 23)
  have e1 := ext_drew e0
  have c0 := cell_of_heap (j := 6) (e1.block hb) rfl
  have c1 := cell_of_heap (j := 7) (e1.block hb) rfl
  have hlt := heap_lt hb
  have y := ext_drew (Ext.alloc w (.cells #[.int .i64 rf, .int .i64 rc] 23))
  clear e0 e1 hb
  go_enter Try.func38, Try.ntmps38
  go_wp2_with fail
  go_region
  go_wp2_with fail
  refine bodyPost_ret (results_row_tmp rfl _ _ w.heap.size 23 _ (0, 0) _ rfl (heap_alloc_new w _) Try.underlying23 rfl (by kernel_rfl)) rfl ⟨by rfl, y⟩
end Go.Proofs.Ytkfpnijacfeogaa
