/-
  CONTRACTS: package file (layer 14): what may be; its tables.
  CONTRACTS: package file (layer 14): what is read.
  CONTRACTS: package file (layer 14): Bits, Words.
  CONTRACTS: package file (layer 14): the same in memory of its own; what is written.
  CONTRACTS: package file (layer 14): a table written.
  CONTRACTS: package file (layer 14): SetBits, SetWords, Sense.
-/
import Derived.Test.YtlafnobjfajamaaGreatPk7
import Derived.Test.YtlafnobjfajamaaGreatPk17
import Derived.Test.YtlafnobjfajamaaGreatPk22
import Derived.Test.YtlafnobjfajamaaGreatPk6
import Derived.MakeChecks
namespace Go.Proofs.YtlafnobjfajamaaGreat
open Go.RowKit
set_option linter.unusedVariables false

/-- A bank's windows, by their numbers: may it be? -/
def winB (F : Fil) (j : Nat) : Bool := if j = 0 then rgtB F.cf F.cc else if j = 1 then rgtB F.jf F.jc else if j = 2 then rgtB F.hf F.hc else if j = 3 then rgtB F.rf F.rc else rgtB F.bf F.bc
theorem win_no {F : Fil} {j : Nat} (h : winB F j = false) : bankB F = false := by
  unfold winB at h
  unfold bankB
  split at h
  · rw [h]; rfl
  · split at h
    · rw [h, Bool.and_false]; rfl
    · split at h
      · rw [h, Bool.and_false]; rfl
      · split at h
        · rw [h, Bool.and_false]; rfl
        · rw [h, Bool.and_false]
theorem win_yes {F : Fil} (h : ∀ j, j < 5 → winB F j = true) : bankB F = true :=
  (bankB_iff F).2 ⟨h 0 (by decide), h 1 (by decide), h 2 (by decide), h 3 (by decide), h 4 (by decide)⟩
theorem win_at0 (cf cc jf jc hf hc rf rc bf bc : Int) (W : World) : (Instr.index 138 (.agg #[.int .i64 cf, .int .i64 cc, .int .i64 jf, .int .i64 jc, .int .i64 hf, .int .i64 hc, .int .i64 rf, .int .i64 rc, .int .i64 bf, .int .i64 bc]) (.int .i64 0)).run Tryz.prog W = .ok (.agg #[.int .i64 cf, .int .i64 cc]) W := by kernel_rfl
theorem win_at1 (cf cc jf jc hf hc rf rc bf bc : Int) (W : World) : (Instr.index 138 (.agg #[.int .i64 cf, .int .i64 cc, .int .i64 jf, .int .i64 jc, .int .i64 hf, .int .i64 hc, .int .i64 rf, .int .i64 rc, .int .i64 bf, .int .i64 bc]) (.int .i64 1)).run Tryz.prog W = .ok (.agg #[.int .i64 jf, .int .i64 jc]) W := by kernel_rfl
theorem win_at2 (cf cc jf jc hf hc rf rc bf bc : Int) (W : World) : (Instr.index 138 (.agg #[.int .i64 cf, .int .i64 cc, .int .i64 jf, .int .i64 jc, .int .i64 hf, .int .i64 hc, .int .i64 rf, .int .i64 rc, .int .i64 bf, .int .i64 bc]) (.int .i64 2)).run Tryz.prog W = .ok (.agg #[.int .i64 hf, .int .i64 hc]) W := by kernel_rfl
theorem win_at3 (cf cc jf jc hf hc rf rc bf bc : Int) (W : World) : (Instr.index 138 (.agg #[.int .i64 cf, .int .i64 cc, .int .i64 jf, .int .i64 jc, .int .i64 hf, .int .i64 hc, .int .i64 rf, .int .i64 rc, .int .i64 bf, .int .i64 bc]) (.int .i64 3)).run Tryz.prog W = .ok (.agg #[.int .i64 rf, .int .i64 rc]) W := by kernel_rfl
theorem win_at4 (cf cc jf jc hf hc rf rc bf bc : Int) (W : World) : (Instr.index 138 (.agg #[.int .i64 cf, .int .i64 cc, .int .i64 jf, .int .i64 jc, .int .i64 hf, .int .i64 hc, .int .i64 rf, .int .i64 rc, .int .i64 bf, .int .i64 bc]) (.int .i64 4)).run Tryz.prog W = .ok (.agg #[.int .i64 bf, .int .i64 bc]) W := by kernel_rfl
set_option maxHeartbeats 2000000 in
theorem fmaybe_v {F : Fil} {B : Bool} (h : bankB F = B) (w : World) : Calls Tryz.prog 53 #[.agg (bnkC F)] w fun e w' => e = .returned (.bool B) ∧ Ext w w' := by
  have e0 := Ext.alloc w (.cells (bnkC F) 25)
  have HNo := Lib.hid (fun j (k : winB F j = false) => (h.symm.trans (win_no k) : B = false))
  have HYes := Lib.hid (fun (k : ∀ j, j < 5 → winB F j = true) => (h.symm.trans (win_yes k) : B = true))
  have HW : Hid ((winB F 0 = rgtB F.cf F.cc) ∧ (winB F 1 = rgtB F.jf F.jc) ∧ (winB F 2 = rgtB F.hf F.hc) ∧ (winB F 3 = rgtB F.rf F.rc) ∧ (winB F 4 = rgtB F.bf F.bc)) := Lib.hid ⟨rfl, rfl, rfl, rfl, rfl⟩
  clear h
  generalize winB F = G at HNo HYes HW
  obtain ⟨cf, cc, jf, jc, hf, hc, rf, rc, bf, bc, nC, C, nI, I, nH, H, nR, R⟩ := F
  unfold bnkC at e0 ⊢
  simp only at e0 HW ⊢
  go_enter Tryz.func53, Tryz.ntmps53
  go_wp2
  go_loopw [16] (fun iv wr => ∃ k : Int, (0 ≤ k ∧ k ≤ 5) ∧ iv = .int .i64 k ∧ Hid (∀ j : Nat, (j : Int) < k → G j = true) ∧ Ext w wr) (fun iv _ => 5 - (intOf iv).toNat)
  case atStart => exact ⟨0, ⟨by decide, by decide⟩, rfl, Lib.hid fun j hj => absurd hj (by omega), e0⟩
  case round =>
    obtain ⟨k, hk, rfl, HG, xr⟩ := hrel
    clear e0
    have hk3 : k = 0 ∨ k = 1 ∨ k = 2 ∨ k = 3 ∨ k = 4 ∨ k = 5 := by omega
    clear hk
    rcases hk3 with rfl | rfl | rfl | rfl | rfl | rfl
    · have hix := fun W => win_at0 cf cc jf jc hf hc rf rc bf bc W
      cases hr : G 0 with
      | false =>
        have hB := HNo.out _ hr
        subst hB
        have HR := Lib.hid (HW.out.1.symm.trans hr)
        clear hr HNo HYes HG HW
        go_wp2_with fail
        refine (wright_v HR.out _).mono ?_; rintro e w1 ⟨rfl, x1⟩
        have y := xr.trans ((Ext.alloc _ _).trans x1)
        clear xr x1
        go_wp2
        go_ret
        exact ⟨rfl, y⟩
      | true =>
        have HR := Lib.hid (HW.out.1.symm.trans hr)
        have HG1 : Hid (∀ j : Nat, (j : Int) < 1 → G j = true) := Lib.hid fun j hj => by
          rcases Nat.lt_or_ge j 0 with h | h
          · exact HG.out j (by omega)
          · obtain rfl : j = 0 := by omega
            exact hr
        clear hr HNo HYes HG HW
        go_wp2_with fail
        refine (wright_v HR.out _).mono ?_; rintro e w1 ⟨rfl, x1⟩
        have y := xr.trans ((Ext.alloc _ _).trans x1)
        clear xr x1
        go_wp2
        go_roundw
        case rel => exact ⟨1, ⟨by decide, by decide⟩, by go_num, HG1, y⟩
        case measure => simp [intOf]
    · have hix := fun W => win_at1 cf cc jf jc hf hc rf rc bf bc W
      cases hr : G 1 with
      | false =>
        have hB := HNo.out _ hr
        subst hB
        have HR := Lib.hid (HW.out.2.1.symm.trans hr)
        clear hr HNo HYes HG HW
        go_wp2_with fail
        refine (wright_v HR.out _).mono ?_; rintro e w1 ⟨rfl, x1⟩
        have y := xr.trans ((Ext.alloc _ _).trans x1)
        clear xr x1
        go_wp2
        go_ret
        exact ⟨rfl, y⟩
      | true =>
        have HR := Lib.hid (HW.out.2.1.symm.trans hr)
        have HG1 : Hid (∀ j : Nat, (j : Int) < 2 → G j = true) := Lib.hid fun j hj => by
          rcases Nat.lt_or_ge j 1 with h | h
          · exact HG.out j (by omega)
          · obtain rfl : j = 1 := by omega
            exact hr
        clear hr HNo HYes HG HW
        go_wp2_with fail
        refine (wright_v HR.out _).mono ?_; rintro e w1 ⟨rfl, x1⟩
        have y := xr.trans ((Ext.alloc _ _).trans x1)
        clear xr x1
        go_wp2
        go_roundw
        case rel => exact ⟨2, ⟨by decide, by decide⟩, by go_num, HG1, y⟩
        case measure => simp [intOf]
    · have hix := fun W => win_at2 cf cc jf jc hf hc rf rc bf bc W
      cases hr : G 2 with
      | false =>
        have hB := HNo.out _ hr
        subst hB
        have HR := Lib.hid (HW.out.2.2.1.symm.trans hr)
        clear hr HNo HYes HG HW
        go_wp2_with fail
        refine (wright_v HR.out _).mono ?_; rintro e w1 ⟨rfl, x1⟩
        have y := xr.trans ((Ext.alloc _ _).trans x1)
        clear xr x1
        go_wp2
        go_ret
        exact ⟨rfl, y⟩
      | true =>
        have HR := Lib.hid (HW.out.2.2.1.symm.trans hr)
        have HG1 : Hid (∀ j : Nat, (j : Int) < 3 → G j = true) := Lib.hid fun j hj => by
          rcases Nat.lt_or_ge j 2 with h | h
          · exact HG.out j (by omega)
          · obtain rfl : j = 2 := by omega
            exact hr
        clear hr HNo HYes HG HW
        go_wp2_with fail
        refine (wright_v HR.out _).mono ?_; rintro e w1 ⟨rfl, x1⟩
        have y := xr.trans ((Ext.alloc _ _).trans x1)
        clear xr x1
        go_wp2
        go_roundw
        case rel => exact ⟨3, ⟨by decide, by decide⟩, by go_num, HG1, y⟩
        case measure => simp [intOf]
    · have hix := fun W => win_at3 cf cc jf jc hf hc rf rc bf bc W
      cases hr : G 3 with
      | false =>
        have hB := HNo.out _ hr
        subst hB
        have HR := Lib.hid (HW.out.2.2.2.1.symm.trans hr)
        clear hr HNo HYes HG HW
        go_wp2_with fail
        refine (wright_v HR.out _).mono ?_; rintro e w1 ⟨rfl, x1⟩
        have y := xr.trans ((Ext.alloc _ _).trans x1)
        clear xr x1
        go_wp2
        go_ret
        exact ⟨rfl, y⟩
      | true =>
        have HR := Lib.hid (HW.out.2.2.2.1.symm.trans hr)
        have HG1 : Hid (∀ j : Nat, (j : Int) < 4 → G j = true) := Lib.hid fun j hj => by
          rcases Nat.lt_or_ge j 3 with h | h
          · exact HG.out j (by omega)
          · obtain rfl : j = 3 := by omega
            exact hr
        clear hr HNo HYes HG HW
        go_wp2_with fail
        refine (wright_v HR.out _).mono ?_; rintro e w1 ⟨rfl, x1⟩
        have y := xr.trans ((Ext.alloc _ _).trans x1)
        clear xr x1
        go_wp2
        go_roundw
        case rel => exact ⟨4, ⟨by decide, by decide⟩, by go_num, HG1, y⟩
        case measure => simp [intOf]
    · have hix := fun W => win_at4 cf cc jf jc hf hc rf rc bf bc W
      cases hr : G 4 with
      | false =>
        have hB := HNo.out _ hr
        subst hB
        have HR := Lib.hid (HW.out.2.2.2.2.symm.trans hr)
        clear hr HNo HYes HG HW
        go_wp2_with fail
        refine (wright_v HR.out _).mono ?_; rintro e w1 ⟨rfl, x1⟩
        have y := xr.trans ((Ext.alloc _ _).trans x1)
        clear xr x1
        go_wp2
        go_ret
        exact ⟨rfl, y⟩
      | true =>
        have HR := Lib.hid (HW.out.2.2.2.2.symm.trans hr)
        have HG1 : Hid (∀ j : Nat, (j : Int) < 5 → G j = true) := Lib.hid fun j hj => by
          rcases Nat.lt_or_ge j 4 with h | h
          · exact HG.out j (by omega)
          · obtain rfl : j = 4 := by omega
            exact hr
        clear hr HNo HYes HG HW
        go_wp2_with fail
        refine (wright_v HR.out _).mono ?_; rintro e w1 ⟨rfl, x1⟩
        have y := xr.trans ((Ext.alloc _ _).trans x1)
        clear xr x1
        go_wp2
        go_roundw
        case rel => exact ⟨5, ⟨by decide, by decide⟩, by go_num, HG1, y⟩
        case measure => simp [intOf]
    · have hB := HYes.out (fun j hj => HG.out j (by omega))
      subst hB
      go_wp2
      go_ret
      exact ⟨rfl, xr⟩
set_option maxHeartbeats 2000000 in
theorem fright_any (V : FilV) (F : Fil) (w : World) : Calls Tryz.prog 26 #[.agg (filC V F)] w fun e w' => e = .returned (.bool (rightB F)) ∧ Ext w w' := by
  have e0 := Ext.alloc w (.cells (filC V F) 29)
  have e1 := Ext.alloc (w.alloc (.cells (filC V F) 29)) (.cells (bnkC F) 25)
  have H := Lib.hid (rightB_iff F)
  generalize rightB F = B at H ⊢
  have HB := Lib.hid (fun w' => fmaybe_v (F := F) rfl w')
  generalize bankB F = D at H HB
  obtain ⟨cf, cc, jf, jc, hf, hc, rf, rc, bf, bc, nC, C, nI, I, nH, H, nR, R⟩ := F
  obtain ⟨a1, d1, a2, d2, a3, d3, a4, d4⟩ := V
  unfold bnkC at HB e1
  unfold filC at e0 e1 ⊢
  simp only at HB e0 e1 ⊢
  have x2 := e0.trans e1
  clear e0 e1
  go_enter Tryz.func26, Tryz.ntmps26
  go_wp2_with fail
  all_goals
    refine (HB.out _).mono ?_; rintro e w1 ⟨rfl, x1⟩
    have x3 := x2.trans x1
    clear x1 x2
    cases D
    all_goals go_wp2
    all_goals
      go_ret
      refine ⟨ret_b (Bool.eq_iff_iff.2 (Iff.trans ?_ H.out.symm)), x3⟩
      first
        | (simp; done)
        | (simp; omega)
theorem fright_v {V : FilV} {F : Fil} {B : Bool} (h : rightB F = B) (w : World) : Calls Tryz.prog 26 #[.agg (filC V F)] w fun e w' => e = .returned (.bool B) ∧ Ext w w' := h ▸ fright_any V F w
theorem fright_c : FRightC 26 := fun V F w _ => fright_any V F w
theorem fcoils_v (V : FilV) (F : Fil) (g : Nat) (w : World) (hb : w.heap[g]? = some (.cells (filC V F) 139 (0, 0))) : Calls Tryz.prog 56 #[.pointer (some ⟨g, 0, none⟩)] w fun e w' => e = .returned (.tuple #[.agg #[.int .i64 F.cf, .int .i64 F.cc], .pointer (some ⟨g, 10, none⟩)]) ∧ Ext w w' := by
  obtain ⟨cf, cc, jf, jc, hf, hc, rf, rc, bf, bc, nC, C, nI, I, nH, H, nR, R⟩ := F
  unfold filC at hb
  simp only at hb ⊢
  have e0 := Ext.alloc w (.cells #[.int .i64 0, .int .i64 0] 23)
  have e1 := ext_drew e0
  have c0 := cell_of_heap (j := 0) (e1.block hb) rfl
  have c1 := cell_of_heap (j := 1) (e1.block hb) rfl
  have hlt := heap_lt hb
  have y := ext_drew (Ext.alloc w (.cells #[.int .i64 cf, .int .i64 cc] 23))
  clear e0 e1 hb
  go_enter Tryz.func56, Tryz.ntmps56
  go_wp2_with fail
  go_region
  go_wp2_with fail
  refine bodyPost_ret (results_row_tmp rfl _ _ w.heap.size 23 _ (0, 0) _ rfl (heap_alloc_new w _) Tryz.underlying23 rfl (by kernel_rfl)) rfl ⟨by rfl, y⟩
theorem finputs_v (V : FilV) (F : Fil) (g : Nat) (w : World) (hb : w.heap[g]? = some (.cells (filC V F) 139 (0, 0))) : Calls Tryz.prog 57 #[.pointer (some ⟨g, 0, none⟩)] w fun e w' => e = .returned (.tuple #[.agg #[.int .i64 F.jf, .int .i64 F.jc], .pointer (some ⟨g, 11, none⟩)]) ∧ Ext w w' := by
  obtain ⟨cf, cc, jf, jc, hf, hc, rf, rc, bf, bc, nC, C, nI, I, nH, H, nR, R⟩ := F
  unfold filC at hb
  simp only at hb ⊢
  have e0 := Ext.alloc w (.cells #[.int .i64 0, .int .i64 0] 23)
  have e1 := ext_drew e0
  have c0 := cell_of_heap (j := 2) (e1.block hb) rfl
  have c1 := cell_of_heap (j := 3) (e1.block hb) rfl
  have hlt := heap_lt hb
  have y := ext_drew (Ext.alloc w (.cells #[.int .i64 jf, .int .i64 jc] 23))
  clear e0 e1 hb
  go_enter Tryz.func57, Tryz.ntmps57
  go_wp2_with fail
  go_region
  go_wp2_with fail
  refine bodyPost_ret (results_row_tmp rfl _ _ w.heap.size 23 _ (0, 0) _ rfl (heap_alloc_new w _) Tryz.underlying23 rfl (by kernel_rfl)) rfl ⟨by rfl, y⟩
theorem fholding_v (V : FilV) (F : Fil) (g : Nat) (w : World) (hb : w.heap[g]? = some (.cells (filC V F) 139 (0, 0))) : Calls Tryz.prog 58 #[.pointer (some ⟨g, 0, none⟩)] w fun e w' => e = .returned (.tuple #[.agg #[.int .i64 F.hf, .int .i64 F.hc], .pointer (some ⟨g, 12, none⟩)]) ∧ Ext w w' := by
  obtain ⟨cf, cc, jf, jc, hf, hc, rf, rc, bf, bc, nC, C, nI, I, nH, H, nR, R⟩ := F
  unfold filC at hb
  simp only at hb ⊢
  have e0 := Ext.alloc w (.cells #[.int .i64 0, .int .i64 0] 23)
  have e1 := ext_drew e0
  have c0 := cell_of_heap (j := 4) (e1.block hb) rfl
  have c1 := cell_of_heap (j := 5) (e1.block hb) rfl
  have hlt := heap_lt hb
  have y := ext_drew (Ext.alloc w (.cells #[.int .i64 hf, .int .i64 hc] 23))
  clear e0 e1 hb
  go_enter Tryz.func58, Tryz.ntmps58
  go_wp2_with fail
  go_region
  go_wp2_with fail
  refine bodyPost_ret (results_row_tmp rfl _ _ w.heap.size 23 _ (0, 0) _ rfl (heap_alloc_new w _) Tryz.underlying23 rfl (by kernel_rfl)) rfl ⟨by rfl, y⟩
theorem fregs_v (V : FilV) (F : Fil) (g : Nat) (w : World) (hb : w.heap[g]? = some (.cells (filC V F) 139 (0, 0))) : Calls Tryz.prog 59 #[.pointer (some ⟨g, 0, none⟩)] w fun e w' => e = .returned (.tuple #[.agg #[.int .i64 F.rf, .int .i64 F.rc], .pointer (some ⟨g, 13, none⟩)]) ∧ Ext w w' := by
  obtain ⟨cf, cc, jf, jc, hf, hc, rf, rc, bf, bc, nC, C, nI, I, nH, H, nR, R⟩ := F
  unfold filC at hb
  simp only at hb ⊢
  have e0 := Ext.alloc w (.cells #[.int .i64 0, .int .i64 0] 23)
  have e1 := ext_drew e0
  have c0 := cell_of_heap (j := 6) (e1.block hb) rfl
  have c1 := cell_of_heap (j := 7) (e1.block hb) rfl
  have hlt := heap_lt hb
  have y := ext_drew (Ext.alloc w (.cells #[.int .i64 rf, .int .i64 rc] 23))
  clear e0 e1 hb
  go_enter Tryz.func59, Tryz.ntmps59
  go_wp2_with fail
  go_region
  go_wp2_with fail
  refine bodyPost_ret (results_row_tmp rfl _ _ w.heap.size 23 _ (0, 0) _ rfl (heap_alloc_new w _) Tryz.underlying23 rfl (by kernel_rfl)) rfl ⟨by rfl, y⟩
end Go.Proofs.YtlafnobjfajamaaGreat
namespace Go.Proofs.YtlafnobjfajamaaGreat
open Go.RowKit
set_option linter.unusedVariables false

set_option maxHeartbeats 1000000 in
theorem ffails_v {F : Fil} {x k : Int} {B : Bool} (hm : meetB F.bf F.bc x k = B) (V : FilV) (w : World) (wx : (Lit.int .i64 x).wf = true) (wk : (Lit.int .i64 k).wf = true) : Calls Tryz.prog 152 #[.agg (filC V F), .int .i64 x, .int .i64 k] w fun e w' => e = .returned (.bool B) ∧ Ext w w' := by
  have hbd := trm_in wk wx
  have e0 := Ext.alloc w (.cells (filC V F) 29)
  have HM := Lib.hid (fun w' => wmeets_v hm hbd w')
  clear hm hbd
  unfold filC at e0 ⊢
  go_enter Tryz.func152, Tryz.ntmps152
  go_wp2_with fail
  refine (HM.out _).mono ?_; rintro e w1 ⟨rfl, x1⟩
  have y := e0.trans x1
  go_wp2
  go_ret
  exact ⟨rfl, y⟩
set_option maxHeartbeats 2000000 in
theorem freadbool_no (V : FilV) (F : Fil) (T G : FuncId) (x k : Int) (w : World) (hr : rightB F = false) :
    Calls Tryz.prog 148 #[.agg (filC V F), .func (Fn.func T) #[] #[], .func (Fn.func G) #[] #[], .int .i64 x, .int .i64 k] w fun e w' => e = .returned (.tuple #[.slice none 0 0, .int .i64 11]) ∧ Ext w w' := by
  have e0 := Ext.alloc w (.cells (filC V F) 29)
  have HR := Lib.hid (fun w' => fright_v (V := V) hr w')
  clear hr
  unfold filC at HR e0 ⊢
  go_enter Tryz.func148, Tryz.ntmps148
  go_wp2_with fail
  refine (HR.out _).mono ?_; rintro e w1 ⟨rfl, x1⟩
  have x2 := e0.trans x1
  go_wp2
  go_ret2
  exact ⟨rfl, x2⟩
set_option maxHeartbeats 2000000 in
theorem freaduint16_no (V : FilV) (F : Fil) (T G : FuncId) (x k : Int) (w : World) (hr : rightB F = false) :
    Calls Tryz.prog 150 #[.agg (filC V F), .func (Fn.func T) #[] #[], .func (Fn.func G) #[] #[], .int .i64 x, .int .i64 k] w fun e w' => e = .returned (.tuple #[.slice none 0 0, .int .i64 11]) ∧ Ext w w' := by
  have e0 := Ext.alloc w (.cells (filC V F) 29)
  have HR := Lib.hid (fun w' => fright_v (V := V) hr w')
  clear hr
  unfold filC at HR e0 ⊢
  go_enter Tryz.func150, Tryz.ntmps150
  go_wp2_with fail
  refine (HR.out _).mono ?_; rintro e w1 ⟨rfl, x1⟩
  have x2 := e0.trans x1
  go_wp2
  go_ret2
  exact ⟨rfl, x2⟩
set_option maxRecDepth 100000 in
set_option maxHeartbeats 4000000 in
theorem fread_coils (V : FilV) (F : Fil) (x k : Int) (w : World) (h : FilAt w V F) (wx : (Lit.int .i64 x).wf = true) (wk : (Lit.int .i64 k).wf = true) (hr : rightB F = true) :
    Calls Tryz.prog 148 #[.agg (filC V F), .func (Fn.func 56) #[] #[], .func (Fn.func 149) #[] #[], .int .i64 x, .int .i64 k] w (SlP Value.bool (rdE F.cf F.cc F.nC x k) (rdN F.cf F.cc F.nC x k k.toNat) (rdF F.C F.cf x) w) := by
  have hs := right_small hr
  unfold SlP
  have e0 := Ext.alloc w (.cells (filC V F) 29)
  have HR := Lib.hid (fun w' => fright_v (V := V) hr w')
  have HT := Lib.hid (fun g w' hb => fcoils_v V F g w' hb)
  have K := Lib.hid (fun w' (hx : Ext w w') => (cbits_f F.cf F.cc x k V.a1 F.nC V.d1 F.C w' (h.h1.ext hx) h.l1 h.m1 (Nat.le_trans hs.1 (by decide)) wx wk).mono fun _ _ => RdPostF.sl)
  unfold SlP at K
  generalize rdE F.cf F.cc F.nC x k = E at K ⊢
  generalize rdN F.cf F.cc F.nC x k k.toNat = N at K ⊢
  generalize rdF F.C F.cf x = L at K ⊢
  clear h hs hr wx wk
  go_enter Tryz.func148, Tryz.ntmps148
  go_upto_region 1 with fail
  have gA := heap_alloc_new w (.cells (filC V F) 29)
  go_wp2_with (first | (refine wpList_load_row rfl 29 (.tmp 5) rfl w.heap.size rfl 29 _ (0, 0) _ gA Tryz.underlying29 rfl (by kernel_rfl) ?_))
  refine (HR.out _).mono ?_; rintro e w1 ⟨rfl, x1⟩
  have gB := x1.block gA
  have x2 := e0.trans x1
  clear gA x1 e0
  obtain ⟨W3, hW3, y3, b3⟩ : ∃ W, W = ((w1.alloc (.cells #[.int .i64 0, .int .i64 0, .int .i64 0, .int .i64 0, .int .i64 0, .int .i64 0, .int .i64 0, .int .i64 0, .int .i64 0, .int .i64 0, .slice none 0 0, .slice none 0 0, .slice none 0 0, .slice none 0 0] 139)).setRow w1.heap.size (filC V F)) ∧ Ext w1 W ∧ W.heap[w1.heap.size]? = some (.cells (filC V F) 139 (0, 0)) := ⟨_, rfl, boxed_row _ _ _ _⟩
  have gN := heap_alloc_new w1 (.cells #[.int .i64 0, .int .i64 0, .int .i64 0, .int .i64 0, .int .i64 0, .int .i64 0, .int .i64 0, .int .i64 0, .int .i64 0, .int .i64 0, .slice none 0 0, .slice none 0 0, .slice none 0 0, .slice none 0 0] 139)
  go_wp2_with (first
    | (refine wpList_load_row rfl 29 (.tmp 5) rfl w.heap.size rfl 29 _ (0, 0) _ gB Tryz.underlying29 rfl (by kernel_rfl) ?_)
    | (refine wpList_store_row rfl 139 (.tmp 12) (.tmp 18) rfl w1.heap.size _ rfl rfl 139 _ gN (by kernel_rfl) rfl (by simp [filC, Value.oneCell']) ?_))
  rw [← hW3]
  clear hW3 gN gB
  refine (HT.out _ _ b3).mono ?_; rintro e w4 ⟨rfl, x4⟩
  have b4 := x4.block b3
  obtain ⟨W5, hW5, HY, HE⟩ : ∃ W5, W5 = w4.alloc (.cells #[.int .i64 F.cf, .int .i64 F.cc] 23) ∧ Hid (∀ W, Ext W5 W → W.cell? ⟨w4.heap.size, 0, none⟩ = some (.int .i64 F.cf) ∧ W.cell? ⟨w4.heap.size, 1, none⟩ = some (.int .i64 F.cc) ∧ W.cell? ⟨w1.heap.size, 10, none⟩ = some (.slice V.a1 F.nC V.d1)) ∧ Hid (Ext w W5) :=
    ⟨_, rfl, Lib.hid (fun W hx => ⟨hx.made 0 _ rfl, hx.made 1 _ rfl, cell_of_heap (((Ext.alloc w4 _).trans hx).block b4) rfl⟩), Lib.hid (x2.trans (y3.trans (x4.trans (Ext.alloc _ _))))⟩
  clear y3 b3 x4 b4 x2
  go_wp2_with fail
  rw [← hW5]
  clear hW5
  obtain ⟨q0, q1, q2⟩ := HY.out W5.drew (Ext.drew _)
  have y0 : Ext W5 W5.drew := Ext.drew _
  go_region_held3 (fun w' => w'.cell? ⟨w4.heap.size, 0, none⟩ = some (.int .i64 F.cf) ∧ w'.cell? ⟨w4.heap.size, 1, none⟩ = some (.int .i64 F.cc) ∧ w'.cell? ⟨w1.heap.size, 10, none⟩ = some (.slice V.a1 F.nC V.d1) ∧ Ext W5 w')
    ((refine ⟨?_, ?_, ?_, ?_⟩ <;> assumption))
    (first
      | (go_at_call 149; refine (K.out _ (HE.out.trans (by assumption))).mono ?_; rintro e w6 ⟨b, q, rfl, h1, h2, h3, x6, f6⟩; have f7 : Fresh w b := Fresh.back f6 (HE.out.trans (by assumption)); have y6 : Ext W5 w6 := Ext.trans (by assumption) x6; obtain ⟨a0, a1, a2⟩ := HY.out _ y6))
  clear q0 q1 q2 a0 a1 a2
  go_wp2
  go_ret2
  exact ⟨b, q, rfl, h1, h2, h3, HE.out.trans y6, f7⟩
set_option maxRecDepth 100000 in
set_option maxHeartbeats 4000000 in
theorem fread_inputs (V : FilV) (F : Fil) (x k : Int) (w : World) (h : FilAt w V F) (wx : (Lit.int .i64 x).wf = true) (wk : (Lit.int .i64 k).wf = true) (hr : rightB F = true) :
    Calls Tryz.prog 148 #[.agg (filC V F), .func (Fn.func 57) #[] #[], .func (Fn.func 149) #[] #[], .int .i64 x, .int .i64 k] w (SlP Value.bool (rdE F.jf F.jc F.nI x k) (rdN F.jf F.jc F.nI x k k.toNat) (rdF F.I F.jf x) w) := by
  have hs := right_small hr
  unfold SlP
  have e0 := Ext.alloc w (.cells (filC V F) 29)
  have HR := Lib.hid (fun w' => fright_v (V := V) hr w')
  have HT := Lib.hid (fun g w' hb => finputs_v V F g w' hb)
  have K := Lib.hid (fun w' (hx : Ext w w') => (cbits_f F.jf F.jc x k V.a2 F.nI V.d2 F.I w' (h.h2.ext hx) h.l2 h.m2 (Nat.le_trans hs.2.1 (by decide)) wx wk).mono fun _ _ => RdPostF.sl)
  unfold SlP at K
  generalize rdE F.jf F.jc F.nI x k = E at K ⊢
  generalize rdN F.jf F.jc F.nI x k k.toNat = N at K ⊢
  generalize rdF F.I F.jf x = L at K ⊢
  clear h hs hr wx wk
  go_enter Tryz.func148, Tryz.ntmps148
  go_upto_region 1 with fail
  have gA := heap_alloc_new w (.cells (filC V F) 29)
  go_wp2_with (first | (refine wpList_load_row rfl 29 (.tmp 5) rfl w.heap.size rfl 29 _ (0, 0) _ gA Tryz.underlying29 rfl (by kernel_rfl) ?_))
  refine (HR.out _).mono ?_; rintro e w1 ⟨rfl, x1⟩
  have gB := x1.block gA
  have x2 := e0.trans x1
  clear gA x1 e0
  obtain ⟨W3, hW3, y3, b3⟩ : ∃ W, W = ((w1.alloc (.cells #[.int .i64 0, .int .i64 0, .int .i64 0, .int .i64 0, .int .i64 0, .int .i64 0, .int .i64 0, .int .i64 0, .int .i64 0, .int .i64 0, .slice none 0 0, .slice none 0 0, .slice none 0 0, .slice none 0 0] 139)).setRow w1.heap.size (filC V F)) ∧ Ext w1 W ∧ W.heap[w1.heap.size]? = some (.cells (filC V F) 139 (0, 0)) := ⟨_, rfl, boxed_row _ _ _ _⟩
  have gN := heap_alloc_new w1 (.cells #[.int .i64 0, .int .i64 0, .int .i64 0, .int .i64 0, .int .i64 0, .int .i64 0, .int .i64 0, .int .i64 0, .int .i64 0, .int .i64 0, .slice none 0 0, .slice none 0 0, .slice none 0 0, .slice none 0 0] 139)
  go_wp2_with (first
    | (refine wpList_load_row rfl 29 (.tmp 5) rfl w.heap.size rfl 29 _ (0, 0) _ gB Tryz.underlying29 rfl (by kernel_rfl) ?_)
    | (refine wpList_store_row rfl 139 (.tmp 12) (.tmp 18) rfl w1.heap.size _ rfl rfl 139 _ gN (by kernel_rfl) rfl (by simp [filC, Value.oneCell']) ?_))
  rw [← hW3]
  clear hW3 gN gB
  refine (HT.out _ _ b3).mono ?_; rintro e w4 ⟨rfl, x4⟩
  have b4 := x4.block b3
  obtain ⟨W5, hW5, HY, HE⟩ : ∃ W5, W5 = w4.alloc (.cells #[.int .i64 F.jf, .int .i64 F.jc] 23) ∧ Hid (∀ W, Ext W5 W → W.cell? ⟨w4.heap.size, 0, none⟩ = some (.int .i64 F.jf) ∧ W.cell? ⟨w4.heap.size, 1, none⟩ = some (.int .i64 F.jc) ∧ W.cell? ⟨w1.heap.size, 11, none⟩ = some (.slice V.a2 F.nI V.d2)) ∧ Hid (Ext w W5) :=
    ⟨_, rfl, Lib.hid (fun W hx => ⟨hx.made 0 _ rfl, hx.made 1 _ rfl, cell_of_heap (((Ext.alloc w4 _).trans hx).block b4) rfl⟩), Lib.hid (x2.trans (y3.trans (x4.trans (Ext.alloc _ _))))⟩
  clear y3 b3 x4 b4 x2
  go_wp2_with fail
  rw [← hW5]
  clear hW5
  obtain ⟨q0, q1, q2⟩ := HY.out W5.drew (Ext.drew _)
  have y0 : Ext W5 W5.drew := Ext.drew _
  go_region_held3 (fun w' => w'.cell? ⟨w4.heap.size, 0, none⟩ = some (.int .i64 F.jf) ∧ w'.cell? ⟨w4.heap.size, 1, none⟩ = some (.int .i64 F.jc) ∧ w'.cell? ⟨w1.heap.size, 11, none⟩ = some (.slice V.a2 F.nI V.d2) ∧ Ext W5 w')
    ((refine ⟨?_, ?_, ?_, ?_⟩ <;> assumption))
    (first
      | (go_at_call 149; refine (K.out _ (HE.out.trans (by assumption))).mono ?_; rintro e w6 ⟨b, q, rfl, h1, h2, h3, x6, f6⟩; have f7 : Fresh w b := Fresh.back f6 (HE.out.trans (by assumption)); have y6 : Ext W5 w6 := Ext.trans (by assumption) x6; obtain ⟨a0, a1, a2⟩ := HY.out _ y6))
  clear q0 q1 q2 a0 a1 a2
  go_wp2
  go_ret2
  exact ⟨b, q, rfl, h1, h2, h3, HE.out.trans y6, f7⟩
set_option maxRecDepth 100000 in
set_option maxHeartbeats 4000000 in
theorem fread_holding (V : FilV) (F : Fil) (x k : Int) (w : World) (h : FilAt w V F) (wx : (Lit.int .i64 x).wf = true) (wk : (Lit.int .i64 k).wf = true) (hr : rightB F = true) :
    Calls Tryz.prog 150 #[.agg (filC V F), .func (Fn.func 58) #[] #[], .func (Fn.func 151) #[] #[], .int .i64 x, .int .i64 k] w (SlP (Value.int .u16) (rdE F.hf F.hc F.nH x k) (rdN F.hf F.hc F.nH x k k.toNat) (rdF F.H F.hf x) w) := by
  have hs := right_small hr
  unfold SlP
  have e0 := Ext.alloc w (.cells (filC V F) 29)
  have HR := Lib.hid (fun w' => fright_v (V := V) hr w')
  have HT := Lib.hid (fun g w' hb => fholding_v V F g w' hb)
  have K := Lib.hid (fun w' (hx : Ext w w') => (cwords_f F.hf F.hc x k V.a3 F.nH V.d3 F.H w' (h.h3.ext hx) h.l3 h.m3 (Nat.le_trans hs.2.2.1 (by decide)) wx wk).mono fun _ _ => RdPostF.sl)
  unfold SlP at K
  generalize rdE F.hf F.hc F.nH x k = E at K ⊢
  generalize rdN F.hf F.hc F.nH x k k.toNat = N at K ⊢
  generalize rdF F.H F.hf x = L at K ⊢
  clear h hs hr wx wk
  go_enter Tryz.func150, Tryz.ntmps150
  go_upto_region 1 with fail
  have gA := heap_alloc_new w (.cells (filC V F) 29)
  go_wp2_with (first | (refine wpList_load_row rfl 29 (.tmp 5) rfl w.heap.size rfl 29 _ (0, 0) _ gA Tryz.underlying29 rfl (by kernel_rfl) ?_))
  refine (HR.out _).mono ?_; rintro e w1 ⟨rfl, x1⟩
  have gB := x1.block gA
  have x2 := e0.trans x1
  clear gA x1 e0
  obtain ⟨W3, hW3, y3, b3⟩ : ∃ W, W = ((w1.alloc (.cells #[.int .i64 0, .int .i64 0, .int .i64 0, .int .i64 0, .int .i64 0, .int .i64 0, .int .i64 0, .int .i64 0, .int .i64 0, .int .i64 0, .slice none 0 0, .slice none 0 0, .slice none 0 0, .slice none 0 0] 139)).setRow w1.heap.size (filC V F)) ∧ Ext w1 W ∧ W.heap[w1.heap.size]? = some (.cells (filC V F) 139 (0, 0)) := ⟨_, rfl, boxed_row _ _ _ _⟩
  have gN := heap_alloc_new w1 (.cells #[.int .i64 0, .int .i64 0, .int .i64 0, .int .i64 0, .int .i64 0, .int .i64 0, .int .i64 0, .int .i64 0, .int .i64 0, .int .i64 0, .slice none 0 0, .slice none 0 0, .slice none 0 0, .slice none 0 0] 139)
  go_wp2_with (first
    | (refine wpList_load_row rfl 29 (.tmp 5) rfl w.heap.size rfl 29 _ (0, 0) _ gB Tryz.underlying29 rfl (by kernel_rfl) ?_)
    | (refine wpList_store_row rfl 139 (.tmp 12) (.tmp 18) rfl w1.heap.size _ rfl rfl 139 _ gN (by kernel_rfl) rfl (by simp [filC, Value.oneCell']) ?_))
  rw [← hW3]
  clear hW3 gN gB
  refine (HT.out _ _ b3).mono ?_; rintro e w4 ⟨rfl, x4⟩
  have b4 := x4.block b3
  obtain ⟨W5, hW5, HY, HE⟩ : ∃ W5, W5 = w4.alloc (.cells #[.int .i64 F.hf, .int .i64 F.hc] 23) ∧ Hid (∀ W, Ext W5 W → W.cell? ⟨w4.heap.size, 0, none⟩ = some (.int .i64 F.hf) ∧ W.cell? ⟨w4.heap.size, 1, none⟩ = some (.int .i64 F.hc) ∧ W.cell? ⟨w1.heap.size, 12, none⟩ = some (.slice V.a3 F.nH V.d3)) ∧ Hid (Ext w W5) :=
    ⟨_, rfl, Lib.hid (fun W hx => ⟨hx.made 0 _ rfl, hx.made 1 _ rfl, cell_of_heap (((Ext.alloc w4 _).trans hx).block b4) rfl⟩), Lib.hid (x2.trans (y3.trans (x4.trans (Ext.alloc _ _))))⟩
  clear y3 b3 x4 b4 x2
  go_wp2_with fail
  rw [← hW5]
  clear hW5
  obtain ⟨q0, q1, q2⟩ := HY.out W5.drew (Ext.drew _)
  have y0 : Ext W5 W5.drew := Ext.drew _
  go_region_held3 (fun w' => w'.cell? ⟨w4.heap.size, 0, none⟩ = some (.int .i64 F.hf) ∧ w'.cell? ⟨w4.heap.size, 1, none⟩ = some (.int .i64 F.hc) ∧ w'.cell? ⟨w1.heap.size, 12, none⟩ = some (.slice V.a3 F.nH V.d3) ∧ Ext W5 w')
    ((refine ⟨?_, ?_, ?_, ?_⟩ <;> assumption))
    (first
      | (go_at_call 151; refine (K.out _ (HE.out.trans (by assumption))).mono ?_; rintro e w6 ⟨b, q, rfl, h1, h2, h3, x6, f6⟩; have f7 : Fresh w b := Fresh.back f6 (HE.out.trans (by assumption)); have y6 : Ext W5 w6 := Ext.trans (by assumption) x6; obtain ⟨a0, a1, a2⟩ := HY.out _ y6))
  clear q0 q1 q2 a0 a1 a2
  go_wp2
  go_ret2
  exact ⟨b, q, rfl, h1, h2, h3, HE.out.trans y6, f7⟩
set_option maxRecDepth 100000 in
set_option maxHeartbeats 4000000 in
theorem fread_regs (V : FilV) (F : Fil) (x k : Int) (w : World) (h : FilAt w V F) (wx : (Lit.int .i64 x).wf = true) (wk : (Lit.int .i64 k).wf = true) (hr : rightB F = true) :
    Calls Tryz.prog 150 #[.agg (filC V F), .func (Fn.func 59) #[] #[], .func (Fn.func 151) #[] #[], .int .i64 x, .int .i64 k] w (SlP (Value.int .u16) (rdE F.rf F.rc F.nR x k) (rdN F.rf F.rc F.nR x k k.toNat) (rdF F.R F.rf x) w) := by
  have hs := right_small hr
  unfold SlP
  have e0 := Ext.alloc w (.cells (filC V F) 29)
  have HR := Lib.hid (fun w' => fright_v (V := V) hr w')
  have HT := Lib.hid (fun g w' hb => fregs_v V F g w' hb)
  have K := Lib.hid (fun w' (hx : Ext w w') => (cwords_f F.rf F.rc x k V.a4 F.nR V.d4 F.R w' (h.h4.ext hx) h.l4 h.m4 (Nat.le_trans hs.2.2.2 (by decide)) wx wk).mono fun _ _ => RdPostF.sl)
  unfold SlP at K
  generalize rdE F.rf F.rc F.nR x k = E at K ⊢
  generalize rdN F.rf F.rc F.nR x k k.toNat = N at K ⊢
  generalize rdF F.R F.rf x = L at K ⊢
  clear h hs hr wx wk
  go_enter Tryz.func150, Tryz.ntmps150
  go_upto_region 1 with fail
  have gA := heap_alloc_new w (.cells (filC V F) 29)
  go_wp2_with (first | (refine wpList_load_row rfl 29 (.tmp 5) rfl w.heap.size rfl 29 _ (0, 0) _ gA Tryz.underlying29 rfl (by kernel_rfl) ?_))
  refine (HR.out _).mono ?_; rintro e w1 ⟨rfl, x1⟩
  have gB := x1.block gA
  have x2 := e0.trans x1
  clear gA x1 e0
  obtain ⟨W3, hW3, y3, b3⟩ : ∃ W, W = ((w1.alloc (.cells #[.int .i64 0, .int .i64 0, .int .i64 0, .int .i64 0, .int .i64 0, .int .i64 0, .int .i64 0, .int .i64 0, .int .i64 0, .int .i64 0, .slice none 0 0, .slice none 0 0, .slice none 0 0, .slice none 0 0] 139)).setRow w1.heap.size (filC V F)) ∧ Ext w1 W ∧ W.heap[w1.heap.size]? = some (.cells (filC V F) 139 (0, 0)) := ⟨_, rfl, boxed_row _ _ _ _⟩
  have gN := heap_alloc_new w1 (.cells #[.int .i64 0, .int .i64 0, .int .i64 0, .int .i64 0, .int .i64 0, .int .i64 0, .int .i64 0, .int .i64 0, .int .i64 0, .int .i64 0, .slice none 0 0, .slice none 0 0, .slice none 0 0, .slice none 0 0] 139)
  go_wp2_with (first
    | (refine wpList_load_row rfl 29 (.tmp 5) rfl w.heap.size rfl 29 _ (0, 0) _ gB Tryz.underlying29 rfl (by kernel_rfl) ?_)
    | (refine wpList_store_row rfl 139 (.tmp 12) (.tmp 18) rfl w1.heap.size _ rfl rfl 139 _ gN (by kernel_rfl) rfl (by simp [filC, Value.oneCell']) ?_))
  rw [← hW3]
  clear hW3 gN gB
  refine (HT.out _ _ b3).mono ?_; rintro e w4 ⟨rfl, x4⟩
  have b4 := x4.block b3
  obtain ⟨W5, hW5, HY, HE⟩ : ∃ W5, W5 = w4.alloc (.cells #[.int .i64 F.rf, .int .i64 F.rc] 23) ∧ Hid (∀ W, Ext W5 W → W.cell? ⟨w4.heap.size, 0, none⟩ = some (.int .i64 F.rf) ∧ W.cell? ⟨w4.heap.size, 1, none⟩ = some (.int .i64 F.rc) ∧ W.cell? ⟨w1.heap.size, 13, none⟩ = some (.slice V.a4 F.nR V.d4)) ∧ Hid (Ext w W5) :=
    ⟨_, rfl, Lib.hid (fun W hx => ⟨hx.made 0 _ rfl, hx.made 1 _ rfl, cell_of_heap (((Ext.alloc w4 _).trans hx).block b4) rfl⟩), Lib.hid (x2.trans (y3.trans (x4.trans (Ext.alloc _ _))))⟩
  clear y3 b3 x4 b4 x2
  go_wp2_with fail
  rw [← hW5]
  clear hW5
  obtain ⟨q0, q1, q2⟩ := HY.out W5.drew (Ext.drew _)
  have y0 : Ext W5 W5.drew := Ext.drew _
  go_region_held3 (fun w' => w'.cell? ⟨w4.heap.size, 0, none⟩ = some (.int .i64 F.rf) ∧ w'.cell? ⟨w4.heap.size, 1, none⟩ = some (.int .i64 F.rc) ∧ w'.cell? ⟨w1.heap.size, 13, none⟩ = some (.slice V.a4 F.nR V.d4) ∧ Ext W5 w')
    ((refine ⟨?_, ?_, ?_, ?_⟩ <;> assumption))
    (first
      | (go_at_call 151; refine (K.out _ (HE.out.trans (by assumption))).mono ?_; rintro e w6 ⟨b, q, rfl, h1, h2, h3, x6, f6⟩; have f7 : Fresh w b := Fresh.back f6 (HE.out.trans (by assumption)); have y6 : Ext W5 w6 := Ext.trans (by assumption) x6; obtain ⟨a0, a1, a2⟩ := HY.out _ y6))
  clear q0 q1 q2 a0 a1 a2
  go_wp2
  go_ret2
  exact ⟨b, q, rfl, h1, h2, h3, HE.out.trans y6, f7⟩
end Go.Proofs.YtlafnobjfajamaaGreat
namespace Go.Proofs.YtlafnobjfajamaaGreat
open Go.RowKit
set_option linter.unusedVariables false

set_option maxRecDepth 100000 in
set_option maxHeartbeats 4000000 in
theorem fbits_c : FBitsC 135 := by
  intro V F i x k w h wx wk
  unfold SlP
  cases hr : rightB F with
  | false =>
    obtain ⟨hE, hN⟩ := bitE_no (x := x) (k := k) i hr
    rw [hE, hN]
    have HR := Lib.hid (fun T G w' => freadbool_no V F T G x k w' hr)
    clear hr hE hN h wx wk
    cases i
    all_goals
      have gA := heap_alloc_new w (.cells (filC V F) 29)
      have e0 := Ext.alloc w (.cells (filC V F) 29)
      go_enter Tryz.func135, Tryz.ntmps135
      go_upto_region 1 with fail
      go_wp2_with (first | (refine wpList_load_row rfl 29 (.tmp 4) rfl w.heap.size rfl 29 _ (0, 0) _ gA Tryz.underlying29 rfl (by kernel_rfl) ?_))
      refine (HR.out _ _ _).mono ?_; rintro e w1 ⟨rfl, x1⟩
      have x2 := e0.trans x1
      clear gA
      go_wp2
      go_ret2
      exact ⟨_, _, rfl, Nat.zero_le _, Nat.zero_le _, .inl rfl, x2, Fresh.nil _⟩
  | true =>
    cases i with
    | true =>
      obtain ⟨hE, hN⟩ := bitE_in (x := x) (k := k) hr
      rw [hE, hN, show bitL F true x = rdF F.I F.jf x from rfl]
      have K := Lib.hid (fun w' (hx : Ext w w') => fread_inputs V F x k w' (h.ext hx) wx wk hr)
      unfold SlP at K
      generalize rdE F.jf F.jc F.nI x k = E at K ⊢
      generalize rdN F.jf F.jc F.nI x k k.toNat = N at K ⊢
      generalize rdF F.I F.jf x = L at K ⊢
      clear h hr hE hN wx wk
      have gA := heap_alloc_new w (.cells (filC V F) 29)
      have e0 := Ext.alloc w (.cells (filC V F) 29)
      go_enter Tryz.func135, Tryz.ntmps135
      go_upto_region 1 with fail
      go_wp2_with (first | (refine wpList_load_row rfl 29 (.tmp 4) rfl w.heap.size rfl 29 _ (0, 0) _ gA Tryz.underlying29 rfl (by kernel_rfl) ?_))
      refine (K.out _ e0).mono ?_; rintro e w3 ⟨b, q, rfl, h1, h2, h3, x3, f3⟩
      have x4 := e0.trans x3
      have f4 := f3.back e0
      clear gA x3 f3
      go_wp2
      go_ret2
      exact ⟨b, q, rfl, h1, h2, h3, x4, f4⟩
    | false =>
      obtain ⟨hE, hN⟩ := bitE_out (x := x) (k := k) hr
      rw [hE, hN, show bitL F false x = rdF F.C F.cf x from rfl]
      have K := Lib.hid (fun w' (hx : Ext w w') => fread_coils V F x k w' (h.ext hx) wx wk hr)
      unfold SlP at K
      generalize rdE F.cf F.cc F.nC x k = E at K ⊢
      generalize rdN F.cf F.cc F.nC x k k.toNat = N at K ⊢
      generalize rdF F.C F.cf x = L at K ⊢
      clear h hr hE hN wx wk
      have gA := heap_alloc_new w (.cells (filC V F) 29)
      have e0 := Ext.alloc w (.cells (filC V F) 29)
      go_enter Tryz.func135, Tryz.ntmps135
      go_upto_region 1 with fail
      go_wp2_with (first | (refine wpList_load_row rfl 29 (.tmp 4) rfl w.heap.size rfl 29 _ (0, 0) _ gA Tryz.underlying29 rfl (by kernel_rfl) ?_))
      refine (K.out _ e0).mono ?_; rintro e w3 ⟨b, q, rfl, h1, h2, h3, x3, f3⟩
      have x4 := e0.trans x3
      have f4 := f3.back e0
      clear gA x3 f3
      go_wp2
      go_ret2
      exact ⟨b, q, rfl, h1, h2, h3, x4, f4⟩
set_option maxRecDepth 100000 in
set_option maxHeartbeats 8000000 in
theorem fwords_c : FWordsC 136 := by
  intro V F i x k w h wx wk
  unfold SlP
  cases hr : rightB F with
  | false =>
    obtain ⟨hE, hN⟩ := wrdE_no (x := x) (k := k) i hr
    rw [hE, hN]
    have HR := Lib.hid (fun T G w' => freaduint16_no V F T G x k w' hr)
    clear hr hE hN h wx wk
    cases i
    all_goals
      have gA := heap_alloc_new w (.cells (filC V F) 29)
      have e0 := Ext.alloc w (.cells (filC V F) 29)
      go_enter Tryz.func136, Tryz.ntmps136
      go_upto_region 1 with fail
      go_wp2_with (first | (refine wpList_load_row rfl 29 (.tmp 4) rfl w.heap.size rfl 29 _ (0, 0) _ gA Tryz.underlying29 rfl (by kernel_rfl) ?_))
      refine (HR.out _ _ _).mono ?_; rintro e w1 ⟨rfl, x1⟩
      have x2 := e0.trans x1
      clear gA
      go_wp2
      go_ret2
      exact ⟨_, _, rfl, Nat.zero_le _, Nat.zero_le _, .inl rfl, x2, Fresh.nil _⟩
  | true =>
    cases i with
    | true =>
      obtain ⟨hE, hN⟩ := wrdE_in (x := x) (k := k) hr
      rw [hE, hN, show wrdL F true x = rdF F.R F.rf x from rfl]
      have K := Lib.hid (fun w' (hx : Ext w w') => fread_regs V F x k w' (h.ext hx) wx wk hr)
      unfold SlP at K
      generalize rdE F.rf F.rc F.nR x k = E at K ⊢
      generalize rdN F.rf F.rc F.nR x k k.toNat = N at K ⊢
      generalize rdF F.R F.rf x = L at K ⊢
      clear h hr hE hN wx wk
      have gA := heap_alloc_new w (.cells (filC V F) 29)
      have e0 := Ext.alloc w (.cells (filC V F) 29)
      go_enter Tryz.func136, Tryz.ntmps136
      go_upto_region 1 with fail
      go_wp2_with (first | (refine wpList_load_row rfl 29 (.tmp 4) rfl w.heap.size rfl 29 _ (0, 0) _ gA Tryz.underlying29 rfl (by kernel_rfl) ?_))
      refine (K.out _ e0).mono ?_; rintro e w3 ⟨b, q, rfl, h1, h2, h3, x3, f3⟩
      have x4 := e0.trans x3
      have f4 := f3.back e0
      clear gA x3 f3
      go_wp2
      go_ret2
      exact ⟨b, q, rfl, h1, h2, h3, x4, f4⟩
    | false =>
      obtain ⟨hE, hN⟩ := wrdE_out (x := x) (k := k) hr
      rw [hE, hN, show wrdL F false x = rdF F.H F.hf x from rfl]
      have K := Lib.hid (fun w' (hx : Ext w w') => fread_holding V F x k w' (h.ext hx) wx wk hr)
      unfold SlP at K
      have hrd : rdN F.hf F.hc F.nH x k k.toNat = if rdE F.hf F.hc F.nH x k = 0 then k.toNat else 0 := rfl
      generalize rdE F.hf F.hc F.nH x k = E at K hrd ⊢
      generalize rdN F.hf F.hc F.nH x k k.toNat = N at K hrd ⊢
      generalize rdF F.H F.hf x = L at K ⊢
      by_cases hE0 : E = 0
      · subst hE0
        rw [if_pos rfl] at hrd
        cases hm : meetB F.bf F.bc x k with
        | false =>
          rw [brk_works hm, if_pos rfl, ← hrd]
          have HM := Lib.hid (fun w' => ffails_v hm V w' wx wk)
          clear h hr hE hN wx wk hm hrd
          have gA := heap_alloc_new w (.cells (filC V F) 29)
          have e0 := Ext.alloc w (.cells (filC V F) 29)
          go_enter Tryz.func136, Tryz.ntmps136
          go_upto_region 1 with fail
          go_wp2_with (first | (refine wpList_load_row rfl 29 (.tmp 4) rfl w.heap.size rfl 29 _ (0, 0) _ gA Tryz.underlying29 rfl (by kernel_rfl) ?_))
          refine (K.out _ e0).mono ?_; rintro e w3 ⟨b, q, rfl, h1, h2, h3, x3, f3⟩
          have x4 := e0.trans x3
          have f4 := f3.back e0
          have gA := x3.block gA
          clear x3 f3
          go_wp2_with (first | (refine wpList_load_row_g (by rfl) 29 (.tmp 4) rfl w.heap.size rfl 29 _ (0, 0) _ gA Tryz.underlying29 rfl (by kernel_rfl) ?_))
          refine (HM.out _).mono ?_; rintro e w6 ⟨rfl, x6⟩
          have x7 := x4.trans x6
          have h4 := h3.ext x6
          clear gA x4 x6 h3
          go_wp2
          go_ret2
          exact ⟨b, q, rfl, h1, h2, h4, x7, f4⟩
        | true =>
          rw [brk_yes hm, if_neg (by decide)]
          have HM := Lib.hid (fun w' => ffails_v hm V w' wx wk)
          clear h hr hE hN wx wk hm hrd
          have gA := heap_alloc_new w (.cells (filC V F) 29)
          have e0 := Ext.alloc w (.cells (filC V F) 29)
          go_enter Tryz.func136, Tryz.ntmps136
          go_upto_region 1 with fail
          go_wp2_with (first | (refine wpList_load_row rfl 29 (.tmp 4) rfl w.heap.size rfl 29 _ (0, 0) _ gA Tryz.underlying29 rfl (by kernel_rfl) ?_))
          refine (K.out _ e0).mono ?_; rintro e w3 ⟨b, q, rfl, h1, h2, h3, x3, f3⟩
          have x4 := e0.trans x3
          have f4 := f3.back e0
          have gA := x3.block gA
          clear x3 f3
          go_wp2_with (first | (refine wpList_load_row_g (by rfl) 29 (.tmp 4) rfl w.heap.size rfl 29 _ (0, 0) _ gA Tryz.underlying29 rfl (by kernel_rfl) ?_))
          refine (HM.out _).mono ?_; rintro e w6 ⟨rfl, x6⟩
          have x7 := x4.trans x6
          have h4 := h3.ext x6
          clear gA x4 x6 h3
          go_wp2
          go_ret2
          exact ⟨_, _, rfl, Nat.zero_le _, Nat.zero_le _, .inl rfl, x7, Fresh.nil _⟩
      · rw [if_neg hE0] at hrd
        rw [brk_no hE0, if_neg hE0, ← hrd]
        clear h hr hE hN wx wk hrd
        have gA := heap_alloc_new w (.cells (filC V F) 29)
        have e0 := Ext.alloc w (.cells (filC V F) 29)
        go_enter Tryz.func136, Tryz.ntmps136
        go_upto_region 1 with fail
        go_wp2_with (first | (refine wpList_load_row rfl 29 (.tmp 4) rfl w.heap.size rfl 29 _ (0, 0) _ gA Tryz.underlying29 rfl (by kernel_rfl) ?_))
        refine (K.out _ e0).mono ?_; rintro e w3 ⟨b, q, rfl, h1, h2, h3, x3, f3⟩
        have x4 := e0.trans x3
        have f4 := f3.back e0
        have gA := x3.block gA
        clear x3 f3
        clear gA
        go_wp2
        go_ret2
        exact ⟨b, q, rfl, h1, h2, h3, x4, f4⟩
end Go.Proofs.YtlafnobjfajamaaGreat
namespace Go.Proofs.YtlafnobjfajamaaGreat
open Go.RowKit
set_option linter.unusedVariables false

theorem over_allbool (l : Nat → Bool) (n : Nat) : ∀ i, i < n → over (fun _ => false) 0 n l i = l i := by
  intro i hi
  unfold over
  rw [if_neg (by omega), if_pos (by omega), Nat.sub_zero]
set_option maxRecDepth 100000 in
set_option maxHeartbeats 2000000 in
theorem fapartbool_any (a : Option Addr) (n d : Nat) (l : Nat → Bool) (w : World) (ha : HoldsG Value.bool w a n l) (hn : n ≤ 1000000) (hnd : n ≤ d) (hdm : d ≤ maxLen) :
    Calls Tryz.prog 50 #[.slice a n d] w fun e w' => ∃ b, e = .returned (.slice b n n) ∧ HoldsG Value.bool w' b n l ∧ Ext w w' ∧ Fresh w b := by
  obtain ⟨i0, hi0, hz0, hz1, hz2⟩ := info_parts Tryz.infoCb
  have hnI : (n : Int) ≤ 1000000 := by omega
  go_enter Tryz.func50, Tryz.ntmps50
  go_wp2_with (first
    | (at_make; refine wpList_make_full _ rfl _ _ 26 rfl w.heap.size 4 i0 (.bool false) 1 Tryz.underlying26 hi0 hz0 hz1 .i64 .i64 n n n rfl rfl rfl rfl (by rw [hz2]; omega) (by unfold maxLen; omega) (Nat.le_refl _) ?_; intro w5 hown5 hgrow5; have r5 : Row Value.bool 4 w5 w.heap.size n (fun _ => false) := Row.made hown5; have x5 : Ext w w5 := (Below.refl _ _).grown hgrow5 (Nat.le_refl _) (fun k hk => by cases hk); clear hown5 hgrow5)
    | (refine wpList_copy_row (mk := Value.bool) rfl (.tmp 7) (.tmp 8) _ _ rfl 4 Tryz.underlying26 (by kernel_rfl) _ _ _ _ _ _ n rfl rfl rfl (Nat.le_refl _) w.heap.size 0 n 4 _ _ r5 (ha.ext x5) (fun _ => rfl) (by omega) (fun _ => rfl) w x5 ?_; intro w6 r6 x6; clear r5 x5))
  go_ret
  exact ⟨_, rfl, (r6.congr (over_allbool l n)).holds, x6, fun p hp => by cases hp; exact Nat.le_refl _⟩
theorem over_alluint16 (l : Nat → Int) (n : Nat) : ∀ i, i < n → over (fun _ => 0) 0 n l i = l i := by
  intro i hi
  unfold over
  rw [if_neg (by omega), if_pos (by omega), Nat.sub_zero]
set_option maxRecDepth 100000 in
set_option maxHeartbeats 2000000 in
theorem fapartuint16_any (a : Option Addr) (n d : Nat) (l : Nat → Int) (w : World) (ha : HoldsG (Value.int .u16) w a n l) (hn : n ≤ 1000000) (hnd : n ≤ d) (hdm : d ≤ maxLen) :
    Calls Tryz.prog 51 #[.slice a n d] w fun e w' => ∃ b, e = .returned (.slice b n n) ∧ HoldsG (Value.int .u16) w' b n l ∧ Ext w w' ∧ Fresh w b := by
  obtain ⟨i0, hi0, hz0, hz1, hz2⟩ := info_parts Tryz.infoCw
  have hnI : (n : Int) ≤ 1000000 := by omega
  go_enter Tryz.func51, Tryz.ntmps51
  go_wp2_with (first
    | (at_make; refine wpList_make_full _ rfl _ _ 27 rfl w.heap.size 59 i0 (.int .u16 0) 1 Tryz.underlying27 hi0 hz0 hz1 .i64 .i64 n n n rfl rfl rfl rfl (by rw [hz2]; omega) (by unfold maxLen; omega) (Nat.le_refl _) ?_; intro w5 hown5 hgrow5; have r5 : Row (Value.int .u16) 59 w5 w.heap.size n (fun _ => 0) := Row.made hown5; have x5 : Ext w w5 := (Below.refl _ _).grown hgrow5 (Nat.le_refl _) (fun k hk => by cases hk); clear hown5 hgrow5)
    | (refine wpList_copy_row (mk := (Value.int .u16)) rfl (.tmp 7) (.tmp 8) _ _ rfl 59 Tryz.underlying27 (by kernel_rfl) _ _ _ _ _ _ n rfl rfl rfl (Nat.le_refl _) w.heap.size 0 n 59 _ _ r5 (ha.ext x5) (fun _ => rfl) (by omega) (fun _ => rfl) w x5 ?_; intro w6 r6 x6; clear r5 x5))
  go_ret
  exact ⟨_, rfl, (r6.congr (over_alluint16 l n)).holds, x6, fun p hp => by cases hp; exact Nat.le_refl _⟩
/-- Two cells of a box of the call's own, turned. -/
theorem set_two {w w2 : World} {cs cs' : Array Value} {t : TypeId} {j1 j2 : Nat} {v1 v2 : Value} (x : Ext w w2) (hg : w2.heap[w.heap.size]? = some (.cells cs t (0, 0))) (hcs : (cs.setIfInBounds j1 v1).setIfInBounds j2 v2 = cs' := by rfl) :
    Ext w ((w2.setCell ⟨w.heap.size, j1, none⟩ v1).setCell ⟨w.heap.size, j2, none⟩ v2) ∧ Keep (fun i => i = w.heap.size) w2 ((w2.setCell ⟨w.heap.size, j1, none⟩ v1).setCell ⟨w.heap.size, j2, none⟩ v2) ∧
    ((w2.setCell ⟨w.heap.size, j1, none⟩ v1).setCell ⟨w.heap.size, j2, none⟩ v2).heap[w.heap.size]? = some (.cells cs' t (0, 0)) ∧
    ((w2.setCell ⟨w.heap.size, j1, none⟩ v1).setCell ⟨w.heap.size, j2, none⟩ v2).heap[w.heap.size + 1]? = w2.heap[w.heap.size + 1]? := by
  refine ⟨Below.setCell (Below.setCell x (Nat.le_refl _) _) (Nat.le_refl _) _, (keepCell w2 w.heap.size j1 v1).trans (keepCell _ w.heap.size j2 v2) (fun i hi => .inl hi), ?_, ?_⟩
  · rw [← hcs]
    exact heap_setCell_same _ _ j2 _ _ v2 (heap_setCell_same _ _ j1 _ _ v1 hg)
  · rw [heap_setCell_other _ _ _ _ (Nat.succ_ne_self _), heap_setCell_other _ _ _ _ (Nat.succ_ne_self _)]
theorem fresh_one {w a : World} {x : Option Addr} {n : Nat} (h : Fresh a x) (hs : w.heap.size + 2 ≤ a.heap.size) : OffN (fun i => i = w.heap.size) x n := h.offN fun i hi => by omega
theorem fresh_le {a b : World} {x : Option Addr} (h : Fresh b x) (hs : a.heap.size ≤ b.heap.size) : Fresh a x := fun p hp => Nat.le_trans hs (h p hp)
/-- A file whose tables are all new, laid into the box of what is told. -/
theorem copy_told {w W0 X : World} {F : Fil} {b1 b2 b3 b4 : Option Addr} (x : Ext w X) (hs : w.heap.size + 2 ≤ W0.heap.size) (f1 : Fresh W0 b1) (f2 : Fresh W0 b2) (f3 : Fresh W0 b3) (f4 : Fresh W0 b4)
    (h1 : HoldsG Value.bool X b1 F.nC F.C) (h2 : HoldsG Value.bool X b2 F.nI F.I) (h3 : HoldsG (Value.int .u16) X b3 F.nH F.H) (h4 : HoldsG (Value.int .u16) X b4 F.nR F.R) (hb : F.nC ≤ 1000000 ∧ F.nI ≤ 1000000 ∧ F.nH ≤ 1000000 ∧ F.nR ≤ 1000000) (V0 : FilV) (F0 : Fil) :
    (∀ cs, FilAt (X.setRow (w.heap.size + 1) cs) ⟨b1, F.nC, b2, F.nI, b3, F.nH, b4, F.nR⟩ F) ∧ (∀ cs, Ext w (X.setRow (w.heap.size + 1) cs)) ∧ From w V0 F0 ⟨b1, F.nC, b2, F.nI, b3, F.nH, b4, F.nR⟩ F := by
  have hm : ∀ n : Nat, n ≤ 1000000 → n ≤ maxLen := fun n h => by unfold maxLen; omega
  obtain ⟨s1, s2, s3, s4⟩ := hb
  have hle : w.heap.size ≤ W0.heap.size := by omega
  have k : FilAt X ⟨b1, F.nC, b2, F.nI, b3, F.nH, b4, F.nR⟩ F := ⟨h1, Nat.le_refl _, hm _ s1, h2, Nat.le_refl _, hm _ s2, h3, Nat.le_refl _, hm _ s3, h4, Nat.le_refl _, hm _ s4⟩
  refine ⟨fun cs => k.keep (keepRow _ _ _) ⟨f1.offN fun i hi => by omega, f2.offN fun i hi => by omega, f3.offN fun i hi => by omega, f4.offN fun i hi => by omega⟩, fun cs => below_setRow x (Nat.le_succ _) _, .inr (fresh_le f1 hle), .inr (fresh_le f2 hle), .inr (fresh_le f3 hle), .inr (fresh_le f4 hle)⟩
set_option maxRecDepth 100000 in
set_option maxHeartbeats 8000000 in
theorem fcopy_c : FCopyC 24 := by
  intro V F w h hs
  obtain ⟨s1, s2, s3, s4⟩ := hs
  have K1 := Lib.hid (fun w' (hx : Ext w w') => fapartbool_any V.a1 F.nC V.d1 F.C w' (h.h1.ext hx) s1 h.l1 h.m1)
  have K2 := Lib.hid (fun w' (hx : Ext w w') => fapartbool_any V.a2 F.nI V.d2 F.I w' (h.h2.ext hx) s2 h.l2 h.m2)
  have K3 := Lib.hid (fun w' (hx : Ext w w') => fapartuint16_any V.a3 F.nH V.d3 F.H w' (h.h3.ext hx) s3 h.l3 h.m3)
  have K4 := Lib.hid (fun w' (hx : Ext w w') => fapartuint16_any V.a4 F.nR V.d4 F.R w' (h.h4.ext hx) s4 h.l4 h.m4)
  have HB := Lib.hid (And.intro s1 (And.intro s2 (And.intro s3 s4)))
  clear h s1 s2 s3 s4
  obtain ⟨cf, cc, jf, jc, hf, hc, rf, rc, bf, bc, nC, C, nI, I, nH, H, nR, R⟩ := F
  obtain ⟨a1, d1, a2, d2, a3, d3, a4, d4⟩ := V
  simp only at K1 K2 K3 K4
  obtain ⟨W0, hW0, HX, HE⟩ : ∃ W0, W0 = ((w.alloc (.cells (filC ⟨a1, d1, a2, d2, a3, d3, a4, d4⟩ ⟨cf, cc, jf, jc, hf, hc, rf, rc, bf, bc, nC, C, nI, I, nH, H, nR, R⟩) 29)).alloc (.cells (filC zeroV zeroF) 29)) ∧ Hid (∀ W, Ext W0 W → W.heap[w.heap.size]? = some (.cells (filC ⟨a1, d1, a2, d2, a3, d3, a4, d4⟩ ⟨cf, cc, jf, jc, hf, hc, rf, rc, bf, bc, nC, C, nI, I, nH, H, nR, R⟩) 29 (0, 0)) ∧ W.heap[w.heap.size + 1]? = some (.cells (filC zeroV zeroF) 29 (0, 0))) ∧ Hid (Ext w W0) :=
    ⟨_, rfl, Lib.hid fun W hx => ⟨hx.block (two_boxes w _ _ _ _).1, hx.block (two_boxes w _ _ _ _).2⟩, Lib.hid ((Ext.alloc w _).trans (Ext.alloc _ _))⟩
  have hsz : w.heap.size + 2 ≤ W0.heap.size := by rw [hW0]; simp
  unfold filC at hW0 HX ⊢
  dsimp only [zeroV, zeroF] at hW0 HX ⊢
  go_enter Tryz.func24, Tryz.ntmps24
  go_wp2_with fail
  rw [← hW0]
  clear hW0
  have e1 : Ext W0 W0.drew := Ext.drew _
  have g1 := (HX.out _ e1).1
  have c10 := cell_of_heap (j := 10) g1 rfl
  have c11 := cell_of_heap (j := 11) g1 rfl
  go_region_with (first
    | (go_at_call_of 50 a1; refine (K1.out _ (HE.out.trans (by assumption))).mono ?_; rintro e w1 ⟨b1, rfl, h1, x1, f1⟩; have q1 : Fresh W0 b1 := Fresh.back f1 (by assumption); have y1 : Ext W0 w1 := Ext.trans (by assumption) x1; have g2 := (HX.out _ y1).1; have c10 := cell_of_heap (j := 10) g2 rfl; have c11 := cell_of_heap (j := 11) g2 rfl)
    | (go_at_call_of 50 a2; refine (K2.out _ (HE.out.trans (by assumption))).mono ?_; rintro e w2 ⟨b2, rfl, h2, x2, f2⟩; have q2 : Fresh W0 b2 := Fresh.back f2 (by assumption); have y2 : Ext W0 w2 := Ext.trans (by assumption) x2; have g3 := (HX.out _ y2).1; have c10 := cell_of_heap (j := 10) g3 rfl; have c11 := cell_of_heap (j := 11) g3 rfl; have z10 := frozen_of (j := 10) g3; have z11 := frozen_of (j := 11) g3))
  all_goals
    have m1 := h1.ext x2
    have m2 := h2
    obtain ⟨X1, hX1, HY⟩ : ∃ X, X = ((w2.setCell ⟨w.heap.size, 10, none⟩ (.slice b1 nC nC)).setCell ⟨w.heap.size, 11, none⟩ (.slice b2 nI nI)) ∧ Hid (Ext w X ∧ Keep (fun i => i = w.heap.size) w2 X ∧ X.heap[w.heap.size]? = some (.cells #[.int .i64 cf, .int .i64 cc, .int .i64 jf, .int .i64 jc, .int .i64 hf, .int .i64 hc, .int .i64 rf, .int .i64 rc, .int .i64 bf, .int .i64 bc, .slice b1 nC nC, .slice b2 nI nI, .slice a3 nH d3, .slice a4 nR d4] 29 (0, 0)) ∧ X.heap[w.heap.size + 1]? = w2.heap[w.heap.size + 1]?) := ⟨_, rfl, Lib.hid (set_two (HE.out.trans y2) g3)⟩
    rw [← hX1]
    clear hX1
    have p1 : Fresh W0 b1 := q1
    have p2 : Fresh W0 b2 := q2
    have HM1 := Lib.hid (m1.keepN HY.out.2.1 (fresh_one p1 hsz))
    have HM2 := Lib.hid (m2.keepN HY.out.2.1 (fresh_one p2 hsz))
    have HR : Hid (X1.heap[w.heap.size + 1]? = some (.cells #[.int .i64 0, .int .i64 0, .int .i64 0, .int .i64 0, .int .i64 0, .int .i64 0, .int .i64 0, .int .i64 0, .int .i64 0, .int .i64 0, .slice none 0 0, .slice none 0 0, .slice none 0 0, .slice none 0 0] 29 (0, 0))) := Lib.hid (HY.out.2.2.2.trans (HX.out _ y2).2)
    have HS : Hid (W0.heap.size ≤ X1.heap.size) := Lib.hid (Nat.le_trans y2.size HY.out.2.1.size)
    clear m1 m2 h1 h2 x1 x2 y1 y2 c10 c11 z10 z11 g1 g2 g3 e1 f1 f2 q1 q2
    go_wp2_with fail
    have e1 : Ext X1 X1.drew := Ext.drew _
    have g1 := e1.block HY.out.2.2.1
    have c12 := cell_of_heap (j := 12) g1 rfl
    have c13 := cell_of_heap (j := 13) g1 rfl
    go_region_with (first
      | (go_at_call_of 51 a3; refine (K3.out _ (HY.out.1.trans (by assumption))).mono ?_; rintro e w3 ⟨b3, rfl, h3, x3, f3⟩; have y3 : Ext X1 w3 := Ext.trans (by assumption) x3; have q3 : Fresh X1 b3 := Fresh.back f3 (by assumption); have g2 := y3.block HY.out.2.2.1; have c12 := cell_of_heap (j := 12) g2 rfl; have c13 := cell_of_heap (j := 13) g2 rfl)
      | (go_at_call_of 51 a4; refine (K4.out _ (HY.out.1.trans (by assumption))).mono ?_; rintro e w4 ⟨b4, rfl, h4, x4, f4⟩; have y4 : Ext X1 w4 := Ext.trans (by assumption) x4; have q4 : Fresh X1 b4 := Fresh.back f4 (by assumption); have g3 := y4.block HY.out.2.2.1; have c12 := cell_of_heap (j := 12) g3 rfl; have c13 := cell_of_heap (j := 13) g3 rfl; have z12 := frozen_of (j := 12) g3; have z13 := frozen_of (j := 13) g3))
    all_goals
      have m3 := h3.ext x4
      obtain ⟨X2, hX2, HZ⟩ : ∃ X, X = ((w4.setCell ⟨w.heap.size, 12, none⟩ (.slice b3 nH nH)).setCell ⟨w.heap.size, 13, none⟩ (.slice b4 nR nR)) ∧ Hid (Ext w X ∧ Keep (fun i => i = w.heap.size) w4 X ∧ X.heap[w.heap.size]? = some (.cells #[.int .i64 cf, .int .i64 cc, .int .i64 jf, .int .i64 jc, .int .i64 hf, .int .i64 hc, .int .i64 rf, .int .i64 rc, .int .i64 bf, .int .i64 bc, .slice b1 nC nC, .slice b2 nI nI, .slice b3 nH nH, .slice b4 nR nR] 29 (0, 0)) ∧ X.heap[w.heap.size + 1]? = w4.heap[w.heap.size + 1]?) := ⟨_, rfl, Lib.hid (set_two (HY.out.1.trans y4) g3)⟩
      rw [← hX2]
      clear hX2
      have hsz1 : w.heap.size + 2 ≤ X1.heap.size := Nat.le_trans hsz HS.out
      have gR := HZ.out.2.2.2.trans (y4.block HR.out)
      have gB := HZ.out.2.2.1
      have H1 := Lib.hid (copy_told (F := ⟨cf, cc, jf, jc, hf, hc, rf, rc, bf, bc, nC, C, nI, I, nH, H, nR, R⟩) HZ.out.1 hsz (fresh_le p1 (Nat.le_refl _)) (fresh_le p2 (Nat.le_refl _)) (fresh_le q3 HS.out) (fresh_le q4 HS.out) ((HM1.out.ext y4).keepN HZ.out.2.1 (fresh_one p1 hsz)) ((HM2.out.ext y4).keepN HZ.out.2.1 (fresh_one p2 hsz)) (m3.keepN HZ.out.2.1 (fresh_one q3 hsz1)) (h4.keepN HZ.out.2.1 (fresh_one q4 hsz1)) HB.out ⟨a1, d1, a2, d2, a3, d3, a4, d4⟩ ⟨cf, cc, jf, jc, hf, hc, rf, rc, bf, bc, nC, C, nI, I, nH, H, nR, R⟩)
      clear h3 h4 x3 x4 y3 y4 c12 c13 z12 z13 g1 g2 g3 e1 f3 f4 q3 q4 m3 hsz1
      go_wp2_with (first
        | (refine wpList_load_row rfl 29 (.tmp 1) rfl w.heap.size rfl 29 _ (0, 0) _ gB Tryz.underlying29 rfl (by kernel_rfl) ?_)
        | (refine wpList_store_row rfl 29 (.tmp 2) (.tmp 19) rfl (w.heap.size + 1) _ rfl rfl 29 _ gR (by kernel_rfl) rfl (by simp [Value.oneCell']) ?_))
      refine bodyPost_ret (results_cell_row rfl _ _ (w.heap.size + 1) 29 _ (0, 0) _ rfl (setRow_heap _ _ _ _ _ _ gR) Tryz.underlying29 rfl (by kernel_rfl)) rfl ⟨⟨b1, nC, b2, nI, b3, nH, b4, nR⟩, by rfl, H1.out.1 _, H1.out.2.1 _, H1.out.2.2⟩
end Go.Proofs.YtlafnobjfajamaaGreat
namespace Go.Proofs.YtlafnobjfajamaaGreat
open Go.RowKit
set_option linter.unusedVariables false

set_option maxRecDepth 100000 in
set_option maxHeartbeats 2000000 in
theorem fwritebool_no (V : FilV) (F : Fil) (T G : FuncId) (x : Int) (b : Option Addr) (m e : Nat) (w : World) (hr : rightB F = false) :
    Calls Tryz.prog 153 #[.agg (filC V F), .func (Fn.func T) #[] #[], .func (Fn.func G) #[] #[], .int .i64 x, .slice b m e] w (FP 11 zeroF V F w) := by
  unfold FP
  have HR := Lib.hid (fun w' => fright_v (V := V) hr w')
  have e0 := (Ext.alloc w (.cells (filC V F) 29)).trans (Ext.alloc _ (.cells (filC zeroV zeroF) 29))
  obtain ⟨gA, gR⟩ := two_boxes w (filC V F) (filC zeroV zeroF) 29 29
  clear hr gA
  unfold filC at HR e0 gR ⊢
  dsimp only [zeroV, zeroF] at e0 gR
  go_enter Tryz.func153, Tryz.ntmps153
  go_wp2_with fail
  refine (HR.out _).mono ?_; rintro e w1 ⟨rfl, x1⟩
  have gR1 := x1.block gR
  have y1 := e0.trans x1
  clear x1 e0 gR
  go_wp2_with (first | (refine wpList_store_row rfl 29 (.tmp 10) (.tmp 20) rfl (w.heap.size + 1) _ rfl rfl 29 _ gR1 (by kernel_rfl) rfl (by simp [Value.oneCell']) ?_))
  refine bodyPost_ret (results_row_tmp rfl _ _ (w.heap.size + 1) 29 _ (0, 0) _ rfl (setRow_heap _ _ _ _ _ _ gR1) Tryz.underlying29 rfl (by kernel_rfl)) rfl ⟨zeroV, by rfl, zero_at _, below_setRow y1 (Nat.le_succ _) _, From.zero _ _ _⟩
set_option maxRecDepth 100000 in
set_option maxHeartbeats 2000000 in
theorem fwriteuint16_no (V : FilV) (F : Fil) (T G : FuncId) (x : Int) (b : Option Addr) (m e : Nat) (w : World) (hr : rightB F = false) :
    Calls Tryz.prog 155 #[.agg (filC V F), .func (Fn.func T) #[] #[], .func (Fn.func G) #[] #[], .int .i64 x, .slice b m e] w (FP 11 zeroF V F w) := by
  unfold FP
  have HR := Lib.hid (fun w' => fright_v (V := V) hr w')
  have e0 := (Ext.alloc w (.cells (filC V F) 29)).trans (Ext.alloc _ (.cells (filC zeroV zeroF) 29))
  obtain ⟨gA, gR⟩ := two_boxes w (filC V F) (filC zeroV zeroF) 29 29
  clear hr gA
  unfold filC at HR e0 gR ⊢
  dsimp only [zeroV, zeroF] at e0 gR
  go_enter Tryz.func155, Tryz.ntmps155
  go_wp2_with fail
  refine (HR.out _).mono ?_; rintro e w1 ⟨rfl, x1⟩
  have gR1 := x1.block gR
  have y1 := e0.trans x1
  clear x1 e0 gR
  go_wp2_with (first | (refine wpList_store_row rfl 29 (.tmp 10) (.tmp 20) rfl (w.heap.size + 1) _ rfl rfl 29 _ gR1 (by kernel_rfl) rfl (by simp [Value.oneCell']) ?_))
  refine bodyPost_ret (results_row_tmp rfl _ _ (w.heap.size + 1) 29 _ (0, 0) _ rfl (setRow_heap _ _ _ _ _ _ gR1) Tryz.underlying29 rfl (by kernel_rfl)) rfl ⟨zeroV, by rfl, zero_at _, below_setRow y1 (Nat.le_succ _) _, From.zero _ _ _⟩
set_option maxRecDepth 100000 in
set_option maxHeartbeats 8000000 in
theorem fwrite_coils (V : FilV) (F : Fil) (x : Int) (b : Option Addr) (m e : Nat) (v : Nat → Bool) (w : World) (h : FilAt w V F) (hv : HoldsG Value.bool w b m v) (hme : m ≤ e) (hem : e ≤ maxLen) (hm : m ≤ 1000000) (wx : (Lit.int .i64 x).wf = true) (hr : rightB F = true) :
    Calls Tryz.prog 153 #[.agg (filC V F), .func (Fn.func 56) #[] #[], .func (Fn.func 154) #[] #[], .int .i64 x, .slice b m e] w (FP (rdE F.cf F.cc F.nC x m) (if rdE F.cf F.cc F.nC x m = 0 then { F with C := wrF F.C v F.cf x m } else zeroF) V F w) := by
  have hs := right_small hr
  have hsm := Small.of_right hr
  unfold FP
  have HR := Lib.hid (fun w' => fright_v (V := V) hr w')
  have HT := Lib.hid (fun g w' hb => fcoils_v V F g w' hb)
  have K := Lib.hid (fun w' (hx : Ext w w') => (csetbits_f F.cf F.cc x V.a1 F.nC V.d1 F.C b m e v w' (h.h1.ext hx) h.l1 h.m1 (Nat.le_trans hs.1 (by decide)) (hv.ext hx) hme hem (Nat.le_trans hm (by decide)) wx).mono fun _ _ => WrPostF.sl)
  have HC := Lib.hid (fun V' F' w' (hf : FilAt w' V' F') (hz : Small F') => fcopy_c V' F' w' hf hz)
  unfold SlP at K
  obtain ⟨W0, hW0, HX, HE0⟩ : ∃ W0, W0 = ((w.alloc (.cells (filC V F) 29)).alloc (.cells #[.int .i64 0, .int .i64 0, .int .i64 0, .int .i64 0, .int .i64 0, .int .i64 0, .int .i64 0, .int .i64 0, .int .i64 0, .int .i64 0, .slice none 0 0, .slice none 0 0, .slice none 0 0, .slice none 0 0] 29)) ∧ Hid (∀ W, Ext W0 W → W.heap[w.heap.size]? = some (.cells (filC V F) 29 (0, 0)) ∧ W.heap[w.heap.size + 1]? = some (.cells #[.int .i64 0, .int .i64 0, .int .i64 0, .int .i64 0, .int .i64 0, .int .i64 0, .int .i64 0, .int .i64 0, .int .i64 0, .int .i64 0, .slice none 0 0, .slice none 0 0, .slice none 0 0, .slice none 0 0] 29 (0, 0))) ∧ Hid (Ext w W0) :=
    ⟨_, rfl, Lib.hid fun W hx => ⟨hx.block (two_boxes w _ _ _ _).1, hx.block (two_boxes w _ _ _ _).2⟩, Lib.hid ((Ext.alloc w _).trans (Ext.alloc _ _))⟩
  have hsz : w.heap.size + 2 ≤ W0.heap.size := by rw [hW0]; simp
  have HZ := Lib.hid hsz
  have HH := Lib.hid h
  have hN : rdN F.cf F.cc F.nC x m F.nC = if rdE F.cf F.cc F.nC x m = 0 then F.nC else 0 := rfl
  clear h hs hr wx hv hme hem hm hsz
  by_cases hE0 : rdE F.cf F.cc F.nC x m = 0
  · rw [if_pos hE0] at hN ⊢
    rw [hN, hE0] at K
    rw [hE0]
    have hsm' : Small { F with C := wrF F.C v F.cf x m } := ⟨hsm.1, hsm.2, hsm.3, hsm.4⟩
    have HSm := Lib.hid hsm'
    generalize wrF F.C v F.cf x m = L at K HSm ⊢
    clear hN hsm hE0 hsm'
    go_enter Tryz.func153, Tryz.ntmps153
    go_upto_region 1 with fail
    rw [← hW0]
    clear hW0
    have gA := (HX.out W0 (Ext.refl _)).1
    go_wp2_with (first | (refine wpList_load_row rfl 29 (.tmp 5) rfl w.heap.size rfl 29 _ (0, 0) _ gA Tryz.underlying29 rfl (by kernel_rfl) ?_))
    refine (HR.out _).mono ?_; rintro e w1 ⟨rfl, x1⟩
    have gB := (HX.out w1 x1).1
    obtain ⟨W3, hW3, y3, b3⟩ : ∃ W, W = ((w1.alloc (.cells #[.int .i64 0, .int .i64 0, .int .i64 0, .int .i64 0, .int .i64 0, .int .i64 0, .int .i64 0, .int .i64 0, .int .i64 0, .int .i64 0, .slice none 0 0, .slice none 0 0, .slice none 0 0, .slice none 0 0] 139)).setRow w1.heap.size (filC V F)) ∧ Ext w1 W ∧ W.heap[w1.heap.size]? = some (.cells (filC V F) 139 (0, 0)) := ⟨_, rfl, boxed_row _ _ _ _⟩
    have gN := heap_alloc_new w1 (.cells #[.int .i64 0, .int .i64 0, .int .i64 0, .int .i64 0, .int .i64 0, .int .i64 0, .int .i64 0, .int .i64 0, .int .i64 0, .int .i64 0, .slice none 0 0, .slice none 0 0, .slice none 0 0, .slice none 0 0] 139)
    clear gA
    go_wp2_with (first
      | (refine wpList_load_row rfl 29 (.tmp 5) rfl w.heap.size rfl 29 _ (0, 0) _ gB Tryz.underlying29 rfl (by kernel_rfl) ?_)
      | (refine wpList_store_row rfl 139 (.tmp 12) (.tmp 21) rfl w1.heap.size _ rfl rfl 139 _ gN (by kernel_rfl) rfl (by simp [filC, Value.oneCell']) ?_))
    rw [← hW3]
    clear hW3 gN gB
    refine (HT.out _ _ b3).mono ?_; rintro e w4 ⟨rfl, x4⟩
    have b4 := x4.block b3
    obtain ⟨W5, hW5, HY, HE⟩ : ∃ W5, W5 = w4.alloc (.cells #[.int .i64 F.cf, .int .i64 F.cc] 23) ∧ Hid (∀ W, Ext W5 W → W.cell? ⟨w4.heap.size, 0, none⟩ = some (.int .i64 F.cf) ∧ W.cell? ⟨w4.heap.size, 1, none⟩ = some (.int .i64 F.cc) ∧ W.heap[w1.heap.size]? = some (.cells (filC V F) 139 (0, 0))) ∧ Hid (Ext W0 W5) :=
      ⟨_, rfl, Lib.hid (fun W hx => ⟨hx.made 0 _ rfl, hx.made 1 _ rfl, ((Ext.alloc w4 _).trans hx).block b4⟩), Lib.hid (x1.trans (y3.trans (x4.trans (Ext.alloc _ _))))⟩
    have HL : Hid (W0.heap.size ≤ w1.heap.size ∧ w1.heap.size < W5.heap.size ∧ W0.heap.size ≤ W5.heap.size) := Lib.hid ⟨x1.size, heap_lt (HY.out W5 (Ext.refl _)).2.2, HE.out.size⟩
    clear y3 b3 x4 b4 x1
    go_wp2_with fail
    rw [← hW5]
    clear hW5
    obtain ⟨q0, q1, q2⟩ := HY.out W5.drew (Ext.drew _)
    have q2 := cell_of_heap (j := 10) q2 rfl
    have y0 : Ext W5 W5.drew := Ext.drew _
    go_region_held3 (fun w' => w'.cell? ⟨w4.heap.size, 0, none⟩ = some (.int .i64 F.cf) ∧ w'.cell? ⟨w4.heap.size, 1, none⟩ = some (.int .i64 F.cc) ∧ w'.cell? ⟨w1.heap.size, 10, none⟩ = some (.slice V.a1 F.nC V.d1) ∧ Ext W5 w')
      ((refine ⟨?_, ?_, ?_, ?_⟩ <;> assumption))
      (first
        | (go_at_call 154; refine (K.out _ (HE0.out.trans (HE.out.trans (by assumption)))).mono ?_; rintro e w6 ⟨b', q', rfl, h1, h2, h3, x6, f6⟩; have f7 : Fresh W5 b' := Fresh.back f6 (by assumption); have y6 : Ext W5 w6 := Ext.trans (by assumption) x6; obtain ⟨a0, a1, a2⟩ := HY.out _ y6; have a2 := cell_of_heap (j := 10) a2 rfl))
    have gR := (HX.out _ (HE.out.trans y6)).2
    have y7 : Ext w w6 := HE0.out.trans (HE.out.trans y6)
    have gT := (HY.out _ y6).2.2
    clear q0 q1 q2 a0 a1 y0 x6 f6
    have z2 := frozen_of (j := 10) gT
    have gL : (w6.setCell ⟨w1.heap.size, 10, none⟩ (.slice b' F.nC q')).heap[w1.heap.size]? = some (.cells (filC { V with a1 := b', d1 := q' } { F with C := L }) 139 (0, 0)) := (heap_setCell_same _ _ 10 _ _ (.slice b' F.nC q') gT).trans (by rfl)
    have gQ : (w6.setCell ⟨w1.heap.size, 10, none⟩ (.slice b' F.nC q')).heap[w.heap.size + 1]? = some (.cells #[.int .i64 0, .int .i64 0, .int .i64 0, .int .i64 0, .int .i64 0, .int .i64 0, .int .i64 0, .int .i64 0, .int .i64 0, .int .i64 0, .slice none 0 0, .slice none 0 0, .slice none 0 0, .slice none 0 0] 29 (0, 0)) := (heap_setCell_other w6 ⟨w1.heap.size, 10, none⟩ (w.heap.size + 1) _ (by have := HZ.out; have := HL.out; show w.heap.size + 1 ≠ w1.heap.size; omega)).trans gR
    have HF : Hid (FilAt (w6.setCell ⟨w1.heap.size, 10, none⟩ (.slice b' F.nC q')) { V with a1 := b', d1 := q' } { F with C := L } ∧ From w V F { V with a1 := b', d1 := q' } { F with C := L } ∧ FilOff (fun i => i = w.heap.size + 1) { V with a1 := b', d1 := q' } { F with C := L } ∧ Ext w (w6.setCell ⟨w1.heap.size, 10, none⟩ (.slice b' F.nC q'))) := by
      have h' := HH.out.ext y7
      have o := HH.out.off (Φ := fun i => i = w.heap.size + 1) (w := w) (fun i hi => by omega) (Nat.le_refl _)
      have hlow : w.heap.size ≤ w1.heap.size := by have := HZ.out; have := HL.out; omega
      have k6 : FilAt w6 { V with a1 := b', d1 := q' } { F with C := L } := ⟨h3, h1, h2, h'.h2, h'.l2, h'.m2, h'.h3, h'.l3, h'.m3, h'.h4, h'.l4, h'.m4⟩
      have o1 := HH.out.off (Φ := fun i => i = w1.heap.size) (w := w) (fun i hi => by omega) (Nat.le_refl _)
      refine Lib.hid ⟨k6.keep (keepCell w6 w1.heap.size 10 _) ?_, ⟨.inr (fresh_le f7 (by have := HL.out; have := HZ.out; omega)), .inl ⟨rfl, rfl⟩, .inl ⟨rfl, rfl⟩, .inl ⟨rfl, rfl⟩⟩, ⟨f7.offN (fun i hi => by have := HL.out; have := HZ.out; omega), o.o2, o.o3, o.o4⟩, Below.setCell y7 hlow _⟩
      exact ⟨f7.offN (fun i hi => by have := HL.out; omega), o1.o2, o1.o3, o1.o4⟩
    clear h1 h2 h3 gT gR y7 y6 f7
    go_wp2_with (first
      | (refine wpList_load_row rfl 139 (.tmp 12) rfl w1.heap.size rfl 139 _ (0, 0) _ gL Tryz.underlying139 rfl (by kernel_rfl) ?_))
    refine (HC.out _ _ _ HF.out.1 HSm.out).mono ?_; rintro e w7 ⟨U, rfl, h8, x8, f8⟩
    have gR7 := x8.block gQ
    have HO : Hid (FilOff (fun i => i = w.heap.size + 1) U { F with C := L } ∧ From w V F U { F with C := L } ∧ Ext w w7) := Lib.hid ⟨f8.off HF.out.2.2.1 (fun i hi => by have h9 := HF.out.2.2.2.size; have := heap_lt gQ; omega), HF.out.2.1.trans f8 HF.out.2.2.2, HF.out.2.2.2.trans x8⟩
    clear gQ gL z2 a2 x8 f8
    go_wp2_with (first | (refine wpList_store_row rfl 29 (.tmp 10) (.tmp 46) rfl (w.heap.size + 1) _ rfl rfl 29 _ gR7 (by kernel_rfl) rfl (by simp [filC, Value.oneCell']) ?_))
    refine bodyPost_ret (results_row_tmp rfl _ _ (w.heap.size + 1) 29 _ (0, 0) _ rfl (setRow_heap _ _ _ _ _ _ gR7) Tryz.underlying29 rfl (by kernel_rfl)) rfl ⟨U, by rfl, h8.keep (keepRow _ _ _) HO.out.1, below_setRow HO.out.2.2 (Nat.le_succ _) _, HO.out.2.1⟩
  · rw [if_neg hE0] at hN ⊢
    rw [hN] at K
    generalize rdE F.cf F.cc F.nC x m = E at K hE0 ⊢
    generalize wrF F.C v F.cf x m = L at K
    clear hN hsm
    go_enter Tryz.func153, Tryz.ntmps153
    go_upto_region 1 with fail
    rw [← hW0]
    clear hW0
    have gA := (HX.out W0 (Ext.refl _)).1
    go_wp2_with (first | (refine wpList_load_row rfl 29 (.tmp 5) rfl w.heap.size rfl 29 _ (0, 0) _ gA Tryz.underlying29 rfl (by kernel_rfl) ?_))
    refine (HR.out _).mono ?_; rintro e w1 ⟨rfl, x1⟩
    have gB := (HX.out w1 x1).1
    obtain ⟨W3, hW3, y3, b3⟩ : ∃ W, W = ((w1.alloc (.cells #[.int .i64 0, .int .i64 0, .int .i64 0, .int .i64 0, .int .i64 0, .int .i64 0, .int .i64 0, .int .i64 0, .int .i64 0, .int .i64 0, .slice none 0 0, .slice none 0 0, .slice none 0 0, .slice none 0 0] 139)).setRow w1.heap.size (filC V F)) ∧ Ext w1 W ∧ W.heap[w1.heap.size]? = some (.cells (filC V F) 139 (0, 0)) := ⟨_, rfl, boxed_row _ _ _ _⟩
    have gN := heap_alloc_new w1 (.cells #[.int .i64 0, .int .i64 0, .int .i64 0, .int .i64 0, .int .i64 0, .int .i64 0, .int .i64 0, .int .i64 0, .int .i64 0, .int .i64 0, .slice none 0 0, .slice none 0 0, .slice none 0 0, .slice none 0 0] 139)
    clear gA
    go_wp2_with (first
      | (refine wpList_load_row rfl 29 (.tmp 5) rfl w.heap.size rfl 29 _ (0, 0) _ gB Tryz.underlying29 rfl (by kernel_rfl) ?_)
      | (refine wpList_store_row rfl 139 (.tmp 12) (.tmp 21) rfl w1.heap.size _ rfl rfl 139 _ gN (by kernel_rfl) rfl (by simp [filC, Value.oneCell']) ?_))
    rw [← hW3]
    clear hW3 gN gB
    refine (HT.out _ _ b3).mono ?_; rintro e w4 ⟨rfl, x4⟩
    have b4 := x4.block b3
    obtain ⟨W5, hW5, HY, HE⟩ : ∃ W5, W5 = w4.alloc (.cells #[.int .i64 F.cf, .int .i64 F.cc] 23) ∧ Hid (∀ W, Ext W5 W → W.cell? ⟨w4.heap.size, 0, none⟩ = some (.int .i64 F.cf) ∧ W.cell? ⟨w4.heap.size, 1, none⟩ = some (.int .i64 F.cc) ∧ W.heap[w1.heap.size]? = some (.cells (filC V F) 139 (0, 0))) ∧ Hid (Ext W0 W5) :=
      ⟨_, rfl, Lib.hid (fun W hx => ⟨hx.made 0 _ rfl, hx.made 1 _ rfl, ((Ext.alloc w4 _).trans hx).block b4⟩), Lib.hid (x1.trans (y3.trans (x4.trans (Ext.alloc _ _))))⟩
    have HL : Hid (W0.heap.size ≤ w1.heap.size ∧ w1.heap.size < W5.heap.size ∧ W0.heap.size ≤ W5.heap.size) := Lib.hid ⟨x1.size, heap_lt (HY.out W5 (Ext.refl _)).2.2, HE.out.size⟩
    clear y3 b3 x4 b4 x1
    go_wp2_with fail
    rw [← hW5]
    clear hW5
    obtain ⟨q0, q1, q2⟩ := HY.out W5.drew (Ext.drew _)
    have q2 := cell_of_heap (j := 10) q2 rfl
    have y0 : Ext W5 W5.drew := Ext.drew _
    go_region_held3 (fun w' => w'.cell? ⟨w4.heap.size, 0, none⟩ = some (.int .i64 F.cf) ∧ w'.cell? ⟨w4.heap.size, 1, none⟩ = some (.int .i64 F.cc) ∧ w'.cell? ⟨w1.heap.size, 10, none⟩ = some (.slice V.a1 F.nC V.d1) ∧ Ext W5 w')
      ((refine ⟨?_, ?_, ?_, ?_⟩ <;> assumption))
      (first
        | (go_at_call 154; refine (K.out _ (HE0.out.trans (HE.out.trans (by assumption)))).mono ?_; rintro e w6 ⟨b', q', rfl, h1, h2, h3, x6, f6⟩; have f7 : Fresh W5 b' := Fresh.back f6 (by assumption); have y6 : Ext W5 w6 := Ext.trans (by assumption) x6; obtain ⟨a0, a1, a2⟩ := HY.out _ y6; have a2 := cell_of_heap (j := 10) a2 rfl))
    have gR := (HX.out _ (HE.out.trans y6)).2
    have y7 : Ext w w6 := HE0.out.trans (HE.out.trans y6)
    have gT := (HY.out _ y6).2.2
    clear q0 q1 q2 a0 a1 y0 x6 f6
    clear gT a2 y6
    go_wp2_with (first | (refine wpList_store_row rfl 29 (.tmp 10) (.tmp 40) rfl (w.heap.size + 1) _ rfl rfl 29 _ gR (by kernel_rfl) rfl (by simp [Value.oneCell']) ?_))
    refine bodyPost_ret (results_row_tmp rfl _ _ (w.heap.size + 1) 29 _ (0, 0) _ rfl (setRow_heap _ _ _ _ _ _ gR) Tryz.underlying29 rfl (by kernel_rfl)) rfl ⟨zeroV, by rfl, zero_at _, below_setRow y7 (Nat.le_succ _) _, From.zero _ _ _⟩
set_option maxRecDepth 100000 in
set_option maxHeartbeats 8000000 in
theorem fwrite_holding (V : FilV) (F : Fil) (x : Int) (b : Option Addr) (m e : Nat) (v : Nat → Int) (w : World) (h : FilAt w V F) (hv : HoldsG (Value.int .u16) w b m v) (hme : m ≤ e) (hem : e ≤ maxLen) (hm : m ≤ 1000000) (wx : (Lit.int .i64 x).wf = true) (hr : rightB F = true) :
    Calls Tryz.prog 155 #[.agg (filC V F), .func (Fn.func 58) #[] #[], .func (Fn.func 156) #[] #[], .int .i64 x, .slice b m e] w (FP (rdE F.hf F.hc F.nH x m) (if rdE F.hf F.hc F.nH x m = 0 then { F with H := wrF F.H v F.hf x m } else zeroF) V F w) := by
  have hs := right_small hr
  have hsm := Small.of_right hr
  unfold FP
  have HR := Lib.hid (fun w' => fright_v (V := V) hr w')
  have HT := Lib.hid (fun g w' hb => fholding_v V F g w' hb)
  have K := Lib.hid (fun w' (hx : Ext w w') => (csetwords_f F.hf F.hc x V.a3 F.nH V.d3 F.H b m e v w' (h.h3.ext hx) h.l3 h.m3 (Nat.le_trans hs.2.2.1 (by decide)) (hv.ext hx) hme hem (Nat.le_trans hm (by decide)) wx).mono fun _ _ => WrPostF.sl)
  have HC := Lib.hid (fun V' F' w' (hf : FilAt w' V' F') (hz : Small F') => fcopy_c V' F' w' hf hz)
  unfold SlP at K
  obtain ⟨W0, hW0, HX, HE0⟩ : ∃ W0, W0 = ((w.alloc (.cells (filC V F) 29)).alloc (.cells #[.int .i64 0, .int .i64 0, .int .i64 0, .int .i64 0, .int .i64 0, .int .i64 0, .int .i64 0, .int .i64 0, .int .i64 0, .int .i64 0, .slice none 0 0, .slice none 0 0, .slice none 0 0, .slice none 0 0] 29)) ∧ Hid (∀ W, Ext W0 W → W.heap[w.heap.size]? = some (.cells (filC V F) 29 (0, 0)) ∧ W.heap[w.heap.size + 1]? = some (.cells #[.int .i64 0, .int .i64 0, .int .i64 0, .int .i64 0, .int .i64 0, .int .i64 0, .int .i64 0, .int .i64 0, .int .i64 0, .int .i64 0, .slice none 0 0, .slice none 0 0, .slice none 0 0, .slice none 0 0] 29 (0, 0))) ∧ Hid (Ext w W0) :=
    ⟨_, rfl, Lib.hid fun W hx => ⟨hx.block (two_boxes w _ _ _ _).1, hx.block (two_boxes w _ _ _ _).2⟩, Lib.hid ((Ext.alloc w _).trans (Ext.alloc _ _))⟩
  have hsz : w.heap.size + 2 ≤ W0.heap.size := by rw [hW0]; simp
  have HZ := Lib.hid hsz
  have HH := Lib.hid h
  have hN : rdN F.hf F.hc F.nH x m F.nH = if rdE F.hf F.hc F.nH x m = 0 then F.nH else 0 := rfl
  clear h hs hr wx hv hme hem hm hsz
  by_cases hE0 : rdE F.hf F.hc F.nH x m = 0
  · rw [if_pos hE0] at hN ⊢
    rw [hN, hE0] at K
    rw [hE0]
    have hsm' : Small { F with H := wrF F.H v F.hf x m } := ⟨hsm.1, hsm.2, hsm.3, hsm.4⟩
    have HSm := Lib.hid hsm'
    generalize wrF F.H v F.hf x m = L at K HSm ⊢
    clear hN hsm hE0 hsm'
    go_enter Tryz.func155, Tryz.ntmps155
    go_upto_region 1 with fail
    rw [← hW0]
    clear hW0
    have gA := (HX.out W0 (Ext.refl _)).1
    go_wp2_with (first | (refine wpList_load_row rfl 29 (.tmp 5) rfl w.heap.size rfl 29 _ (0, 0) _ gA Tryz.underlying29 rfl (by kernel_rfl) ?_))
    refine (HR.out _).mono ?_; rintro e w1 ⟨rfl, x1⟩
    have gB := (HX.out w1 x1).1
    obtain ⟨W3, hW3, y3, b3⟩ : ∃ W, W = ((w1.alloc (.cells #[.int .i64 0, .int .i64 0, .int .i64 0, .int .i64 0, .int .i64 0, .int .i64 0, .int .i64 0, .int .i64 0, .int .i64 0, .int .i64 0, .slice none 0 0, .slice none 0 0, .slice none 0 0, .slice none 0 0] 139)).setRow w1.heap.size (filC V F)) ∧ Ext w1 W ∧ W.heap[w1.heap.size]? = some (.cells (filC V F) 139 (0, 0)) := ⟨_, rfl, boxed_row _ _ _ _⟩
    have gN := heap_alloc_new w1 (.cells #[.int .i64 0, .int .i64 0, .int .i64 0, .int .i64 0, .int .i64 0, .int .i64 0, .int .i64 0, .int .i64 0, .int .i64 0, .int .i64 0, .slice none 0 0, .slice none 0 0, .slice none 0 0, .slice none 0 0] 139)
    clear gA
    go_wp2_with (first
      | (refine wpList_load_row rfl 29 (.tmp 5) rfl w.heap.size rfl 29 _ (0, 0) _ gB Tryz.underlying29 rfl (by kernel_rfl) ?_)
      | (refine wpList_store_row rfl 139 (.tmp 12) (.tmp 21) rfl w1.heap.size _ rfl rfl 139 _ gN (by kernel_rfl) rfl (by simp [filC, Value.oneCell']) ?_))
    rw [← hW3]
    clear hW3 gN gB
    refine (HT.out _ _ b3).mono ?_; rintro e w4 ⟨rfl, x4⟩
    have b4 := x4.block b3
    obtain ⟨W5, hW5, HY, HE⟩ : ∃ W5, W5 = w4.alloc (.cells #[.int .i64 F.hf, .int .i64 F.hc] 23) ∧ Hid (∀ W, Ext W5 W → W.cell? ⟨w4.heap.size, 0, none⟩ = some (.int .i64 F.hf) ∧ W.cell? ⟨w4.heap.size, 1, none⟩ = some (.int .i64 F.hc) ∧ W.heap[w1.heap.size]? = some (.cells (filC V F) 139 (0, 0))) ∧ Hid (Ext W0 W5) :=
      ⟨_, rfl, Lib.hid (fun W hx => ⟨hx.made 0 _ rfl, hx.made 1 _ rfl, ((Ext.alloc w4 _).trans hx).block b4⟩), Lib.hid (x1.trans (y3.trans (x4.trans (Ext.alloc _ _))))⟩
    have HL : Hid (W0.heap.size ≤ w1.heap.size ∧ w1.heap.size < W5.heap.size ∧ W0.heap.size ≤ W5.heap.size) := Lib.hid ⟨x1.size, heap_lt (HY.out W5 (Ext.refl _)).2.2, HE.out.size⟩
    clear y3 b3 x4 b4 x1
    go_wp2_with fail
    rw [← hW5]
    clear hW5
    obtain ⟨q0, q1, q2⟩ := HY.out W5.drew (Ext.drew _)
    have q2 := cell_of_heap (j := 12) q2 rfl
    have y0 : Ext W5 W5.drew := Ext.drew _
    go_region_held3 (fun w' => w'.cell? ⟨w4.heap.size, 0, none⟩ = some (.int .i64 F.hf) ∧ w'.cell? ⟨w4.heap.size, 1, none⟩ = some (.int .i64 F.hc) ∧ w'.cell? ⟨w1.heap.size, 12, none⟩ = some (.slice V.a3 F.nH V.d3) ∧ Ext W5 w')
      ((refine ⟨?_, ?_, ?_, ?_⟩ <;> assumption))
      (first
        | (go_at_call 156; refine (K.out _ (HE0.out.trans (HE.out.trans (by assumption)))).mono ?_; rintro e w6 ⟨b', q', rfl, h1, h2, h3, x6, f6⟩; have f7 : Fresh W5 b' := Fresh.back f6 (by assumption); have y6 : Ext W5 w6 := Ext.trans (by assumption) x6; obtain ⟨a0, a1, a2⟩ := HY.out _ y6; have a2 := cell_of_heap (j := 12) a2 rfl))
    have gR := (HX.out _ (HE.out.trans y6)).2
    have y7 : Ext w w6 := HE0.out.trans (HE.out.trans y6)
    have gT := (HY.out _ y6).2.2
    clear q0 q1 q2 a0 a1 y0 x6 f6
    have z2 := frozen_of (j := 12) gT
    have gL : (w6.setCell ⟨w1.heap.size, 12, none⟩ (.slice b' F.nH q')).heap[w1.heap.size]? = some (.cells (filC { V with a3 := b', d3 := q' } { F with H := L }) 139 (0, 0)) := (heap_setCell_same _ _ 12 _ _ (.slice b' F.nH q') gT).trans (by rfl)
    have gQ : (w6.setCell ⟨w1.heap.size, 12, none⟩ (.slice b' F.nH q')).heap[w.heap.size + 1]? = some (.cells #[.int .i64 0, .int .i64 0, .int .i64 0, .int .i64 0, .int .i64 0, .int .i64 0, .int .i64 0, .int .i64 0, .int .i64 0, .int .i64 0, .slice none 0 0, .slice none 0 0, .slice none 0 0, .slice none 0 0] 29 (0, 0)) := (heap_setCell_other w6 ⟨w1.heap.size, 12, none⟩ (w.heap.size + 1) _ (by have := HZ.out; have := HL.out; show w.heap.size + 1 ≠ w1.heap.size; omega)).trans gR
    have HF : Hid (FilAt (w6.setCell ⟨w1.heap.size, 12, none⟩ (.slice b' F.nH q')) { V with a3 := b', d3 := q' } { F with H := L } ∧ From w V F { V with a3 := b', d3 := q' } { F with H := L } ∧ FilOff (fun i => i = w.heap.size + 1) { V with a3 := b', d3 := q' } { F with H := L } ∧ Ext w (w6.setCell ⟨w1.heap.size, 12, none⟩ (.slice b' F.nH q'))) := by
      have h' := HH.out.ext y7
      have o := HH.out.off (Φ := fun i => i = w.heap.size + 1) (w := w) (fun i hi => by omega) (Nat.le_refl _)
      have hlow : w.heap.size ≤ w1.heap.size := by have := HZ.out; have := HL.out; omega
      have k6 : FilAt w6 { V with a3 := b', d3 := q' } { F with H := L } := ⟨h'.h1, h'.l1, h'.m1, h'.h2, h'.l2, h'.m2, h3, h1, h2, h'.h4, h'.l4, h'.m4⟩
      have o1 := HH.out.off (Φ := fun i => i = w1.heap.size) (w := w) (fun i hi => by omega) (Nat.le_refl _)
      refine Lib.hid ⟨k6.keep (keepCell w6 w1.heap.size 12 _) ?_, ⟨.inl ⟨rfl, rfl⟩, .inl ⟨rfl, rfl⟩, .inr (fresh_le f7 (by have := HL.out; have := HZ.out; omega)), .inl ⟨rfl, rfl⟩⟩, ⟨o.o1, o.o2, f7.offN (fun i hi => by have := HL.out; have := HZ.out; omega), o.o4⟩, Below.setCell y7 hlow _⟩
      exact ⟨o1.o1, o1.o2, f7.offN (fun i hi => by have := HL.out; omega), o1.o4⟩
    clear h1 h2 h3 gT gR y7 y6 f7
    go_wp2_with (first
      | (refine wpList_load_row rfl 139 (.tmp 12) rfl w1.heap.size rfl 139 _ (0, 0) _ gL Tryz.underlying139 rfl (by kernel_rfl) ?_))
    refine (HC.out _ _ _ HF.out.1 HSm.out).mono ?_; rintro e w7 ⟨U, rfl, h8, x8, f8⟩
    have gR7 := x8.block gQ
    have HO : Hid (FilOff (fun i => i = w.heap.size + 1) U { F with H := L } ∧ From w V F U { F with H := L } ∧ Ext w w7) := Lib.hid ⟨f8.off HF.out.2.2.1 (fun i hi => by have h9 := HF.out.2.2.2.size; have := heap_lt gQ; omega), HF.out.2.1.trans f8 HF.out.2.2.2, HF.out.2.2.2.trans x8⟩
    clear gQ gL z2 a2 x8 f8
    go_wp2_with (first | (refine wpList_store_row rfl 29 (.tmp 10) (.tmp 46) rfl (w.heap.size + 1) _ rfl rfl 29 _ gR7 (by kernel_rfl) rfl (by simp [filC, Value.oneCell']) ?_))
    refine bodyPost_ret (results_row_tmp rfl _ _ (w.heap.size + 1) 29 _ (0, 0) _ rfl (setRow_heap _ _ _ _ _ _ gR7) Tryz.underlying29 rfl (by kernel_rfl)) rfl ⟨U, by rfl, h8.keep (keepRow _ _ _) HO.out.1, below_setRow HO.out.2.2 (Nat.le_succ _) _, HO.out.2.1⟩
  · rw [if_neg hE0] at hN ⊢
    rw [hN] at K
    generalize rdE F.hf F.hc F.nH x m = E at K hE0 ⊢
    generalize wrF F.H v F.hf x m = L at K
    clear hN hsm
    go_enter Tryz.func155, Tryz.ntmps155
    go_upto_region 1 with fail
    rw [← hW0]
    clear hW0
    have gA := (HX.out W0 (Ext.refl _)).1
    go_wp2_with (first | (refine wpList_load_row rfl 29 (.tmp 5) rfl w.heap.size rfl 29 _ (0, 0) _ gA Tryz.underlying29 rfl (by kernel_rfl) ?_))
    refine (HR.out _).mono ?_; rintro e w1 ⟨rfl, x1⟩
    have gB := (HX.out w1 x1).1
    obtain ⟨W3, hW3, y3, b3⟩ : ∃ W, W = ((w1.alloc (.cells #[.int .i64 0, .int .i64 0, .int .i64 0, .int .i64 0, .int .i64 0, .int .i64 0, .int .i64 0, .int .i64 0, .int .i64 0, .int .i64 0, .slice none 0 0, .slice none 0 0, .slice none 0 0, .slice none 0 0] 139)).setRow w1.heap.size (filC V F)) ∧ Ext w1 W ∧ W.heap[w1.heap.size]? = some (.cells (filC V F) 139 (0, 0)) := ⟨_, rfl, boxed_row _ _ _ _⟩
    have gN := heap_alloc_new w1 (.cells #[.int .i64 0, .int .i64 0, .int .i64 0, .int .i64 0, .int .i64 0, .int .i64 0, .int .i64 0, .int .i64 0, .int .i64 0, .int .i64 0, .slice none 0 0, .slice none 0 0, .slice none 0 0, .slice none 0 0] 139)
    clear gA
    go_wp2_with (first
      | (refine wpList_load_row rfl 29 (.tmp 5) rfl w.heap.size rfl 29 _ (0, 0) _ gB Tryz.underlying29 rfl (by kernel_rfl) ?_)
      | (refine wpList_store_row rfl 139 (.tmp 12) (.tmp 21) rfl w1.heap.size _ rfl rfl 139 _ gN (by kernel_rfl) rfl (by simp [filC, Value.oneCell']) ?_))
    rw [← hW3]
    clear hW3 gN gB
    refine (HT.out _ _ b3).mono ?_; rintro e w4 ⟨rfl, x4⟩
    have b4 := x4.block b3
    obtain ⟨W5, hW5, HY, HE⟩ : ∃ W5, W5 = w4.alloc (.cells #[.int .i64 F.hf, .int .i64 F.hc] 23) ∧ Hid (∀ W, Ext W5 W → W.cell? ⟨w4.heap.size, 0, none⟩ = some (.int .i64 F.hf) ∧ W.cell? ⟨w4.heap.size, 1, none⟩ = some (.int .i64 F.hc) ∧ W.heap[w1.heap.size]? = some (.cells (filC V F) 139 (0, 0))) ∧ Hid (Ext W0 W5) :=
      ⟨_, rfl, Lib.hid (fun W hx => ⟨hx.made 0 _ rfl, hx.made 1 _ rfl, ((Ext.alloc w4 _).trans hx).block b4⟩), Lib.hid (x1.trans (y3.trans (x4.trans (Ext.alloc _ _))))⟩
    have HL : Hid (W0.heap.size ≤ w1.heap.size ∧ w1.heap.size < W5.heap.size ∧ W0.heap.size ≤ W5.heap.size) := Lib.hid ⟨x1.size, heap_lt (HY.out W5 (Ext.refl _)).2.2, HE.out.size⟩
    clear y3 b3 x4 b4 x1
    go_wp2_with fail
    rw [← hW5]
    clear hW5
    obtain ⟨q0, q1, q2⟩ := HY.out W5.drew (Ext.drew _)
    have q2 := cell_of_heap (j := 12) q2 rfl
    have y0 : Ext W5 W5.drew := Ext.drew _
    go_region_held3 (fun w' => w'.cell? ⟨w4.heap.size, 0, none⟩ = some (.int .i64 F.hf) ∧ w'.cell? ⟨w4.heap.size, 1, none⟩ = some (.int .i64 F.hc) ∧ w'.cell? ⟨w1.heap.size, 12, none⟩ = some (.slice V.a3 F.nH V.d3) ∧ Ext W5 w')
      ((refine ⟨?_, ?_, ?_, ?_⟩ <;> assumption))
      (first
        | (go_at_call 156; refine (K.out _ (HE0.out.trans (HE.out.trans (by assumption)))).mono ?_; rintro e w6 ⟨b', q', rfl, h1, h2, h3, x6, f6⟩; have f7 : Fresh W5 b' := Fresh.back f6 (by assumption); have y6 : Ext W5 w6 := Ext.trans (by assumption) x6; obtain ⟨a0, a1, a2⟩ := HY.out _ y6; have a2 := cell_of_heap (j := 12) a2 rfl))
    have gR := (HX.out _ (HE.out.trans y6)).2
    have y7 : Ext w w6 := HE0.out.trans (HE.out.trans y6)
    have gT := (HY.out _ y6).2.2
    clear q0 q1 q2 a0 a1 y0 x6 f6
    clear gT a2 y6
    go_wp2_with (first | (refine wpList_store_row rfl 29 (.tmp 10) (.tmp 40) rfl (w.heap.size + 1) _ rfl rfl 29 _ gR (by kernel_rfl) rfl (by simp [Value.oneCell']) ?_))
    refine bodyPost_ret (results_row_tmp rfl _ _ (w.heap.size + 1) 29 _ (0, 0) _ rfl (setRow_heap _ _ _ _ _ _ gR) Tryz.underlying29 rfl (by kernel_rfl)) rfl ⟨zeroV, by rfl, zero_at _, below_setRow y7 (Nat.le_succ _) _, From.zero _ _ _⟩
end Go.Proofs.YtlafnobjfajamaaGreat
namespace Go.Proofs.YtlafnobjfajamaaGreat
open Go.RowKit
set_option linter.unusedVariables false

theorem two_size (w : World) (a b : Array Value) (t u : TypeId) : w.heap.size + 2 ≤ ((w.alloc (.cells a t)).alloc (.cells b u)).heap.size := by simp
/-- What a callee told is laid into the result's box. -/
theorem box_told {w w2 w3 : World} {V U : FilV} {F G : Fil} (h : FilAt w V F) (y : Ext w w2) (hz : w.heap.size + 2 ≤ w2.heap.size) (x : Ext w2 w3) (k : FilAt w3 U G) (f : From w2 V F U G) :
    (∀ cs, FilAt (w3.setRow (w.heap.size + 1) cs) U G) ∧ (∀ cs, Ext w (w3.setRow (w.heap.size + 1) cs)) ∧ From w V F U G :=
  ⟨fun cs => k.keep (keepRow _ _ _) (f.off (h.off (Φ := fun i => i = w.heap.size + 1) (w := w) (fun i hi => by omega) (Nat.le_refl _)) (fun i hi => by omega)), fun cs => below_setRow (y.trans x) (Nat.le_succ _) _, (From.refl w V F).trans f y⟩
set_option maxRecDepth 100000 in
set_option maxHeartbeats 4000000 in
theorem fsetbits_c : FSetBitsC 137 := by
  intro V F x b m e v w h hv hme hem hm wx
  unfold FP
  obtain ⟨W2, hW2, e0, gA, gR, hz⟩ : ∃ W2, W2 = ((w.alloc (.cells (filC V F) 29)).alloc (.cells #[.int .i64 0, .int .i64 0, .int .i64 0, .int .i64 0, .int .i64 0, .int .i64 0, .int .i64 0, .int .i64 0, .int .i64 0, .int .i64 0, .slice none 0 0, .slice none 0 0, .slice none 0 0, .slice none 0 0] 29)) ∧ Ext w W2 ∧ W2.heap[w.heap.size]? = some (.cells (filC V F) 29 (0, 0)) ∧ W2.heap[w.heap.size + 1]? = some (.cells #[.int .i64 0, .int .i64 0, .int .i64 0, .int .i64 0, .int .i64 0, .int .i64 0, .int .i64 0, .int .i64 0, .int .i64 0, .int .i64 0, .slice none 0 0, .slice none 0 0, .slice none 0 0, .slice none 0 0] 29 (0, 0)) ∧ w.heap.size + 2 ≤ W2.heap.size :=
    ⟨_, rfl, (Ext.alloc w _).trans (Ext.alloc _ _), (two_boxes w _ _ _ _).1, (two_boxes w _ _ _ _).2, two_size _ _ _ _ _⟩
  have K : Hid (∀ w', Ext w w' → Calls Tryz.prog 153 #[.agg (filC V F), .func (Fn.func 56) #[] #[], .func (Fn.func 154) #[] #[], .int .i64 x, .slice b m e] w' (FP (sbE F x m) (sbF F x m v) V F w')) := Lib.hid fun w' hx => by
    cases hr : rightB F with
    | false => rw [sbF_no (sbE_wrong hr) (by decide), sbE_wrong hr]; exact fwritebool_no V F _ _ x b m e w' hr
    | true => unfold sbF; rw [sbE_right hr]; exact fwrite_coils V F x b m e v w' (h.ext hx) (hv.ext hx) hme hem hm wx hr
  unfold FP at K
  generalize sbE F x m = E at K ⊢
  generalize sbF F x m v = G at K ⊢
  have HH := Lib.hid h
  clear h hv hme hem hm wx
  go_enter Tryz.func137, Tryz.ntmps137
  go_upto_region 1 with fail
  rw [← hW2]
  clear hW2
  go_wp2_with (first | (refine wpList_load_row rfl 29 (.tmp 3) rfl (w.heap.size) rfl 29 _ (0, 0) _ gA Tryz.underlying29 rfl (by kernel_rfl) ?_))
  refine (K.out _ e0).mono ?_; rintro e w3 ⟨U, rfl, h3, x3, f3⟩
  have gR3 := x3.block gR
  have HT := Lib.hid (box_told HH.out e0 hz x3 h3 f3)
  clear gA gR x3 f3 h3 e0 hz
  go_wp2_with (first | (refine wpList_store_row rfl 29 (.tmp 6) (.tmp 12) rfl (w.heap.size + 1) _ rfl rfl 29 _ gR3 (by kernel_rfl) rfl (by simp [filC, Value.oneCell']) ?_))
  refine bodyPost_ret (results_row_tmp rfl _ _ (w.heap.size + 1) 29 _ (0, 0) _ rfl (setRow_heap _ _ _ _ _ _ gR3) Tryz.underlying29 rfl (by kernel_rfl)) rfl ⟨U, by rfl, HT.out.1 _, HT.out.2.1 _, HT.out.2.2⟩
set_option maxRecDepth 100000 in
set_option maxHeartbeats 8000000 in
theorem fsetwords_c : FSetWordsC 138 := by
  intro V F x b m e v w h hv hme hem hm wx
  have wm : (Lit.int .i64 (m : Int)).wf = true := by simp [Lit.wf, IntKind.min, IntKind.max, IntKind.signed, IntKind.bits]; omega
  unfold FP
  obtain ⟨W2, hW2, e0, gA, gR, hz⟩ : ∃ W2, W2 = ((w.alloc (.cells (filC V F) 29)).alloc (.cells #[.int .i64 0, .int .i64 0, .int .i64 0, .int .i64 0, .int .i64 0, .int .i64 0, .int .i64 0, .int .i64 0, .int .i64 0, .int .i64 0, .slice none 0 0, .slice none 0 0, .slice none 0 0, .slice none 0 0] 29)) ∧ Ext w W2 ∧ W2.heap[w.heap.size]? = some (.cells (filC V F) 29 (0, 0)) ∧ W2.heap[w.heap.size + 1]? = some (.cells #[.int .i64 0, .int .i64 0, .int .i64 0, .int .i64 0, .int .i64 0, .int .i64 0, .int .i64 0, .int .i64 0, .int .i64 0, .int .i64 0, .slice none 0 0, .slice none 0 0, .slice none 0 0, .slice none 0 0] 29 (0, 0)) ∧ w.heap.size + 2 ≤ W2.heap.size :=
    ⟨_, rfl, (Ext.alloc w _).trans (Ext.alloc _ _), (two_boxes w _ _ _ _).1, (two_boxes w _ _ _ _).2, two_size _ _ _ _ _⟩
  have HH := Lib.hid h
  have K : Hid (∀ w', Ext w w' → Calls Tryz.prog 155 #[.agg (filC V F), .func (Fn.func 58) #[] #[], .func (Fn.func 156) #[] #[], .int .i64 x, .slice b m e] w' (FP (if rightB F = true then rdE F.hf F.hc F.nH x m else 11) (if (if rightB F = true then rdE F.hf F.hc F.nH x m else 11) = 0 then { F with H := wrF F.H v F.hf x m } else zeroF) V F w')) := Lib.hid fun w' hx => by
    cases hr : rightB F with
    | false =>
      simp only [Bool.false_eq_true, if_false]
      rw [if_neg (by decide)]
      exact fwriteuint16_no V F _ _ x b m e w' hr
    | true =>
      simp only [if_true]
      exact fwrite_holding V F x b m e v w' (h.ext hx) (hv.ext hx) hme hem hm wx hr
  have hE : swE F x m = brkE F (if rightB F = true then rdE F.hf F.hc F.nH x m else 11) x m := by
    cases hr : rightB F with
    | false => rw [swE_wrong hr]; unfold brkE; simp
    | true => rw [swE_right hr]; simp
  generalize (if rightB F = true then rdE F.hf F.hc F.nH x m else 11) = E at K hE
  have hmI : (m : Int) ≤ 1000000 := by omega
  by_cases hE0 : E = 0
  · subst hE0
    rw [if_pos rfl] at K
    cases hmt : meetB F.bf F.bc x m with
    | false =>
      rw [brk_works hmt] at hE
      rw [swF_yes hE, hE]
      have HM := Lib.hid (fun w' => ffails_v hmt V w' wx wm)
      generalize ({ F with H := wrF F.H v F.hf x m } : Fil) = GG at K ⊢
      unfold FP at K
      clear h hv hme hem hm wx wm hE hmt
      go_enter Tryz.func138, Tryz.ntmps138
      go_upto_region 1 with fail
      rw [← hW2]
      clear hW2
      go_wp2_with (first | (refine wpList_load_row rfl 29 (.tmp 3) rfl (w.heap.size) rfl 29 _ (0, 0) _ gA Tryz.underlying29 rfl (by kernel_rfl) ?_))
      refine (K.out _ e0).mono ?_; rintro e w3 ⟨U, rfl, h3, x3, f3⟩
      have gR3 := x3.block gR
      have gA3 := x3.block gA
      have HT := Lib.hid (box_told HH.out e0 hz x3 h3 f3)
      have HFA := Lib.hid h3
      have HFO := Lib.hid (f3.off (HH.out.off (Φ := fun i => i = w.heap.size + 1) (w := w) (fun i hi => by omega) (Nat.le_refl _)) (fun i hi => by omega))
      have HX3 := Lib.hid (e0.trans x3)
      obtain ⟨W4, hW4, y4, b4⟩ : ∃ W, W = ((w3.alloc (.cells #[.int .i64 0, .int .i64 0, .int .i64 0, .int .i64 0, .int .i64 0, .int .i64 0, .int .i64 0, .int .i64 0, .int .i64 0, .int .i64 0, .slice none 0 0, .slice none 0 0, .slice none 0 0, .slice none 0 0] 29)).setRow w3.heap.size (filC U GG)) ∧ Ext w3 W ∧ W.heap[w3.heap.size]? = some (.cells (filC U GG) 29 (0, 0)) := ⟨_, rfl, boxed_row _ _ _ _⟩
      have gN := heap_alloc_new w3 (.cells #[.int .i64 0, .int .i64 0, .int .i64 0, .int .i64 0, .int .i64 0, .int .i64 0, .int .i64 0, .int .i64 0, .int .i64 0, .int .i64 0, .slice none 0 0, .slice none 0 0, .slice none 0 0, .slice none 0 0] 29)
      have gR4 := y4.block gR3
      have gA4 := y4.block gA3
      rw [hW4] at gA4
      clear gA gR x3 f3 h3 e0 hz gR3 gA3
      go_wp2_with (first
        | (refine wpList_store_row rfl 29 (.tmp 8) (.tmp 15) rfl (w3.heap.size) _ rfl rfl 29 _ gN (by kernel_rfl) rfl (by simp [filC, Value.oneCell']) ?_)
        | (refine wpList_load_row_g (by rfl) 29 (.tmp 3) rfl (w.heap.size) rfl 29 _ (0, 0) _ gA4 Tryz.underlying29 rfl (by kernel_rfl) ?_))
      rw [← hW4]
      refine (HM.out _).mono ?_; rintro e w6 ⟨rfl, x6⟩
      have gR4 := x6.block gR4
      have b4 := x6.block b4
      have HL := Lib.hid ((HFA.out.ext y4).ext x6)
      have HQ := Lib.hid ((HX3.out.trans y4).trans x6)
      clear hW4 y4 x6
      clear gN gA4
      go_wp2_with (first
        | (refine wpList_load_row rfl 29 (.tmp 8) rfl (w3.heap.size) rfl 29 _ (0, 0) _ b4 Tryz.underlying29 rfl (by kernel_rfl) ?_)
        | (refine wpList_store_row rfl 29 (.tmp 6) (.tmp 27) rfl (w.heap.size + 1) _ rfl rfl 29 _ gR4 (by kernel_rfl) rfl (by simp [filC, Value.oneCell']) ?_))
      refine bodyPost_ret (results_row_tmp rfl _ _ (w.heap.size + 1) 29 _ (0, 0) _ rfl (setRow_heap _ _ _ _ _ _ gR4) Tryz.underlying29 rfl (by kernel_rfl)) rfl ⟨U, by rfl, HL.out.keep (keepRow _ _ _) HFO.out, below_setRow HQ.out (Nat.le_succ _) _, HT.out.2.2⟩
    | true =>
      rw [brk_yes hmt] at hE
      rw [swF_no hE (by decide), hE]
      have HM := Lib.hid (fun w' => ffails_v hmt V w' wx wm)
      generalize ({ F with H := wrF F.H v F.hf x m } : Fil) = GG at K
      unfold FP at K
      clear h hv hme hem hm wx wm hE hmt
      go_enter Tryz.func138, Tryz.ntmps138
      go_upto_region 1 with fail
      rw [← hW2]
      clear hW2
      go_wp2_with (first | (refine wpList_load_row rfl 29 (.tmp 3) rfl (w.heap.size) rfl 29 _ (0, 0) _ gA Tryz.underlying29 rfl (by kernel_rfl) ?_))
      refine (K.out _ e0).mono ?_; rintro e w3 ⟨U, rfl, h3, x3, f3⟩
      have gR3 := x3.block gR
      have gA3 := x3.block gA
      have HT := Lib.hid (box_told HH.out e0 hz x3 h3 f3)
      have HFA := Lib.hid h3
      have HFO := Lib.hid (f3.off (HH.out.off (Φ := fun i => i = w.heap.size + 1) (w := w) (fun i hi => by omega) (Nat.le_refl _)) (fun i hi => by omega))
      have HX3 := Lib.hid (e0.trans x3)
      obtain ⟨W4, hW4, y4, b4⟩ : ∃ W, W = ((w3.alloc (.cells #[.int .i64 0, .int .i64 0, .int .i64 0, .int .i64 0, .int .i64 0, .int .i64 0, .int .i64 0, .int .i64 0, .int .i64 0, .int .i64 0, .slice none 0 0, .slice none 0 0, .slice none 0 0, .slice none 0 0] 29)).setRow w3.heap.size (filC U GG)) ∧ Ext w3 W ∧ W.heap[w3.heap.size]? = some (.cells (filC U GG) 29 (0, 0)) := ⟨_, rfl, boxed_row _ _ _ _⟩
      have gN := heap_alloc_new w3 (.cells #[.int .i64 0, .int .i64 0, .int .i64 0, .int .i64 0, .int .i64 0, .int .i64 0, .int .i64 0, .int .i64 0, .int .i64 0, .int .i64 0, .slice none 0 0, .slice none 0 0, .slice none 0 0, .slice none 0 0] 29)
      have gR4 := y4.block gR3
      have gA4 := y4.block gA3
      rw [hW4] at gA4
      clear gA gR x3 f3 h3 e0 hz gR3 gA3
      go_wp2_with (first
        | (refine wpList_store_row rfl 29 (.tmp 8) (.tmp 15) rfl (w3.heap.size) _ rfl rfl 29 _ gN (by kernel_rfl) rfl (by simp [filC, Value.oneCell']) ?_)
        | (refine wpList_load_row_g (by rfl) 29 (.tmp 3) rfl (w.heap.size) rfl 29 _ (0, 0) _ gA4 Tryz.underlying29 rfl (by kernel_rfl) ?_))
      rw [← hW4]
      refine (HM.out _).mono ?_; rintro e w6 ⟨rfl, x6⟩
      have gR4 := x6.block gR4
      have HQ := Lib.hid ((HX3.out.trans y4).trans x6)
      clear hW4 y4 x6 gN gA4 b4
      go_wp2_with (first | (refine wpList_store_row rfl 29 (.tmp 6) (.tmp 26) rfl (w.heap.size + 1) _ rfl rfl 29 _ gR4 (by kernel_rfl) rfl (by simp [Value.oneCell']) ?_))
      refine bodyPost_ret (results_row_tmp rfl _ _ (w.heap.size + 1) 29 _ (0, 0) _ rfl (setRow_heap _ _ _ _ _ _ gR4) Tryz.underlying29 rfl (by kernel_rfl)) rfl ⟨zeroV, by rfl, zero_at _, below_setRow HQ.out (Nat.le_succ _) _, From.zero _ _ _⟩
  · rw [if_neg hE0] at K
    rw [brk_no hE0] at hE
    rw [swF_no hE hE0, hE]
    obtain ⟨GG, hGG⟩ : ∃ GG, GG = zeroF := ⟨_, rfl⟩
    rw [← hGG] at K ⊢
    unfold FP at K
    clear h hv hme hem hm wx wm hE hGG
    go_enter Tryz.func138, Tryz.ntmps138
    go_upto_region 1 with fail
    rw [← hW2]
    clear hW2
    go_wp2_with (first | (refine wpList_load_row rfl 29 (.tmp 3) rfl (w.heap.size) rfl 29 _ (0, 0) _ gA Tryz.underlying29 rfl (by kernel_rfl) ?_))
    refine (K.out _ e0).mono ?_; rintro e w3 ⟨U, rfl, h3, x3, f3⟩
    have gR3 := x3.block gR
    have gA3 := x3.block gA
    have HT := Lib.hid (box_told HH.out e0 hz x3 h3 f3)
    have HFA := Lib.hid h3
    have HFO := Lib.hid (f3.off (HH.out.off (Φ := fun i => i = w.heap.size + 1) (w := w) (fun i hi => by omega) (Nat.le_refl _)) (fun i hi => by omega))
    have HX3 := Lib.hid (e0.trans x3)
    obtain ⟨W4, hW4, y4, b4⟩ : ∃ W, W = ((w3.alloc (.cells #[.int .i64 0, .int .i64 0, .int .i64 0, .int .i64 0, .int .i64 0, .int .i64 0, .int .i64 0, .int .i64 0, .int .i64 0, .int .i64 0, .slice none 0 0, .slice none 0 0, .slice none 0 0, .slice none 0 0] 29)).setRow w3.heap.size (filC U GG)) ∧ Ext w3 W ∧ W.heap[w3.heap.size]? = some (.cells (filC U GG) 29 (0, 0)) := ⟨_, rfl, boxed_row _ _ _ _⟩
    have gN := heap_alloc_new w3 (.cells #[.int .i64 0, .int .i64 0, .int .i64 0, .int .i64 0, .int .i64 0, .int .i64 0, .int .i64 0, .int .i64 0, .int .i64 0, .int .i64 0, .slice none 0 0, .slice none 0 0, .slice none 0 0, .slice none 0 0] 29)
    have gR4 := y4.block gR3
    have gA4 := y4.block gA3
    rw [hW4] at gA4
    clear gA gR x3 f3 h3 e0 hz gR3 gA3
    have gR5 := gR4
    have b5 := b4
    rw [hW4] at gR5 b5
    go_wp2_with (first
      | (refine wpList_store_row rfl 29 (.tmp 8) (.tmp 15) rfl (w3.heap.size) _ rfl rfl 29 _ gN (by kernel_rfl) rfl (by simp [filC, Value.oneCell']) ?_)
      | (refine wpList_load_row rfl 29 (.tmp 8) rfl (w3.heap.size) rfl 29 _ (0, 0) _ b5 Tryz.underlying29 rfl (by kernel_rfl) ?_)
      | (refine wpList_store_row rfl 29 (.tmp 6) (.tmp 27) rfl (w.heap.size + 1) _ rfl rfl 29 _ gR5 (by kernel_rfl) rfl (by simp [filC, Value.oneCell']) ?_))
    rw [← hW4]
    refine bodyPost_ret (results_row_tmp rfl _ _ (w.heap.size + 1) 29 _ (0, 0) _ rfl (setRow_heap _ _ _ _ _ _ gR4) Tryz.underlying29 rfl (by kernel_rfl)) rfl ⟨U, by rfl, (HFA.out.ext y4).keep (keepRow _ _ _) HFO.out, below_setRow (HX3.out.trans y4) (Nat.le_succ _) _, HT.out.2.2⟩
end Go.Proofs.YtlafnobjfajamaaGreat
