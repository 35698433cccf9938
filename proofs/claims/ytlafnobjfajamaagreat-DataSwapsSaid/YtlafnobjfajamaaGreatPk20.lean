/-
  CONTRACTS: package data (layer 17): the ten functions of a job, and which of them executes an ask.
  CONTRACTS: package data (layer 17): again, Writes, Do (the other packages' contracts as premises).
  CONTRACTS: bilgeref16 (layer 16): Parse.
  LAYER 16: package tell's contracts, as definitions over the function's number: what the laws take.
  CONTRACTS: package data (layer 17): Code, unheard, Serve (Do's contract and the other packages' as premises).
  CONTRACTS: package ask (layer 15): Right, with its loop over the fields.
  CONTRACTS: package ask (layer 15): number, list, fill, fillList.
  CONTRACTS: package ask (layer 15): fill, fillList.
  CONTRACTS: package ask (layer 15): Parse.
-/
import Derived.Test.YtlafnobjfajamaaGreatPk19
import Derived.Test.YtlafnobjfajamaaGreatPk17
import Derived.Test.YtlafnobjfajamaaGreatPk6
import Derived.Laws.CopyOwn
import Derived.Laws.Rows
import Derived.Deep.DeepCutAuto
import Derived.Test.YtlafnobjfajamaaGreatPk13
import Derived.Test.YtlafnobjfajamaaGreatPk18
import Derived.Test.YtlafnobjfajamaaGreatPk12
import Derived.StillTailTactics
namespace Go.Proofs.YtlafnobjfajamaaGreat
open Go.RowKit
set_option linter.unusedVariables false
set_option maxRecDepth 100000

theorem job_enters {P : Program} {f : FuncId} {fn : Func} {c : Code} (hf : P.funcs[f]? = some fn) (hname : (fn.name == "runtime.NumGoroutine") = false) (hb : fn.body = some c) (args : Array Value) (w : World) :
    (callFunc f args).run P w = .ok (.enter f args) w := by
  have h1 : fn.name ≠ "runtime.NumGoroutine" := by simpa using hname
  simp [callFunc, hf, h1, hb]
set_option maxHeartbeats 1000000 in
theorem jreadCoils_v (hB : FBitsC 135) {g : Nat} {U : QstV} {Q : Qst} {V : FilV} {F : Fil} {X : QstV} {T : Tel} (w : World) (h : JobAt w g U Q V F X T) (hW : QstW Q) (hk : Q.k = 1) : Calls Tryz.prog 65 #[.pointer (some ⟨g, 0, none⟩)] w (JobP g U Q (datE F Q) (datF F Q) (datT F Q) w) := by
  have HE := Lib.hid (dat_is1 (F := F) hk)
  have K := Lib.hid (jtellBits_v 109 (bitE F false Q.ad Q.ct) (bitN F false Q.ad Q.ct) (bitL F false Q.ad) w h (fun args w => job_enters Tryz.func109 (by kernel_rfl) rfl args w) (fun W x => jcoils_v hB Q.ad Q.ct W (h.ext x) hW.wad hW.wct))
  clear h hW hk
  go_enter Tryz.func65, Tryz.ntmps65
  go_wp2_with fail
  refine (K.out).mono ?_; rintro e w1 ⟨rfl, k1, X1, hJ⟩
  go_wp2
  go_ret
  obtain ⟨e1, e2, e3⟩ := HE.out
  exact ⟨by rw [e1] <;> rfl, k1, fun h0 => ⟨V, X1, by rw [e2, e3 h0]; exact hJ⟩⟩
set_option maxHeartbeats 1000000 in
theorem jreadInputs_v (hB : FBitsC 135) {g : Nat} {U : QstV} {Q : Qst} {V : FilV} {F : Fil} {X : QstV} {T : Tel} (w : World) (h : JobAt w g U Q V F X T) (hW : QstW Q) (hk : Q.k = 2) : Calls Tryz.prog 66 #[.pointer (some ⟨g, 0, none⟩)] w (JobP g U Q (datE F Q) (datF F Q) (datT F Q) w) := by
  have HE := Lib.hid (dat_is2 (F := F) hk)
  have K := Lib.hid (jtellBits_v 110 (bitE F true Q.ad Q.ct) (bitN F true Q.ad Q.ct) (bitL F true Q.ad) w h (fun args w => job_enters Tryz.func110 (by kernel_rfl) rfl args w) (fun W x => jinputs_v hB Q.ad Q.ct W (h.ext x) hW.wad hW.wct))
  clear h hW hk
  go_enter Tryz.func66, Tryz.ntmps66
  go_wp2_with fail
  refine (K.out).mono ?_; rintro e w1 ⟨rfl, k1, X1, hJ⟩
  go_wp2
  go_ret
  obtain ⟨e1, e2, e3⟩ := HE.out
  exact ⟨by rw [e1] <;> rfl, k1, fun h0 => ⟨V, X1, by rw [e2, e3 h0]; exact hJ⟩⟩
set_option maxHeartbeats 2000000 in
theorem jreadHolding_v (hB : FWordsC 136) {g : Nat} {U : QstV} {Q : Qst} {V : FilV} {F : Fil} {X : QstV} {T : Tel} (w : World) (h : JobAt w g U Q V F X T) (hW : QstW Q) (hk : Q.k = 3) : Calls Tryz.prog 67 #[.pointer (some ⟨g, 0, none⟩)] w (JobP g U Q (datE F Q) (datF F Q) (datT F Q) w) := by
  have HE := Lib.hid (dat_is3 (F := F) hk)
  have hd : Ext w w.drew := Ext.drew w
  have HC := Lib.hid (jtellRegs_v 112 Q.ad Q.ct (wrdE F false Q.ad Q.ct) (wrdN F false Q.ad Q.ct) (wrdL F false Q.ad) w.drew (h.ext hd) (fun args w => job_enters Tryz.func112 (by kernel_rfl) rfl args w) (jholding_v hB Q.ad Q.ct w.drew (h.ext hd) hW.wad hW.wct))
  have hs : InJob w g U Q w.drew := ⟨Keep.of_ext hd, _, _, _, _, h.ext hd⟩
  clear h hW hk
  generalize wrdE F false Q.ad Q.ct = E1 at HE HC
  go_enter Tryz.func67, Tryz.ntmps67
  go_wp2_with fail
  refine wp_region_held_drew (S := InJob w g U Q) (by kernel_rfl) hs (fun _ => ?_)
  refine wpAnyH_takeD (i := 0) (d := 3) (v := .pointer (some ⟨g, 0, none⟩)) rfl rfl (by kernel_rfl) (by kernel_rfl) (by kernel_rfl) (fun _ _ _ h => h) (Or.inl ⟨by rfl, fun W hW => by go_simp⟩) hs ?_
  simp only [Act.put, List.setIfInBounds_toArray, List.set_cons_succ, List.set_cons_zero]
  refine wpAnyH_takeD (i := 1) (d := 4) (v := .pointer (some ⟨g, 0, none⟩)) rfl rfl (by kernel_rfl) (by kernel_rfl) (by kernel_rfl) (fun _ _ _ h => h) (Or.inl ⟨by rfl, fun W hW => by go_simp⟩) hs ?_
  simp only [Act.put, List.setIfInBounds_toArray, List.set_cons_succ, List.set_cons_zero]
  refine wpAnyH_takeD (i := 2) (d := 5) (v := .func (Fn.func 112) #[.pointer (some ⟨g, 0, none⟩)] #[]) rfl rfl (by kernel_rfl) (by kernel_rfl) (by kernel_rfl) (fun _ _ _ h => h) (Or.inl ⟨by rfl, fun W hW => by go_simp⟩) hs ?_
  simp only [Act.put, List.setIfInBounds_toArray, List.set_cons_succ, List.set_cons_zero]
  refine wpAnyH_takeD (i := 3) (d := 6) (v := .pointer (some ⟨g, 0, none⟩)) rfl rfl (by kernel_rfl) (by kernel_rfl) (by kernel_rfl) (fun _ _ _ h => h) (Or.inl ⟨by rfl, fun W hW => by go_simp⟩) hs ?_
  simp only [Act.put, List.setIfInBounds_toArray, List.set_cons_succ, List.set_cons_zero]
  refine wpAnyH_takeD (i := 4) (d := 7) (v := .pointer (some ⟨g, 0, none⟩)) rfl rfl (by kernel_rfl) (by kernel_rfl) (by kernel_rfl) (fun _ _ _ h => h) (Or.inl ⟨by rfl, fun W hW => by go_simp⟩) hs ?_
  simp only [Act.put, List.setIfInBounds_toArray, List.set_cons_succ, List.set_cons_zero]
  refine wpAnyH_takeD (i := 5) (d := 8) (v := .pointer (some ⟨g, 0, none⟩)) rfl rfl (by kernel_rfl) (by kernel_rfl) (by kernel_rfl) (fun _ _ _ h => h) (Or.inl ⟨by rfl, fun W hW => by go_simp⟩) hs ?_
  simp only [Act.put, List.setIfInBounds_toArray, List.set_cons_succ, List.set_cons_zero]
  refine wpAnyH_takeD (i := 6) (d := 9) (v := .pointer (some ⟨g, 1, none⟩)) rfl rfl (by kernel_rfl) (by kernel_rfl) (by kernel_rfl) (fun _ _ _ h => h) (Or.inl ⟨by rfl, fun W hW => by go_simp⟩) hs ?_
  simp only [Act.put, List.setIfInBounds_toArray, List.set_cons_succ, List.set_cons_zero]
  refine wpAnyH_takeD (i := 7) (d := 10) (v := .int .i64 Q.ad) rfl rfl (by kernel_rfl) (by kernel_rfl) (by kernel_rfl) (fun _ _ _ h => h) (Or.inl ⟨by rfl, fun W hW => by obtain ⟨⟨k0, k1, k2, k3⟩, k4, k5, k6, k7⟩ := InJob.c hW; go_simp⟩) hs ?_
  simp only [Act.put, List.setIfInBounds_toArray, List.set_cons_succ, List.set_cons_zero]
  refine wpAnyH_takeD (i := 8) (d := 11) (v := .pointer (some ⟨g, 0, none⟩)) rfl rfl (by kernel_rfl) (by kernel_rfl) (by kernel_rfl) (fun _ _ _ h => h) (Or.inl ⟨by rfl, fun W hW => by go_simp⟩) hs ?_
  simp only [Act.put, List.setIfInBounds_toArray, List.set_cons_succ, List.set_cons_zero]
  refine wpAnyH_takeD (i := 9) (d := 12) (v := .pointer (some ⟨g, 0, none⟩)) rfl rfl (by kernel_rfl) (by kernel_rfl) (by kernel_rfl) (fun _ _ _ h => h) (Or.inl ⟨by rfl, fun W hW => by go_simp⟩) hs ?_
  simp only [Act.put, List.setIfInBounds_toArray, List.set_cons_succ, List.set_cons_zero]
  refine wpAnyH_takeD (i := 10) (d := 13) (v := .pointer (some ⟨g, 0, none⟩)) rfl rfl (by kernel_rfl) (by kernel_rfl) (by kernel_rfl) (fun _ _ _ h => h) (Or.inl ⟨by rfl, fun W hW => by go_simp⟩) hs ?_
  simp only [Act.put, List.setIfInBounds_toArray, List.set_cons_succ, List.set_cons_zero]
  refine wpAnyH_takeD (i := 11) (d := 14) (v := .pointer (some ⟨g, 2, none⟩)) rfl rfl (by kernel_rfl) (by kernel_rfl) (by kernel_rfl) (fun _ _ _ h => h) (Or.inl ⟨by rfl, fun W hW => by go_simp⟩) hs ?_
  simp only [Act.put, List.setIfInBounds_toArray, List.set_cons_succ, List.set_cons_zero]
  refine wpAnyH_takeD (i := 12) (d := 15) (v := .int .i64 Q.ct) rfl rfl (by kernel_rfl) (by kernel_rfl) (by kernel_rfl) (fun _ _ _ h => h) (Or.inl ⟨by rfl, fun W hW => by obtain ⟨⟨k0, k1, k2, k3⟩, k4, k5, k6, k7⟩ := InJob.c hW; go_simp⟩) hs ?_
  simp only [Act.put, List.setIfInBounds_toArray, List.set_cons_succ, List.set_cons_zero]
  refine wpAnyH_ready (rs := [13]) (by kernel_rfl) (by simp) (AllReadyH.cons rfl (fun K hK => ?_) AllReadyH.nil)
  go_simp
  refine (HC.out).mono ?_; rintro e w9 ⟨rfl, y9, X9, hJ9⟩
  go_wp2_with fail
  refine hK.out _ _ ⟨keep_same (Keep.of_ext hd) y9, _, _, _, _, hJ9⟩ (fun hs => ?_)
  clear hK K
  refine wpAnyH_takeD (i := 14) (d := 2) (v := .int .i64 E1) rfl rfl (by kernel_rfl) (by kernel_rfl) (by kernel_rfl) (fun _ _ _ h => h) (Or.inl ⟨by rfl, fun W hW => by go_simp⟩) hs ?_
  simp only [Act.put, List.setIfInBounds_toArray, List.set_cons_succ, List.set_cons_zero]
  refine wpAnyH_done (by kernel_rfl) ?_ _
  go_wp2_with fail
  go_ret
  obtain ⟨e1, e2, e3⟩ := HE.out
  exact ⟨by rw [e1] <;> rfl, keep_same (Keep.of_ext hd) y9, fun h0 => ⟨V, X9, by rw [e2, e3 h0]; exact hJ9⟩⟩
set_option maxHeartbeats 2000000 in
theorem jreadRegs_v (hB : FWordsC 136) {g : Nat} {U : QstV} {Q : Qst} {V : FilV} {F : Fil} {X : QstV} {T : Tel} (w : World) (h : JobAt w g U Q V F X T) (hW : QstW Q) (hk : Q.k = 4) : Calls Tryz.prog 68 #[.pointer (some ⟨g, 0, none⟩)] w (JobP g U Q (datE F Q) (datF F Q) (datT F Q) w) := by
  have HE := Lib.hid (dat_is4 (F := F) hk)
  have hd : Ext w w.drew := Ext.drew w
  have HC := Lib.hid (jtellRegs_v 113 Q.ad Q.ct (wrdE F true Q.ad Q.ct) (wrdN F true Q.ad Q.ct) (wrdL F true Q.ad) w.drew (h.ext hd) (fun args w => job_enters Tryz.func113 (by kernel_rfl) rfl args w) (jregs_v hB Q.ad Q.ct w.drew (h.ext hd) hW.wad hW.wct))
  have hs : InJob w g U Q w.drew := ⟨Keep.of_ext hd, _, _, _, _, h.ext hd⟩
  clear h hW hk
  generalize wrdE F true Q.ad Q.ct = E1 at HE HC
  go_enter Tryz.func68, Tryz.ntmps68
  go_wp2_with fail
  refine wp_region_held_drew (S := InJob w g U Q) (by kernel_rfl) hs (fun _ => ?_)
  refine wpAnyH_takeD (i := 0) (d := 3) (v := .pointer (some ⟨g, 0, none⟩)) rfl rfl (by kernel_rfl) (by kernel_rfl) (by kernel_rfl) (fun _ _ _ h => h) (Or.inl ⟨by rfl, fun W hW => by go_simp⟩) hs ?_
  simp only [Act.put, List.setIfInBounds_toArray, List.set_cons_succ, List.set_cons_zero]
  refine wpAnyH_takeD (i := 1) (d := 4) (v := .pointer (some ⟨g, 0, none⟩)) rfl rfl (by kernel_rfl) (by kernel_rfl) (by kernel_rfl) (fun _ _ _ h => h) (Or.inl ⟨by rfl, fun W hW => by go_simp⟩) hs ?_
  simp only [Act.put, List.setIfInBounds_toArray, List.set_cons_succ, List.set_cons_zero]
  refine wpAnyH_takeD (i := 2) (d := 5) (v := .func (Fn.func 113) #[.pointer (some ⟨g, 0, none⟩)] #[]) rfl rfl (by kernel_rfl) (by kernel_rfl) (by kernel_rfl) (fun _ _ _ h => h) (Or.inl ⟨by rfl, fun W hW => by go_simp⟩) hs ?_
  simp only [Act.put, List.setIfInBounds_toArray, List.set_cons_succ, List.set_cons_zero]
  refine wpAnyH_takeD (i := 3) (d := 6) (v := .pointer (some ⟨g, 0, none⟩)) rfl rfl (by kernel_rfl) (by kernel_rfl) (by kernel_rfl) (fun _ _ _ h => h) (Or.inl ⟨by rfl, fun W hW => by go_simp⟩) hs ?_
  simp only [Act.put, List.setIfInBounds_toArray, List.set_cons_succ, List.set_cons_zero]
  refine wpAnyH_takeD (i := 4) (d := 7) (v := .pointer (some ⟨g, 0, none⟩)) rfl rfl (by kernel_rfl) (by kernel_rfl) (by kernel_rfl) (fun _ _ _ h => h) (Or.inl ⟨by rfl, fun W hW => by go_simp⟩) hs ?_
  simp only [Act.put, List.setIfInBounds_toArray, List.set_cons_succ, List.set_cons_zero]
  refine wpAnyH_takeD (i := 5) (d := 8) (v := .pointer (some ⟨g, 0, none⟩)) rfl rfl (by kernel_rfl) (by kernel_rfl) (by kernel_rfl) (fun _ _ _ h => h) (Or.inl ⟨by rfl, fun W hW => by go_simp⟩) hs ?_
  simp only [Act.put, List.setIfInBounds_toArray, List.set_cons_succ, List.set_cons_zero]
  refine wpAnyH_takeD (i := 6) (d := 9) (v := .pointer (some ⟨g, 1, none⟩)) rfl rfl (by kernel_rfl) (by kernel_rfl) (by kernel_rfl) (fun _ _ _ h => h) (Or.inl ⟨by rfl, fun W hW => by go_simp⟩) hs ?_
  simp only [Act.put, List.setIfInBounds_toArray, List.set_cons_succ, List.set_cons_zero]
  refine wpAnyH_takeD (i := 7) (d := 10) (v := .int .i64 Q.ad) rfl rfl (by kernel_rfl) (by kernel_rfl) (by kernel_rfl) (fun _ _ _ h => h) (Or.inl ⟨by rfl, fun W hW => by obtain ⟨⟨k0, k1, k2, k3⟩, k4, k5, k6, k7⟩ := InJob.c hW; go_simp⟩) hs ?_
  simp only [Act.put, List.setIfInBounds_toArray, List.set_cons_succ, List.set_cons_zero]
  refine wpAnyH_takeD (i := 8) (d := 11) (v := .pointer (some ⟨g, 0, none⟩)) rfl rfl (by kernel_rfl) (by kernel_rfl) (by kernel_rfl) (fun _ _ _ h => h) (Or.inl ⟨by rfl, fun W hW => by go_simp⟩) hs ?_
  simp only [Act.put, List.setIfInBounds_toArray, List.set_cons_succ, List.set_cons_zero]
  refine wpAnyH_takeD (i := 9) (d := 12) (v := .pointer (some ⟨g, 0, none⟩)) rfl rfl (by kernel_rfl) (by kernel_rfl) (by kernel_rfl) (fun _ _ _ h => h) (Or.inl ⟨by rfl, fun W hW => by go_simp⟩) hs ?_
  simp only [Act.put, List.setIfInBounds_toArray, List.set_cons_succ, List.set_cons_zero]
  refine wpAnyH_takeD (i := 10) (d := 13) (v := .pointer (some ⟨g, 0, none⟩)) rfl rfl (by kernel_rfl) (by kernel_rfl) (by kernel_rfl) (fun _ _ _ h => h) (Or.inl ⟨by rfl, fun W hW => by go_simp⟩) hs ?_
  simp only [Act.put, List.setIfInBounds_toArray, List.set_cons_succ, List.set_cons_zero]
  refine wpAnyH_takeD (i := 11) (d := 14) (v := .pointer (some ⟨g, 2, none⟩)) rfl rfl (by kernel_rfl) (by kernel_rfl) (by kernel_rfl) (fun _ _ _ h => h) (Or.inl ⟨by rfl, fun W hW => by go_simp⟩) hs ?_
  simp only [Act.put, List.setIfInBounds_toArray, List.set_cons_succ, List.set_cons_zero]
  refine wpAnyH_takeD (i := 12) (d := 15) (v := .int .i64 Q.ct) rfl rfl (by kernel_rfl) (by kernel_rfl) (by kernel_rfl) (fun _ _ _ h => h) (Or.inl ⟨by rfl, fun W hW => by obtain ⟨⟨k0, k1, k2, k3⟩, k4, k5, k6, k7⟩ := InJob.c hW; go_simp⟩) hs ?_
  simp only [Act.put, List.setIfInBounds_toArray, List.set_cons_succ, List.set_cons_zero]
  refine wpAnyH_ready (rs := [13]) (by kernel_rfl) (by simp) (AllReadyH.cons rfl (fun K hK => ?_) AllReadyH.nil)
  go_simp
  refine (HC.out).mono ?_; rintro e w9 ⟨rfl, y9, X9, hJ9⟩
  go_wp2_with fail
  refine hK.out _ _ ⟨keep_same (Keep.of_ext hd) y9, _, _, _, _, hJ9⟩ (fun hs => ?_)
  clear hK K
  refine wpAnyH_takeD (i := 14) (d := 2) (v := .int .i64 E1) rfl rfl (by kernel_rfl) (by kernel_rfl) (by kernel_rfl) (fun _ _ _ h => h) (Or.inl ⟨by rfl, fun W hW => by go_simp⟩) hs ?_
  simp only [Act.put, List.setIfInBounds_toArray, List.set_cons_succ, List.set_cons_zero]
  refine wpAnyH_done (by kernel_rfl) ?_ _
  go_wp2_with fail
  go_ret
  obtain ⟨e1, e2, e3⟩ := HE.out
  exact ⟨by rw [e1] <;> rfl, keep_same (Keep.of_ext hd) y9, fun h0 => ⟨V, X9, by rw [e2, e3 h0]; exact hJ9⟩⟩
set_option maxHeartbeats 1000000 in
theorem jsetBit_v (hB : FSetBitsC 137) {g : Nat} {U : QstV} {Q : Qst} {V : FilV} {F : Fil} {X : QstV} {T : Tel} (w : World) (h : JobAt w g U Q V F X T) (hT : T = agT Q) (hq : rightQ Q = true) (hW : QstW Q) (hk : Q.k = 5) : Calls Tryz.prog 69 #[.pointer (some ⟨g, 0, none⟩)] w (JobP g U Q (datE F Q) (datF F Q) (datT F Q) w) := by
  have HE := Lib.hid (dat_is5 (F := F) hq hk)
  have HT := Lib.hid hT
  obtain ⟨B, hB'⟩ : ∃ B, decide (Q.va = 65280) = B := ⟨_, rfl⟩
  have hb : (Q.va == 65280) = B := hB'
  rw [hB'] at HE
  clear hB'
  have K := Lib.hid (jputBits_v hB (some ⟨w.heap.size, 0, none⟩) 1 1 (fun _ => B) (w.alloc (.cells #[Value.bool B] 4)) (h.ext (Ext.alloc _ _)) hW.wad (one_cell (mk := Value.bool) w B 4) (Nat.le_refl _) (by unfold maxLen; omega) (by omega))
  have c3 := h.c.1.2.2.2
  clear h hT hq hW hk
  go_enter Tryz.func69, Tryz.ntmps69
  go_wp2_with fail
  refine (K.out).mono ?_; rintro e w1 ⟨rfl, k1, V1, hJ⟩
  have kk := keep_same (Keep.of_ext (Ext.alloc w (.cells #[Value.bool B] 4))) k1
  clear c3 k1 hb
  go_wp2
  go_ret
  obtain ⟨e1, e2⟩ := HE.out
  exact ⟨by rw [e1] <;> rfl, kk, fun h0 => ⟨V1, X, by rw [(e2 h0).1, (e2 h0).2, ← HT.out]; exact hJ⟩⟩
set_option maxHeartbeats 1000000 in
theorem jsetReg_v (hB : FSetWordsC 138) {g : Nat} {U : QstV} {Q : Qst} {V : FilV} {F : Fil} {X : QstV} {T : Tel} (w : World) (h : JobAt w g U Q V F X T) (hT : T = agT Q) (hq : rightQ Q = true) (hW : QstW Q) (hk : Q.k = 6) : Calls Tryz.prog 70 #[.pointer (some ⟨g, 0, none⟩)] w (JobP g U Q (datE F Q) (datF F Q) (datT F Q) w) := by
  have HE := Lib.hid (dat_is6 (F := F) hq hk)
  have HT := Lib.hid hT
  have hv := (ask_facts hq).v6 hk
  have hb : IntKind.u16.wrap Q.va = Q.va := by rw [IntKind.wrap_u16]; omega
  clear hv
  have K := Lib.hid (jputRegs_v hB (some ⟨w.heap.size, 0, none⟩) 1 1 (fun _ => Q.va) (w.alloc (.cells #[Value.int .u16 Q.va] 59)) (h.ext (Ext.alloc _ _)) hW.wad (one_cell (mk := Value.int .u16) w Q.va 59) (Nat.le_refl _) (by unfold maxLen; omega) (by omega))
  have c3 := h.c.1.2.2.2
  clear h hT hq hW hk
  go_enter Tryz.func70, Tryz.ntmps70
  go_wp2_with fail
  refine (K.out).mono ?_; rintro e w1 ⟨rfl, k1, V1, hJ⟩
  have kk := keep_same (Keep.of_ext (Ext.alloc w (.cells #[Value.int .u16 Q.va] 59))) k1
  clear c3 k1 hb
  go_wp2
  go_ret
  obtain ⟨e1, e2⟩ := HE.out
  exact ⟨by rw [e1] <;> rfl, kk, fun h0 => ⟨V1, X, by rw [(e2 h0).1, (e2 h0).2, ← HT.out]; exact hJ⟩⟩
set_option maxHeartbeats 1000000 in
theorem jsetBits_w (hB : FSetBitsC 137) {g : Nat} {U : QstV} {Q : Qst} {V : FilV} {F : Fil} {X : QstV} {T : Tel} (w : World) (h : JobAt w g U Q V F X T) (hW : QstW Q) (hn : Q.nb ≤ 1000000) : Calls Tryz.prog 71 #[.pointer (some ⟨g, 0, none⟩)] w fun e w' => e = .returned (.int .i64 (sbE F Q.ad Q.nb)) ∧ Keep (fun i => i = g) w w' ∧ ∃ V', JobAt w' g U Q V' (sbF F Q.ad Q.nb Q.B) X T := by
  have K := Lib.hid (jputBits_v hB U.a1 Q.nb U.d1 Q.B w h hW.wad h.q.h1 h.q.l1 h.q.m1 hn)
  have c8 := h.c8.1
  clear h hW hn
  go_enter Tryz.func71, Tryz.ntmps71
  go_wp2_with fail
  refine (K.out).mono ?_; rintro e w1 ⟨rfl, kk, V1, hJ⟩
  clear c8
  go_wp2
  go_ret
  exact ⟨rfl, kk, V1, hJ⟩
set_option maxHeartbeats 1000000 in
theorem jsetRegs_w (hB : FSetWordsC 138) {g : Nat} {U : QstV} {Q : Qst} {V : FilV} {F : Fil} {X : QstV} {T : Tel} (w : World) (h : JobAt w g U Q V F X T) (hW : QstW Q) (hn : Q.nr ≤ 1000000) : Calls Tryz.prog 72 #[.pointer (some ⟨g, 0, none⟩)] w fun e w' => e = .returned (.int .i64 (swE F Q.ad Q.nr)) ∧ Keep (fun i => i = g) w w' ∧ ∃ V', JobAt w' g U Q V' (swF F Q.ad Q.nr Q.R) X T := by
  have K := Lib.hid (jputRegs_v hB U.a2 Q.nr U.d2 Q.R w h hW.wad h.q.h2 h.q.l2 h.q.m2 hn)
  have c8 := h.c8.2
  clear h hW hn
  go_enter Tryz.func72, Tryz.ntmps72
  go_wp2_with fail
  refine (K.out).mono ?_; rintro e w1 ⟨rfl, kk, V1, hJ⟩
  clear c8
  go_wp2
  go_ret
  exact ⟨rfl, kk, V1, hJ⟩
theorem jsetBits_v (hB : FSetBitsC 137) {g : Nat} {U : QstV} {Q : Qst} {V : FilV} {F : Fil} {X : QstV} {T : Tel} (w : World) (h : JobAt w g U Q V F X T) (hT : T = agT Q) (hq : rightQ Q = true) (hW : QstW Q) (hk : Q.k = 15) : Calls Tryz.prog 71 #[.pointer (some ⟨g, 0, none⟩)] w (JobP g U Q (datE F Q) (datF F Q) (datT F Q) w) :=
  (jsetBits_w hB w h hW (by have := (ask_facts hq).bt hk; omega)).mono fun e w' hh => by
    obtain ⟨rfl, kk, V1, hJ⟩ := hh
    obtain ⟨e1, e2⟩ := dat_is15 (F := F) hq hk
    exact ⟨by rw [e1] <;> rfl, kk, fun h0 => ⟨V1, X, by rw [(e2 h0).1, (e2 h0).2, ← hT]; exact hJ⟩⟩
theorem jsetRegs_v (hB : FSetWordsC 138) {g : Nat} {U : QstV} {Q : Qst} {V : FilV} {F : Fil} {X : QstV} {T : Tel} (w : World) (h : JobAt w g U Q V F X T) (hT : T = agT Q) (hq : rightQ Q = true) (hW : QstW Q) (hk : Q.k = 16) : Calls Tryz.prog 72 #[.pointer (some ⟨g, 0, none⟩)] w (JobP g U Q (datE F Q) (datF F Q) (datT F Q) w) :=
  (jsetRegs_w hB w h hW (by have := (ask_facts hq).wd (.inl hk); omega)).mono fun e w' hh => by
    obtain ⟨rfl, kk, V1, hJ⟩ := hh
    obtain ⟨e1, e2⟩ := dat_is16 (F := F) hq hk
    exact ⟨by rw [e1] <;> rfl, kk, fun h0 => ⟨V1, X, by rw [(e2 h0).1, (e2 h0).2, ← hT]; exact hJ⟩⟩
theorem jmask_q (hM : ∀ (x a o : BitVec 16) (w : World), Calls Tryz.prog 116 #[.int .u16 (vM x), .int .u16 (vM a), .int .u16 (vM o)] w fun e w' => e = .returned (.int .u16 (vM (mskV x a o))) ∧ w = w') (x a o : Int) (w : World) (hx : 0 ≤ x ∧ x < 65536) (ha : 0 ≤ a ∧ a < 65536) (ho : 0 ≤ o ∧ o < 65536) :
    Calls Tryz.prog 116 #[.int .u16 x, .int .u16 a, .int .u16 o] w fun e w' => e = .returned (.int .u16 (mskQ x a o)) ∧ w = w' := by
  have hv : ∀ y : Int, 0 ≤ y ∧ y < 65536 → vM (BitVec.ofInt 16 y) = y := fun y hy => by unfold vM; rw [BitVec.toNat_ofInt]; omega
  have h := hM (BitVec.ofInt 16 x) (BitVec.ofInt 16 a) (BitVec.ofInt 16 o) w
  rw [hv x hx, hv a ha, hv o ho] at h
  exact h
set_option maxHeartbeats 4000000 in
theorem jmask_v (hR : FWordsC 136) (hB : FSetWordsC 138) (hM : ∀ (x a o : BitVec 16) (w : World), Calls Tryz.prog 116 #[.int .u16 (vM x), .int .u16 (vM a), .int .u16 (vM o)] w fun e w' => e = .returned (.int .u16 (vM (mskV x a o))) ∧ w = w')
    {g : Nat} {U : QstV} {Q : Qst} {V : FilV} {F : Fil} {X : QstV} {T : Tel} (w : World) (h : JobAt w g U Q V F X T) (hT : T = agT Q) (hq : rightQ Q = true) (hFW : FilW F) (hW : QstW Q) (hk : Q.k = 22) : Calls Tryz.prog 73 #[.pointer (some ⟨g, 0, none⟩)] w (JobP g U Q (datE F Q) (datF F Q) (datT F Q) w) := by
  have HE := Lib.hid (dat_is22 (F := F) hq hk)
  have HT := Lib.hid hT
  have hms := (ask_facts hq).ms hk
  have KR := Lib.hid (jholding_v hR Q.ad 1 w h hW.wad (by decide))
  have c1 := h.c.1.2.1
  have hwad := hW.wad
  have hg := h.lt
  by_cases h0 : swE F Q.ad 1 = 0
  · have hN : wrdN F false Q.ad 1 = 1 := by unfold wrdN; rw [if_pos (sw_wrd (F := F) Q.ad 1 ▸ h0)]; rfl
    have hbx := wrd_bd hFW false Q.ad 1 (by omega) 0 (by omega)
    have h00 : wrdE F false Q.ad 1 = 0 := h0
    rw [hN, h00] at KR
    have KM := Lib.hid (fun W => jmask_q hM (wrdL F false Q.ad 0) Q.an Q.oo W hbx ⟨hms.1, by omega⟩ ⟨hms.2.2.1, by omega⟩)
    have hw1 : IntKind.u16.wrap Q.an = Q.an := by rw [IntKind.wrap_u16]; omega
    have hw2 : IntKind.u16.wrap Q.oo = Q.oo := by rw [IntKind.wrap_u16]; omega
    obtain ⟨M, hMM⟩ : ∃ M, mskQ (wrdL F false Q.ad 0) Q.an Q.oo = M := ⟨_, rfl⟩
    rw [hMM] at KM HE
    have HJ := Lib.hid h
    clear hT hq hW hk hms hFW hN h00 hbx hMM h
    go_enter Tryz.func73, Tryz.ntmps73
    go_wp2_with fail
    refine (KR.out).mono ?_; rintro e w1 ⟨b1, q, rfl, n1, n2, hb, x1, hf⟩
    obtain ⟨bb, off, rfl, hlt, hc⟩ := hb.resolve_left (by decide)
    have hc0 := hc 0 (by decide)
    rw [Nat.add_zero] at hc0
    have hne : bb ≠ g := by have := hf _ rfl; have : w.heap.size ≤ bb := this; omega
    have HCW := Lib.hid (fun W (hW : InJob w1 g U Q W) => hW.k.cell (fun e => hne e) hc0)
    have hJ := HJ.out.ext x1
    have hd : Ext w1 w1.drew := Ext.drew w1
    have KS := Lib.hid (jputRegs_v hB (some ⟨w1.drew.heap.size, 0, none⟩) 1 1 (fun _ => M) (w1.drew.alloc (.cells #[Value.int .u16 M] 59)) (hJ.ext (hd.trans (Ext.alloc _ _))) hwad (one_cell (mk := Value.int .u16) w1.drew M 59) (Nat.le_refl _) (by unfold maxLen; omega) (by omega))
    have hs : InJob w1 g U Q w1.drew := ⟨Keep.of_ext hd, _, _, _, _, hJ.ext hd⟩
    clear hc hc0 hlt hb hne hf n1 n2 c1
    go_upto_region 4 with fail
    refine wp_region_held_drew (S := InJob w1 g U Q) (by kernel_rfl) hs (fun _ => ?_)
    refine wpAnyH_takeD (i := 0) (d := 18) (v := .pointer (some ⟨g, 0, none⟩)) rfl rfl (by kernel_rfl) (by kernel_rfl) (by kernel_rfl) (fun _ _ _ h => h) (Or.inl ⟨by rfl, fun W hW => by go_simp⟩) hs ?_
    simp only [Act.put, List.setIfInBounds_toArray, List.set_cons_succ, List.set_cons_zero]
    refine wpAnyH_takeD (i := 1) (d := 19) (v := .slice (some ⟨bb, off, none⟩) 1 q) rfl rfl (by kernel_rfl) (by kernel_rfl) (by kernel_rfl) (fun _ _ _ h => h) (Or.inl ⟨by rfl, fun W hW => by go_simp⟩) hs ?_
    simp only [Act.put, List.setIfInBounds_toArray, List.set_cons_succ, List.set_cons_zero]
    refine wpAnyH_takeD (i := 2) (d := 20) (v := .pointer (some ⟨bb, off, none⟩)) rfl rfl (by kernel_rfl) (by kernel_rfl) (by kernel_rfl) (fun _ _ _ h => h) (Or.inl ⟨by rfl, fun W hW => by obtain ⟨⟨k0, k1, k2, k3⟩, k4, k5, k6, k7⟩ := InJob.c hW; have kw := HCW.out W hW; go_simp⟩) hs ?_
    simp only [Act.put, List.setIfInBounds_toArray, List.set_cons_succ, List.set_cons_zero]
    refine wpAnyH_takeD (i := 3) (d := 21) (v := .int .u16 (wrdL F false Q.ad 0)) rfl rfl (by kernel_rfl) (by kernel_rfl) (by kernel_rfl) (fun _ _ _ h => h) (Or.inl ⟨by rfl, fun W hW => by obtain ⟨⟨k0, k1, k2, k3⟩, k4, k5, k6, k7⟩ := InJob.c hW; have kw := HCW.out W hW; go_simp⟩) hs ?_
    simp only [Act.put, List.setIfInBounds_toArray, List.set_cons_succ, List.set_cons_zero]
    refine wpAnyH_takeD (i := 4) (d := 22) (v := .pointer (some ⟨g, 0, none⟩)) rfl rfl (by kernel_rfl) (by kernel_rfl) (by kernel_rfl) (fun _ _ _ h => h) (Or.inl ⟨by rfl, fun W hW => by go_simp⟩) hs ?_
    simp only [Act.put, List.setIfInBounds_toArray, List.set_cons_succ, List.set_cons_zero]
    refine wpAnyH_takeD (i := 5) (d := 23) (v := .pointer (some ⟨g, 0, none⟩)) rfl rfl (by kernel_rfl) (by kernel_rfl) (by kernel_rfl) (fun _ _ _ h => h) (Or.inl ⟨by rfl, fun W hW => by go_simp⟩) hs ?_
    simp only [Act.put, List.setIfInBounds_toArray, List.set_cons_succ, List.set_cons_zero]
    refine wpAnyH_takeD (i := 6) (d := 24) (v := .pointer (some ⟨g, 0, none⟩)) rfl rfl (by kernel_rfl) (by kernel_rfl) (by kernel_rfl) (fun _ _ _ h => h) (Or.inl ⟨by rfl, fun W hW => by go_simp⟩) hs ?_
    simp only [Act.put, List.setIfInBounds_toArray, List.set_cons_succ, List.set_cons_zero]
    refine wpAnyH_takeD (i := 7) (d := 25) (v := .pointer (some ⟨g, 4, none⟩)) rfl rfl (by kernel_rfl) (by kernel_rfl) (by kernel_rfl) (fun _ _ _ h => h) (Or.inl ⟨by rfl, fun W hW => by go_simp⟩) hs ?_
    simp only [Act.put, List.setIfInBounds_toArray, List.set_cons_succ, List.set_cons_zero]
    refine wpAnyH_takeD (i := 8) (d := 26) (v := .int .i64 Q.an) rfl rfl (by kernel_rfl) (by kernel_rfl) (by kernel_rfl) (fun _ _ _ h => h) (Or.inl ⟨by rfl, fun W hW => by obtain ⟨⟨k0, k1, k2, k3⟩, k4, k5, k6, k7⟩ := InJob.c hW; have kw := HCW.out W hW; go_simp⟩) hs ?_
    simp only [Act.put, List.setIfInBounds_toArray, List.set_cons_succ, List.set_cons_zero]
    refine wpAnyH_takeD (i := 9) (d := 27) (v := .int .u16 Q.an) rfl rfl (by kernel_rfl) (by kernel_rfl) (by kernel_rfl) (fun _ _ _ h => h) (Or.inl ⟨by rfl, fun W hW => by go_simp⟩) hs ?_
    simp only [Act.put, List.setIfInBounds_toArray, List.set_cons_succ, List.set_cons_zero]
    refine wpAnyH_takeD (i := 10) (d := 28) (v := .pointer (some ⟨g, 0, none⟩)) rfl rfl (by kernel_rfl) (by kernel_rfl) (by kernel_rfl) (fun _ _ _ h => h) (Or.inl ⟨by rfl, fun W hW => by go_simp⟩) hs ?_
    simp only [Act.put, List.setIfInBounds_toArray, List.set_cons_succ, List.set_cons_zero]
    refine wpAnyH_takeD (i := 11) (d := 29) (v := .pointer (some ⟨g, 0, none⟩)) rfl rfl (by kernel_rfl) (by kernel_rfl) (by kernel_rfl) (fun _ _ _ h => h) (Or.inl ⟨by rfl, fun W hW => by go_simp⟩) hs ?_
    simp only [Act.put, List.setIfInBounds_toArray, List.set_cons_succ, List.set_cons_zero]
    refine wpAnyH_takeD (i := 12) (d := 30) (v := .pointer (some ⟨g, 0, none⟩)) rfl rfl (by kernel_rfl) (by kernel_rfl) (by kernel_rfl) (fun _ _ _ h => h) (Or.inl ⟨by rfl, fun W hW => by go_simp⟩) hs ?_
    simp only [Act.put, List.setIfInBounds_toArray, List.set_cons_succ, List.set_cons_zero]
    refine wpAnyH_takeD (i := 13) (d := 31) (v := .pointer (some ⟨g, 5, none⟩)) rfl rfl (by kernel_rfl) (by kernel_rfl) (by kernel_rfl) (fun _ _ _ h => h) (Or.inl ⟨by rfl, fun W hW => by go_simp⟩) hs ?_
    simp only [Act.put, List.setIfInBounds_toArray, List.set_cons_succ, List.set_cons_zero]
    refine wpAnyH_takeD (i := 14) (d := 32) (v := .int .i64 Q.oo) rfl rfl (by kernel_rfl) (by kernel_rfl) (by kernel_rfl) (fun _ _ _ h => h) (Or.inl ⟨by rfl, fun W hW => by obtain ⟨⟨k0, k1, k2, k3⟩, k4, k5, k6, k7⟩ := InJob.c hW; have kw := HCW.out W hW; go_simp⟩) hs ?_
    simp only [Act.put, List.setIfInBounds_toArray, List.set_cons_succ, List.set_cons_zero]
    refine wpAnyH_takeD (i := 15) (d := 33) (v := .int .u16 Q.oo) rfl rfl (by kernel_rfl) (by kernel_rfl) (by kernel_rfl) (fun _ _ _ h => h) (Or.inl ⟨by rfl, fun W hW => by go_simp⟩) hs ?_
    simp only [Act.put, List.setIfInBounds_toArray, List.set_cons_succ, List.set_cons_zero]
    refine wpAnyH_ready (rs := [16]) (by kernel_rfl) (by simp) (AllReadyH.cons rfl (fun K hK => ?_) AllReadyH.nil)
    go_simp
    refine (KM.out _).mono ?_; rintro e Wm ⟨rfl, rfl⟩
    go_wp2_with fail
    refine hK.out _ _ hs (fun hs => ?_)
    clear hK K
    refine wpAnyH_ready (rs := [17]) (by kernel_rfl) (by simp) (AllReadyH.cons rfl (fun K hK => ?_) AllReadyH.nil)
    go_simp
    refine hK.out _ _ ⟨Keep.of_ext (hd.trans (Ext.alloc _ _)), _, _, _, _, hJ.ext (hd.trans (Ext.alloc _ _))⟩ (fun hs => ?_)
    clear hK K
    refine wpAnyH_ready (rs := [18]) (by kernel_rfl) (by simp) (AllReadyH.cons rfl (fun K hK => ?_) AllReadyH.nil)
    go_simp
    refine (KS.out).mono ?_; rintro e w9 ⟨rfl, y9, V9, hJ9⟩
    go_wp2_with fail
    have k9 := keep_same (Keep.of_ext (hd.trans (Ext.alloc _ _))) y9
    refine hK.out _ _ ⟨k9, _, _, _, _, hJ9⟩ (fun hs => ?_)
    clear hK K
    refine wpAnyH_takeD (i := 19) (d := 2) (v := .int .i64 (swE F Q.ad 1)) rfl rfl (by kernel_rfl) (by kernel_rfl) (by kernel_rfl) (fun _ _ _ h => h) (Or.inl ⟨by rfl, fun W hW => by go_simp⟩) hs ?_
    simp only [Act.put, List.setIfInBounds_toArray, List.set_cons_succ, List.set_cons_zero]
    refine wpAnyH_done (by kernel_rfl) ?_ _
    go_wp2_with fail
    go_ret
    obtain ⟨e1, e2⟩ := HE.out
    exact ⟨by rw [e1] <;> rfl, keep_same (Keep.of_ext x1) k9, fun h0 => ⟨V9, X, by rw [(e2 h0).1, (e2 h0).2, ← HT.out]; exact hJ9⟩⟩
  · have hE : (wrdE F false Q.ad 1 != 0) = true := by have h1 : ¬ wrdE F false Q.ad 1 = 0 := h0; simpa using h1
    have HN := Lib.hid h0
    clear hT hq hW hk hms hFW h0 h
    have HE1 := Lib.hid (sw_wrd (F := F) Q.ad 1)
    generalize wrdE F false Q.ad 1 = E1 at KR hE HE1
    go_enter Tryz.func73, Tryz.ntmps73
    go_wp2_with fail
    refine (KR.out).mono ?_; rintro e w1 ⟨b1, q, rfl, n1, n2, hb, x1, hf⟩
    clear hb hf n1 n2 c1
    go_wp2
    go_ret
    obtain ⟨e1, e2⟩ := HE.out
    refine ⟨by rw [e1, HE1.out] <;> rfl, Keep.of_ext x1, fun h0 => absurd (e1.symm.trans h0) HN.out⟩
theorem jforemost_v {a b E : Int} (hE : fmoE a b = E) (w : World) : Calls Tryz.prog 117 #[.int .i64 a, .int .i64 b] w fun e w' => e = .returned (.int .i64 E) ∧ w' = w := by
  unfold fmoE at hE
  by_cases h1 : a = 0
  · subst h1
    have hE : b = E := by simpa using hE
    subst hE
    go_enter Tryz.func117, Tryz.ntmps117
    go_wp2
    go_ret
    exact ⟨rfl, rfl⟩
  · have f1 : (a == 0) = false := by simp [h1]
    by_cases h2 : b = 2
    · subst h2
      have hE : 2 = E := by simpa using hE
      subst hE
      have H1 := Lib.hid h1
      clear h1
      go_enter Tryz.func117, Tryz.ntmps117
      go_wp2
      go_ret
      exact ⟨rfl, rfl⟩
    · have f2 : (b == 2) = false := by simp [h2]
      have hE : a = E := by rw [if_neg (not_or.2 ⟨h1, h2⟩)] at hE; exact hE
      subst hE
      clear h1 h2
      go_enter Tryz.func117, Tryz.ntmps117
      go_wp2
      go_ret
      exact ⟨rfl, rfl⟩
set_option maxHeartbeats 4000000 in
theorem jsetReadRegs_v (hR : FWordsC 136) (hB : FSetWordsC 138) {g : Nat} {U : QstV} {Q : Qst} {V : FilV} {F : Fil} {X : QstV} {T : Tel} (w : World) (h : JobAt w g U Q V F X T) (hq : rightQ Q = true) (hr : rightB F = true) (hW : QstW Q) (hk : Q.k = 23) : Calls Tryz.prog 74 #[.pointer (some ⟨g, 0, none⟩)] w (JobP g U Q (datE F Q) (datF F Q) (datT F Q) w) := by
  have HE := Lib.hid (dat_is23 (F := F) hq hr hk)
  have hd : Ext w w.drew := Ext.drew w
  have hn : Q.nr ≤ 1000000 := by have := (ask_facts hq).wd (.inr hk); omega
  have KR := Lib.hid (jholding_v hR Q.fr Q.mn w.drew (h.ext hd) hW.wfr hW.wmn)
  have KW := Lib.hid (fun W (j : JobAt W g U Q V F X T) => jsetRegs_w hB W j hW hn)
  have HB := Lib.hid (fun (h0 : swE F Q.ad Q.nr = 0) => wrd_behind (F := F) hr (v := Q.R) h0 false Q.fr Q.mn)
  have KH := Lib.hid (fun W V' (j : JobAt W g U Q V' (swF F Q.ad Q.nr Q.R) X T) => jtellRegs_v 112 Q.fr Q.mn (wrdE (swF F Q.ad Q.nr Q.R) false Q.fr Q.mn) (wrdN (swF F Q.ad Q.nr Q.R) false Q.fr Q.mn) (wrdL (swF F Q.ad Q.nr Q.R) false Q.fr) W j (fun args w => job_enters Tryz.func112 (by kernel_rfl) rfl args w) (jholding_v hR Q.fr Q.mn W j hW.wfr hW.wmn))
  have HJ := Lib.hid h
  have hs : InJob w g U Q w.drew := ⟨Keep.of_ext hd, _, _, _, _, h.ext hd⟩
  clear hq hr hW hk hn h
  generalize swE F Q.ad Q.nr = E2 at *
  generalize swF F Q.ad Q.nr Q.R = F2 at *
  generalize wrdE F false Q.fr Q.mn = E1 at *
  generalize wrdN F false Q.fr Q.mn = N1 at *
  generalize wrdL F false Q.fr = L1 at *
  go_enter Tryz.func74, Tryz.ntmps74
  go_wp2_with fail
  refine wp_region_held_drew (S := InJob w g U Q) (by kernel_rfl) hs (fun _ => ?_)
  refine wpAnyH_takeD (i := 0) (d := 7) (v := .pointer (some ⟨g, 0, none⟩)) rfl rfl (by kernel_rfl) (by kernel_rfl) (by kernel_rfl) (fun _ _ _ h => h) (Or.inl ⟨by rfl, fun W hW => by go_simp⟩) hs ?_
  simp only [Act.put, List.setIfInBounds_toArray, List.set_cons_succ, List.set_cons_zero]
  refine wpAnyH_takeD (i := 1) (d := 8) (v := .pointer (some ⟨g, 0, none⟩)) rfl rfl (by kernel_rfl) (by kernel_rfl) (by kernel_rfl) (fun _ _ _ h => h) (Or.inl ⟨by rfl, fun W hW => by go_simp⟩) hs ?_
  simp only [Act.put, List.setIfInBounds_toArray, List.set_cons_succ, List.set_cons_zero]
  refine wpAnyH_takeD (i := 2) (d := 9) (v := .pointer (some ⟨g, 0, none⟩)) rfl rfl (by kernel_rfl) (by kernel_rfl) (by kernel_rfl) (fun _ _ _ h => h) (Or.inl ⟨by rfl, fun W hW => by go_simp⟩) hs ?_
  simp only [Act.put, List.setIfInBounds_toArray, List.set_cons_succ, List.set_cons_zero]
  refine wpAnyH_takeD (i := 3) (d := 10) (v := .pointer (some ⟨g, 0, none⟩)) rfl rfl (by kernel_rfl) (by kernel_rfl) (by kernel_rfl) (fun _ _ _ h => h) (Or.inl ⟨by rfl, fun W hW => by go_simp⟩) hs ?_
  simp only [Act.put, List.setIfInBounds_toArray, List.set_cons_succ, List.set_cons_zero]
  refine wpAnyH_takeD (i := 4) (d := 11) (v := .pointer (some ⟨g, 6, none⟩)) rfl rfl (by kernel_rfl) (by kernel_rfl) (by kernel_rfl) (fun _ _ _ h => h) (Or.inl ⟨by rfl, fun W hW => by go_simp⟩) hs ?_
  simp only [Act.put, List.setIfInBounds_toArray, List.set_cons_succ, List.set_cons_zero]
  refine wpAnyH_takeD (i := 5) (d := 12) (v := .int .i64 Q.fr) rfl rfl (by kernel_rfl) (by kernel_rfl) (by kernel_rfl) (fun _ _ _ h => h) (Or.inl ⟨by rfl, fun W hW => by obtain ⟨⟨k0, k1, k2, k3⟩, k4, k5, k6, k7⟩ := InJob.c hW; go_simp⟩) hs ?_
  simp only [Act.put, List.setIfInBounds_toArray, List.set_cons_succ, List.set_cons_zero]
  refine wpAnyH_takeD (i := 6) (d := 13) (v := .pointer (some ⟨g, 0, none⟩)) rfl rfl (by kernel_rfl) (by kernel_rfl) (by kernel_rfl) (fun _ _ _ h => h) (Or.inl ⟨by rfl, fun W hW => by go_simp⟩) hs ?_
  simp only [Act.put, List.setIfInBounds_toArray, List.set_cons_succ, List.set_cons_zero]
  refine wpAnyH_takeD (i := 7) (d := 14) (v := .pointer (some ⟨g, 0, none⟩)) rfl rfl (by kernel_rfl) (by kernel_rfl) (by kernel_rfl) (fun _ _ _ h => h) (Or.inl ⟨by rfl, fun W hW => by go_simp⟩) hs ?_
  simp only [Act.put, List.setIfInBounds_toArray, List.set_cons_succ, List.set_cons_zero]
  refine wpAnyH_takeD (i := 8) (d := 15) (v := .pointer (some ⟨g, 0, none⟩)) rfl rfl (by kernel_rfl) (by kernel_rfl) (by kernel_rfl) (fun _ _ _ h => h) (Or.inl ⟨by rfl, fun W hW => by go_simp⟩) hs ?_
  simp only [Act.put, List.setIfInBounds_toArray, List.set_cons_succ, List.set_cons_zero]
  refine wpAnyH_takeD (i := 9) (d := 16) (v := .pointer (some ⟨g, 7, none⟩)) rfl rfl (by kernel_rfl) (by kernel_rfl) (by kernel_rfl) (fun _ _ _ h => h) (Or.inl ⟨by rfl, fun W hW => by go_simp⟩) hs ?_
  simp only [Act.put, List.setIfInBounds_toArray, List.set_cons_succ, List.set_cons_zero]
  refine wpAnyH_takeD (i := 10) (d := 17) (v := .int .i64 Q.mn) rfl rfl (by kernel_rfl) (by kernel_rfl) (by kernel_rfl) (fun _ _ _ h => h) (Or.inl ⟨by rfl, fun W hW => by obtain ⟨⟨k0, k1, k2, k3⟩, k4, k5, k6, k7⟩ := InJob.c hW; go_simp⟩) hs ?_
  simp only [Act.put, List.setIfInBounds_toArray, List.set_cons_succ, List.set_cons_zero]
  refine wpAnyH_ready (rs := [11]) (by kernel_rfl) (by simp) (AllReadyH.cons rfl (fun K hK => ?_) AllReadyH.nil)
  go_simp
  refine (KR.out).mono ?_; rintro e w1 ⟨b1, q, rfl, n1, n2, hb, x1, -⟩
  go_wp2_with fail
  have x1 := hd.trans x1
  have hJ1 := HJ.out.ext x1
  refine hK.out _ _ ⟨Keep.of_ext x1, _, _, _, _, hJ1⟩ (fun hs => ?_)
  clear hK K
  refine wpAnyH_takeD (i := 12) (d := 6) (v := .tuple #[.slice b1 N1 q, .int .i64 E1]) rfl rfl (by kernel_rfl) (by kernel_rfl) (by kernel_rfl) (fun _ _ _ h => h) (Or.inl ⟨by rfl, fun W hW => by go_simp⟩) hs ?_
  simp only [Act.put, List.setIfInBounds_toArray, List.set_cons_succ, List.set_cons_zero]
  refine wpAnyH_takeD (i := 13) (d := 19) (v := .slice b1 N1 q) rfl rfl (by kernel_rfl) (by kernel_rfl) (by kernel_rfl) (fun _ _ _ h => h) (Or.inl ⟨by rfl, fun W hW => by go_simp⟩) hs ?_
  simp only [Act.put, List.setIfInBounds_toArray, List.set_cons_succ, List.set_cons_zero]
  refine wpAnyH_takeD (i := 14) (d := 20) (v := .int .i64 E1) rfl rfl (by kernel_rfl) (by kernel_rfl) (by kernel_rfl) (fun _ _ _ h => h) (Or.inl ⟨by rfl, fun W hW => by go_simp⟩) hs ?_
  simp only [Act.put, List.setIfInBounds_toArray, List.set_cons_succ, List.set_cons_zero]
  refine wpAnyH_takeD (i := 15) (d := 3) (v := .slice b1 N1 q) rfl rfl (by kernel_rfl) (by kernel_rfl) (by kernel_rfl) (fun _ _ _ h => h) (Or.inl ⟨by rfl, fun W hW => by go_simp⟩) hs ?_
  simp only [Act.put, List.setIfInBounds_toArray, List.set_cons_succ, List.set_cons_zero]
  refine wpAnyH_takeD (i := 16) (d := 4) (v := .int .i64 E1) rfl rfl (by kernel_rfl) (by kernel_rfl) (by kernel_rfl) (fun _ _ _ h => h) (Or.inl ⟨by rfl, fun W hW => by go_simp⟩) hs ?_
  simp only [Act.put, List.setIfInBounds_toArray, List.set_cons_succ, List.set_cons_zero]
  refine wpAnyH_done (by kernel_rfl) ?_ _
  clear hs hb n1 n2 KR
  obtain ⟨E3, hE3⟩ : ∃ E3, fmoE E1 E2 = E3 := ⟨_, rfl⟩
  have KF := Lib.hid (fun W => jforemost_v hE3 W)
  have HF := Lib.hid hE3
  rw [hE3] at HE
  clear hE3
  go_wp2_with fail
  refine (KW.out _ hJ1).mono ?_; rintro e w2 ⟨rfl, k2, V2, hJ2⟩
  go_wp2_with fail
  refine (KF.out _).mono ?_; rintro e w3 ⟨rfl, e3⟩
  rw [e3]
  clear e3 w3
  clear KW KF
  have HK2 := Lib.hid (keep_same (Keep.of_ext x1) k2)
  clear k2 x1 hJ1 hd
  by_cases h0 : E3 = 0
  · subst h0
    obtain ⟨-, e2⟩ := HE.out
    obtain ⟨e2, e3, e4, e5⟩ := e2 HE.out.1
    have hE2 := HB.out e3
    rw [e2] at hE2
    rw [e4] at e5
    have HX := Lib.hid (And.intro HE.out.1 (And.intro e4 e5))
    have he : Ext w2 w2.drew := Ext.drew w2
    have HC := Lib.hid (KH.out _ _ (hJ2.ext he))
    rw [hE2] at HC
    have hs : InJob w2 g U Q w2.drew := ⟨Keep.of_ext he, _, _, _, _, hJ2.ext he⟩
    clear e2 e3 e4 e5 hE2 HE HB KH HF
    go_upto_region 5 with fail
    refine wp_region_held_drew (S := InJob w2 g U Q) (by kernel_rfl) hs (fun _ => ?_)
    refine wpAnyH_takeD (i := 0) (d := 28) (v := .pointer (some ⟨g, 0, none⟩)) rfl rfl (by kernel_rfl) (by kernel_rfl) (by kernel_rfl) (fun _ _ _ h => h) (Or.inl ⟨by rfl, fun W hW => by go_simp⟩) hs ?_
    simp only [Act.put, List.setIfInBounds_toArray, List.set_cons_succ, List.set_cons_zero]
    refine wpAnyH_takeD (i := 1) (d := 29) (v := .pointer (some ⟨g, 0, none⟩)) rfl rfl (by kernel_rfl) (by kernel_rfl) (by kernel_rfl) (fun _ _ _ h => h) (Or.inl ⟨by rfl, fun W hW => by go_simp⟩) hs ?_
    simp only [Act.put, List.setIfInBounds_toArray, List.set_cons_succ, List.set_cons_zero]
    refine wpAnyH_takeD (i := 2) (d := 30) (v := .func (Fn.func 112) #[.pointer (some ⟨g, 0, none⟩)] #[]) rfl rfl (by kernel_rfl) (by kernel_rfl) (by kernel_rfl) (fun _ _ _ h => h) (Or.inl ⟨by rfl, fun W hW => by go_simp⟩) hs ?_
    simp only [Act.put, List.setIfInBounds_toArray, List.set_cons_succ, List.set_cons_zero]
    refine wpAnyH_takeD (i := 3) (d := 31) (v := .pointer (some ⟨g, 0, none⟩)) rfl rfl (by kernel_rfl) (by kernel_rfl) (by kernel_rfl) (fun _ _ _ h => h) (Or.inl ⟨by rfl, fun W hW => by go_simp⟩) hs ?_
    simp only [Act.put, List.setIfInBounds_toArray, List.set_cons_succ, List.set_cons_zero]
    refine wpAnyH_takeD (i := 4) (d := 32) (v := .pointer (some ⟨g, 0, none⟩)) rfl rfl (by kernel_rfl) (by kernel_rfl) (by kernel_rfl) (fun _ _ _ h => h) (Or.inl ⟨by rfl, fun W hW => by go_simp⟩) hs ?_
    simp only [Act.put, List.setIfInBounds_toArray, List.set_cons_succ, List.set_cons_zero]
    refine wpAnyH_takeD (i := 5) (d := 33) (v := .pointer (some ⟨g, 0, none⟩)) rfl rfl (by kernel_rfl) (by kernel_rfl) (by kernel_rfl) (fun _ _ _ h => h) (Or.inl ⟨by rfl, fun W hW => by go_simp⟩) hs ?_
    simp only [Act.put, List.setIfInBounds_toArray, List.set_cons_succ, List.set_cons_zero]
    refine wpAnyH_takeD (i := 6) (d := 34) (v := .pointer (some ⟨g, 6, none⟩)) rfl rfl (by kernel_rfl) (by kernel_rfl) (by kernel_rfl) (fun _ _ _ h => h) (Or.inl ⟨by rfl, fun W hW => by go_simp⟩) hs ?_
    simp only [Act.put, List.setIfInBounds_toArray, List.set_cons_succ, List.set_cons_zero]
    refine wpAnyH_takeD (i := 7) (d := 35) (v := .int .i64 Q.fr) rfl rfl (by kernel_rfl) (by kernel_rfl) (by kernel_rfl) (fun _ _ _ h => h) (Or.inl ⟨by rfl, fun W hW => by obtain ⟨⟨k0, k1, k2, k3⟩, k4, k5, k6, k7⟩ := InJob.c hW; go_simp⟩) hs ?_
    simp only [Act.put, List.setIfInBounds_toArray, List.set_cons_succ, List.set_cons_zero]
    refine wpAnyH_takeD (i := 8) (d := 36) (v := .pointer (some ⟨g, 0, none⟩)) rfl rfl (by kernel_rfl) (by kernel_rfl) (by kernel_rfl) (fun _ _ _ h => h) (Or.inl ⟨by rfl, fun W hW => by go_simp⟩) hs ?_
    simp only [Act.put, List.setIfInBounds_toArray, List.set_cons_succ, List.set_cons_zero]
    refine wpAnyH_takeD (i := 9) (d := 37) (v := .pointer (some ⟨g, 0, none⟩)) rfl rfl (by kernel_rfl) (by kernel_rfl) (by kernel_rfl) (fun _ _ _ h => h) (Or.inl ⟨by rfl, fun W hW => by go_simp⟩) hs ?_
    simp only [Act.put, List.setIfInBounds_toArray, List.set_cons_succ, List.set_cons_zero]
    refine wpAnyH_takeD (i := 10) (d := 38) (v := .pointer (some ⟨g, 0, none⟩)) rfl rfl (by kernel_rfl) (by kernel_rfl) (by kernel_rfl) (fun _ _ _ h => h) (Or.inl ⟨by rfl, fun W hW => by go_simp⟩) hs ?_
    simp only [Act.put, List.setIfInBounds_toArray, List.set_cons_succ, List.set_cons_zero]
    refine wpAnyH_takeD (i := 11) (d := 39) (v := .pointer (some ⟨g, 7, none⟩)) rfl rfl (by kernel_rfl) (by kernel_rfl) (by kernel_rfl) (fun _ _ _ h => h) (Or.inl ⟨by rfl, fun W hW => by go_simp⟩) hs ?_
    simp only [Act.put, List.setIfInBounds_toArray, List.set_cons_succ, List.set_cons_zero]
    refine wpAnyH_takeD (i := 12) (d := 40) (v := .int .i64 Q.mn) rfl rfl (by kernel_rfl) (by kernel_rfl) (by kernel_rfl) (fun _ _ _ h => h) (Or.inl ⟨by rfl, fun W hW => by obtain ⟨⟨k0, k1, k2, k3⟩, k4, k5, k6, k7⟩ := InJob.c hW; go_simp⟩) hs ?_
    simp only [Act.put, List.setIfInBounds_toArray, List.set_cons_succ, List.set_cons_zero]
    refine wpAnyH_ready (rs := [13]) (by kernel_rfl) (by simp) (AllReadyH.cons rfl (fun K hK => ?_) AllReadyH.nil)
    go_simp
    refine (HC.out).mono ?_; rintro e w9 ⟨rfl, y9, X9, hJ9⟩
    go_wp2_with fail
    have k9 := keep_same (Keep.of_ext he) y9
    refine hK.out _ _ ⟨k9, _, _, _, _, hJ9⟩ (fun hs => ?_)
    clear hK K
    refine wpAnyH_takeD (i := 14) (d := 2) (v := .int .i64 0) rfl rfl (by kernel_rfl) (by kernel_rfl) (by kernel_rfl) (fun _ _ _ h => h) (Or.inl ⟨by rfl, fun W hW => by go_simp⟩) hs ?_
    simp only [Act.put, List.setIfInBounds_toArray, List.set_cons_succ, List.set_cons_zero]
    refine wpAnyH_done (by kernel_rfl) ?_ _
    go_wp2_with fail
    go_ret
    obtain ⟨e1, e2, e3⟩ := HX.out
    exact ⟨by rw [e1] <;> rfl, keep_same HK2.out k9, fun h0 => ⟨V2, X9, by rw [e2, e3]; exact hJ9⟩⟩
  · have f1 : (E3 != 0) = true := by simpa using h0
    have HN := Lib.hid h0
    clear h0
    go_wp2
    go_ret
    exact ⟨by rw [HE.out.1] <;> rfl, HK2.out, fun h0 => absurd (HE.out.1.symm.trans h0) HN.out⟩
/-- A function that executes an ask: it is entered when it is called, and does what is asked. -/
structure ExecC (M : FuncId) (k : Int) : Prop where
  enters : ∀ (args : Array Value) (w : World), (callFunc M args).run Tryz.prog w = .ok (.enter M args) w
  does : ∀ (g : Nat) (U : QstV) (Q : Qst) (V : FilV) (F : Fil) (X : QstV) (w : World), Q.k = k → rightQ Q = true → rightB F = true → FilW F → QstW Q → JobAt w g U Q V F X (agT Q) → Calls Tryz.prog M #[.pointer (some ⟨g, 0, none⟩)] w (JobP g U Q (datE F Q) (datF F Q) (datT F Q) w)
set_option maxHeartbeats 4000000 in
theorem execution_v (hB : FBitsC 135) (hR : FWordsC 136) (hP : FSetBitsC 137) (hS : FSetWordsC 138) (hM : ∀ (x a o : BitVec 16) (w : World), Calls Tryz.prog 116 #[.int .u16 (vM x), .int .u16 (vM a), .int .u16 (vM o)] w fun e w' => e = .returned (.int .u16 (vM (mskV x a o))) ∧ w = w')
    (k : Int) (h : knownB k = true) (w : World) : Calls Tryz.prog 34 #[.int .i64 k] w fun e w' => ∃ M, e = .returned (.func (Fn.func M) #[] #[]) ∧ ExecC M k ∧ w' = w := by
  have hk := (known_iff k).1 h
  have HH := Lib.hid (And.intro hB (And.intro hR (And.intro hP (And.intro hS hM))))
  clear h hB hR hP hS hM
  rcases hk with rfl | rfl | rfl | rfl | rfl | rfl | rfl | rfl | rfl | rfl
  all_goals
    go_enter Tryz.func34, Tryz.ntmps34
    go_wp2
    go_ret
  · exact ⟨_, rfl, ⟨(fun args w => job_enters Tryz.func65 (by kernel_rfl) rfl args w), fun g U Q V F X w qk q r fw qW j => jreadCoils_v HH.out.1 w j qW qk⟩, rfl⟩
  · exact ⟨_, rfl, ⟨(fun args w => job_enters Tryz.func66 (by kernel_rfl) rfl args w), fun g U Q V F X w qk q r fw qW j => jreadInputs_v HH.out.1 w j qW qk⟩, rfl⟩
  · exact ⟨_, rfl, ⟨(fun args w => job_enters Tryz.func67 (by kernel_rfl) rfl args w), fun g U Q V F X w qk q r fw qW j => jreadHolding_v HH.out.2.1 w j qW qk⟩, rfl⟩
  · exact ⟨_, rfl, ⟨(fun args w => job_enters Tryz.func68 (by kernel_rfl) rfl args w), fun g U Q V F X w qk q r fw qW j => jreadRegs_v HH.out.2.1 w j qW qk⟩, rfl⟩
  · exact ⟨_, rfl, ⟨(fun args w => job_enters Tryz.func69 (by kernel_rfl) rfl args w), fun g U Q V F X w qk q r fw qW j => jsetBit_v HH.out.2.2.1 w j rfl q qW qk⟩, rfl⟩
  · exact ⟨_, rfl, ⟨(fun args w => job_enters Tryz.func70 (by kernel_rfl) rfl args w), fun g U Q V F X w qk q r fw qW j => jsetReg_v HH.out.2.2.2.1 w j rfl q qW qk⟩, rfl⟩
  · exact ⟨_, rfl, ⟨(fun args w => job_enters Tryz.func71 (by kernel_rfl) rfl args w), fun g U Q V F X w qk q r fw qW j => jsetBits_v HH.out.2.2.1 w j rfl q qW qk⟩, rfl⟩
  · exact ⟨_, rfl, ⟨(fun args w => job_enters Tryz.func72 (by kernel_rfl) rfl args w), fun g U Q V F X w qk q r fw qW j => jsetRegs_v HH.out.2.2.2.1 w j rfl q qW qk⟩, rfl⟩
  · exact ⟨_, rfl, ⟨(fun args w => job_enters Tryz.func73 (by kernel_rfl) rfl args w), fun g U Q V F X w qk q r fw qW j => jmask_v HH.out.2.1 HH.out.2.2.2.1 HH.out.2.2.2.2 w j rfl q fw qW qk⟩, rfl⟩
  · exact ⟨_, rfl, ⟨(fun args w => job_enters Tryz.func74 (by kernel_rfl) rfl args w), fun g U Q V F X w qk q r fw qW j => jsetReadRegs_v HH.out.2.1 HH.out.2.2.2.1 w j q r qW qk⟩, rfl⟩
end Go.Proofs.YtlafnobjfajamaaGreat
namespace Go.Proofs.YtlafnobjfajamaaGreat
open Go.RowKit
set_option linter.unusedVariables false
set_option maxRecDepth 100000

set_option maxHeartbeats 2000000 in
theorem jagain_v (U : QstV) (Q : Qst) (w : World) : Calls Tryz.prog 33 #[.agg (qstC U Q)] w fun e w' => e = .returned (.agg (telC zeroQV (agT Q))) ∧ Ext w w' := by
  obtain ⟨k, ad, ct, va, an, oo, fr, mn, nb, B, nr, R⟩ := Q
  obtain ⟨a1, d1, a2, d2⟩ := U
  unfold qstC
  dsimp only
  go_enter Tryz.func33, Tryz.ntmps33
  go_wp2
  refine bodyPost_ret (results_cell_row rfl _ _ (w.heap.size + 1) 37 _ (0, 0) _ rfl (heap_new_at _ _ (by simp)) Tryz.underlying37 rfl (by kernel_rfl)) rfl ?_
  exact ⟨rfl, (Ext.alloc _ _).trans (Ext.alloc _ _)⟩
theorem data_writes_c : DWritesC 14 := fun k w => by
  cases h : writesB k with
  | true =>
    rcases (writes_iff k).1 h with rfl | rfl | rfl | rfl | rfl | rfl
    all_goals
      clear h
      go_enter Tryz.func14, Tryz.ntmps14
      go_wp2
      go_ret
      exact ⟨rfl, Ext.refl _⟩
  | false =>
    have hk : ¬ (k = 5 ∨ k = 6 ∨ k = 15 ∨ k = 16 ∨ k = 22 ∨ k = 23) := fun hh => by have := (writes_iff k).2 hh; rw [h] at this; cases this
    have b5 : (k == 5) = false := by simp; omega
    have b6 : (k == 6) = false := by simp; omega
    have b15 : (k == 15) = false := by simp; omega
    have b16 : (k == 16) = false := by simp; omega
    have b22 : (k == 22) = false := by simp; omega
    have b23 : (k == 23) = false := by simp; omega
    clear hk h
    go_enter Tryz.func14, Tryz.ntmps14
    go_wp2
    go_ret
    exact ⟨rfl, Ext.refl _⟩
/-- What Do's boxes hold. -/
structure DoB (w wr : World) (V : FilV) (F : Fil) (U : QstV) (Q : Qst) : Prop where
  x : Ext w wr
  b2 : wr.heap[w.heap.size]? = some (.cells (filC V F) 29 (0, 0))
  b3 : wr.heap[w.heap.size + 1]? = some (.cells (qstC U Q) 31 (0, 0))
  b4 : wr.heap[w.heap.size + 1 + 1]? = some (.cells (filC zeroV zeroF) 29 (0, 0))
  b5 : wr.heap[w.heap.size + 1 + 1 + 1]? = some (.cells (telC zeroQV zeroT) 37 (0, 0))
section
variable {w wr wr' : World} {V : FilV} {F : Fil} {U : QstV} {Q : Qst}
theorem DoB.ext (h : DoB w wr V F U Q) (x : Ext wr wr') : DoB w wr' V F U Q := ⟨h.x.trans x, x.block h.b2, x.block h.b3, x.block h.b4, x.block h.b5⟩
theorem DoB.keep {g : Nat} (h : DoB w wr V F U Q) (k : Keep (fun i => i = g) wr wr') (hg : w.heap.size + 4 ≤ g) : DoB w wr' V F U Q :=
  have key : ∀ i, i < w.heap.size + 4 → i < wr.heap.size → wr'.heap[i]? = wr.heap[i]? := fun i hi hl => k.block i hl (fun e => by have e : i = g := e; omega)
  ⟨Ext.keep h.x k (fun i e => by have e : i = g := e; omega), (key _ (by omega) (heap_lt h.b2)).trans h.b2, (key _ (by omega) (heap_lt h.b3)).trans h.b3, (key _ (by omega) (heap_lt h.b4)).trans h.b4, (key _ (by omega) (heap_lt h.b5)).trans h.b5⟩
theorem DoB.begin (V : FilV) (F : Fil) (U : QstV) (Q : Qst) (w : World) : ∃ W, W = ((((w.alloc (.cells (filC V F) 29)).alloc (.cells (qstC U Q) 31)).alloc (.cells #[.int .i64 0, .int .i64 0, .int .i64 0, .int .i64 0, .int .i64 0, .int .i64 0, .int .i64 0, .int .i64 0, .int .i64 0, .int .i64 0, .slice none 0 0, .slice none 0 0, .slice none 0 0, .slice none 0 0] 29)).alloc (.cells #[.int .i64 0, .int .i64 0, .int .i64 0, .int .i64 0, .int .i64 0, .int .i64 0, .int .i64 0, .slice none 0 0, .slice none 0 0] 37)) ∧ DoB w W V F U Q := by
  refine ⟨_, rfl, ?_⟩
  have x1 := Ext.alloc w (.cells (filC V F) 29)
  have h1 := heap_alloc_new w (.cells (filC V F) 29)
  have s1 : (w.alloc (.cells (filC V F) 29)).heap.size = w.heap.size + 1 := by simp
  generalize w.alloc (.cells (filC V F) 29) = wa at *
  have x2 := Ext.alloc wa (.cells (qstC U Q) 31)
  have h2 := heap_alloc_new wa (.cells (qstC U Q) 31)
  have s2 : (wa.alloc (.cells (qstC U Q) 31)).heap.size = wa.heap.size + 1 := by simp
  generalize wa.alloc (.cells (qstC U Q) 31) = wb at *
  have x3 := Ext.alloc wb (.cells #[.int .i64 0, .int .i64 0, .int .i64 0, .int .i64 0, .int .i64 0, .int .i64 0, .int .i64 0, .int .i64 0, .int .i64 0, .int .i64 0, .slice none 0 0, .slice none 0 0, .slice none 0 0, .slice none 0 0] 29)
  have h3 := heap_alloc_new wb (.cells #[.int .i64 0, .int .i64 0, .int .i64 0, .int .i64 0, .int .i64 0, .int .i64 0, .int .i64 0, .int .i64 0, .int .i64 0, .int .i64 0, .slice none 0 0, .slice none 0 0, .slice none 0 0, .slice none 0 0] 29)
  have s3 : (wb.alloc (.cells #[.int .i64 0, .int .i64 0, .int .i64 0, .int .i64 0, .int .i64 0, .int .i64 0, .int .i64 0, .int .i64 0, .int .i64 0, .int .i64 0, .slice none 0 0, .slice none 0 0, .slice none 0 0, .slice none 0 0] 29)).heap.size = wb.heap.size + 1 := by simp
  generalize wb.alloc (.cells #[.int .i64 0, .int .i64 0, .int .i64 0, .int .i64 0, .int .i64 0, .int .i64 0, .int .i64 0, .int .i64 0, .int .i64 0, .int .i64 0, .slice none 0 0, .slice none 0 0, .slice none 0 0, .slice none 0 0] 29) = wc at *
  have x4 := Ext.alloc wc (.cells #[.int .i64 0, .int .i64 0, .int .i64 0, .int .i64 0, .int .i64 0, .int .i64 0, .int .i64 0, .slice none 0 0, .slice none 0 0] 37)
  have h4 := heap_alloc_new wc (.cells #[.int .i64 0, .int .i64 0, .int .i64 0, .int .i64 0, .int .i64 0, .int .i64 0, .int .i64 0, .slice none 0 0, .slice none 0 0] 37)
  rw [s1] at h2 s2
  rw [s2] at h3 s3
  rw [s3] at h4
  exact ⟨((x1.trans x2).trans x3).trans x4, x4.block (x3.block (x2.block h1)), x4.block (x3.block h2), x4.block h3, h4⟩
/-- What is told: both boxes written over. -/
theorem DoB.told (h : DoB w wr V F U Q) {V' : FilV} {F' : Fil} {X : QstV} {T : Tel} (hf : FilAt wr V' F') (ht : TelAt wr X T) : FilAt ((wr.setRow (w.heap.size + 1 + 1) (filC V' F')).setRow (w.heap.size + 1 + 1 + 1) (telC X T)) V' F' ∧ TelAt ((wr.setRow (w.heap.size + 1 + 1) (filC V' F')).setRow (w.heap.size + 1 + 1 + 1) (telC X T)) X T ∧ Ext w ((wr.setRow (w.heap.size + 1 + 1) (filC V' F')).setRow (w.heap.size + 1 + 1 + 1) (telC X T)) ∧
    ((wr.setRow (w.heap.size + 1 + 1) (filC V' F')).setRow (w.heap.size + 1 + 1 + 1) (telC X T)).heap[w.heap.size + 1 + 1]? = some (.cells (filC V' F') 29 (0, 0)) ∧ ((wr.setRow (w.heap.size + 1 + 1) (filC V' F')).setRow (w.heap.size + 1 + 1 + 1) (telC X T)).heap[w.heap.size + 1 + 1 + 1]? = some (.cells (telC X T) 37 (0, 0)) := by
  have b5 : (wr.setRow (w.heap.size + 1 + 1) (filC V' F')).heap[w.heap.size + 1 + 1 + 1]? = some (.cells (telC zeroQV zeroT) 37 (0, 0)) := (setRow_other _ _ _ _ (by omega)).trans h.b5
  refine ⟨(hf.row h.b4 (plain_fil _ _) _).row b5 (plain_tel _ _) _, (ht.row h.b4 (plain_fil _ _) _).row b5 (plain_tel _ _) _, below_setRow (below_setRow h.x (by omega) _) (by omega) _, ?_, setRow_heap _ _ _ _ _ _ b5⟩
  exact (setRow_other _ _ _ _ (by omega)).trans (setRow_heap _ _ _ _ _ _ h.b4)
end
theorem keepRowY (w : World) (g : Nat) (cs : Array Value) : Keep (fun i => i = g) w (w.setRow g cs) := ⟨rfl, rfl, rfl, by simp, fun k _ hn => setRow_other w _ k _ hn⟩
def ARightC (Fn : FuncId) : Prop := ∀ (V : QstV) (Q : Qst) (w : World), QstAt w V Q → Q.nb ≤ 1000000 → Q.nr ≤ 1000000 → Calls Tryz.prog Fn #[.agg (qstC V Q)] w fun e w' => e = .returned (.bool (rightQ Q)) ∧ Ext w w'
def DoP (F : Fil) (Q : Qst) (w : World) (e : Ending) (w' : World) : Prop := ∃ V' X, e = .returned (.tuple #[.agg (filC V' (dooF F Q)), .agg (telC X (dooT F Q)), .int .i64 (dooE F Q)]) ∧ FilAt w' V' (dooF F Q) ∧ TelAt w' X (dooT F Q) ∧ Ext w w'
set_option maxHeartbeats 4000000 in
theorem ddo_noF (hR : FRightC 26) (V : FilV) (F : Fil) (U : QstV) (Q : Qst) (w : World) (h : FilAt w V F) (hr : rightB F = false) : Calls Tryz.prog 12 #[.agg (filC V F), .agg (qstC U Q)] w (DoP F Q w) := by
  have HN := Lib.hid (okB_no (F := F) (Q := Q) (by unfold okB; rw [hr]; rfl))
  obtain ⟨W0, hW0, DB0⟩ := DoB.begin V F U Q w
  have KR := Lib.hid (fun W (x : Ext w W) => hR V F W (h.ext x))
  rw [hr] at KR
  clear hr h hR
  have a2 := DB0.b2
  go_enter Tryz.func12, Tryz.ntmps12
  go_upto_region 1 with fail
  rw [← hW0]
  clear hW0
  go_upto_region 2 with (first
    | (refine wpList_load_row rfl 29 (.tmp 2) rfl (w.heap.size) rfl 29 _ (0, 0) _ a2 Tryz.underlying29 rfl (by kernel_rfl) ?_)
    | (go_at_call 26; refine (KR.out _ DB0.x).mono ?_; rintro e w1 ⟨rfl, x1⟩))
  clear a2
  have DB := DB0.ext x1
  have b4 := DB.b4


  go_wp2_with (first
    | (refine wpList_store_row rfl 29 (.tmp 4) (.tmp 18) rfl (w.heap.size + 1 + 1) _ rfl rfl 29 _ b4 (by kernel_rfl) rfl (by simp [filC, Value.oneCell']) ?_)
    | (refine wpList_store_row rfl 37 (.tmp 5) (.tmp 19) rfl (w.heap.size + 1 + 1 + 1) _ rfl rfl 37 _ ((setRow_other _ _ _ _ (by omega)).trans DB.b5) (by kernel_rfl) rfl (by simp [Value.oneCell']) ?_))
  obtain ⟨q1, q2, q3, q4, q5⟩ := DB.told (zero_at _) (telnone_at (T := zeroT) _ rfl rfl)
  refine bodyPost_ret (results_rows_tmp _ _ (w.heap.size + 1 + 1) (w.heap.size + 1 + 1 + 1) 29 37 _ _ (0, 0) (0, 0) _ _ rfl rfl q4 Tryz.underlying29 rfl (by kernel_rfl) rfl q5 Tryz.underlying37 rfl (by kernel_rfl)) rfl ?_
  obtain ⟨-, e2, e3, e4⟩ := HN.out
  unfold DoP
  rw [e2, e3, e4]
  exact ⟨zeroV, zeroQV, rfl, q1, q2, q3⟩
set_option maxHeartbeats 4000000 in
theorem ddo_noQ (hR : FRightC 26) (hA : ARightC 32) (V : FilV) (F : Fil) (U : QstV) (Q : Qst) (w : World) (h : FilAt w V F) (k : QstAt w U Q) (n1 : Q.nb ≤ 1000000) (n2 : Q.nr ≤ 1000000) (hr : rightB F = true) (hq : rightQ Q = false) : Calls Tryz.prog 12 #[.agg (filC V F), .agg (qstC U Q)] w (DoP F Q w) := by
  have HN := Lib.hid (okB_no (F := F) (Q := Q) (by unfold okB; rw [hr, hq]; rfl))
  obtain ⟨W0, hW0, DB0⟩ := DoB.begin V F U Q w
  have KR := Lib.hid (fun W (x : Ext w W) => hR V F W (h.ext x))
  have KA := Lib.hid (fun W (x : Ext w W) => hA U Q W (k.ext x) n1 n2)
  rw [hr] at KR
  rw [hq] at KA
  clear hr hq h hR hA k n1 n2
  have a2 := DB0.b2
  have a3 := Lib.hid (fun W (x : Ext W0 W) => x.block DB0.b3)
  go_enter Tryz.func12, Tryz.ntmps12
  go_upto_region 1 with fail
  rw [← hW0]
  clear hW0
  go_upto_region 2 with (first
    | (refine wpList_load_row rfl 29 (.tmp 2) rfl (w.heap.size) rfl 29 _ (0, 0) _ a2 Tryz.underlying29 rfl (by kernel_rfl) ?_)
    | (refine wpList_load_row_g (by rfl) 31 (.tmp 3) rfl (w.heap.size + 1) rfl 31 _ (0, 0) _ (a3.out _ x1) Tryz.underlying31 rfl (by kernel_rfl) ?_)
    | (go_at_call 26; refine (KR.out _ DB0.x).mono ?_; rintro e w1 ⟨rfl, x1⟩)
    | (go_at_call 32; refine (KA.out _ (DB0.x.trans x1)).mono ?_; rintro e w2 ⟨rfl, x2⟩))
  clear a2 a3
  have DB := DB0.ext (x1.trans x2)
  have b4 := DB.b4


  go_wp2_with (first
    | (refine wpList_store_row rfl 29 (.tmp 4) (.tmp 18) rfl (w.heap.size + 1 + 1) _ rfl rfl 29 _ b4 (by kernel_rfl) rfl (by simp [filC, Value.oneCell']) ?_)
    | (refine wpList_store_row rfl 37 (.tmp 5) (.tmp 19) rfl (w.heap.size + 1 + 1 + 1) _ rfl rfl 37 _ ((setRow_other _ _ _ _ (by omega)).trans DB.b5) (by kernel_rfl) rfl (by simp [Value.oneCell']) ?_))
  obtain ⟨q1, q2, q3, q4, q5⟩ := DB.told (zero_at _) (telnone_at (T := zeroT) _ rfl rfl)
  refine bodyPost_ret (results_rows_tmp _ _ (w.heap.size + 1 + 1) (w.heap.size + 1 + 1 + 1) 29 37 _ _ (0, 0) (0, 0) _ _ rfl rfl q4 Tryz.underlying29 rfl (by kernel_rfl) rfl q5 Tryz.underlying37 rfl (by kernel_rfl)) rfl ?_
  obtain ⟨-, e2, e3, e4⟩ := HN.out
  unfold DoP
  rw [e2, e3, e4]
  exact ⟨zeroV, zeroQV, rfl, q1, q2, q3⟩
/-- A job, laid into its box. -/
theorem job_made {W3 W : World} {g : Nat} {U : QstV} {Q : Qst} {V : FilV} {F : Fil} (x : Ext W3 W) (hlo : W3.heap.size ≤ g) (hnew : W.heap[g]? = some (.cells (jobC zeroQV zeroQ zeroV zeroF zeroQV zeroT) 65 (0, 0))) (q : QstAt W U Q) (f : FilAt W V F) :
    JobAt (W.setRow g (jobC U Q V F zeroQV (agT Q))) g U Q V F zeroQV (agT Q) ∧ Ext W3 (W.setRow g (jobC U Q V F zeroQV (agT Q))) :=
  have k := keepRowY W g (jobC U Q V F zeroQV (agT Q))
  have p := plain_job zeroQV zeroQ zeroV zeroF zeroQV zeroT
  ⟨⟨setRow_heap _ _ _ _ _ _ hnew, q.plain hnew p k, f.plain hnew p k, telnone_at _ rfl rfl⟩, below_setRow x hlo _⟩
theorem datT_cd (F : Fil) (Q : Qst) : (datT F Q).cd = datE F Q := by
  by_cases h : datE F Q = 0
  · have hne : ¬ datE F Q ≠ 0 := fun hh => hh h
    rw [h]
    unfold datT
    rw [if_neg hne]
    repeat' split
    all_goals rfl
  · rw [(datF_no h).2]
set_option maxHeartbeats 8000000 in
theorem ddo_yes (hR : FRightC 26) (hA : ARightC 32) (hC : FCopyC 24)
    (hX : ∀ (k : Int) (h : knownB k = true) (w : World), Calls Tryz.prog 34 #[.int .i64 k] w fun e w' => ∃ M, e = .returned (.func (Fn.func M) #[] #[]) ∧ ExecC M k ∧ w' = w)
    (V : FilV) (F : Fil) (U : QstV) (Q : Qst) (w : World) (h : FilAt w V F) (hFW : FilW F) (hsm : Small F) (k : QstAt w U Q) (hW : QstW Q) (n1 : Q.nb ≤ 1000000) (n2 : Q.nr ≤ 1000000) (hr : rightB F = true) (hq : rightQ Q = true) : Calls Tryz.prog 12 #[.agg (filC V F), .agg (qstC U Q)] w (DoP F Q w) := by
  obtain ⟨-, -, -, y1, y2, y3⟩ := okB_yes (F := F) (Q := Q) (by unfold okB; rw [hr, hq]; rfl)
  have HN := Lib.hid (And.intro y1 (And.intro y2 y3))
  obtain ⟨W0, hW0, DB0⟩ := DoB.begin V F U Q w
  have KR := Lib.hid (fun W (x : Ext w W) => hR V F W (h.ext x))
  have KA := Lib.hid (fun W (x : Ext w W) => hA U Q W (k.ext x) n1 n2)
  have KC := Lib.hid (fun W (x : Ext w W) => hC V F W (h.ext x) hsm)
  have KE := Lib.hid (fun W => hX Q.k ((rightQ_iff Q).1 hq).1 W)
  have KD := Lib.hid (fun M (hM : ExecC M Q.k) W g V2 (j : JobAt W g U Q V2 F zeroQV (agT Q)) => hM.does g U Q V2 F zeroQV W rfl hq hr hFW hW j)
  have KG := Lib.hid (fun W => jagain_v U Q W)
  have HQ0 := Lib.hid k
  rw [hr] at KR
  rw [hq] at KA
  have HE := Lib.hid (And.intro (datT_cd F Q) (fun (h0 : datE F Q ≠ 0) => datF_no h0))
  clear hr hq h hR hA hC hX k n1 n2 hFW hsm hW y1 y2 y3
  have a2 := DB0.b2
  have a3 := Lib.hid (fun W (x : Ext W0 W) => x.block DB0.b3)
  go_enter Tryz.func12, Tryz.ntmps12
  go_upto_region 1 with fail
  rw [← hW0]
  clear hW0
  go_upto_region 3 with (first
    | (refine wpList_load_row rfl 29 (.tmp 2) rfl (w.heap.size) rfl 29 _ (0, 0) _ a2 Tryz.underlying29 rfl (by kernel_rfl) ?_)
    | (refine wpList_load_row_g (by rfl) 31 (.tmp 3) rfl (w.heap.size + 1) rfl 31 _ (0, 0) _ (a3.out _ x1) Tryz.underlying31 rfl (by kernel_rfl) ?_)
    | (go_at_call 26; refine (KR.out _ DB0.x).mono ?_; rintro e w1 ⟨rfl, x1⟩)
    | (go_at_call 32; refine (KA.out _ (DB0.x.trans x1)).mono ?_; rintro e w2 ⟨rfl, x2⟩))
  have DB2 := DB0.ext (x1.trans x2)
  clear a2 a3 DB0 x1 x2
  have a2 := DB2.b2
  obtain ⟨xx2, hxx2⟩ : ∃ W, W = w2 := ⟨_, rfl⟩
  go_upto_region 4 with (first
    | (refine wpList_load_row rfl 29 (.tmp 2) rfl (w.heap.size) rfl 29 _ (0, 0) _ a2 Tryz.underlying29 rfl (by kernel_rfl) ?_)
    | (go_at_call 24; refine (KC.out _ DB2.x).mono ?_; rintro e wc ⟨V2, rfl, hf2, xc, -⟩)
    | (refine wpList_store_row rfl 29 (.tmp 7) (.tmp 21) rfl (wc.heap.size) _ rfl rfl 29 _ (heap_new_at _ _ (by first | rfl | simp)) (by kernel_rfl) rfl (by simp [filC, Value.oneCell']) ?_))
  obtain ⟨W3, hW3, x3, g3⟩ : ∃ W, W = ((wc.alloc (.cells #[.int .i64 0, .int .i64 0, .int .i64 0, .int .i64 0, .int .i64 0, .int .i64 0, .int .i64 0, .int .i64 0, .int .i64 0, .int .i64 0, .slice none 0 0, .slice none 0 0, .slice none 0 0, .slice none 0 0] 29)).setRow wc.heap.size (filC V2 F)) ∧ Ext wc W ∧ W.heap[wc.heap.size]? = some (.cells (filC V2 F) 29 (0, 0)) := ⟨_, rfl, boxed_row _ _ _ _⟩
  rw [← hW3]
  clear hW3 hxx2 xx2 a2
  have DB3 := (DB2.ext xc).ext x3
  have hs4 : w.heap.size + 4 ≤ wc.heap.size := by have := heap_lt (DB2.ext xc).b5; omega
  generalize wc.heap.size = s at g3 hs4 ⊢
  have HF3 := Lib.hid (hf2.ext x3)
  have HQ3 := Lib.hid (HQ0.out.ext DB3.x)
  have HSL := Lib.hid (heap_lt g3)
  have H4 := Lib.hid (fun W (x : Ext W3 W) => And.intro (x.block DB3.b3) (x.block g3))
  clear DB2 xc x3 hf2 KC KR KA
  go_wp2_with fail
  simp only [Act.put]
  go_cut [8] (fun v wx => ∃ g, v = .pointer (some ⟨g, 0, none⟩) ∧ JobAt wx g U Q V2 F zeroQV (agT Q) ∧ s < g ∧ Ext W3 wx)
  case first =>
    have hd : Ext W3 W3.drew := Ext.drew W3
    have hs := hd
    refine wp_region_held_drew (S := fun W => Ext W3 W) (by kernel_rfl) hs (fun _ => ?_)
    refine wpAnyH_takeD (i := 0) (d := 22) rfl rfl (by kernel_rfl) (by kernel_rfl) (by kernel_rfl) (fun _ _ _ h => h) (yieldsIf_load_row (by rfl) 31 (.tmp 3) rfl (w.heap.size + 1) rfl 31 _ (0, 0) _ (fun w' hw' => (H4.out _ hw').1) Tryz.underlying31 rfl (by kernel_rfl)) hs ?_
    simp only [Act.put, List.setIfInBounds_toArray, List.set_cons_succ, List.set_cons_zero]
    refine wpAnyH_takeD (i := 1) (d := 23) rfl rfl (by kernel_rfl) (by kernel_rfl) (by kernel_rfl) (fun _ _ _ h => h) (yieldsIf_load_row (by rfl) 29 (.tmp 7) rfl (s) rfl 29 _ (0, 0) _ (fun w' hw' => (H4.out _ hw').2) Tryz.underlying29 rfl (by kernel_rfl)) hs ?_
    simp only [Act.put, List.setIfInBounds_toArray, List.set_cons_succ, List.set_cons_zero]
    refine wpAnyH_takeD (i := 2) (d := 24) rfl rfl (by kernel_rfl) (by kernel_rfl) (by kernel_rfl) (fun _ _ _ h => h) (yieldsIf_load_row (by rfl) 31 (.tmp 3) rfl (w.heap.size + 1) rfl 31 _ (0, 0) _ (fun w' hw' => (H4.out _ hw').1) Tryz.underlying31 rfl (by kernel_rfl)) hs ?_
    simp only [Act.put, List.setIfInBounds_toArray, List.set_cons_succ, List.set_cons_zero]
    refine wpAnyH_ready (rs := [3, 5]) (by kernel_rfl) (by simp) (AllReadyH.cons rfl (fun K hK => ?_) (AllReadyH.cons rfl (fun K hK => ?_) AllReadyH.nil))
    · go_simp
      refine (KG.out _).mono ?_; rintro e wg ⟨rfl, xg⟩
      go_wp2_with fail
      have he := hd.trans xg
      refine hK.out _ _ he (fun hs => ?_)
      clear hK K
      refine wpAnyH_takeD (i := 4) (d := 26) (v := .agg (jobC U Q V2 F zeroQV (agT Q))) rfl rfl (by kernel_rfl) (by kernel_rfl) (by kernel_rfl) (fun _ _ _ h => h) (Or.inl ⟨by rfl, fun W hW => by kernel_rfl⟩) hs ?_
      simp only [Act.put, List.setIfInBounds_toArray, List.set_cons_succ, List.set_cons_zero]
      refine wpAnyH_ready (rs := [5]) (by kernel_rfl) (by simp) (AllReadyH.cons rfl (fun K hK => ?_) AllReadyH.nil)
      go_simp
      refine hK.out _ _ (he.trans (Ext.alloc _ _)) (fun hs => ?_)
      clear hK K
      refine wpAnyH_ready (rs := [6]) (by kernel_rfl) (by simp) (AllReadyH.cons rfl (fun K hK => ?_) AllReadyH.nil)
      obtain ⟨j1, j2⟩ := job_made (g := wg.heap.size) (he.trans (Ext.alloc wg _)) he.size (heap_alloc_new wg _) (HQ3.out.ext (he.trans (Ext.alloc _ _))) (HF3.out.ext (he.trans (Ext.alloc _ _)))
      refine step_store_row rfl 65 (.tmp 8) (.tmp 26) rfl (wg.heap.size) _ rfl rfl 65 _ (heap_alloc_new wg _) (by kernel_rfl) rfl (by simp [jobC, Value.oneCell']) rfl ?_
      refine hK.out _ _ j2 (fun hs => ?_)
      clear hK K
      simp only [Act.put]
      refine wpAnyH_done (by kernel_rfl) ?_ _
      go_wp2_with fail
      go_meet
      exact ⟨_, rfl, j1, Nat.lt_of_lt_of_le HSL.out he.size, j2⟩
    · go_simp
      refine hK.out _ _ (hd.trans (Ext.alloc _ _)) (fun hs => ?_)
      clear hK K
      refine wpAnyH_ready (rs := [3]) (by kernel_rfl) (by simp) (AllReadyH.cons rfl (fun K hK => ?_) AllReadyH.nil)
      go_simp
      refine (KG.out _).mono ?_; rintro e wg ⟨rfl, xg⟩
      go_wp2_with fail
      have he := (hd.trans (Ext.alloc _ _)).trans xg
      refine hK.out _ _ he (fun hs => ?_)
      clear hK K
      refine wpAnyH_takeD (i := 4) (d := 26) (v := .agg (jobC U Q V2 F zeroQV (agT Q))) rfl rfl (by kernel_rfl) (by kernel_rfl) (by kernel_rfl) (fun _ _ _ h => h) (Or.inl ⟨by rfl, fun W hW => by kernel_rfl⟩) hs ?_
      simp only [Act.put, List.setIfInBounds_toArray, List.set_cons_succ, List.set_cons_zero]
      refine wpAnyH_ready (rs := [6]) (by kernel_rfl) (by simp) (AllReadyH.cons rfl (fun K hK => ?_) AllReadyH.nil)
      obtain ⟨j1, j2⟩ := job_made (g := W3.drew.heap.size) he hd.size (xg.block (heap_alloc_new W3.drew _)) (HQ3.out.ext he) (HF3.out.ext he)
      refine step_store_row rfl 65 (.tmp 8) (.tmp 26) rfl (W3.drew.heap.size) _ rfl rfl 65 _ (xg.block (heap_alloc_new W3.drew _)) (by kernel_rfl) rfl (by simp [jobC, Value.oneCell']) rfl ?_
      refine hK.out _ _ j2 (fun hs => ?_)
      clear hK K
      simp only [Act.put]
      refine wpAnyH_done (by kernel_rfl) ?_ _
      go_wp2_with fail
      go_meet
      exact ⟨_, rfl, j1, Nat.lt_of_lt_of_le HSL.out hd.size, j2⟩
  case rest =>
  obtain ⟨g, rfl, hJ, hsg, x4⟩ := hcut
  obtain ⟨w4, hw4⟩ : ∃ W, W = wc := ⟨_, rfl⟩
  rw [← hw4] at hJ x4 ⊢
  clear hw4
  have DB4 := DB3.ext x4
  have g4 := x4.block g3
  have c0 : w4.cell? ⟨w.heap.size + 1, 0, none⟩ = some (.int .i64 Q.k) := cell_of_heap DB4.b3 rfl
  clear DB3 g3 x4 H4 HQ3 HF3
  go_wp2_with fail
  refine (KE.out _).mono ?_; rintro e wx ⟨M, rfl, hM, ex⟩
  rw [ex]
  clear ex wx c0
  have HD := Lib.hid (KD.out M hM w4 g V2 hJ)
  have hen := hM.enters
  clear KD KE KG hM
  go_wp2_with fail
  refine (HD.out).mono ?_; rintro e w5 ⟨rfl, k5, hdo⟩
  have hg4 : w.heap.size + 4 ≤ g := by omega
  have D5 := DB4.keep k5 hg4
  have g5 : w5.heap[s]? = some (.cells (filC V2 F) 29 (0, 0)) := (k5.block _ (heap_lt g4) (fun e => by have e : s = g := e; omega)).trans g4
  have hF5 := hJ.f.plain hJ.row (plain_job _ _ _ _ _ _) k5
  clear HD hen DB4 g4 hJ k5
  have hd5 : Ext w5 w5.drew := Ext.drew w5
  by_cases h0 : datE F Q = 0
  · obtain ⟨V5, X5, hJ5⟩ := hdo h0
    have hb : (datE F Q != 0) = false := by simp [h0]
    clear hdo h0 HE
    generalize datE F Q = E at *
    generalize datF F Q = F5 at *
    generalize datT F Q = T5 at *
    have HL := Lib.hid (fun W (hx : Keep (fun i => i = w.heap.size + 1 + 1 ∨ i = w.heap.size + 1 + 1 + 1) w5 W) => (hx.block _ hJ5.lt (fun e => by have e : g = w.heap.size + 1 + 1 ∨ g = w.heap.size + 1 + 1 + 1 := e; omega)).trans hJ5.row)
    have hs : Keep (fun i => i = w.heap.size + 1 + 1 ∨ i = w.heap.size + 1 + 1 + 1) w5 w5.drew := Keep.of_ext hd5
    go_upto_region 8 with fail
    refine wp_region_held_drew (S := fun W => Keep (fun i => i = w.heap.size + 1 + 1 ∨ i = w.heap.size + 1 + 1 + 1) w5 W) (by kernel_rfl) hs (fun _ => ?_)
    refine wpAnyH_takeD (i := 0) (d := 38) (v := .pointer (some ⟨g, 10, none⟩)) rfl rfl (by kernel_rfl) (by kernel_rfl) (by kernel_rfl) (fun _ _ _ h => h) (Or.inl ⟨by rfl, fun W hW => by go_simp⟩) hs ?_
    simp only [Act.put, List.setIfInBounds_toArray, List.set_cons_succ, List.set_cons_zero]
    refine wpAnyH_takeD (i := 1) (d := 39) (v := .agg (filC V5 F5)) rfl rfl (by kernel_rfl) (by kernel_rfl) (by kernel_rfl) (fun _ _ _ h => h) (yieldsIf_load_mid (by rfl) 29 (.tmp 38) rfl (g) 10 rfl (filC V5 F5).toList _ (fun w' hw' => job_now (HL.out _ hw')) Tryz.underlying29 rfl (by kernel_rfl)) hs ?_
    simp only [Act.put, List.setIfInBounds_toArray, List.set_cons_succ, List.set_cons_zero]
    refine wpAnyH_takeD (i := 2) (d := 40) (v := .pointer (some ⟨g, 24, none⟩)) rfl rfl (by kernel_rfl) (by kernel_rfl) (by kernel_rfl) (fun _ _ _ h => h) (Or.inl ⟨by rfl, fun W hW => by go_simp⟩) hs ?_
    simp only [Act.put, List.setIfInBounds_toArray, List.set_cons_succ, List.set_cons_zero]
    refine wpAnyH_takeD (i := 3) (d := 41) (v := .agg (telC X5 T5)) rfl rfl (by kernel_rfl) (by kernel_rfl) (by kernel_rfl) (fun _ _ _ h => h) (yieldsIf_load_mid (by rfl) 37 (.tmp 40) rfl (g) 24 rfl (telC X5 T5).toList _ (fun w' hw' => job_told (HL.out _ hw')) Tryz.underlying37 rfl (by kernel_rfl)) hs ?_
    simp only [Act.put, List.setIfInBounds_toArray, List.set_cons_succ, List.set_cons_zero]
    refine wpAnyH_ready (rs := [4]) (by kernel_rfl) (by simp) (AllReadyH.cons rfl (fun K hK => ?_) AllReadyH.nil)
    refine step_store_row rfl 29 (.tmp 4) (.tmp 39) rfl (w.heap.size + 1 + 1) _ rfl rfl 29 _ (hd5.block D5.b4) (by kernel_rfl) rfl (by simp [filC, Value.oneCell']) rfl ?_
    refine hK.out _ _ ((Keep.of_ext hd5).trans (keepRowY _ _ _) (fun i hi => .inl (.inl hi))) (fun hs => ?_)
    clear hK K
    simp only [Act.put]
    refine wpAnyH_ready (rs := [5]) (by kernel_rfl) (by simp) (AllReadyH.cons rfl (fun K hK => ?_) AllReadyH.nil)
    refine step_store_row rfl 37 (.tmp 5) (.tmp 41) rfl (w.heap.size + 1 + 1 + 1) _ rfl rfl 37 _ ((setRow_other _ _ _ _ (by omega)).trans (hd5.block D5.b5)) (by kernel_rfl) rfl (by simp [telC, Value.oneCell']) rfl ?_
    refine hK.out _ _ (hs.trans (keepRowY _ _ _) (fun i hi => .inl (.inr hi))) (fun hs => ?_)
    clear hK K
    simp only [Act.put]
    refine wpAnyH_takeD (i := 6) (d := 6) (v := .int .i64 0) rfl rfl (by kernel_rfl) (by kernel_rfl) (by kernel_rfl) (fun _ _ _ h => h) (Or.inl ⟨by rfl, fun W hW => by go_simp⟩) hs ?_
    simp only [Act.put, List.setIfInBounds_toArray, List.set_cons_succ, List.set_cons_zero]
    refine wpAnyH_done (by kernel_rfl) ?_ _
    go_wp2_with fail
    have DE := D5.ext hd5
    obtain ⟨q1, q2, q3, q4, q5⟩ := DE.told (hJ5.f.ext hd5) (hJ5.t.ext hd5)
    refine bodyPost_ret (results_rows_tmp _ _ (w.heap.size + 1 + 1) (w.heap.size + 1 + 1 + 1) 29 37 _ _ (0, 0) (0, 0) _ _ rfl rfl q4 Tryz.underlying29 rfl (by kernel_rfl) rfl q5 Tryz.underlying37 rfl (by kernel_rfl)) rfl ?_
    obtain ⟨e1, e2, e3⟩ := HN.out
    unfold DoP
    rw [e1, e2, e3]
    exact ⟨V5, X5, rfl, q1, q2, q3⟩
  · have hb : (datE F Q != 0) = true := by simp [h0]
    obtain ⟨e4, e5⟩ := HE.out.2 h0
    have HN2 := Lib.hid (And.intro e4 e5)
    clear hdo h0 HE e4 e5
    generalize datE F Q = E at *
    have HL := Lib.hid (fun W (hx : Keep (fun i => i = w.heap.size + 1 + 1 ∨ i = w.heap.size + 1 + 1 + 1) w5 W) => (⟨cell_of_heap ((hx.block _ (heap_lt D5.b3) (fun e => by have e : w.heap.size + 1 = w.heap.size + 1 + 1 ∨ w.heap.size + 1 = w.heap.size + 1 + 1 + 1 := e; omega)).trans D5.b3) rfl, (hx.block _ (heap_lt g5) (fun e => by have e : s = w.heap.size + 1 + 1 ∨ s = w.heap.size + 1 + 1 + 1 := e; omega)).trans g5⟩ : W.cell? ⟨w.heap.size + 1, 0, none⟩ = some (.int .i64 Q.k) ∧ W.heap[s]? = some (.cells (filC V2 F) 29 (0, 0))))
    have hs : Keep (fun i => i = w.heap.size + 1 + 1 ∨ i = w.heap.size + 1 + 1 + 1) w5 w5.drew := Keep.of_ext hd5
    go_upto_region 7 with fail
    refine wp_region_held_drew (S := fun W => Keep (fun i => i = w.heap.size + 1 + 1 ∨ i = w.heap.size + 1 + 1 + 1) w5 W) (by kernel_rfl) hs (fun _ => ?_)
    refine wpAnyH_takeD (i := 0) (d := 33) rfl rfl (by kernel_rfl) (by kernel_rfl) (by kernel_rfl) (fun _ _ _ h => h) (yieldsIf_load_row (by rfl) 29 (.tmp 7) rfl (s) rfl 29 _ (0, 0) _ (fun w' hw' => (HL.out _ hw').2) Tryz.underlying29 rfl (by kernel_rfl)) hs ?_
    simp only [Act.put, List.setIfInBounds_toArray, List.set_cons_succ, List.set_cons_zero]
    refine wpAnyH_takeD (i := 1) (d := 34) (v := .pointer (some ⟨w.heap.size + 1, 0, none⟩)) rfl rfl (by kernel_rfl) (by kernel_rfl) (by kernel_rfl) (fun _ _ _ h => h) (Or.inl ⟨by rfl, fun W hW => by go_simp⟩) hs ?_
    simp only [Act.put, List.setIfInBounds_toArray, List.set_cons_succ, List.set_cons_zero]
    refine wpAnyH_takeD (i := 2) (d := 35) (v := .int .i64 Q.k) rfl rfl (by kernel_rfl) (by kernel_rfl) (by kernel_rfl) (fun _ _ _ h => h) (Or.inl ⟨by rfl, fun W hW => by have k0 := (HL.out W hW).1; go_simp⟩) hs ?_
    simp only [Act.put, List.setIfInBounds_toArray, List.set_cons_succ, List.set_cons_zero]
    refine wpAnyH_takeD (i := 3) (d := 36) (v := .int .i64 E) rfl rfl (by kernel_rfl) (by kernel_rfl) (by kernel_rfl) (fun _ _ _ h => h) (Or.inl ⟨by rfl, fun W hW => by go_simp⟩) hs ?_
    simp only [Act.put, List.setIfInBounds_toArray, List.set_cons_succ, List.set_cons_zero]
    refine wpAnyH_takeD (i := 4) (d := 37) (v := .agg (telC zeroQV { zeroT with k := Q.k, cd := E })) rfl rfl (by kernel_rfl) (by kernel_rfl) (by kernel_rfl) (fun _ _ _ h => h) (Or.inl ⟨by rfl, fun W hW => by kernel_rfl⟩) hs ?_
    simp only [Act.put, List.setIfInBounds_toArray, List.set_cons_succ, List.set_cons_zero]
    refine wpAnyH_ready (rs := [5]) (by kernel_rfl) (by simp) (AllReadyH.cons rfl (fun K hK => ?_) AllReadyH.nil)
    refine step_store_row rfl 29 (.tmp 4) (.tmp 33) rfl (w.heap.size + 1 + 1) _ rfl rfl 29 _ (hd5.block D5.b4) (by kernel_rfl) rfl (by simp [filC, Value.oneCell']) rfl ?_
    refine hK.out _ _ ((Keep.of_ext hd5).trans (keepRowY _ _ _) (fun i hi => .inl (.inl hi))) (fun hs => ?_)
    clear hK K
    simp only [Act.put]
    refine wpAnyH_ready (rs := [6]) (by kernel_rfl) (by simp) (AllReadyH.cons rfl (fun K hK => ?_) AllReadyH.nil)
    refine step_store_row rfl 37 (.tmp 5) (.tmp 37) rfl (w.heap.size + 1 + 1 + 1) _ rfl rfl 37 _ ((setRow_other _ _ _ _ (by omega)).trans (hd5.block D5.b5)) (by kernel_rfl) rfl (by simp [telC, Value.oneCell']) rfl ?_
    refine hK.out _ _ (hs.trans (keepRowY _ _ _) (fun i hi => .inl (.inr hi))) (fun hs => ?_)
    clear hK K
    simp only [Act.put]
    refine wpAnyH_takeD (i := 7) (d := 6) (v := .int .i64 0) rfl rfl (by kernel_rfl) (by kernel_rfl) (by kernel_rfl) (fun _ _ _ h => h) (Or.inl ⟨by rfl, fun W hW => by go_simp⟩) hs ?_
    simp only [Act.put, List.setIfInBounds_toArray, List.set_cons_succ, List.set_cons_zero]
    refine wpAnyH_done (by kernel_rfl) ?_ _
    go_wp2_with fail
    have DE := D5.ext hd5
    obtain ⟨q1, q2, q3, q4, q5⟩ := DE.told (hF5.ext hd5) (telnone_at (T := { zeroT with k := Q.k, cd := E }) _ rfl rfl)
    refine bodyPost_ret (results_rows_tmp _ _ (w.heap.size + 1 + 1) (w.heap.size + 1 + 1 + 1) 29 37 _ _ (0, 0) (0, 0) _ _ rfl rfl q4 Tryz.underlying29 rfl (by kernel_rfl) rfl q5 Tryz.underlying37 rfl (by kernel_rfl)) rfl ?_
    obtain ⟨e1, e2, e3⟩ := HN.out
    obtain ⟨e4, e5⟩ := HN2.out
    unfold DoP
    rw [e1, e2, e3, e4, e5]
    exact ⟨V2, zeroQV, rfl, q1, q2, q3⟩
theorem ddo_c (hR : FRightC 26) (hA : ARightC 32) (hC : FCopyC 24)
    (hX : ∀ (k : Int) (h : knownB k = true) (w : World), Calls Tryz.prog 34 #[.int .i64 k] w fun e w' => ∃ M, e = .returned (.func (Fn.func M) #[] #[]) ∧ ExecC M k ∧ w' = w) : DDoC 12 := fun V F U Q w h hFW hsm k hW n1 n2 => by
  cases hr : rightB F with
  | false => exact ddo_noF hR V F U Q w h hr
  | true =>
    cases hq : rightQ Q with
    | false => exact ddo_noQ hR hA V F U Q w h k n1 n2 hr hq
    | true => exact ddo_yes hR hA hC hX V F U Q w h hFW hsm k hW n1 n2 hr hq
end Go.Proofs.YtlafnobjfajamaaGreat
namespace Go.Proofs.YtlafnobjfajamaaGreat
open Go.RowKit
set_option linter.unusedVariables false
set_option maxRecDepth 100000

theorem told_row (w : World) (z cs : Array Value) (t : TypeId) : Ext w ((w.alloc (.cells z t)).setRow w.heap.size cs) ∧ ((w.alloc (.cells z t)).setRow w.heap.size cs).heap[w.heap.size]? = some (.cells cs t (0, 0)) :=
  ⟨below_setRow (Ext.alloc w _) (Nat.le_refl _) _, setRow_heap _ _ _ _ _ _ (heap_alloc_new w _)⟩
end Go.Proofs.YtlafnobjfajamaaGreat
namespace Go.Proofs.YtlafnobjfajamaaGreat
open Go.RowKit
set_option linter.unusedVariables false

def TSameC (F : FuncId) : Prop := ∀ (V : QstV) (T : Tel) (U : QstV) (S : Tel) (w : World), TelAt w V T → TelAt w U S → T.nb ≤ 1000000 → T.nr ≤ 1000000 → S.nb ≤ 1000000 → S.nr ≤ 1000000 →
    Calls Tryz.prog F #[.agg (telC V T), .agg (telC U S)] w fun e w' => e = .returned (.bool (sameT T S)) ∧ Ext w w'
def TRightC (F : FuncId) : Prop := ∀ (V : QstV) (Q : Qst) (U : QstV) (T : Tel) (w : World), QstAt w V Q → QstW Q → Q.nb ≤ 1000000 → Q.nr ≤ 1000000 → TelAt w U T → T.nb ≤ 1000000 → T.nr ≤ 1000000 →
    Calls Tryz.prog F #[.agg (qstC V Q), .agg (telC U T)] w fun e w' => e = .returned (.bool (rightT Q T)) ∧ Ext w w'
def TPrintC (F : FuncId) : Prop := ∀ (V : QstV) (Q : Qst) (U : QstV) (T : Tel) (w : World), QstAt w V Q → QstW Q → Q.nb ≤ 1000000 → Q.nr ≤ 1000000 → TelAt w U T → T.nb ≤ 1000000 → T.nr ≤ 1000000 → (∀ i, i < T.nr → 0 ≤ T.R i ∧ T.R i < 65536) →
    Calls Tryz.prog F #[.agg (qstC V Q), .agg (telC U T)] w fun e w' => ∃ b q, e = .returned (.tuple #[.slice b (tprN Q T) q, .int .i64 (tprE Q T)]) ∧ tprN Q T ≤ q ∧ q ≤ maxLen ∧ HoldsG (Value.int .u8) w' b (tprN Q T) (tsayF T) ∧ Ext w w'
def refB (k c : Int) : Bool := decide (1 ≤ k ∧ k ≤ 127 ∧ 1 ≤ c ∧ c ≤ 4)
def refF (k c : Int) : Nat → Int := fun i => if i = 0 then k + 128 else c
def TRefC (F : FuncId) : Prop := ∀ (k c : Int) (w : World), Calls Tryz.prog F #[.int .i64 k, .int .i64 c] w fun e w' => ∃ b q, e = .returned (.tuple #[.slice b (if refB k c = true then 2 else 0) q, .int .i64 (if refB k c = true then 0 else 11)]) ∧ HoldsG (Value.int .u8) w' b (if refB k c = true then 2 else 0) (refF k c) ∧ Ext w w'
theorem tprE_no {Q : Qst} {T : Tel} (h : rightT Q T = false) : tprE Q T = 11 ∧ tprN Q T = 0 := by unfold tprE tprN; rw [h]; exact ⟨rfl, rfl⟩
theorem tprE_yes {Q : Qst} {T : Tel} (h : rightT Q T = true) : tprE Q T = 0 ∧ tprN Q T = tsayN T := by unfold tprE tprN; rw [h]; exact ⟨rfl, rfl⟩
end Go.Proofs.YtlafnobjfajamaaGreat
namespace Go.Proofs.YtlafnobjfajamaaGreat
open Go.RowKit
set_option linter.unusedVariables false
set_option maxRecDepth 100000

/-- A file's box and what is told's, laid one behind the other. -/
theorem two_told (w : World) (y z a b : Array Value) (t u : TypeId) : Ext w ((((w.alloc (.cells y t)).alloc (.cells z u)).setRow w.heap.size a).setRow (w.heap.size + 1) b) ∧
    ((((w.alloc (.cells y t)).alloc (.cells z u)).setRow w.heap.size a).setRow (w.heap.size + 1) b).heap[w.heap.size]? = some (.cells a t (0, 0)) ∧ ((((w.alloc (.cells y t)).alloc (.cells z u)).setRow w.heap.size a).setRow (w.heap.size + 1) b).heap[w.heap.size + 1]? = some (.cells b u (0, 0)) := by
  have h1 : ((w.alloc (.cells y t)).alloc (.cells z u)).heap[w.heap.size]? = some (.cells y t (0, 0)) := (heap_alloc_old _ _ (by simp)).trans (heap_alloc_new w _)
  have h2 : ((w.alloc (.cells y t)).alloc (.cells z u)).heap[w.heap.size + 1]? = some (.cells z u (0, 0)) := heap_new_at _ _ (by simp)
  exact ⟨below_setRow (below_setRow ((Ext.alloc w _).trans (Ext.alloc _ _)) (Nat.le_refl _) _) (by omega) _, (setRow_other _ _ _ _ (by omega)).trans (setRow_heap _ _ _ _ _ _ h1), setRow_heap _ _ _ _ _ _ ((setRow_other _ _ _ _ (by omega)).trans h2)⟩
set_option maxHeartbeats 4000000 in
theorem dcode_c (hD : DDoC 12) : DCodeC 13 := fun V F U Q w h hFW hsm k hW n1 n2 => by
  obtain ⟨W2, hW2, e0, HX⟩ : ∃ W2, W2 = (w.alloc (.cells (filC V F) 29)).alloc (.cells (qstC U Q) 31) ∧ Ext w W2 ∧ Hid (W2.heap[w.heap.size]? = some (.cells (filC V F) 29 (0, 0)) ∧ W2.heap[w.heap.size + 1]? = some (.cells (qstC U Q) 31 (0, 0))) :=
    ⟨_, rfl, (Ext.alloc w _).trans (Ext.alloc _ _), Lib.hid ⟨(heap_alloc_old _ _ (by simp)).trans (heap_alloc_new w _), heap_new_at _ _ (by simp)⟩⟩
  have KD := Lib.hid (hD V F U Q W2 (h.ext e0) hFW hsm (k.ext e0) hW n1 n2)
  have HE : Hid ((dooE F Q = 0 ∧ (dooT F Q).cd = codE F Q) ∨ (dooE F Q = 11 ∧ codE F Q = 11)) := Lib.hid (by
    cases hk : okB F Q with
    | true => obtain ⟨-, -, y1, y2, -, y3⟩ := okB_yes hk; exact .inl ⟨y2, by rw [y3, y1]; exact datT_cd F Q⟩
    | false => obtain ⟨y1, y2, -, -⟩ := okB_no hk; exact .inr ⟨y2, y1⟩)
  obtain ⟨b2, b3⟩ := HX.out
  clear h hFW hsm k hW n1 n2 hD
  generalize dooF F Q = G at *
  generalize dooT F Q = T at *
  generalize dooE F Q = E at *
  go_enter Tryz.func13, Tryz.ntmps13
  go_upto_region 1 with fail
  rw [← hW2]
  clear hW2
  go_upto_region 2 with (first
    | (refine wpList_load_row rfl 29 (.tmp 2) rfl (w.heap.size) rfl 29 _ (0, 0) _ b2 Tryz.underlying29 rfl (by kernel_rfl) ?_)
    | (refine wpList_load_row rfl 31 (.tmp 3) rfl (w.heap.size + 1) rfl 31 _ (0, 0) _ b3 Tryz.underlying31 rfl (by kernel_rfl) ?_)
    | (go_at_call 12; refine (KD.out).mono ?_; rintro e w3 ⟨V3, X3, rfl, -, -, x3⟩)
    | (refine wpList_store_row rfl 29 (.tmp 5) (.tmp 12) rfl (w3.heap.size) _ rfl rfl 29 _ ((heap_alloc_old _ _ (by simp)).trans (heap_alloc_new w3 _)) (by kernel_rfl) rfl (by simp [filC, Value.oneCell']) ?_)
    | (refine wpList_store_row rfl 37 (.tmp 6) (.tmp 13) rfl (w3.heap.size + 1) _ rfl rfl 37 _ ((setRow_other _ _ _ _ (by omega)).trans (heap_new_at _ _ (by simp))) (by kernel_rfl) rfl (by simp [telC, Value.oneCell']) ?_))
  obtain ⟨W4, hW4, x4, -, g6⟩ : ∃ W, W = ((((w3.alloc (.cells #[.int .i64 0, .int .i64 0, .int .i64 0, .int .i64 0, .int .i64 0, .int .i64 0, .int .i64 0, .int .i64 0, .int .i64 0, .int .i64 0, .slice none 0 0, .slice none 0 0, .slice none 0 0, .slice none 0 0] 29)).alloc (.cells #[.int .i64 0, .int .i64 0, .int .i64 0, .int .i64 0, .int .i64 0, .int .i64 0, .int .i64 0, .slice none 0 0, .slice none 0 0] 37)).setRow w3.heap.size (filC V3 G)).setRow (w3.heap.size + 1) (telC X3 T)) ∧ Ext w3 W ∧ W.heap[w3.heap.size]? = some (.cells (filC V3 G) 29 (0, 0)) ∧ W.heap[w3.heap.size + 1]? = some (.cells (telC X3 T) 37 (0, 0)) := ⟨_, rfl, two_told w3 _ _ _ _ _ _⟩
  rw [← hW4]
  clear hW4
  have c6 : W4.cell? ⟨w3.heap.size + 1, 1, none⟩ = some (.int .i64 T.cd) := cell_of_heap g6 rfl
  have xx := (e0.trans x3).trans x4
  clear b2 b3 g6 x3 x4 e0 KD HX
  rcases HE.out with ⟨y1, y2⟩ | ⟨y1, y2⟩
  · have HR := Lib.hid y2
    subst y1
    clear y2 HE
    go_wp2
    go_ret
    exact ⟨by rw [← HR.out] <;> rfl, xx⟩
  · have HR := Lib.hid y2
    subst y1
    clear y2 HE
    go_wp2
    go_ret
    exact ⟨by rw [HR.out] <;> rfl, xx⟩
/-- Why nothing is said. -/
def unhE (n : Nat) (f : Nat → Int) : Int := if n = 0 then 12 else if f 0 = 0 ∨ 128 ≤ f 0 then 15 else 0
theorem srv_unh {F : Fil} {n : Nat} {f : Nat → Int} (h : rightB F = true) : srvE F n f = unhE n f := by unfold srvE unhE; rw [if_neg (by rw [h]; decide)]
set_option maxHeartbeats 2000000 in
theorem unheard_v {n : Nat} {f : Nat → Int} {E : Int} (hE : unhE n f = E) (a : Option Addr) (c : Nat) (w : World) (ha : Holds .u8 w a n f) (hf : ∀ i, i < n → 0 ≤ f i ∧ f i < 256) : Calls Tryz.prog 44 #[.slice a n c] w fun e w' => e = .returned (.int .i64 E) ∧ w' = w := by
  unfold unhE at hE
  by_cases h0 : n = 0
  · subst h0
    have hE : 12 = E := by simpa using hE
    subst hE
    clear ha hf
    go_enter Tryz.func44, Tryz.ntmps44
    go_wp2
    go_ret
    exact ⟨rfl, rfl⟩
  · rw [if_neg h0] at hE
    obtain ⟨b, off, rfl, hlt, hc⟩ := ha.resolve_left h0
    have hc0 := hc 0 (by omega)
    rw [Nat.add_zero] at hc0
    have hb := hf 0 (by omega)
    have h0I : (0 : Int) < n := by omega
    have hb0 : ((n : Int) == 0) = false := by simp; omega
    clear hf hc hlt ha h0
    generalize f 0 = x at *
    by_cases h1 : x = 0
    · subst h1
      have hE : 15 = E := by simpa using hE
      subst hE
      clear hb
      go_enter Tryz.func44, Tryz.ntmps44
      go_wp2
      go_ret
      exact ⟨rfl, rfl⟩
    · have f1 : (x == 0) = false := by simp [h1]
      by_cases h2 : 128 ≤ x
      · have f2 : decide (128 ≤ x) = true := decide_eq_true h2
        have hE : 15 = E := by rw [if_pos (Or.inr h2)] at hE; exact hE
        subst hE
        clear hb h1 h2
        go_enter Tryz.func44, Tryz.ntmps44
        go_wp2
        go_ret
        exact ⟨rfl, rfl⟩
      · have f2 : decide (128 ≤ x) = false := decide_eq_false h2
        have hE : 0 = E := by rw [if_neg (not_or.2 ⟨h1, h2⟩)] at hE; exact hE
        subst hE
        clear hb h1 h2
        go_enter Tryz.func44, Tryz.ntmps44
        go_wp2
        go_ret
        exact ⟨rfl, rfl⟩
/-- What is said stays, whatever is laid into the file's box. -/
theorem serve_kept {W : World} {g m : Nat} {V : FilV} {F : Fil} {t : TypeId} {b : Option Addr} {f : Nat → Int} (hg : W.heap[g]? = some (.cells (filC V F) t (0, 0))) (h : HoldsG (Value.int .u8) W b m f) (ds : Array Value) : HoldsG (Value.int .u8) (W.setRow g ds) b m f :=
  held_plain hg (fun u hu => by simp [filC] at hu) (keepRowY W g ds) h
def AParseC (Fn : FuncId) : Prop := ∀ (a : Option Addr) (n c : Nat) (f : Nat → Int) (w : World), Holds .u8 w a n f → n ≤ 100000 → n ≤ c → c ≤ maxLen → (∀ i, i < n → 0 ≤ f i ∧ f i < 256) →
    Calls Tryz.prog Fn #[.slice a n c] w fun e w' => ∃ V, e = .returned (.tuple #[.agg (qstC V (paQ n f)), .int .i64 (paE n f)]) ∧ QstAt w' V (paQ n f) ∧ Ext w w'
set_option maxHeartbeats 8000000 in
theorem dserve_c (hR : FRightC 26) (hC : FCopyC 24) (hP : AParseC 45) (hD : DDoC 12) (hT : TPrintC 47) (hF : TRefC 46) : DServeC 21 := fun V F a n c f w h hFW hsm ha hn hnc hcm hf => by
  obtain ⟨W2, hW2, e0, HX⟩ : ∃ W2, W2 = (w.alloc (.cells (filC V F) 29)).alloc (.cells #[.int .i64 0, .int .i64 0, .int .i64 0, .int .i64 0, .int .i64 0, .int .i64 0, .int .i64 0, .int .i64 0, .int .i64 0, .int .i64 0, .slice none 0 0, .slice none 0 0, .slice none 0 0, .slice none 0 0] 29) ∧ Ext w W2 ∧ Hid (∀ W, Ext W2 W → W.heap[w.heap.size]? = some (.cells (filC V F) 29 (0, 0)) ∧ W.heap[w.heap.size + 1]? = some (.cells (filC zeroV zeroF) 29 (0, 0))) :=
    ⟨_, rfl, (Ext.alloc w _).trans (Ext.alloc _ _), Lib.hid fun W x => ⟨x.block ((heap_alloc_old _ _ (by simp)).trans (heap_alloc_new w _)), x.block (heap_new_at _ _ (by simp))⟩⟩
  obtain ⟨r2, -⟩ := HX.out W2 (Ext.refl _)
  have KR := Lib.hid (fun W (x : Ext w W) => hR V F W (h.ext x))
  have KC := Lib.hid (fun W (x : Ext w W) => hC V F W (h.ext x) hsm)
  have HF0 := Lib.hid (fun W (x : Ext w W) => h.ext x)
  cases hr : rightB F with
  | false =>
    rw [hr] at KR
    have HE := Lib.hid (show srvE F n f = 11 from by unfold srvE; rw [if_pos hr])
    have HN := Lib.hid (show srvN F n f = 0 from by unfold srvN; rw [if_pos (by rw [HE.out]; decide)])
    clear hr h hsm ha hf hn hnc hcm hFW hR hC hP hD hT hF KC
    go_enter Tryz.func21, Tryz.ntmps21
    go_upto_region 1 with fail
    rw [← hW2]
    clear hW2
    go_upto_region 2 with (first
    | (refine wpList_load_row rfl 29 (.tmp 2) rfl (w.heap.size) rfl 29 _ (0, 0) _ r2 Tryz.underlying29 rfl (by kernel_rfl) ?_)
    | (go_at_call 26; refine (KR.out _ e0).mono ?_; rintro e w3 ⟨rfl, x3⟩))
    obtain ⟨b2, b4⟩ := HX.out _ x3
    have xe := e0.trans x3
    clear r2 b2
    go_wp2_with (first
    | (refine wpList_store_row rfl 29 (.tmp 4) (.tmp 20) rfl (w.heap.size + 1) _ rfl rfl 29 _ b4 (by kernel_rfl) rfl (by simp [Value.oneCell']) ?_))
    refine bodyPost_ret (results_row_tmps _ _ (w.heap.size + 1) 29 _ (0, 0) _ rfl rfl (setRow_heap _ _ _ _ _ _ b4) Tryz.underlying29 rfl (by kernel_rfl)) rfl ?_
    unfold ServeP
    rw [HE.out, HN.out]
    exact ⟨zeroV, zeroF, none, 0, rfl, fun h => absurd rfl h, zero_at _, .inl rfl, below_setRow xe (by omega) _⟩
  | true =>
    rw [hr] at KR
    obtain ⟨E, hE⟩ : ∃ E, unhE n f = E := ⟨_, rfl⟩
    have hS : srvE F n f = E := (srv_unh hr).trans hE
    have KU := Lib.hid (fun W (x : Ext w W) => unheard_v hE a c W (ha.ext x) hf)
    by_cases hz : E = 0
    · subst hz
      have hne : n ≠ 0 ∧ ¬ (f 0 = 0 ∨ 128 ≤ f 0) := by
        unfold unhE at hE
        by_cases h0 : n = 0
        · rw [if_pos h0] at hE; cases hE
        · rw [if_neg h0] at hE
          by_cases h1 : f 0 = 0 ∨ 128 ≤ f 0
          · rw [if_pos h1] at hE; cases hE
          · exact ⟨h0, h1⟩
      have KP := Lib.hid (fun W (x : Ext w W) => hP a n c f W (ha.ext x) hn hnc hcm hf)
      by_cases hp : paE n f = 0
      · obtain ⟨s1, s2, s3⟩ := srv_does hS hp
        obtain ⟨p1, p2, -, -, -⟩ := parse_parts hp
        obtain ⟨m1, m2, m3⟩ := gue_small hn hf
        rw [← p1] at m1 m2 m3
        have hQW := qst_w p2 m3
        have hTr := dat_told (F := F) p2 hr
        obtain ⟨t1, t2⟩ := told_small hTr
        have hok : okB F (paQ n f) = true := by unfold okB; rw [hr, p2]; rfl
        obtain ⟨-, -, -, o2, o3, o4⟩ := okB_yes hok
        have HE := Lib.hid (And.intro hS (And.intro s1 (And.intro s2 s3)))
        have KD := Lib.hid (fun W VQ (x : Ext w W) (hq : QstAt W VQ (paQ n f)) => hD V F VQ (paQ n f) W (h.ext x) hFW hsm hq hQW m1 m2)
        rw [o2, o3, o4] at KD
        have HTN := Lib.hid (tprE_yes hTr)
        have KT := Lib.hid (fun W VQ X (hq : QstAt W VQ (paQ n f)) (ht : TelAt W X (datT F (paQ n f))) => hT VQ (paQ n f) X (datT F (paQ n f)) W hq hQW m1 m2 ht (by omega) (by omega) (told_w p2 hr hFW m3))
        rw [HTN.out.1, HTN.out.2] at KT
        rw [hp] at KP
        generalize datT F (paQ n f) = T at *
        generalize datF F (paQ n f) = G at *
        generalize paQ n f = Q at *
        clear hr h hsm ha hf hn hnc hcm hFW hR hC hP hD hT hF hE hS hne hp s1 s2 s3 p1 p2 m1 m2 m3 hQW hTr t1 t2 hok o2 o3 o4 HTN
        go_enter Tryz.func21, Tryz.ntmps21
        go_upto_region 1 with fail
        rw [← hW2]
        clear hW2
        go_upto_region 6 with (first
          | (refine wpList_load_row rfl 29 (.tmp 2) rfl (w.heap.size) rfl 29 _ (0, 0) _ r2 Tryz.underlying29 rfl (by kernel_rfl) ?_)
          | (go_at_call 26; refine (KR.out _ e0).mono ?_; rintro e w3 ⟨rfl, x3⟩)
          | (go_at_call 44; refine (KU.out _ (e0.trans x3)).mono ?_; rintro e w4 ⟨rfl, ew⟩; rw [ew]; clear ew w4))
        have xe := e0.trans x3
        clear r2 KR KU
        go_upto_region 7 with (first
          | (go_at_call 45; refine (KP.out _ xe).mono ?_; rintro e w5 ⟨VQ, rfl, hQ5, x5⟩)
          | (refine wpList_store_row rfl 31 (.tmp 8) (.tmp 31) rfl (w5.heap.size) _ rfl rfl 31 _ (heap_alloc_new w5 _) (by kernel_rfl) rfl (by simp [qstC, Value.oneCell']) ?_))
        obtain ⟨W7, hW7, x7, g7⟩ : ∃ W7, W7 = (w5.alloc (.cells #[.int .i64 0, .int .i64 0, .int .i64 0, .int .i64 0, .int .i64 0, .int .i64 0, .int .i64 0, .int .i64 0, .slice none 0 0, .slice none 0 0] 31)).setRow w5.heap.size (qstC VQ Q) ∧ Ext w5 W7 ∧ W7.heap[w5.heap.size]? = some (.cells (qstC VQ Q) 31 (0, 0)) := ⟨_, rfl, boxed_row _ _ _ _⟩
        rw [← hW7]
        clear hW7 KP
        have y7 := (x3.trans x5).trans x7
        have hQ7 := hQ5.ext x7
        generalize w5.heap.size = G7 at g7 ⊢
        clear x3 x5 x7 hQ5 xe
        obtain ⟨b7, -⟩ := HX.out _ y7
        go_upto_region 11 with (first
          | (refine wpList_load_row rfl 29 (.tmp 2) rfl (w.heap.size) rfl 29 _ (0, 0) _ b7 Tryz.underlying29 rfl (by kernel_rfl) ?_)
          | (refine wpList_load_row rfl 31 (.tmp 8) rfl (G7) rfl 31 _ (0, 0) _ g7 Tryz.underlying31 rfl (by kernel_rfl) ?_)
          | (go_at_call 12; refine (KD.out _ VQ (e0.trans y7) hQ7).mono ?_; rintro e w8 ⟨V8, X8, rfl, hF8, hT8, x8⟩)
          | (refine wpList_store_row rfl 29 (.tmp 12) (.tmp 51) rfl (w8.heap.size) _ rfl rfl 29 _ ((heap_alloc_old _ _ (by simp)).trans (heap_alloc_new w8 _)) (by kernel_rfl) rfl (by simp [filC, Value.oneCell']) ?_)
          | (refine wpList_store_row rfl 37 (.tmp 13) (.tmp 52) rfl (w8.heap.size + 1) _ rfl rfl 37 _ ((setRow_other _ _ _ _ (by omega)).trans (heap_new_at _ _ (by simp))) (by kernel_rfl) rfl (by simp [telC, Value.oneCell']) ?_))
        obtain ⟨W9, hW9, x9, k9, l9⟩ : ∃ W, W = ((((w8.alloc (.cells #[.int .i64 0, .int .i64 0, .int .i64 0, .int .i64 0, .int .i64 0, .int .i64 0, .int .i64 0, .int .i64 0, .int .i64 0, .int .i64 0, .slice none 0 0, .slice none 0 0, .slice none 0 0, .slice none 0 0] 29)).alloc (.cells #[.int .i64 0, .int .i64 0, .int .i64 0, .int .i64 0, .int .i64 0, .int .i64 0, .int .i64 0, .slice none 0 0, .slice none 0 0] 37)).setRow w8.heap.size (filC V8 G)).setRow (w8.heap.size + 1) (telC X8 T)) ∧ Ext w8 W ∧ W.heap[w8.heap.size]? = some (.cells (filC V8 G) 29 (0, 0)) ∧ W.heap[w8.heap.size + 1]? = some (.cells (telC X8 T) 37 (0, 0)) := ⟨_, rfl, two_told w8 _ _ _ _ _ _⟩
        rw [← hW9]
        clear hW9 KD b7
        have y9 := (y7.trans x8).trans x9
        have hQ9 := (hQ7.ext x8).ext x9
        have hF9 := hF8.ext x9
        have hT9 := hT8.ext x9
        have g9 := (x8.trans x9).block g7
        generalize w8.heap.size = G8 at k9 l9 ⊢
        clear x8 x9 y7 hQ7 hF8 hT8 g7
        go_upto_region 12 with (first
          | (refine wpList_load_row rfl 31 (.tmp 8) rfl (G7) rfl 31 _ (0, 0) _ g9 Tryz.underlying31 rfl (by kernel_rfl) ?_)
          | (refine wpList_load_row rfl 37 (.tmp 13) rfl (G8 + 1) rfl 37 _ (0, 0) _ l9 Tryz.underlying37 rfl (by kernel_rfl) ?_)
          | (go_at_call 47; refine (KT.out _ VQ X8 hQ9 hT9).mono ?_; rintro e wA ⟨pb, pq, rfl, -, -, hpb, xA⟩))
        have yA := y9.trans xA
        obtain ⟨-, b4⟩ := HX.out _ yA
        have kA := xA.block k9
        have hFA := hF9.ext xA
        clear k9 l9 g9 hQ9 hT9 hF9 y9 xA KT
        go_wp2_with (first
          | (refine wpList_load_row rfl 29 (.tmp 12) rfl (G8) rfl 29 _ (0, 0) _ kA Tryz.underlying29 rfl (by kernel_rfl) ?_)
          | (refine wpList_store_row rfl 29 (.tmp 4) (.tmp 60) rfl (w.heap.size + 1) _ rfl rfl 29 _ b4 (by kernel_rfl) rfl (by simp [filC, Value.oneCell']) ?_))
        refine bodyPost_ret (results_row_tmps _ _ (w.heap.size + 1) 29 _ (0, 0) _ rfl rfl (setRow_heap _ _ _ _ _ _ b4) Tryz.underlying29 rfl (by kernel_rfl)) rfl ?_
        obtain ⟨d1, d2, d3, d4⟩ := HE.out
        unfold ServeP
        rw [d1, d2, d3, d4]
        exact ⟨V8, G, pb, pq, rfl, fun _ => rfl, hFA.row b4 (plain_fil _ _) _, serve_kept b4 hpb _, below_setRow (e0.trans yA) (by omega) _⟩
      · obtain ⟨s1, s2, s3⟩ := srv_not hS hp
        have HE := Lib.hid (And.intro hS (And.intro s1 (And.intro s2 s3)))
        obtain ⟨b, off, rfl, hlt, hc⟩ := ha.resolve_left hne.1
        have hc0 := hc 0 (by omega)
        rw [Nat.add_zero] at hc0
        have HCP := Lib.hid (fun W (x : Ext w W) => x.cell hlt hc0)
        have h0I : (0 : Int) < n := by have := hne.1; omega
        have hb := hf 0 (by have := hne.1; omega)
        have hrf : refB (f 0) (paE n f) = true := by
          unfold refB
          have := hne.2
          rcases paE_ways n f with q | q | q | q
          · exact absurd q.2 hne.1
          all_goals (rw [decide_eq_true_iff]; omega)
        have KF := Lib.hid (fun W => hF (f 0) (paE n f) W)
        rw [hrf] at KF
        have hpb : (paE n f != 0) = true := by simpa using hp
        have HCV := Lib.hid (show refF (f 0) (paE n f) = fun i => if i = 0 then f 0 + 128 else paE n f from rfl)
        rw [HCV.out] at KF
        generalize paQ n f = Q at *
        generalize paE n f = PE at *
        generalize f 0 = x0 at *
        clear hr h hsm ha hf hn hnc hcm hFW hR hC hP hD hT hF hE hS hne hp s1 s2 s3 hrf hc hc0 hlt HCV
        have hcv : IntKind.i64.wrap x0 = x0 := IntWalk.i64_in _ (by omega)
        clear hb
        go_enter Tryz.func21, Tryz.ntmps21
        go_upto_region 1 with fail
        rw [← hW2]
        clear hW2
        go_upto_region 6 with (first
          | (refine wpList_load_row rfl 29 (.tmp 2) rfl (w.heap.size) rfl 29 _ (0, 0) _ r2 Tryz.underlying29 rfl (by kernel_rfl) ?_)
          | (go_at_call 26; refine (KR.out _ e0).mono ?_; rintro e w3 ⟨rfl, x3⟩)
          | (go_at_call 44; refine (KU.out _ (e0.trans x3)).mono ?_; rintro e w4 ⟨rfl, ew⟩; rw [ew]; clear ew w4))
        have xe := e0.trans x3
        clear r2 KR KU
        go_upto_region 7 with (first
          | (go_at_call 45; refine (KP.out _ xe).mono ?_; rintro e w5 ⟨VQ, rfl, -, x5⟩)
          | (refine wpList_store_row rfl 31 (.tmp 8) (.tmp 31) rfl (w5.heap.size) _ rfl rfl 31 _ (heap_alloc_new w5 _) (by kernel_rfl) rfl (by simp [qstC, Value.oneCell']) ?_))
        obtain ⟨W7, hW7, x7, -⟩ : ∃ W7, W7 = (w5.alloc (.cells #[.int .i64 0, .int .i64 0, .int .i64 0, .int .i64 0, .int .i64 0, .int .i64 0, .int .i64 0, .int .i64 0, .slice none 0 0, .slice none 0 0] 31)).setRow w5.heap.size (qstC VQ Q) ∧ Ext w5 W7 ∧ W7.heap[w5.heap.size]? = some (.cells (qstC VQ Q) 31 (0, 0)) := ⟨_, rfl, boxed_row _ _ _ _⟩
        rw [← hW7]
        clear hW7 KP
        have y7 := (x3.trans x5).trans x7
        have cp := HCP.out _ (e0.trans y7)
        generalize w5.heap.size = G7
        clear x3 x5 x7 xe
        go_upto_region 9 with (first
          | (go_at_call 46; refine (KF.out _).mono ?_; rintro e w8 ⟨pb, pq, rfl, hpb, x8⟩))
        have y8 := y7.trans x8
        obtain ⟨b8, -⟩ := HX.out _ y8
        clear cp KF y7 x8
        go_wp2_with (first
          | (refine wpList_load_row rfl 29 (.tmp 2) rfl (w.heap.size) rfl 29 _ (0, 0) _ b8 Tryz.underlying29 rfl (by kernel_rfl) ?_)
          | (go_at_call 24; refine (KC.out _ (e0.trans y8)).mono ?_; rintro e w9 ⟨V9, rfl, hF9, x9, -⟩; have b4 := (HX.out _ (y8.trans x9)).2)
          | (refine wpList_store_row rfl 29 (.tmp 4) (.tmp 45) rfl (w.heap.size + 1) _ rfl rfl 29 _ b4 (by kernel_rfl) rfl (by simp [filC, Value.oneCell']) ?_))
        refine bodyPost_ret (results_row_tmps _ _ (w.heap.size + 1) 29 _ (0, 0) _ rfl rfl (setRow_heap _ _ _ _ _ _ b4) Tryz.underlying29 rfl (by kernel_rfl)) rfl ?_
        obtain ⟨d1, d2, d3, d4⟩ := HE.out
        unfold ServeP
        rw [d1, d2, d3, d4]
        exact ⟨V9, F, pb, pq, rfl, fun _ => rfl, hF9.row b4 (plain_fil _ _) _, serve_kept b4 (hpb.ext x9) _, below_setRow (e0.trans (y8.trans x9)) (by omega) _⟩
    · obtain ⟨s0, s1, s2⟩ := srv_err hS hz
      have HE := Lib.hid (And.intro s0 (And.intro s1 s2))
      have hzb : (E != 0) = true := by simpa using hz
      clear hr h hsm ha hf hn hnc hcm hFW hR hC hP hD hT hF hE hS hz s0 s1 s2
      go_enter Tryz.func21, Tryz.ntmps21
      go_upto_region 1 with fail
      rw [← hW2]
      clear hW2
      go_upto_region 5 with (first
        | (refine wpList_load_row rfl 29 (.tmp 2) rfl (w.heap.size) rfl 29 _ (0, 0) _ r2 Tryz.underlying29 rfl (by kernel_rfl) ?_)
        | (go_at_call 26; refine (KR.out _ e0).mono ?_; rintro e w3 ⟨rfl, x3⟩)
        | (go_at_call 44; refine (KU.out _ (e0.trans x3)).mono ?_; rintro e w4 ⟨rfl, ew⟩; rw [ew]; clear ew w4))
      have xe := e0.trans x3
      obtain ⟨b3, -⟩ := HX.out _ x3
      clear r2 KR KU
      go_wp2_with (first
        | (refine wpList_load_row rfl 29 (.tmp 2) rfl (w.heap.size) rfl 29 _ (0, 0) _ b3 Tryz.underlying29 rfl (by kernel_rfl) ?_)
        | (go_at_call 24; refine (KC.out _ xe).mono ?_; rintro e w9 ⟨V9, rfl, hF9, x9, -⟩; have b4 := (HX.out _ (x3.trans x9)).2)
        | (refine wpList_store_row rfl 29 (.tmp 4) (.tmp 26) rfl (w.heap.size + 1) _ rfl rfl 29 _ b4 (by kernel_rfl) rfl (by simp [filC, Value.oneCell']) ?_))
      refine bodyPost_ret (results_row_tmps _ _ (w.heap.size + 1) 29 _ (0, 0) _ rfl rfl (setRow_heap _ _ _ _ _ _ b4) Tryz.underlying29 rfl (by kernel_rfl)) rfl ?_
      obtain ⟨d1, d2, d3⟩ := HE.out
      unfold ServeP
      rw [d1, d2, d3]
      exact ⟨V9, F, none, 0, rfl, fun _ => rfl, hF9.row b4 (plain_fil _ _) _, .inl rfl, below_setRow (e0.trans (x3.trans x9)) (by omega) _⟩
end Go.Proofs.YtlafnobjfajamaaGreat
namespace Go.Proofs.YtlafnobjfajamaaGreat
open Go.RowKit
set_option linter.unusedVariables false
set_option maxRecDepth 100000

/-- An ask that is asked for its fields, in a block of the call's own. -/
structure FieS (w0 wr : World) (b off g : Nat) (V : QstV) (k : Int) (T : Qst) : Prop where
  x : Ext w0 wr
  lo : w0.heap.size ≤ g
  at_ : wr.heap[g]? = some (.cells (qstC V T) 104 (0, 0))
  fl : FldS wr b off g k
  ne : b ≠ g
theorem FieS.ext {w0 wr wr' : World} {b off g : Nat} {V : QstV} {k : Int} {T : Qst} (h : FieS w0 wr b off g V k T) (x : Ext wr wr') : FieS w0 wr' b off g V k T :=
  ⟨h.x.trans x, h.lo, x.block h.at_, h.fl.ext x, h.ne⟩
theorem keepCellE (w : World) (g o : Nat) (v : Value) : Keep (fun i => i = g) w (w.setCell ⟨g, o, none⟩ v) := ⟨rfl, rfl, rfl, by simp, fun k _ hn => Below.heap_setCell w ⟨g, o, none⟩ v k hn⟩
theorem FieS.set {w0 wr : World} {b off g : Nat} {V : QstV} {k : Int} {T : Qst} {o : Nat} (v : Int) (h : FieS w0 wr b off g V k T) (h1 : 1 ≤ o) (h7 : o ≤ 7) : FieS w0 (wr.setCell ⟨g, o, none⟩ (.int .i64 v)) b off g V k (setQ o v T) :=
  ⟨Below.setCell h.x h.lo _, h.lo, by rw [← setQ_cells V T v h1 h7]; exact heap_setCell_same _ _ o _ _ _ h.at_, h.fl.keep (keepCellE wr g o _) (fun e => h.ne e), h.ne⟩
theorem frozenE {w : World} {B j : Nat} {cs : Array Value} {t : TypeId} (h : w.heap[B]? = some (.cells cs t (0, 0))) : w.frozen? ⟨B, j, none⟩ = false := by simp [World.frozen?, h]
set_option maxHeartbeats 8000000 in
theorem aright_any (V : QstV) (Q : Qst) (w : World) (h : QstAt w V Q) (n1 : Q.nb ≤ 1000000) (n2 : Q.nr ≤ 1000000) : Calls Tryz.prog 32 #[.agg (qstC V Q)] w fun e w' => e = .returned (.bool (rightQ Q)) ∧ Ext w w' := by
  obtain ⟨W0, hW0, HX, He⟩ : ∃ W0, W0 = w.alloc (.cells (qstC V Q) 31) ∧ Hid (∀ W, Ext W0 W → W.heap[w.heap.size]? = some (.cells (qstC V Q) 31 (0, 0))) ∧ Hid (Ext w W0) := ⟨_, rfl, Lib.hid fun W hx => hx.block (heap_alloc_new w _), Lib.hid (Ext.alloc w _)⟩
  have HK0 := Lib.hid (fun W (x : Ext W0 W) => (show W.cell? ⟨w.heap.size, 0, none⟩ = some (.int .i64 Q.k) from cell_of_heap (HX.out W x) rfl))
  have c0 := HK0.out _ (Ext.refl W0)
  cases hk : knownB Q.k with
  | false =>
    have HR : Hid (rightQ Q = false) := Lib.hid (by unfold rightQ; rw [hk]; rfl)
    have HK := Lib.hid hk
    clear hk h n1 n2
    go_enter Tryz.func32, Tryz.ntmps32
    go_upto_region 1 with fail
    rw [← hW0]
    clear hW0
    go_wp2_with fail
    refine (aknown_v HK.out _).mono ?_; rintro e w1 ⟨rfl, hw1⟩
    rw [hw1]
    clear hw1
    go_wp2
    go_ret
    exact ⟨by rw [HR.out]; rfl, He.out⟩
  | true =>
    have HQ := Lib.hid (fun W (x : Ext w W) => h.ext x)
    have HN := Lib.hid (And.intro n1 n2)
    have HK := Lib.hid hk
    have HRL := Lib.hid (rightL_iff hk)
    have hlo : w.heap.size < W0.heap.size := by rw [hW0]; simp
    clear hk h n1 n2
    go_enter Tryz.func32, Tryz.ntmps32
    go_upto_region 1 with fail
    rw [← hW0]
    clear hW0
    go_wp2_with fail
    refine (aknown_v HK.out _).mono ?_; rintro e w1 ⟨rfl, hw1⟩
    rw [hw1]
    clear hw1 w1
    have hrow := HX.out _ (Ext.refl W0)
    obtain ⟨W3, hW3, x3, g3⟩ : ∃ W, W = ((W0.alloc (.cells #[.int .i64 0, .int .i64 0, .int .i64 0, .int .i64 0, .int .i64 0, .int .i64 0, .int .i64 0, .int .i64 0, .slice none 0 0, .slice none 0 0] 104)).setRow W0.heap.size (qstC V Q)) ∧ Ext W0 W ∧ W.heap[W0.heap.size]? = some (.cells (qstC V Q) 104 (0, 0)) := ⟨_, rfl, asked_row _ _ _ _⟩
    go_upto_region 4 with (first
      | (refine wpList_load_row rfl 31 (.tmp 1) rfl w.heap.size rfl 31 _ (0, 0) _ hrow Tryz.underlying31 rfl (by kernel_rfl) ?_)
      | (refine wpList_store_row rfl 104 (.tmp 3) (.tmp 12) rfl _ _ rfl rfl 104 _ (heap_new_at _ _ (by first | rfl | simp)) (by kernel_rfl) rfl (by simp [qstC, Value.oneCell']) ?_))
    rw [← hW3]
    clear hW3 hrow c0
    have c0 := HK0.out _ x3
    go_wp2_with fail
    refine (fieldsOf_yes _ HK.out _).mono ?_; rintro e w4 ⟨F, rfl, hF, hw4⟩
    rw [hw4]
    have hen := hF.enters
    have HF := Lib.hid hF.tells
    clear hw4 hF c0 w4
    go_wp2_with fail
    refine (HF.out W0.heap.size _).mono ?_; rintro e w5 ⟨b, off, rfl, hf5, hb5, x5⟩
    have hglt : W0.heap.size < W3.heap.size := heap_lt g3
    have hS : FieS W0 w5 b off W0.heap.size V Q.k (clrQ Q 0) := ⟨x3.trans x5, Nat.le_refl _, x5.block g3, hf5, by omega⟩
    have hnn := fldN_bd Q.k
    have HNN := Lib.hid (fldN_eq Q)
    clear hf5 hb5 x5 g3 hglt x3 HF hen
    obtain ⟨n, hn⟩ : ∃ n, n = fldN Q.k := ⟨_, rfl⟩
    rw [← hn] at hnn ⊢
    have HNq := Lib.hid hn
    clear hn
    go_wp2_with fail
    have HRN : Hid (n = numN Q) := Lib.hid (by rw [HNq.out, HNN.out])
    have hB0 := heap_lt hS.at_
    go_loopw [18] (fun iv wr => ∃ i : Nat, i ≤ n ∧ iv = .int .i64 i ∧ FieS W0 wr b off W0.heap.size V Q.k (clrQ Q i) ∧ ∀ j, j < i → fitK Q.k j (numF Q j) = true) (fun iv _ => n - (intOf iv).toNat)
    case atStart => exact ⟨0, Nat.zero_le _, rfl, hS, fun j hj => absurd hj (by omega)⟩
    case round =>
      obtain ⟨i, hi, rfl, hT, hall⟩ := hrel
      have HT := Lib.hid hT
      have HAll := Lib.hid hall
      clear hT hall hS hB0
      by_cases hlt : i < n
      · have hi' : i < fldN Q.k := by rw [← HNq.out]; exact hlt
        have a0 := HT.out.fl.at0 i hi'
        have a1 := HT.out.fl.at1 i hi'
        have a2 := HT.out.fl.at2 i hi'
        have a3 := HT.out.fl.at3 i hi'
        have ob := fldO_bd Q.k i
        have fb := fldB_bd Q.k i
        have hcell : wr.cell? ⟨W0.heap.size, fldO Q.k i, none⟩ = some (.int .i64 (numF Q i)) := by
          rw [cell_of_row _ _ _ _ _ _ HT.out.at_, getQ_cell V _ ob.1 ob.2, clr_num HK.out (by rw [← HRN.out]; exact hlt)]
        have hgl := heap_lt HT.out.at_
        have hltI : (i : Int) < n := by omega
        obtain ⟨B, hB⟩ : ∃ B, fitK Q.k i (numF Q i) = B := ⟨_, rfl⟩
        have HFT := Lib.hid (fun W (x : Ext wr W) => (fits_any W0.heap.size (fldO Q.k i) (fldL Q.k i) (fldH Q.k i) (fldT Q.k i) (numF Q i) W (x.cell hgl hcell) fb).mono fun e w' hh => (⟨hh.1.trans (by rw [← hB]; rfl), hh.2⟩ : e = .returned (.bool B) ∧ Ext W w'))
        have HB := Lib.hid hB
        obtain ⟨W6, hW6, y6, g6⟩ : ∃ W, W = ((wr.alloc (.cells #[.pointer none, .int .i64 0, .int .i64 0, .int .i64 0] 111)).setRow wr.heap.size #[.pointer (some ⟨W0.heap.size, fldO Q.k i, none⟩), .int .i64 (fldL Q.k i), .int .i64 (fldH Q.k i), .int .i64 (fldT Q.k i)]) ∧ Ext wr W ∧ W.heap[wr.heap.size]? = some (.cells #[.pointer (some ⟨W0.heap.size, fldO Q.k i, none⟩), .int .i64 (fldL Q.k i), .int .i64 (fldH Q.k i), .int .i64 (fldT Q.k i)] 111 (0, 0)) := ⟨_, rfl, asked_row _ _ _ _⟩
        have g6' := g6
        rw [hW6] at g6'
        clear hB hcell hi' fb hgl
        go_wp2_with (first
          | (refine wpList_store_row rfl 111 (.tmp 5) (.tmp 21) rfl _ _ rfl rfl 111 _ (heap_new_at _ _ (by first | rfl | simp)) (by kernel_rfl) rfl (by simp [Value.oneCell']) ?_)
          | (refine wpList_load_row rfl 111 (.tmp 5) rfl wr.heap.size rfl 111 _ (0, 0) _ g6' Tryz.underlying111 rfl (by kernel_rfl) ?_))
        rw [← hW6]
        clear hW6 g6'
        refine (HFT.out _ y6).mono ?_; rintro e w7 ⟨rfl, x7⟩
        cases B with
        | false =>
          have HR : Hid (rightQ Q = false) := Lib.hid (by
            cases hR : rightQ Q
            · rfl
            · have := (HRL.out.1 hR).1 i (by rw [← HRN.out]; exact hlt)
              rw [HB.out] at this; cases this)
          go_wp2
          go_ret
          exact ⟨by rw [HR.out]; rfl, He.out.trans (HT.out.x.trans (y6.trans x7))⟩
        | true =>
          have c5 : w7.cell? ⟨wr.heap.size, 0, none⟩ = some (.pointer (some ⟨W0.heap.size, fldO Q.k i, none⟩)) := cell_of_heap (x7.block g6) rfl
          have HU := Lib.hid (HT.out.ext (y6.trans x7))
          have hfz : w7.frozen? ⟨W0.heap.size, fldO Q.k i, none⟩ = false := frozenE HU.out.at_
          have hcu : w7.cell? ⟨W0.heap.size, fldO Q.k i, none⟩ = some (.int .i64 (getQ (fldO Q.k i) (clrQ Q i))) := cell_of_heap HU.out.at_ (getQ_cell V _ ob.1 ob.2)
          clear a0 a1 a2 a3 g6
          go_wp2
          go_roundw
          case rel => exact ⟨i + 1, by omega, by go_num, HU.out.set 0 ob.1 ob.2, fun j hj => by
                        rcases Nat.lt_or_ge j i with h | h
                        · exact HAll.out j h
                        · obtain rfl : j = i := by omega
                          exact HB.out⟩
          case measure => simp [intOf]; omega
      · obtain rfl : i = n := by omega
        have h8 := heap_setCell_same wr W0.heap.size 8 _ _ (.slice none 0 0) HT.out.at_
        have h9 := heap_setCell_same _ W0.heap.size 9 _ _ (.slice none 0 0) h8
        have hc8 : wr.cell? ⟨W0.heap.size, 8, none⟩ = some (.slice V.a1 (clrQ Q i).nb V.d1) := cell_of_heap HT.out.at_ rfl
        have hc9 : (wr.setCell ⟨W0.heap.size, 8, none⟩ (.slice none 0 0)).cell? ⟨W0.heap.size, 9, none⟩ = some (.slice V.a2 (clrQ Q i).nr V.d2) := cell_of_heap h8 rfl
        have hfz8 : wr.frozen? ⟨W0.heap.size, 8, none⟩ = false := frozenE HT.out.at_
        have hfz9 : (wr.setCell ⟨W0.heap.size, 8, none⟩ (.slice none 0 0)).frozen? ⟨W0.heap.size, 9, none⟩ = false := frozenE h8
        have hrest : (((qstC V (clrQ Q i)).setIfInBounds 8 (.slice none 0 0)).setIfInBounds 9 (.slice none 0 0)) = qstC zeroQV (restQ Q) := by rw [HRN.out]; rfl
        rw [hrest] at h9
        obtain ⟨W8, hW8⟩ : ∃ W8, W8 = (wr.setCell ⟨W0.heap.size, 8, none⟩ (.slice none 0 0)).setCell ⟨W0.heap.size, 9, none⟩ (.slice none 0 0) := ⟨_, rfl⟩
        have x8 : Ext W0 W8 := by rw [hW8]; exact Below.setCell (Below.setCell HT.out.x (Nat.le_refl _) _) (Nat.le_refl _) _
        rw [← hW8] at h9
        clear h8 hrest
        go_upto_region 12 with fail
        rw [← hW8]
        clear hW8 hfz8 hfz9 hc8 hc9
        have hrow := HX.out _ x8
        have KL := Lib.hid (fun W => lists_any V Q W)
        go_wp2_with (first
          | (refine wpList_load_row rfl 31 (.tmp 1) rfl w.heap.size rfl 31 _ (0, 0) _ hrow Tryz.underlying31 rfl (by kernel_rfl) ?_))
        refine (KL.out _).mono ?_; rintro e w9 ⟨rfl, y9⟩
        have x9 := x8.trans y9
        have g9 := y9.block h9
        have c0 := HK0.out _ x9
        have KS := Lib.hid (fun W => asame_any zeroQV (restQ Q) zeroQV { zeroQ with k := Q.k } W (none_at W rfl rfl) (none_at W rfl rfl) (Nat.zero_le _) (Nat.zero_le _) (Nat.zero_le _) (Nat.zero_le _))
        have HRR : Hid (rightQ Q = (sameQ (restQ Q) { zeroQ with k := Q.k } && decide ((Q.nb : Int) = ofbQ Q) && decide ((Q.nr : Int) = ofrQ Q))) := Lib.hid (by
          rw [Bool.eq_iff_iff, HRL.out, Bool.and_eq_true, Bool.and_eq_true, decide_eq_true_iff, decide_eq_true_iff]
          constructor
          · rintro ⟨-, h1, h2, h3⟩; exact ⟨⟨h1, h2⟩, h3⟩
          · rintro ⟨⟨h1, h2⟩, h3⟩; exact ⟨fun j hj => HAll.out j (by rw [HRN.out]; exact hj), h1, h2, h3⟩)
        generalize sameQ (restQ Q) { zeroQ with k := Q.k } = S at KS HRR
        clear hrow h9
        go_wp2_with (first
          | (refine wpList_load_row rfl 104 (.tmp 3) rfl W0.heap.size rfl 104 _ (0, 0) _ g9 Tryz.underlying104 rfl (by kernel_rfl) ?_))
        refine (KS.out _).mono ?_; rintro e wA ⟨rfl, yA⟩
        have xA := x9.trans yA
        clear c0 g9
        cases S with
        | false =>
          have HR : Hid (rightQ Q = false) := Lib.hid (by rw [HRR.out]; rfl)
          go_wp2
          go_ret
          exact ⟨by rw [HR.out]; rfl, He.out.trans xA⟩
        | true =>
          have rA := HX.out _ xA
          have c8 : wA.cell? ⟨w.heap.size, 8, none⟩ = some (.slice V.a1 Q.nb V.d1) := cell_of_heap rA rfl
          have c9 : wA.cell? ⟨w.heap.size, 9, none⟩ = some (.slice V.a2 Q.nr V.d2) := cell_of_heap rA rfl
          obtain ⟨n1, n2⟩ := HN.out
          by_cases e1 : (Q.nb : Int) = ofbQ Q
          · have b1 : ((Q.nb : Int) == ofbQ Q) = true := by simp [e1]
            by_cases e2 : (Q.nr : Int) = ofrQ Q
            · have b2 : ((Q.nr : Int) == ofrQ Q) = true := by simp [e2]
              have HR : Hid (rightQ Q = true) := Lib.hid (by rw [HRR.out, decide_eq_true e1, decide_eq_true e2]; rfl)
              clear e1 e2 rA
              go_wp2
              go_ret
              exact ⟨by rw [HR.out]; rfl, He.out.trans xA⟩
            · have b2 : ((Q.nr : Int) == ofrQ Q) = false := by simp [e2]
              have HR : Hid (rightQ Q = false) := Lib.hid (by rw [HRR.out, decide_eq_true e1, decide_eq_false e2]; rfl)
              clear e1 e2 rA
              go_wp2
              go_ret
              exact ⟨by rw [HR.out]; rfl, He.out.trans xA⟩
          · have b1 : ((Q.nb : Int) == ofbQ Q) = false := by simp [e1]
            have HR : Hid (rightQ Q = false) := Lib.hid (by rw [HRR.out, decide_eq_false e1]; rfl)
            clear e1 rA
            go_wp2
            go_ret
            exact ⟨by rw [HR.out]; rfl, He.out.trans xA⟩
end Go.Proofs.YtlafnobjfajamaaGreat
namespace Go.Proofs.YtlafnobjfajamaaGreat
open Go.RowKit
set_option linter.unusedVariables false
set_option maxRecDepth 100000

set_option maxHeartbeats 800000 in
theorem get_full (a : Option Addr) (n c : Nat) (f : Nat → Int) (w : World) (ha : Holds .u8 w a (2 * n) f) (hn : n ≤ 1000000) (hf : ∀ i, i < 2 * n → 0 ≤ f i ∧ f i < 256) :
    Calls Tryz.prog 123 #[.slice a (2 * n) c] w fun e w' => ∃ b d, e = .returned (.tuple #[.slice b n d, .int .i64 0]) ∧ n ≤ d ∧ d ≤ maxLen ∧ Holds .u16 w' b n (getF f) ∧ Below w.heap.size w w' := by
  obtain ⟨i0, hi0, hz0, hz1, hz2⟩ := info_parts Tryz.info16
  have e2 : ((2 * n : Nat) : Int) = 2 * (n : Int) := by omega
  have e3 : (2 * (n : Int)) % 2 = 0 := by omega
  have e4 : (2 * (n : Int)) / 2 = n := by omega
  go_enter Tryz.func123, Tryz.ntmps123
  go_wp2_with (at_make; refine wpList_make_full _ rfl _ _ 27 rfl w.heap.size 59 i0 (.int .u16 0) 1 Tryz.underlying27 hi0 hz0 hz1 .i64 .i64 n n n rfl rfl rfl rfl (by rw [hz2]; omega) (by unfold maxLen; omega) (Nat.le_refl _) ?_; intro w1 hown1 hgrow1)
  have hb1 : Below w.heap.size w w1 := (Below.refl _ _).grown hgrow1 (Nat.le_refl _) (fun k hk => by cases hk)
  obtain ⟨B, hB⟩ : ∃ B, B = w.heap.size := ⟨_, rfl⟩
  rw [← hB] at hown1 hb1 ⊢
  have HB := Lib.hid hB
  clear hB
  go_loopw [5, 16] (fun _ i wr => ∃ k : Nat, k ≤ n ∧ i = .int .i64 k ∧ ∃ xs, wr.ownsRow B 59 1 (.slice (some ⟨B, 0, none⟩) n n) n xs ∧ (∀ j, j < k → xs[j]? = some (.int .u16 (getF f j))) ∧ Below B w wr) (fun _ i _ => n - (intOf i).toNat)
  case atStart => exact ⟨0, Nat.zero_le _, rfl, _, hown1, fun j hj => absurd hj (by omega), hb1⟩
  case round =>
    obtain ⟨k, hk, rfl, xs, hown, hxs0, hb⟩ := hrel
    have hxs := Lib.hid hxs0
    clear hxs0 hown1 hgrow1 hb1
    by_cases hlt : k < n
    · obtain ⟨p, o, rfl, hp, hc⟩ := ha.resolve_left (by omega)
      have hpB : p < B := by rw [HB.out]; exact hp
      have hpne : p ≠ B := by omega
      have c0 : wr.cell? ⟨p, o + 2 * k, none⟩ = some (.int .u8 (f (2 * k))) := (hb.cell (p := ⟨p, o + 2 * k, none⟩) hpB).trans (hc (2 * k) (by omega))
      have c1 : wr.cell? ⟨p, o + (2 * k + 1), none⟩ = some (.int .u8 (f (2 * k + 1))) := (hb.cell (p := ⟨p, o + (2 * k + 1), none⟩) hpB).trans (hc (2 * k + 1) (by omega))
      obtain ⟨f00, f01⟩ := hf (2 * k) (by omega)
      obtain ⟨f10, f11⟩ := hf (2 * k + 1) (by omega)
      have hfr := hown.frozenAt k
      obtain ⟨v0, hv0⟩ : ∃ v, wr.cell? ⟨B, k, none⟩ = some v := by
        rw [hown.cellAt k (by omega)]; exact ⟨xs[k]'(by have := hown.1; omega), List.getElem?_eq_getElem _⟩
      have hst := (hown.stored k (.int .u16 (getF f k))).1
      clear hc ha hf e2 e3 e4
      have m1 : IntKind.i64.wrap (2 * (k : Int)) = 2 * k := IntWalk.i64_in _ (by omega)
      have m2 : IntKind.i64.wrap (2 * (k : Int) + 1) = 2 * k + 1 := IntWalk.i64_in _ (by omega)
      have m3 : (2 * (k : Int)).toNat = 2 * k := by omega
      have m4 : (2 * (k : Int) + 1).toNat = 2 * k + 1 := by omega
      have m5 : 0 ≤ 2 * (k : Int) := by omega
      have m6 : 0 ≤ 2 * (k : Int) + 1 := by omega
      have m7 : 2 * (k : Int) < 2 * n := by omega
      have m8 : 2 * (k : Int) + 1 < 2 * n := by omega
      have m9 : (k : Int) < n := by omega
      have m0 : 0 ≤ (k : Int) := by omega
      go_wp2_with fail
      refine wp_region_still_tail 15 (by kernel_rfl) (by kernel_rfl) ?_
      simp only [List.take_succ_cons, List.take_zero, List.drop_succ_cons, List.drop_zero]
      iterate 13 still_step
      still_call ((join_any _ _ _ f00 f01 f10 f11).mono fun e w2 h => ⟨h.1, h.2.symm⟩)
      still_step
      refine wpStill_nil ?_
      go_wp2
      go_roundw
      case rel =>
        refine ⟨k + 1, by omega, by go_num, _, hst.drew, fun j hj => ?_, (hb.setCell (Nat.le_refl _) _).drew⟩
        rcases Nat.lt_or_ge j k with h | h
        · rw [List.getElem?_set_ne (by omega)]; exact hxs.out j h
        · obtain rfl : j = k := by omega
          rw [List.getElem?_set_self (by have := hown.1; omega)]
      case measure => simp [intOf]; omega
    · clear ha hf e2 e3 e4
      go_wp2
      go_ret2
      obtain rfl : k = n := by omega
      exact ⟨_, _, rfl, Nat.le_refl _, by unfold maxLen; omega, .inr ⟨B, 0, rfl, (hown.lt B rfl).2, fun i hi => by rw [Nat.zero_add, hown.cellAt i (by omega), hxs.out i hi]⟩, by rw [← HB.out]; exact hb⟩
theorem get_x (a : Option Addr) (m c : Nat) (f : Nat → Int) (w : World) (ha : Holds .u8 w a m f) (hm : m ≤ 100000) (hf : ∀ i, i < m → 0 ≤ f i ∧ f i < 256) :
    Calls Tryz.prog 123 #[.slice a m c] w fun e w' => ∃ b d E, e = .returned (.tuple #[.slice b (getN m) d, .int .i64 E]) ∧ getN m ≤ d ∧ d ≤ maxLen ∧ Holds .u16 w' b (getN m) (getF f) ∧ Ext w w' := by
  by_cases h : m % 2 = 0
  · have e : getN m = m / 2 := by unfold getN; rw [if_pos h]
    rw [e]
    have em : m = 2 * (m / 2) := by omega
    rw [em] at ha hf
    have K := get_full a (m / 2) c f w ha (by omega) hf
    rw [← em] at K
    exact K.mono fun e w' ⟨b, d, h1, h2, h3, h4, h5⟩ => ⟨b, d, 0, h1, h2, h3, h4, h5⟩
  · have e : getN m = 0 := by unfold getN; rw [if_neg h]
    rw [e]
    exact (get_odd a m c w (by omega) (by omega)).mono fun e w' hh => ⟨none, 0, 12, hh.1, Nat.le_refl _, Nat.zero_le _, .inl rfl, Ext.of_eq hh.2⟩
/-- What is left of the bytes, in a box of the call's own. -/
structure LefS (w0 wr : World) (l n O : Nat) (f : Nat → Int) (A : Option Addr) (C : Nat) : Prop where
  at_ : wr.heap[l]? = some (.cells #[.slice A (n - O) C] 121 (0, 0))
  h : Holds .u8 w0 A (n - O) (fun i => f (O + i))
  c1 : n - O ≤ C
  c2 : C ≤ maxLen
theorem LefS.ext {w0 wr wr' : World} {l n O : Nat} {f : Nat → Int} {A : Option Addr} {C : Nat} (h : LefS w0 wr l n O f A C) (x : Ext wr wr') : LefS w0 wr' l n O f A C := ⟨x.block h.at_, h.h, h.c1, h.c2⟩
theorem Keep.block' {F : Nat → Prop} {w w' : World} (x : Keep F w w') {g : Nat} {o : Obj} (h : w.heap[g]? = some o) (hF : ¬ F g) : w'.heap[g]? = some o := (x.block g (heap_lt h) hF).trans h
theorem LefS.keep {F : Nat → Prop} {w0 wr wr' : World} {l n O : Nat} {f : Nat → Int} {A : Option Addr} {C : Nat} (h : LefS w0 wr l n O f A C) (x : Keep F wr wr') (hF : ¬ F l) : LefS w0 wr' l n O f A C := ⟨x.block' h.at_ hF, h.h, h.c1, h.c2⟩
theorem FieS.keep {F : Nat → Prop} {w0 wr wr' : World} {b off g : Nat} {V : QstV} {k : Int} {T : Qst} (h : FieS w0 wr b off g V k T) (x : Keep F wr wr') (h0 : ∀ i, F i → w0.heap.size ≤ i) (hg : ¬ F g) (hb : ¬ F b) : FieS w0 wr' b off g V k T :=
  ⟨Below.trans h.x (x.below h.x.size h0), h.lo, x.block' h.at_ hg, h.fl.keep x hb, h.ne⟩
theorem holds_shift {w : World} {b off n : Nat} {f : Nat → Int} {O : Nat} (h : Holds .u8 w (some ⟨b, off, none⟩) n (fun i => f (O + i))) (k : Nat) : Holds .u8 w (some ⟨b, off + k, none⟩) (n - k) (fun i => f (O + k + i)) :=
  (HoldsG.drop (mk := Value.int .u8) h (k := k)).congr fun i _ => by rw [Nat.add_assoc]
set_option maxHeartbeats 4000000 in
theorem number_c (w0 w : World) (l n O : Nat) (f : Nat → Int) (A : Option Addr) (C : Nat) (hx : Ext w0 w) (h : LefS w0 w l n O f A C) (hO : O ≤ n) (hn : n ≤ 100000) (hf : ∀ i, i < n → 0 ≤ f i ∧ f i < 256) :
    Calls Tryz.prog 82 #[.pointer (some ⟨l, 0, none⟩)] w fun e w' => e = .returned (.int .i64 (takA n f O)) ∧ (∃ A' C', LefS w0 w' l n (if O + 2 ≤ n then O + 2 else O) f A' C') ∧ Keep (fun i => i = l) w w' := by
  obtain ⟨hat, hh, hc1, hc2⟩ := h
  have c0 : w.cell? ⟨l, 0, none⟩ = some (.slice A (n - O) C) := cell_of_heap hat rfl
  obtain ⟨L, hL⟩ : ∃ L, L = n - O := ⟨_, rfl⟩
  rw [← hL] at hat hh hc1 c0
  have HA := Lib.hid hat
  have HH := Lib.hid hh
  have hLn : L ≤ 100000 := by omega
  by_cases h2 : O + 2 ≤ n
  · have hv : takA n f O = f O * 256 + f (O + 1) := by unfold takA; rw [if_pos h2]
    have hb0 := hf O (by omega)
    have hb1 := hf (O + 1) (by omega)
    have hL2 : 2 ≤ L := by omega
    have hL2I : (2 : Int) ≤ L := by omega
    have KA := Lib.hid ((at_some A L C 0 (fun i => f (O + i)) w (hh.ext hx) (by omega) (by omega) (fun i hi => hf (O + i) (by omega))).mono fun e w' h => (⟨h.1, Ext.of_drewN h.2⟩ : e = .returned (.tuple #[.int .u16 (f O * 256 + f (O + 1)), .bool true]) ∧ Ext w w'))
    rw [hv, if_pos h2]
    generalize hv' : f O * 256 + f (O + 1) = v at *
    have hw : IntKind.i64.wrap v = v := IntWalk.i64_in _ (by omega)
    have HL := Lib.hid (And.intro hL h2)
    have HV := Lib.hid hv
    have HC := Lib.hid (And.intro hc1 hc2)
    obtain ⟨b, off, hA, -, -⟩ := hh.resolve_left (by omega)
    subst hA
    by_cases hC : C = 2
    · subst hC
      clear hv hv' hb0 hb1 hf hL hh h2 hO hx hat
      go_enter Tryz.func82, Tryz.ntmps82
      go_wp2_with fail
      refine KA.out.mono ?_; rintro e w1 ⟨rfl, x1⟩
      have a1 := x1.block HA.out
      have c1 : w1.cell? ⟨l, 0, none⟩ = some (.slice (some ⟨b, off, none⟩) L 2) := cell_of_heap a1 rfl
      have f1 : w1.frozen? ⟨l, 0, none⟩ = false := frozenE a1
      clear c0 KA
      go_wp2
      go_ret
      have hs := heap_setCell_same w1 l 0 _ _ (.slice (some ⟨b, off, none⟩) 0 0) a1
      exact ⟨rfl, ⟨some ⟨b, off, none⟩, 0, by rw [show n - (O + 2) = 0 by have := HL.out.1; have := HC.out.1; omega]; exact hs, .inl (by have := HL.out.1; have := HC.out.1; omega), by have := HL.out.1; have := HC.out.1; omega, Nat.zero_le _⟩, (Keep.of_ext x1).trans (keepCellE w1 l 0 _) (fun i hi => .inl hi)⟩
    · have hC2 : 2 ≤ C := by omega
      clear hv hv' hb0 hb1 hf hL hh h2 hO hx hat
      go_enter Tryz.func82, Tryz.ntmps82
      go_wp2_with fail
      refine KA.out.mono ?_; rintro e w1 ⟨rfl, x1⟩
      have a1 := x1.block HA.out
      have c1 : w1.cell? ⟨l, 0, none⟩ = some (.slice (some ⟨b, off, none⟩) L C) := cell_of_heap a1 rfl
      have f1 : w1.frozen? ⟨l, 0, none⟩ = false := frozenE a1
      clear c0 KA
      go_wp2
      go_ret
      have hs := heap_setCell_same w1 l 0 _ _ (.slice (some ⟨b, off + 2, none⟩) (L - 2) (C - 2)) a1
      exact ⟨rfl, ⟨some ⟨b, off + 2, none⟩, C - 2, by rw [show n - (O + 2) = L - 2 by have := HL.out.1; omega]; exact hs, by rw [show n - (O + 2) = L - 2 by have := HL.out.1; omega]; exact holds_shift HH.out 2, by have := HL.out.1; have := HC.out.1; omega, by have := HC.out.2; omega⟩, (Keep.of_ext x1).trans (keepCellE w1 l 0 _) (fun i hi => .inl hi)⟩
  · have hv : takA n f O = -1 := by unfold takA; rw [if_neg h2]
    rw [hv, if_neg h2]
    have KA := Lib.hid (at_none A L C 0 w (by omega) (.inr (by omega)))
    have HR := Lib.hid (show LefS w0 w l n O f A C from ⟨by rw [← hL]; exact hat, by rw [← hL]; exact hh, by rw [← hL]; exact hc1, hc2⟩)
    clear hv hf hL hh h2 hO hx hat HA HH
    go_enter Tryz.func82, Tryz.ntmps82
    go_wp2_with fail
    refine KA.out.mono ?_; rintro e w1 ⟨rfl, rfl⟩
    go_wp2
    go_ret
    exact ⟨rfl, ⟨A, C, HR.out⟩, Keep.refl _ _⟩
set_option maxHeartbeats 4000000 in
theorem list_c (w0 w : World) (l n O : Nat) (f : Nat → Int) (A : Option Addr) (C : Nat) (hx : Ext w0 w) (h : LefS w0 w l n O f A C) (hO : O ≤ n) (hn : n ≤ 100000) (hf : ∀ i, i < n → 0 ≤ f i ∧ f i < 256) :
    Calls Tryz.prog 122 #[.pointer (some ⟨l, 0, none⟩)] w fun e w' => ∃ x d A' C', e = .returned (.slice x (lstN n f O) d) ∧ Holds .u8 w0 x (lstN n f O) (fun i => f (O + 1 + i)) ∧ lstN n f O ≤ d ∧ d ≤ maxLen ∧ w'.heap[l]? = some (.cells #[.slice A' (lefN n f O) C'] 121 (0, 0)) ∧ Keep (fun i => i = l) w w' := by
  obtain ⟨hat, hh, hc1, hc2⟩ := h
  have c0 : w.cell? ⟨l, 0, none⟩ = some (.slice A (n - O) C) := cell_of_heap hat rfl
  obtain ⟨L, hL⟩ : ∃ L, L = n - O := ⟨_, rfl⟩
  unfold lstN lefN
  have HB : Hid (lstB n f O = true ↔ 0 < L ∧ f O = (L : Int) - 1) := Lib.hid (by unfold lstB; rw [decide_eq_true_iff]; omega)
  rw [← hL] at hat hh hc1 c0 ⊢
  generalize lstB n f O = B at HB ⊢
  have HA := Lib.hid hat
  have HH := Lib.hid hh
  have hLn : L ≤ 100000 := by omega
  by_cases h0 : L = 0
  · have hB : B = false := by
      cases B
      · rfl
      · have := (HB.out.1 rfl).1; omega
    subst hB h0
    rw [if_neg (by decide)]
    try rw [if_neg (by decide)]
    clear HB hf hh hO hx hat HH hL
    go_enter Tryz.func122, Tryz.ntmps122
    go_wp2
    go_ret
    exact ⟨none, 0, A, C, rfl, .inl rfl, Nat.le_refl _, Nat.zero_le _, HA.out, Keep.refl _ _⟩
  · have hLI : (0 : Int) < L := by omega
    have hL0 : ((L : Int) == 0) = false := by simp; omega
    have hb0 := hf O (by omega)
    obtain ⟨b, off, hA, hlt, hc⟩ := hh.resolve_left (by omega)
    subst hA
    have cf : w.cell? ⟨b, off, none⟩ = some (.int .u8 (f O)) := hx.cell hlt (show w0.cell? ⟨b, off, none⟩ = some (.int .u8 (f O)) from hc 0 (by omega))
    have hw : IntKind.i64.wrap (f O) = f O := IntWalk.i64_in _ (by omega)
    have hwL : IntKind.i64.wrap ((L : Int) - 1) = (L : Int) - 1 := IntWalk.i64_in _ (by omega)
    by_cases he : f O = (L : Int) - 1
    · have hB : B = true := HB.out.2 ⟨by omega, he⟩
      subst hB
      rw [if_pos rfl, if_pos rfl]
      have hne : (f O != (L : Int) - 1) = false := by simp [he]
      have f1 : w.frozen? ⟨l, 0, none⟩ = false := frozenE hat
      have HL := Lib.hid (And.intro hL h0)
      have HC := Lib.hid (And.intro hc1 hc2)
      have hs := Lib.hid (heap_setCell_same w l 0 _ _ (.slice none 0 0) hat)
      have h1L : (1 : Int) ≤ L := by omega
      by_cases hC : C = 1
      · subst hC
        clear HB hf hh hO hx hat hL hlt hc hb0 he h0
        go_enter Tryz.func122, Tryz.ntmps122
        go_wp2
        go_ret
        exact ⟨some ⟨b, off, none⟩, 0, none, 0, by rw [show L - 1 = 0 by have := HC.out.1; omega]; rfl, .inl (by have := HC.out.1; omega), by have := HC.out.1; omega, Nat.zero_le _, hs.out, keepCellE w l 0 _⟩
      · have hC1 : 1 ≤ C := by omega
        clear HB hf hh hO hx hat hL hlt hc hb0 he h0
        go_enter Tryz.func122, Tryz.ntmps122
        go_wp2
        go_ret
        exact ⟨some ⟨b, off + 1, none⟩, C - 1, none, 0, by rfl, holds_shift HH.out 1, by have := HC.out.1; omega, by have := HC.out.2; omega, hs.out, keepCellE w l 0 _⟩
    · have hB : B = false := by
        cases B
        · rfl
        · exact absurd (HB.out.1 rfl).2 he
      subst hB
      rw [if_neg (by decide), if_neg (by decide)]
      have hne : (f O != (L : Int) - 1) = true := by simp [he]
      clear HB hf hh hO hx hat hL hlt hc hb0 he
      go_enter Tryz.func122, Tryz.ntmps122
      go_wp2
      go_ret
      exact ⟨none, 0, some ⟨b, off, none⟩, C, rfl, .inl rfl, Nat.le_refl _, Nat.zero_le _, HA.out, Keep.refl _ _⟩
end Go.Proofs.YtlafnobjfajamaaGreat
namespace Go.Proofs.YtlafnobjfajamaaGreat
open Go.RowKit
set_option linter.unusedVariables false
set_option maxRecDepth 100000

set_option maxHeartbeats 4000000 in
theorem fill_c (W0 w : World) (b off g l n : Nat) (k : Int) (f : Nat → Int) (A : Option Addr) (C : Nat) (hF : FieS W0 w b off g zeroQV k (filQ n f k 0)) (hL : LefS W0 w l n (takO n 0) f A C) (hl0 : W0.heap.size ≤ l) (hgl : g ≠ l) (hbl : b ≠ l)
    (h1n : 1 ≤ n) (hn : n ≤ 100000) (hf : ∀ i, i < n → 0 ≤ f i ∧ f i < 256) :
    Calls Tryz.prog 81 #[.slice (some ⟨b, off, none⟩) (fldN k) (fldN k), .func (Fn.func 82) #[.pointer (some ⟨l, 0, none⟩)] #[]] w fun e w' => e = .returned (.tuple #[]) ∧
      FieS W0 w' b off g zeroQV k (filQ n f k (fldN k)) ∧ ∃ A' C', LefS W0 w' l n (takO n (fldN k)) f A' C' := by
  have hnn := fldN_bd k
  obtain ⟨m, hm⟩ : ∃ m, m = fldN k := ⟨_, rfl⟩
  rw [← hm] at hnn ⊢
  have HM := Lib.hid hm
  have HF0 := Lib.hid hF
  have HL0 := Lib.hid hL
  clear hm hF hL
  go_enter Tryz.func81, Tryz.ntmps81
  go_wp2_with fail
  go_loopw [8] (fun iv wr => ∃ i : Nat, i ≤ m ∧ iv = .int .i64 i ∧ FieS W0 wr b off g zeroQV k (filQ n f k i) ∧ ∃ A C, LefS W0 wr l n (takO n i) f A C) (fun iv _ => m - (intOf iv).toNat)
  case atStart => exact ⟨0, Nat.zero_le _, rfl, HF0.out, A, C, HL0.out⟩
  case round =>
    obtain ⟨i, hi, rfl, hF, A, C, hL⟩ := hrel
    have HF := Lib.hid hF
    have HL := Lib.hid hL
    clear hF hL HF0 HL0
    by_cases hlt : i < m
    · have hi' : i < fldN k := by rw [← HM.out]; exact hlt
      have a0 := HF.out.fl.at0 i hi'
      have a1 := HF.out.fl.at1 i hi'
      have a2 := HF.out.fl.at2 i hi'
      have a3 := HF.out.fl.at3 i hi'
      have ob := fldO_bd k i
      have hltI : (i : Int) < m := by omega
      have hto := takO_le n h1n i
      have hgw := heap_lt HF.out.at_
      have hlw := heap_lt HL.out.at_
      obtain ⟨W6, hW6, y6, g6⟩ : ∃ W, W = ((wr.alloc (.cells #[.pointer none, .int .i64 0, .int .i64 0, .int .i64 0] 111)).setRow wr.heap.size #[.pointer (some ⟨g, fldO k i, none⟩), .int .i64 (fldL k i), .int .i64 (fldH k i), .int .i64 (fldT k i)]) ∧ Ext wr W ∧ W.heap[wr.heap.size]? = some (.cells #[.pointer (some ⟨g, fldO k i, none⟩), .int .i64 (fldL k i), .int .i64 (fldH k i), .int .i64 (fldT k i)] 111 (0, 0)) := ⟨_, rfl, asked_row _ _ _ _⟩
      go_upto_region 3 with (first
        | (refine wpList_store_row rfl 111 (.tmp 5) (.tmp 11) rfl _ _ rfl rfl 111 _ (heap_new_at _ _ (by first | rfl | simp)) (by kernel_rfl) rfl (by simp [Value.oneCell']) ?_))
      rw [← hW6]
      clear hW6 a0 a1 a2 a3
      obtain ⟨X, hX⟩ : ∃ X, X = W6.drew := ⟨_, rfl⟩
      have xX : Ext wr X := by rw [hX]; exact y6.trans (Ext.drew _)
      have c6 : X.cell? ⟨wr.heap.size, 0, none⟩ = some (.pointer (some ⟨g, fldO k i, none⟩)) := by rw [hX]; exact (Ext.drew _).cell (heap_lt g6) (cell_of_heap g6 rfl)
      have HC := Lib.hid (fun W (x : Keep (fun i => i = l ∨ i = g) X W) => x.cell (by rintro (h | h) <;> omega) c6)
      have HF2 := Lib.hid (HF.out.ext xX)
      have HL2 := Lib.hid (HL.out.ext xX)
      have KN := Lib.hid (number_c W0 X l n (takO n i) f A C HF2.out.x HL2.out hto.1 hn hf)
      have hs : Keep (fun i => i = l ∨ i = g) X X := Keep.refl _ _
      refine wp_region_held_drew (S := fun W => Keep (fun i => i = l ∨ i = g) X W) (by kernel_rfl) (by rw [← hX]; exact hs) (fun _ => ?_)
      rw [← hX]
      clear hX g6 c6 HF HL y6
      have HF := HF2
      clear HF2 HL2
      refine wpAnyH_takeD (i := 0) (d := 12) (v := .pointer (some ⟨wr.heap.size, 0, none⟩)) rfl rfl (by kernel_rfl) (by kernel_rfl) (by kernel_rfl) (fun _ _ _ h => h) (Or.inl ⟨by rfl, fun W hW => by go_simp⟩) hs ?_
      simp only [Act.put, List.setIfInBounds_toArray, List.set_cons_succ, List.set_cons_zero]
      refine wpAnyH_takeD (i := 1) (d := 13) (v := .pointer (some ⟨g, fldO k i, none⟩)) rfl rfl (by kernel_rfl) (by kernel_rfl) (by kernel_rfl) (fun _ _ _ h => h) (Or.inl ⟨by rfl, fun W hW => by have c5 := HC.out W hW; go_simp⟩) hs ?_
      simp only [Act.put, List.setIfInBounds_toArray, List.set_cons_succ, List.set_cons_zero]
      refine wpAnyH_takeD (i := 2) (d := 14) (v := .func (Fn.func 82) #[.pointer (some ⟨l, 0, none⟩)] #[]) rfl rfl (by kernel_rfl) (by kernel_rfl) (by kernel_rfl) (fun _ _ _ h => h) (Or.inl ⟨by rfl, fun W hW => by go_simp⟩) hs ?_
      simp only [Act.put, List.setIfInBounds_toArray, List.set_cons_succ, List.set_cons_zero]
      refine wpAnyH_ready (rs := [3]) (by kernel_rfl) (by simp) (AllReadyH.cons rfl (fun K hK => ?_) AllReadyH.nil)
      go_simp
      go_at_call 82
      refine (KN.out).mono ?_; rintro e Wc ⟨rfl, ⟨A', C', hL'⟩, y⟩
      go_wp2_with fail
      refine hK.out _ _ (y.mono fun _ h => .inl h) (fun hs => ?_)
      clear hK K
      refine wpAnyH_takeD (i := 4) (d := 16) (v := .pointer (some ⟨g, fldO k i, none⟩)) rfl rfl (by kernel_rfl) (by kernel_rfl) (by kernel_rfl) (fun _ _ _ h => h) (Or.inl ⟨by rfl, fun W hW => by go_simp⟩) hs ?_
      simp only [Act.put, List.setIfInBounds_toArray, List.set_cons_succ, List.set_cons_zero]
      refine wpAnyH_ready (rs := [5]) (by kernel_rfl) (by simp) (AllReadyH.cons rfl (fun K hK => ?_) AllReadyH.nil)
      have gU : FieS W0 Wc b off g zeroQV k (filQ n f k i) := HF.out.keep y (fun j hj => by rw [hj]; exact hl0) (fun e => hgl e) (fun e => hbl e)
      have hfz : Wc.frozen? ⟨g, fldO k i, none⟩ = false := frozenE gU.at_
      have hcu : Wc.cell? ⟨g, fldO k i, none⟩ = some (.int .i64 (getQ (fldO k i) (filQ n f k i))) := cell_of_heap gU.at_ (getQ_cell zeroQV _ ob.1 ob.2)
      go_simp
      refine hK.out _ _ ((y.mono fun _ h => .inl h).trans (keepCellE Wc g _ _) (fun j hj => .inl (.inr hj))) (fun hs => ?_)
      clear hK K hfz hcu hs
      refine wpAnyH_done (by kernel_rfl) ?_ _
      have HU := Lib.hid (gU.set (takV n f i) ob.1 ob.2)
      have HL' := Lib.hid (hL'.keep (keepCellE Wc g (fldO k i) (.int .i64 (takV n f i))) (fun e => hgl e.symm))
      clear gU hL' y
      go_wp2
      go_roundw
      case rel => exact ⟨i + 1, by omega, by go_num, HU.out, A', C', HL'.out⟩
      case measure => simp [intOf]; omega
    · obtain rfl : i = m := by omega
      go_wp2
      go_end0
      exact ⟨rfl, HF.out, A, C, HL.out⟩
theorem lstN_le (n : Nat) (f : Nat → Int) (O : Nat) : lstN n f O ≤ n := by unfold lstN; split <;> omega
theorem cell_near (w : World) (g i j : Nat) (v : Value) (h : j ≠ i) : (w.setCell ⟨g, i, none⟩ v).cell? ⟨g, j, none⟩ = w.cell? ⟨g, j, none⟩ := by
  apply World.cell?_setCell_other
  intro e
  exact h (by cases e; rfl)
/-- Cells of another kind are not touched by a store into an ask. -/
theorem holds_set {α : Type} {mk : α → Value} (hmk : ∀ u, (∀ x, mk u ≠ .int .i64 x) ∧ ∀ a n c, mk u ≠ .slice a n c) {w : World} {x : Option Addr} {m : Nat} {B : Nat → α} {g : Nat} {V : QstV} {T : Qst} {t : TypeId} (h : HoldsG mk w x m B) (hg : w.heap[g]? = some (.cells (qstC V T) t (0, 0))) (o : Nat) (v : Value) : HoldsG mk (w.setCell ⟨g, o, none⟩ v) x m B := by
  by_cases hm : m = 0
  · exact .inl hm
  · refine h.keep (keepCellE w g o v) fun p hp e => ?_
    obtain ⟨b, off, ha, hlt, hc⟩ := h.resolve_left hm
    rw [ha] at hp
    cases hp
    have e : b = g := e
    subst e
    have h0 := hc 0 (by omega)
    rw [cell_of_row _ _ _ _ _ _ hg] at h0
    have hmem := Array.mem_of_getElem? h0
    have := hmk (B 0)
    simp [qstC, this] at hmem
set_option maxHeartbeats 4000000 in
theorem fillList_c (W0 w : World) (g l n O : Nat) (f : Nat → Int) (T : Qst) (A : Option Addr) (C : Nat) (hx : Ext W0 w) (hL : LefS W0 w l n O f A C) (hg : w.heap[g]? = some (.cells (qstC zeroQV T) 104 (0, 0))) (hnb : T.nb = 0) (hnr : T.nr = 0) (hg0 : W0.heap.size ≤ g) (hl0 : W0.heap.size ≤ l) (hgl : g ≠ l)
    (hO : O ≤ n) (hn : n ≤ 100000) (hf : ∀ i, i < n → 0 ≤ f i ∧ f i < 256) (hct : T.ct ≤ 9223372036854775807) :
    Calls Tryz.prog 83 #[.pointer (some ⟨g, 0, none⟩), .pointer (some ⟨l, 0, none⟩)] w fun e w' => e = .returned (.tuple #[]) ∧ ∃ V' A' C', w'.heap[g]? = some (.cells (qstC V' (lisQ n f O T)) 104 (0, 0)) ∧ QstAt w' V' (lisQ n f O T) ∧
      w'.heap[l]? = some (.cells #[.slice A' (lisL n f O T.k) C'] 121 (0, 0)) ∧ Ext W0 w' := by
  have c0 : w.cell? ⟨g, 0, none⟩ = some (.int .i64 T.k) := cell_of_heap hg rfl
  have HX := Lib.hid hx
  have hab : Above W0 (fun i => i = l) := fun i hi => by rw [hi]; exact hl0
  have hab2 : Above W0 (fun i => i = l ∨ i = g) := fun i hi => by rcases hi with h | h <;> (rw [h]; assumption)
  have hfl : ∀ i, i < lstN n f O → 0 ≤ f (O + 1 + i) ∧ f (O + 1 + i) < 256 := fun i hi => hf _ (by unfold lstN at hi; split at hi <;> omega)
  unfold lisQ lisL
  by_cases h15 : T.k = 15
  · rw [if_pos h15, if_pos (.inl h15)]
    rw [h15] at c0
    have X0 : Ext W0 w.drew := hx.trans (Ext.drew _)
    have c2 : w.drew.cell? ⟨g, 2, none⟩ = some (.int .i64 T.ct) := (Ext.drew _).cell (heap_lt hg) (cell_of_heap hg rfl)
    have hL := hL.ext (Ext.drew w)
    have hg := (Ext.drew w).block hg
    clear h15 HX
    go_enter Tryz.func83, Tryz.ntmps83
    go_wp2_with fail
    obtain ⟨X, hX⟩ : ∃ X, X = w.drew := ⟨_, rfl⟩
    rw [← hX] at X0 c2 hL hg
    have hs : Keep (fun i => i = l ∨ i = g) X X ∧ X.cell? ⟨g, 2, none⟩ = some (.int .i64 T.ct) := ⟨Keep.refl _ _, c2⟩
    refine wp_region_held_drew (S := fun W => Keep (fun i => i = l ∨ i = g) X W ∧ W.cell? ⟨g, 2, none⟩ = some (.int .i64 T.ct)) (by kernel_rfl) (by rw [← hX]; exact hs) (fun _ => ?_)
    rw [← hX]
    clear hX c0 hx
    have HX := Lib.hid X0
    have KL := Lib.hid (list_c W0 X l n O f A C X0 hL hO hn hf)
    refine wpAnyH_takeD (i := 0) (d := 11) (v := .pointer (some ⟨g, 0, none⟩)) rfl rfl (by kernel_rfl) (by kernel_rfl) (by kernel_rfl) (fun _ _ _ h => h) (Or.inl ⟨by rfl, fun W hW => by go_simp⟩) hs ?_
    simp only [Act.put, List.setIfInBounds_toArray, List.set_cons_succ, List.set_cons_zero]
    refine wpAnyH_takeD (i := 1) (d := 12) (v := .pointer (some ⟨l, 0, none⟩)) rfl rfl (by kernel_rfl) (by kernel_rfl) (by kernel_rfl) (fun _ _ _ h => h) (Or.inl ⟨by rfl, fun W hW => by go_simp⟩) hs ?_
    simp only [Act.put, List.setIfInBounds_toArray, List.set_cons_succ, List.set_cons_zero]
    refine wpAnyH_takeD (i := 3) (d := 14) (v := .pointer (some ⟨g, 0, none⟩)) rfl rfl (by kernel_rfl) (by kernel_rfl) (by kernel_rfl) (fun _ _ _ h => h) (Or.inl ⟨by rfl, fun W hW => by go_simp⟩) hs ?_
    simp only [Act.put, List.setIfInBounds_toArray, List.set_cons_succ, List.set_cons_zero]
    refine wpAnyH_takeD (i := 4) (d := 15) (v := .pointer (some ⟨g, 0, none⟩)) rfl rfl (by kernel_rfl) (by kernel_rfl) (by kernel_rfl) (fun _ _ _ h => h) (Or.inl ⟨by rfl, fun W hW => by go_simp⟩) hs ?_
    simp only [Act.put, List.setIfInBounds_toArray, List.set_cons_succ, List.set_cons_zero]
    refine wpAnyH_takeD (i := 5) (d := 16) (v := .pointer (some ⟨g, 2, none⟩)) rfl rfl (by kernel_rfl) (by kernel_rfl) (by kernel_rfl) (fun _ _ _ h => h) (Or.inl ⟨by rfl, fun W hW => by go_simp⟩) hs ?_
    simp only [Act.put, List.setIfInBounds_toArray, List.set_cons_succ, List.set_cons_zero]
    refine wpAnyH_takeD (i := 6) (d := 17) (v := .int .i64 T.ct) rfl rfl (by kernel_rfl) (by kernel_rfl) (by kernel_rfl) (fun _ _ _ h => h) (Or.inl ⟨by rfl, fun W hW => by have c2 := hW.2; go_simp⟩) hs ?_
    simp only [Act.put, List.setIfInBounds_toArray, List.set_cons_succ, List.set_cons_zero]
    refine wpAnyH_ready (rs := [2]) (by kernel_rfl) (by simp) (AllReadyH.cons rfl (fun K hK => ?_) AllReadyH.nil)
    go_simp
    go_at_call 122
    refine (KL.out).mono ?_; rintro e Wc ⟨x, d, A', C', rfl, h1, h2, h3, h4, y⟩
    go_wp2_with fail
    refine hK.out _ _ ⟨y.mono fun _ h => .inl h, y.cell (fun e => hgl e) hs.2⟩ (fun hs => ?_)
    clear hK K
    refine wpAnyH_ready (rs := [7]) (by kernel_rfl) (by simp) (AllReadyH.cons rfl (fun K hK => ?_) AllReadyH.nil)
    go_simp
    go_at_call 121
    refine (unpack_x x (lstN n f O) d _ T.ct Wc (h1.ext (HX.out.keep y hab)) (Nat.le_trans (lstN_le n f O) hn) hfl hct).mono ?_; rintro e Wd ⟨xb, db, rfl, m1, m2, hb, z⟩
    go_wp2_with fail
    refine hK.out _ _ ⟨hs.1.trans_ext z, z.cell (World.block_lt_of_cell? _ _ hs.2) hs.2⟩ (fun hs => ?_)
    clear hK K
    refine wpAnyH_takeD (i := 8) (d := 10) (v := .tuple #[.slice xb (unN (lstN n f O) T.ct) db, .int .i64 (unE (lstN n f O) T.ct)]) rfl rfl (by kernel_rfl) (by kernel_rfl) (by kernel_rfl) (fun _ _ _ h => h) (Or.inl ⟨by rfl, fun W hW => by go_simp⟩) hs ?_
    simp only [Act.put, List.setIfInBounds_toArray, List.set_cons_succ, List.set_cons_zero]
    refine wpAnyH_takeD (i := 9) (d := 19) (v := .slice xb (unN (lstN n f O) T.ct) db) rfl rfl (by kernel_rfl) (by kernel_rfl) (by kernel_rfl) (fun _ _ _ h => h) (Or.inl ⟨by rfl, fun W hW => by go_simp⟩) hs ?_
    simp only [Act.put, List.setIfInBounds_toArray, List.set_cons_succ, List.set_cons_zero]
    refine wpAnyH_takeD (i := 10) (d := 20) (v := .int .i64 (unE (lstN n f O) T.ct)) rfl rfl (by kernel_rfl) (by kernel_rfl) (by kernel_rfl) (fun _ _ _ h => h) (Or.inl ⟨by rfl, fun W hW => by go_simp⟩) hs ?_
    simp only [Act.put, List.setIfInBounds_toArray, List.set_cons_succ, List.set_cons_zero]
    refine wpAnyH_takeD (i := 11) (d := 21) (v := .pointer (some ⟨g, 0, none⟩)) rfl rfl (by kernel_rfl) (by kernel_rfl) (by kernel_rfl) (fun _ _ _ h => h) (Or.inl ⟨by rfl, fun W hW => by go_simp⟩) hs ?_
    simp only [Act.put, List.setIfInBounds_toArray, List.set_cons_succ, List.set_cons_zero]
    refine wpAnyH_takeD (i := 12) (d := 22) (v := .pointer (some ⟨g, 8, none⟩)) rfl rfl (by kernel_rfl) (by kernel_rfl) (by kernel_rfl) (fun _ _ _ h => h) (Or.inl ⟨by rfl, fun W hW => by go_simp⟩) hs ?_
    simp only [Act.put, List.setIfInBounds_toArray, List.set_cons_succ, List.set_cons_zero]
    refine wpAnyH_ready (rs := [13]) (by kernel_rfl) (by simp) (AllReadyH.cons rfl (fun K hK => ?_) AllReadyH.nil)
    have gd := z.block (y.block' hg (fun e => hgl e))
    have hfz : Wd.frozen? ⟨g, 8, none⟩ = false := frozenE gd
    have hcu : Wd.cell? ⟨g, 8, none⟩ = some (.slice none T.nb 0) := cell_of_heap gd rfl
    go_simp
    refine hK.out _ _ ⟨hs.1.trans (keepCellE Wd g 8 _) (fun j hj => .inl (.inr hj)), by rw [cell_near _ _ _ _ _ (by decide)]; exact hs.2⟩ (fun hs => ?_)
    clear hK K hfz hcu
    refine wpAnyH_done (by kernel_rfl) ?_ _
    have k1 := keepCellE Wd g 8 (.slice xb (unN (lstN n f O) T.ct) db)
    have hl' := k1.block' (z.block h4) (fun e => hgl e.symm)
    have hg' := heap_setCell_same Wd g 8 _ _ (.slice xb (unN (lstN n f O) T.ct) db) gd
    have hb' := holds_set (mk := Value.bool) (fun u => ⟨fun _ h => (by cases h), fun _ _ _ h => (by cases h)⟩) hb gd 8 (.slice xb (unN (lstN n f O) T.ct) db)
    have xE : Ext W0 (Wd.setCell ⟨g, 8, none⟩ (.slice xb (unN (lstN n f O) T.ct) db)) := HX.out.keep hs.1 hab2
    have HP := Lib.hid (And.intro hg' (And.intro hl' (And.intro hb' (And.intro xE (And.intro m1 m2)))))
    clear hl' hg' hb' xE m1 m2 hb gd k1 hs z y h1 h2 h3 h4
    go_wp2
    go_end0
    obtain ⟨hg', hl', hb', xE, m1, m2⟩ := HP.out
    refine ⟨rfl, ⟨xb, db, none, 0⟩, A', C', ?_, ⟨hb', m1, m2, .inl hnr, by show T.nr ≤ 0; omega, Nat.zero_le _⟩, hl', xE⟩
    exact hg'
  by_cases h16 : T.k = 16 ∨ T.k = 23
  · rw [if_neg h15, if_pos h16, if_pos (.inr h16)]
    have KL := Lib.hid (list_c W0 w l n O f A C hx hL hO hn hf)
    have hk : ∃ k, T.k = k ∧ (k = 16 ∨ k = 23) := ⟨_, rfl, h16⟩
    obtain ⟨k, hk, hk2⟩ := hk
    rw [hk] at c0
    clear hk h16 h15 hL hx
    have hlw : lstN n f O ≤ n := lstN_le n f O
    go_enter Tryz.func83, Tryz.ntmps83
    rcases hk2 with rfl | rfl
    all_goals
     go_wp2_with fail
     refine (KL.out).mono ?_; rintro e Wc ⟨x, d, A', C', rfl, h1, h2, h3, h4, y⟩
     go_wp2_with fail
     refine (get_x x (lstN n f O) d _ Wc (h1.ext (HX.out.keep y hab)) (Nat.le_trans hlw hn) hfl).mono ?_; rintro e Wd ⟨xb, db, E, rfl, m1, m2, hb, z⟩
     have gd := z.block (y.block' hg (fun e => hgl e))
     have hfz : Wd.frozen? ⟨g, 9, none⟩ = false := frozenE gd
     have hcu : Wd.cell? ⟨g, 9, none⟩ = some (.slice none T.nr 0) := cell_of_heap gd rfl
     have k1 := keepCellE Wd g 9 (.slice xb (getN (lstN n f O)) db)
     have hl' := k1.block' (z.block h4) (fun e => hgl e.symm)
     have hg' := heap_setCell_same Wd g 9 _ _ (.slice xb (getN (lstN n f O)) db) gd
     have hb' := holds_set (mk := Value.int .u16) (fun u => ⟨fun _ h => (by cases h), fun _ _ _ h => (by cases h)⟩) hb gd 9 (.slice xb (getN (lstN n f O)) db)
     have xE : Ext W0 (Wd.setCell ⟨g, 9, none⟩ (.slice xb (getN (lstN n f O)) db)) := ((HX.out.keep y hab).trans z).keep k1 (fun i hi => by rw [hi]; exact hg0)
     have HP := Lib.hid (And.intro hg' (And.intro hl' (And.intro hb' (And.intro xE (And.intro m1 m2)))))
     clear hl' hg' hb' xE m1 m2 hb gd k1 z y h1 h2 h3 h4
     go_wp2
     go_end0
     obtain ⟨hg', hl', hb', xE, m1, m2⟩ := HP.out
     refine ⟨rfl, ⟨none, 0, xb, db⟩, A', C', ?_, ⟨.inl hnb, by show T.nb ≤ 0; omega, Nat.zero_le _, hb', m1, m2⟩, hl', xE⟩
     exact hg'
  · rw [if_neg h15, if_neg h16, if_neg (by omega)]
    have b1 : (T.k == 15) = false := by simp; omega
    have b2 : (T.k == 16) = false := by simp; omega
    have b3 : (T.k == 23) = false := by simp; omega
    have HG := Lib.hid hg
    have HL := Lib.hid hL
    clear hg hL hx h15 h16
    go_enter Tryz.func83, Tryz.ntmps83
    go_wp2
    go_end0
    exact ⟨rfl, zeroQV, A, C, HG.out, none_at _ hnb hnr, HL.out.at_, HX.out⟩
end Go.Proofs.YtlafnobjfajamaaGreat
namespace Go.Proofs.YtlafnobjfajamaaGreat
open Go.RowKit
set_option linter.unusedVariables false
set_option maxRecDepth 100000

theorem fil_ct {n : Nat} {f : Nat → Int} (hf : ∀ i, i < n → 0 ≤ f i ∧ f i < 256) (k : Int) : ∀ i, (filQ n f k i).ct < 65536
  | 0 => by show (0 : Int) < 65536; omega
  | i + 1 => by
    have h := fil_ct hf k i
    have ht : takV n f i < 65536 := (takA_bd hf).2
    show (setQ (fldO k i) (takV n f i) (filQ n f k i)).ct < 65536
    unfold setQ
    repeat' split
    all_goals first | exact h | exact ht
theorem par_small {n : Nat} {f : Nat → Int} (hn : n ≤ 100000) : (parQ n f).nb ≤ 1000000 ∧ (parQ n f).nr ≤ 1000000 := by
  have hl := lstN_le n f (parO n f)
  have hr := filQ_rest n f (f 0) (fldN (f 0))
  unfold parQ lisQ
  split
  · have := unN_le (m := lstN n f (parO n f)) (n := (filQ n f (f 0) (fldN (f 0))).ct)
    exact ⟨by dsimp only; omega, by dsimp only; rw [hr.2.2.2.1]; omega⟩
  split
  · exact ⟨by dsimp only; rw [hr.2.1]; omega, by dsimp only; unfold getN; split <;> omega⟩
  · exact ⟨by rw [hr.2.1]; omega, by rw [hr.2.2.2.1]; omega⟩
set_option maxHeartbeats 8000000 in
theorem aparse_any (a : Option Addr) (n c : Nat) (f : Nat → Int) (w : World) (ha : Holds .u8 w a n f) (hn : n ≤ 100000) (hnc : n ≤ c) (hcm : c ≤ maxLen) (hf : ∀ i, i < n → 0 ≤ f i ∧ f i < 256) :
    Calls Tryz.prog 45 #[.slice a n c] w fun e w' => ∃ V, e = .returned (.tuple #[.agg (qstC V (paQ n f)), .int .i64 (paE n f)]) ∧ QstAt w' V (paQ n f) ∧ Ext w w' := by
  have hways := paE_ways n f
  obtain ⟨W0, hW0, HX, He⟩ : ∃ W0, W0 = w.alloc (.cells #[.int .i64 0, .int .i64 0, .int .i64 0, .int .i64 0, .int .i64 0, .int .i64 0, .int .i64 0, .int .i64 0, .slice none 0 0, .slice none 0 0] 31) ∧ Hid (∀ W, Ext W0 W → W.heap[w.heap.size]? = some (.cells #[.int .i64 0, .int .i64 0, .int .i64 0, .int .i64 0, .int .i64 0, .int .i64 0, .int .i64 0, .int .i64 0, .slice none 0 0, .slice none 0 0] 31 (0, 0))) ∧ Hid (Ext w W0) := ⟨_, rfl, Lib.hid fun W hx => hx.block (heap_alloc_new w _), Lib.hid (Ext.alloc w _)⟩
  have hnI : (n : Int) ≤ 100000 := by omega
  by_cases h0 : n = 0
  · have hE : paE n f = 12 := by rcases hways with h | h | h | h; exact h.1; exact absurd h0 h.2.1; exact absurd h0 h.2.1; exact absurd h0 h.2.1
    have HE := Lib.hid (paQ_no hE (by decide))
    subst h0
    clear hways ha hf hE
    go_enter Tryz.func45, Tryz.ntmps45
    go_upto_region 1 with fail
    rw [← hW0]
    clear hW0
    have gR := HX.out _ (Ext.refl W0)
    have xe := He.out.trans (Ext.refl W0)
    go_wp2_with (first
      | (refine wpList_store_row rfl 31 (.tmp 2) (.tmp 9) rfl (w.heap.size) _ rfl rfl 31 _ gR (by kernel_rfl) rfl (by simp [Value.oneCell']) ?_))
    refine bodyPost_ret (results_row_tmp rfl _ _ w.heap.size 31 _ (0, 0) _ rfl (setRow_heap _ _ _ _ _ _ gR) Tryz.underlying31 rfl (by kernel_rfl)) rfl ?_
    rw [HE.out.1, HE.out.2]
    exact ⟨zeroQV, by rfl, zeroQ_at _, below_setRow xe (Nat.le_refl _) _⟩
  · obtain ⟨b, off, rfl, hb, hc⟩ := id (ha.resolve_left h0)
    have hbd := hf 0 (by omega)
    have hw0 : IntKind.i64.wrap (f 0) = f 0 := IntWalk.i64_in _ (by omega)
    have h0I : (0 : Int) < n := by omega
    have h0b : ((n : Int) == 0) = false := by simp; omega
    have HN0 := Lib.hid h0
    have c0 : W0.cell? ⟨b, off, none⟩ = some (.int .u8 (f 0)) := He.out.cell hb (show w.cell? ⟨b, off, none⟩ = some (.int .u8 (f 0)) from hc 0 (by omega))
    have hA0 := Lib.hid (ha.ext He.out)
    have hz0 : w.heap.size < W0.heap.size := by rw [hW0]; simp
    obtain ⟨W3, hW3, x3, g3⟩ : ∃ W, W = ((W0.alloc (.cells #[.int .i64 0, .int .i64 0, .int .i64 0, .int .i64 0, .int .i64 0, .int .i64 0, .int .i64 0, .int .i64 0, .slice none 0 0, .slice none 0 0] 104)).setRow W0.heap.size #[.int .i64 (f 0), .int .i64 0, .int .i64 0, .int .i64 0, .int .i64 0, .int .i64 0, .int .i64 0, .int .i64 0, .slice none 0 0, .slice none 0 0]) ∧ Ext W0 W ∧ W.heap[W0.heap.size]? = some (.cells (qstC zeroQV { zeroQ with k := f 0 }) 104 (0, 0)) := ⟨_, rfl, asked_row _ _ _ _⟩
    have ck : W3.cell? ⟨W0.heap.size, 0, none⟩ = some (.int .i64 (f 0)) := cell_of_heap g3 rfl
    cases hk : knownB (f 0) with
    | false =>
      have hE : paE n f = 1 := by
        rcases hways with h | h | h | h
        · exact absurd h.2 h0
        · exact h.1
        · rw [h.2.2.1] at hk; cases hk
        · rw [h.2.2.1] at hk; cases hk
      have HE := Lib.hid (paQ_no hE (by decide))
      have HK := Lib.hid hk
      clear hways ha hf hE hk hc hb hbd h0
      go_enter Tryz.func45, Tryz.ntmps45
      go_upto_region 1 with fail
      rw [← hW0]
      clear hW0
      go_upto_region 4 with (first
        | (refine wpList_store_row rfl 104 (.tmp 4) (.tmp 14) rfl _ _ rfl rfl 104 _ (heap_new_at _ _ (by first | rfl | simp)) (by kernel_rfl) rfl (by simp [Value.oneCell']) ?_))
      rw [← hW3]
      clear hW3 c0
      go_wp2_with fail
      refine (aknown_v HK.out _).mono ?_; rintro e w4 ⟨rfl, hw4⟩
      rw [hw4]
      have gR := HX.out _ x3
      have xe := He.out.trans x3
      clear hw4 w4 ck
      go_wp2_with (first
        | (refine wpList_store_row rfl 31 (.tmp 2) (.tmp 19) rfl (w.heap.size) _ rfl rfl 31 _ gR (by kernel_rfl) rfl (by simp [Value.oneCell']) ?_))
      refine bodyPost_ret (results_row_tmp rfl _ _ w.heap.size 31 _ (0, 0) _ rfl (setRow_heap _ _ _ _ _ _ gR) Tryz.underlying31 rfl (by kernel_rfl)) rfl ?_
      rw [HE.out.1, HE.out.2]
      exact ⟨zeroQV, by rfl, zeroQ_at _, below_setRow xe (Nat.le_refl _) _⟩
    | true =>
      have HK := Lib.hid hk
      have HFB := Lib.hid hf
      have HSy := Lib.hid (par_says hf (by omega) hk)
      have HSm := Lib.hid (par_small (f := f) hn)
      have HCt := Lib.hid (fil_ct hf (f 0) (fldN (f 0)))
      have HTk := Lib.hid (takO_le n (by omega) (fldN (f 0)))
      have HFr := Lib.hid (filQ_rest n f (f 0) (fldN (f 0)))
      have HW := Lib.hid hways
      have HPQ := Lib.hid (show paE n f = 0 → paQ n f = gueQ n f from fun h => by unfold paQ; rw [if_pos h])
      have h1n : 1 ≤ n := by omega
      have h1nI : (1 : Int) ≤ n := by omega
      clear hways ha hf hk hc hb hbd h0
      go_enter Tryz.func45, Tryz.ntmps45
      go_upto_region 1 with fail
      rw [← hW0]
      clear hW0
      go_upto_region 4 with (first
        | (refine wpList_store_row rfl 104 (.tmp 4) (.tmp 14) rfl _ _ rfl rfl 104 _ (heap_new_at _ _ (by first | rfl | simp)) (by kernel_rfl) rfl (by simp [Value.oneCell']) ?_))
      rw [← hW3]
      clear hW3 c0
      go_wp2_with fail
      refine (aknown_v HK.out _).mono ?_; rintro e w4 ⟨rfl, hw4⟩
      rw [hw4]
      clear hw4 w4
      go_upto_region 6 with fail
      go_cut [5] from 20 to 21 (fun v wx => v = .pointer (some ⟨W3.heap.size, 0, none⟩) ∧ Ext W3 wx ∧ ∃ A C, LefS W0 wx W3.heap.size n 1 f A C)
      case first => as_aux_lemma =>
        by_cases hc1 : c = 1
        · subst hc1
          go_wp2_with fail
          go_meet
          exact ⟨rfl, Ext.alloc _ _, some ⟨b, off, none⟩, 0, by rw [show n - 1 = 0 by omega]; exact heap_alloc_new W3 _, .inl (by omega), by omega, Nat.zero_le _⟩
        · have hc2 : 1 ≤ c := by omega
          go_wp2_with fail
          go_meet
          exact ⟨rfl, Ext.alloc _ _, some ⟨b, off + 1, none⟩, c - 1, heap_alloc_new W3 _, HoldsG.drop (mk := Value.int .u8) hA0.out (k := 1), by omega, by omega⟩
      case rest =>
        obtain ⟨rfl, x6, A, C, hL⟩ := hcut
        have HL := Lib.hid hL
        have ck6 := x6.cell (heap_lt g3) ck
        have hl6 : W3.heap.size < wc.heap.size := heap_lt hL.at_
        clear hL ck
        go_wp2_with fail
        refine (fieldsOf_yes _ HK.out _).mono ?_; rintro e w7 ⟨F, rfl, hF, hw7⟩
        rw [hw7]
        have hen := hF.enters
        have HFl := Lib.hid hF.tells
        clear hw7 hF w7 ck6
        go_wp2_with fail
        refine (HFl.out W0.heap.size _).mono ?_; rintro e w8 ⟨fb, fo, rfl, hf8, hb8, x8⟩
        have hg3 := heap_lt g3
        have hlt0 := x3.size
        have hS : FieS W0 w8 fb fo W0.heap.size zeroQV (f 0) (filQ n f (f 0) 0) := ⟨(x3.trans x6).trans x8, Nat.le_refl _, (x6.trans x8).block g3, hf8, by omega⟩
        have KF := Lib.hid (fill_c W0 w8 fb fo W0.heap.size W3.heap.size n (f 0) f A C hS (HL.out.ext x8) hlt0 (by omega) (by omega) h1n hn HFB.out)
        clear hS hf8 hen HFl HL
        go_wp2_with (go_at_call 81; refine KF.out.mono ?_; rintro e w9 ⟨rfl, hS9, A9, C9, hL9⟩)
        have KL := Lib.hid (fillList_c W0 w9 W0.heap.size W3.heap.size n (takO n (fldN (f 0))) f (filQ n f (f 0) (fldN (f 0))) A9 C9 hS9.x hL9 hS9.at_ HFr.out.2.1 HFr.out.2.2.2.1 (Nat.le_refl _) hlt0 (by omega) HTk.out.1 hn HFB.out (by have := HCt.out; omega))
        clear hS9 hL9 KF
        refine KL.out.mono ?_; rintro e wA ⟨rfl, V, AA, CA, gA, qA, lA, xA⟩
        rw [HFr.out.1] at lA
        have hpL : lisL n f (takO n (fldN (f 0))) (f 0) = parL n f := rfl
        have hpQ : lisQ n f (takO n (fldN (f 0))) (filQ n f (f 0) (fldN (f 0))) = parQ n f := rfl
        rw [hpL] at lA
        rw [hpQ] at gA qA
        have cl : wA.cell? ⟨W3.heap.size, 0, none⟩ = some (.slice AA (parL n f) CA) := cell_of_heap lA rfl
        have KR := Lib.hid (aright_any V (parQ n f) wA qA HSm.out.1 HSm.out.2)
        have GA := Lib.hid gA
        have QA := Lib.hid qA
        have XA := Lib.hid xA
        have hpl : parL n f ≤ n := by
          unfold parL lisL lefN
          split
          · split <;> omega
          · omega
        have h3 : ¬ (parL n f = 0 ∧ rightQ (parQ n f) = true) → paE n f = 3 := fun hne => by
          rcases HW.out with h | h | h | h
          · exact absurd h.2 HN0.out
          · have := HK.out; rw [h.2.2] at this; cases this
          · exact h.1
          · have h2 := HSy.out.2 h.2.2.2
            refine absurd ⟨h2.1, ?_⟩ hne
            rw [h2.2]
            exact ((saysB_iff n f).1 h.2.2.2).1
        have hok : parL n f = 0 ∧ rightQ (parQ n f) = true → paE n f = 0 ∧ paQ n f = parQ n f := fun hh => by
          obtain ⟨h1, h2⟩ := HSy.out.1 hh
          have hE : paE n f = 0 := by
            rcases HW.out with h | h | h | h
            · exact absurd h.2 HN0.out
            · have := HK.out; rw [h.2.2] at this; cases this
            · rw [h.2.2.2] at h1; cases h1
            · exact h.1
          exact ⟨hE, by rw [HPQ.out hE, h2]⟩
        have H3 := Lib.hid h3
        have HOK := Lib.hid hok
        clear h3 hok KL gA qA lA xA x6 x8 hb8 hl6 hg3 hlt0 g3 hpL hpQ
        obtain ⟨pl, hpl2⟩ : ∃ pl, pl = parL n f := ⟨_, rfl⟩
        rw [← hpl2] at cl H3 HOK hpl
        clear hpl2
        obtain ⟨T, hT⟩ : ∃ T, T = parQ n f := ⟨_, rfl⟩
        rw [← hT] at KR GA QA H3 HOK
        clear hT
        by_cases hp0 : pl = 0
        · subst hp0
          cases hr : rightQ T with
          | true =>
            have HE := Lib.hid (HOK.out ⟨rfl, hr⟩)
            rw [hr] at KR
            have gL := GA.out
            clear H3 HOK hr
            go_wp2_with (first
              | (refine wpList_load_row_g (by rfl) 104 (.tmp 4) rfl W0.heap.size rfl 104 _ (0, 0) _ gL Tryz.underlying104 rfl (by kernel_rfl) ?_))
            refine KR.out.mono ?_; rintro e wB ⟨rfl, xB⟩
            have gB := xB.block gL
            have xe := He.out.trans (XA.out.trans xB)
            have gR := HX.out _ (XA.out.trans xB)
            have hq := Lib.hid (setRow_qst (qstC V T) (QA.out.ext xB) gR)
            clear gL cl
            go_wp2_with (first
              | (refine wpList_load_row rfl 104 (.tmp 4) rfl W0.heap.size rfl 104 _ (0, 0) _ gB Tryz.underlying104 rfl (by kernel_rfl) ?_)
              | (refine wpList_store_row rfl 31 (.tmp 2) (.tmp 38) rfl (w.heap.size) _ rfl rfl 31 _ gR (by kernel_rfl) rfl (by simp [qstC, Value.oneCell']) ?_))
            refine bodyPost_ret (results_row_tmp rfl _ _ w.heap.size 31 _ (0, 0) _ rfl (setRow_heap _ _ _ _ _ _ gR) Tryz.underlying31 rfl (by kernel_rfl)) rfl ?_
            rw [HE.out.1, HE.out.2]
            exact ⟨V, by rfl, hq.out, below_setRow xe (Nat.le_refl _) _⟩
          | false =>
            have HE := Lib.hid (paQ_no (H3.out (fun hh => by rw [hr] at hh; cases hh.2)) (by decide))
            rw [hr] at KR
            have gL := GA.out
            clear H3 HOK hr
            go_wp2_with (first
              | (refine wpList_load_row_g (by rfl) 104 (.tmp 4) rfl W0.heap.size rfl 104 _ (0, 0) _ gL Tryz.underlying104 rfl (by kernel_rfl) ?_))
            refine KR.out.mono ?_; rintro e wB ⟨rfl, xB⟩
            have xe := He.out.trans (XA.out.trans xB)
            have gR := HX.out _ (XA.out.trans xB)
            clear gL cl
            go_wp2_with (first
              | (refine wpList_store_row rfl 31 (.tmp 2) (.tmp 37) rfl (w.heap.size) _ rfl rfl 31 _ gR (by kernel_rfl) rfl (by simp [Value.oneCell']) ?_))
            refine bodyPost_ret (results_row_tmp rfl _ _ w.heap.size 31 _ (0, 0) _ rfl (setRow_heap _ _ _ _ _ _ gR) Tryz.underlying31 rfl (by kernel_rfl)) rfl ?_
            rw [HE.out.1, HE.out.2]
            exact ⟨zeroQV, by rfl, zeroQ_at _, below_setRow xe (Nat.le_refl _) _⟩
        · have HE := Lib.hid (paQ_no (H3.out (fun hh => hp0 hh.1)) (by decide))
          have hpI : (0 : Int) < pl := by omega
          have gR := HX.out _ XA.out
          have xe := He.out.trans XA.out
          clear H3 HOK KR
          go_wp2_with (first
            | (refine wpList_store_row rfl 31 (.tmp 2) (.tmp 37) rfl (w.heap.size) _ rfl rfl 31 _ gR (by kernel_rfl) rfl (by simp [Value.oneCell']) ?_))
          refine bodyPost_ret (results_row_tmp rfl _ _ w.heap.size 31 _ (0, 0) _ rfl (setRow_heap _ _ _ _ _ _ gR) Tryz.underlying31 rfl (by kernel_rfl)) rfl ?_
          rw [HE.out.1, HE.out.2]
          exact ⟨zeroQV, by rfl, zeroQ_at _, below_setRow xe (Nat.le_refl _) _⟩
end Go.Proofs.YtlafnobjfajamaaGreat
