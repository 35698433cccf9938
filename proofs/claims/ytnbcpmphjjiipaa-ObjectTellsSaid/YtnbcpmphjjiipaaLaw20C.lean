/-
  THE LAWS OF LAYER 20: ObjectSorts (package object's contracts as premises).
-/
import Derived.Test.YtnbcpmphjjiipaaLaw20B
import Derived.Laws.CopyOwn
namespace Go.Proofs.Ytnbcpmphjjiipaa
open Go.RowKit
set_option linter.unusedVariables false
set_option maxRecDepth 100000

theorem ObjsAt.one {w : World} {b o n c : Nat} {L : List Ob} (h : ObjsAt w (some ⟨b, o, none⟩) n c L) {k : Nat} (hk : k < L.length) : ObjsAt w (some ⟨b, o + k * 2, none⟩) 1 (c - k) [L[k]] := by
  have h1 := h.drop (k := k) (by rw [← h.len]; omega)
  have h2 := h1.h.takeL 1
  have e : (L.drop k).take 1 = [L[k]] := by rw [List.drop_eq_getElem_cons hk]; rfl
  rw [e] at h2
  exact ⟨rfl, h2, by have := h.l; have := h.len; omega, by have := h.m; omega, fun y hy => by rw [List.mem_singleton.1 hy]; exact h.each _ (List.getElem_mem hk)⟩
set_option maxHeartbeats 16000000 in
theorem objectSorts.small (K : ObjC) (a : Option Addr) (n c : Nat) (L : List Ob) (J : Int) (w : World) (hL : ObjsAt w a n c L) (hLf : fewO L = true) (hr : rightO L = true) (j0 : 0 ≤ J) (j1 : J < 256) :
    Calls Try.prog 4 #[.slice a n c, .int .u8 J] w fun e w' => e = .returned (.bool true) ∧ Ext w w' := by
  have fL := fewO_f hLf
  have HN : Hid (n ≤ 1000000) := Lib.hid (by have := fL.n; rw [hL.len] at this; omega)
  have HL := Lib.hid (And.intro hL fL)
  have HR := Lib.hid hr
  have HK := Lib.hid K
  have KFl := Lib.hid (fun W (x : Ext w W) => rfew20_any a n c L W (HL.out.1.ext x) (by have := HN.out; omega))
  rw [hLf] at KFl
  have KA := Lib.hid (fun W (x : Ext w W) => HK.out.right a n c L W (HL.out.1.ext x) HL.out.2)
  rw [hr] at KA
  have KV := Lib.hid (fun W (x : Ext w W) => HK.out.level a n c L W (HL.out.1.ext x) HL.out.2)
  have hJ : IntKind.i64.wrap J = J := IntWalk.i64_in _ (by omega)
  obtain ⟨v, hv⟩ : ∃ v, levelO L = v := ⟨_, rfl⟩
  have HV := Lib.hid hv
  rw [hv] at KV
  have HJ := Lib.hid (And.intro j0 j1)
  clear K hL fL hLf hr hv j0 j1
  go_enter Try.func4, Try.ntmps4
  go_wp2_with fail
  refine (KFl.out w (Ext.refl _)).mono ?_; rintro e w1 ⟨rfl, hw1⟩
  rw [hw1]; clear hw1
  go_wp2_with fail
  refine (KA.out w (Ext.refl _)).mono ?_; rintro e w1 ⟨rfl, x1⟩
  go_wp2_with fail
  refine (KV.out _ x1).mono ?_; rintro e w2 ⟨rfl, x2⟩
  have x12 := x1.trans x2
  clear x1 x2
  go_wp2_with fail
  go_loopw [6] (fun sv wr => ∃ s : Int, 1 ≤ s ∧ s ≤ 4 ∧ sv = .int .i64 s ∧ Ext w wr) (fun sv _ => (4 - intOf sv).toNat)
  case atStart => exact ⟨1, by decide, by decide, rfl, x12⟩
  case round =>
    obtain ⟨s, s1, s4, rfl, xr⟩ := hrel
    clear x12
    by_cases hs3 : s ≤ 3
    · have HSs := Lib.hid (And.intro s1 hs3)
      have ws : (Lit.int .i64 s).wf = true := by simp [Lit.wf, IntKind.min, IntKind.max, IntKind.signed, IntKind.bits]; omega
      have HWs := Lib.hid ws
      clear ws
      go_wp2_with fail
      refine (HK.out.of a n c L s wr (HL.out.1.ext xr) HL.out.2 HWs.out).mono ?_; rintro e wo ⟨b1, m1, q1, M1, rfl, oM, sM, xo⟩
      have xwo := xr.trans xo
      have HM := Lib.hid (And.intro oM sM)
      have hm3 : 3 ≤ m1 := by rw [← oM.len, sameO_len sM]; exact of_len HR.out HSs.out.1 HSs.out.2
      have hml : m1 ≤ n := by rw [← oM.len, sameO_len sM, ← HL.out.1.len]; exact ofO_len _ _
      obtain ⟨g, o, rfl, hg, -⟩ := oM.h.resolve_left (by intro e; have := oM.len; rw [e] at this; simp at this; omega)
      have HG0 := Lib.hid hg
      have hq : (m1 : Int) ≤ q1 := by have := oM.l; omega
      have hqm : (q1 : Int) ≤ 9223372036854775807 := by have := oM.m; unfold maxLen at this; omega
      have HMN := Lib.hid (And.intro hm3 hml)
      have KSa := Lib.hid (HK.out.same (some ⟨g, o, none⟩) a m1 n q1 c M1 L wo oM (HL.out.1.ext xwo) (ObjF.same sM (HL.out.2.ofO s)) HL.out.2)
      rw [sameO_left sM, level_same HR.out HSs.out.1 HSs.out.2, HV.out] at KSa
      have hm3' : ¬ (m1 : Int) < 3 := by omega
      clear oM sM hg xr xo hm3 hml
      go_wp2_with fail
      refine KSa.out.mono ?_; rintro e w3 ⟨rfl, x3⟩
      have xw3 := xwo.trans x3
      have x3' := x3
      clear x3 KSa
      go_wp2_with fail
      go_loopw [8] (fun iv wj => ∃ k : Nat, k ≤ m1 ∧ iv = .int .i64 k ∧ Ext wo wj) (fun iv _ => m1 - (intOf iv).toNat)
      case atStart => exact ⟨0, Nat.zero_le _, rfl, x3'⟩
      case round =>
        obtain ⟨k, hk, rfl, xj⟩ := hrel
        by_cases hlt : k < m1
        · have hkM : k < M1.length := by rw [HM.out.1.len]; exact hlt
          have hkU : k < (ofO s L).length := by rw [← sameO_len HM.out.2]; exact hkM
          have sxu := sameO_at HM.out.2 hkM hkU
          have hfu := of_find HR.out (List.getElem_mem hkU)
          obtain ⟨a0, -⟩ := HM.out.1.h.ob_at k hkM
          have wx := (HM.out.1.each M1[k] (List.getElem_mem hkM)).wi
          have hnx := HM.out.1.one hkM
          have hux := List.getElem_mem hkU
          have hun := HL.out.2.e _ (List.mem_filter.1 hux).1
          generalize (ofO s L)[k] = u at sxu hfu hux hun
          generalize M1[k] = x at sxu a0 wx hnx
          have hid := (sameZ_iff.1 sxu).1
          rw [← hid] at hfu
          have HU := Lib.hid (And.intro sxu (And.intro hfu (And.intro hux (And.intro hun hid))))
          obtain ⟨I, hI⟩ : ∃ I, x.id = I := ⟨_, rfl⟩
          rw [hI] at a0 wx
          have HI := Lib.hid hI
          have HWI := Lib.hid wx
          have HNX := Lib.hid hnx
          have HA0 := Lib.hid a0
          have c9 := xj.cell HG0.out a0
          have hlt' : (k : Int) < m1 := by omega
          have k0 : (0 : Int) ≤ k := by omega
          have xwj := xwo.trans xj
          clear sxu hfu hux hun hid hI wx hnx a0 hkM hkU
          go_wp2_with fail
          refine (HK.out.find a n c L I wr (HL.out.1.ext xwj) HL.out.2 HWI.out).mono ?_; rintro e wf ⟨z, rfl, hz, sz, xf⟩
          rw [show findO I L = some u from by rw [← HI.out]; exact HU.out.2.1] at sz ⊢
          obtain ⟨G, hG⟩ : ∃ G, G = wf.heap.size := ⟨_, rfl⟩
          obtain ⟨Wz, hWz, yz, gz⟩ : ∃ Wz, Wz = wf.alloc (.cells (obC z) 28) ∧ Ext wf Wz ∧ Wz.heap[G]? = some (.cells (obC z) 28 (0, 0)) := ⟨_, rfl, Ext.alloc _ _, by rw [hG]; exact heap_alloc_new _ _⟩
          have xz : Ext wr Wz := xf.trans yz
          have szx : sameZ z x = true := sameZ_trans sz (sameZ_symm HU.out.1)
          have zn : z.n ≤ 1000000 := by rw [(sameZ_iff.1 sz).2.1]; exact HU.out.2.2.2.1
          have xn : x.n ≤ 1000000 := by rw [(sameZ_iff.1 HU.out.1).2.1]; exact HU.out.2.2.2.1
          have HG := Lib.hid (fun W (y : Ext Wz W) => (y.block gz : W.heap[G]? = some (.cells #[.int .i64 z.id, .slice z.a z.n z.c] 28 (0, 0))))
          have KS := Lib.hid (fun W g1 (y : Ext Wz W) (q1' : W.heap[g1]? = some (.cells (obC z) 28 (0, 0))) => (HK.out.same (some ⟨g1, 0, none⟩) (some ⟨g, o + k * 2, none⟩) 1 1 1 (q1 - k) [z] [x] W (one_at q1' ((hz.ext yz).ext y)) (HNX.out.ext (xj.trans (xz.trans y))) (oneF zn) (oneF xn)).mono (fun e w' hh => (⟨by rw [hh.1, sameO_one szx], hh.2⟩ : e = .returned (.bool true) ∧ Ext W w')))
          simp only [obC]
          go_upto_region 14 with fail
          rw [show (wf.alloc (.cells #[.int .i64 z.id, .slice z.a z.n z.c] 28)) = Wz from hWz.symm, ← hG]
          clear hWz hG gz hz sz xf yz szx zn xn c9
          have e1 : IntKind.i64.wrap ((k : Int) + 1) = k + 1 := IntWalk.i64_in _ (by omega)
          have k1 : (k : Int) + 1 ≤ q1 := by omega
          have k2 : ¬ q1 = k := by omega
          have k3 : ¬ (k : Int) + 1 < 0 := by omega
          obtain ⟨X, hX⟩ : ∃ X, X = Wz.drew := ⟨_, rfl⟩
          have hs : Ext Wz X := by rw [hX]; exact Ext.drew _
          refine wp_region_held_drew (S := fun W => Ext Wz W) (by kernel_rfl) (by rw [← hX]; exact hs) (fun _ => ?_)
          rw [← hX]
          clear hX
          refine wpAnyH_takeD (i := 0) (d := 60) (v := .bool true) rfl rfl (by kernel_rfl) (by kernel_rfl) (by kernel_rfl) (fun _ _ _ h => h) (Or.inl ⟨by rfl, fun W hW => by go_simp⟩) hs ?_
          simp only [Act.put, List.setIfInBounds_toArray, List.set_cons_succ, List.set_cons_zero]
          refine wpAnyH_takeD (i := 1) (d := 61) (v := .bool false) rfl rfl (by kernel_rfl) (by kernel_rfl) (by kernel_rfl) (fun _ _ _ h => h) (Or.inl ⟨by rfl, fun W hW => by go_simp⟩) hs ?_
          simp only [Act.put, List.setIfInBounds_toArray, List.set_cons_succ, List.set_cons_zero]
          refine wpAnyH_takeD (i := 2) (d := 62) (v := .bool false) rfl rfl (by kernel_rfl) (by kernel_rfl) (by kernel_rfl) (fun _ _ _ h => h) (Or.inl ⟨by rfl, fun W hW => by go_simp⟩) hs ?_
          simp only [Act.put, List.setIfInBounds_toArray, List.set_cons_succ, List.set_cons_zero]
          refine wpAnyH_takeD (i := 3) (d := 63) rfl rfl (by kernel_rfl) (by kernel_rfl) (by kernel_rfl) (fun _ _ _ h => h) (yieldsIf_load_row (by rfl) 28 (.tmp 9) rfl (G) rfl 28 _ (0, 0) _ (fun w' hw' => HG.out _ hw') Try.underlying28 rfl (by kernel_rfl)) hs ?_
          simp only [Act.put, List.setIfInBounds_toArray, List.set_cons_succ, List.set_cons_zero]
          refine wpAnyH_takeD (i := 5) (d := 65) (v := .slice (some ⟨g, o, none⟩) m1 q1) rfl rfl (by kernel_rfl) (by kernel_rfl) (by kernel_rfl) (fun _ _ _ h => h) (Or.inl ⟨by rfl, fun W hW => by go_simp⟩) hs ?_
          simp only [Act.put, List.setIfInBounds_toArray, List.set_cons_succ, List.set_cons_zero]
          refine wpAnyH_takeD (i := 6) (d := 66) (v := .int .i64 k) rfl rfl (by kernel_rfl) (by kernel_rfl) (by kernel_rfl) (fun _ _ _ h => h) (Or.inl ⟨by rfl, fun W hW => by go_simp⟩) hs ?_
          simp only [Act.put, List.setIfInBounds_toArray, List.set_cons_succ, List.set_cons_zero]
          refine wpAnyH_takeD (i := 7) (d := 67) (v := .int .i64 k) rfl rfl (by kernel_rfl) (by kernel_rfl) (by kernel_rfl) (fun _ _ _ h => h) (Or.inl ⟨by rfl, fun W hW => by go_simp⟩) hs ?_
          simp only [Act.put, List.setIfInBounds_toArray, List.set_cons_succ, List.set_cons_zero]
          refine wpAnyH_takeD (i := 8) (d := 68) (v := .int .i64 ((k : Int) + 1)) rfl rfl (by kernel_rfl) (by kernel_rfl) (by kernel_rfl) (fun _ _ _ h => h) (Or.inl ⟨by rfl, fun W hW => by go_simp⟩) hs ?_
          simp only [Act.put, List.setIfInBounds_toArray, List.set_cons_succ, List.set_cons_zero]
          refine wpAnyH_takeD (i := 9) (d := 69) (v := .slice (some ⟨g, o + k * 2, none⟩) 1 (q1 - k)) rfl rfl (by kernel_rfl) (by kernel_rfl) (by kernel_rfl) (fun _ _ _ h => h) (Or.inl ⟨by rfl, fun W hW => by go_simp⟩) hs ?_
          simp only [Act.put, List.setIfInBounds_toArray, List.set_cons_succ, List.set_cons_zero]
          refine wpAnyH_ready (rs := [4]) (by kernel_rfl) (by simp) (AllReadyH.cons rfl (fun K hK => ?_) AllReadyH.nil)
          go_simp
          refine hK.out _ _ (hs.trans (Ext.alloc _ _)) (fun hs => ?_)
          clear hK K
          refine wpAnyH_ready (rs := [10]) (by kernel_rfl) (by simp) (AllReadyH.cons rfl (fun K hK => ?_) AllReadyH.nil)
          go_simp
          refine (KS.out _ _ hs (heap_new_at _ _ (by simp))).mono ?_; rintro e w8 ⟨rfl, x8⟩
          go_wp2_with fail
          refine hK.out _ _ (hs.trans x8) (fun hs => ?_)
          clear hK K
          refine wpAnyH_takeD (i := 11) (d := 71) (v := .bool false) rfl rfl (by kernel_rfl) (by kernel_rfl) (by kernel_rfl) (fun _ _ _ h => h) (Or.inl ⟨by rfl, fun W hW => by go_simp⟩) hs ?_
          simp only [Act.put, List.setIfInBounds_toArray, List.set_cons_succ, List.set_cons_zero]
          refine wpAnyH_takeD (i := 12) (d := 72) (v := .bool false) rfl rfl (by kernel_rfl) (by kernel_rfl) (by kernel_rfl) (fun _ _ _ h => h) (Or.inl ⟨by rfl, fun W hW => by go_simp⟩) hs ?_
          simp only [Act.put, List.setIfInBounds_toArray, List.set_cons_succ, List.set_cons_zero]
          refine wpAnyH_done (by kernel_rfl) ?_ _
          have x8w : Ext wr w8 := xz.trans hs
          clear KS HG xz x8
          obtain ⟨t, ht, hst, ht3, hmin⟩ : ∃ t, (Lit.int .i64 t).wf = true ∧ s ≤ t ∧ t ≤ 3 ∧ (if 3 < s + 1 then 3 else s + 1) = t := by
            have := HSs.out
            by_cases h3 : 3 < s + 1
            · exact ⟨3, by decide, by omega, by omega, if_pos h3⟩
            · exact ⟨s + 1, by simp [Lit.wf, IntKind.min, IntKind.max, IntKind.signed, IntKind.bits]; omega, by omega, by omega, if_neg h3⟩
          have HT := Lib.hid (And.intro ht (And.intro hst ht3))
          have KO := Lib.hid (fun W (y : Ext w8 W) => HK.out.of a n c L t W (HL.out.1.ext (xwj.trans (x8w.trans y))) HL.out.2 HT.out.1)
          have KF := Lib.hid (fun W (b2 : Option Addr) (m2 q2 : Nat) (M2 : List Ob) (y : Ext w8 W) (o2 : ObjsAt W b2 m2 q2 M2) (s2 : sameO M2 (ofO t L) = true) => (HK.out.find b2 m2 q2 M2 I W o2 (ObjF.same s2 (HL.out.2.ofO t)) HWI.out).mono (fun e w' hh => by
            obtain ⟨y, he, -, -, hx⟩ := hh
            refine (⟨y, ?_, hx⟩ : ∃ y, e = .returned (.tuple #[.agg (obC y), .bool true]) ∧ Ext W w')
            rw [he, (findO_same I s2).1, show I = u.id from HI.out.symm.trans HU.out.2.2.2.2, of_next HR.out HSs.out.1 HT.out.2.1 HT.out.2.2 HU.out.2.2.1]
            rfl))
          have HC9 := Lib.hid (fun W (y : Ext w8 W) => ((xj.trans (x8w.trans y)).cell HG0.out HA0.out : W.cell? ⟨g, o + k * 2, none⟩ = some (.int .i64 I)))
          have e2 : IntKind.i64.wrap (s + 1) = s + 1 := IntWalk.i64_in _ (by omega)
          clear ht hst ht3 HU
          go_upto_region 16 with fail
          obtain ⟨X, hX⟩ : ∃ X, X = w8.drew := ⟨_, rfl⟩
          have hs : Ext w8 X := by rw [hX]; exact Ext.drew _
          have hXl : w8.heap.size ≤ X.heap.size := hs.size
          go_cut [12] (fun v wx => v = .bool true ∧ Ext w8 wx)
          case first =>
            as_aux_lemma =>
            refine wp_region_held_drew (S := fun W => Ext w8 W) (by kernel_rfl) (by rw [← hX]; exact hs) (fun _ => ?_)
            rw [← hX]
            clear hX
            refine wpAnyH_takeD (i := 0) (d := 74) (v := .slice a n c) rfl rfl (by kernel_rfl) (by kernel_rfl) (by kernel_rfl) (fun _ _ _ h => h) (Or.inl ⟨by rfl, fun W hW => by go_simp⟩) hs ?_
            simp only [Act.put, List.setIfInBounds_toArray, List.set_cons_succ, List.set_cons_zero]
            refine wpAnyH_takeD (i := 1) (d := 75) (v := .int .i64 s) rfl rfl (by kernel_rfl) (by kernel_rfl) (by kernel_rfl) (fun _ _ _ h => h) (Or.inl ⟨by rfl, fun W hW => by go_simp⟩) hs ?_
            simp only [Act.put, List.setIfInBounds_toArray, List.set_cons_succ, List.set_cons_zero]
            refine wpAnyH_takeD (i := 2) (d := 76) (v := .int .i64 (s + 1)) rfl rfl (by kernel_rfl) (by kernel_rfl) (by kernel_rfl) (fun _ _ _ h => h) (Or.inl ⟨by rfl, fun W hW => by go_simp⟩) hs ?_
            simp only [Act.put, List.setIfInBounds_toArray, List.set_cons_succ, List.set_cons_zero]
            refine wpAnyH_takeD (i := 3) (d := 77) (v := .int .i64 t) rfl rfl (by kernel_rfl) (by kernel_rfl) (by kernel_rfl) (fun _ _ _ h => h) (Or.inl ⟨by rfl, fun W hW => by go_simp⟩) hs ?_
            simp only [Act.put, List.setIfInBounds_toArray, List.set_cons_succ, List.set_cons_zero]
            refine wpAnyH_takeD (i := 5) (d := 79) (v := .slice (some ⟨g, o, none⟩) m1 q1) rfl rfl (by kernel_rfl) (by kernel_rfl) (by kernel_rfl) (fun _ _ _ h => h) (Or.inl ⟨by rfl, fun W hW => by go_simp⟩) hs ?_
            simp only [Act.put, List.setIfInBounds_toArray, List.set_cons_succ, List.set_cons_zero]
            refine wpAnyH_takeD (i := 6) (d := 80) (v := .int .i64 k) rfl rfl (by kernel_rfl) (by kernel_rfl) (by kernel_rfl) (fun _ _ _ h => h) (Or.inl ⟨by rfl, fun W hW => by go_simp⟩) hs ?_
            simp only [Act.put, List.setIfInBounds_toArray, List.set_cons_succ, List.set_cons_zero]
            refine wpAnyH_takeD (i := 7) (d := 81) (v := .pointer (some ⟨g, o + k * 2, none⟩)) rfl rfl (by kernel_rfl) (by kernel_rfl) (by kernel_rfl) (fun _ _ _ h => h) (Or.inl ⟨by rfl, fun W hW => by have c9 := HC9.out W hW; go_simp⟩) hs ?_
            simp only [Act.put, List.setIfInBounds_toArray, List.set_cons_succ, List.set_cons_zero]
            refine wpAnyH_takeD (i := 8) (d := 82) (v := .pointer (some ⟨g, o + k * 2, none⟩)) rfl rfl (by kernel_rfl) (by kernel_rfl) (by kernel_rfl) (fun _ _ _ h => h) (Or.inl ⟨by rfl, fun W hW => by go_simp⟩) hs ?_
            simp only [Act.put, List.setIfInBounds_toArray, List.set_cons_succ, List.set_cons_zero]
            refine wpAnyH_takeD (i := 9) (d := 83) (v := .int .i64 I) rfl rfl (by kernel_rfl) (by kernel_rfl) (by kernel_rfl) (fun _ _ _ h => h) (Or.inl ⟨by rfl, fun W hW => by have c9 := HC9.out W hW; go_simp⟩) hs ?_
            simp only [Act.put, List.setIfInBounds_toArray, List.set_cons_succ, List.set_cons_zero]
            refine wpAnyH_ready (rs := [4, 14]) (by kernel_rfl) (by simp) (AllReadyH.cons rfl (fun K hK => ?_) (AllReadyH.cons rfl (fun K hK => ?_) AllReadyH.nil))
            · go_simp
              refine (KO.out _ hs).mono ?_; rintro e w2 ⟨b2, m2, q2, M2, rfl, o2, s2, x2⟩
              go_wp2_with fail
              refine hK.out _ _ (hs.trans x2) (fun hs => ?_)
              clear hK K
              refine wpAnyH_ready (rs := [10, 14]) (by kernel_rfl) (by simp) (AllReadyH.cons rfl (fun K hK => ?_) (AllReadyH.cons rfl (fun K hK => ?_) AllReadyH.nil))
              · go_simp
                refine (KF.out _ b2 m2 q2 M2 hs (by first | exact o2 | exact o2.ext xa) s2).mono ?_; rintro e w3 ⟨y, rfl, x3⟩
                go_wp2_with fail
                refine hK.out _ _ (hs.trans x3) (fun hs => ?_)
                clear hK K
                simp only [obC]
                refine wpAnyH_takeD (i := 11) (d := 73) (v := .tuple #[.agg #[.int .i64 y.id, .slice y.a y.n y.c], .bool true]) rfl rfl (by kernel_rfl) (by kernel_rfl) (by kernel_rfl) (fun _ _ _ h => h) (Or.inl ⟨by rfl, fun W hW => by go_simp⟩) hs ?_
                simp only [Act.put, List.setIfInBounds_toArray, List.set_cons_succ, List.set_cons_zero]
                refine wpAnyH_takeD (i := 12) (d := 85) (v := .agg #[.int .i64 y.id, .slice y.a y.n y.c]) rfl rfl (by kernel_rfl) (by kernel_rfl) (by kernel_rfl) (fun _ _ _ h => h) (Or.inl ⟨by rfl, fun W hW => by go_simp⟩) hs ?_
                simp only [Act.put, List.setIfInBounds_toArray, List.set_cons_succ, List.set_cons_zero]
                refine wpAnyH_takeD (i := 13) (d := 86) (v := .bool true) rfl rfl (by kernel_rfl) (by kernel_rfl) (by kernel_rfl) (fun _ _ _ h => h) (Or.inl ⟨by rfl, fun W hW => by go_simp⟩) hs ?_
                simp only [Act.put, List.setIfInBounds_toArray, List.set_cons_succ, List.set_cons_zero]
                refine wpAnyH_ready (rs := [14]) (by kernel_rfl) (by simp) (AllReadyH.cons rfl (fun K hK => ?_) AllReadyH.nil)
                go_simp
                refine hK.out _ _ (hs.trans (Ext.alloc _ _)) (fun hs => ?_)
                clear hK K
                obtain ⟨Wa, hWa, ga⟩ : ∃ Wa, Wa = w3.alloc (.cells #[.int .i64 0, .slice none 0 0] 28) ∧ Wa.heap[w3.heap.size]? = some (.cells #[.int .i64 0, .slice none 0 0] 28 (0, 0)) := ⟨_, rfl, heap_alloc_new _ _⟩
                have xa : Ext w3 Wa := by rw [hWa]; exact Ext.alloc _ _
                rw [← hWa] at hs ⊢
                obtain ⟨G2, hG2, hGl⟩ : ∃ G2, G2 = w3.heap.size ∧ w8.heap.size ≤ G2 := ⟨_, rfl, Nat.le_trans hXl (x2.trans x3).size⟩
                rw [← hG2] at ga ⊢
                clear hWa hG2
                refine wpAnyH_ready (rs := [15]) (by kernel_rfl) (by simp) (AllReadyH.cons rfl (fun K hK => ?_) AllReadyH.nil)
                refine step_store_row rfl 28 (.tmp 11) (.tmp 85) rfl G2 #[.int .i64 y.id, .slice y.a y.n y.c] rfl rfl 28 #[.int .i64 0, .slice none 0 0] (by first | exact ga | exact x3.block ga | exact (x2.trans x3).block ga) (by kernel_rfl) rfl (by simp [Value.oneCell']) rfl ?_
                refine hK.out _ _ (below_setRow hs hGl _) (fun hs => ?_)
                clear hK K
                simp only [Act.put]
                refine wpAnyH_takeD (i := 16) (d := 12) (v := .bool true) rfl rfl (by kernel_rfl) (by kernel_rfl) (by kernel_rfl) (fun _ _ _ h => h) (Or.inl ⟨by rfl, fun W hW => by go_simp⟩) hs ?_
                simp only [Act.put, List.setIfInBounds_toArray, List.set_cons_succ, List.set_cons_zero]
                refine wpAnyH_done (by kernel_rfl) ?_ _
                go_wp2_with fail
                go_meet
                exact ⟨rfl, hs⟩
              · go_simp
                refine hK.out _ _ (hs.trans (Ext.alloc _ _)) (fun hs => ?_)
                clear hK K
                obtain ⟨Wa, hWa, ga⟩ : ∃ Wa, Wa = w2.alloc (.cells #[.int .i64 0, .slice none 0 0] 28) ∧ Wa.heap[w2.heap.size]? = some (.cells #[.int .i64 0, .slice none 0 0] 28 (0, 0)) := ⟨_, rfl, heap_alloc_new _ _⟩
                have xa : Ext w2 Wa := by rw [hWa]; exact Ext.alloc _ _
                rw [← hWa] at hs ⊢
                obtain ⟨G2, hG2, hGl⟩ : ∃ G2, G2 = w2.heap.size ∧ w8.heap.size ≤ G2 := ⟨_, rfl, Nat.le_trans hXl x2.size⟩
                rw [← hG2] at ga ⊢
                clear hWa hG2
                refine wpAnyH_ready (rs := [10]) (by kernel_rfl) (by simp) (AllReadyH.cons rfl (fun K hK => ?_) AllReadyH.nil)
                go_simp
                refine (KF.out _ b2 m2 q2 M2 hs (by first | exact o2 | exact o2.ext xa) s2).mono ?_; rintro e w3 ⟨y, rfl, x3⟩
                go_wp2_with fail
                refine hK.out _ _ (hs.trans x3) (fun hs => ?_)
                clear hK K
                simp only [obC]
                refine wpAnyH_takeD (i := 11) (d := 73) (v := .tuple #[.agg #[.int .i64 y.id, .slice y.a y.n y.c], .bool true]) rfl rfl (by kernel_rfl) (by kernel_rfl) (by kernel_rfl) (fun _ _ _ h => h) (Or.inl ⟨by rfl, fun W hW => by go_simp⟩) hs ?_
                simp only [Act.put, List.setIfInBounds_toArray, List.set_cons_succ, List.set_cons_zero]
                refine wpAnyH_takeD (i := 12) (d := 85) (v := .agg #[.int .i64 y.id, .slice y.a y.n y.c]) rfl rfl (by kernel_rfl) (by kernel_rfl) (by kernel_rfl) (fun _ _ _ h => h) (Or.inl ⟨by rfl, fun W hW => by go_simp⟩) hs ?_
                simp only [Act.put, List.setIfInBounds_toArray, List.set_cons_succ, List.set_cons_zero]
                refine wpAnyH_takeD (i := 13) (d := 86) (v := .bool true) rfl rfl (by kernel_rfl) (by kernel_rfl) (by kernel_rfl) (fun _ _ _ h => h) (Or.inl ⟨by rfl, fun W hW => by go_simp⟩) hs ?_
                simp only [Act.put, List.setIfInBounds_toArray, List.set_cons_succ, List.set_cons_zero]
                refine wpAnyH_ready (rs := [15]) (by kernel_rfl) (by simp) (AllReadyH.cons rfl (fun K hK => ?_) AllReadyH.nil)
                refine step_store_row rfl 28 (.tmp 11) (.tmp 85) rfl G2 #[.int .i64 y.id, .slice y.a y.n y.c] rfl rfl 28 #[.int .i64 0, .slice none 0 0] (by first | exact ga | exact x3.block ga | exact (x2.trans x3).block ga) (by kernel_rfl) rfl (by simp [Value.oneCell']) rfl ?_
                refine hK.out _ _ (below_setRow hs hGl _) (fun hs => ?_)
                clear hK K
                simp only [Act.put]
                refine wpAnyH_takeD (i := 16) (d := 12) (v := .bool true) rfl rfl (by kernel_rfl) (by kernel_rfl) (by kernel_rfl) (fun _ _ _ h => h) (Or.inl ⟨by rfl, fun W hW => by go_simp⟩) hs ?_
                simp only [Act.put, List.setIfInBounds_toArray, List.set_cons_succ, List.set_cons_zero]
                refine wpAnyH_done (by kernel_rfl) ?_ _
                go_wp2_with fail
                go_meet
                exact ⟨rfl, hs⟩
            · go_simp
              refine hK.out _ _ (hs.trans (Ext.alloc _ _)) (fun hs => ?_)
              clear hK K
              obtain ⟨Wa, hWa, ga⟩ : ∃ Wa, Wa = X.alloc (.cells #[.int .i64 0, .slice none 0 0] 28) ∧ Wa.heap[X.heap.size]? = some (.cells #[.int .i64 0, .slice none 0 0] 28 (0, 0)) := ⟨_, rfl, heap_alloc_new _ _⟩
              have xa : Ext X Wa := by rw [hWa]; exact Ext.alloc _ _
              rw [← hWa] at hs ⊢
              obtain ⟨G2, hG2, hGl⟩ : ∃ G2, G2 = X.heap.size ∧ w8.heap.size ≤ G2 := ⟨_, rfl, hXl⟩
              rw [← hG2] at ga ⊢
              clear hWa hG2
              refine wpAnyH_ready (rs := [4]) (by kernel_rfl) (by simp) (AllReadyH.cons rfl (fun K hK => ?_) AllReadyH.nil)
              go_simp
              refine (KO.out _ hs).mono ?_; rintro e w2 ⟨b2, m2, q2, M2, rfl, o2, s2, x2⟩
              go_wp2_with fail
              refine hK.out _ _ (hs.trans x2) (fun hs => ?_)
              clear hK K
              refine wpAnyH_ready (rs := [10]) (by kernel_rfl) (by simp) (AllReadyH.cons rfl (fun K hK => ?_) AllReadyH.nil)
              go_simp
              refine (KF.out _ b2 m2 q2 M2 hs (by first | exact o2 | exact o2.ext xa) s2).mono ?_; rintro e w3 ⟨y, rfl, x3⟩
              go_wp2_with fail
              refine hK.out _ _ (hs.trans x3) (fun hs => ?_)
              clear hK K
              simp only [obC]
              refine wpAnyH_takeD (i := 11) (d := 73) (v := .tuple #[.agg #[.int .i64 y.id, .slice y.a y.n y.c], .bool true]) rfl rfl (by kernel_rfl) (by kernel_rfl) (by kernel_rfl) (fun _ _ _ h => h) (Or.inl ⟨by rfl, fun W hW => by go_simp⟩) hs ?_
              simp only [Act.put, List.setIfInBounds_toArray, List.set_cons_succ, List.set_cons_zero]
              refine wpAnyH_takeD (i := 12) (d := 85) (v := .agg #[.int .i64 y.id, .slice y.a y.n y.c]) rfl rfl (by kernel_rfl) (by kernel_rfl) (by kernel_rfl) (fun _ _ _ h => h) (Or.inl ⟨by rfl, fun W hW => by go_simp⟩) hs ?_
              simp only [Act.put, List.setIfInBounds_toArray, List.set_cons_succ, List.set_cons_zero]
              refine wpAnyH_takeD (i := 13) (d := 86) (v := .bool true) rfl rfl (by kernel_rfl) (by kernel_rfl) (by kernel_rfl) (fun _ _ _ h => h) (Or.inl ⟨by rfl, fun W hW => by go_simp⟩) hs ?_
              simp only [Act.put, List.setIfInBounds_toArray, List.set_cons_succ, List.set_cons_zero]
              refine wpAnyH_ready (rs := [15]) (by kernel_rfl) (by simp) (AllReadyH.cons rfl (fun K hK => ?_) AllReadyH.nil)
              refine step_store_row rfl 28 (.tmp 11) (.tmp 85) rfl G2 #[.int .i64 y.id, .slice y.a y.n y.c] rfl rfl 28 #[.int .i64 0, .slice none 0 0] (by first | exact ga | exact x3.block ga | exact (x2.trans x3).block ga) (by kernel_rfl) rfl (by simp [Value.oneCell']) rfl ?_
              refine hK.out _ _ (below_setRow hs hGl _) (fun hs => ?_)
              clear hK K
              simp only [Act.put]
              refine wpAnyH_takeD (i := 16) (d := 12) (v := .bool true) rfl rfl (by kernel_rfl) (by kernel_rfl) (by kernel_rfl) (fun _ _ _ h => h) (Or.inl ⟨by rfl, fun W hW => by go_simp⟩) hs ?_
              simp only [Act.put, List.setIfInBounds_toArray, List.set_cons_succ, List.set_cons_zero]
              refine wpAnyH_done (by kernel_rfl) ?_ _
              go_wp2_with fail
              go_meet
              exact ⟨rfl, hs⟩
          case rest =>
            obtain ⟨rfl, x16⟩ := hcut
            clear hs hXl hX hmin
            go_wp2
            go_roundw
            case rel => exact ⟨k + 1, by omega, by go_num, xj.trans (x8w.trans x16)⟩
            case measure => simp [intOf]; omega
        · have hkm : k = m1 := by omega
          have hne : ofO s L ≠ [] := by
            intro e
            have := of_len HR.out HSs.out.1 HSs.out.2
            rw [e] at this; simp at this
          obtain ⟨kk, zz, h1, h2, h3⟩ := from_drop s J L hne
          have hkk : kk < m1 := by
            rw [← HM.out.1.len, sameO_len HM.out.2]
            rcases Nat.lt_or_ge kk (ofO s L).length with hl | hl
            · exact hl
            · rw [List.getElem?_eq_none hl] at h1; cases h1
          have xwj := xwo.trans xj
          have hml1 : (ofO s L).length = m1 := by rw [← sameO_len HM.out.2, HM.out.1.len]
          have HF := Lib.hid (And.intro h1 (And.intro h2 (And.intro h3 (And.intro hkk hml1))))
          have wJ : Hid ((Lit.int .i64 J).wf = true) := Lib.hid (by have := HJ.out; simp [Lit.wf, IntKind.min, IntKind.max, IntKind.signed, IntKind.bits]; omega)
          clear hne h1 h2 h3 hkk hml1
          go_wp2_with fail
          refine (HK.out.from_ a n c L s J wr (HL.out.1.ext xwj) HL.out.2 HWs.out wJ.out).mono ?_; rintro e wg ⟨b3, m3, q3, M3, rfl, o3, s3, xg⟩
          have hm3 : m3 = m1 - kk := by rw [← o3.len, sameO_len s3, HF.out.2.1, List.length_drop, HF.out.2.2.2.2]
          have hkk := HF.out.2.2.2.1
          obtain ⟨g3, p3, rfl, hg3, -⟩ := o3.h.resolve_left (by intro e; have := o3.len; rw [e] at this; simp at this; omega)
          have hl3 : 0 < M3.length := by rw [o3.len]; omega
          obtain ⟨a3, -⟩ := o3.h.ob_at 0 hl3
          have hid3 : M3[0].id = zz.id := by
            have := sameO_at s3 hl3 (by rw [← sameO_len s3]; exact hl3)
            rw [(sameZ_iff.1 this).1]
            have e : (fromO s J L)[0]? = some zz := by rw [HF.out.2.1, List.getElem?_drop, Nat.add_zero]; exact HF.out.1
            rw [List.getElem?_eq_getElem (by rw [← sameO_len s3]; exact hl3)] at e
            rw [Option.some.inj e]
          rw [hid3, Nat.zero_mul, Nat.add_zero] at a3
          obtain ⟨Z, hZ⟩ : ∃ Z, zz.id = Z := ⟨_, rfl⟩
          rw [hZ] at a3
          have h3' : Z = J ∨ kk = 0 := by rw [← hZ]; exact HF.out.2.2.1
          have s3' : sameO M3 (M1.drop kk) = true := by rw [HF.out.2.1] at s3; exact sameO_trans s3 (sameO_symm (sameO_drop HM.out.2 kk))
          have KS := Lib.hid (HK.out.same (some ⟨g3, p3, none⟩) (some ⟨g, o + kk * 2, none⟩) m3 (m1 - kk) q3 (q1 - kk) M3 (M1.drop kk) wg o3 ((HM.out.1.ext (xj.trans xg)).drop (by omega)) (ObjF.same s3 (HL.out.2.fromO s J)) (ObjF.same (sameO_symm s3') (ObjF.same s3 (HL.out.2.fromO s J))))
          rw [s3'] at KS
          have H3 := Lib.hid (And.intro hg3 a3)
          have e1 : IntKind.i64.wrap ((m1 : Int) - m3) = kk := by rw [show (m1 : Int) - m3 = kk by omega]; exact IntWalk.i64_in _ (by have := HMN.out.2; have := HN.out; omega)
          have k1 : (kk : Int) ≤ m1 := by omega
          have k2 : ¬ q1 = kk := by omega
          have k3 : ¬ (m3 : Int) < 1 := by omega
          have k4 : (0 : Int) < m3 := by omega
          have hq3 : (m3 : Int) ≤ q3 := by have := o3.l; omega
          have HMM := Lib.hid hm3
          have HKK := Lib.hid hkk
          clear o3 s3 hm3 hkk hl3 hid3 hZ s3' a3 hg3
          go_wp2_with fail
          refine KS.out.mono ?_; rintro e w4 ⟨rfl, x4⟩
          have a4 := x4.cell H3.out.1 H3.out.2
          have xw4 := xj.trans (xg.trans x4)
          clear KS
          by_cases hZJ : Z = J
          · have bz : (Z != J) = false := by simpa using hZJ
            clear hZJ h3' e1
            go_wp2
            go_roundw
            case rel => exact ⟨s + 1, by omega, by omega, by go_num, xwo.trans xw4⟩
            case measure => simp [intOf]; omega
          · have bz : (Z != J) = true := by simpa using hZJ
            have bm : ((m3 : Int) != m1) = false := by have := h3'.resolve_left hZJ; have := HMM.out; simp; omega
            clear hZJ h3' e1
            go_wp2
            go_roundw
            case rel => exact ⟨s + 1, by omega, by omega, by go_num, xwo.trans xw4⟩
            case measure => simp [intOf]; omega
    · go_wp2_with fail
      refine (sure20 HK.out wr).mono ?_; rintro e w9 ⟨rfl, x9⟩
      go_wp2
      go_ret
      exact ⟨rfl, xr.trans x9⟩
end Go.Proofs.Ytnbcpmphjjiipaa
