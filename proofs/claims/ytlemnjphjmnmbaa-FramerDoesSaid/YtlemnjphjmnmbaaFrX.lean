/-
  THE LAWS OF LAYER 10: one call, both ways ('op'), where time goes on.
-/
import Derived.Test.YtlemnjphjmnmbaaFrW
namespace Go.Proofs.Ytlemnjphjmnmbaa
open Go.RowKit
set_option linter.unusedVariables false

theorem RefR.tell {x : Fr} {L : List Byt} {T : List Seg} {t : Int} (h : RefR x L T) : RefR (idleF x t) L (tellT x t T) := by
  unfold tellT
  cases he : errB x t
  · rw [if_neg (by simp)]; exact h.idle he
  · rw [if_pos rfl]
    have e : idleF x t = x := by unfold idleF; rw [if_pos he]
    rw [e]; exact h
set_option maxRecDepth 100000 in
set_option maxHeartbeats 16000000 in
theorem op_idle (p : Nat) (F : Nat → Prop) (x : Fr) (a : Option Addr) (n cp : Nat) (L : List Byt) (T : List Seg) (y0 y1 : Int) (y2 : Bool) (w : World) (h : St w p F x a n cp L T) :
    Calls Try.prog 8 #[.pointer (some ⟨p, 0, none⟩), .agg (refC x a n cp T.length), .agg #[.int .i64 1, .int .i64 y0, .int .u8 y1, .bool y2]] w fun e w' => OpPost w F x n e w' := by
  have hfb := fun w' (k : Ext w w') => fidle_any p F x y0 w' (h.fr.ext k)
  have hrb := fun w' a' (hm : RefM w' a' cp L) => ridle_any10 x a' n cp L T y0 w' h.fr.ok h.ref hm h.len
  have hlt := h.fr.lt
  have hoff := h.off
  have hmem := h.mem
  have herr : idleN x y0 = (if errB x y0 = true then 11 else 0) := rfl
  have hsm := (idle_ok h.fr.ok y0)
  have hcnt := Int.le_trans (idle_count h.fr.ok y0) (show x.sg.count ≤ x.sg.count + 1 by omega)
  have hrefL := h.ref.tell (t := y0)
  have hlenL : L.length ≤ n + 1 := by rw [h.len]; omega
  have hn3 := h.len

  generalize idleS x y0 = z at hfb hrb
  generalize idleB x y0 = zb at hfb hrb
  generalize idleF x y0 = X at hfb hrb hrefL hcnt
  generalize tellT x y0 T = T2 at hrb hrefL
  rw [herr] at hfb
  obtain ⟨n1, q1, t0, t1, k1, gp, bd⟩ := z
  obtain ⟨C1, S1, L1, U1, F1, N1, sg1⟩ := X
  have HEnd0 := Lib.hid (And.intro hcnt (And.intro hrefL hlenL))
  have HOk := Lib.hid h.fr.ok
  obtain ⟨c, s, l, u, f, t', sg⟩ := x
  unfold refC segC at hrb
  unfold segC at hfb
  unfold OpPost
  rw [show refC ⟨c, s, l, u, f, t', sg⟩ a n cp T.length = #[.int .i64 c, .int .i64 s, .int .i64 l, .int .i64 u, .int .i64 f, .int .i64 t', .slice a n cp, .int .i64 T.length] from rfl]
  simp only at hfb hrb ⊢
  generalize T.length = told at hrb ⊢
  obtain ⟨told2, htold2⟩ : ∃ q, T2.length = q := ⟨_, rfl⟩
  rw [htold2] at hrb
  have HFb := Lib.hid hfb
  have HRb := Lib.hid hrb
  have HLt := Lib.hid hlt
  have HOff := Lib.hid hoff
  have HMem := Lib.hid hmem
  have HTold := Lib.hid htold2
  have HN3 := Lib.hid hn3
  clear hfb hrb hlt hoff hmem h hcnt hrefL hlenL herr hsm hn3 htold2
  obtain ⟨eb, heb⟩ : ∃ eb, eb = errB ⟨c, s, l, u, f, t', sg⟩ y0 := ⟨_, rfl⟩
  rw [← heb] at HFb HRb
  clear heb
  obtain ⟨er, her⟩ : ∃ er, er = (if eb = true then (11 : Int) else 0) := ⟨_, rfl⟩
  rw [← her] at HFb
  have HEr := Lib.hid her
  clear her
  go_enter Try.func8, Try.ntmps8
  go_wp2_with fail
  refine (HFb.out _ (((Ext.alloc _ _).alloc' _).alloc' _)).mono ?_; rintro e w1 ⟨A, cA, G, rfl, k1', r1, g1, s1, hin⟩
  clear HFb
  have hF : ∀ q, w.heap.size ≤ q → ¬ F q := fun q hq hf => by have := HLt.out q hf; omega
  have gS : w1.heap[w.heap.size]? = some (.cells #[.int .i64 c, .int .i64 s, .int .i64 l, .int .i64 u, .int .i64 f, .int .i64 t', .slice a n cp, .int .i64 told] 31 (0, 0)) :=
    (k1'.block _ (by simp; omega) (hF _ (Nat.le_refl _))).trans ((heap_alloc_old _ _ (by simp; omega)).trans ((heap_alloc_old _ _ (by simp)).trans (heap_new_at _ _ rfl)))
  have gY : w1.heap[w.heap.size + 1]? = some (.cells #[.int .i64 1, .int .i64 y0, .int .u8 y1, .bool y2] 35 (0, 0)) :=
    (k1'.block _ (by simp) (hF _ (by omega))).trans ((heap_alloc_old _ _ (by simp)).trans (heap_new_at _ _ (by simp)))
  have gR : w1.heap[w.heap.size + 1 + 1]? = some (.cells refZ 31 (0, 0)) :=
    (k1'.block _ (by simp) (hF _ (by omega))).trans (heap_new_at _ _ (by simp))
  have hW0 : w.heap.size + 3 ≤ w1.heap.size := by have := k1'.size; simp at this; omega
  have hkw : Keep F w w1 := (Keep.of_ext (((Ext.alloc _ _).alloc' _).alloc' _)).same k1'
  have hgw : ∀ i, G i → F i ∨ w.heap.size + 3 ≤ i := fun i hi => (g1 i hi).imp id (fun h => by simp at h; omega)
  obtain ⟨R, hR⟩ : ∃ R, R = w.heap.size + 1 + 1 := ⟨_, rfl⟩
  obtain ⟨B10, hB10⟩ : ∃ B, B = w1.heap.size := ⟨_, rfl⟩
  obtain ⟨W2, hW2⟩ : ∃ W2, W2 = w1.alloc (.cells #[.slice A n1 cA, .int .i64 t0, .int .i64 t1, .int .i64 k1, .bool gp, .bool bd] 48) := ⟨_, rfl⟩
  have x2 : Ext w1 W2 := by rw [hW2]; exact Ext.alloc _ _
  have g10 : W2.heap[B10]? = some (.cells #[.slice A n1 cA, .int .i64 t0, .int .i64 t1, .int .i64 k1, .bool gp, .bool bd] 48 (0, 0)) := by rw [hW2, hB10]; exact heap_alloc_new _ _
  have gS2 := x2.block gS
  have gY2 := x2.block gY
  have gR2 := x2.block gR
  have hmem2 : RefM W2 a cp L := ⟨(HMem.out.holds.keepN hkw HOff.out).ext x2, HMem.out.le, HMem.out.max, HMem.out.few, HMem.out.small⟩
  have hoff1 : OffN G a L.length := by
    rcases HOff.out with e | e
    · exact .inl e
    · rcases HMem.out.holds with e2 | ⟨b', o', ha, hlt, _⟩
      · exact .inl (by rw [e2]; rfl)
      · exact .inr fun q hq hg => (hgw _ hg).elim (e q hq) (fun h => by rw [ha] at hq; cases hq; simp at h; omega)
  rw [← hR] at gR gR2
  have HW2 := Lib.hid hW2
  have HB10 := Lib.hid hB10
  have HRR := Lib.hid hR
  have HX2 := Lib.hid x2
  have HG10 := Lib.hid g10
  have HGR2 := Lib.hid gR2
  have HW0 := Lib.hid hW0
  have HKW := Lib.hid hkw
  have HGW := Lib.hid hgw
  have HR1 := Lib.hid r1
  have HS1 := Lib.hid s1
  have HOff1 := Lib.hid hoff1
  clear k1' g1 r1 s1 hin hF gS gR gY hW0 hkw hgw hR hB10 hW2 x2 g10 gR2 hoff1
  have e1 := cell_of_heap (j := 1) gY2 rfl
  go_upto_region 9 with fail
  rw [← HW2.out, ← HB10.out, ← HRR.out]
  go_wp2_with (first
    | (refine wpList_load_row rfl 31 (.tmp 4) rfl w.heap.size rfl 31 _ (0, 0) _ gS2 Try.underlying31 rfl (by kernel_rfl) ?_))
  refine (HRb.out _ _ hmem2).mono ?_; rintro e w3 ⟨A', cA', rfl, x3, s3, hf3⟩
  have m3 := hmem2.ext x3
  obtain ⟨W, hW⟩ : ∃ W, W = (w3.alloc (.cells #[.int .i64 C1, .int .i64 S1, .int .i64 L1, .int .i64 U1, .int .i64 F1, .int .i64 N1, .slice a n cp, .int .i64 told2] 31)).alloc (.cells #[.slice A' n1 cA', .int .i64 t0, .int .i64 t1, .int .i64 k1, .bool gp, .bool bd] 48) := ⟨_, rfl⟩
  obtain ⟨B13, hB13⟩ : ∃ B, B = w3.heap.size := ⟨_, rfl⟩
  have x4 : Ext w3 W := by rw [hW]; exact (Ext.alloc _ _).alloc' _
  have g13 : W.heap[B13]? = some (.cells #[.int .i64 C1, .int .i64 S1, .int .i64 L1, .int .i64 U1, .int .i64 F1, .int .i64 N1, .slice a n cp, .int .i64 told2] 31 (0, 0)) := by rw [hW, hB13, heap_alloc_old _ _ (by simp)]; exact heap_new_at _ _ rfl
  have g14 : W.heap[B13 + 1]? = some (.cells #[.slice A' n1 cA', .int .i64 t0, .int .i64 t1, .int .i64 k1, .bool gp, .bool bd] 48 (0, 0)) := by rw [hW, hB13]; exact heap_new_at _ _ (by simp)
  have x34 := x3.trans x4
  have hR4 := x34.block HGR2.out
  have h10 := x34.block HG10.out
  have hne : R < B10 ∧ B10 < B13 := by
    have h1 := HW0.out; have h2 := HRR.out; have h3 := HB10.out; have h4 := heap_lt HG10.out; have h5 := x3.size
    omega
  let S : World → Prop := fun w' => Keep (fun i => i = R) W w' ∧ ∃ old : Array Value, old.size = 8 ∧ w'.heap[R]? = some (.cells old 31 (0, 0))
  have hs0 : S W.drew := ⟨.of_ext (Ext.drew _), refZ, rfl, hR4⟩
  have hsExt : ∀ w9, Ext W.drew w9 → S w9 := fun w9 x9 => ⟨.of_ext ((Ext.drew _).trans x9), refZ, rfl, ((Ext.drew _).trans x9).block hR4⟩
  have hsStore : ∀ w9 old, Keep (fun i => i = R) W w9 → w9.heap[R]? = some (.cells old 31 (0, 0)) → S (w9.setRow R #[.int .i64 C1, .int .i64 S1, .int .i64 L1, .int .i64 U1, .int .i64 F1, .int .i64 N1, .slice a n cp, .int .i64 told2]) := fun w9 old k9 hr9 =>
    ⟨k9.same (Keep.row _ _ _), #[.int .i64 C1, .int .i64 S1, .int .i64 L1, .int .i64 U1, .int .i64 F1, .int .i64 N1, .slice a n cp, .int .i64 told2], rfl, setRow_heap _ _ _ _ _ _ hr9⟩
  have hrow13 : ∀ w', S w' → w'.heap[B13]? = some (.cells #[.int .i64 C1, .int .i64 S1, .int .i64 L1, .int .i64 U1, .int .i64 F1, .int .i64 N1, .slice a n cp, .int .i64 told2] 31 (0, 0)) := fun w' h => (h.1.block B13 (heap_lt g13) (by omega)).trans g13
  have hrow14 : ∀ w', S w' → w'.heap[B13 + 1]? = some (.cells #[.slice A' n1 cA', .int .i64 t0, .int .i64 t1, .int .i64 k1, .bool gp, .bool bd] 48 (0, 0)) := fun w' h => (h.1.block (B13 + 1) (heap_lt g14) (by omega)).trans g14
  have hrow10 : ∀ w', S w' → w'.heap[B10]? = some (.cells #[.slice A n1 cA, .int .i64 t0, .int .i64 t1, .int .i64 k1, .bool gp, .bool bd] 48 (0, 0)) := fun w' h => (h.1.block B10 (heap_lt h10) (by omega)).trans h10
  have hsame := ssame_any A A' cA cA' ⟨n1, q1, t0, t1, k1, gp, bd⟩ ⟨n1, q1, t0, t1, k1, gp, bd⟩ W.drew ((HS1.out.holds.ext (HX2.out.trans x34)).ext (Ext.drew _)) ((s3.holds.ext x4).ext (Ext.drew _)) HS1.out.small HS1.out.small
  rw [sameB_self] at hsame
  unfold segC at hsame
  simp only at hsame
  have hpost : ∀ w', Keep (fun i => i = R) W w' → Keep F w w' ∧ St w' p G ⟨C1, S1, L1, U1, F1, N1, sg1⟩ a n cp L T2 ∧ Grows F G w ∧ sg1.count ≤ sg.count + 1 ∧ n ≤ n + 1 := by
    intro w' kR
    have hRG : ∀ i, G i → i ≠ R := fun i hi e => by
      rcases HGW.out i hi with h | h
      · have := HLt.out i h; have := HRR.out; omega
      · have := HRR.out; omega
    have hwR : w.heap.size ≤ R := by have := HRR.out; omega
    have kW : Keep F w W := ((HKW.out.trans_ext HX2.out).trans_ext x34)
    refine ⟨kW.trans kR fun i hi => .inr (by omega), ⟨(HR1.out.ext (HX2.out.trans x34)).keep kR hRG, HEnd0.out.2.1, ?_, HN3.out, ?_⟩, fun i hi => (HGW.out i hi).imp id (fun h => by omega), HEnd0.out.1, Nat.le_succ n⟩
    · refine ⟨(m3.holds.ext x4).keepN kR ?_, m3.le, m3.max, m3.few, m3.small⟩
      rcases HMem.out.holds with e3 | ⟨b', o', ha, hlt, _⟩
      · exact .inl (by rw [e3]; rfl)
      · exact .inr fun q hq hqR => by rw [ha] at hq; cases hq; simp only at hqR; omega
    · exact HOff1.out
  have HSame := Lib.hid hsame
  have HPost := Lib.hid hpost
  have HWW := Lib.hid hW
  have HBB := Lib.hid hB13
  clear hsame hpost hW hB13 x3 x4 x34 g13 g14 hR4 h10 hne s3 m3 hf3 HG10 HGR2 HX2 HRb gS2 gY2 hmem2 e1 HW2 HR1 HS1 HOff1 HKW HGW
  cases eb
  · obtain rfl : er = 0 := HEr.out
    go_wp2_with fail
    rw [← HWW.out, ← HBB.out]
    refine wp_region_held_drew (S := S) (by kernel_rfl) hs0 (fun _ => ?_)
    refine wpAnyH_takeD (i := 0) (d := 94) (v := .pointer (some ⟨p, 0, none⟩)) rfl rfl (by kernel_rfl) (by kernel_rfl) (by kernel_rfl) (fun _ _ _ h => h) (Or.inl ⟨by rfl, fun w _ => by go_simp⟩) hs0 ?_
    simp only [Act.put, List.setIfInBounds_toArray, List.set_cons_succ, List.set_cons_zero]
    refine wpAnyH_takeD (i := 1) (d := 95) rfl rfl (by kernel_rfl) (by kernel_rfl) (by kernel_rfl) (fun _ _ _ h => h) (yieldsIf_load_row (by rfl) 31 (.tmp 20) rfl B13 rfl 31 _ (0, 0) _ (fun w' hw' => hrow13 w' hw') Try.underlying31 rfl (by kernel_rfl)) hs0 ?_
    simp only [Act.put, List.setIfInBounds_toArray, List.set_cons_succ, List.set_cons_zero]
    refine wpAnyH_takeD (i := 2) (d := 96) rfl rfl (by kernel_rfl) (by kernel_rfl) (by kernel_rfl) (fun _ _ _ h => h) (yieldsIf_load_row (by rfl) 48 (.tmp 17) rfl B10 rfl 48 _ (0, 0) _ (fun w' hw' => hrow10 w' hw') Try.underlying48 rfl (by kernel_rfl)) hs0 ?_
    simp only [Act.put, List.setIfInBounds_toArray, List.set_cons_succ, List.set_cons_zero]
    refine wpAnyH_takeD (i := 3) (d := 97) rfl rfl (by kernel_rfl) (by kernel_rfl) (by kernel_rfl) (fun _ _ _ h => h) (yieldsIf_load_row (by rfl) 48 (.tmp 21) rfl (B13 + 1) rfl 48 _ (0, 0) _ (fun w' hw' => hrow14 w' hw') Try.underlying48 rfl (by kernel_rfl)) hs0 ?_
    simp only [Act.put, List.setIfInBounds_toArray, List.set_cons_succ, List.set_cons_zero]
    refine wpAnyH_ready (rs := [4]) (by kernel_rfl) (by simp) (AllReadyH.cons rfl (fun K hK => ?_) AllReadyH.nil)
    go_simp
    go_at_call 22
    refine HSame.out.mono ?_; rintro e w9 ⟨rfl, x9⟩
    go_wp2_with fail
    refine hK.out _ _ (hsExt _ x9) (fun hs1 => ?_)
    clear hK K
    refine wpAnyH_takeD (i := 5) (d := 99) (v := .bool true) rfl rfl (by kernel_rfl) (by kernel_rfl) (by kernel_rfl) (fun _ _ _ h => h) (Or.inl ⟨by rfl, fun w _ => by go_simp⟩) hs1 ?_
    simp only [Act.put, List.setIfInBounds_toArray, List.set_cons_succ, List.set_cons_zero]
    refine wpAnyH_takeD (i := 6) (d := 100) (v := .bool zb) rfl rfl (by kernel_rfl) (by kernel_rfl) (by kernel_rfl) (fun _ _ _ h => h) (Or.inl ⟨by rfl, fun w _ => by go_simp⟩) hs1 ?_
    simp only [Act.put, List.setIfInBounds_toArray, List.set_cons_succ, List.set_cons_zero]
    refine wpAnyH_takeD (i := 7) (d := 101) (v := .bool zb) rfl rfl (by kernel_rfl) (by kernel_rfl) (by kernel_rfl) (fun _ _ _ h => h) (Or.inl ⟨by rfl, fun w _ => by go_simp⟩) hs1 ?_
    simp only [Act.put, List.setIfInBounds_toArray, List.set_cons_succ, List.set_cons_zero]
    refine wpAnyH_takeD (i := 8) (d := 102) (v := .bool true) rfl rfl (by kernel_rfl) (by kernel_rfl) (by kernel_rfl) (fun _ _ _ h => h) (Or.inl ⟨by rfl, fun w _ => by go_simp⟩) hs1 ?_
    simp only [Act.put, List.setIfInBounds_toArray, List.set_cons_succ, List.set_cons_zero]
    refine wpAnyH_takeD (i := 9) (d := 103) (v := .bool true) rfl rfl (by kernel_rfl) (by kernel_rfl) (by kernel_rfl) (fun _ _ _ h => h) (Or.inl ⟨by rfl, fun w _ => by go_simp⟩) hs1 ?_
    simp only [Act.put, List.setIfInBounds_toArray, List.set_cons_succ, List.set_cons_zero]
    refine wpAnyH_takeD (i := 10) (d := 104) (v := .bool true) rfl rfl (by kernel_rfl) (by kernel_rfl) (by kernel_rfl) (fun _ _ _ h => h) (Or.inl ⟨by rfl, fun w _ => by go_simp⟩) hs1 ?_
    simp only [Act.put, List.setIfInBounds_toArray, List.set_cons_succ, List.set_cons_zero]
    refine wpAnyH_takeD (i := 11) (d := 105) (v := .int .i64 0) rfl rfl (by kernel_rfl) (by kernel_rfl) (by kernel_rfl) (fun _ _ _ h => h) (Or.inl ⟨by rfl, fun w _ => by go_simp⟩) hs1 ?_
    simp only [Act.put, List.setIfInBounds_toArray, List.set_cons_succ, List.set_cons_zero]
    refine wpAnyH_takeD (i := 12) (d := 106) (v := .bool true) rfl rfl (by kernel_rfl) (by kernel_rfl) (by kernel_rfl) (fun _ _ _ h => h) (Or.inl ⟨by rfl, fun w _ => by go_simp⟩) hs1 ?_
    simp only [Act.put, List.setIfInBounds_toArray, List.set_cons_succ, List.set_cons_zero]
    refine wpAnyH_takeD (i := 13) (d := 107) (v := .bool true) rfl rfl (by kernel_rfl) (by kernel_rfl) (by kernel_rfl) (fun _ _ _ h => h) (Or.inl ⟨by rfl, fun w _ => by go_simp⟩) hs1 ?_
    simp only [Act.put, List.setIfInBounds_toArray, List.set_cons_succ, List.set_cons_zero]
    refine wpAnyH_takeD (i := 14) (d := 108) (v := .bool true) rfl rfl (by kernel_rfl) (by kernel_rfl) (by kernel_rfl) (fun _ _ _ h => h) (Or.inl ⟨by rfl, fun w _ => by go_simp⟩) hs1 ?_
    simp only [Act.put, List.setIfInBounds_toArray, List.set_cons_succ, List.set_cons_zero]
    refine wpAnyH_takeD (i := 15) (d := 109) (v := .bool true) rfl rfl (by kernel_rfl) (by kernel_rfl) (by kernel_rfl) (fun _ _ _ h => h) (Or.inl ⟨by rfl, fun w _ => by go_simp⟩) hs1 ?_
    simp only [Act.put, List.setIfInBounds_toArray, List.set_cons_succ, List.set_cons_zero]
    refine wpAnyH_takeD (i := 16) (d := 110) (v := .bool true) rfl rfl (by kernel_rfl) (by kernel_rfl) (by kernel_rfl) (fun _ _ _ h => h) (Or.inl ⟨by rfl, fun w _ => by go_simp⟩) hs1 ?_
    simp only [Act.put, List.setIfInBounds_toArray, List.set_cons_succ, List.set_cons_zero]
    refine wpAnyH_takeD (i := 17) (d := 111) (v := .bool true) rfl rfl (by kernel_rfl) (by kernel_rfl) (by kernel_rfl) (fun _ _ _ h => h) (Or.inl ⟨by rfl, fun w _ => by go_simp⟩) hs1 ?_
    simp only [Act.put, List.setIfInBounds_toArray, List.set_cons_succ, List.set_cons_zero]
    refine wpAnyH_takeD (i := 18) (d := 112) (v := .bool true) rfl rfl (by kernel_rfl) (by kernel_rfl) (by kernel_rfl) (fun _ _ _ h => h) (Or.inl ⟨by rfl, fun w _ => by go_simp⟩) hs1 ?_
    simp only [Act.put, List.setIfInBounds_toArray, List.set_cons_succ, List.set_cons_zero]
    refine wpAnyH_takeD (i := 19) (d := 113) (v := undef) rfl rfl (by kernel_rfl) (by kernel_rfl) (by kernel_rfl) (fun _ _ _ h => h) (Or.inr ⟨by rfl, rfl⟩) hs1 ?_
    simp only [Act.put, List.setIfInBounds_toArray, List.set_cons_succ, List.set_cons_zero]
    refine wpAnyH_takeD (i := 20) (d := 114) (v := undef) rfl rfl (by kernel_rfl) (by kernel_rfl) (by kernel_rfl) (fun _ _ _ h => h) (Or.inr ⟨by rfl, rfl⟩) hs1 ?_
    simp only [Act.put, List.setIfInBounds_toArray, List.set_cons_succ, List.set_cons_zero]
    refine wpAnyH_takeD (i := 21) (d := 115) (v := .bool true) rfl rfl (by kernel_rfl) (by kernel_rfl) (by kernel_rfl) (fun _ _ _ h => h) (Or.inl ⟨by rfl, fun w _ => by go_simp⟩) hs1 ?_
    simp only [Act.put, List.setIfInBounds_toArray, List.set_cons_succ, List.set_cons_zero]
    refine wpAnyH_takeD (i := 22) (d := 116) (v := .bool true) rfl rfl (by kernel_rfl) (by kernel_rfl) (by kernel_rfl) (fun _ _ _ h => h) (Or.inl ⟨by rfl, fun w _ => by go_simp⟩) hs1 ?_
    simp only [Act.put, List.setIfInBounds_toArray, List.set_cons_succ, List.set_cons_zero]
    refine wpAnyH_takeD (i := 23) (d := 6) (v := .pointer (some ⟨p, 0, none⟩)) rfl rfl (by kernel_rfl) (by kernel_rfl) (by kernel_rfl) (fun _ _ _ h => h) (Or.inl ⟨by rfl, fun w _ => by go_simp⟩) hs1 ?_
    simp only [Act.put, List.setIfInBounds_toArray, List.set_cons_succ, List.set_cons_zero]
    refine wpAnyH_ready (rs := [24]) (by kernel_rfl) (by simp) (AllReadyH.cons rfl (fun K hK => ?_) AllReadyH.nil)
    rw [if_pos (by rfl)]
    obtain ⟨hk9, old9, ho9, hr9⟩ := hs1
    refine wp_store_row 31 (.tmp 7) (.tmp 95) rfl R _ rfl rfl 31 _ hr9 (by kernel_rfl) (by rw [ho9]; rfl) (by simp [Value.oneCell']) ?_
    refine hK.out _ _ (hsStore _ _ hk9 hr9) (fun hs2 => ?_)
    clear hK K
    refine wpAnyH_takeD (i := 25) (d := 8) (v := .bool true) rfl rfl (by kernel_rfl) (by kernel_rfl) (by kernel_rfl) (fun _ _ _ h => h) (Or.inl ⟨by rfl, fun w _ => by go_simp⟩) hs2 ?_
    simp only [Act.put, List.setIfInBounds_toArray]
    refine wpAnyH_done (by kernel_rfl) ?_ _
    go_wp2_with fail
    refine bodyPost_ret (results_tmp_row_tmp rfl _ _ R 31 _ (0, 0) _ rfl (setRow_heap _ _ _ _ _ _ hr9) Try.underlying31 rfl (by kernel_rfl)) rfl ?_
    exact ⟨p, G, ⟨C1, S1, L1, U1, F1, N1, sg1⟩, a, n, cp, L, T2, by rw [HTold.out]; rfl, HPost.out _ hs2.1⟩
  · obtain rfl : er = 11 := HEr.out
    go_wp2_with fail
    rw [← HWW.out, ← HBB.out]
    refine wp_region_held_drew (S := S) (by kernel_rfl) hs0 (fun _ => ?_)
    refine wpAnyH_takeD (i := 0) (d := 94) (v := .pointer (some ⟨p, 0, none⟩)) rfl rfl (by kernel_rfl) (by kernel_rfl) (by kernel_rfl) (fun _ _ _ h => h) (Or.inl ⟨by rfl, fun w _ => by go_simp⟩) hs0 ?_
    simp only [Act.put, List.setIfInBounds_toArray, List.set_cons_succ, List.set_cons_zero]
    refine wpAnyH_takeD (i := 1) (d := 95) rfl rfl (by kernel_rfl) (by kernel_rfl) (by kernel_rfl) (fun _ _ _ h => h) (yieldsIf_load_row (by rfl) 31 (.tmp 20) rfl B13 rfl 31 _ (0, 0) _ (fun w' hw' => hrow13 w' hw') Try.underlying31 rfl (by kernel_rfl)) hs0 ?_
    simp only [Act.put, List.setIfInBounds_toArray, List.set_cons_succ, List.set_cons_zero]
    refine wpAnyH_takeD (i := 2) (d := 96) rfl rfl (by kernel_rfl) (by kernel_rfl) (by kernel_rfl) (fun _ _ _ h => h) (yieldsIf_load_row (by rfl) 48 (.tmp 17) rfl B10 rfl 48 _ (0, 0) _ (fun w' hw' => hrow10 w' hw') Try.underlying48 rfl (by kernel_rfl)) hs0 ?_
    simp only [Act.put, List.setIfInBounds_toArray, List.set_cons_succ, List.set_cons_zero]
    refine wpAnyH_takeD (i := 3) (d := 97) rfl rfl (by kernel_rfl) (by kernel_rfl) (by kernel_rfl) (fun _ _ _ h => h) (yieldsIf_load_row (by rfl) 48 (.tmp 21) rfl (B13 + 1) rfl 48 _ (0, 0) _ (fun w' hw' => hrow14 w' hw') Try.underlying48 rfl (by kernel_rfl)) hs0 ?_
    simp only [Act.put, List.setIfInBounds_toArray, List.set_cons_succ, List.set_cons_zero]
    refine wpAnyH_ready (rs := [4]) (by kernel_rfl) (by simp) (AllReadyH.cons rfl (fun K hK => ?_) AllReadyH.nil)
    go_simp
    go_at_call 22
    refine HSame.out.mono ?_; rintro e w9 ⟨rfl, x9⟩
    go_wp2_with fail
    refine hK.out _ _ (hsExt _ x9) (fun hs1 => ?_)
    clear hK K
    refine wpAnyH_takeD (i := 5) (d := 99) (v := .bool true) rfl rfl (by kernel_rfl) (by kernel_rfl) (by kernel_rfl) (fun _ _ _ h => h) (Or.inl ⟨by rfl, fun w _ => by go_simp⟩) hs1 ?_
    simp only [Act.put, List.setIfInBounds_toArray, List.set_cons_succ, List.set_cons_zero]
    refine wpAnyH_takeD (i := 6) (d := 100) (v := .bool zb) rfl rfl (by kernel_rfl) (by kernel_rfl) (by kernel_rfl) (fun _ _ _ h => h) (Or.inl ⟨by rfl, fun w _ => by go_simp⟩) hs1 ?_
    simp only [Act.put, List.setIfInBounds_toArray, List.set_cons_succ, List.set_cons_zero]
    refine wpAnyH_takeD (i := 7) (d := 101) (v := .bool zb) rfl rfl (by kernel_rfl) (by kernel_rfl) (by kernel_rfl) (fun _ _ _ h => h) (Or.inl ⟨by rfl, fun w _ => by go_simp⟩) hs1 ?_
    simp only [Act.put, List.setIfInBounds_toArray, List.set_cons_succ, List.set_cons_zero]
    refine wpAnyH_takeD (i := 8) (d := 102) (v := .bool true) rfl rfl (by kernel_rfl) (by kernel_rfl) (by kernel_rfl) (fun _ _ _ h => h) (Or.inl ⟨by rfl, fun w _ => by go_simp⟩) hs1 ?_
    simp only [Act.put, List.setIfInBounds_toArray, List.set_cons_succ, List.set_cons_zero]
    refine wpAnyH_takeD (i := 9) (d := 103) (v := .bool true) rfl rfl (by kernel_rfl) (by kernel_rfl) (by kernel_rfl) (fun _ _ _ h => h) (Or.inl ⟨by rfl, fun w _ => by go_simp⟩) hs1 ?_
    simp only [Act.put, List.setIfInBounds_toArray, List.set_cons_succ, List.set_cons_zero]
    refine wpAnyH_takeD (i := 10) (d := 104) (v := .bool true) rfl rfl (by kernel_rfl) (by kernel_rfl) (by kernel_rfl) (fun _ _ _ h => h) (Or.inl ⟨by rfl, fun w _ => by go_simp⟩) hs1 ?_
    simp only [Act.put, List.setIfInBounds_toArray, List.set_cons_succ, List.set_cons_zero]
    refine wpAnyH_takeD (i := 11) (d := 105) (v := .int .i64 11) rfl rfl (by kernel_rfl) (by kernel_rfl) (by kernel_rfl) (fun _ _ _ h => h) (Or.inl ⟨by rfl, fun w _ => by go_simp⟩) hs1 ?_
    simp only [Act.put, List.setIfInBounds_toArray, List.set_cons_succ, List.set_cons_zero]
    refine wpAnyH_takeD (i := 12) (d := 106) (v := .bool false) rfl rfl (by kernel_rfl) (by kernel_rfl) (by kernel_rfl) (fun _ _ _ h => h) (Or.inl ⟨by rfl, fun w _ => by go_simp⟩) hs1 ?_
    simp only [Act.put, List.setIfInBounds_toArray, List.set_cons_succ, List.set_cons_zero]
    refine wpAnyH_takeD (i := 13) (d := 107) (v := .bool false) rfl rfl (by kernel_rfl) (by kernel_rfl) (by kernel_rfl) (fun _ _ _ h => h) (Or.inl ⟨by rfl, fun w _ => by go_simp⟩) hs1 ?_
    simp only [Act.put, List.setIfInBounds_toArray, List.set_cons_succ, List.set_cons_zero]
    refine wpAnyH_takeD (i := 14) (d := 108) (v := .bool true) rfl rfl (by kernel_rfl) (by kernel_rfl) (by kernel_rfl) (fun _ _ _ h => h) (Or.inl ⟨by rfl, fun w _ => by go_simp⟩) hs1 ?_
    simp only [Act.put, List.setIfInBounds_toArray, List.set_cons_succ, List.set_cons_zero]
    refine wpAnyH_takeD (i := 15) (d := 109) (v := .bool true) rfl rfl (by kernel_rfl) (by kernel_rfl) (by kernel_rfl) (fun _ _ _ h => h) (Or.inl ⟨by rfl, fun w _ => by go_simp⟩) hs1 ?_
    simp only [Act.put, List.setIfInBounds_toArray, List.set_cons_succ, List.set_cons_zero]
    refine wpAnyH_takeD (i := 16) (d := 110) (v := .bool true) rfl rfl (by kernel_rfl) (by kernel_rfl) (by kernel_rfl) (fun _ _ _ h => h) (Or.inl ⟨by rfl, fun w _ => by go_simp⟩) hs1 ?_
    simp only [Act.put, List.setIfInBounds_toArray, List.set_cons_succ, List.set_cons_zero]
    refine wpAnyH_takeD (i := 17) (d := 111) (v := .bool false) rfl rfl (by kernel_rfl) (by kernel_rfl) (by kernel_rfl) (fun _ _ _ h => h) (Or.inl ⟨by rfl, fun w _ => by go_simp⟩) hs1 ?_
    simp only [Act.put, List.setIfInBounds_toArray, List.set_cons_succ, List.set_cons_zero]
    refine wpAnyH_takeD (i := 18) (d := 112) (v := .bool false) rfl rfl (by kernel_rfl) (by kernel_rfl) (by kernel_rfl) (fun _ _ _ h => h) (Or.inl ⟨by rfl, fun w _ => by go_simp⟩) hs1 ?_
    simp only [Act.put, List.setIfInBounds_toArray, List.set_cons_succ, List.set_cons_zero]
    refine wpAnyH_takeD (i := 19) (d := 113) (v := .int .i64 11) rfl rfl (by kernel_rfl) (by kernel_rfl) (by kernel_rfl) (fun _ _ _ h => h) (Or.inl ⟨by rfl, fun w _ => by go_simp⟩) hs1 ?_
    simp only [Act.put, List.setIfInBounds_toArray, List.set_cons_succ, List.set_cons_zero]
    refine wpAnyH_takeD (i := 20) (d := 114) (v := .bool true) rfl rfl (by kernel_rfl) (by kernel_rfl) (by kernel_rfl) (fun _ _ _ h => h) (Or.inl ⟨by rfl, fun w _ => by go_simp⟩) hs1 ?_
    simp only [Act.put, List.setIfInBounds_toArray, List.set_cons_succ, List.set_cons_zero]
    refine wpAnyH_takeD (i := 21) (d := 115) (v := .bool true) rfl rfl (by kernel_rfl) (by kernel_rfl) (by kernel_rfl) (fun _ _ _ h => h) (Or.inl ⟨by rfl, fun w _ => by go_simp⟩) hs1 ?_
    simp only [Act.put, List.setIfInBounds_toArray, List.set_cons_succ, List.set_cons_zero]
    refine wpAnyH_takeD (i := 22) (d := 116) (v := .bool true) rfl rfl (by kernel_rfl) (by kernel_rfl) (by kernel_rfl) (fun _ _ _ h => h) (Or.inl ⟨by rfl, fun w _ => by go_simp⟩) hs1 ?_
    simp only [Act.put, List.setIfInBounds_toArray, List.set_cons_succ, List.set_cons_zero]
    refine wpAnyH_takeD (i := 23) (d := 6) (v := .pointer (some ⟨p, 0, none⟩)) rfl rfl (by kernel_rfl) (by kernel_rfl) (by kernel_rfl) (fun _ _ _ h => h) (Or.inl ⟨by rfl, fun w _ => by go_simp⟩) hs1 ?_
    simp only [Act.put, List.setIfInBounds_toArray, List.set_cons_succ, List.set_cons_zero]
    refine wpAnyH_ready (rs := [24]) (by kernel_rfl) (by simp) (AllReadyH.cons rfl (fun K hK => ?_) AllReadyH.nil)
    rw [if_pos (by rfl)]
    obtain ⟨hk9, old9, ho9, hr9⟩ := hs1
    refine wp_store_row 31 (.tmp 7) (.tmp 95) rfl R _ rfl rfl 31 _ hr9 (by kernel_rfl) (by rw [ho9]; rfl) (by simp [Value.oneCell']) ?_
    refine hK.out _ _ (hsStore _ _ hk9 hr9) (fun hs2 => ?_)
    clear hK K
    refine wpAnyH_takeD (i := 25) (d := 8) (v := .bool true) rfl rfl (by kernel_rfl) (by kernel_rfl) (by kernel_rfl) (fun _ _ _ h => h) (Or.inl ⟨by rfl, fun w _ => by go_simp⟩) hs2 ?_
    simp only [Act.put, List.setIfInBounds_toArray]
    refine wpAnyH_done (by kernel_rfl) ?_ _
    go_wp2_with fail
    refine bodyPost_ret (results_tmp_row_tmp rfl _ _ R 31 _ (0, 0) _ rfl (setRow_heap _ _ _ _ _ _ hr9) Try.underlying31 rfl (by kernel_rfl)) rfl ?_
    exact ⟨p, G, ⟨C1, S1, L1, U1, F1, N1, sg1⟩, a, n, cp, L, T2, by rw [HTold.out]; rfl, HPost.out _ hs2.1⟩
end Go.Proofs.Ytlemnjphjmnmbaa
