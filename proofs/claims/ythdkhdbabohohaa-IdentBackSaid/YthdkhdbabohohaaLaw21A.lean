/-
  THE LAWS OF LAYER 21: sure (the packages' contracts as premises).
-/
import Derived.Test.YthdkhdbabohohaaIdeO
import Derived.Test.YthdkhdbabohohaaLater
namespace Go.Proofs.Ythdkhdbabohohaa
open Go.RowKit
set_option linter.unusedVariables false
set_option maxRecDepth 100000

def s21L : List Ob := [⟨0, none, 0, 0, fun _ => 0⟩, ⟨1, none, 0, 0, fun _ => 0⟩, ⟨2, none, 0, 0, fun _ => 0⟩]
def s21B : List Int := [14, 1, 129, 0, 0, 3, 0, 0, 1, 0, 2, 0]
theorem s21_f : ObjF s21L := ⟨by show 3 ≤ 100000; decide, fun z hz => by simp only [s21L, List.mem_cons, List.not_mem_nil, or_false] at hz; rcases hz with rfl | rfl | rfl <;> simp⟩
theorem s21_at {w : World} {G : Nat} (hG : w.heap[G]? = some (.cells #[.int .i64 0, .slice none 0 0, .int .i64 1, .slice none 0 0, .int .i64 2, .slice none 0 0] 49 (0, 0))) : ObjsAt w (some ⟨G, 0, none⟩) 3 3 s21L := by
  refine ⟨rfl, .inr ⟨G, 0, rfl, heap_lt hG, fun i x hx j v hv => ?_⟩, Nat.le_refl _, by unfold maxLen; omega, fun z hz => ?_⟩
  · rw [cell_of_row _ _ _ _ _ _ hG, Nat.zero_add, ← Array.getElem?_toList]
    exact flat_get obL_length s21L i x hx j v hv
  · have emp : ∀ (i : Int) (hi : (Lit.int .i64 i).wf = true), ObjAt w ⟨i, none, 0, 0, fun _ => 0⟩ := fun i hi => ⟨.inl rfl, Nat.le_refl _, Nat.zero_le _, Nat.zero_le _, fun j hj => absurd hj (Nat.not_lt_zero _), hi⟩
    simp only [s21L, List.mem_cons, List.not_mem_nil, or_false] at hz
    rcases hz with rfl | rfl | rfl
    · exact emp _ (by decide)
    · exact emp _ (by decide)
    · exact emp _ (by decide)
theorem s21_1 : ansE s21L 3 (ofL [14, 1, 0]) = 0 ∧ ansK s21L 3 (ofL [14, 1, 0]) = 12 ∧ sayP (ansP s21L (ofL [14, 1, 0])) = s21B := ⟨by decide, by decide, by decide⟩
theorem s21_2 : rdI ((List.range 12).map (ofL s21B)) = 0 ∧ ∃ P, readP ((List.range 12).map (ofL s21B)) = some P ∧ P.L.length = 3 := ⟨by decide, _, rfl, by decide⟩
theorem s21_3 : ansE s21L 3 (ofL [14, 4, 9]) = 2 ∧ ansK s21L 3 (ofL [14, 4, 9]) = 0 := ⟨by decide, by decide⟩
theorem s21_4 : allN s21L 1 = 1 ∧ sameO (allL s21L 1) s21L = true := ⟨by decide, by decide⟩
theorem s21_5 : ansE [] 3 (ofL [14, 1, 0]) = 11 ∧ ansK [] 3 (ofL [14, 1, 0]) = 0 := ⟨by decide, by decide⟩
set_option maxHeartbeats 8000000 in
theorem sure21 (O : ObjC) (K : IdeC) (w : World) : Calls Try.prog 9 #[] w fun e w' => e = .returned (.bool true) ∧ Ext w w' := by
  obtain ⟨W0, hW0, x0, HO⟩ : ∃ W0, W0 = w.alloc (.cells #[.int .i64 0, .slice none 0 0, .int .i64 1, .slice none 0 0, .int .i64 2, .slice none 0 0] 49) ∧ Ext w W0 ∧ Hid (ObjsAt W0 (some ⟨w.heap.size, 0, none⟩) 3 3 s21L) := ⟨_, rfl, Ext.alloc _ _, Lib.hid (s21_at (heap_alloc_new _ _))⟩
  have HF := Lib.hid s21_f
  have HK := Lib.hid K
  have HB := Lib.hid O
  have H1 := Lib.hid s21_1
  have H2 := Lib.hid s21_2
  have H3 := Lib.hid s21_3
  have H4 := Lib.hid s21_4
  have H5 := Lib.hid s21_5
  have HBb : Hid (∀ i, i < 12 → 0 ≤ ofL s21B i ∧ ofL s21B i < 256) := Lib.hid (below_of 12 (by decide))
  generalize s21L = L at HO HF H1 H3 H4
  have HX := Lib.hid x0
  clear x0 K O
  go_enter Try.func9, Try.ntmps9
  go_upto_region 2 with fail
  rw [← hW0]
  clear hW0
  obtain ⟨G, hG⟩ : ∃ G, G = w.heap.size := ⟨_, rfl⟩
  rw [← hG] at HO ⊢
  clear hG
  have A1 := HK.out.answer (some ⟨G, 0, none⟩) (some ⟨W0.heap.size, 0, none⟩) 3 3 3 3 L (ofL [14, 1, 0]) (W0.alloc (.cells #[.int .u8 14, .int .u8 1, .int .u8 0] 5)) (HO.out.ext (Ext.alloc _ _)) HF.out (Holds.lit W0 [14, 1, 0] 5 _ rfl 3 rfl) (by omega) (Nat.le_refl _) (by unfold maxLen; omega) (byte3 (by decide))
  unfold AnsP at A1
  rw [H1.out.1, H1.out.2.1, H1.out.2.2] at A1
  have HA1 := Lib.hid A1
  clear A1
  go_wp2_with fail
  refine HA1.out.mono ?_; rintro e w1 ⟨x, q, rfl, h1, l1, m1, x1⟩
  have z1 := (Ext.alloc W0 _).trans x1
  have A2 := HK.out.read x 12 q (ofL s21B) w1 h1 (by omega) l1 m1 HBb.out
  rw [H2.out.1] at A2
  have HA2 := Lib.hid A2
  have HH1 := Lib.hid h1
  clear A2 x1 l1 m1 h1 HA1
  go_wp2_with fail
  refine HA2.out.mono ?_; rintro e w2 ⟨P, pb, pm, pq, rfl, hP, fP, sP, x2⟩
  obtain ⟨Q, hQ, hQl⟩ := H2.out.2
  rw [hQ] at sP
  have hpm : pm = 3 := by rw [← hP.o.len, sameO_len (sameP_iff.1 sP).2.2.2.2]; exact hQl
  subst hpm
  obtain ⟨W3, hW3, y3, HZ⟩ : ∃ W3, W3 = w2.alloc (.cells (prC P pb 3 pq) 24) ∧ Ext w2 W3 ∧ Hid (W3.heap[w2.heap.size]? = some (.cells (prC P pb 3 pq) 24 (0, 0))) := ⟨_, rfl, Ext.alloc _ _, Lib.hid (heap_alloc_new _ _)⟩
  have z3 := z1.trans (x2.trans y3)
  have q3 := x2.trans y3
  simp only [prC]
  go_upto_region 4 with fail
  rw [show (w2.alloc (.cells #[.int .i64 P.co, .int .i64 P.lv, .bool P.mo, .int .i64 P.nx, .slice pb 3 pq] 24)) = W3 from hW3.symm]
  clear hW3 hP fP sP hQ hQl x2 y3 HA2
  have A4 := HK.out.answer (some ⟨G, 0, none⟩) (some ⟨W3.heap.size, 0, none⟩) 3 3 3 3 L (ofL [14, 4, 9]) (W3.alloc (.cells #[.int .u8 14, .int .u8 4, .int .u8 9] 5)) (HO.out.ext (z3.trans (Ext.alloc _ _))) HF.out (Holds.lit W3 [14, 4, 9] 5 _ rfl 3 rfl) (by omega) (Nat.le_refl _) (by unfold maxLen; omega) (byte3 (by decide))
  unfold AnsP at A4
  rw [H3.out.1, H3.out.2] at A4
  have HA4 := Lib.hid A4
  clear A4
  go_wp2_with fail
  refine HA4.out.mono ?_; rintro e w4 ⟨x', q', rfl, -, -, -, x4⟩
  have y4 := (Ext.alloc W3 _).trans x4
  have z4 := z3.trans y4
  go_wp2_with fail
  refine (HK.out.all (some ⟨G, 0, none⟩) 3 3 L 1 w4 (HO.out.ext z4) HF.out (by decide)).mono ?_; rintro e w5 ⟨mb, mm, mq, M, rfl, hM, sM, x5⟩
  rw [H4.out.1]
  have z5 := z4.trans x5
  have hML : sameO M L = true := sameO_trans sM H4.out.2
  have HM := Lib.hid (And.intro hM hML)
  have A6 := HK.out.answer none (some ⟨w5.heap.size, 0, none⟩) 0 0 3 3 [] (ofL [14, 1, 0]) (w5.alloc (.cells #[.int .u8 14, .int .u8 1, .int .u8 0] 5)) (ObjsAt.nil _) ⟨Nat.zero_le _, fun z hz => by cases hz⟩ (Holds.lit w5 [14, 1, 0] 5 _ rfl 3 rfl) (by omega) (Nat.le_refl _) (by unfold maxLen; omega) (byte3 (by decide))
  unfold AnsP at A6
  rw [H5.out.1, H5.out.2] at A6
  have HA6 := Lib.hid A6
  clear A6 hM sM hML x4 HA4
  go_wp2_with fail
  refine HA6.out.mono ?_; rintro e w6 ⟨x6, q6, rfl, -, -, -, y6⟩
  have t6 := (Ext.alloc w5 _).trans y6
  have s6 : Ext W3 w6 := y4.trans (x5.trans t6)
  have z6 := z5.trans t6
  have HBy := Lib.hid (bytes_eq x (some ⟨w6.heap.size, 0, none⟩) 12 12 q 12 (ofL s21B) (ofL [14, 1, 129, 0, 0, 3, 0, 0, 1, 0, 2, 0]) (w6.alloc (.cells #[.int .u8 14, .int .u8 1, .int .u8 129, .int .u8 0, .int .u8 0, .int .u8 3, .int .u8 0, .int .u8 0, .int .u8 1, .int .u8 0, .int .u8 2, .int .u8 0] 5)) (HH1.out.ext (q3.trans (s6.trans (Ext.alloc _ _)))) (Holds.lit w6 s21B 5 _ rfl 12 rfl) (by omega) ⟨rfl, fun _ _ => rfl⟩)
  have HT := Lib.hid (And.intro z6 (And.intro s6 t6))
  clear y6 t6 s6 z6 x5 y4 z5 z4 HA6
  go_wp2_with fail
  refine HBy.out.mono ?_; rintro e w7 ⟨rfl, x7⟩
  have y7 := (Ext.alloc w6 _).trans x7
  have p7 : w7.cell? ⟨w2.heap.size, 4, none⟩ = some (.slice pb 3 pq) := cell_of_heap ((HT.out.2.1.trans y7).block HZ.out) rfl
  clear x7
  go_wp2_with fail
  refine (HB.out.same mb (some ⟨G, 0, none⟩) mm 3 mq 3 M L w7 (HM.out.1.ext (HT.out.2.2.trans y7)) (HO.out.ext (HT.out.1.trans y7)) (ObjF.same HM.out.2 HF.out) HF.out).mono ?_; rintro e w8 ⟨rfl, x8⟩
  rw [HM.out.2]
  go_wp2
  go_ret
  exact ⟨rfl, HX.out.trans (HT.out.1.trans (y7.trans x8))⟩
end Go.Proofs.Ythdkhdbabohohaa
