/-
  THE LAWS OF LAYER 20: sure (package object's contracts as premises).
-/
import Derived.Test.YtnbcpmphjjiipaaObjC
import Derived.Test.YtnbcpmphjjiipaaSame
import Derived.Test.YtnbcpmphjjiipaaLater
namespace Go.Proofs.Ytnbcpmphjjiipaa
open Go.RowKit
set_option linter.unusedVariables false
set_option maxRecDepth 100000

/-- The five objects of 'sure'. -/
def s20L (B : Nat) : List Ob := [⟨0, none, 0, 0, fun _ => 0⟩, ⟨1, none, 0, 0, fun _ => 0⟩, ⟨2, some ⟨B, 0, none⟩, 1, 1, fun _ => 7⟩, ⟨5, none, 0, 0, fun _ => 0⟩, ⟨130, none, 0, 0, fun _ => 0⟩]
theorem s20_f (B : Nat) : ObjF (s20L B) := ⟨by show 5 ≤ 100000; decide, fun z hz => by simp only [s20L, List.mem_cons, List.not_mem_nil, or_false] at hz; rcases hz with rfl | rfl | rfl | rfl | rfl <;> simp⟩
theorem s20_at {w : World} {B G : Nat} (hB : w.heap[B]? = some (.cells #[.int .u8 7] 5 (0, 0)))
    (hG : w.heap[G]? = some (.cells #[.int .i64 0, .slice none 0 0, .int .i64 1, .slice none 0 0, .int .i64 2, .slice (some ⟨B, 0, none⟩) 1 1, .int .i64 5, .slice none 0 0, .int .i64 130, .slice none 0 0] 28 (0, 0))) :
    ObjsAt w (some ⟨G, 0, none⟩) 5 5 (s20L B) := by
  refine ⟨rfl, .inr ⟨G, 0, rfl, heap_lt hG, fun i x hx j v hv => ?_⟩, Nat.le_refl _, by unfold maxLen; omega, fun z hz => ?_⟩
  · rw [cell_of_row _ _ _ _ _ _ hG, Nat.zero_add, ← Array.getElem?_toList]
    exact flat_get obL_length (s20L B) i x hx j v hv
  · have emp : ∀ (i : Int) (hi : (Lit.int .i64 i).wf = true), ObjAt w ⟨i, none, 0, 0, fun _ => 0⟩ := fun i hi => ⟨.inl rfl, Nat.le_refl _, Nat.zero_le _, Nat.zero_le _, fun j hj => absurd hj (Nat.not_lt_zero _), hi⟩
    simp only [s20L, List.mem_cons, List.not_mem_nil, or_false] at hz
    rcases hz with rfl | rfl | rfl | rfl | rfl
    · exact emp _ (by decide)
    · exact emp _ (by decide)
    · refine ⟨.inr ⟨B, 0, rfl, heap_lt hB, fun i hi => ?_⟩, Nat.le_refl _, by unfold maxLen; show 1 ≤ _; omega, by show 1 ≤ _; omega, fun i hi => ⟨by show (0 : Int) ≤ 7; decide, by show (7 : Int) < 256; decide⟩, by show (Lit.int .i64 2).wf = true; decide⟩
      have hi0 : i = 0 := by have : i < 1 := hi; omega
      subst hi0
      exact cell_of_heap hB rfl
    · exact emp _ (by decide)
    · exact emp _ (by decide)
set_option maxHeartbeats 8000000 in
theorem sure20 (K : ObjC) (w : World) : Calls Try.prog 6 #[] w fun e w' => e = .returned (.bool true) ∧ Ext w w' := by
  obtain ⟨W0, hW0, x0, HO, HS⟩ : ∃ W0, W0 = (w.alloc (.cells #[.int .u8 7] 5)).alloc (.cells #[.int .i64 0, .slice none 0 0, .int .i64 1, .slice none 0 0, .int .i64 2, .slice (some ⟨w.heap.size, 0, none⟩) 1 1, .int .i64 5, .slice none 0 0, .int .i64 130, .slice none 0 0] 28) ∧ Ext w W0 ∧ Hid (ObjsAt W0 (some ⟨w.heap.size + 1, 0, none⟩) 5 5 (s20L w.heap.size)) ∧ Hid (W0.heap.size = w.heap.size + 2) :=
    ⟨_, rfl, (Ext.alloc w _).trans (Ext.alloc _ _), Lib.hid (s20_at ((heap_alloc_old _ _ (by simp)).trans (heap_alloc_new w _)) (heap_new_at _ _ (by simp))), Lib.hid (by simp)⟩
  have HF := Lib.hid (s20_f w.heap.size)
  have HK := Lib.hid K
  have E1 : Hid (findO 2 (s20L w.heap.size) = some ⟨2, some ⟨w.heap.size, 0, none⟩, 1, 1, fun _ => 7⟩) := Lib.hid rfl
  have E2 : Hid (fromO 2 2 (s20L w.heap.size) = [⟨2, some ⟨w.heap.size, 0, none⟩, 1, 1, fun _ => 7⟩, ⟨5, none, 0, 0, fun _ => 0⟩]) := Lib.hid rfl
  have E3 : Hid (rightO (s20L w.heap.size) = true) := Lib.hid rfl
  have E4 : Hid (levelO (s20L w.heap.size) = 3) := Lib.hid rfl
  have E5 : Hid ((ofO 2 (s20L w.heap.size)).length = 4) := Lib.hid rfl
  have E6 : Hid (rightO ((s20L w.heap.size).drop 1) = false) := Lib.hid rfl
  generalize s20L w.heap.size = L at HO HF E1 E2 E3 E4 E5 E6
  have HX := Lib.hid x0
  clear x0 K
  go_enter Try.func6, Try.ntmps6
  go_upto_region 2 with fail
  rw [← hW0]
  clear hW0
  go_wp2_with fail
  refine (HK.out.find _ _ _ L 2 W0 HO.out HF.out (by decide)).mono ?_; rintro e w1 ⟨z, rfl, hz, sz, x1⟩
  rw [E1.out] at sz ⊢
  obtain ⟨W1, hW1, y1, HZ⟩ : ∃ W1, W1 = w1.alloc (.cells (obC z) 28) ∧ Ext w1 W1 ∧ Hid (W1.heap[w1.heap.size]? = some (.cells (obC z) 28 (0, 0))) := ⟨_, rfl, Ext.alloc _ _, Lib.hid (heap_alloc_new _ _)⟩
  have z1 : Ext W0 W1 := x1.trans y1
  have Hz1 := Lib.hid (And.intro (hz.ext y1) sz)
  clear hz sz
  simp only [obC]
  go_upto_region 3 with fail
  rw [show (w1.alloc (.cells #[.int .i64 z.id, .slice z.a z.n z.c] 28)) = W1 from hW1.symm]
  clear hW1
  go_wp2_with fail
  refine (HK.out.from_ _ _ _ L 2 2 W1 (HO.out.ext z1) HF.out (by decide) (by decide)).mono ?_; rintro e w2 ⟨b, m, q, M, rfl, hM, sM, x2⟩
  rw [E2.out] at sM
  have z2 := z1.trans x2
  have hm : m = 2 := by rw [← hM.len]; exact sameO_len sM
  subst hm
  have HM := Lib.hid (And.intro hM sM)
  clear hM sM
  go_wp2_with fail
  refine (HK.out.right _ _ _ L w2 (HO.out.ext z2) HF.out).mono ?_; rintro e w3 ⟨rfl, x3⟩
  rw [E3.out]
  have z3 := z2.trans x3
  go_wp2_with fail
  refine (HK.out.level _ _ _ L w3 (HO.out.ext z3) HF.out).mono ?_; rintro e w4 ⟨rfl, x4⟩
  rw [E4.out]
  have z4 := z3.trans x4
  have q4 : Ext W1 w4 := x2.trans (x3.trans x4)
  have p4 : w4.cell? ⟨w1.heap.size, 1, none⟩ = some (.slice z.a z.n z.c) := cell_of_heap (q4.block HZ.out) rfl
  have hzn : z.n = 1 := (sameZ_iff.1 Hz1.out.2).2.1
  rw [hzn] at p4
  go_wp2_with fail
  refine (HK.out.of _ _ _ L 2 w4 (HO.out.ext z4) HF.out (by decide)).mono ?_; rintro e w5 ⟨b5, m5, q5, M5, rfl, hM5, sM5, x5⟩
  have z5 := z4.trans x5
  have hm5 : m5 = 4 := by rw [← hM5.len, sameO_len sM5, E5.out]
  subst hm5
  have y5 : Ext w2 w5 := x3.trans (x4.trans x5)
  obtain ⟨g, o, rfl, hg, -⟩ := HM.out.1.h.resolve_left (by intro e; have := HM.out.1.len; rw [e] at this; cases this)
  obtain ⟨a0, -⟩ := HM.out.1.h.ob_at 0 (by rw [HM.out.1.len]; decide)
  have hid : (M[0]'(by rw [HM.out.1.len]; decide)).id = 2 := (sameZ_iff.1 (sameO_at HM.out.2 (by rw [HM.out.1.len]; decide) (by simp))).1
  rw [hid, Nat.zero_mul, Nat.add_zero] at a0
  have a5 := y5.cell hg a0
  have i5 : w5.cell? ⟨w1.heap.size, 0, none⟩ = some (.int .i64 z.id) := cell_of_heap ((q4.trans x5).block HZ.out) rfl
  have p5 : w5.cell? ⟨w1.heap.size, 1, none⟩ = some (.slice z.a z.n z.c) := cell_of_heap ((q4.trans x5).block HZ.out) rfl
  clear a0 hid p4 hM5 sM5
  have hq := HM.out.1.l
  have HN := Lib.hid hzn
  clear hzn
  go_wp2_with fail
  refine (HK.out.size z w5 (Hz1.out.1.ext (q4.trans x5)) (by have := HN.out; omega)).mono ?_; rintro e w6 ⟨rfl, x6⟩
  rw [HN.out]
  have z6 := z5.trans x6
  clear p5 a5 i5
  go_wp2_with fail
  refine (HK.out.right _ _ _ (L.drop 1) w6 ((HO.out.ext z6).drop (k := 1) (by decide)) (HF.out.sub (by simp) (fun z hz => List.mem_of_mem_drop hz))).mono ?_; rintro e w7 ⟨rfl, x7⟩
  rw [E6.out]
  have z7 := z6.trans x7
  go_wp2_with fail
  refine (HK.out.same _ _ _ _ _ _ L L w7 (HO.out.ext z7) (HO.out.ext z7) HF.out HF.out).mono ?_; rintro e w8 ⟨rfl, x8⟩
  rw [sameO_refl]
  have z8 := z7.trans x8
  have y8 : Ext w2 w8 := y5.trans (x6.trans (x7.trans x8))
  go_wp2_with fail
  refine (HK.out.same _ _ _ _ _ _ L M w8 (HO.out.ext z8) (HM.out.1.ext y8) HF.out (ObjF.same HM.out.2 ⟨by simp, fun z hz => by simp only [List.mem_cons, List.not_mem_nil, or_false] at hz; rcases hz with rfl | rfl <;> simp⟩)).mono ?_; rintro e w9 ⟨rfl, x9⟩
  rw [show sameO L M = false from sameO_len_ne (by rw [HO.out.len, HM.out.1.len]; decide)]
  go_wp2
  go_ret
  exact ⟨rfl, HX.out.trans (z8.trans x9)⟩
end Go.Proofs.Ytnbcpmphjjiipaa
