/-
  CONTRACTS: package tell (layer 16): replyTo.
-/
import Derived.Test.YtejiafihiielgaaTel
import Derived.Test.YtejiafihiielgaaStepStore
import Derived.Deep.DeepCutAuto
import Derived.Test.YtejiafihiielgaaAsk
import Derived.Test.YtejiafihiielgaaAskM
import Derived.Test.YtejiafihiielgaaStructs
import Derived.Laws.CopyOwn
import Derived.Laws.Rows
namespace Go.Proofs.Ytejiafihiielgaa
open Go.RowKit
set_option linter.unusedVariables false
set_option maxRecDepth 100000

/-- What answers an ask that is not refused, each cell 0; the numbers that it says again. -/
def replT (Q : Qst) : Tel := wholeT Q Q.ct.toNat (fun _ => false) (if Q.k = 23 then Q.mn.toNat else Q.ct.toNat) (fun _ => 0)
def agN (Q : Qst) : Nat := if Q.k = 5 ∨ Q.k = 6 ∨ Q.k = 15 ∨ Q.k = 16 then 2 else if Q.k = 22 then 3 else 0
def agF (Q : Qst) : Nat → Int := tnumF (replT Q)
def repC (V : QstV) (T : Tel) (a : Option Addr) (n c : Nat) : Array Value := #[.int .i64 T.k, .int .i64 T.cd, .int .i64 T.ad, .int .i64 T.ct, .int .i64 T.va, .int .i64 T.an, .int .i64 T.oo, .slice V.a1 T.nb V.d1, .slice V.a2 T.nr V.d2, .slice a n c]
structure RepP (Q : Qst) (w : World) (e : Ending) (w' : World) : Prop where
  go : ∃ X b q, e = .returned (.agg (repC X (replT Q) b (agN Q) q)) ∧ TelAt w' X (replT Q) ∧ HoldsG (Value.int .i64) w' b (agN Q) (agF Q) ∧ agN Q ≤ q ∧ q ≤ maxLen ∧ Fresh w b
  x : Ext w w'
theorem frozenT {w : World} {B j : Nat} {cs : Array Value} {t : TypeId} (h : w.heap[B]? = some (.cells cs t (0, 0))) : w.frozen? ⟨B, j, none⟩ = false := by simp [World.frozen?, h]
theorem row_held {W : World} {g m : Nat} {cs : Array Value} {t : TypeId} {f : Nat → Int} (hg : W.heap[g]? = some (.cells cs t (0, 0))) (h : ∀ i, i < m → cs[i]? = some (.int .i64 (f i))) : HoldsG (Value.int .i64) W (some ⟨g, 0, none⟩) m f :=
  .inr ⟨g, 0, rfl, heap_lt hg, fun i hi => by rw [Nat.zero_add]; exact cell_of_heap hg (h i hi)⟩

set_option maxHeartbeats 2000000 in
theorem reply_5 (V : QstV) (Q : Qst) (w : World) (hk : Q.k = 5) : Calls Try.prog 24 #[.agg (qstC V Q)] w (RepP Q w) := by
  obtain ⟨k, ad, ct, va, an, oo, fr, mn, qb, qB, qr, qR⟩ := Q
  obtain ⟨a1, d1, a2, d2⟩ := V
  simp only at hk
  subst hk
  have hT : replT ⟨5, ad, ct, va, an, oo, fr, mn, qb, qB, qr, qR⟩ = { zeroT with k := 5, ad := ad, va := va } := by unfold replT wholeT; simp (config := { decide := true })
  have hN : agN ⟨5, ad, ct, va, an, oo, fr, mn, qb, qB, qr, qR⟩ = 2 := by unfold agN; simp (config := { decide := true })
  have hF : agF ⟨5, ad, ct, va, an, oo, fr, mn, qb, qB, qr, qR⟩ = (fun i => if i = 0 then ad else va : Nat → Int) := by unfold agF; rw [hT]; unfold tnumF zeroT; funext i; simp (config := { decide := true })
  have H := Lib.hid (And.intro hT (And.intro hN hF))
  clear hT hN hF
  unfold qstC
  dsimp only
  go_enter Try.func24, Try.ntmps24
  go_upto_region 17 with fail
  go_region
  go_wp2
  refine bodyPost_ret (results_cell_row rfl _ _ (w.heap.size + 1) 55 _ (0, 0) _ rfl ((heap_alloc_old _ _ (by simp)).trans ((heap_alloc_old _ _ (by simp)).trans (heap_new_at _ _ (by simp)))) Try.underlying55 rfl (by kernel_rfl)) rfl ?_
  obtain ⟨hT, hN, hF⟩ := H.out
  refine ⟨⟨zeroQV, some ⟨w.heap.size + 1 + 1 + 1, 0, none⟩, 2, ?_, ?_, ?_, ?_, ?_, ?_⟩, ?_⟩
  · rw [hT, hN]; rfl
  · rw [hT]; exact telnone_at _ rfl rfl
  · rw [hN, hF]
    refine row_held (t := 3) (cs := #[.int .i64 ad, .int .i64 va]) (heap_new_at _ _ (by simp)) (fun i hi => ?_)
    have h : i = 0 ∨ i = 1 := by omega
    rcases h with rfl | rfl <;> rfl
  · rw [hN]; exact Nat.le_refl _
  · unfold maxLen; omega
  · intro p hp; cases hp; exact Nat.le_trans (Nat.le_succ _) (Nat.le_trans (Nat.le_succ _) (Nat.le_succ _))
  · exact ((((Ext.alloc w _).trans (Ext.alloc _ _)).trans (Ext.alloc _ _)).trans (Ext.alloc _ _)).trans (Ext.drew _)
set_option maxHeartbeats 2000000 in
theorem reply_6 (V : QstV) (Q : Qst) (w : World) (hk : Q.k = 6) : Calls Try.prog 24 #[.agg (qstC V Q)] w (RepP Q w) := by
  obtain ⟨k, ad, ct, va, an, oo, fr, mn, qb, qB, qr, qR⟩ := Q
  obtain ⟨a1, d1, a2, d2⟩ := V
  simp only at hk
  subst hk
  have hT : replT ⟨6, ad, ct, va, an, oo, fr, mn, qb, qB, qr, qR⟩ = { zeroT with k := 6, ad := ad, va := va } := by unfold replT wholeT; simp (config := { decide := true })
  have hN : agN ⟨6, ad, ct, va, an, oo, fr, mn, qb, qB, qr, qR⟩ = 2 := by unfold agN; simp (config := { decide := true })
  have hF : agF ⟨6, ad, ct, va, an, oo, fr, mn, qb, qB, qr, qR⟩ = (fun i => if i = 0 then ad else va : Nat → Int) := by unfold agF; rw [hT]; unfold tnumF zeroT; funext i; simp (config := { decide := true })
  have H := Lib.hid (And.intro hT (And.intro hN hF))
  clear hT hN hF
  unfold qstC
  dsimp only
  go_enter Try.func24, Try.ntmps24
  go_upto_region 17 with fail
  go_region
  go_wp2
  refine bodyPost_ret (results_cell_row rfl _ _ (w.heap.size + 1) 55 _ (0, 0) _ rfl ((heap_alloc_old _ _ (by simp)).trans ((heap_alloc_old _ _ (by simp)).trans (heap_new_at _ _ (by simp)))) Try.underlying55 rfl (by kernel_rfl)) rfl ?_
  obtain ⟨hT, hN, hF⟩ := H.out
  refine ⟨⟨zeroQV, some ⟨w.heap.size + 1 + 1 + 1, 0, none⟩, 2, ?_, ?_, ?_, ?_, ?_, ?_⟩, ?_⟩
  · rw [hT, hN]; rfl
  · rw [hT]; exact telnone_at _ rfl rfl
  · rw [hN, hF]
    refine row_held (t := 3) (cs := #[.int .i64 ad, .int .i64 va]) (heap_new_at _ _ (by simp)) (fun i hi => ?_)
    have h : i = 0 ∨ i = 1 := by omega
    rcases h with rfl | rfl <;> rfl
  · rw [hN]; exact Nat.le_refl _
  · unfold maxLen; omega
  · intro p hp; cases hp; exact Nat.le_trans (Nat.le_succ _) (Nat.le_trans (Nat.le_succ _) (Nat.le_succ _))
  · exact ((((Ext.alloc w _).trans (Ext.alloc _ _)).trans (Ext.alloc _ _)).trans (Ext.alloc _ _)).trans (Ext.drew _)
set_option maxHeartbeats 2000000 in
theorem reply_15 (V : QstV) (Q : Qst) (w : World) (hk : Q.k = 15) : Calls Try.prog 24 #[.agg (qstC V Q)] w (RepP Q w) := by
  obtain ⟨k, ad, ct, va, an, oo, fr, mn, qb, qB, qr, qR⟩ := Q
  obtain ⟨a1, d1, a2, d2⟩ := V
  simp only at hk
  subst hk
  have hT : replT ⟨15, ad, ct, va, an, oo, fr, mn, qb, qB, qr, qR⟩ = { zeroT with k := 15, ad := ad, ct := ct } := by unfold replT wholeT; simp (config := { decide := true })
  have hN : agN ⟨15, ad, ct, va, an, oo, fr, mn, qb, qB, qr, qR⟩ = 2 := by unfold agN; simp (config := { decide := true })
  have hF : agF ⟨15, ad, ct, va, an, oo, fr, mn, qb, qB, qr, qR⟩ = (fun i => if i = 0 then ad else ct : Nat → Int) := by unfold agF; rw [hT]; unfold tnumF zeroT; funext i; simp (config := { decide := true })
  have H := Lib.hid (And.intro hT (And.intro hN hF))
  clear hT hN hF
  unfold qstC
  dsimp only
  go_enter Try.func24, Try.ntmps24
  go_upto_region 19 with fail
  go_region
  go_wp2
  refine bodyPost_ret (results_cell_row rfl _ _ (w.heap.size + 1) 55 _ (0, 0) _ rfl ((heap_alloc_old _ _ (by simp)).trans ((heap_alloc_old _ _ (by simp)).trans (heap_new_at _ _ (by simp)))) Try.underlying55 rfl (by kernel_rfl)) rfl ?_
  obtain ⟨hT, hN, hF⟩ := H.out
  refine ⟨⟨zeroQV, some ⟨w.heap.size + 1 + 1 + 1, 0, none⟩, 2, ?_, ?_, ?_, ?_, ?_, ?_⟩, ?_⟩
  · rw [hT, hN]; rfl
  · rw [hT]; exact telnone_at _ rfl rfl
  · rw [hN, hF]
    refine row_held (t := 3) (cs := #[.int .i64 ad, .int .i64 ct]) (heap_new_at _ _ (by simp)) (fun i hi => ?_)
    have h : i = 0 ∨ i = 1 := by omega
    rcases h with rfl | rfl <;> rfl
  · rw [hN]; exact Nat.le_refl _
  · unfold maxLen; omega
  · intro p hp; cases hp; exact Nat.le_trans (Nat.le_succ _) (Nat.le_trans (Nat.le_succ _) (Nat.le_succ _))
  · exact ((((Ext.alloc w _).trans (Ext.alloc _ _)).trans (Ext.alloc _ _)).trans (Ext.alloc _ _)).trans (Ext.drew _)
set_option maxHeartbeats 2000000 in
theorem reply_16 (V : QstV) (Q : Qst) (w : World) (hk : Q.k = 16) : Calls Try.prog 24 #[.agg (qstC V Q)] w (RepP Q w) := by
  obtain ⟨k, ad, ct, va, an, oo, fr, mn, qb, qB, qr, qR⟩ := Q
  obtain ⟨a1, d1, a2, d2⟩ := V
  simp only at hk
  subst hk
  have hT : replT ⟨16, ad, ct, va, an, oo, fr, mn, qb, qB, qr, qR⟩ = { zeroT with k := 16, ad := ad, ct := ct } := by unfold replT wholeT; simp (config := { decide := true })
  have hN : agN ⟨16, ad, ct, va, an, oo, fr, mn, qb, qB, qr, qR⟩ = 2 := by unfold agN; simp (config := { decide := true })
  have hF : agF ⟨16, ad, ct, va, an, oo, fr, mn, qb, qB, qr, qR⟩ = (fun i => if i = 0 then ad else ct : Nat → Int) := by unfold agF; rw [hT]; unfold tnumF zeroT; funext i; simp (config := { decide := true })
  have H := Lib.hid (And.intro hT (And.intro hN hF))
  clear hT hN hF
  unfold qstC
  dsimp only
  go_enter Try.func24, Try.ntmps24
  go_upto_region 19 with fail
  go_region
  go_wp2
  refine bodyPost_ret (results_cell_row rfl _ _ (w.heap.size + 1) 55 _ (0, 0) _ rfl ((heap_alloc_old _ _ (by simp)).trans ((heap_alloc_old _ _ (by simp)).trans (heap_new_at _ _ (by simp)))) Try.underlying55 rfl (by kernel_rfl)) rfl ?_
  obtain ⟨hT, hN, hF⟩ := H.out
  refine ⟨⟨zeroQV, some ⟨w.heap.size + 1 + 1 + 1, 0, none⟩, 2, ?_, ?_, ?_, ?_, ?_, ?_⟩, ?_⟩
  · rw [hT, hN]; rfl
  · rw [hT]; exact telnone_at _ rfl rfl
  · rw [hN, hF]
    refine row_held (t := 3) (cs := #[.int .i64 ad, .int .i64 ct]) (heap_new_at _ _ (by simp)) (fun i hi => ?_)
    have h : i = 0 ∨ i = 1 := by omega
    rcases h with rfl | rfl <;> rfl
  · rw [hN]; exact Nat.le_refl _
  · unfold maxLen; omega
  · intro p hp; cases hp; exact Nat.le_trans (Nat.le_succ _) (Nat.le_trans (Nat.le_succ _) (Nat.le_succ _))
  · exact ((((Ext.alloc w _).trans (Ext.alloc _ _)).trans (Ext.alloc _ _)).trans (Ext.alloc _ _)).trans (Ext.drew _)
set_option maxHeartbeats 2000000 in
theorem reply_22 (V : QstV) (Q : Qst) (w : World) (hk : Q.k = 22) : Calls Try.prog 24 #[.agg (qstC V Q)] w (RepP Q w) := by
  obtain ⟨k, ad, ct, va, an, oo, fr, mn, qb, qB, qr, qR⟩ := Q
  obtain ⟨a1, d1, a2, d2⟩ := V
  simp only at hk
  subst hk
  have hT : replT ⟨22, ad, ct, va, an, oo, fr, mn, qb, qB, qr, qR⟩ = { zeroT with k := 22, ad := ad, an := an, oo := oo } := by unfold replT wholeT; simp (config := { decide := true })
  have hN : agN ⟨22, ad, ct, va, an, oo, fr, mn, qb, qB, qr, qR⟩ = 3 := by unfold agN; simp (config := { decide := true })
  have hF : agF ⟨22, ad, ct, va, an, oo, fr, mn, qb, qB, qr, qR⟩ = (fun i => if i = 0 then ad else if i = 1 then an else oo : Nat → Int) := by unfold agF; rw [hT]; unfold tnumF zeroT; funext i; simp (config := { decide := true })
  have H := Lib.hid (And.intro hT (And.intro hN hF))
  clear hT hN hF
  unfold qstC
  dsimp only
  go_enter Try.func24, Try.ntmps24
  go_upto_region 21 with fail
  go_region
  go_wp2
  refine bodyPost_ret (results_cell_row rfl _ _ (w.heap.size + 1) 55 _ (0, 0) _ rfl ((heap_alloc_old _ _ (by simp)).trans ((heap_alloc_old _ _ (by simp)).trans (heap_new_at _ _ (by simp)))) Try.underlying55 rfl (by kernel_rfl)) rfl ?_
  obtain ⟨hT, hN, hF⟩ := H.out
  refine ⟨⟨zeroQV, some ⟨w.heap.size + 1 + 1 + 1, 0, none⟩, 3, ?_, ?_, ?_, ?_, ?_, ?_⟩, ?_⟩
  · rw [hT, hN]; rfl
  · rw [hT]; exact telnone_at _ rfl rfl
  · rw [hN, hF]
    refine row_held (t := 3) (cs := #[.int .i64 ad, .int .i64 an, .int .i64 oo]) (heap_new_at _ _ (by simp)) (fun i hi => ?_)
    have h : i = 0 ∨ i = 1 ∨ i = 2 := by omega
    rcases h with rfl | rfl | rfl <;> rfl
  · rw [hN]; exact Nat.le_refl _
  · unfold maxLen; omega
  · intro p hp; cases hp; exact Nat.le_trans (Nat.le_succ _) (Nat.le_trans (Nat.le_succ _) (Nat.le_succ _))
  · exact ((((Ext.alloc w _).trans (Ext.alloc _ _)).trans (Ext.alloc _ _)).trans (Ext.alloc _ _)).trans (Ext.drew _)
set_option maxHeartbeats 2000000 in
theorem reply_1 (V : QstV) (Q : Qst) (w : World) (hk : Q.k = 1) (hn : 0 ≤ Q.ct ∧ Q.ct ≤ 2000) : Calls Try.prog 24 #[.agg (qstC V Q)] w (RepP Q w) := by
  obtain ⟨i0, hi0, hz0, hz1, hz2⟩ := info_parts Try.infoB
  obtain ⟨k, ad, ct, va, an, oo, fr, mn, qb, qB, qr, qR⟩ := Q
  obtain ⟨a1, d1, a2, d2⟩ := V
  simp only at hk
  subst hk
  simp only at hn
  obtain ⟨N, rfl⟩ : ∃ N : Nat, ct = N := ⟨ct.toNat, by omega⟩
  have hN2 : N ≤ 2000 := by omega
  have hm : N ≤ maxLen := by unfold maxLen; omega
  have hT : replT ⟨1, ad, (N : Int), va, an, oo, fr, mn, qb, qB, qr, qR⟩ = { zeroT with k := 1, nb := N, B := fun _ => false } := by unfold replT wholeT; simp (config := { decide := true })
  have hA : agN ⟨1, ad, (N : Int), va, an, oo, fr, mn, qb, qB, qr, qR⟩ = 0 := by unfold agN; simp (config := { decide := true })
  have H := Lib.hid (And.intro hT hA)
  clear hT hA hn
  unfold qstC
  dsimp only
  obtain ⟨W3, hW3, e3, H3⟩ : ∃ W3, W3 = ((w.alloc (.cells #[.int .i64 1, .int .i64 ad, .int .i64 N, .int .i64 va, .int .i64 an, .int .i64 oo, .int .i64 fr, .int .i64 mn, .slice a1 qb d1, .slice a2 qr d2] 25)).alloc (.cells #[.int .i64 0, .int .i64 0, .int .i64 0, .int .i64 0, .int .i64 0, .int .i64 0, .int .i64 0, .slice none 0 0, .slice none 0 0, .slice none 0 0] 55)).alloc (.cells #[.int .i64 1, .int .i64 0, .int .i64 0, .int .i64 0, .int .i64 0, .int .i64 0, .int .i64 0, .slice none 0 0, .slice none 0 0, .slice none 0 0] 55) ∧ Ext w W3 ∧ Hid (W3.heap[w.heap.size]? = some (.cells #[.int .i64 1, .int .i64 ad, .int .i64 N, .int .i64 va, .int .i64 an, .int .i64 oo, .int .i64 fr, .int .i64 mn, .slice a1 qb d1, .slice a2 qr d2] 25 (0, 0)) ∧ W3.heap[w.heap.size + 1]? = some (.cells #[.int .i64 0, .int .i64 0, .int .i64 0, .int .i64 0, .int .i64 0, .int .i64 0, .int .i64 0, .slice none 0 0, .slice none 0 0, .slice none 0 0] 55 (0, 0)) ∧ W3.heap[w.heap.size + 1 + 1]? = some (.cells #[.int .i64 1, .int .i64 0, .int .i64 0, .int .i64 0, .int .i64 0, .int .i64 0, .int .i64 0, .slice none 0 0, .slice none 0 0, .slice none 0 0] 55 (0, 0)) ∧ w.heap.size + 1 + 1 < W3.heap.size) :=
    ⟨_, rfl, ((Ext.alloc w _).trans (Ext.alloc _ _)).trans (Ext.alloc _ _), Lib.hid ⟨(heap_alloc_old _ _ (by simp; omega)).trans ((heap_alloc_old _ _ (by simp)).trans (heap_new_at _ _ (by simp))), (heap_alloc_old _ _ (by simp)).trans (heap_new_at _ _ (by simp)), heap_new_at _ _ (by simp), by simp⟩⟩
  have c3 : W3.cell? ⟨w.heap.size, 2, none⟩ = some (.int .i64 N) := cell_of_heap H3.out.1 rfl
  go_enter Try.func24, Try.ntmps24
  go_upto_region 14 with fail
  rw [← hW3]
  clear hW3
  go_wp2_with (first
    | (at_make; refine wpList_make_full _ rfl _ _ 22 rfl W3.heap.size 4 i0 (.bool false) 1 Try.underlying22 hi0 hz0 hz1 .i64 .i64 N N N rfl rfl rfl rfl (by rw [hz2]; omega) hm (Nat.le_refl _) ?_; intro w5 hown5 hgrow5; have r5 : Row Value.bool 4 w5 W3.heap.size N (fun _ => false) := Row.made hown5; have x5 : Ext W3 w5 := (Below.refl _ _).grown hgrow5 (Nat.le_refl _) (fun k hk => by cases hk); have gR := x5.block H3.out.2.2.1; have gZ := x5.block H3.out.2.1; have hlt := H3.out.2.2.2; have p7 : w5.cell? ⟨w.heap.size + 1 + 1, 7, none⟩ = some (.slice none 0 0) := cell_of_heap gR rfl; have q7 : w5.frozen? ⟨w.heap.size + 1 + 1, 7, none⟩ = false := frozenT gR)
    | (refine wpList_load_row rfl 55 (.tmp 3) rfl (w.heap.size + 1 + 1) rfl 55 #[.int .i64 1, .int .i64 0, .int .i64 0, .int .i64 0, .int .i64 0, .int .i64 0, .int .i64 0, .slice (some ⟨W3.heap.size, 0, none⟩) N N, .slice none 0 0, .slice none 0 0] (0, 0) _ ((heap_setCell_same w5 (w.heap.size + 1 + 1) 7 _ _ _ gR).trans (by rfl)) Try.underlying55 rfl (by kernel_rfl) ?_)
    | (refine wpList_store_row rfl 55 (.tmp 2) (.tmp 98) rfl (w.heap.size + 1) _ rfl rfl 55 #[.int .i64 0, .int .i64 0, .int .i64 0, .int .i64 0, .int .i64 0, .int .i64 0, .int .i64 0, .slice none 0 0, .slice none 0 0, .slice none 0 0] ((heap_setCell_other _ _ _ _ (by simp)).trans gZ) (by kernel_rfl) rfl (by simp [Value.oneCell']) ?_))
  refine bodyPost_ret (results_cell_row rfl _ _ (w.heap.size + 1) 55 _ (0, 0) _ rfl (setRow_heap _ _ _ _ _ _ ((heap_setCell_other _ _ _ _ (by simp)).trans gZ)) Try.underlying55 rfl (by kernel_rfl)) rfl ?_
  obtain ⟨hT, hA⟩ := H.out
  have hh : HoldsG Value.bool ((w5.setCell ⟨w.heap.size + 1 + 1, 7, none⟩ (.slice (some ⟨W3.heap.size, 0, none⟩) N N)).setRow (w.heap.size + 1) #[.int .i64 1, .int .i64 0, .int .i64 0, .int .i64 0, .int .i64 0, .int .i64 0, .int .i64 0, .slice (some ⟨W3.heap.size, 0, none⟩) N N, .slice none 0 0, .slice none 0 0]) (some ⟨W3.heap.size, 0, none⟩) N (fun _ => false) :=
    .inr ⟨W3.heap.size, 0, rfl, by rw [setRow_size]; simpa [World.setCell] using r5.lt, fun i hi => (cell_setRow_other _ _ _ _ (show W3.heap.size ≠ w.heap.size + 1 from by have := H3.out.2.2.2; omega)).trans ((cell_far (show W3.heap.size ≠ w.heap.size + 1 + 1 from by have := H3.out.2.2.2; omega) _ _ _ _).trans (by rw [Nat.zero_add]; exact r5.cell i hi))⟩
  refine ⟨⟨{ zeroQV with a1 := some ⟨W3.heap.size, 0, none⟩, d1 := N }, none, 0, ?_, ?_, ?_, ?_, ?_, ?_⟩, ?_⟩
  · rw [hT, hA]; rfl
  · rw [hT]; exact ⟨hh, Nat.le_refl _, hm, .inl rfl, Nat.le_refl _, Nat.zero_le _⟩
  · rw [hA]; exact .inl rfl
  · rw [hA]; exact Nat.le_refl _
  · exact Nat.zero_le _
  · exact Fresh.nil _
  · exact below_setRow (Below.setCell (e3.trans x5) (by simp; omega) _) (by simp) _
set_option maxHeartbeats 2000000 in
theorem reply_2 (V : QstV) (Q : Qst) (w : World) (hk : Q.k = 2) (hn : 0 ≤ Q.ct ∧ Q.ct ≤ 2000) : Calls Try.prog 24 #[.agg (qstC V Q)] w (RepP Q w) := by
  obtain ⟨i0, hi0, hz0, hz1, hz2⟩ := info_parts Try.infoB
  obtain ⟨k, ad, ct, va, an, oo, fr, mn, qb, qB, qr, qR⟩ := Q
  obtain ⟨a1, d1, a2, d2⟩ := V
  simp only at hk
  subst hk
  simp only at hn
  obtain ⟨N, rfl⟩ : ∃ N : Nat, ct = N := ⟨ct.toNat, by omega⟩
  have hN2 : N ≤ 2000 := by omega
  have hm : N ≤ maxLen := by unfold maxLen; omega
  have hT : replT ⟨2, ad, (N : Int), va, an, oo, fr, mn, qb, qB, qr, qR⟩ = { zeroT with k := 2, nb := N, B := fun _ => false } := by unfold replT wholeT; simp (config := { decide := true })
  have hA : agN ⟨2, ad, (N : Int), va, an, oo, fr, mn, qb, qB, qr, qR⟩ = 0 := by unfold agN; simp (config := { decide := true })
  have H := Lib.hid (And.intro hT hA)
  clear hT hA hn
  unfold qstC
  dsimp only
  obtain ⟨W3, hW3, e3, H3⟩ : ∃ W3, W3 = ((w.alloc (.cells #[.int .i64 2, .int .i64 ad, .int .i64 N, .int .i64 va, .int .i64 an, .int .i64 oo, .int .i64 fr, .int .i64 mn, .slice a1 qb d1, .slice a2 qr d2] 25)).alloc (.cells #[.int .i64 0, .int .i64 0, .int .i64 0, .int .i64 0, .int .i64 0, .int .i64 0, .int .i64 0, .slice none 0 0, .slice none 0 0, .slice none 0 0] 55)).alloc (.cells #[.int .i64 2, .int .i64 0, .int .i64 0, .int .i64 0, .int .i64 0, .int .i64 0, .int .i64 0, .slice none 0 0, .slice none 0 0, .slice none 0 0] 55) ∧ Ext w W3 ∧ Hid (W3.heap[w.heap.size]? = some (.cells #[.int .i64 2, .int .i64 ad, .int .i64 N, .int .i64 va, .int .i64 an, .int .i64 oo, .int .i64 fr, .int .i64 mn, .slice a1 qb d1, .slice a2 qr d2] 25 (0, 0)) ∧ W3.heap[w.heap.size + 1]? = some (.cells #[.int .i64 0, .int .i64 0, .int .i64 0, .int .i64 0, .int .i64 0, .int .i64 0, .int .i64 0, .slice none 0 0, .slice none 0 0, .slice none 0 0] 55 (0, 0)) ∧ W3.heap[w.heap.size + 1 + 1]? = some (.cells #[.int .i64 2, .int .i64 0, .int .i64 0, .int .i64 0, .int .i64 0, .int .i64 0, .int .i64 0, .slice none 0 0, .slice none 0 0, .slice none 0 0] 55 (0, 0)) ∧ w.heap.size + 1 + 1 < W3.heap.size) :=
    ⟨_, rfl, ((Ext.alloc w _).trans (Ext.alloc _ _)).trans (Ext.alloc _ _), Lib.hid ⟨(heap_alloc_old _ _ (by simp; omega)).trans ((heap_alloc_old _ _ (by simp)).trans (heap_new_at _ _ (by simp))), (heap_alloc_old _ _ (by simp)).trans (heap_new_at _ _ (by simp)), heap_new_at _ _ (by simp), by simp⟩⟩
  have c3 : W3.cell? ⟨w.heap.size, 2, none⟩ = some (.int .i64 N) := cell_of_heap H3.out.1 rfl
  go_enter Try.func24, Try.ntmps24
  go_upto_region 14 with fail
  rw [← hW3]
  clear hW3
  go_wp2_with (first
    | (at_make; refine wpList_make_full _ rfl _ _ 22 rfl W3.heap.size 4 i0 (.bool false) 1 Try.underlying22 hi0 hz0 hz1 .i64 .i64 N N N rfl rfl rfl rfl (by rw [hz2]; omega) hm (Nat.le_refl _) ?_; intro w5 hown5 hgrow5; have r5 : Row Value.bool 4 w5 W3.heap.size N (fun _ => false) := Row.made hown5; have x5 : Ext W3 w5 := (Below.refl _ _).grown hgrow5 (Nat.le_refl _) (fun k hk => by cases hk); have gR := x5.block H3.out.2.2.1; have gZ := x5.block H3.out.2.1; have hlt := H3.out.2.2.2; have p7 : w5.cell? ⟨w.heap.size + 1 + 1, 7, none⟩ = some (.slice none 0 0) := cell_of_heap gR rfl; have q7 : w5.frozen? ⟨w.heap.size + 1 + 1, 7, none⟩ = false := frozenT gR)
    | (refine wpList_load_row rfl 55 (.tmp 3) rfl (w.heap.size + 1 + 1) rfl 55 #[.int .i64 2, .int .i64 0, .int .i64 0, .int .i64 0, .int .i64 0, .int .i64 0, .int .i64 0, .slice (some ⟨W3.heap.size, 0, none⟩) N N, .slice none 0 0, .slice none 0 0] (0, 0) _ ((heap_setCell_same w5 (w.heap.size + 1 + 1) 7 _ _ _ gR).trans (by rfl)) Try.underlying55 rfl (by kernel_rfl) ?_)
    | (refine wpList_store_row rfl 55 (.tmp 2) (.tmp 98) rfl (w.heap.size + 1) _ rfl rfl 55 #[.int .i64 0, .int .i64 0, .int .i64 0, .int .i64 0, .int .i64 0, .int .i64 0, .int .i64 0, .slice none 0 0, .slice none 0 0, .slice none 0 0] ((heap_setCell_other _ _ _ _ (by simp)).trans gZ) (by kernel_rfl) rfl (by simp [Value.oneCell']) ?_))
  refine bodyPost_ret (results_cell_row rfl _ _ (w.heap.size + 1) 55 _ (0, 0) _ rfl (setRow_heap _ _ _ _ _ _ ((heap_setCell_other _ _ _ _ (by simp)).trans gZ)) Try.underlying55 rfl (by kernel_rfl)) rfl ?_
  obtain ⟨hT, hA⟩ := H.out
  have hh : HoldsG Value.bool ((w5.setCell ⟨w.heap.size + 1 + 1, 7, none⟩ (.slice (some ⟨W3.heap.size, 0, none⟩) N N)).setRow (w.heap.size + 1) #[.int .i64 2, .int .i64 0, .int .i64 0, .int .i64 0, .int .i64 0, .int .i64 0, .int .i64 0, .slice (some ⟨W3.heap.size, 0, none⟩) N N, .slice none 0 0, .slice none 0 0]) (some ⟨W3.heap.size, 0, none⟩) N (fun _ => false) :=
    .inr ⟨W3.heap.size, 0, rfl, by rw [setRow_size]; simpa [World.setCell] using r5.lt, fun i hi => (cell_setRow_other _ _ _ _ (show W3.heap.size ≠ w.heap.size + 1 from by have := H3.out.2.2.2; omega)).trans ((cell_far (show W3.heap.size ≠ w.heap.size + 1 + 1 from by have := H3.out.2.2.2; omega) _ _ _ _).trans (by rw [Nat.zero_add]; exact r5.cell i hi))⟩
  refine ⟨⟨{ zeroQV with a1 := some ⟨W3.heap.size, 0, none⟩, d1 := N }, none, 0, ?_, ?_, ?_, ?_, ?_, ?_⟩, ?_⟩
  · rw [hT, hA]; rfl
  · rw [hT]; exact ⟨hh, Nat.le_refl _, hm, .inl rfl, Nat.le_refl _, Nat.zero_le _⟩
  · rw [hA]; exact .inl rfl
  · rw [hA]; exact Nat.le_refl _
  · exact Nat.zero_le _
  · exact Fresh.nil _
  · exact below_setRow (Below.setCell (e3.trans x5) (by simp; omega) _) (by simp) _
set_option maxHeartbeats 2000000 in
theorem reply_3 (V : QstV) (Q : Qst) (w : World) (hk : Q.k = 3) (hn : 0 ≤ Q.ct ∧ Q.ct ≤ 2000) : Calls Try.prog 24 #[.agg (qstC V Q)] w (RepP Q w) := by
  obtain ⟨i0, hi0, hz0, hz1, hz2⟩ := info_parts Try.info16
  obtain ⟨k, ad, ct, va, an, oo, fr, mn, qb, qB, qr, qR⟩ := Q
  obtain ⟨a1, d1, a2, d2⟩ := V
  simp only at hk
  subst hk
  simp only at hn
  obtain ⟨N, rfl⟩ : ∃ N : Nat, ct = N := ⟨ct.toNat, by omega⟩
  have hN2 : N ≤ 2000 := by omega
  have hm : N ≤ maxLen := by unfold maxLen; omega
  have hT : replT ⟨3, ad, (N : Int), va, an, oo, fr, mn, qb, qB, qr, qR⟩ = { zeroT with k := 3, nr := N, R := fun _ => 0 } := by unfold replT wholeT; simp (config := { decide := true })
  have hA : agN ⟨3, ad, (N : Int), va, an, oo, fr, mn, qb, qB, qr, qR⟩ = 0 := by unfold agN; simp (config := { decide := true })
  have H := Lib.hid (And.intro hT hA)
  clear hT hA hn
  unfold qstC
  dsimp only
  obtain ⟨W3, hW3, e3, H3⟩ : ∃ W3, W3 = ((w.alloc (.cells #[.int .i64 3, .int .i64 ad, .int .i64 N, .int .i64 va, .int .i64 an, .int .i64 oo, .int .i64 fr, .int .i64 mn, .slice a1 qb d1, .slice a2 qr d2] 25)).alloc (.cells #[.int .i64 0, .int .i64 0, .int .i64 0, .int .i64 0, .int .i64 0, .int .i64 0, .int .i64 0, .slice none 0 0, .slice none 0 0, .slice none 0 0] 55)).alloc (.cells #[.int .i64 3, .int .i64 0, .int .i64 0, .int .i64 0, .int .i64 0, .int .i64 0, .int .i64 0, .slice none 0 0, .slice none 0 0, .slice none 0 0] 55) ∧ Ext w W3 ∧ Hid (W3.heap[w.heap.size]? = some (.cells #[.int .i64 3, .int .i64 ad, .int .i64 N, .int .i64 va, .int .i64 an, .int .i64 oo, .int .i64 fr, .int .i64 mn, .slice a1 qb d1, .slice a2 qr d2] 25 (0, 0)) ∧ W3.heap[w.heap.size + 1]? = some (.cells #[.int .i64 0, .int .i64 0, .int .i64 0, .int .i64 0, .int .i64 0, .int .i64 0, .int .i64 0, .slice none 0 0, .slice none 0 0, .slice none 0 0] 55 (0, 0)) ∧ W3.heap[w.heap.size + 1 + 1]? = some (.cells #[.int .i64 3, .int .i64 0, .int .i64 0, .int .i64 0, .int .i64 0, .int .i64 0, .int .i64 0, .slice none 0 0, .slice none 0 0, .slice none 0 0] 55 (0, 0)) ∧ w.heap.size + 1 + 1 < W3.heap.size) :=
    ⟨_, rfl, ((Ext.alloc w _).trans (Ext.alloc _ _)).trans (Ext.alloc _ _), Lib.hid ⟨(heap_alloc_old _ _ (by simp; omega)).trans ((heap_alloc_old _ _ (by simp)).trans (heap_new_at _ _ (by simp))), (heap_alloc_old _ _ (by simp)).trans (heap_new_at _ _ (by simp)), heap_new_at _ _ (by simp), by simp⟩⟩
  have c3 : W3.cell? ⟨w.heap.size, 2, none⟩ = some (.int .i64 N) := cell_of_heap H3.out.1 rfl
  go_enter Try.func24, Try.ntmps24
  go_upto_region 16 with fail
  rw [← hW3]
  clear hW3
  go_wp2_with (first
    | (at_make; refine wpList_make_full _ rfl _ _ 23 rfl W3.heap.size 50 i0 (.int .u16 0) 1 Try.underlying23 hi0 hz0 hz1 .i64 .i64 N N N rfl rfl rfl rfl (by rw [hz2]; omega) hm (Nat.le_refl _) ?_; intro w5 hown5 hgrow5; have r5 : Row (Value.int .u16) 50 w5 W3.heap.size N (fun _ => 0) := Row.made hown5; have x5 : Ext W3 w5 := (Below.refl _ _).grown hgrow5 (Nat.le_refl _) (fun k hk => by cases hk); have gR := x5.block H3.out.2.2.1; have gZ := x5.block H3.out.2.1; have hlt := H3.out.2.2.2; have p7 : w5.cell? ⟨w.heap.size + 1 + 1, 8, none⟩ = some (.slice none 0 0) := cell_of_heap gR rfl; have q7 : w5.frozen? ⟨w.heap.size + 1 + 1, 8, none⟩ = false := frozenT gR)
    | (refine wpList_load_row rfl 55 (.tmp 3) rfl (w.heap.size + 1 + 1) rfl 55 #[.int .i64 3, .int .i64 0, .int .i64 0, .int .i64 0, .int .i64 0, .int .i64 0, .int .i64 0, .slice none 0 0, .slice (some ⟨W3.heap.size, 0, none⟩) N N, .slice none 0 0] (0, 0) _ ((heap_setCell_same w5 (w.heap.size + 1 + 1) 8 _ _ _ gR).trans (by rfl)) Try.underlying55 rfl (by kernel_rfl) ?_)
    | (refine wpList_store_row rfl 55 (.tmp 2) (.tmp 98) rfl (w.heap.size + 1) _ rfl rfl 55 #[.int .i64 0, .int .i64 0, .int .i64 0, .int .i64 0, .int .i64 0, .int .i64 0, .int .i64 0, .slice none 0 0, .slice none 0 0, .slice none 0 0] ((heap_setCell_other _ _ _ _ (by simp)).trans gZ) (by kernel_rfl) rfl (by simp [Value.oneCell']) ?_))
  refine bodyPost_ret (results_cell_row rfl _ _ (w.heap.size + 1) 55 _ (0, 0) _ rfl (setRow_heap _ _ _ _ _ _ ((heap_setCell_other _ _ _ _ (by simp)).trans gZ)) Try.underlying55 rfl (by kernel_rfl)) rfl ?_
  obtain ⟨hT, hA⟩ := H.out
  have hh : HoldsG (Value.int .u16) ((w5.setCell ⟨w.heap.size + 1 + 1, 8, none⟩ (.slice (some ⟨W3.heap.size, 0, none⟩) N N)).setRow (w.heap.size + 1) #[.int .i64 3, .int .i64 0, .int .i64 0, .int .i64 0, .int .i64 0, .int .i64 0, .int .i64 0, .slice none 0 0, .slice (some ⟨W3.heap.size, 0, none⟩) N N, .slice none 0 0]) (some ⟨W3.heap.size, 0, none⟩) N (fun _ => 0) :=
    .inr ⟨W3.heap.size, 0, rfl, by rw [setRow_size]; simpa [World.setCell] using r5.lt, fun i hi => (cell_setRow_other _ _ _ _ (show W3.heap.size ≠ w.heap.size + 1 from by have := H3.out.2.2.2; omega)).trans ((cell_far (show W3.heap.size ≠ w.heap.size + 1 + 1 from by have := H3.out.2.2.2; omega) _ _ _ _).trans (by rw [Nat.zero_add]; exact r5.cell i hi))⟩
  refine ⟨⟨{ zeroQV with a2 := some ⟨W3.heap.size, 0, none⟩, d2 := N }, none, 0, ?_, ?_, ?_, ?_, ?_, ?_⟩, ?_⟩
  · rw [hT, hA]; rfl
  · rw [hT]; exact ⟨.inl rfl, Nat.le_refl _, Nat.zero_le _, hh, Nat.le_refl _, hm⟩
  · rw [hA]; exact .inl rfl
  · rw [hA]; exact Nat.le_refl _
  · exact Nat.zero_le _
  · exact Fresh.nil _
  · exact below_setRow (Below.setCell (e3.trans x5) (by simp; omega) _) (by simp) _
set_option maxHeartbeats 2000000 in
theorem reply_4 (V : QstV) (Q : Qst) (w : World) (hk : Q.k = 4) (hn : 0 ≤ Q.ct ∧ Q.ct ≤ 2000) : Calls Try.prog 24 #[.agg (qstC V Q)] w (RepP Q w) := by
  obtain ⟨i0, hi0, hz0, hz1, hz2⟩ := info_parts Try.info16
  obtain ⟨k, ad, ct, va, an, oo, fr, mn, qb, qB, qr, qR⟩ := Q
  obtain ⟨a1, d1, a2, d2⟩ := V
  simp only at hk
  subst hk
  simp only at hn
  obtain ⟨N, rfl⟩ : ∃ N : Nat, ct = N := ⟨ct.toNat, by omega⟩
  have hN2 : N ≤ 2000 := by omega
  have hm : N ≤ maxLen := by unfold maxLen; omega
  have hT : replT ⟨4, ad, (N : Int), va, an, oo, fr, mn, qb, qB, qr, qR⟩ = { zeroT with k := 4, nr := N, R := fun _ => 0 } := by unfold replT wholeT; simp (config := { decide := true })
  have hA : agN ⟨4, ad, (N : Int), va, an, oo, fr, mn, qb, qB, qr, qR⟩ = 0 := by unfold agN; simp (config := { decide := true })
  have H := Lib.hid (And.intro hT hA)
  clear hT hA hn
  unfold qstC
  dsimp only
  obtain ⟨W3, hW3, e3, H3⟩ : ∃ W3, W3 = ((w.alloc (.cells #[.int .i64 4, .int .i64 ad, .int .i64 N, .int .i64 va, .int .i64 an, .int .i64 oo, .int .i64 fr, .int .i64 mn, .slice a1 qb d1, .slice a2 qr d2] 25)).alloc (.cells #[.int .i64 0, .int .i64 0, .int .i64 0, .int .i64 0, .int .i64 0, .int .i64 0, .int .i64 0, .slice none 0 0, .slice none 0 0, .slice none 0 0] 55)).alloc (.cells #[.int .i64 4, .int .i64 0, .int .i64 0, .int .i64 0, .int .i64 0, .int .i64 0, .int .i64 0, .slice none 0 0, .slice none 0 0, .slice none 0 0] 55) ∧ Ext w W3 ∧ Hid (W3.heap[w.heap.size]? = some (.cells #[.int .i64 4, .int .i64 ad, .int .i64 N, .int .i64 va, .int .i64 an, .int .i64 oo, .int .i64 fr, .int .i64 mn, .slice a1 qb d1, .slice a2 qr d2] 25 (0, 0)) ∧ W3.heap[w.heap.size + 1]? = some (.cells #[.int .i64 0, .int .i64 0, .int .i64 0, .int .i64 0, .int .i64 0, .int .i64 0, .int .i64 0, .slice none 0 0, .slice none 0 0, .slice none 0 0] 55 (0, 0)) ∧ W3.heap[w.heap.size + 1 + 1]? = some (.cells #[.int .i64 4, .int .i64 0, .int .i64 0, .int .i64 0, .int .i64 0, .int .i64 0, .int .i64 0, .slice none 0 0, .slice none 0 0, .slice none 0 0] 55 (0, 0)) ∧ w.heap.size + 1 + 1 < W3.heap.size) :=
    ⟨_, rfl, ((Ext.alloc w _).trans (Ext.alloc _ _)).trans (Ext.alloc _ _), Lib.hid ⟨(heap_alloc_old _ _ (by simp; omega)).trans ((heap_alloc_old _ _ (by simp)).trans (heap_new_at _ _ (by simp))), (heap_alloc_old _ _ (by simp)).trans (heap_new_at _ _ (by simp)), heap_new_at _ _ (by simp), by simp⟩⟩
  have c3 : W3.cell? ⟨w.heap.size, 2, none⟩ = some (.int .i64 N) := cell_of_heap H3.out.1 rfl
  go_enter Try.func24, Try.ntmps24
  go_upto_region 16 with fail
  rw [← hW3]
  clear hW3
  go_wp2_with (first
    | (at_make; refine wpList_make_full _ rfl _ _ 23 rfl W3.heap.size 50 i0 (.int .u16 0) 1 Try.underlying23 hi0 hz0 hz1 .i64 .i64 N N N rfl rfl rfl rfl (by rw [hz2]; omega) hm (Nat.le_refl _) ?_; intro w5 hown5 hgrow5; have r5 : Row (Value.int .u16) 50 w5 W3.heap.size N (fun _ => 0) := Row.made hown5; have x5 : Ext W3 w5 := (Below.refl _ _).grown hgrow5 (Nat.le_refl _) (fun k hk => by cases hk); have gR := x5.block H3.out.2.2.1; have gZ := x5.block H3.out.2.1; have hlt := H3.out.2.2.2; have p7 : w5.cell? ⟨w.heap.size + 1 + 1, 8, none⟩ = some (.slice none 0 0) := cell_of_heap gR rfl; have q7 : w5.frozen? ⟨w.heap.size + 1 + 1, 8, none⟩ = false := frozenT gR)
    | (refine wpList_load_row rfl 55 (.tmp 3) rfl (w.heap.size + 1 + 1) rfl 55 #[.int .i64 4, .int .i64 0, .int .i64 0, .int .i64 0, .int .i64 0, .int .i64 0, .int .i64 0, .slice none 0 0, .slice (some ⟨W3.heap.size, 0, none⟩) N N, .slice none 0 0] (0, 0) _ ((heap_setCell_same w5 (w.heap.size + 1 + 1) 8 _ _ _ gR).trans (by rfl)) Try.underlying55 rfl (by kernel_rfl) ?_)
    | (refine wpList_store_row rfl 55 (.tmp 2) (.tmp 98) rfl (w.heap.size + 1) _ rfl rfl 55 #[.int .i64 0, .int .i64 0, .int .i64 0, .int .i64 0, .int .i64 0, .int .i64 0, .int .i64 0, .slice none 0 0, .slice none 0 0, .slice none 0 0] ((heap_setCell_other _ _ _ _ (by simp)).trans gZ) (by kernel_rfl) rfl (by simp [Value.oneCell']) ?_))
  refine bodyPost_ret (results_cell_row rfl _ _ (w.heap.size + 1) 55 _ (0, 0) _ rfl (setRow_heap _ _ _ _ _ _ ((heap_setCell_other _ _ _ _ (by simp)).trans gZ)) Try.underlying55 rfl (by kernel_rfl)) rfl ?_
  obtain ⟨hT, hA⟩ := H.out
  have hh : HoldsG (Value.int .u16) ((w5.setCell ⟨w.heap.size + 1 + 1, 8, none⟩ (.slice (some ⟨W3.heap.size, 0, none⟩) N N)).setRow (w.heap.size + 1) #[.int .i64 4, .int .i64 0, .int .i64 0, .int .i64 0, .int .i64 0, .int .i64 0, .int .i64 0, .slice none 0 0, .slice (some ⟨W3.heap.size, 0, none⟩) N N, .slice none 0 0]) (some ⟨W3.heap.size, 0, none⟩) N (fun _ => 0) :=
    .inr ⟨W3.heap.size, 0, rfl, by rw [setRow_size]; simpa [World.setCell] using r5.lt, fun i hi => (cell_setRow_other _ _ _ _ (show W3.heap.size ≠ w.heap.size + 1 from by have := H3.out.2.2.2; omega)).trans ((cell_far (show W3.heap.size ≠ w.heap.size + 1 + 1 from by have := H3.out.2.2.2; omega) _ _ _ _).trans (by rw [Nat.zero_add]; exact r5.cell i hi))⟩
  refine ⟨⟨{ zeroQV with a2 := some ⟨W3.heap.size, 0, none⟩, d2 := N }, none, 0, ?_, ?_, ?_, ?_, ?_, ?_⟩, ?_⟩
  · rw [hT, hA]; rfl
  · rw [hT]; exact ⟨.inl rfl, Nat.le_refl _, Nat.zero_le _, hh, Nat.le_refl _, hm⟩
  · rw [hA]; exact .inl rfl
  · rw [hA]; exact Nat.le_refl _
  · exact Nat.zero_le _
  · exact Fresh.nil _
  · exact below_setRow (Below.setCell (e3.trans x5) (by simp; omega) _) (by simp) _
set_option maxHeartbeats 2000000 in
theorem reply_23 (V : QstV) (Q : Qst) (w : World) (hk : Q.k = 23) (hn : 0 ≤ Q.mn ∧ Q.mn ≤ 2000) : Calls Try.prog 24 #[.agg (qstC V Q)] w (RepP Q w) := by
  obtain ⟨i0, hi0, hz0, hz1, hz2⟩ := info_parts Try.info16
  obtain ⟨k, ad, ct, va, an, oo, fr, mn, qb, qB, qr, qR⟩ := Q
  obtain ⟨a1, d1, a2, d2⟩ := V
  simp only at hk
  subst hk
  simp only at hn
  obtain ⟨N, rfl⟩ : ∃ N : Nat, mn = N := ⟨mn.toNat, by omega⟩
  have hN2 : N ≤ 2000 := by omega
  have hm : N ≤ maxLen := by unfold maxLen; omega
  have hT : replT ⟨23, ad, ct, va, an, oo, fr, (N : Int), qb, qB, qr, qR⟩ = { zeroT with k := 23, nr := N, R := fun _ => 0 } := by unfold replT wholeT; simp (config := { decide := true })
  have hA : agN ⟨23, ad, ct, va, an, oo, fr, (N : Int), qb, qB, qr, qR⟩ = 0 := by unfold agN; simp (config := { decide := true })
  have H := Lib.hid (And.intro hT hA)
  clear hT hA hn
  unfold qstC
  dsimp only
  obtain ⟨W3, hW3, e3, H3⟩ : ∃ W3, W3 = ((w.alloc (.cells #[.int .i64 23, .int .i64 ad, .int .i64 N, .int .i64 va, .int .i64 an, .int .i64 oo, .int .i64 fr, .int .i64 N, .slice a1 qb d1, .slice a2 qr d2] 25)).alloc (.cells #[.int .i64 0, .int .i64 0, .int .i64 0, .int .i64 0, .int .i64 0, .int .i64 0, .int .i64 0, .slice none 0 0, .slice none 0 0, .slice none 0 0] 55)).alloc (.cells #[.int .i64 23, .int .i64 0, .int .i64 0, .int .i64 0, .int .i64 0, .int .i64 0, .int .i64 0, .slice none 0 0, .slice none 0 0, .slice none 0 0] 55) ∧ Ext w W3 ∧ Hid (W3.heap[w.heap.size]? = some (.cells #[.int .i64 23, .int .i64 ad, .int .i64 N, .int .i64 va, .int .i64 an, .int .i64 oo, .int .i64 fr, .int .i64 N, .slice a1 qb d1, .slice a2 qr d2] 25 (0, 0)) ∧ W3.heap[w.heap.size + 1]? = some (.cells #[.int .i64 0, .int .i64 0, .int .i64 0, .int .i64 0, .int .i64 0, .int .i64 0, .int .i64 0, .slice none 0 0, .slice none 0 0, .slice none 0 0] 55 (0, 0)) ∧ W3.heap[w.heap.size + 1 + 1]? = some (.cells #[.int .i64 23, .int .i64 0, .int .i64 0, .int .i64 0, .int .i64 0, .int .i64 0, .int .i64 0, .slice none 0 0, .slice none 0 0, .slice none 0 0] 55 (0, 0)) ∧ w.heap.size + 1 + 1 < W3.heap.size) :=
    ⟨_, rfl, ((Ext.alloc w _).trans (Ext.alloc _ _)).trans (Ext.alloc _ _), Lib.hid ⟨(heap_alloc_old _ _ (by simp; omega)).trans ((heap_alloc_old _ _ (by simp)).trans (heap_new_at _ _ (by simp))), (heap_alloc_old _ _ (by simp)).trans (heap_new_at _ _ (by simp)), heap_new_at _ _ (by simp), by simp⟩⟩
  have c3 : W3.cell? ⟨w.heap.size, 2, none⟩ = some (.int .i64 N) := cell_of_heap H3.out.1 rfl
  go_enter Try.func24, Try.ntmps24
  go_upto_region 16 with fail
  rw [← hW3]
  clear hW3
  go_wp2_with (first
    | (at_make; refine wpList_make_full _ rfl _ _ 23 rfl W3.heap.size 50 i0 (.int .u16 0) 1 Try.underlying23 hi0 hz0 hz1 .i64 .i64 N N N rfl rfl rfl rfl (by rw [hz2]; omega) hm (Nat.le_refl _) ?_; intro w5 hown5 hgrow5; have r5 : Row (Value.int .u16) 50 w5 W3.heap.size N (fun _ => 0) := Row.made hown5; have x5 : Ext W3 w5 := (Below.refl _ _).grown hgrow5 (Nat.le_refl _) (fun k hk => by cases hk); have gR := x5.block H3.out.2.2.1; have gZ := x5.block H3.out.2.1; have hlt := H3.out.2.2.2; have p7 : w5.cell? ⟨w.heap.size + 1 + 1, 8, none⟩ = some (.slice none 0 0) := cell_of_heap gR rfl; have q7 : w5.frozen? ⟨w.heap.size + 1 + 1, 8, none⟩ = false := frozenT gR)
    | (refine wpList_load_row rfl 55 (.tmp 3) rfl (w.heap.size + 1 + 1) rfl 55 #[.int .i64 23, .int .i64 0, .int .i64 0, .int .i64 0, .int .i64 0, .int .i64 0, .int .i64 0, .slice none 0 0, .slice (some ⟨W3.heap.size, 0, none⟩) N N, .slice none 0 0] (0, 0) _ ((heap_setCell_same w5 (w.heap.size + 1 + 1) 8 _ _ _ gR).trans (by rfl)) Try.underlying55 rfl (by kernel_rfl) ?_)
    | (refine wpList_store_row rfl 55 (.tmp 2) (.tmp 98) rfl (w.heap.size + 1) _ rfl rfl 55 #[.int .i64 0, .int .i64 0, .int .i64 0, .int .i64 0, .int .i64 0, .int .i64 0, .int .i64 0, .slice none 0 0, .slice none 0 0, .slice none 0 0] ((heap_setCell_other _ _ _ _ (by simp)).trans gZ) (by kernel_rfl) rfl (by simp [Value.oneCell']) ?_))
  refine bodyPost_ret (results_cell_row rfl _ _ (w.heap.size + 1) 55 _ (0, 0) _ rfl (setRow_heap _ _ _ _ _ _ ((heap_setCell_other _ _ _ _ (by simp)).trans gZ)) Try.underlying55 rfl (by kernel_rfl)) rfl ?_
  obtain ⟨hT, hA⟩ := H.out
  have hh : HoldsG (Value.int .u16) ((w5.setCell ⟨w.heap.size + 1 + 1, 8, none⟩ (.slice (some ⟨W3.heap.size, 0, none⟩) N N)).setRow (w.heap.size + 1) #[.int .i64 23, .int .i64 0, .int .i64 0, .int .i64 0, .int .i64 0, .int .i64 0, .int .i64 0, .slice none 0 0, .slice (some ⟨W3.heap.size, 0, none⟩) N N, .slice none 0 0]) (some ⟨W3.heap.size, 0, none⟩) N (fun _ => 0) :=
    .inr ⟨W3.heap.size, 0, rfl, by rw [setRow_size]; simpa [World.setCell] using r5.lt, fun i hi => (cell_setRow_other _ _ _ _ (show W3.heap.size ≠ w.heap.size + 1 from by have := H3.out.2.2.2; omega)).trans ((cell_far (show W3.heap.size ≠ w.heap.size + 1 + 1 from by have := H3.out.2.2.2; omega) _ _ _ _).trans (by rw [Nat.zero_add]; exact r5.cell i hi))⟩
  refine ⟨⟨{ zeroQV with a2 := some ⟨W3.heap.size, 0, none⟩, d2 := N }, none, 0, ?_, ?_, ?_, ?_, ?_, ?_⟩, ?_⟩
  · rw [hT, hA]; rfl
  · rw [hT]; exact ⟨.inl rfl, Nat.le_refl _, Nat.zero_le _, hh, Nat.le_refl _, hm⟩
  · rw [hA]; exact .inl rfl
  · rw [hA]; exact Nat.le_refl _
  · exact Nat.zero_le _
  · exact Fresh.nil _
  · exact below_setRow (Below.setCell (e3.trans x5) (by simp; omega) _) (by simp) _
theorem reply_any (V : QstV) (Q : Qst) (w : World) (h : rightQ Q = true) : Calls Try.prog 24 #[.agg (qstC V Q)] w (RepP Q w) := by
  obtain ⟨hkn, ho, -, hf⟩ := (rightQ_iff Q).1 h
  have hk := (known_iff Q.k).1 hkn
  have hc1 : Q.k = 1 ∨ Q.k = 2 → 0 ≤ Q.ct ∧ Q.ct ≤ 2000 := fun h => by
    unfold fitsB at hf; rw [if_pos h] at hf; unfold inB at hf; have := of_decide_eq_true hf; omega
  have hc3 : Q.k = 3 ∨ Q.k = 4 → 0 ≤ Q.ct ∧ Q.ct ≤ 2000 := fun h => by
    unfold fitsB at hf; rw [if_neg (by omega), if_pos h] at hf; unfold inB at hf; have := of_decide_eq_true hf; omega
  have hc23 : Q.k = 23 → 0 ≤ Q.mn ∧ Q.mn ≤ 2000 := fun h => by
    unfold fitsB at hf; rw [if_neg (by omega), if_neg (by omega), if_neg (by omega), if_neg (by omega), if_neg (by omega), if_neg (by omega), if_neg (by omega)] at hf; simp only [Bool.and_eq_true, inB, decide_eq_true_iff] at hf; omega
  rcases hk with h | h | h | h | h | h | h | h | h | h
  · exact reply_1 V Q w h (hc1 (.inl h))
  · exact reply_2 V Q w h (hc1 (.inr h))
  · exact reply_3 V Q w h (hc3 (.inl h))
  · exact reply_4 V Q w h (hc3 (.inr h))
  · exact reply_5 V Q w h
  · exact reply_6 V Q w h
  · exact reply_15 V Q w h
  · exact reply_16 V Q w h
  · exact reply_22 V Q w h
  · exact reply_23 V Q w h (hc23 h)
end Go.Proofs.Ytejiafihiielgaa
