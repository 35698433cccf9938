/-
  CONTRACTS: package tell (layer 16): replyTo.
  CONTRACTS: slices.Equal of bytes.
  CONTRACTS: package tell (layer 16): numbers, Same, refuses, Refusal.
  CONTRACTS: package tell (layer 16): Right.
  THE LAWS OF LAYER 17: what must come whatever the input is (package data's contracts and file.New's as premises).
  LAYER 17, PLAIN: what is written is read; written twice; cell by cell; two writes apart.
-/
import Derived.Test.YtlafnobjfajamaaGreatPk13
import Derived.Test.YtlafnobjfajamaaGreatPk6
import Derived.Deep.DeepCutAuto
import Derived.Test.YtlafnobjfajamaaGreatPk1
import Derived.Laws.CopyOwn
import Derived.Laws.Rows
import Derived.Test.YtlafnobjfajamaaGreatPk20
import Derived.BigQuiet
import Derived.Test.YtlafnobjfajamaaGreatPk18
import Derived.Test.YtlafnobjfajamaaGreatPk15
import Derived.Test.YtlafnobjfajamaaGreatPk16
namespace Go.Proofs.YtlafnobjfajamaaGreat
open Go.RowKit
set_option linter.unusedVariables false
set_option maxRecDepth 100000

/-- What answers an ask that is not refused, each cell 0; the numbers that it says again. -/
def replT (Q : Qst) : Tel := wholeT Q Q.ct.toNat (fun _ => false) (if Q.k = 23 then Q.mn.toNat else Q.ct.toNat) (fun _ => 0)
def agN (Q : Qst) : Nat := if Q.k = 5 ∨ Q.k = 6 ∨ Q.k = 15 ∨ Q.k = 16 then 2 else if Q.k = 22 then 3 else 0
def agF (Q : Qst) : Nat → Int := tnumF (replT Q)
def repC (V : QstV) (T : Tel) (a : Option Addr) (n c : Nat) : Array Value := #[.int .i64 T.k, .int .i64 T.cd, .int .i64 T.ad, .int .i64 T.ct, .int .i64 T.va, .int .i64 T.an, .int .i64 T.oo, .slice V.a1 T.nb V.d1, .slice V.a2 T.nr V.d2, .slice a n c]
structure RepP (Q : Qst) (w : World) (e : Ending) (w' : World) : Prop where
  go : ∃ X b q, e = .returned (.agg (repC X (replT Q) b (agN Q) q)) ∧ TelAt w' X (replT Q) ∧ HoldsG (Value.int .i64) w' b (agN Q) (agF Q) ∧ agN Q ≤ q ∧ q ≤ maxLen ∧ Fresh w b
  x : Ext w w'
theorem frozenT {w : World} {B j : Nat} {cs : Array Value} {t : TypeId} (h : w.heap[B]? = some (.cells cs t (0, 0))) : w.frozen? ⟨B, j, none⟩ = false := by simp [World.frozen?, h]
theorem row_held {W : World} {g m : Nat} {cs : Array Value} {t : TypeId} {f : Nat → Int} (hg : W.heap[g]? = some (.cells cs t (0, 0))) (h : ∀ i, i < m → cs[i]? = some (.int .i64 (f i))) : HoldsG (Value.int .i64) W (some ⟨g, 0, none⟩) m f :=
  .inr ⟨g, 0, rfl, heap_lt hg, fun i hi => by rw [Nat.zero_add]; exact cell_of_heap hg (h i hi)⟩

set_option maxHeartbeats 2000000 in
theorem reply_5 (V : QstV) (Q : Qst) (w : World) (hk : Q.k = 5) : Calls Tryz.prog 87 #[.agg (qstC V Q)] w (RepP Q w) := by
  obtain ⟨k, ad, ct, va, an, oo, fr, mn, qb, qB, qr, qR⟩ := Q
  obtain ⟨a1, d1, a2, d2⟩ := V
  simp only at hk
  subst hk
  have hT : replT ⟨5, ad, ct, va, an, oo, fr, mn, qb, qB, qr, qR⟩ = { zeroT with k := 5, ad := ad, va := va } := by unfold replT wholeT; simp (config := { decide := true })
  have hN : agN ⟨5, ad, ct, va, an, oo, fr, mn, qb, qB, qr, qR⟩ = 2 := by unfold agN; simp (config := { decide := true })
  have hF : agF ⟨5, ad, ct, va, an, oo, fr, mn, qb, qB, qr, qR⟩ = (fun i => if i = 0 then ad else va : Nat → Int) := by unfold agF; rw [hT]; unfold tnumF zeroT; funext i; simp (config := { decide := true })
  have H := Lib.hid (And.intro hT (And.intro hN hF))
  clear hT hN hF
  unfold qstC
  dsimp only
  go_enter Tryz.func87, Tryz.ntmps87
  go_upto_region 17 with fail
  go_region
  go_wp2
  refine bodyPost_ret (results_cell_row rfl _ _ (w.heap.size + 1) 131 _ (0, 0) _ rfl ((heap_alloc_old _ _ (by simp)).trans ((heap_alloc_old _ _ (by simp)).trans (heap_new_at _ _ (by simp)))) Tryz.underlying131 rfl (by kernel_rfl)) rfl ?_
  obtain ⟨hT, hN, hF⟩ := H.out
  refine ⟨⟨zeroQV, some ⟨w.heap.size + 1 + 1 + 1, 0, none⟩, 2, ?_, ?_, ?_, ?_, ?_, ?_⟩, ?_⟩
  · rw [hT, hN]; rfl
  · rw [hT]; exact telnone_at _ rfl rfl
  · rw [hN, hF]
    refine row_held (t := 3) (cs := #[.int .i64 ad, .int .i64 va]) (heap_new_at _ _ (by simp)) (fun i hi => ?_)
    have h : i = 0 ∨ i = 1 := by omega
    rcases h with rfl | rfl <;> rfl
  · rw [hN]; exact Nat.le_refl _
  · unfold maxLen; omega
  · intro p hp; cases hp; exact Nat.le_trans (Nat.le_succ _) (Nat.le_trans (Nat.le_succ _) (Nat.le_succ _))
  · exact ((((Ext.alloc w _).trans (Ext.alloc _ _)).trans (Ext.alloc _ _)).trans (Ext.alloc _ _)).trans (Ext.drew _)
set_option maxHeartbeats 2000000 in
theorem reply_6 (V : QstV) (Q : Qst) (w : World) (hk : Q.k = 6) : Calls Tryz.prog 87 #[.agg (qstC V Q)] w (RepP Q w) := by
  obtain ⟨k, ad, ct, va, an, oo, fr, mn, qb, qB, qr, qR⟩ := Q
  obtain ⟨a1, d1, a2, d2⟩ := V
  simp only at hk
  subst hk
  have hT : replT ⟨6, ad, ct, va, an, oo, fr, mn, qb, qB, qr, qR⟩ = { zeroT with k := 6, ad := ad, va := va } := by unfold replT wholeT; simp (config := { decide := true })
  have hN : agN ⟨6, ad, ct, va, an, oo, fr, mn, qb, qB, qr, qR⟩ = 2 := by unfold agN; simp (config := { decide := true })
  have hF : agF ⟨6, ad, ct, va, an, oo, fr, mn, qb, qB, qr, qR⟩ = (fun i => if i = 0 then ad else va : Nat → Int) := by unfold agF; rw [hT]; unfold tnumF zeroT; funext i; simp (config := { decide := true })
  have H := Lib.hid (And.intro hT (And.intro hN hF))
  clear hT hN hF
  unfold qstC
  dsimp only
  go_enter Tryz.func87, Tryz.ntmps87
  go_upto_region 17 with fail
  go_region
  go_wp2
  refine bodyPost_ret (results_cell_row rfl _ _ (w.heap.size + 1) 131 _ (0, 0) _ rfl ((heap_alloc_old _ _ (by simp)).trans ((heap_alloc_old _ _ (by simp)).trans (heap_new_at _ _ (by simp)))) Tryz.underlying131 rfl (by kernel_rfl)) rfl ?_
  obtain ⟨hT, hN, hF⟩ := H.out
  refine ⟨⟨zeroQV, some ⟨w.heap.size + 1 + 1 + 1, 0, none⟩, 2, ?_, ?_, ?_, ?_, ?_, ?_⟩, ?_⟩
  · rw [hT, hN]; rfl
  · rw [hT]; exact telnone_at _ rfl rfl
  · rw [hN, hF]
    refine row_held (t := 3) (cs := #[.int .i64 ad, .int .i64 va]) (heap_new_at _ _ (by simp)) (fun i hi => ?_)
    have h : i = 0 ∨ i = 1 := by omega
    rcases h with rfl | rfl <;> rfl
  · rw [hN]; exact Nat.le_refl _
  · unfold maxLen; omega
  · intro p hp; cases hp; exact Nat.le_trans (Nat.le_succ _) (Nat.le_trans (Nat.le_succ _) (Nat.le_succ _))
  · exact ((((Ext.alloc w _).trans (Ext.alloc _ _)).trans (Ext.alloc _ _)).trans (Ext.alloc _ _)).trans (Ext.drew _)
set_option maxHeartbeats 2000000 in
theorem reply_15 (V : QstV) (Q : Qst) (w : World) (hk : Q.k = 15) : Calls Tryz.prog 87 #[.agg (qstC V Q)] w (RepP Q w) := by
  obtain ⟨k, ad, ct, va, an, oo, fr, mn, qb, qB, qr, qR⟩ := Q
  obtain ⟨a1, d1, a2, d2⟩ := V
  simp only at hk
  subst hk
  have hT : replT ⟨15, ad, ct, va, an, oo, fr, mn, qb, qB, qr, qR⟩ = { zeroT with k := 15, ad := ad, ct := ct } := by unfold replT wholeT; simp (config := { decide := true })
  have hN : agN ⟨15, ad, ct, va, an, oo, fr, mn, qb, qB, qr, qR⟩ = 2 := by unfold agN; simp (config := { decide := true })
  have hF : agF ⟨15, ad, ct, va, an, oo, fr, mn, qb, qB, qr, qR⟩ = (fun i => if i = 0 then ad else ct : Nat → Int) := by unfold agF; rw [hT]; unfold tnumF zeroT; funext i; simp (config := { decide := true })
  have H := Lib.hid (And.intro hT (And.intro hN hF))
  clear hT hN hF
  unfold qstC
  dsimp only
  go_enter Tryz.func87, Tryz.ntmps87
  go_upto_region 19 with fail
  go_region
  go_wp2
  refine bodyPost_ret (results_cell_row rfl _ _ (w.heap.size + 1) 131 _ (0, 0) _ rfl ((heap_alloc_old _ _ (by simp)).trans ((heap_alloc_old _ _ (by simp)).trans (heap_new_at _ _ (by simp)))) Tryz.underlying131 rfl (by kernel_rfl)) rfl ?_
  obtain ⟨hT, hN, hF⟩ := H.out
  refine ⟨⟨zeroQV, some ⟨w.heap.size + 1 + 1 + 1, 0, none⟩, 2, ?_, ?_, ?_, ?_, ?_, ?_⟩, ?_⟩
  · rw [hT, hN]; rfl
  · rw [hT]; exact telnone_at _ rfl rfl
  · rw [hN, hF]
    refine row_held (t := 3) (cs := #[.int .i64 ad, .int .i64 ct]) (heap_new_at _ _ (by simp)) (fun i hi => ?_)
    have h : i = 0 ∨ i = 1 := by omega
    rcases h with rfl | rfl <;> rfl
  · rw [hN]; exact Nat.le_refl _
  · unfold maxLen; omega
  · intro p hp; cases hp; exact Nat.le_trans (Nat.le_succ _) (Nat.le_trans (Nat.le_succ _) (Nat.le_succ _))
  · exact ((((Ext.alloc w _).trans (Ext.alloc _ _)).trans (Ext.alloc _ _)).trans (Ext.alloc _ _)).trans (Ext.drew _)
set_option maxHeartbeats 2000000 in
theorem reply_16 (V : QstV) (Q : Qst) (w : World) (hk : Q.k = 16) : Calls Tryz.prog 87 #[.agg (qstC V Q)] w (RepP Q w) := by
  obtain ⟨k, ad, ct, va, an, oo, fr, mn, qb, qB, qr, qR⟩ := Q
  obtain ⟨a1, d1, a2, d2⟩ := V
  simp only at hk
  subst hk
  have hT : replT ⟨16, ad, ct, va, an, oo, fr, mn, qb, qB, qr, qR⟩ = { zeroT with k := 16, ad := ad, ct := ct } := by unfold replT wholeT; simp (config := { decide := true })
  have hN : agN ⟨16, ad, ct, va, an, oo, fr, mn, qb, qB, qr, qR⟩ = 2 := by unfold agN; simp (config := { decide := true })
  have hF : agF ⟨16, ad, ct, va, an, oo, fr, mn, qb, qB, qr, qR⟩ = (fun i => if i = 0 then ad else ct : Nat → Int) := by unfold agF; rw [hT]; unfold tnumF zeroT; funext i; simp (config := { decide := true })
  have H := Lib.hid (And.intro hT (And.intro hN hF))
  clear hT hN hF
  unfold qstC
  dsimp only
  go_enter Tryz.func87, Tryz.ntmps87
  go_upto_region 19 with fail
  go_region
  go_wp2
  refine bodyPost_ret (results_cell_row rfl _ _ (w.heap.size + 1) 131 _ (0, 0) _ rfl ((heap_alloc_old _ _ (by simp)).trans ((heap_alloc_old _ _ (by simp)).trans (heap_new_at _ _ (by simp)))) Tryz.underlying131 rfl (by kernel_rfl)) rfl ?_
  obtain ⟨hT, hN, hF⟩ := H.out
  refine ⟨⟨zeroQV, some ⟨w.heap.size + 1 + 1 + 1, 0, none⟩, 2, ?_, ?_, ?_, ?_, ?_, ?_⟩, ?_⟩
  · rw [hT, hN]; rfl
  · rw [hT]; exact telnone_at _ rfl rfl
  · rw [hN, hF]
    refine row_held (t := 3) (cs := #[.int .i64 ad, .int .i64 ct]) (heap_new_at _ _ (by simp)) (fun i hi => ?_)
    have h : i = 0 ∨ i = 1 := by omega
    rcases h with rfl | rfl <;> rfl
  · rw [hN]; exact Nat.le_refl _
  · unfold maxLen; omega
  · intro p hp; cases hp; exact Nat.le_trans (Nat.le_succ _) (Nat.le_trans (Nat.le_succ _) (Nat.le_succ _))
  · exact ((((Ext.alloc w _).trans (Ext.alloc _ _)).trans (Ext.alloc _ _)).trans (Ext.alloc _ _)).trans (Ext.drew _)
set_option maxHeartbeats 2000000 in
theorem reply_22 (V : QstV) (Q : Qst) (w : World) (hk : Q.k = 22) : Calls Tryz.prog 87 #[.agg (qstC V Q)] w (RepP Q w) := by
  obtain ⟨k, ad, ct, va, an, oo, fr, mn, qb, qB, qr, qR⟩ := Q
  obtain ⟨a1, d1, a2, d2⟩ := V
  simp only at hk
  subst hk
  have hT : replT ⟨22, ad, ct, va, an, oo, fr, mn, qb, qB, qr, qR⟩ = { zeroT with k := 22, ad := ad, an := an, oo := oo } := by unfold replT wholeT; simp (config := { decide := true })
  have hN : agN ⟨22, ad, ct, va, an, oo, fr, mn, qb, qB, qr, qR⟩ = 3 := by unfold agN; simp (config := { decide := true })
  have hF : agF ⟨22, ad, ct, va, an, oo, fr, mn, qb, qB, qr, qR⟩ = (fun i => if i = 0 then ad else if i = 1 then an else oo : Nat → Int) := by unfold agF; rw [hT]; unfold tnumF zeroT; funext i; simp (config := { decide := true })
  have H := Lib.hid (And.intro hT (And.intro hN hF))
  clear hT hN hF
  unfold qstC
  dsimp only
  go_enter Tryz.func87, Tryz.ntmps87
  go_upto_region 21 with fail
  go_region
  go_wp2
  refine bodyPost_ret (results_cell_row rfl _ _ (w.heap.size + 1) 131 _ (0, 0) _ rfl ((heap_alloc_old _ _ (by simp)).trans ((heap_alloc_old _ _ (by simp)).trans (heap_new_at _ _ (by simp)))) Tryz.underlying131 rfl (by kernel_rfl)) rfl ?_
  obtain ⟨hT, hN, hF⟩ := H.out
  refine ⟨⟨zeroQV, some ⟨w.heap.size + 1 + 1 + 1, 0, none⟩, 3, ?_, ?_, ?_, ?_, ?_, ?_⟩, ?_⟩
  · rw [hT, hN]; rfl
  · rw [hT]; exact telnone_at _ rfl rfl
  · rw [hN, hF]
    refine row_held (t := 3) (cs := #[.int .i64 ad, .int .i64 an, .int .i64 oo]) (heap_new_at _ _ (by simp)) (fun i hi => ?_)
    have h : i = 0 ∨ i = 1 ∨ i = 2 := by omega
    rcases h with rfl | rfl | rfl <;> rfl
  · rw [hN]; exact Nat.le_refl _
  · unfold maxLen; omega
  · intro p hp; cases hp; exact Nat.le_trans (Nat.le_succ _) (Nat.le_trans (Nat.le_succ _) (Nat.le_succ _))
  · exact ((((Ext.alloc w _).trans (Ext.alloc _ _)).trans (Ext.alloc _ _)).trans (Ext.alloc _ _)).trans (Ext.drew _)
set_option maxHeartbeats 2000000 in
theorem reply_1 (V : QstV) (Q : Qst) (w : World) (hk : Q.k = 1) (hn : 0 ≤ Q.ct ∧ Q.ct ≤ 2000) : Calls Tryz.prog 87 #[.agg (qstC V Q)] w (RepP Q w) := by
  obtain ⟨i0, hi0, hz0, hz1, hz2⟩ := info_parts Tryz.infoB
  obtain ⟨k, ad, ct, va, an, oo, fr, mn, qb, qB, qr, qR⟩ := Q
  obtain ⟨a1, d1, a2, d2⟩ := V
  simp only at hk
  subst hk
  simp only at hn
  obtain ⟨N, rfl⟩ : ∃ N : Nat, ct = N := ⟨ct.toNat, by omega⟩
  have hN2 : N ≤ 2000 := by omega
  have hm : N ≤ maxLen := by unfold maxLen; omega
  have hT : replT ⟨1, ad, (N : Int), va, an, oo, fr, mn, qb, qB, qr, qR⟩ = { zeroT with k := 1, nb := N, B := fun _ => false } := by unfold replT wholeT; simp (config := { decide := true })
  have hA : agN ⟨1, ad, (N : Int), va, an, oo, fr, mn, qb, qB, qr, qR⟩ = 0 := by unfold agN; simp (config := { decide := true })
  have H := Lib.hid (And.intro hT hA)
  clear hT hA hn
  unfold qstC
  dsimp only
  obtain ⟨W3, hW3, e3, H3⟩ : ∃ W3, W3 = ((w.alloc (.cells #[.int .i64 1, .int .i64 ad, .int .i64 N, .int .i64 va, .int .i64 an, .int .i64 oo, .int .i64 fr, .int .i64 mn, .slice a1 qb d1, .slice a2 qr d2] 31)).alloc (.cells #[.int .i64 0, .int .i64 0, .int .i64 0, .int .i64 0, .int .i64 0, .int .i64 0, .int .i64 0, .slice none 0 0, .slice none 0 0, .slice none 0 0] 131)).alloc (.cells #[.int .i64 1, .int .i64 0, .int .i64 0, .int .i64 0, .int .i64 0, .int .i64 0, .int .i64 0, .slice none 0 0, .slice none 0 0, .slice none 0 0] 131) ∧ Ext w W3 ∧ Hid (W3.heap[w.heap.size]? = some (.cells #[.int .i64 1, .int .i64 ad, .int .i64 N, .int .i64 va, .int .i64 an, .int .i64 oo, .int .i64 fr, .int .i64 mn, .slice a1 qb d1, .slice a2 qr d2] 31 (0, 0)) ∧ W3.heap[w.heap.size + 1]? = some (.cells #[.int .i64 0, .int .i64 0, .int .i64 0, .int .i64 0, .int .i64 0, .int .i64 0, .int .i64 0, .slice none 0 0, .slice none 0 0, .slice none 0 0] 131 (0, 0)) ∧ W3.heap[w.heap.size + 1 + 1]? = some (.cells #[.int .i64 1, .int .i64 0, .int .i64 0, .int .i64 0, .int .i64 0, .int .i64 0, .int .i64 0, .slice none 0 0, .slice none 0 0, .slice none 0 0] 131 (0, 0)) ∧ w.heap.size + 1 + 1 < W3.heap.size) :=
    ⟨_, rfl, ((Ext.alloc w _).trans (Ext.alloc _ _)).trans (Ext.alloc _ _), Lib.hid ⟨(heap_alloc_old _ _ (by simp; omega)).trans ((heap_alloc_old _ _ (by simp)).trans (heap_new_at _ _ (by simp))), (heap_alloc_old _ _ (by simp)).trans (heap_new_at _ _ (by simp)), heap_new_at _ _ (by simp), by simp⟩⟩
  have c3 : W3.cell? ⟨w.heap.size, 2, none⟩ = some (.int .i64 N) := cell_of_heap H3.out.1 rfl
  go_enter Tryz.func87, Tryz.ntmps87
  go_upto_region 14 with fail
  rw [← hW3]
  clear hW3
  go_wp2_with (first
    | (at_make; refine wpList_make_full _ rfl _ _ 26 rfl W3.heap.size 4 i0 (.bool false) 1 Tryz.underlying26 hi0 hz0 hz1 .i64 .i64 N N N rfl rfl rfl rfl (by rw [hz2]; omega) hm (Nat.le_refl _) ?_; intro w5 hown5 hgrow5; have r5 : Row Value.bool 4 w5 W3.heap.size N (fun _ => false) := Row.made hown5; have x5 : Ext W3 w5 := (Below.refl _ _).grown hgrow5 (Nat.le_refl _) (fun k hk => by cases hk); have gR := x5.block H3.out.2.2.1; have gZ := x5.block H3.out.2.1; have hlt := H3.out.2.2.2; have p7 : w5.cell? ⟨w.heap.size + 1 + 1, 7, none⟩ = some (.slice none 0 0) := cell_of_heap gR rfl; have q7 : w5.frozen? ⟨w.heap.size + 1 + 1, 7, none⟩ = false := frozenT gR)
    | (refine wpList_load_row rfl 131 (.tmp 3) rfl (w.heap.size + 1 + 1) rfl 131 #[.int .i64 1, .int .i64 0, .int .i64 0, .int .i64 0, .int .i64 0, .int .i64 0, .int .i64 0, .slice (some ⟨W3.heap.size, 0, none⟩) N N, .slice none 0 0, .slice none 0 0] (0, 0) _ ((heap_setCell_same w5 (w.heap.size + 1 + 1) 7 _ _ _ gR).trans (by rfl)) Tryz.underlying131 rfl (by kernel_rfl) ?_)
    | (refine wpList_store_row rfl 131 (.tmp 2) (.tmp 98) rfl (w.heap.size + 1) _ rfl rfl 131 #[.int .i64 0, .int .i64 0, .int .i64 0, .int .i64 0, .int .i64 0, .int .i64 0, .int .i64 0, .slice none 0 0, .slice none 0 0, .slice none 0 0] ((heap_setCell_other _ _ _ _ (by simp)).trans gZ) (by kernel_rfl) rfl (by simp [Value.oneCell']) ?_))
  refine bodyPost_ret (results_cell_row rfl _ _ (w.heap.size + 1) 131 _ (0, 0) _ rfl (setRow_heap _ _ _ _ _ _ ((heap_setCell_other _ _ _ _ (by simp)).trans gZ)) Tryz.underlying131 rfl (by kernel_rfl)) rfl ?_
  obtain ⟨hT, hA⟩ := H.out
  have hh : HoldsG Value.bool ((w5.setCell ⟨w.heap.size + 1 + 1, 7, none⟩ (.slice (some ⟨W3.heap.size, 0, none⟩) N N)).setRow (w.heap.size + 1) #[.int .i64 1, .int .i64 0, .int .i64 0, .int .i64 0, .int .i64 0, .int .i64 0, .int .i64 0, .slice (some ⟨W3.heap.size, 0, none⟩) N N, .slice none 0 0, .slice none 0 0]) (some ⟨W3.heap.size, 0, none⟩) N (fun _ => false) :=
    .inr ⟨W3.heap.size, 0, rfl, by rw [setRow_size]; simpa [World.setCell] using r5.lt, fun i hi => (cell_setRow_other _ _ _ _ (show W3.heap.size ≠ w.heap.size + 1 from by have := H3.out.2.2.2; omega)).trans ((cell_far (show W3.heap.size ≠ w.heap.size + 1 + 1 from by have := H3.out.2.2.2; omega) _ _ _ _).trans (by rw [Nat.zero_add]; exact r5.cell i hi))⟩
  refine ⟨⟨{ zeroQV with a1 := some ⟨W3.heap.size, 0, none⟩, d1 := N }, none, 0, ?_, ?_, ?_, ?_, ?_, ?_⟩, ?_⟩
  · rw [hT, hA]; rfl
  · rw [hT]; exact ⟨hh, Nat.le_refl _, hm, .inl rfl, Nat.le_refl _, Nat.zero_le _⟩
  · rw [hA]; exact .inl rfl
  · rw [hA]; exact Nat.le_refl _
  · exact Nat.zero_le _
  · exact Fresh.nil _
  · exact below_setRow (Below.setCell (e3.trans x5) (by simp; omega) _) (by simp) _
set_option maxHeartbeats 2000000 in
theorem reply_2 (V : QstV) (Q : Qst) (w : World) (hk : Q.k = 2) (hn : 0 ≤ Q.ct ∧ Q.ct ≤ 2000) : Calls Tryz.prog 87 #[.agg (qstC V Q)] w (RepP Q w) := by
  obtain ⟨i0, hi0, hz0, hz1, hz2⟩ := info_parts Tryz.infoB
  obtain ⟨k, ad, ct, va, an, oo, fr, mn, qb, qB, qr, qR⟩ := Q
  obtain ⟨a1, d1, a2, d2⟩ := V
  simp only at hk
  subst hk
  simp only at hn
  obtain ⟨N, rfl⟩ : ∃ N : Nat, ct = N := ⟨ct.toNat, by omega⟩
  have hN2 : N ≤ 2000 := by omega
  have hm : N ≤ maxLen := by unfold maxLen; omega
  have hT : replT ⟨2, ad, (N : Int), va, an, oo, fr, mn, qb, qB, qr, qR⟩ = { zeroT with k := 2, nb := N, B := fun _ => false } := by unfold replT wholeT; simp (config := { decide := true })
  have hA : agN ⟨2, ad, (N : Int), va, an, oo, fr, mn, qb, qB, qr, qR⟩ = 0 := by unfold agN; simp (config := { decide := true })
  have H := Lib.hid (And.intro hT hA)
  clear hT hA hn
  unfold qstC
  dsimp only
  obtain ⟨W3, hW3, e3, H3⟩ : ∃ W3, W3 = ((w.alloc (.cells #[.int .i64 2, .int .i64 ad, .int .i64 N, .int .i64 va, .int .i64 an, .int .i64 oo, .int .i64 fr, .int .i64 mn, .slice a1 qb d1, .slice a2 qr d2] 31)).alloc (.cells #[.int .i64 0, .int .i64 0, .int .i64 0, .int .i64 0, .int .i64 0, .int .i64 0, .int .i64 0, .slice none 0 0, .slice none 0 0, .slice none 0 0] 131)).alloc (.cells #[.int .i64 2, .int .i64 0, .int .i64 0, .int .i64 0, .int .i64 0, .int .i64 0, .int .i64 0, .slice none 0 0, .slice none 0 0, .slice none 0 0] 131) ∧ Ext w W3 ∧ Hid (W3.heap[w.heap.size]? = some (.cells #[.int .i64 2, .int .i64 ad, .int .i64 N, .int .i64 va, .int .i64 an, .int .i64 oo, .int .i64 fr, .int .i64 mn, .slice a1 qb d1, .slice a2 qr d2] 31 (0, 0)) ∧ W3.heap[w.heap.size + 1]? = some (.cells #[.int .i64 0, .int .i64 0, .int .i64 0, .int .i64 0, .int .i64 0, .int .i64 0, .int .i64 0, .slice none 0 0, .slice none 0 0, .slice none 0 0] 131 (0, 0)) ∧ W3.heap[w.heap.size + 1 + 1]? = some (.cells #[.int .i64 2, .int .i64 0, .int .i64 0, .int .i64 0, .int .i64 0, .int .i64 0, .int .i64 0, .slice none 0 0, .slice none 0 0, .slice none 0 0] 131 (0, 0)) ∧ w.heap.size + 1 + 1 < W3.heap.size) :=
    ⟨_, rfl, ((Ext.alloc w _).trans (Ext.alloc _ _)).trans (Ext.alloc _ _), Lib.hid ⟨(heap_alloc_old _ _ (by simp; omega)).trans ((heap_alloc_old _ _ (by simp)).trans (heap_new_at _ _ (by simp))), (heap_alloc_old _ _ (by simp)).trans (heap_new_at _ _ (by simp)), heap_new_at _ _ (by simp), by simp⟩⟩
  have c3 : W3.cell? ⟨w.heap.size, 2, none⟩ = some (.int .i64 N) := cell_of_heap H3.out.1 rfl
  go_enter Tryz.func87, Tryz.ntmps87
  go_upto_region 14 with fail
  rw [← hW3]
  clear hW3
  go_wp2_with (first
    | (at_make; refine wpList_make_full _ rfl _ _ 26 rfl W3.heap.size 4 i0 (.bool false) 1 Tryz.underlying26 hi0 hz0 hz1 .i64 .i64 N N N rfl rfl rfl rfl (by rw [hz2]; omega) hm (Nat.le_refl _) ?_; intro w5 hown5 hgrow5; have r5 : Row Value.bool 4 w5 W3.heap.size N (fun _ => false) := Row.made hown5; have x5 : Ext W3 w5 := (Below.refl _ _).grown hgrow5 (Nat.le_refl _) (fun k hk => by cases hk); have gR := x5.block H3.out.2.2.1; have gZ := x5.block H3.out.2.1; have hlt := H3.out.2.2.2; have p7 : w5.cell? ⟨w.heap.size + 1 + 1, 7, none⟩ = some (.slice none 0 0) := cell_of_heap gR rfl; have q7 : w5.frozen? ⟨w.heap.size + 1 + 1, 7, none⟩ = false := frozenT gR)
    | (refine wpList_load_row rfl 131 (.tmp 3) rfl (w.heap.size + 1 + 1) rfl 131 #[.int .i64 2, .int .i64 0, .int .i64 0, .int .i64 0, .int .i64 0, .int .i64 0, .int .i64 0, .slice (some ⟨W3.heap.size, 0, none⟩) N N, .slice none 0 0, .slice none 0 0] (0, 0) _ ((heap_setCell_same w5 (w.heap.size + 1 + 1) 7 _ _ _ gR).trans (by rfl)) Tryz.underlying131 rfl (by kernel_rfl) ?_)
    | (refine wpList_store_row rfl 131 (.tmp 2) (.tmp 98) rfl (w.heap.size + 1) _ rfl rfl 131 #[.int .i64 0, .int .i64 0, .int .i64 0, .int .i64 0, .int .i64 0, .int .i64 0, .int .i64 0, .slice none 0 0, .slice none 0 0, .slice none 0 0] ((heap_setCell_other _ _ _ _ (by simp)).trans gZ) (by kernel_rfl) rfl (by simp [Value.oneCell']) ?_))
  refine bodyPost_ret (results_cell_row rfl _ _ (w.heap.size + 1) 131 _ (0, 0) _ rfl (setRow_heap _ _ _ _ _ _ ((heap_setCell_other _ _ _ _ (by simp)).trans gZ)) Tryz.underlying131 rfl (by kernel_rfl)) rfl ?_
  obtain ⟨hT, hA⟩ := H.out
  have hh : HoldsG Value.bool ((w5.setCell ⟨w.heap.size + 1 + 1, 7, none⟩ (.slice (some ⟨W3.heap.size, 0, none⟩) N N)).setRow (w.heap.size + 1) #[.int .i64 2, .int .i64 0, .int .i64 0, .int .i64 0, .int .i64 0, .int .i64 0, .int .i64 0, .slice (some ⟨W3.heap.size, 0, none⟩) N N, .slice none 0 0, .slice none 0 0]) (some ⟨W3.heap.size, 0, none⟩) N (fun _ => false) :=
    .inr ⟨W3.heap.size, 0, rfl, by rw [setRow_size]; simpa [World.setCell] using r5.lt, fun i hi => (cell_setRow_other _ _ _ _ (show W3.heap.size ≠ w.heap.size + 1 from by have := H3.out.2.2.2; omega)).trans ((cell_far (show W3.heap.size ≠ w.heap.size + 1 + 1 from by have := H3.out.2.2.2; omega) _ _ _ _).trans (by rw [Nat.zero_add]; exact r5.cell i hi))⟩
  refine ⟨⟨{ zeroQV with a1 := some ⟨W3.heap.size, 0, none⟩, d1 := N }, none, 0, ?_, ?_, ?_, ?_, ?_, ?_⟩, ?_⟩
  · rw [hT, hA]; rfl
  · rw [hT]; exact ⟨hh, Nat.le_refl _, hm, .inl rfl, Nat.le_refl _, Nat.zero_le _⟩
  · rw [hA]; exact .inl rfl
  · rw [hA]; exact Nat.le_refl _
  · exact Nat.zero_le _
  · exact Fresh.nil _
  · exact below_setRow (Below.setCell (e3.trans x5) (by simp; omega) _) (by simp) _
set_option maxHeartbeats 2000000 in
theorem reply_3 (V : QstV) (Q : Qst) (w : World) (hk : Q.k = 3) (hn : 0 ≤ Q.ct ∧ Q.ct ≤ 2000) : Calls Tryz.prog 87 #[.agg (qstC V Q)] w (RepP Q w) := by
  obtain ⟨i0, hi0, hz0, hz1, hz2⟩ := info_parts Tryz.info16
  obtain ⟨k, ad, ct, va, an, oo, fr, mn, qb, qB, qr, qR⟩ := Q
  obtain ⟨a1, d1, a2, d2⟩ := V
  simp only at hk
  subst hk
  simp only at hn
  obtain ⟨N, rfl⟩ : ∃ N : Nat, ct = N := ⟨ct.toNat, by omega⟩
  have hN2 : N ≤ 2000 := by omega
  have hm : N ≤ maxLen := by unfold maxLen; omega
  have hT : replT ⟨3, ad, (N : Int), va, an, oo, fr, mn, qb, qB, qr, qR⟩ = { zeroT with k := 3, nr := N, R := fun _ => 0 } := by unfold replT wholeT; simp (config := { decide := true })
  have hA : agN ⟨3, ad, (N : Int), va, an, oo, fr, mn, qb, qB, qr, qR⟩ = 0 := by unfold agN; simp (config := { decide := true })
  have H := Lib.hid (And.intro hT hA)
  clear hT hA hn
  unfold qstC
  dsimp only
  obtain ⟨W3, hW3, e3, H3⟩ : ∃ W3, W3 = ((w.alloc (.cells #[.int .i64 3, .int .i64 ad, .int .i64 N, .int .i64 va, .int .i64 an, .int .i64 oo, .int .i64 fr, .int .i64 mn, .slice a1 qb d1, .slice a2 qr d2] 31)).alloc (.cells #[.int .i64 0, .int .i64 0, .int .i64 0, .int .i64 0, .int .i64 0, .int .i64 0, .int .i64 0, .slice none 0 0, .slice none 0 0, .slice none 0 0] 131)).alloc (.cells #[.int .i64 3, .int .i64 0, .int .i64 0, .int .i64 0, .int .i64 0, .int .i64 0, .int .i64 0, .slice none 0 0, .slice none 0 0, .slice none 0 0] 131) ∧ Ext w W3 ∧ Hid (W3.heap[w.heap.size]? = some (.cells #[.int .i64 3, .int .i64 ad, .int .i64 N, .int .i64 va, .int .i64 an, .int .i64 oo, .int .i64 fr, .int .i64 mn, .slice a1 qb d1, .slice a2 qr d2] 31 (0, 0)) ∧ W3.heap[w.heap.size + 1]? = some (.cells #[.int .i64 0, .int .i64 0, .int .i64 0, .int .i64 0, .int .i64 0, .int .i64 0, .int .i64 0, .slice none 0 0, .slice none 0 0, .slice none 0 0] 131 (0, 0)) ∧ W3.heap[w.heap.size + 1 + 1]? = some (.cells #[.int .i64 3, .int .i64 0, .int .i64 0, .int .i64 0, .int .i64 0, .int .i64 0, .int .i64 0, .slice none 0 0, .slice none 0 0, .slice none 0 0] 131 (0, 0)) ∧ w.heap.size + 1 + 1 < W3.heap.size) :=
    ⟨_, rfl, ((Ext.alloc w _).trans (Ext.alloc _ _)).trans (Ext.alloc _ _), Lib.hid ⟨(heap_alloc_old _ _ (by simp; omega)).trans ((heap_alloc_old _ _ (by simp)).trans (heap_new_at _ _ (by simp))), (heap_alloc_old _ _ (by simp)).trans (heap_new_at _ _ (by simp)), heap_new_at _ _ (by simp), by simp⟩⟩
  have c3 : W3.cell? ⟨w.heap.size, 2, none⟩ = some (.int .i64 N) := cell_of_heap H3.out.1 rfl
  go_enter Tryz.func87, Tryz.ntmps87
  go_upto_region 16 with fail
  rw [← hW3]
  clear hW3
  go_wp2_with (first
    | (at_make; refine wpList_make_full _ rfl _ _ 27 rfl W3.heap.size 59 i0 (.int .u16 0) 1 Tryz.underlying27 hi0 hz0 hz1 .i64 .i64 N N N rfl rfl rfl rfl (by rw [hz2]; omega) hm (Nat.le_refl _) ?_; intro w5 hown5 hgrow5; have r5 : Row (Value.int .u16) 59 w5 W3.heap.size N (fun _ => 0) := Row.made hown5; have x5 : Ext W3 w5 := (Below.refl _ _).grown hgrow5 (Nat.le_refl _) (fun k hk => by cases hk); have gR := x5.block H3.out.2.2.1; have gZ := x5.block H3.out.2.1; have hlt := H3.out.2.2.2; have p7 : w5.cell? ⟨w.heap.size + 1 + 1, 8, none⟩ = some (.slice none 0 0) := cell_of_heap gR rfl; have q7 : w5.frozen? ⟨w.heap.size + 1 + 1, 8, none⟩ = false := frozenT gR)
    | (refine wpList_load_row rfl 131 (.tmp 3) rfl (w.heap.size + 1 + 1) rfl 131 #[.int .i64 3, .int .i64 0, .int .i64 0, .int .i64 0, .int .i64 0, .int .i64 0, .int .i64 0, .slice none 0 0, .slice (some ⟨W3.heap.size, 0, none⟩) N N, .slice none 0 0] (0, 0) _ ((heap_setCell_same w5 (w.heap.size + 1 + 1) 8 _ _ _ gR).trans (by rfl)) Tryz.underlying131 rfl (by kernel_rfl) ?_)
    | (refine wpList_store_row rfl 131 (.tmp 2) (.tmp 98) rfl (w.heap.size + 1) _ rfl rfl 131 #[.int .i64 0, .int .i64 0, .int .i64 0, .int .i64 0, .int .i64 0, .int .i64 0, .int .i64 0, .slice none 0 0, .slice none 0 0, .slice none 0 0] ((heap_setCell_other _ _ _ _ (by simp)).trans gZ) (by kernel_rfl) rfl (by simp [Value.oneCell']) ?_))
  refine bodyPost_ret (results_cell_row rfl _ _ (w.heap.size + 1) 131 _ (0, 0) _ rfl (setRow_heap _ _ _ _ _ _ ((heap_setCell_other _ _ _ _ (by simp)).trans gZ)) Tryz.underlying131 rfl (by kernel_rfl)) rfl ?_
  obtain ⟨hT, hA⟩ := H.out
  have hh : HoldsG (Value.int .u16) ((w5.setCell ⟨w.heap.size + 1 + 1, 8, none⟩ (.slice (some ⟨W3.heap.size, 0, none⟩) N N)).setRow (w.heap.size + 1) #[.int .i64 3, .int .i64 0, .int .i64 0, .int .i64 0, .int .i64 0, .int .i64 0, .int .i64 0, .slice none 0 0, .slice (some ⟨W3.heap.size, 0, none⟩) N N, .slice none 0 0]) (some ⟨W3.heap.size, 0, none⟩) N (fun _ => 0) :=
    .inr ⟨W3.heap.size, 0, rfl, by rw [setRow_size]; simpa [World.setCell] using r5.lt, fun i hi => (cell_setRow_other _ _ _ _ (show W3.heap.size ≠ w.heap.size + 1 from by have := H3.out.2.2.2; omega)).trans ((cell_far (show W3.heap.size ≠ w.heap.size + 1 + 1 from by have := H3.out.2.2.2; omega) _ _ _ _).trans (by rw [Nat.zero_add]; exact r5.cell i hi))⟩
  refine ⟨⟨{ zeroQV with a2 := some ⟨W3.heap.size, 0, none⟩, d2 := N }, none, 0, ?_, ?_, ?_, ?_, ?_, ?_⟩, ?_⟩
  · rw [hT, hA]; rfl
  · rw [hT]; exact ⟨.inl rfl, Nat.le_refl _, Nat.zero_le _, hh, Nat.le_refl _, hm⟩
  · rw [hA]; exact .inl rfl
  · rw [hA]; exact Nat.le_refl _
  · exact Nat.zero_le _
  · exact Fresh.nil _
  · exact below_setRow (Below.setCell (e3.trans x5) (by simp; omega) _) (by simp) _
set_option maxHeartbeats 2000000 in
theorem reply_4 (V : QstV) (Q : Qst) (w : World) (hk : Q.k = 4) (hn : 0 ≤ Q.ct ∧ Q.ct ≤ 2000) : Calls Tryz.prog 87 #[.agg (qstC V Q)] w (RepP Q w) := by
  obtain ⟨i0, hi0, hz0, hz1, hz2⟩ := info_parts Tryz.info16
  obtain ⟨k, ad, ct, va, an, oo, fr, mn, qb, qB, qr, qR⟩ := Q
  obtain ⟨a1, d1, a2, d2⟩ := V
  simp only at hk
  subst hk
  simp only at hn
  obtain ⟨N, rfl⟩ : ∃ N : Nat, ct = N := ⟨ct.toNat, by omega⟩
  have hN2 : N ≤ 2000 := by omega
  have hm : N ≤ maxLen := by unfold maxLen; omega
  have hT : replT ⟨4, ad, (N : Int), va, an, oo, fr, mn, qb, qB, qr, qR⟩ = { zeroT with k := 4, nr := N, R := fun _ => 0 } := by unfold replT wholeT; simp (config := { decide := true })
  have hA : agN ⟨4, ad, (N : Int), va, an, oo, fr, mn, qb, qB, qr, qR⟩ = 0 := by unfold agN; simp (config := { decide := true })
  have H := Lib.hid (And.intro hT hA)
  clear hT hA hn
  unfold qstC
  dsimp only
  obtain ⟨W3, hW3, e3, H3⟩ : ∃ W3, W3 = ((w.alloc (.cells #[.int .i64 4, .int .i64 ad, .int .i64 N, .int .i64 va, .int .i64 an, .int .i64 oo, .int .i64 fr, .int .i64 mn, .slice a1 qb d1, .slice a2 qr d2] 31)).alloc (.cells #[.int .i64 0, .int .i64 0, .int .i64 0, .int .i64 0, .int .i64 0, .int .i64 0, .int .i64 0, .slice none 0 0, .slice none 0 0, .slice none 0 0] 131)).alloc (.cells #[.int .i64 4, .int .i64 0, .int .i64 0, .int .i64 0, .int .i64 0, .int .i64 0, .int .i64 0, .slice none 0 0, .slice none 0 0, .slice none 0 0] 131) ∧ Ext w W3 ∧ Hid (W3.heap[w.heap.size]? = some (.cells #[.int .i64 4, .int .i64 ad, .int .i64 N, .int .i64 va, .int .i64 an, .int .i64 oo, .int .i64 fr, .int .i64 mn, .slice a1 qb d1, .slice a2 qr d2] 31 (0, 0)) ∧ W3.heap[w.heap.size + 1]? = some (.cells #[.int .i64 0, .int .i64 0, .int .i64 0, .int .i64 0, .int .i64 0, .int .i64 0, .int .i64 0, .slice none 0 0, .slice none 0 0, .slice none 0 0] 131 (0, 0)) ∧ W3.heap[w.heap.size + 1 + 1]? = some (.cells #[.int .i64 4, .int .i64 0, .int .i64 0, .int .i64 0, .int .i64 0, .int .i64 0, .int .i64 0, .slice none 0 0, .slice none 0 0, .slice none 0 0] 131 (0, 0)) ∧ w.heap.size + 1 + 1 < W3.heap.size) :=
    ⟨_, rfl, ((Ext.alloc w _).trans (Ext.alloc _ _)).trans (Ext.alloc _ _), Lib.hid ⟨(heap_alloc_old _ _ (by simp; omega)).trans ((heap_alloc_old _ _ (by simp)).trans (heap_new_at _ _ (by simp))), (heap_alloc_old _ _ (by simp)).trans (heap_new_at _ _ (by simp)), heap_new_at _ _ (by simp), by simp⟩⟩
  have c3 : W3.cell? ⟨w.heap.size, 2, none⟩ = some (.int .i64 N) := cell_of_heap H3.out.1 rfl
  go_enter Tryz.func87, Tryz.ntmps87
  go_upto_region 16 with fail
  rw [← hW3]
  clear hW3
  go_wp2_with (first
    | (at_make; refine wpList_make_full _ rfl _ _ 27 rfl W3.heap.size 59 i0 (.int .u16 0) 1 Tryz.underlying27 hi0 hz0 hz1 .i64 .i64 N N N rfl rfl rfl rfl (by rw [hz2]; omega) hm (Nat.le_refl _) ?_; intro w5 hown5 hgrow5; have r5 : Row (Value.int .u16) 59 w5 W3.heap.size N (fun _ => 0) := Row.made hown5; have x5 : Ext W3 w5 := (Below.refl _ _).grown hgrow5 (Nat.le_refl _) (fun k hk => by cases hk); have gR := x5.block H3.out.2.2.1; have gZ := x5.block H3.out.2.1; have hlt := H3.out.2.2.2; have p7 : w5.cell? ⟨w.heap.size + 1 + 1, 8, none⟩ = some (.slice none 0 0) := cell_of_heap gR rfl; have q7 : w5.frozen? ⟨w.heap.size + 1 + 1, 8, none⟩ = false := frozenT gR)
    | (refine wpList_load_row rfl 131 (.tmp 3) rfl (w.heap.size + 1 + 1) rfl 131 #[.int .i64 4, .int .i64 0, .int .i64 0, .int .i64 0, .int .i64 0, .int .i64 0, .int .i64 0, .slice none 0 0, .slice (some ⟨W3.heap.size, 0, none⟩) N N, .slice none 0 0] (0, 0) _ ((heap_setCell_same w5 (w.heap.size + 1 + 1) 8 _ _ _ gR).trans (by rfl)) Tryz.underlying131 rfl (by kernel_rfl) ?_)
    | (refine wpList_store_row rfl 131 (.tmp 2) (.tmp 98) rfl (w.heap.size + 1) _ rfl rfl 131 #[.int .i64 0, .int .i64 0, .int .i64 0, .int .i64 0, .int .i64 0, .int .i64 0, .int .i64 0, .slice none 0 0, .slice none 0 0, .slice none 0 0] ((heap_setCell_other _ _ _ _ (by simp)).trans gZ) (by kernel_rfl) rfl (by simp [Value.oneCell']) ?_))
  refine bodyPost_ret (results_cell_row rfl _ _ (w.heap.size + 1) 131 _ (0, 0) _ rfl (setRow_heap _ _ _ _ _ _ ((heap_setCell_other _ _ _ _ (by simp)).trans gZ)) Tryz.underlying131 rfl (by kernel_rfl)) rfl ?_
  obtain ⟨hT, hA⟩ := H.out
  have hh : HoldsG (Value.int .u16) ((w5.setCell ⟨w.heap.size + 1 + 1, 8, none⟩ (.slice (some ⟨W3.heap.size, 0, none⟩) N N)).setRow (w.heap.size + 1) #[.int .i64 4, .int .i64 0, .int .i64 0, .int .i64 0, .int .i64 0, .int .i64 0, .int .i64 0, .slice none 0 0, .slice (some ⟨W3.heap.size, 0, none⟩) N N, .slice none 0 0]) (some ⟨W3.heap.size, 0, none⟩) N (fun _ => 0) :=
    .inr ⟨W3.heap.size, 0, rfl, by rw [setRow_size]; simpa [World.setCell] using r5.lt, fun i hi => (cell_setRow_other _ _ _ _ (show W3.heap.size ≠ w.heap.size + 1 from by have := H3.out.2.2.2; omega)).trans ((cell_far (show W3.heap.size ≠ w.heap.size + 1 + 1 from by have := H3.out.2.2.2; omega) _ _ _ _).trans (by rw [Nat.zero_add]; exact r5.cell i hi))⟩
  refine ⟨⟨{ zeroQV with a2 := some ⟨W3.heap.size, 0, none⟩, d2 := N }, none, 0, ?_, ?_, ?_, ?_, ?_, ?_⟩, ?_⟩
  · rw [hT, hA]; rfl
  · rw [hT]; exact ⟨.inl rfl, Nat.le_refl _, Nat.zero_le _, hh, Nat.le_refl _, hm⟩
  · rw [hA]; exact .inl rfl
  · rw [hA]; exact Nat.le_refl _
  · exact Nat.zero_le _
  · exact Fresh.nil _
  · exact below_setRow (Below.setCell (e3.trans x5) (by simp; omega) _) (by simp) _
set_option maxHeartbeats 2000000 in
theorem reply_23 (V : QstV) (Q : Qst) (w : World) (hk : Q.k = 23) (hn : 0 ≤ Q.mn ∧ Q.mn ≤ 2000) : Calls Tryz.prog 87 #[.agg (qstC V Q)] w (RepP Q w) := by
  obtain ⟨i0, hi0, hz0, hz1, hz2⟩ := info_parts Tryz.info16
  obtain ⟨k, ad, ct, va, an, oo, fr, mn, qb, qB, qr, qR⟩ := Q
  obtain ⟨a1, d1, a2, d2⟩ := V
  simp only at hk
  subst hk
  simp only at hn
  obtain ⟨N, rfl⟩ : ∃ N : Nat, mn = N := ⟨mn.toNat, by omega⟩
  have hN2 : N ≤ 2000 := by omega
  have hm : N ≤ maxLen := by unfold maxLen; omega
  have hT : replT ⟨23, ad, ct, va, an, oo, fr, (N : Int), qb, qB, qr, qR⟩ = { zeroT with k := 23, nr := N, R := fun _ => 0 } := by unfold replT wholeT; simp (config := { decide := true })
  have hA : agN ⟨23, ad, ct, va, an, oo, fr, (N : Int), qb, qB, qr, qR⟩ = 0 := by unfold agN; simp (config := { decide := true })
  have H := Lib.hid (And.intro hT hA)
  clear hT hA hn
  unfold qstC
  dsimp only
  obtain ⟨W3, hW3, e3, H3⟩ : ∃ W3, W3 = ((w.alloc (.cells #[.int .i64 23, .int .i64 ad, .int .i64 N, .int .i64 va, .int .i64 an, .int .i64 oo, .int .i64 fr, .int .i64 N, .slice a1 qb d1, .slice a2 qr d2] 31)).alloc (.cells #[.int .i64 0, .int .i64 0, .int .i64 0, .int .i64 0, .int .i64 0, .int .i64 0, .int .i64 0, .slice none 0 0, .slice none 0 0, .slice none 0 0] 131)).alloc (.cells #[.int .i64 23, .int .i64 0, .int .i64 0, .int .i64 0, .int .i64 0, .int .i64 0, .int .i64 0, .slice none 0 0, .slice none 0 0, .slice none 0 0] 131) ∧ Ext w W3 ∧ Hid (W3.heap[w.heap.size]? = some (.cells #[.int .i64 23, .int .i64 ad, .int .i64 N, .int .i64 va, .int .i64 an, .int .i64 oo, .int .i64 fr, .int .i64 N, .slice a1 qb d1, .slice a2 qr d2] 31 (0, 0)) ∧ W3.heap[w.heap.size + 1]? = some (.cells #[.int .i64 0, .int .i64 0, .int .i64 0, .int .i64 0, .int .i64 0, .int .i64 0, .int .i64 0, .slice none 0 0, .slice none 0 0, .slice none 0 0] 131 (0, 0)) ∧ W3.heap[w.heap.size + 1 + 1]? = some (.cells #[.int .i64 23, .int .i64 0, .int .i64 0, .int .i64 0, .int .i64 0, .int .i64 0, .int .i64 0, .slice none 0 0, .slice none 0 0, .slice none 0 0] 131 (0, 0)) ∧ w.heap.size + 1 + 1 < W3.heap.size) :=
    ⟨_, rfl, ((Ext.alloc w _).trans (Ext.alloc _ _)).trans (Ext.alloc _ _), Lib.hid ⟨(heap_alloc_old _ _ (by simp; omega)).trans ((heap_alloc_old _ _ (by simp)).trans (heap_new_at _ _ (by simp))), (heap_alloc_old _ _ (by simp)).trans (heap_new_at _ _ (by simp)), heap_new_at _ _ (by simp), by simp⟩⟩
  have c3 : W3.cell? ⟨w.heap.size, 2, none⟩ = some (.int .i64 N) := cell_of_heap H3.out.1 rfl
  go_enter Tryz.func87, Tryz.ntmps87
  go_upto_region 16 with fail
  rw [← hW3]
  clear hW3
  go_wp2_with (first
    | (at_make; refine wpList_make_full _ rfl _ _ 27 rfl W3.heap.size 59 i0 (.int .u16 0) 1 Tryz.underlying27 hi0 hz0 hz1 .i64 .i64 N N N rfl rfl rfl rfl (by rw [hz2]; omega) hm (Nat.le_refl _) ?_; intro w5 hown5 hgrow5; have r5 : Row (Value.int .u16) 59 w5 W3.heap.size N (fun _ => 0) := Row.made hown5; have x5 : Ext W3 w5 := (Below.refl _ _).grown hgrow5 (Nat.le_refl _) (fun k hk => by cases hk); have gR := x5.block H3.out.2.2.1; have gZ := x5.block H3.out.2.1; have hlt := H3.out.2.2.2; have p7 : w5.cell? ⟨w.heap.size + 1 + 1, 8, none⟩ = some (.slice none 0 0) := cell_of_heap gR rfl; have q7 : w5.frozen? ⟨w.heap.size + 1 + 1, 8, none⟩ = false := frozenT gR)
    | (refine wpList_load_row rfl 131 (.tmp 3) rfl (w.heap.size + 1 + 1) rfl 131 #[.int .i64 23, .int .i64 0, .int .i64 0, .int .i64 0, .int .i64 0, .int .i64 0, .int .i64 0, .slice none 0 0, .slice (some ⟨W3.heap.size, 0, none⟩) N N, .slice none 0 0] (0, 0) _ ((heap_setCell_same w5 (w.heap.size + 1 + 1) 8 _ _ _ gR).trans (by rfl)) Tryz.underlying131 rfl (by kernel_rfl) ?_)
    | (refine wpList_store_row rfl 131 (.tmp 2) (.tmp 98) rfl (w.heap.size + 1) _ rfl rfl 131 #[.int .i64 0, .int .i64 0, .int .i64 0, .int .i64 0, .int .i64 0, .int .i64 0, .int .i64 0, .slice none 0 0, .slice none 0 0, .slice none 0 0] ((heap_setCell_other _ _ _ _ (by simp)).trans gZ) (by kernel_rfl) rfl (by simp [Value.oneCell']) ?_))
  refine bodyPost_ret (results_cell_row rfl _ _ (w.heap.size + 1) 131 _ (0, 0) _ rfl (setRow_heap _ _ _ _ _ _ ((heap_setCell_other _ _ _ _ (by simp)).trans gZ)) Tryz.underlying131 rfl (by kernel_rfl)) rfl ?_
  obtain ⟨hT, hA⟩ := H.out
  have hh : HoldsG (Value.int .u16) ((w5.setCell ⟨w.heap.size + 1 + 1, 8, none⟩ (.slice (some ⟨W3.heap.size, 0, none⟩) N N)).setRow (w.heap.size + 1) #[.int .i64 23, .int .i64 0, .int .i64 0, .int .i64 0, .int .i64 0, .int .i64 0, .int .i64 0, .slice none 0 0, .slice (some ⟨W3.heap.size, 0, none⟩) N N, .slice none 0 0]) (some ⟨W3.heap.size, 0, none⟩) N (fun _ => 0) :=
    .inr ⟨W3.heap.size, 0, rfl, by rw [setRow_size]; simpa [World.setCell] using r5.lt, fun i hi => (cell_setRow_other _ _ _ _ (show W3.heap.size ≠ w.heap.size + 1 from by have := H3.out.2.2.2; omega)).trans ((cell_far (show W3.heap.size ≠ w.heap.size + 1 + 1 from by have := H3.out.2.2.2; omega) _ _ _ _).trans (by rw [Nat.zero_add]; exact r5.cell i hi))⟩
  refine ⟨⟨{ zeroQV with a2 := some ⟨W3.heap.size, 0, none⟩, d2 := N }, none, 0, ?_, ?_, ?_, ?_, ?_, ?_⟩, ?_⟩
  · rw [hT, hA]; rfl
  · rw [hT]; exact ⟨.inl rfl, Nat.le_refl _, Nat.zero_le _, hh, Nat.le_refl _, hm⟩
  · rw [hA]; exact .inl rfl
  · rw [hA]; exact Nat.le_refl _
  · exact Nat.zero_le _
  · exact Fresh.nil _
  · exact below_setRow (Below.setCell (e3.trans x5) (by simp; omega) _) (by simp) _
theorem reply_any (V : QstV) (Q : Qst) (w : World) (h : rightQ Q = true) : Calls Tryz.prog 87 #[.agg (qstC V Q)] w (RepP Q w) := by
  obtain ⟨hkn, ho, -, hf⟩ := (rightQ_iff Q).1 h
  have hk := (known_iff Q.k).1 hkn
  have hc1 : Q.k = 1 ∨ Q.k = 2 → 0 ≤ Q.ct ∧ Q.ct ≤ 2000 := fun h => by
    unfold fitsB at hf; rw [if_pos h] at hf; unfold inB at hf; have := of_decide_eq_true hf; omega
  have hc3 : Q.k = 3 ∨ Q.k = 4 → 0 ≤ Q.ct ∧ Q.ct ≤ 2000 := fun h => by
    unfold fitsB at hf; rw [if_neg (by omega), if_pos h] at hf; unfold inB at hf; have := of_decide_eq_true hf; omega
  have hc23 : Q.k = 23 → 0 ≤ Q.mn ∧ Q.mn ≤ 2000 := fun h => by
    unfold fitsB at hf; rw [if_neg (by omega), if_neg (by omega), if_neg (by omega), if_neg (by omega), if_neg (by omega), if_neg (by omega), if_neg (by omega)] at hf; simp only [Bool.and_eq_true, inB, decide_eq_true_iff] at hf; omega
  rcases hk with h | h | h | h | h | h | h | h | h | h
  · exact reply_1 V Q w h (hc1 (.inl h))
  · exact reply_2 V Q w h (hc1 (.inr h))
  · exact reply_3 V Q w h (hc3 (.inl h))
  · exact reply_4 V Q w h (hc3 (.inr h))
  · exact reply_5 V Q w h
  · exact reply_6 V Q w h
  · exact reply_15 V Q w h
  · exact reply_16 V Q w h
  · exact reply_22 V Q w h
  · exact reply_23 V Q w h (hc23 h)
end Go.Proofs.YtlafnobjfajamaaGreat
namespace Go.Proofs.YtlafnobjfajamaaGreat
open Go.RowKit
set_option linter.unusedVariables false
set_option maxRecDepth 100000

end Go.Proofs.YtlafnobjfajamaaGreat
namespace Go.Proofs.YtlafnobjfajamaaGreat
open Go.RowKit
set_option linter.unusedVariables false
set_option maxRecDepth 100000

def tnumsL (T : Tel) : Array Value := #[.int .i64 T.k, .int .i64 T.cd, .int .i64 T.ad, .int .i64 T.ct, .int .i64 T.va, .int .i64 T.an, .int .i64 T.oo]
theorem tnums_run (F G : Tel) (w : World) : (binOp .eql 164 (.agg (tnumsL F)) (.agg (tnumsL G))).run Tryz.prog w = .ok (.bool (numsT F G)) w := by
  obtain ⟨i0, hi0, hz0, hz1, hz2⟩ := info_parts Tryz.infoInt
  have hc : Tryz.prog.cellsOf 3 = 1 := by kernel_rfl
  rw [run_eql_struct, run_equalIn_array w 9999 _ _ Tryz.underlying164 hi0, hc]
  have hi := Tryz.underlying3
  rw [show List.range 7 = [0, 1, 2, 3, 4, 5, 6] from rfl]
  simp [Op.eqItems, go_sem, hi, tnumsL]
  by_cases h : numsT F G = true
  · rw [h]
    obtain ⟨h0, h1, h2, h3, h4, h5, h6⟩ := (numsT_iff F G).1 h
    rw [if_pos h0, if_pos h1, if_pos h2, if_pos h3, if_pos h4, if_pos h5, if_pos h6]
  · have hf : numsT F G = false := by cases hb : numsT F G; rfl; exact absurd hb h
    rw [hf]
    repeat' split
    all_goals first | rfl | (rename_i h0 h1 h2 h3 h4 h5 h6; exact absurd ((numsT_iff F G).2 ⟨h0, h1, h2, h3, h4, h5, h6⟩) h)
theorem tnums_guard (x y : Operand) (xs ys : Array Value) (w : World) : (eqGuard .eql 164 x y (.agg xs) (.agg ys)).run Tryz.prog w = .ok () w :=
  run_eqGuard_agg w .eql _ x y xs ys (by kernel_rfl)
set_option maxHeartbeats 2000000 in
theorem tnumbers_v (V : QstV) (T : Tel) (w : World) : Calls Tryz.prog 125 #[.agg (telC V T)] w fun e w' => e = .returned (.agg (tnumsL T)) ∧ Ext w w' := by
  obtain ⟨k, cd, ad, ct, va, an, oo, nb, B, nr, R⟩ := T
  obtain ⟨a1, d1, a2, d2⟩ := V
  unfold telC tnumsL
  dsimp only
  have e0 := (Ext.alloc w (.cells #[.int .i64 k, .int .i64 cd, .int .i64 ad, .int .i64 ct, .int .i64 va, .int .i64 an, .int .i64 oo, .slice a1 nb d1, .slice a2 nr d2] 37)).trans (Ext.alloc _ (.cells #[.int .i64 0, .int .i64 0, .int .i64 0, .int .i64 0, .int .i64 0, .int .i64 0, .int .i64 0] 164))
  go_enter Tryz.func125, Tryz.ntmps125
  go_wp2_with (first
    | (refine wpList_store_row rfl 164 (.tmp 2) (.tmp 17) rfl _ _ rfl rfl 164 _ (heap_new_at _ _ (by first | rfl | simp)) (by kernel_rfl) rfl (by simp [Value.oneCell']) ?_))
  refine bodyPost_ret (results_cell_row rfl _ _ (w.heap.size + 1) 164 _ (0, 0) _ rfl (setRow_heap _ _ _ _ _ _ (heap_new_at _ _ (by simp))) Tryz.underlying164 rfl (by kernel_rfl)) rfl ?_
  exact ⟨by rfl, below_setRow e0 (by simp) _⟩
set_option maxHeartbeats 4000000 in
theorem tsame_c : TSameC 124 := by
  intro V F U G w h k f1 f2 g1 g2
  obtain ⟨W2, hW2, e0, HX⟩ : ∃ W2, W2 = (w.alloc (.cells (telC V F) 37)).alloc (.cells (telC U G) 37) ∧ Ext w W2 ∧ Hid (∀ W, Ext W2 W → W.heap[w.heap.size]? = some (.cells (telC V F) 37 (0, 0)) ∧ W.heap[w.heap.size + 1]? = some (.cells (telC U G) 37 (0, 0))) :=
    ⟨_, rfl, (Ext.alloc w _).trans (Ext.alloc _ _), Lib.hid fun W x => ⟨x.block ((heap_alloc_old _ _ (by simp)).trans (heap_alloc_new w _)), x.block (heap_new_at _ _ (by simp))⟩⟩
  have HC := Lib.hid (fun W (x : Ext W2 W) => (⟨cell_of_heap (HX.out W x).1 rfl, cell_of_heap (HX.out W x).2 rfl, cell_of_heap (HX.out W x).1 rfl, cell_of_heap (HX.out W x).2 rfl⟩ : W.cell? ⟨w.heap.size, 7, none⟩ = some (.slice V.a1 F.nb V.d1) ∧ W.cell? ⟨w.heap.size + 1, 7, none⟩ = some (.slice U.a1 G.nb U.d1) ∧ W.cell? ⟨w.heap.size, 8, none⟩ = some (.slice V.a2 F.nr V.d2) ∧ W.cell? ⟨w.heap.size + 1, 8, none⟩ = some (.slice U.a2 G.nr U.d2)))
  have K1 := Lib.hid (fun w' (hx : Ext w w') => (sleqbool_any V.a1 U.a1 F.nb G.nb V.d1 U.d1 F.B G.B w' (h.h1.ext hx) (k.h1.ext hx) f1 g1).mono fun _ _ h => (⟨h.1, Ext.of_drewN h.2⟩ : _ ∧ Ext w' _))
  have K2 := Lib.hid (fun w' (hx : Ext w w') => (slequint16_any V.a2 U.a2 F.nr G.nr V.d2 U.d2 F.R G.R w' (h.h2.ext hx) (k.h2.ext hx) f2 g2).mono fun _ _ h => (⟨h.1, Ext.of_drewN h.2⟩ : _ ∧ Ext w' _))
  have hq := fun w => tnums_run F G w
  have hg := fun x y xs ys w => tnums_guard x y xs ys w
  unfold sameT
  generalize eqG F.nb G.nb F.B G.B = B1 at K1 ⊢
  generalize eqB F.nr G.nr F.R G.R = B2 at K2 ⊢
  generalize numsT F G = D at hq ⊢
  clear h k f1 f2 g1 g2
  cases D with
  | false =>
    rw [Bool.false_and, Bool.false_and]
    go_enter Tryz.func124, Tryz.ntmps124
    go_wp2_with fail
    rw [← hW2]
    clear hW2
    have hs : Ext W2 W2.drew := Ext.drew _
    refine wp_region_held_drew (S := fun W => Ext W2 W) (by kernel_rfl) hs (fun _ => ?_)
    refine wpAnyH_takeD (i := 0) (d := 5) rfl rfl (by kernel_rfl) (by kernel_rfl) (by kernel_rfl) (fun _ _ _ h => h) (yieldsIf_load_row (by rfl) 37 (.tmp 2) rfl (w.heap.size) rfl 37 _ (0, 0) _ (fun w' hw' => (HX.out _ hw').1) Tryz.underlying37 rfl (by kernel_rfl)) hs ?_
    simp only [Act.put, List.setIfInBounds_toArray, List.set_cons_succ, List.set_cons_zero]
    refine wpAnyH_takeD (i := 2) (d := 7) rfl rfl (by kernel_rfl) (by kernel_rfl) (by kernel_rfl) (fun _ _ _ h => h) (yieldsIf_load_row (by rfl) 37 (.tmp 3) rfl (w.heap.size + 1) rfl 37 _ (0, 0) _ (fun w' hw' => (HX.out _ hw').2) Tryz.underlying37 rfl (by kernel_rfl)) hs ?_
    simp only [Act.put, List.setIfInBounds_toArray, List.set_cons_succ, List.set_cons_zero]
    refine wpAnyH_ready (rs := [1]) (by kernel_rfl) (by simp) (AllReadyH.cons rfl (fun K hK => ?_) AllReadyH.nil)
    go_simp
    go_at_call 125
    refine (tnumbers_v V F _).mono ?_; rintro e Wc ⟨rfl, y⟩
    go_wp2_with fail
    refine hK.out _ _ (hs.trans y) (fun hs => ?_)
    clear hK K y
    refine wpAnyH_ready (rs := [3]) (by kernel_rfl) (by simp) (AllReadyH.cons rfl (fun K hK => ?_) AllReadyH.nil)
    go_simp
    go_at_call 125
    refine (tnumbers_v U G _).mono ?_; rintro e Wc ⟨rfl, y⟩
    go_wp2_with fail
    refine hK.out _ _ (hs.trans y) (fun hs => ?_)
    clear hK K y
    refine wpAnyH_takeD (i := 4) (d := 9) (v := .bool false) rfl rfl (by kernel_rfl) (by kernel_rfl) (by kernel_rfl) (fun _ _ _ h => h) (Or.inl ⟨by rfl, fun W hW => by go_simp⟩) hs ?_
    simp only [Act.put, List.setIfInBounds_toArray, List.set_cons_succ, List.set_cons_zero]
    refine wpAnyH_takeD (i := 5) (d := 10) (v := .bool false) rfl rfl (by kernel_rfl) (by kernel_rfl) (by kernel_rfl) (fun _ _ _ h => h) (Or.inl ⟨by rfl, fun W hW => by go_simp⟩) hs ?_
    simp only [Act.put, List.setIfInBounds_toArray, List.set_cons_succ, List.set_cons_zero]
    refine wpAnyH_takeD (i := 6) (d := 11) (v := undef) rfl rfl (by kernel_rfl) (by kernel_rfl) (by kernel_rfl) (fun _ _ _ h => h) (Or.inr ⟨by rfl, rfl⟩) hs ?_
    simp only [Act.put, List.setIfInBounds_toArray, List.set_cons_succ, List.set_cons_zero]
    refine wpAnyH_takeD (i := 7) (d := 12) (v := undef) rfl rfl (by kernel_rfl) (by kernel_rfl) (by kernel_rfl) (fun _ _ _ h => h) (Or.inr ⟨by rfl, rfl⟩) hs ?_
    simp only [Act.put, List.setIfInBounds_toArray, List.set_cons_succ, List.set_cons_zero]
    refine wpAnyH_takeD (i := 8) (d := 13) (v := undef) rfl rfl (by kernel_rfl) (by kernel_rfl) (by kernel_rfl) (fun _ _ _ h => h) (Or.inr ⟨by rfl, rfl⟩) hs ?_
    simp only [Act.put, List.setIfInBounds_toArray, List.set_cons_succ, List.set_cons_zero]
    refine wpAnyH_takeD (i := 9) (d := 14) (v := undef) rfl rfl (by kernel_rfl) (by kernel_rfl) (by kernel_rfl) (fun _ _ _ h => h) (Or.inr ⟨by rfl, rfl⟩) hs ?_
    simp only [Act.put, List.setIfInBounds_toArray, List.set_cons_succ, List.set_cons_zero]
    refine wpAnyH_takeD (i := 10) (d := 15) (v := undef) rfl rfl (by kernel_rfl) (by kernel_rfl) (by kernel_rfl) (fun _ _ _ h => h) (Or.inr ⟨by rfl, rfl⟩) hs ?_
    simp only [Act.put, List.setIfInBounds_toArray, List.set_cons_succ, List.set_cons_zero]
    refine wpAnyH_takeD (i := 11) (d := 16) (v := .bool false) rfl rfl (by kernel_rfl) (by kernel_rfl) (by kernel_rfl) (fun _ _ _ h => h) (Or.inl ⟨by rfl, fun W hW => by go_simp⟩) hs ?_
    simp only [Act.put, List.setIfInBounds_toArray, List.set_cons_succ, List.set_cons_zero]
    refine wpAnyH_takeD (i := 12) (d := 17) (v := .bool false) rfl rfl (by kernel_rfl) (by kernel_rfl) (by kernel_rfl) (fun _ _ _ h => h) (Or.inl ⟨by rfl, fun W hW => by go_simp⟩) hs ?_
    simp only [Act.put, List.setIfInBounds_toArray, List.set_cons_succ, List.set_cons_zero]
    refine wpAnyH_takeD (i := 13) (d := 18) (v := undef) rfl rfl (by kernel_rfl) (by kernel_rfl) (by kernel_rfl) (fun _ _ _ h => h) (Or.inr ⟨by rfl, rfl⟩) hs ?_
    simp only [Act.put, List.setIfInBounds_toArray, List.set_cons_succ, List.set_cons_zero]
    refine wpAnyH_takeD (i := 14) (d := 19) (v := undef) rfl rfl (by kernel_rfl) (by kernel_rfl) (by kernel_rfl) (fun _ _ _ h => h) (Or.inr ⟨by rfl, rfl⟩) hs ?_
    simp only [Act.put, List.setIfInBounds_toArray, List.set_cons_succ, List.set_cons_zero]
    refine wpAnyH_takeD (i := 15) (d := 20) (v := undef) rfl rfl (by kernel_rfl) (by kernel_rfl) (by kernel_rfl) (fun _ _ _ h => h) (Or.inr ⟨by rfl, rfl⟩) hs ?_
    simp only [Act.put, List.setIfInBounds_toArray, List.set_cons_succ, List.set_cons_zero]
    refine wpAnyH_takeD (i := 16) (d := 21) (v := undef) rfl rfl (by kernel_rfl) (by kernel_rfl) (by kernel_rfl) (fun _ _ _ h => h) (Or.inr ⟨by rfl, rfl⟩) hs ?_
    simp only [Act.put, List.setIfInBounds_toArray, List.set_cons_succ, List.set_cons_zero]
    refine wpAnyH_takeD (i := 17) (d := 22) (v := undef) rfl rfl (by kernel_rfl) (by kernel_rfl) (by kernel_rfl) (fun _ _ _ h => h) (Or.inr ⟨by rfl, rfl⟩) hs ?_
    simp only [Act.put, List.setIfInBounds_toArray, List.set_cons_succ, List.set_cons_zero]
    refine wpAnyH_takeD (i := 18) (d := 23) (v := .bool false) rfl rfl (by kernel_rfl) (by kernel_rfl) (by kernel_rfl) (fun _ _ _ h => h) (Or.inl ⟨by rfl, fun W hW => by go_simp⟩) hs ?_
    simp only [Act.put, List.setIfInBounds_toArray, List.set_cons_succ, List.set_cons_zero]
    refine wpAnyH_takeD (i := 19) (d := 4) (v := .bool false) rfl rfl (by kernel_rfl) (by kernel_rfl) (by kernel_rfl) (fun _ _ _ h => h) (Or.inl ⟨by rfl, fun W hW => by go_simp⟩) hs ?_
    simp only [Act.put, List.setIfInBounds_toArray, List.set_cons_succ, List.set_cons_zero]
    refine wpAnyH_done (by kernel_rfl) ?_ _
    go_wp2
    go_ret
    exact ⟨rfl, e0.trans hs⟩
  | true =>
   cases B1 with
   | false =>
    rw [Bool.true_and, Bool.false_and]
    go_enter Tryz.func124, Tryz.ntmps124
    go_wp2_with fail
    rw [← hW2]
    clear hW2
    have hs : Ext W2 W2.drew := Ext.drew _
    refine wp_region_held_drew (S := fun W => Ext W2 W) (by kernel_rfl) hs (fun _ => ?_)
    refine wpAnyH_takeD (i := 0) (d := 5) rfl rfl (by kernel_rfl) (by kernel_rfl) (by kernel_rfl) (fun _ _ _ h => h) (yieldsIf_load_row (by rfl) 37 (.tmp 2) rfl (w.heap.size) rfl 37 _ (0, 0) _ (fun w' hw' => (HX.out _ hw').1) Tryz.underlying37 rfl (by kernel_rfl)) hs ?_
    simp only [Act.put, List.setIfInBounds_toArray, List.set_cons_succ, List.set_cons_zero]
    refine wpAnyH_takeD (i := 2) (d := 7) rfl rfl (by kernel_rfl) (by kernel_rfl) (by kernel_rfl) (fun _ _ _ h => h) (yieldsIf_load_row (by rfl) 37 (.tmp 3) rfl (w.heap.size + 1) rfl 37 _ (0, 0) _ (fun w' hw' => (HX.out _ hw').2) Tryz.underlying37 rfl (by kernel_rfl)) hs ?_
    simp only [Act.put, List.setIfInBounds_toArray, List.set_cons_succ, List.set_cons_zero]
    refine wpAnyH_ready (rs := [1]) (by kernel_rfl) (by simp) (AllReadyH.cons rfl (fun K hK => ?_) AllReadyH.nil)
    go_simp
    go_at_call 125
    refine (tnumbers_v V F _).mono ?_; rintro e Wc ⟨rfl, y⟩
    go_wp2_with fail
    refine hK.out _ _ (hs.trans y) (fun hs => ?_)
    clear hK K y
    refine wpAnyH_ready (rs := [3]) (by kernel_rfl) (by simp) (AllReadyH.cons rfl (fun K hK => ?_) AllReadyH.nil)
    go_simp
    go_at_call 125
    refine (tnumbers_v U G _).mono ?_; rintro e Wc ⟨rfl, y⟩
    go_wp2_with fail
    refine hK.out _ _ (hs.trans y) (fun hs => ?_)
    clear hK K y
    refine wpAnyH_takeD (i := 4) (d := 9) (v := .bool true) rfl rfl (by kernel_rfl) (by kernel_rfl) (by kernel_rfl) (fun _ _ _ h => h) (Or.inl ⟨by rfl, fun W hW => by go_simp⟩) hs ?_
    simp only [Act.put, List.setIfInBounds_toArray, List.set_cons_succ, List.set_cons_zero]
    refine wpAnyH_takeD (i := 5) (d := 10) (v := .bool true) rfl rfl (by kernel_rfl) (by kernel_rfl) (by kernel_rfl) (fun _ _ _ h => h) (Or.inl ⟨by rfl, fun W hW => by go_simp⟩) hs ?_
    simp only [Act.put, List.setIfInBounds_toArray, List.set_cons_succ, List.set_cons_zero]
    refine wpAnyH_takeD (i := 6) (d := 11) (v := .pointer (some ⟨w.heap.size, 7, none⟩)) rfl rfl (by kernel_rfl) (by kernel_rfl) (by kernel_rfl) (fun _ _ _ h => h) (Or.inl ⟨by rfl, fun W hW => by go_simp⟩) hs ?_
    simp only [Act.put, List.setIfInBounds_toArray, List.set_cons_succ, List.set_cons_zero]
    refine wpAnyH_takeD (i := 7) (d := 12) (v := .slice V.a1 F.nb V.d1) rfl rfl (by kernel_rfl) (by kernel_rfl) (by kernel_rfl) (fun _ _ _ h => h) (Or.inl ⟨by rfl, fun W hW => by obtain ⟨c1, c2, c3, c4⟩ := HC.out W hW; go_simp⟩) hs ?_
    simp only [Act.put, List.setIfInBounds_toArray, List.set_cons_succ, List.set_cons_zero]
    refine wpAnyH_takeD (i := 8) (d := 13) (v := .pointer (some ⟨w.heap.size + 1, 7, none⟩)) rfl rfl (by kernel_rfl) (by kernel_rfl) (by kernel_rfl) (fun _ _ _ h => h) (Or.inl ⟨by rfl, fun W hW => by go_simp⟩) hs ?_
    simp only [Act.put, List.setIfInBounds_toArray, List.set_cons_succ, List.set_cons_zero]
    refine wpAnyH_takeD (i := 9) (d := 14) (v := .slice U.a1 G.nb U.d1) rfl rfl (by kernel_rfl) (by kernel_rfl) (by kernel_rfl) (fun _ _ _ h => h) (Or.inl ⟨by rfl, fun W hW => by obtain ⟨c1, c2, c3, c4⟩ := HC.out W hW; go_simp⟩) hs ?_
    simp only [Act.put, List.setIfInBounds_toArray, List.set_cons_succ, List.set_cons_zero]
    refine wpAnyH_ready (rs := [10]) (by kernel_rfl) (by simp) (AllReadyH.cons rfl (fun K hK => ?_) AllReadyH.nil)
    go_simp
    go_at_call 96
    refine (K1.out _ (e0.trans hs)).mono ?_; rintro e Wc ⟨rfl, y⟩
    go_wp2_with fail
    refine hK.out _ _ (hs.trans y) (fun hs => ?_)
    clear hK K y
    refine wpAnyH_takeD (i := 11) (d := 16) (v := .bool false) rfl rfl (by kernel_rfl) (by kernel_rfl) (by kernel_rfl) (fun _ _ _ h => h) (Or.inl ⟨by rfl, fun W hW => by go_simp⟩) hs ?_
    simp only [Act.put, List.setIfInBounds_toArray, List.set_cons_succ, List.set_cons_zero]
    refine wpAnyH_takeD (i := 12) (d := 17) (v := .bool false) rfl rfl (by kernel_rfl) (by kernel_rfl) (by kernel_rfl) (fun _ _ _ h => h) (Or.inl ⟨by rfl, fun W hW => by go_simp⟩) hs ?_
    simp only [Act.put, List.setIfInBounds_toArray, List.set_cons_succ, List.set_cons_zero]
    refine wpAnyH_takeD (i := 13) (d := 18) (v := undef) rfl rfl (by kernel_rfl) (by kernel_rfl) (by kernel_rfl) (fun _ _ _ h => h) (Or.inr ⟨by rfl, rfl⟩) hs ?_
    simp only [Act.put, List.setIfInBounds_toArray, List.set_cons_succ, List.set_cons_zero]
    refine wpAnyH_takeD (i := 14) (d := 19) (v := undef) rfl rfl (by kernel_rfl) (by kernel_rfl) (by kernel_rfl) (fun _ _ _ h => h) (Or.inr ⟨by rfl, rfl⟩) hs ?_
    simp only [Act.put, List.setIfInBounds_toArray, List.set_cons_succ, List.set_cons_zero]
    refine wpAnyH_takeD (i := 15) (d := 20) (v := undef) rfl rfl (by kernel_rfl) (by kernel_rfl) (by kernel_rfl) (fun _ _ _ h => h) (Or.inr ⟨by rfl, rfl⟩) hs ?_
    simp only [Act.put, List.setIfInBounds_toArray, List.set_cons_succ, List.set_cons_zero]
    refine wpAnyH_takeD (i := 16) (d := 21) (v := undef) rfl rfl (by kernel_rfl) (by kernel_rfl) (by kernel_rfl) (fun _ _ _ h => h) (Or.inr ⟨by rfl, rfl⟩) hs ?_
    simp only [Act.put, List.setIfInBounds_toArray, List.set_cons_succ, List.set_cons_zero]
    refine wpAnyH_takeD (i := 17) (d := 22) (v := undef) rfl rfl (by kernel_rfl) (by kernel_rfl) (by kernel_rfl) (fun _ _ _ h => h) (Or.inr ⟨by rfl, rfl⟩) hs ?_
    simp only [Act.put, List.setIfInBounds_toArray, List.set_cons_succ, List.set_cons_zero]
    refine wpAnyH_takeD (i := 18) (d := 23) (v := .bool false) rfl rfl (by kernel_rfl) (by kernel_rfl) (by kernel_rfl) (fun _ _ _ h => h) (Or.inl ⟨by rfl, fun W hW => by go_simp⟩) hs ?_
    simp only [Act.put, List.setIfInBounds_toArray, List.set_cons_succ, List.set_cons_zero]
    refine wpAnyH_takeD (i := 19) (d := 4) (v := .bool false) rfl rfl (by kernel_rfl) (by kernel_rfl) (by kernel_rfl) (fun _ _ _ h => h) (Or.inl ⟨by rfl, fun W hW => by go_simp⟩) hs ?_
    simp only [Act.put, List.setIfInBounds_toArray, List.set_cons_succ, List.set_cons_zero]
    refine wpAnyH_done (by kernel_rfl) ?_ _
    go_wp2
    go_ret
    exact ⟨rfl, e0.trans hs⟩
   | true =>
    rw [Bool.true_and, Bool.true_and]
    go_enter Tryz.func124, Tryz.ntmps124
    go_wp2_with fail
    rw [← hW2]
    clear hW2
    have hs : Ext W2 W2.drew := Ext.drew _
    refine wp_region_held_drew (S := fun W => Ext W2 W) (by kernel_rfl) hs (fun _ => ?_)
    refine wpAnyH_takeD (i := 0) (d := 5) rfl rfl (by kernel_rfl) (by kernel_rfl) (by kernel_rfl) (fun _ _ _ h => h) (yieldsIf_load_row (by rfl) 37 (.tmp 2) rfl (w.heap.size) rfl 37 _ (0, 0) _ (fun w' hw' => (HX.out _ hw').1) Tryz.underlying37 rfl (by kernel_rfl)) hs ?_
    simp only [Act.put, List.setIfInBounds_toArray, List.set_cons_succ, List.set_cons_zero]
    refine wpAnyH_takeD (i := 2) (d := 7) rfl rfl (by kernel_rfl) (by kernel_rfl) (by kernel_rfl) (fun _ _ _ h => h) (yieldsIf_load_row (by rfl) 37 (.tmp 3) rfl (w.heap.size + 1) rfl 37 _ (0, 0) _ (fun w' hw' => (HX.out _ hw').2) Tryz.underlying37 rfl (by kernel_rfl)) hs ?_
    simp only [Act.put, List.setIfInBounds_toArray, List.set_cons_succ, List.set_cons_zero]
    refine wpAnyH_ready (rs := [1]) (by kernel_rfl) (by simp) (AllReadyH.cons rfl (fun K hK => ?_) AllReadyH.nil)
    go_simp
    go_at_call 125
    refine (tnumbers_v V F _).mono ?_; rintro e Wc ⟨rfl, y⟩
    go_wp2_with fail
    refine hK.out _ _ (hs.trans y) (fun hs => ?_)
    clear hK K y
    refine wpAnyH_ready (rs := [3]) (by kernel_rfl) (by simp) (AllReadyH.cons rfl (fun K hK => ?_) AllReadyH.nil)
    go_simp
    go_at_call 125
    refine (tnumbers_v U G _).mono ?_; rintro e Wc ⟨rfl, y⟩
    go_wp2_with fail
    refine hK.out _ _ (hs.trans y) (fun hs => ?_)
    clear hK K y
    refine wpAnyH_takeD (i := 4) (d := 9) (v := .bool true) rfl rfl (by kernel_rfl) (by kernel_rfl) (by kernel_rfl) (fun _ _ _ h => h) (Or.inl ⟨by rfl, fun W hW => by go_simp⟩) hs ?_
    simp only [Act.put, List.setIfInBounds_toArray, List.set_cons_succ, List.set_cons_zero]
    refine wpAnyH_takeD (i := 5) (d := 10) (v := .bool true) rfl rfl (by kernel_rfl) (by kernel_rfl) (by kernel_rfl) (fun _ _ _ h => h) (Or.inl ⟨by rfl, fun W hW => by go_simp⟩) hs ?_
    simp only [Act.put, List.setIfInBounds_toArray, List.set_cons_succ, List.set_cons_zero]
    refine wpAnyH_takeD (i := 6) (d := 11) (v := .pointer (some ⟨w.heap.size, 7, none⟩)) rfl rfl (by kernel_rfl) (by kernel_rfl) (by kernel_rfl) (fun _ _ _ h => h) (Or.inl ⟨by rfl, fun W hW => by go_simp⟩) hs ?_
    simp only [Act.put, List.setIfInBounds_toArray, List.set_cons_succ, List.set_cons_zero]
    refine wpAnyH_takeD (i := 7) (d := 12) (v := .slice V.a1 F.nb V.d1) rfl rfl (by kernel_rfl) (by kernel_rfl) (by kernel_rfl) (fun _ _ _ h => h) (Or.inl ⟨by rfl, fun W hW => by obtain ⟨c1, c2, c3, c4⟩ := HC.out W hW; go_simp⟩) hs ?_
    simp only [Act.put, List.setIfInBounds_toArray, List.set_cons_succ, List.set_cons_zero]
    refine wpAnyH_takeD (i := 8) (d := 13) (v := .pointer (some ⟨w.heap.size + 1, 7, none⟩)) rfl rfl (by kernel_rfl) (by kernel_rfl) (by kernel_rfl) (fun _ _ _ h => h) (Or.inl ⟨by rfl, fun W hW => by go_simp⟩) hs ?_
    simp only [Act.put, List.setIfInBounds_toArray, List.set_cons_succ, List.set_cons_zero]
    refine wpAnyH_takeD (i := 9) (d := 14) (v := .slice U.a1 G.nb U.d1) rfl rfl (by kernel_rfl) (by kernel_rfl) (by kernel_rfl) (fun _ _ _ h => h) (Or.inl ⟨by rfl, fun W hW => by obtain ⟨c1, c2, c3, c4⟩ := HC.out W hW; go_simp⟩) hs ?_
    simp only [Act.put, List.setIfInBounds_toArray, List.set_cons_succ, List.set_cons_zero]
    refine wpAnyH_ready (rs := [10]) (by kernel_rfl) (by simp) (AllReadyH.cons rfl (fun K hK => ?_) AllReadyH.nil)
    go_simp
    go_at_call 96
    refine (K1.out _ (e0.trans hs)).mono ?_; rintro e Wc ⟨rfl, y⟩
    go_wp2_with fail
    refine hK.out _ _ (hs.trans y) (fun hs => ?_)
    clear hK K y
    refine wpAnyH_takeD (i := 11) (d := 16) (v := .bool true) rfl rfl (by kernel_rfl) (by kernel_rfl) (by kernel_rfl) (fun _ _ _ h => h) (Or.inl ⟨by rfl, fun W hW => by go_simp⟩) hs ?_
    simp only [Act.put, List.setIfInBounds_toArray, List.set_cons_succ, List.set_cons_zero]
    refine wpAnyH_takeD (i := 12) (d := 17) (v := .bool true) rfl rfl (by kernel_rfl) (by kernel_rfl) (by kernel_rfl) (fun _ _ _ h => h) (Or.inl ⟨by rfl, fun W hW => by go_simp⟩) hs ?_
    simp only [Act.put, List.setIfInBounds_toArray, List.set_cons_succ, List.set_cons_zero]
    refine wpAnyH_takeD (i := 13) (d := 18) (v := .pointer (some ⟨w.heap.size, 8, none⟩)) rfl rfl (by kernel_rfl) (by kernel_rfl) (by kernel_rfl) (fun _ _ _ h => h) (Or.inl ⟨by rfl, fun W hW => by go_simp⟩) hs ?_
    simp only [Act.put, List.setIfInBounds_toArray, List.set_cons_succ, List.set_cons_zero]
    refine wpAnyH_takeD (i := 14) (d := 19) (v := .slice V.a2 F.nr V.d2) rfl rfl (by kernel_rfl) (by kernel_rfl) (by kernel_rfl) (fun _ _ _ h => h) (Or.inl ⟨by rfl, fun W hW => by obtain ⟨c1, c2, c3, c4⟩ := HC.out W hW; go_simp⟩) hs ?_
    simp only [Act.put, List.setIfInBounds_toArray, List.set_cons_succ, List.set_cons_zero]
    refine wpAnyH_takeD (i := 15) (d := 20) (v := .pointer (some ⟨w.heap.size + 1, 8, none⟩)) rfl rfl (by kernel_rfl) (by kernel_rfl) (by kernel_rfl) (fun _ _ _ h => h) (Or.inl ⟨by rfl, fun W hW => by go_simp⟩) hs ?_
    simp only [Act.put, List.setIfInBounds_toArray, List.set_cons_succ, List.set_cons_zero]
    refine wpAnyH_takeD (i := 16) (d := 21) (v := .slice U.a2 G.nr U.d2) rfl rfl (by kernel_rfl) (by kernel_rfl) (by kernel_rfl) (fun _ _ _ h => h) (Or.inl ⟨by rfl, fun W hW => by obtain ⟨c1, c2, c3, c4⟩ := HC.out W hW; go_simp⟩) hs ?_
    simp only [Act.put, List.setIfInBounds_toArray, List.set_cons_succ, List.set_cons_zero]
    refine wpAnyH_ready (rs := [17]) (by kernel_rfl) (by simp) (AllReadyH.cons rfl (fun K hK => ?_) AllReadyH.nil)
    go_simp
    go_at_call 98
    refine (K2.out _ (e0.trans hs)).mono ?_; rintro e Wc ⟨rfl, y⟩
    go_wp2_with fail
    refine hK.out _ _ (hs.trans y) (fun hs => ?_)
    clear hK K y
    refine wpAnyH_takeD (i := 18) (d := 23) (v := .bool B2) rfl rfl (by kernel_rfl) (by kernel_rfl) (by kernel_rfl) (fun _ _ _ h => h) (Or.inl ⟨by rfl, fun W hW => by go_simp⟩) hs ?_
    simp only [Act.put, List.setIfInBounds_toArray, List.set_cons_succ, List.set_cons_zero]
    refine wpAnyH_takeD (i := 19) (d := 4) (v := .bool B2) rfl rfl (by kernel_rfl) (by kernel_rfl) (by kernel_rfl) (fun _ _ _ h => h) (Or.inl ⟨by rfl, fun W hW => by go_simp⟩) hs ?_
    simp only [Act.put, List.setIfInBounds_toArray, List.set_cons_succ, List.set_cons_zero]
    refine wpAnyH_done (by kernel_rfl) ?_ _
    go_wp2
    go_ret
    exact ⟨rfl, e0.trans hs⟩
set_option maxHeartbeats 2000000 in
theorem refuses_v {c : Int} {B : Bool} (hB : inB c 1 4 = B) (w : World) : Calls Tryz.prog 84 #[.int .i64 c] w fun e w' => e = .returned (.bool B) ∧ w' = w := by
  subst hB
  by_cases h1 : 1 ≤ c
  · have d1 : decide (1 ≤ c) = true := decide_eq_true h1
    obtain ⟨D, hD⟩ : ∃ D, decide (c ≤ 4) = D := ⟨_, rfl⟩
    have hR : inB c 1 4 = D := by unfold inB; rw [← hD]; simp [h1]
    rw [hR]
    clear h1 hR
    cases D <;>
    · go_enter Tryz.func84, Tryz.ntmps84
      go_wp2
      go_ret
      exact ⟨rfl, rfl⟩
  · have d1 : decide (1 ≤ c) = false := decide_eq_false h1
    have hR : inB c 1 4 = false := by unfold inB; exact decide_eq_false (fun h => h1 h.1)
    rw [hR]
    clear h1 hR
    go_enter Tryz.func84, Tryz.ntmps84
    go_wp2
    go_ret
    exact ⟨rfl, rfl⟩
set_option maxHeartbeats 2000000 in
theorem tref_c : TRefC 46 := by
  intro k c w
  have KR := fun w => refuses_v (c := c) rfl w
  by_cases h1 : k < 1
  · rw [show refB k c = false from by unfold refB; exact decide_eq_false (by omega), if_neg (by decide), if_neg (by decide)]
    have d1 : decide (k < 1) = true := decide_eq_true h1
    clear h1 KR
    go_enter Tryz.func46, Tryz.ntmps46
    go_wp2
    go_ret2
    exact ⟨none, 0, by rfl, .inl rfl, Ext.refl _⟩
  have d1 : decide (k < 1) = false := decide_eq_false h1
  by_cases h2 : 128 ≤ k
  · rw [show refB k c = false from by unfold refB; exact decide_eq_false (by omega), if_neg (by decide), if_neg (by decide)]
    have d2 : decide (128 ≤ k) = true := decide_eq_true h2
    clear h1 h2 KR
    go_enter Tryz.func46, Tryz.ntmps46
    go_wp2
    go_ret2
    exact ⟨none, 0, by rfl, .inl rfl, Ext.refl _⟩
  have d2 : decide (128 ≤ k) = false := decide_eq_false h2
  obtain ⟨R, hR⟩ : ∃ R, inB c 1 4 = R := ⟨_, rfl⟩
  rw [show refB k c = R from by rw [← hR]; unfold refB inB; rw [decide_eq_decide]; omega]
  rw [hR] at KR
  have wc := Lib.hid (fun h : R = true => (by have h4 := hR.trans h; unfold inB at h4; have h5 := of_decide_eq_true h4; exact w8 (by omega) : IntKind.u8.wrap c = c))
  have w1 : IntKind.i64.wrap (128 + k) = 128 + k := IntWalk.i64_in _ (by omega)
  have w2 : IntKind.u8.wrap (128 + k) = 128 + k := w8 (by omega)
  clear h1 h2 hR
  cases R with
  | false =>
    rw [if_neg (by decide), if_neg (by decide)]
    go_enter Tryz.func46, Tryz.ntmps46
    go_wp2_with (first | (go_at_call 84; refine (KR _).mono ?_; rintro e W ⟨rfl, rfl⟩))
    go_ret2
    exact ⟨none, 0, by rfl, .inl rfl, Ext.refl _⟩
  | true =>
    rw [if_pos rfl, if_pos rfl]
    have w3 := wc.out rfl
    clear wc
    go_enter Tryz.func46, Tryz.ntmps46
    go_wp2_with (first | (go_at_call 84; refine (KR _).mono ?_; rintro e W ⟨rfl, rfl⟩))
    go_ret2
    refine ⟨some ⟨_, 0, none⟩, 2, by rfl, HoldsG.new _ _ _ 2 _ (fun i hi => ?_), Ext.alloc _ _⟩
    have h : i = 0 ∨ i = 1 := by omega
    rcases h with rfl | rfl
    · exact congrArg (fun z => some (Value.int .u8 z)) (Int.add_comm 128 k)
    · rfl
end Go.Proofs.YtlafnobjfajamaaGreat
namespace Go.Proofs.YtlafnobjfajamaaGreat
open Go.RowKit
set_option linter.unusedVariables false
set_option maxRecDepth 100000

theorem whole_nb (Q : Qst) (nb : Nat) (B : Nat → Bool) (nr : Nat) (R : Nat → Int) : (wholeT Q nb B nr R).nb = (if Q.k = 1 ∨ Q.k = 2 then nb else 0) ∧ (wholeT Q nb B nr R).nr = (if Q.k = 1 ∨ Q.k = 2 then 0 else if Q.k = 3 ∨ Q.k = 4 ∨ Q.k = 23 then nr else 0) := by
  unfold wholeT
  repeat' split
  all_goals exact ⟨rfl, rfl⟩
theorem whole_fun (Q : Qst) (nb : Nat) (B : Nat → Bool) (nr : Nat) (R : Nat → Int) : (∀ i, i < (wholeT Q nb B nr R).nb → (wholeT Q nb B nr R).B i = B i) ∧ (∀ i, i < (wholeT Q nb B nr R).nr → (wholeT Q nb B nr R).R i = R i) := by
  unfold wholeT
  repeat' split
  all_goals exact ⟨fun i hi => by first | rfl | exact absurd hi (Nat.not_lt_zero i), fun i hi => by first | rfl | exact absurd hi (Nat.not_lt_zero i)⟩
theorem whole_nums (Q : Qst) (nb nb' : Nat) (B B' : Nat → Bool) (nr nr' : Nat) (R R' : Nat → Int) (T : Tel) : numsT T (wholeT Q nb B nr R) = numsT T (wholeT Q nb' B' nr' R') := by
  unfold wholeT
  repeat' split
  all_goals rfl
theorem right_low {Q : Qst} {T : Tel} (hr : rightQ Q = true) (hc : inB T.cd 1 4 = false) : rightT Q T = (numsT T (replT Q) && ((T.nb : Int) == ((replT Q).nb : Int)) && ((T.nr : Int) == ((replT Q).nr : Int))) := by
  rw [tright_yes hr]
  by_cases h0 : T.cd = 0
  · rw [if_pos h0, Bool.eq_iff_iff, Bool.and_eq_true, sameT_iff, Bool.and_eq_true, Bool.and_eq_true, beq_iff_eq, beq_iff_eq]
    obtain ⟨hkn, -, -, hf⟩ := (rightQ_iff Q).1 hr
    have hk := (known_iff Q.k).1 hkn
    obtain ⟨w1, w2⟩ := whole_nb Q T.nb T.B T.nr T.R
    obtain ⟨w3, w4⟩ := whole_fun Q T.nb T.B T.nr T.R
    have w5 := whole_nums Q T.nb Q.ct.toNat T.B (fun _ => false) T.nr (if Q.k = 23 then Q.mn.toNat else Q.ct.toNat) T.R (fun _ => 0) T
    obtain ⟨w6, w7⟩ := whole_nb Q Q.ct.toNat (fun _ => false) (if Q.k = 23 then Q.mn.toNat else Q.ct.toNat) (fun _ => 0)
    have hkey : (T.nb = (wholeT Q T.nb T.B T.nr T.R).nb ∧ T.nr = (wholeT Q T.nb T.B T.nr T.R).nr ∧ cntB Q T = true) ↔ ((T.nb : Int) = ((replT Q).nb : Int) ∧ (T.nr : Int) = ((replT Q).nr : Int)) := by
      unfold replT
      rw [w1, w2, w6, w7]
      unfold cntB
      unfold fitsB at hf
      clear w1 w2 w3 w4 w5 w6 w7
      rcases hk with hk | hk | hk | hk | hk | hk | hk | hk | hk | hk <;>
      · simp (config := { decide := true }) only [hk, if_true, if_false, Bool.and_eq_true, inB_iff, decide_eq_true_iff, true_and, and_true, or_true, or_false] at hf ⊢
        first | trivial | omega
    constructor
    · rintro ⟨ha, hn⟩
      obtain ⟨k1, k2⟩ := hkey.1 ⟨ha.nb, ha.nr, hn⟩
      refine ⟨⟨?_, k1⟩, k2⟩
      unfold replT
      rw [← w5, numsT_iff]
      exact ⟨ha.k, ha.cd, ha.ad, ha.ct, ha.va, ha.an, ha.oo⟩
    · rintro ⟨⟨h1, k1⟩, k2⟩
      obtain ⟨e1, e2, e3⟩ := hkey.2 ⟨k1, k2⟩
      unfold replT at h1
      rw [← w5, numsT_iff] at h1
      obtain ⟨a1, a2, a3, a4, a5, a6, a7⟩ := h1
      exact ⟨⟨a1, a2, a3, a4, a5, a6, a7, e1, fun i hi => (w3 i (by rw [← e1]; exact hi)).symm, e2, fun i hi => (w4 i (by rw [← e2]; exact hi)).symm⟩, e3⟩
  · rw [if_neg h0, hc, Bool.false_and]
    have hn : numsT T (replT Q) = false := by
      cases h : numsT T (replT Q) with
      | false => rfl
      | true => exact absurd (((numsT_iff _ _).1 h).2.1.trans (whole_k Q _ _ _ _).2.1) h0
    rw [hn, Bool.false_and, Bool.false_and]
theorem right_high {Q : Qst} {T : Tel} (hr : rightQ Q = true) (hc : inB T.cd 1 4 = true) : rightT Q T = sameT T { zeroT with k := Q.k, cd := T.cd } := by
  rw [tright_yes hr, if_neg (by rw [inB_iff] at hc; omega), hc, Bool.true_and]
theorem told_field (w : World) (X : QstV) (T : Tel) (b : Option Addr) (n q : Nat) : (Instr.field 131 (.agg (repC X T b n q)) 0).run Tryz.prog w = .ok (.agg (telC X T)) w := by kernel_rfl
theorem again_field (w : World) (X : QstV) (T : Tel) (b : Option Addr) (n q : Nat) : (Instr.field 131 (.agg (repC X T b n q)) 1).run Tryz.prog w = .ok (.slice b n q) w := by kernel_rfl
set_option maxHeartbeats 4000000 in
theorem tright_c : TRightC 85 := by
  intro V Q U T w hQ hW n1 n2 hT m1 m2
  obtain ⟨W2, hW2, e0, HX⟩ : ∃ W2, W2 = (w.alloc (.cells (qstC V Q) 31)).alloc (.cells (telC U T) 37) ∧ Ext w W2 ∧ Hid (∀ W, Ext W2 W → W.heap[w.heap.size]? = some (.cells (qstC V Q) 31 (0, 0)) ∧ W.heap[w.heap.size + 1]? = some (.cells (telC U T) 37 (0, 0))) :=
    ⟨_, rfl, (Ext.alloc w _).trans (Ext.alloc _ _), Lib.hid fun W x => ⟨x.block ((heap_alloc_old _ _ (by simp)).trans (heap_alloc_new w _)), x.block (heap_new_at _ _ (by simp))⟩⟩
  have HQ := Lib.hid hQ
  have HT := Lib.hid hT
  have HK := Lib.hid (fun W (x : Ext W2 W) => (⟨cell_of_heap (HX.out W x).1 rfl, cell_of_heap (HX.out W x).2 rfl⟩ : W.cell? ⟨w.heap.size, 0, none⟩ = some (.int .i64 Q.k) ∧ W.cell? ⟨w.heap.size + 1, 1, none⟩ = some (.int .i64 T.cd)))
  have r0 := (HX.out W2 (Ext.refl _)).1
  have KR := Lib.hid (fun W (x : Ext w W) => aright_any V Q W (HQ.out.ext x) n1 n2)
  clear hQ hT
  obtain ⟨D, hD⟩ : ∃ D, rightQ Q = D := ⟨_, rfl⟩
  rw [hD] at KR
  cases D with
  | false =>
    rw [show rightT Q T = false from by unfold rightT; rw [hD, Bool.false_and]]
    clear hD
    go_enter Tryz.func85, Tryz.ntmps85
    go_upto_region 1 with fail
    rw [← hW2]
    clear hW2
    go_wp2_with (first
      | (refine wpList_load_row rfl 31 (.tmp 2) rfl w.heap.size rfl 31 _ (0, 0) _ r0 Tryz.underlying31 rfl (by kernel_rfl) ?_)
      | (go_at_call 32; refine (KR.out _ e0).mono ?_; rintro e w3 ⟨rfl, x3⟩))
    go_ret
    exact ⟨rfl, e0.trans x3⟩
  | true =>
    obtain ⟨C, hC⟩ : ∃ C, inB T.cd 1 4 = C := ⟨_, rfl⟩
    have KF := Lib.hid (fun W => refuses_v hC W)
    cases C with
    | true =>
      rw [right_high hD hC]
      have KS := Lib.hid (fun W (x : Ext w W) => tsame_c U T zeroQV { zeroT with k := Q.k, cd := T.cd } W (HT.out.ext x) (telnone_at W rfl rfl) m1 m2 (Nat.zero_le _) (Nat.zero_le _))
      clear hD hC
      go_enter Tryz.func85, Tryz.ntmps85
      go_upto_region 1 with fail
      rw [← hW2]
      clear hW2
      go_upto_region 3 with (first
        | (refine wpList_load_row rfl 31 (.tmp 2) rfl w.heap.size rfl 31 _ (0, 0) _ r0 Tryz.underlying31 rfl (by kernel_rfl) ?_)
        | (go_at_call 32; refine (KR.out _ e0).mono ?_; rintro e w3 ⟨rfl, x3⟩))
      obtain ⟨g0, g1⟩ := HX.out _ x3
      obtain ⟨c0, c1⟩ := HK.out _ x3
      go_wp2_with (first
        | (go_at_call 84; refine (KF.out _).mono ?_; rintro e w4 ⟨rfl, rfl⟩)
        | (refine wpList_load_row rfl 37 (.tmp 3) rfl (w.heap.size + 1) rfl 37 _ (0, 0) _ g1 Tryz.underlying37 rfl (by kernel_rfl) ?_)
        | (go_at_call 124; refine (KS.out _ (e0.trans x3)).mono ?_; rintro e w5 ⟨rfl, x5⟩))
      go_ret
      exact ⟨rfl, (e0.trans x3).trans x5⟩
    | false =>
      rw [right_low hD hC]
      have hq := fun w => tnums_run T (replT Q) w
      have hg := fun x y xs ys w => tnums_guard x y xs ys w
      obtain ⟨E1, hE1⟩ : ∃ E1, ((T.nb : Int) == ((replT Q).nb : Int)) = E1 := ⟨_, rfl⟩
      obtain ⟨E2, hE2⟩ : ∃ E2, ((T.nr : Int) == ((replT Q).nr : Int)) = E2 := ⟨_, rfl⟩
      rw [hE1, hE2]
      obtain ⟨D, hDD⟩ : ∃ D, numsT T (replT Q) = D := ⟨_, rfl⟩
      rw [hDD]
      rw [hDD] at hq
      clear hDD
      have KY := Lib.hid (fun W => reply_any V Q W hD)
      clear hD hC
      have hfd := fun w X b n q => told_field w X (replT Q) b n q
      go_enter Tryz.func85, Tryz.ntmps85
      go_upto_region 1 with fail
      rw [← hW2]
      clear hW2
      go_upto_region 3 with (first
        | (refine wpList_load_row rfl 31 (.tmp 2) rfl w.heap.size rfl 31 _ (0, 0) _ r0 Tryz.underlying31 rfl (by kernel_rfl) ?_)
        | (go_at_call 32; refine (KR.out _ e0).mono ?_; rintro e w3 ⟨rfl, x3⟩))
      obtain ⟨g0, g1⟩ := HX.out _ x3
      obtain ⟨c0, c1⟩ := HK.out _ x3
      go_upto_region 6 with (first
        | (go_at_call 84; refine (KF.out _).mono ?_; rintro e w4 ⟨rfl, rfl⟩)
        | (refine wpList_load_row rfl 31 (.tmp 2) rfl w.heap.size rfl 31 _ (0, 0) _ g0 Tryz.underlying31 rfl (by kernel_rfl) ?_)
        | (go_at_call 87; refine (KY.out _).mono ?_; rintro e w5 ⟨⟨X, b5, q5, rfl, ht5, -⟩, x5⟩)
        | (refine wpList_store_row rfl 37 (.tmp 5) (.tmp 21) rfl w5.heap.size _ rfl rfl 37 _ (heap_alloc_new w5 _) (by kernel_rfl) rfl (by simp [telC, Value.oneCell']) ?_))
      obtain ⟨W6, hW6, x6, g6⟩ : ∃ W6, W6 = (w5.alloc (.cells #[.int .i64 0, .int .i64 0, .int .i64 0, .int .i64 0, .int .i64 0, .int .i64 0, .int .i64 0, .slice none 0 0, .slice none 0 0] 37)).setRow w5.heap.size (telC X (replT Q)) ∧ Ext w5 W6 ∧ W6.heap[w5.heap.size]? = some (.cells (telC X (replT Q)) 37 (0, 0)) := ⟨_, rfl, (told_row _ _ _ _).1, (told_row _ _ _ _).2⟩
      rw [← hW6]
      clear hW6
      have HR := Lib.hid (fun W (hx : Ext W6 W) => (⟨((x5.trans x6).trans hx).block g1, hx.block g6⟩ : W.heap[w.heap.size + 1]? = some (.cells (telC U T) 37 (0, 0)) ∧ W.heap[w5.heap.size]? = some (.cells (telC X (replT Q)) 37 (0, 0))))
      have HC := Lib.hid (fun W (hx : Ext W6 W) => (⟨cell_of_heap (HR.out W hx).1 rfl, cell_of_heap (HR.out W hx).2 rfl, cell_of_heap (HR.out W hx).1 rfl, cell_of_heap (HR.out W hx).2 rfl⟩ : W.cell? ⟨w.heap.size + 1, 7, none⟩ = some (.slice U.a1 T.nb U.d1) ∧ W.cell? ⟨w5.heap.size, 7, none⟩ = some (.slice X.a1 (replT Q).nb X.d1) ∧ W.cell? ⟨w.heap.size + 1, 8, none⟩ = some (.slice U.a2 T.nr U.d2) ∧ W.cell? ⟨w5.heap.size, 8, none⟩ = some (.slice X.a2 (replT Q).nr X.d2)))
      have xA := ((e0.trans x3).trans x5).trans x6
      have hs : Ext W6 W6.drew := Ext.drew _
      clear g0 g1 c0 c1 x3 x5 x6 g6 ht5 KF KR KY HX HK r0 hfd e0
      cases D with
      | false =>
        refine wp_region_held_drew (S := fun W => Ext W6 W) (by kernel_rfl) hs (fun _ => ?_)
        refine wpAnyH_takeD (i := 0) (d := 22) rfl rfl (by kernel_rfl) (by kernel_rfl) (by kernel_rfl) (fun _ _ _ h => h) (yieldsIf_load_row (by rfl) 37 (.tmp 3) rfl (w.heap.size + 1) rfl 37 _ (0, 0) _ (fun w' hw' => (HR.out _ hw').1) Tryz.underlying37 rfl (by kernel_rfl)) hs ?_
        simp only [Act.put, List.setIfInBounds_toArray, List.set_cons_succ, List.set_cons_zero]
        refine wpAnyH_takeD (i := 2) (d := 24) rfl rfl (by kernel_rfl) (by kernel_rfl) (by kernel_rfl) (fun _ _ _ h => h) (yieldsIf_load_row (by rfl) 37 (.tmp 5) rfl (w5.heap.size) rfl 37 _ (0, 0) _ (fun w' hw' => (HR.out _ hw').2) Tryz.underlying37 rfl (by kernel_rfl)) hs ?_
        simp only [Act.put, List.setIfInBounds_toArray, List.set_cons_succ, List.set_cons_zero]
        refine wpAnyH_ready (rs := [1]) (by kernel_rfl) (by simp) (AllReadyH.cons rfl (fun K hK => ?_) AllReadyH.nil)
        go_simp
        go_at_call 125
        refine (tnumbers_v U T _).mono ?_; rintro e Wc ⟨rfl, y⟩
        go_wp2_with fail
        refine hK.out _ _ (hs.trans y) (fun hs => ?_)
        clear hK K y
        refine wpAnyH_ready (rs := [3]) (by kernel_rfl) (by simp) (AllReadyH.cons rfl (fun K hK => ?_) AllReadyH.nil)
        go_simp
        go_at_call 125
        refine (tnumbers_v X (replT Q) _).mono ?_; rintro e Wc ⟨rfl, y⟩
        go_wp2_with fail
        refine hK.out _ _ (hs.trans y) (fun hs => ?_)
        clear hK K y
        refine wpAnyH_takeD (i := 4) (d := 26) (v := .bool false) rfl rfl (by kernel_rfl) (by kernel_rfl) (by kernel_rfl) (fun _ _ _ h => h) (Or.inl ⟨by rfl, fun W hW => by go_simp⟩) hs ?_
        simp only [Act.put, List.setIfInBounds_toArray, List.set_cons_succ, List.set_cons_zero]
        refine wpAnyH_takeD (i := 5) (d := 27) (v := .bool false) rfl rfl (by kernel_rfl) (by kernel_rfl) (by kernel_rfl) (fun _ _ _ h => h) (Or.inl ⟨by rfl, fun W hW => by go_simp⟩) hs ?_
        simp only [Act.put, List.setIfInBounds_toArray, List.set_cons_succ, List.set_cons_zero]
        refine wpAnyH_takeD (i := 6) (d := 28) (v := undef) rfl rfl (by kernel_rfl) (by kernel_rfl) (by kernel_rfl) (fun _ _ _ h => h) (Or.inr ⟨by rfl, rfl⟩) hs ?_
        simp only [Act.put, List.setIfInBounds_toArray, List.set_cons_succ, List.set_cons_zero]
        refine wpAnyH_takeD (i := 7) (d := 29) (v := undef) rfl rfl (by kernel_rfl) (by kernel_rfl) (by kernel_rfl) (fun _ _ _ h => h) (Or.inr ⟨by rfl, rfl⟩) hs ?_
        simp only [Act.put, List.setIfInBounds_toArray, List.set_cons_succ, List.set_cons_zero]
        refine wpAnyH_takeD (i := 8) (d := 30) (v := undef) rfl rfl (by kernel_rfl) (by kernel_rfl) (by kernel_rfl) (fun _ _ _ h => h) (Or.inr ⟨by rfl, rfl⟩) hs ?_
        simp only [Act.put, List.setIfInBounds_toArray, List.set_cons_succ, List.set_cons_zero]
        refine wpAnyH_takeD (i := 9) (d := 31) (v := undef) rfl rfl (by kernel_rfl) (by kernel_rfl) (by kernel_rfl) (fun _ _ _ h => h) (Or.inr ⟨by rfl, rfl⟩) hs ?_
        simp only [Act.put, List.setIfInBounds_toArray, List.set_cons_succ, List.set_cons_zero]
        refine wpAnyH_takeD (i := 10) (d := 32) (v := undef) rfl rfl (by kernel_rfl) (by kernel_rfl) (by kernel_rfl) (fun _ _ _ h => h) (Or.inr ⟨by rfl, rfl⟩) hs ?_
        simp only [Act.put, List.setIfInBounds_toArray, List.set_cons_succ, List.set_cons_zero]
        refine wpAnyH_takeD (i := 11) (d := 33) (v := undef) rfl rfl (by kernel_rfl) (by kernel_rfl) (by kernel_rfl) (fun _ _ _ h => h) (Or.inr ⟨by rfl, rfl⟩) hs ?_
        simp only [Act.put, List.setIfInBounds_toArray, List.set_cons_succ, List.set_cons_zero]
        refine wpAnyH_takeD (i := 12) (d := 34) (v := undef) rfl rfl (by kernel_rfl) (by kernel_rfl) (by kernel_rfl) (fun _ _ _ h => h) (Or.inr ⟨by rfl, rfl⟩) hs ?_
        simp only [Act.put, List.setIfInBounds_toArray, List.set_cons_succ, List.set_cons_zero]
        refine wpAnyH_takeD (i := 13) (d := 35) (v := .bool false) rfl rfl (by kernel_rfl) (by kernel_rfl) (by kernel_rfl) (fun _ _ _ h => h) (Or.inl ⟨by rfl, fun W hW => by go_simp⟩) hs ?_
        simp only [Act.put, List.setIfInBounds_toArray, List.set_cons_succ, List.set_cons_zero]
        refine wpAnyH_takeD (i := 14) (d := 36) (v := .bool false) rfl rfl (by kernel_rfl) (by kernel_rfl) (by kernel_rfl) (fun _ _ _ h => h) (Or.inl ⟨by rfl, fun W hW => by go_simp⟩) hs ?_
        simp only [Act.put, List.setIfInBounds_toArray, List.set_cons_succ, List.set_cons_zero]
        refine wpAnyH_takeD (i := 15) (d := 37) (v := undef) rfl rfl (by kernel_rfl) (by kernel_rfl) (by kernel_rfl) (fun _ _ _ h => h) (Or.inr ⟨by rfl, rfl⟩) hs ?_
        simp only [Act.put, List.setIfInBounds_toArray, List.set_cons_succ, List.set_cons_zero]
        refine wpAnyH_takeD (i := 16) (d := 38) (v := undef) rfl rfl (by kernel_rfl) (by kernel_rfl) (by kernel_rfl) (fun _ _ _ h => h) (Or.inr ⟨by rfl, rfl⟩) hs ?_
        simp only [Act.put, List.setIfInBounds_toArray, List.set_cons_succ, List.set_cons_zero]
        refine wpAnyH_takeD (i := 17) (d := 39) (v := undef) rfl rfl (by kernel_rfl) (by kernel_rfl) (by kernel_rfl) (fun _ _ _ h => h) (Or.inr ⟨by rfl, rfl⟩) hs ?_
        simp only [Act.put, List.setIfInBounds_toArray, List.set_cons_succ, List.set_cons_zero]
        refine wpAnyH_takeD (i := 18) (d := 40) (v := undef) rfl rfl (by kernel_rfl) (by kernel_rfl) (by kernel_rfl) (fun _ _ _ h => h) (Or.inr ⟨by rfl, rfl⟩) hs ?_
        simp only [Act.put, List.setIfInBounds_toArray, List.set_cons_succ, List.set_cons_zero]
        refine wpAnyH_takeD (i := 19) (d := 41) (v := undef) rfl rfl (by kernel_rfl) (by kernel_rfl) (by kernel_rfl) (fun _ _ _ h => h) (Or.inr ⟨by rfl, rfl⟩) hs ?_
        simp only [Act.put, List.setIfInBounds_toArray, List.set_cons_succ, List.set_cons_zero]
        refine wpAnyH_takeD (i := 20) (d := 42) (v := undef) rfl rfl (by kernel_rfl) (by kernel_rfl) (by kernel_rfl) (fun _ _ _ h => h) (Or.inr ⟨by rfl, rfl⟩) hs ?_
        simp only [Act.put, List.setIfInBounds_toArray, List.set_cons_succ, List.set_cons_zero]
        refine wpAnyH_takeD (i := 21) (d := 43) (v := undef) rfl rfl (by kernel_rfl) (by kernel_rfl) (by kernel_rfl) (fun _ _ _ h => h) (Or.inr ⟨by rfl, rfl⟩) hs ?_
        simp only [Act.put, List.setIfInBounds_toArray, List.set_cons_succ, List.set_cons_zero]
        refine wpAnyH_takeD (i := 22) (d := 44) (v := .bool false) rfl rfl (by kernel_rfl) (by kernel_rfl) (by kernel_rfl) (fun _ _ _ h => h) (Or.inl ⟨by rfl, fun W hW => by go_simp⟩) hs ?_
        simp only [Act.put, List.setIfInBounds_toArray, List.set_cons_succ, List.set_cons_zero]
        refine wpAnyH_takeD (i := 23) (d := 4) (v := .bool false) rfl rfl (by kernel_rfl) (by kernel_rfl) (by kernel_rfl) (fun _ _ _ h => h) (Or.inl ⟨by rfl, fun W hW => by go_simp⟩) hs ?_
        simp only [Act.put, List.setIfInBounds_toArray, List.set_cons_succ, List.set_cons_zero]
        refine wpAnyH_done (by kernel_rfl) ?_ _
        go_wp2
        go_ret
        exact ⟨rfl, xA.trans hs⟩
      | true =>
       cases E1 with
       | false =>
        refine wp_region_held_drew (S := fun W => Ext W6 W) (by kernel_rfl) hs (fun _ => ?_)
        refine wpAnyH_takeD (i := 0) (d := 22) rfl rfl (by kernel_rfl) (by kernel_rfl) (by kernel_rfl) (fun _ _ _ h => h) (yieldsIf_load_row (by rfl) 37 (.tmp 3) rfl (w.heap.size + 1) rfl 37 _ (0, 0) _ (fun w' hw' => (HR.out _ hw').1) Tryz.underlying37 rfl (by kernel_rfl)) hs ?_
        simp only [Act.put, List.setIfInBounds_toArray, List.set_cons_succ, List.set_cons_zero]
        refine wpAnyH_takeD (i := 2) (d := 24) rfl rfl (by kernel_rfl) (by kernel_rfl) (by kernel_rfl) (fun _ _ _ h => h) (yieldsIf_load_row (by rfl) 37 (.tmp 5) rfl (w5.heap.size) rfl 37 _ (0, 0) _ (fun w' hw' => (HR.out _ hw').2) Tryz.underlying37 rfl (by kernel_rfl)) hs ?_
        simp only [Act.put, List.setIfInBounds_toArray, List.set_cons_succ, List.set_cons_zero]
        refine wpAnyH_ready (rs := [1]) (by kernel_rfl) (by simp) (AllReadyH.cons rfl (fun K hK => ?_) AllReadyH.nil)
        go_simp
        go_at_call 125
        refine (tnumbers_v U T _).mono ?_; rintro e Wc ⟨rfl, y⟩
        go_wp2_with fail
        refine hK.out _ _ (hs.trans y) (fun hs => ?_)
        clear hK K y
        refine wpAnyH_ready (rs := [3]) (by kernel_rfl) (by simp) (AllReadyH.cons rfl (fun K hK => ?_) AllReadyH.nil)
        go_simp
        go_at_call 125
        refine (tnumbers_v X (replT Q) _).mono ?_; rintro e Wc ⟨rfl, y⟩
        go_wp2_with fail
        refine hK.out _ _ (hs.trans y) (fun hs => ?_)
        clear hK K y
        refine wpAnyH_takeD (i := 4) (d := 26) (v := .bool true) rfl rfl (by kernel_rfl) (by kernel_rfl) (by kernel_rfl) (fun _ _ _ h => h) (Or.inl ⟨by rfl, fun W hW => by go_simp⟩) hs ?_
        simp only [Act.put, List.setIfInBounds_toArray, List.set_cons_succ, List.set_cons_zero]
        refine wpAnyH_takeD (i := 5) (d := 27) (v := .bool true) rfl rfl (by kernel_rfl) (by kernel_rfl) (by kernel_rfl) (fun _ _ _ h => h) (Or.inl ⟨by rfl, fun W hW => by go_simp⟩) hs ?_
        simp only [Act.put, List.setIfInBounds_toArray, List.set_cons_succ, List.set_cons_zero]
        refine wpAnyH_takeD (i := 6) (d := 28) (v := .pointer (some ⟨w.heap.size + 1, 7, none⟩)) rfl rfl (by kernel_rfl) (by kernel_rfl) (by kernel_rfl) (fun _ _ _ h => h) (Or.inl ⟨by rfl, fun W hW => by go_simp⟩) hs ?_
        simp only [Act.put, List.setIfInBounds_toArray, List.set_cons_succ, List.set_cons_zero]
        refine wpAnyH_takeD (i := 7) (d := 29) (v := .slice U.a1 T.nb U.d1) rfl rfl (by kernel_rfl) (by kernel_rfl) (by kernel_rfl) (fun _ _ _ h => h) (Or.inl ⟨by rfl, fun W hW => by obtain ⟨c1, c2, c3, c4⟩ := HC.out W hW; go_simp⟩) hs ?_
        simp only [Act.put, List.setIfInBounds_toArray, List.set_cons_succ, List.set_cons_zero]
        refine wpAnyH_takeD (i := 8) (d := 30) (v := .int .i64 T.nb) rfl rfl (by kernel_rfl) (by kernel_rfl) (by kernel_rfl) (fun _ _ _ h => h) (Or.inl ⟨by rfl, fun W hW => by go_simp⟩) hs ?_
        simp only [Act.put, List.setIfInBounds_toArray, List.set_cons_succ, List.set_cons_zero]
        refine wpAnyH_takeD (i := 9) (d := 31) (v := .pointer (some ⟨w5.heap.size, 7, none⟩)) rfl rfl (by kernel_rfl) (by kernel_rfl) (by kernel_rfl) (fun _ _ _ h => h) (Or.inl ⟨by rfl, fun W hW => by go_simp⟩) hs ?_
        simp only [Act.put, List.setIfInBounds_toArray, List.set_cons_succ, List.set_cons_zero]
        refine wpAnyH_takeD (i := 10) (d := 32) (v := .slice X.a1 (replT Q).nb X.d1) rfl rfl (by kernel_rfl) (by kernel_rfl) (by kernel_rfl) (fun _ _ _ h => h) (Or.inl ⟨by rfl, fun W hW => by obtain ⟨c1, c2, c3, c4⟩ := HC.out W hW; go_simp⟩) hs ?_
        simp only [Act.put, List.setIfInBounds_toArray, List.set_cons_succ, List.set_cons_zero]
        refine wpAnyH_takeD (i := 11) (d := 33) (v := .int .i64 ((replT Q).nb : Nat)) rfl rfl (by kernel_rfl) (by kernel_rfl) (by kernel_rfl) (fun _ _ _ h => h) (Or.inl ⟨by rfl, fun W hW => by go_simp⟩) hs ?_
        simp only [Act.put, List.setIfInBounds_toArray, List.set_cons_succ, List.set_cons_zero]
        refine wpAnyH_takeD (i := 12) (d := 34) (v := .bool false) rfl rfl (by kernel_rfl) (by kernel_rfl) (by kernel_rfl) (fun _ _ _ h => h) (Or.inl ⟨by rfl, fun W hW => by go_simp⟩) hs ?_
        simp only [Act.put, List.setIfInBounds_toArray, List.set_cons_succ, List.set_cons_zero]
        refine wpAnyH_takeD (i := 13) (d := 35) (v := .bool false) rfl rfl (by kernel_rfl) (by kernel_rfl) (by kernel_rfl) (fun _ _ _ h => h) (Or.inl ⟨by rfl, fun W hW => by go_simp⟩) hs ?_
        simp only [Act.put, List.setIfInBounds_toArray, List.set_cons_succ, List.set_cons_zero]
        refine wpAnyH_takeD (i := 14) (d := 36) (v := .bool false) rfl rfl (by kernel_rfl) (by kernel_rfl) (by kernel_rfl) (fun _ _ _ h => h) (Or.inl ⟨by rfl, fun W hW => by go_simp⟩) hs ?_
        simp only [Act.put, List.setIfInBounds_toArray, List.set_cons_succ, List.set_cons_zero]
        refine wpAnyH_takeD (i := 15) (d := 37) (v := undef) rfl rfl (by kernel_rfl) (by kernel_rfl) (by kernel_rfl) (fun _ _ _ h => h) (Or.inr ⟨by rfl, rfl⟩) hs ?_
        simp only [Act.put, List.setIfInBounds_toArray, List.set_cons_succ, List.set_cons_zero]
        refine wpAnyH_takeD (i := 16) (d := 38) (v := undef) rfl rfl (by kernel_rfl) (by kernel_rfl) (by kernel_rfl) (fun _ _ _ h => h) (Or.inr ⟨by rfl, rfl⟩) hs ?_
        simp only [Act.put, List.setIfInBounds_toArray, List.set_cons_succ, List.set_cons_zero]
        refine wpAnyH_takeD (i := 17) (d := 39) (v := undef) rfl rfl (by kernel_rfl) (by kernel_rfl) (by kernel_rfl) (fun _ _ _ h => h) (Or.inr ⟨by rfl, rfl⟩) hs ?_
        simp only [Act.put, List.setIfInBounds_toArray, List.set_cons_succ, List.set_cons_zero]
        refine wpAnyH_takeD (i := 18) (d := 40) (v := undef) rfl rfl (by kernel_rfl) (by kernel_rfl) (by kernel_rfl) (fun _ _ _ h => h) (Or.inr ⟨by rfl, rfl⟩) hs ?_
        simp only [Act.put, List.setIfInBounds_toArray, List.set_cons_succ, List.set_cons_zero]
        refine wpAnyH_takeD (i := 19) (d := 41) (v := undef) rfl rfl (by kernel_rfl) (by kernel_rfl) (by kernel_rfl) (fun _ _ _ h => h) (Or.inr ⟨by rfl, rfl⟩) hs ?_
        simp only [Act.put, List.setIfInBounds_toArray, List.set_cons_succ, List.set_cons_zero]
        refine wpAnyH_takeD (i := 20) (d := 42) (v := undef) rfl rfl (by kernel_rfl) (by kernel_rfl) (by kernel_rfl) (fun _ _ _ h => h) (Or.inr ⟨by rfl, rfl⟩) hs ?_
        simp only [Act.put, List.setIfInBounds_toArray, List.set_cons_succ, List.set_cons_zero]
        refine wpAnyH_takeD (i := 21) (d := 43) (v := undef) rfl rfl (by kernel_rfl) (by kernel_rfl) (by kernel_rfl) (fun _ _ _ h => h) (Or.inr ⟨by rfl, rfl⟩) hs ?_
        simp only [Act.put, List.setIfInBounds_toArray, List.set_cons_succ, List.set_cons_zero]
        refine wpAnyH_takeD (i := 22) (d := 44) (v := .bool false) rfl rfl (by kernel_rfl) (by kernel_rfl) (by kernel_rfl) (fun _ _ _ h => h) (Or.inl ⟨by rfl, fun W hW => by go_simp⟩) hs ?_
        simp only [Act.put, List.setIfInBounds_toArray, List.set_cons_succ, List.set_cons_zero]
        refine wpAnyH_takeD (i := 23) (d := 4) (v := .bool false) rfl rfl (by kernel_rfl) (by kernel_rfl) (by kernel_rfl) (fun _ _ _ h => h) (Or.inl ⟨by rfl, fun W hW => by go_simp⟩) hs ?_
        simp only [Act.put, List.setIfInBounds_toArray, List.set_cons_succ, List.set_cons_zero]
        refine wpAnyH_done (by kernel_rfl) ?_ _
        go_wp2
        go_ret
        exact ⟨rfl, xA.trans hs⟩
       | true =>
        refine wp_region_held_drew (S := fun W => Ext W6 W) (by kernel_rfl) hs (fun _ => ?_)
        refine wpAnyH_takeD (i := 0) (d := 22) rfl rfl (by kernel_rfl) (by kernel_rfl) (by kernel_rfl) (fun _ _ _ h => h) (yieldsIf_load_row (by rfl) 37 (.tmp 3) rfl (w.heap.size + 1) rfl 37 _ (0, 0) _ (fun w' hw' => (HR.out _ hw').1) Tryz.underlying37 rfl (by kernel_rfl)) hs ?_
        simp only [Act.put, List.setIfInBounds_toArray, List.set_cons_succ, List.set_cons_zero]
        refine wpAnyH_takeD (i := 2) (d := 24) rfl rfl (by kernel_rfl) (by kernel_rfl) (by kernel_rfl) (fun _ _ _ h => h) (yieldsIf_load_row (by rfl) 37 (.tmp 5) rfl (w5.heap.size) rfl 37 _ (0, 0) _ (fun w' hw' => (HR.out _ hw').2) Tryz.underlying37 rfl (by kernel_rfl)) hs ?_
        simp only [Act.put, List.setIfInBounds_toArray, List.set_cons_succ, List.set_cons_zero]
        refine wpAnyH_ready (rs := [1]) (by kernel_rfl) (by simp) (AllReadyH.cons rfl (fun K hK => ?_) AllReadyH.nil)
        go_simp
        go_at_call 125
        refine (tnumbers_v U T _).mono ?_; rintro e Wc ⟨rfl, y⟩
        go_wp2_with fail
        refine hK.out _ _ (hs.trans y) (fun hs => ?_)
        clear hK K y
        refine wpAnyH_ready (rs := [3]) (by kernel_rfl) (by simp) (AllReadyH.cons rfl (fun K hK => ?_) AllReadyH.nil)
        go_simp
        go_at_call 125
        refine (tnumbers_v X (replT Q) _).mono ?_; rintro e Wc ⟨rfl, y⟩
        go_wp2_with fail
        refine hK.out _ _ (hs.trans y) (fun hs => ?_)
        clear hK K y
        refine wpAnyH_takeD (i := 4) (d := 26) (v := .bool true) rfl rfl (by kernel_rfl) (by kernel_rfl) (by kernel_rfl) (fun _ _ _ h => h) (Or.inl ⟨by rfl, fun W hW => by go_simp⟩) hs ?_
        simp only [Act.put, List.setIfInBounds_toArray, List.set_cons_succ, List.set_cons_zero]
        refine wpAnyH_takeD (i := 5) (d := 27) (v := .bool true) rfl rfl (by kernel_rfl) (by kernel_rfl) (by kernel_rfl) (fun _ _ _ h => h) (Or.inl ⟨by rfl, fun W hW => by go_simp⟩) hs ?_
        simp only [Act.put, List.setIfInBounds_toArray, List.set_cons_succ, List.set_cons_zero]
        refine wpAnyH_takeD (i := 6) (d := 28) (v := .pointer (some ⟨w.heap.size + 1, 7, none⟩)) rfl rfl (by kernel_rfl) (by kernel_rfl) (by kernel_rfl) (fun _ _ _ h => h) (Or.inl ⟨by rfl, fun W hW => by go_simp⟩) hs ?_
        simp only [Act.put, List.setIfInBounds_toArray, List.set_cons_succ, List.set_cons_zero]
        refine wpAnyH_takeD (i := 7) (d := 29) (v := .slice U.a1 T.nb U.d1) rfl rfl (by kernel_rfl) (by kernel_rfl) (by kernel_rfl) (fun _ _ _ h => h) (Or.inl ⟨by rfl, fun W hW => by obtain ⟨c1, c2, c3, c4⟩ := HC.out W hW; go_simp⟩) hs ?_
        simp only [Act.put, List.setIfInBounds_toArray, List.set_cons_succ, List.set_cons_zero]
        refine wpAnyH_takeD (i := 8) (d := 30) (v := .int .i64 T.nb) rfl rfl (by kernel_rfl) (by kernel_rfl) (by kernel_rfl) (fun _ _ _ h => h) (Or.inl ⟨by rfl, fun W hW => by go_simp⟩) hs ?_
        simp only [Act.put, List.setIfInBounds_toArray, List.set_cons_succ, List.set_cons_zero]
        refine wpAnyH_takeD (i := 9) (d := 31) (v := .pointer (some ⟨w5.heap.size, 7, none⟩)) rfl rfl (by kernel_rfl) (by kernel_rfl) (by kernel_rfl) (fun _ _ _ h => h) (Or.inl ⟨by rfl, fun W hW => by go_simp⟩) hs ?_
        simp only [Act.put, List.setIfInBounds_toArray, List.set_cons_succ, List.set_cons_zero]
        refine wpAnyH_takeD (i := 10) (d := 32) (v := .slice X.a1 (replT Q).nb X.d1) rfl rfl (by kernel_rfl) (by kernel_rfl) (by kernel_rfl) (fun _ _ _ h => h) (Or.inl ⟨by rfl, fun W hW => by obtain ⟨c1, c2, c3, c4⟩ := HC.out W hW; go_simp⟩) hs ?_
        simp only [Act.put, List.setIfInBounds_toArray, List.set_cons_succ, List.set_cons_zero]
        refine wpAnyH_takeD (i := 11) (d := 33) (v := .int .i64 ((replT Q).nb : Nat)) rfl rfl (by kernel_rfl) (by kernel_rfl) (by kernel_rfl) (fun _ _ _ h => h) (Or.inl ⟨by rfl, fun W hW => by go_simp⟩) hs ?_
        simp only [Act.put, List.setIfInBounds_toArray, List.set_cons_succ, List.set_cons_zero]
        refine wpAnyH_takeD (i := 12) (d := 34) (v := .bool true) rfl rfl (by kernel_rfl) (by kernel_rfl) (by kernel_rfl) (fun _ _ _ h => h) (Or.inl ⟨by rfl, fun W hW => by go_simp⟩) hs ?_
        simp only [Act.put, List.setIfInBounds_toArray, List.set_cons_succ, List.set_cons_zero]
        refine wpAnyH_takeD (i := 13) (d := 35) (v := .bool true) rfl rfl (by kernel_rfl) (by kernel_rfl) (by kernel_rfl) (fun _ _ _ h => h) (Or.inl ⟨by rfl, fun W hW => by go_simp⟩) hs ?_
        simp only [Act.put, List.setIfInBounds_toArray, List.set_cons_succ, List.set_cons_zero]
        refine wpAnyH_takeD (i := 14) (d := 36) (v := .bool true) rfl rfl (by kernel_rfl) (by kernel_rfl) (by kernel_rfl) (fun _ _ _ h => h) (Or.inl ⟨by rfl, fun W hW => by go_simp⟩) hs ?_
        simp only [Act.put, List.setIfInBounds_toArray, List.set_cons_succ, List.set_cons_zero]
        refine wpAnyH_takeD (i := 15) (d := 37) (v := .pointer (some ⟨w.heap.size + 1, 8, none⟩)) rfl rfl (by kernel_rfl) (by kernel_rfl) (by kernel_rfl) (fun _ _ _ h => h) (Or.inl ⟨by rfl, fun W hW => by go_simp⟩) hs ?_
        simp only [Act.put, List.setIfInBounds_toArray, List.set_cons_succ, List.set_cons_zero]
        refine wpAnyH_takeD (i := 16) (d := 38) (v := .slice U.a2 T.nr U.d2) rfl rfl (by kernel_rfl) (by kernel_rfl) (by kernel_rfl) (fun _ _ _ h => h) (Or.inl ⟨by rfl, fun W hW => by obtain ⟨c1, c2, c3, c4⟩ := HC.out W hW; go_simp⟩) hs ?_
        simp only [Act.put, List.setIfInBounds_toArray, List.set_cons_succ, List.set_cons_zero]
        refine wpAnyH_takeD (i := 17) (d := 39) (v := .int .i64 T.nr) rfl rfl (by kernel_rfl) (by kernel_rfl) (by kernel_rfl) (fun _ _ _ h => h) (Or.inl ⟨by rfl, fun W hW => by go_simp⟩) hs ?_
        simp only [Act.put, List.setIfInBounds_toArray, List.set_cons_succ, List.set_cons_zero]
        refine wpAnyH_takeD (i := 18) (d := 40) (v := .pointer (some ⟨w5.heap.size, 8, none⟩)) rfl rfl (by kernel_rfl) (by kernel_rfl) (by kernel_rfl) (fun _ _ _ h => h) (Or.inl ⟨by rfl, fun W hW => by go_simp⟩) hs ?_
        simp only [Act.put, List.setIfInBounds_toArray, List.set_cons_succ, List.set_cons_zero]
        refine wpAnyH_takeD (i := 19) (d := 41) (v := .slice X.a2 (replT Q).nr X.d2) rfl rfl (by kernel_rfl) (by kernel_rfl) (by kernel_rfl) (fun _ _ _ h => h) (Or.inl ⟨by rfl, fun W hW => by obtain ⟨c1, c2, c3, c4⟩ := HC.out W hW; go_simp⟩) hs ?_
        simp only [Act.put, List.setIfInBounds_toArray, List.set_cons_succ, List.set_cons_zero]
        refine wpAnyH_takeD (i := 20) (d := 42) (v := .int .i64 ((replT Q).nr : Nat)) rfl rfl (by kernel_rfl) (by kernel_rfl) (by kernel_rfl) (fun _ _ _ h => h) (Or.inl ⟨by rfl, fun W hW => by go_simp⟩) hs ?_
        simp only [Act.put, List.setIfInBounds_toArray, List.set_cons_succ, List.set_cons_zero]
        refine wpAnyH_takeD (i := 21) (d := 43) (v := .bool E2) rfl rfl (by kernel_rfl) (by kernel_rfl) (by kernel_rfl) (fun _ _ _ h => h) (Or.inl ⟨by rfl, fun W hW => by go_simp⟩) hs ?_
        simp only [Act.put, List.setIfInBounds_toArray, List.set_cons_succ, List.set_cons_zero]
        refine wpAnyH_takeD (i := 22) (d := 44) (v := .bool E2) rfl rfl (by kernel_rfl) (by kernel_rfl) (by kernel_rfl) (fun _ _ _ h => h) (Or.inl ⟨by rfl, fun W hW => by go_simp⟩) hs ?_
        simp only [Act.put, List.setIfInBounds_toArray, List.set_cons_succ, List.set_cons_zero]
        refine wpAnyH_takeD (i := 23) (d := 4) (v := .bool E2) rfl rfl (by kernel_rfl) (by kernel_rfl) (by kernel_rfl) (fun _ _ _ h => h) (Or.inl ⟨by rfl, fun W hW => by go_simp⟩) hs ?_
        simp only [Act.put, List.setIfInBounds_toArray, List.set_cons_succ, List.set_cons_zero]
        refine wpAnyH_done (by kernel_rfl) ?_ _
        go_wp2
        go_ret
        exact ⟨rfl, xA.trans hs⟩
end Go.Proofs.YtlafnobjfajamaaGreat
namespace Go.Proofs.YtlafnobjfajamaaGreat
open Go.RowKit
set_option linter.unusedVariables false
set_option maxRecDepth 100000

def s17B : Fil := { zeroF with hc := 4 }
def s17F : Fil := newF s17B
def s17G : Fil := srvF s17F 5 (ofL [6, 0, 1, 0, 9])
theorem s17a : bankB s17B = true := by decide
theorem s17b : srvE s17F 5 (ofL [6, 0, 1, 0, 9]) = 0 ∧ srvN s17F 5 (ofL [6, 0, 1, 0, 9]) = 5 := by decide
theorem s17c : srvE s17G 5 (ofL [3, 0, 0, 0, 2]) = 0 ∧ srvN s17G 5 (ofL [3, 0, 0, 0, 2]) = 6 := by decide
theorem s17d : srvE s17G 5 (ofL [3, 0, 3, 0, 2]) = 0 ∧ srvN s17G 5 (ofL [3, 0, 3, 0, 2]) = 2 := by decide
theorem s17e : srvE s17G 1 (ofL [200]) = 15 := by decide
theorem s17f : codE s17G { zeroQ with k := 3, ad := 4, ct := 1 } = 2 := by decide
theorem s17g : Small s17F ∧ Small s17G := ⟨⟨by decide, by decide, by decide, by decide⟩, ⟨by decide, by decide, by decide, by decide⟩⟩
theorem s17h : FilW s17F := ⟨fun i hi => ⟨Int.le_refl 0, by show (0 : Int) < 65536; decide⟩, fun i hi => absurd hi (Nat.not_lt_zero i)⟩
theorem s17i : FilW s17G := ⟨fun i hi => by
  have h4 : i < 4 := hi
  have h : i = 0 ∨ i = 1 ∨ i = 2 ∨ i = 3 := by omega
  rcases h with rfl | rfl | rfl | rfl <;> decide, fun i hi => absurd hi (Nat.not_lt_zero i)⟩
theorem s17j : ∀ i, i < 5 → srvB s17F 5 (ofL [6, 0, 1, 0, 9]) i = ofL [6, 0, 1, 0, 9] i := fun i hi => by
  have h : i = 0 ∨ i = 1 ∨ i = 2 ∨ i = 3 ∨ i = 4 := by omega
  rcases h with rfl | rfl | rfl | rfl | rfl <;> decide
theorem s17k : ∀ i, i < 6 → srvB s17G 5 (ofL [3, 0, 0, 0, 2]) i = ofL [3, 4, 0, 0, 0, 9] i := fun i hi => by
  have h : i = 0 ∨ i = 1 ∨ i = 2 ∨ i = 3 ∨ i = 4 ∨ i = 5 := by omega
  rcases h with rfl | rfl | rfl | rfl | rfl | rfl <;> decide
theorem s17l : ∀ i, i < 2 → srvB s17G 5 (ofL [3, 0, 3, 0, 2]) i = ofL [131, 2] i := fun i hi => by
  have h : i = 0 ∨ i = 1 := by omega
  rcases h with rfl | rfl <;> decide
theorem s17w (l : List Int) (h : ∀ x ∈ l, 0 ≤ x ∧ x < 256) : ∀ i, i < l.length → 0 ≤ ofL l i ∧ ofL l i < 256 := fun i hi => by
  unfold ofL
  rw [List.getD_eq_getElem?_getD, List.getElem?_eq_getElem hi]
  exact h _ (List.getElem_mem _)
theorem s17Q : QstW { zeroQ with k := 3, ad := 4, ct := 1 } := ⟨by decide, by decide, by decide, by decide, by decide, by decide, by decide, by decide, fun i hi => absurd hi (Nat.not_lt_zero i)⟩
theorem told17b (w : World) (z cs : Array Value) (t : TypeId) : Ext w ((w.alloc (.cells z t)).setRow w.heap.size cs) ∧ ((w.alloc (.cells z t)).setRow w.heap.size cs).heap[w.heap.size]? = some (.cells cs t (0, 0)) :=
  ⟨below_setRow (Ext.alloc _ _) (Nat.le_refl _) _, setRow_heap _ _ _ _ _ _ (heap_alloc_new w _)⟩
set_option maxHeartbeats 8000000 in
theorem sure17 (w : World) (hN : FNewC 31) (hS : DServeC 21) (hW : DWritesC 14) (hC : DCodeC 13) :
    Calls Tryz.prog 11 #[] w fun e w' => e = .returned (.bool true) ∧ Ext w w' := by
  have P0 := Lib.hid (fun W => (hN s17B W).mono fun e w' h => (by rw [if_pos s17a, if_pos s17a] at h; obtain ⟨V, h1, h2, h3, _⟩ := h; exact ⟨V, h1, h2, h3⟩ : ∃ V, e = Ending.returned (.tuple #[.agg (filC V s17F), .int .i64 0]) ∧ FilAt w' V s17F ∧ Ext W w'))
  have P1 := Lib.hid (fun W V (h : FilAt W V s17F) => (hS V s17F (some ⟨W.heap.size, 0, none⟩) 5 5 (ofL [6, 0, 1, 0, 9]) (W.alloc (.cells #[.int .u8 6, .int .u8 0, .int .u8 1, .int .u8 0, .int .u8 9] 5)) (h.ext (Ext.alloc _ _)) s17h s17g.1 (Holds.lit W [6, 0, 1, 0, 9] 5 _ rfl 5 rfl) (by omega) (Nat.le_refl _) (by unfold maxLen; omega) (s17w [6, 0, 1, 0, 9] (by decide))).mono fun e w' h => (by obtain ⟨V', G, b, q, h1, h2, h3, h4, h5⟩ := h; rw [s17b.1] at h1 h2; rw [s17b.2] at h1 h4; have h2 := h2 (by decide); subst h2; exact ⟨V', b, q, h1, h3, h4, h5⟩ : ∃ V' b q, e = Ending.returned (.tuple #[.agg (filC V' s17G), .slice b 5 q, .int .i64 0]) ∧ FilAt w' V' s17G ∧ HoldsG (Value.int .u8) w' b 5 (srvB s17F 5 (ofL [6, 0, 1, 0, 9])) ∧ Ext (W.alloc (.cells #[.int .u8 6, .int .u8 0, .int .u8 1, .int .u8 0, .int .u8 9] 5)) w'))
  have P2 := Lib.hid (fun W V (h : FilAt W V s17G) => (hS V s17G (some ⟨W.heap.size, 0, none⟩) 5 5 (ofL [3, 0, 0, 0, 2]) (W.alloc (.cells #[.int .u8 3, .int .u8 0, .int .u8 0, .int .u8 0, .int .u8 2] 5)) (h.ext (Ext.alloc _ _)) s17i s17g.2 (Holds.lit W [3, 0, 0, 0, 2] 5 _ rfl 5 rfl) (by omega) (Nat.le_refl _) (by unfold maxLen; omega) (s17w [3, 0, 0, 0, 2] (by decide))).mono fun e w' h => (by obtain ⟨V', G, b, q, h1, h2, h3, h4, h5⟩ := h; rw [s17c.1] at h1 h2; rw [s17c.2] at h1 h4; have h2 := h2 (by decide); subst h2; exact ⟨V', b, q, h1, h3, h4, h5⟩ : ∃ V' b q, e = Ending.returned (.tuple #[.agg (filC V' (srvF s17G 5 (ofL [3, 0, 0, 0, 2]))), .slice b 6 q, .int .i64 0]) ∧ FilAt w' V' (srvF s17G 5 (ofL [3, 0, 0, 0, 2])) ∧ HoldsG (Value.int .u8) w' b 6 (srvB s17G 5 (ofL [3, 0, 0, 0, 2])) ∧ Ext (W.alloc (.cells #[.int .u8 3, .int .u8 0, .int .u8 0, .int .u8 0, .int .u8 2] 5)) w'))
  have P3 := Lib.hid (fun W V (h : FilAt W V s17G) => (hS V s17G (some ⟨W.heap.size, 0, none⟩) 5 5 (ofL [3, 0, 3, 0, 2]) (W.alloc (.cells #[.int .u8 3, .int .u8 0, .int .u8 3, .int .u8 0, .int .u8 2] 5)) (h.ext (Ext.alloc _ _)) s17i s17g.2 (Holds.lit W [3, 0, 3, 0, 2] 5 _ rfl 5 rfl) (by omega) (Nat.le_refl _) (by unfold maxLen; omega) (s17w [3, 0, 3, 0, 2] (by decide))).mono fun e w' h => (by obtain ⟨V', G, b, q, h1, h2, h3, h4, h5⟩ := h; rw [s17d.1] at h1 h2; rw [s17d.2] at h1 h4; have h2 := h2 (by decide); subst h2; exact ⟨V', b, q, h1, h3, h4, h5⟩ : ∃ V' b q, e = Ending.returned (.tuple #[.agg (filC V' (srvF s17G 5 (ofL [3, 0, 3, 0, 2]))), .slice b 2 q, .int .i64 0]) ∧ FilAt w' V' (srvF s17G 5 (ofL [3, 0, 3, 0, 2])) ∧ HoldsG (Value.int .u8) w' b 2 (srvB s17G 5 (ofL [3, 0, 3, 0, 2])) ∧ Ext (W.alloc (.cells #[.int .u8 3, .int .u8 0, .int .u8 3, .int .u8 0, .int .u8 2] 5)) w'))
  have P4 := Lib.hid (fun W V (h : FilAt W V s17G) => (hS V s17G (some ⟨W.heap.size, 0, none⟩) 1 1 (ofL [200]) (W.alloc (.cells #[.int .u8 200] 5)) (h.ext (Ext.alloc _ _)) s17i s17g.2 (Holds.lit W [200] 5 _ rfl 1 rfl) (by omega) (Nat.le_refl _) (by unfold maxLen; omega) (s17w [200] (by decide))).mono fun e w' h => (by obtain ⟨V', G, b, q, h1, h2, h3, h4, h5⟩ := h; rw [s17e] at h1; exact ⟨V', G, b, _, q, h1, h5⟩ : ∃ V' G b m q, e = Ending.returned (.tuple #[.agg (filC V' G), .slice b m q, .int .i64 15]) ∧ Ext (W.alloc (.cells #[.int .u8 200] 5)) w'))
  have P5 := Lib.hid (fun W => (hW 23 W).mono fun e w' h => (⟨h.1.trans (by rfl), h.2⟩ : e = Ending.returned (.bool true) ∧ Ext W w'))
  have P6 := Lib.hid (fun W => (hW 4 W).mono fun e w' h => (⟨h.1.trans (by rfl), h.2⟩ : e = Ending.returned (.bool false) ∧ Ext W w'))
  have P7 := Lib.hid (fun W V (h : FilAt W V s17G) => (hC V s17G zeroQV { zeroQ with k := 3, ad := 4, ct := 1 } W h s17i s17g.2 (none_at W rfl rfl) s17Q (Nat.zero_le _) (Nat.zero_le _)).mono fun e w' h => (⟨h.1.trans (by rw [s17f]), h.2⟩ : e = Ending.returned (.int .i64 2) ∧ Ext W w'))
  clear hN hS hW hC
  go_enter Tryz.func11, Tryz.ntmps11
  go_upto_region 1 with fail
  go_wp2_with fail
  refine (P0.out w).mono ?_; rintro e w1 ⟨V, rfl, hV, x1⟩
  obtain ⟨W1, hW1, yW1, g1⟩ : ∃ W, W = ((w1.alloc (.cells #[.int .i64 0, .int .i64 0, .int .i64 0, .int .i64 0, .int .i64 0, .int .i64 0, .int .i64 0, .int .i64 0, .int .i64 0, .int .i64 0, .slice none 0 0, .slice none 0 0, .slice none 0 0, .slice none 0 0] 29)).setRow w1.heap.size (filC V s17F)) ∧ Ext w1 W ∧ W.heap[w1.heap.size]? = some (.cells (filC V s17F) 29 (0, 0)) := ⟨_, rfl, told17b _ _ _ _⟩
  go_upto_region 2 with (first
    | (refine wpList_store_row rfl 29 (.tmp 1) (.tmp 19) rfl _ _ rfl rfl 29 _ (heap_new_at _ _ (by first | rfl | simp)) (by kernel_rfl) rfl (by simp [filC, Value.oneCell']) ?_))
  rw [← hW1]
  clear hW1
  have hV := hV.ext yW1
  have x1 := x1.trans yW1
  clear yW1
  generalize w1.heap.size = G_g1 at g1 ⊢
  go_wp2_with (first
    | (refine wpList_load_row rfl 29 (.tmp 1) rfl (G_g1) rfl 29 _ (0, 0) _ g1 Tryz.underlying29 rfl (by kernel_rfl) ?_))
  refine (P1.out W1 V hV).mono ?_; rintro e w2 ⟨U, pb, pq, rfl, hU, hp, zw2⟩
  have zw2 := (Ext.alloc W1 (.cells #[.int .u8 6, .int .u8 0, .int .u8 1, .int .u8 0, .int .u8 9] 5)).trans zw2
  have x2 := x1.trans zw2
  clear zw2 P1
  clear g1 hV
  obtain ⟨W2, hW2, yW2, g3⟩ : ∃ W, W = ((w2.alloc (.cells #[.int .i64 0, .int .i64 0, .int .i64 0, .int .i64 0, .int .i64 0, .int .i64 0, .int .i64 0, .int .i64 0, .int .i64 0, .int .i64 0, .slice none 0 0, .slice none 0 0, .slice none 0 0, .slice none 0 0] 29)).setRow w2.heap.size (filC U s17G)) ∧ Ext w2 W ∧ W.heap[w2.heap.size]? = some (.cells (filC U s17G) 29 (0, 0)) := ⟨_, rfl, told17b _ _ _ _⟩
  go_upto_region 3 with (first
    | (refine wpList_store_row rfl 29 (.tmp 3) (.tmp 25) rfl _ _ rfl rfl 29 _ (heap_new_at _ _ (by first | rfl | simp)) (by kernel_rfl) rfl (by simp [filC, Value.oneCell']) ?_))
  rw [← hW2]
  clear hW2
  have hU := hU.ext yW2
  have hp := hp.ext yW2
  have x2 := x2.trans yW2
  clear yW2
  generalize w2.heap.size = G_g3 at g3 ⊢
  go_wp2_with (first
    | (refine wpList_load_row rfl 29 (.tmp 3) rfl (G_g3) rfl 29 _ (0, 0) _ g3 Tryz.underlying29 rfl (by kernel_rfl) ?_))
  refine (P2.out W2 U hU).mono ?_; rintro e w3 ⟨U3, cb, cq, rfl, -, hc, zw3⟩
  have zw3 := (Ext.alloc W2 (.cells #[.int .u8 3, .int .u8 0, .int .u8 0, .int .u8 0, .int .u8 2] 5)).trans zw3
  have g3 := zw3.block g3
  have hU := hU.ext zw3
  have hp := hp.ext zw3
  have x3 := x2.trans zw3
  clear zw3 P2
  obtain ⟨W3, hW3, yW3, g6⟩ : ∃ W, W = ((w3.alloc (.cells #[.int .i64 0, .int .i64 0, .int .i64 0, .int .i64 0, .int .i64 0, .int .i64 0, .int .i64 0, .int .i64 0, .int .i64 0, .int .i64 0, .slice none 0 0, .slice none 0 0, .slice none 0 0, .slice none 0 0] 29)).setRow w3.heap.size (filC U3 (srvF s17G 5 (ofL [3, 0, 0, 0, 2])))) ∧ Ext w3 W ∧ W.heap[w3.heap.size]? = some (.cells (filC U3 (srvF s17G 5 (ofL [3, 0, 0, 0, 2]))) 29 (0, 0)) := ⟨_, rfl, told17b _ _ _ _⟩
  go_upto_region 4 with (first
    | (refine wpList_store_row rfl 29 (.tmp 6) (.tmp 32) rfl _ _ rfl rfl 29 _ (heap_new_at _ _ (by first | rfl | simp)) (by kernel_rfl) rfl (by simp [filC, Value.oneCell']) ?_))
  rw [← hW3]
  clear hW3
  have g3 := yW3.block g3
  have hU := hU.ext yW3
  have hp := hp.ext yW3
  have hc := hc.ext yW3
  have x3 := x3.trans yW3
  clear yW3
  generalize w3.heap.size = G_g6 at g6 ⊢
  clear g6
  go_wp2_with (first
    | (refine wpList_load_row rfl 29 (.tmp 3) rfl (G_g3) rfl 29 _ (0, 0) _ g3 Tryz.underlying29 rfl (by kernel_rfl) ?_))
  refine (P3.out W3 U hU).mono ?_; rintro e w4 ⟨U4, db, dq, rfl, -, hd, zw4⟩
  have zw4 := (Ext.alloc W3 (.cells #[.int .u8 3, .int .u8 0, .int .u8 3, .int .u8 0, .int .u8 2] 5)).trans zw4
  have g3 := zw4.block g3
  have hU := hU.ext zw4
  have hp := hp.ext zw4
  have hc := hc.ext zw4
  have x4 := x3.trans zw4
  clear zw4 P3
  obtain ⟨W4, hW4, yW4, g9⟩ : ∃ W, W = ((w4.alloc (.cells #[.int .i64 0, .int .i64 0, .int .i64 0, .int .i64 0, .int .i64 0, .int .i64 0, .int .i64 0, .int .i64 0, .int .i64 0, .int .i64 0, .slice none 0 0, .slice none 0 0, .slice none 0 0, .slice none 0 0] 29)).setRow w4.heap.size (filC U4 (srvF s17G 5 (ofL [3, 0, 3, 0, 2])))) ∧ Ext w4 W ∧ W.heap[w4.heap.size]? = some (.cells (filC U4 (srvF s17G 5 (ofL [3, 0, 3, 0, 2]))) 29 (0, 0)) := ⟨_, rfl, told17b _ _ _ _⟩
  go_upto_region 5 with (first
    | (refine wpList_store_row rfl 29 (.tmp 9) (.tmp 39) rfl _ _ rfl rfl 29 _ (heap_new_at _ _ (by first | rfl | simp)) (by kernel_rfl) rfl (by simp [filC, Value.oneCell']) ?_))
  rw [← hW4]
  clear hW4
  have g3 := yW4.block g3
  have hU := hU.ext yW4
  have hp := hp.ext yW4
  have hc := hc.ext yW4
  have hd := hd.ext yW4
  have x4 := x4.trans yW4
  clear yW4
  generalize w4.heap.size = G_g9 at g9 ⊢
  clear g9
  go_wp2_with (first
    | (refine wpList_load_row rfl 29 (.tmp 3) rfl (G_g3) rfl 29 _ (0, 0) _ g3 Tryz.underlying29 rfl (by kernel_rfl) ?_))
  refine (P4.out W4 U hU).mono ?_; rintro e w5 ⟨U5, G5, eb, em, eq, rfl, zw5⟩
  have zw5 := (Ext.alloc W4 (.cells #[.int .u8 200] 5)).trans zw5
  have g3 := zw5.block g3
  have hU := hU.ext zw5
  have hp := hp.ext zw5
  have hc := hc.ext zw5
  have hd := hd.ext zw5
  have x5 := x4.trans zw5
  clear zw5 P4
  obtain ⟨W5, hW5, yW5, g12⟩ : ∃ W, W = ((w5.alloc (.cells #[.int .i64 0, .int .i64 0, .int .i64 0, .int .i64 0, .int .i64 0, .int .i64 0, .int .i64 0, .int .i64 0, .int .i64 0, .int .i64 0, .slice none 0 0, .slice none 0 0, .slice none 0 0, .slice none 0 0] 29)).setRow w5.heap.size (filC U5 G5)) ∧ Ext w5 W ∧ W.heap[w5.heap.size]? = some (.cells (filC U5 G5) 29 (0, 0)) := ⟨_, rfl, told17b _ _ _ _⟩
  go_upto_region 6 with (first
    | (refine wpList_store_row rfl 29 (.tmp 12) (.tmp 46) rfl _ _ rfl rfl 29 _ (heap_new_at _ _ (by first | rfl | simp)) (by kernel_rfl) rfl (by simp [filC, Value.oneCell']) ?_))
  rw [← hW5]
  clear hW5
  have g3 := yW5.block g3
  have hU := hU.ext yW5
  have hp := hp.ext yW5
  have hc := hc.ext yW5
  have hd := hd.ext yW5
  have x5 := x5.trans yW5
  clear yW5
  generalize w5.heap.size = G_g12 at g12 ⊢
  clear g12
  go_wp2_with fail
  have yw6 := Ext.alloc W5 (.cells #[.int .u8 6, .int .u8 0, .int .u8 1, .int .u8 0, .int .u8 9] 5)
  refine (bytes_eq pb (some ⟨W5.heap.size, 0, none⟩) 5 5 pq 5 (srvB s17F 5 (ofL [6, 0, 1, 0, 9])) (ofL [6, 0, 1, 0, 9]) _ (hp.ext yw6) (Holds.lit W5 [6, 0, 1, 0, 9] 5 _ rfl 5 rfl) (by omega) ⟨rfl, s17j⟩).mono ?_; rintro e w6 ⟨rfl, zw6⟩
  have zw6 := yw6.trans zw6
  have g3 := zw6.block g3
  have hU := hU.ext zw6
  have hc := hc.ext zw6
  have hd := hd.ext zw6
  have x6 := x5.trans zw6
  clear zw6 yw6 x5 hp
  go_wp2_with fail
  have yw7 := Ext.alloc w6 (.cells #[.int .u8 3, .int .u8 4, .int .u8 0, .int .u8 0, .int .u8 0, .int .u8 9] 5)
  refine (bytes_eq cb (some ⟨w6.heap.size, 0, none⟩) 6 6 cq 6 (srvB s17G 5 (ofL [3, 0, 0, 0, 2])) (ofL [3, 4, 0, 0, 0, 9]) _ (hc.ext yw7) (Holds.lit w6 [3, 4, 0, 0, 0, 9] 5 _ rfl 6 rfl) (by omega) ⟨rfl, s17k⟩).mono ?_; rintro e w7 ⟨rfl, zw7⟩
  have zw7 := yw7.trans zw7
  have g3 := zw7.block g3
  have hU := hU.ext zw7
  have hd := hd.ext zw7
  have x7 := x6.trans zw7
  clear zw7 yw7 x6 hc
  go_wp2_with fail
  have yw8 := Ext.alloc w7 (.cells #[.int .u8 131, .int .u8 2] 5)
  refine (bytes_eq db (some ⟨w7.heap.size, 0, none⟩) 2 2 dq 2 (srvB s17G 5 (ofL [3, 0, 3, 0, 2])) (ofL [131, 2]) _ (hd.ext yw8) (Holds.lit w7 [131, 2] 5 _ rfl 2 rfl) (by omega) ⟨rfl, s17l⟩).mono ?_; rintro e w8 ⟨rfl, zw8⟩
  have zw8 := yw8.trans zw8
  have g3 := zw8.block g3
  have hU := hU.ext zw8
  have x8 := x7.trans zw8
  clear zw8 yw8 x7 hd
  go_wp2_with fail
  refine (P5.out _).mono ?_; rintro e w9 ⟨rfl, zw9⟩
  go_wp2_with fail
  refine (P6.out _).mono ?_; rintro e wA ⟨rfl, zwA⟩
  have zB := zw9.trans zwA
  have g3 := zB.block g3
  have hU := hU.ext zB
  have x9 := x8.trans zB
  clear P5 P6 zw9 zwA zB x8
  go_wp2_with (first
    | (refine wpList_load_row_g (by rfl) 29 (.tmp 3) rfl (G_g3) rfl 29 _ (0, 0) _ g3 Tryz.underlying29 rfl (by kernel_rfl) ?_))
  refine (P7.out _ U hU).mono ?_; rintro e wC ⟨rfl, zC⟩
  go_wp2
  go_ret
  exact ⟨rfl, x9.trans zC⟩
end Go.Proofs.YtlafnobjfajamaaGreat
namespace Go.Proofs.YtlafnobjfajamaaGreat
open Go.RowKit
set_option linter.unusedVariables false

theorem msk_twice (x a o : Int) : mskQ (mskQ x a o) a o = mskQ x a o := by
  unfold mskQ
  rw [ofInt_vM]
  congr 1
  generalize BitVec.ofInt 16 x = X
  generalize BitVec.ofInt 16 a = A
  generalize BitVec.ofInt 16 o = O
  unfold mskV
  ext i hi
  simp
  cases X[i] <;> cases A[i] <;> cases O[i] <;> rfl
theorem wr_twice {α : Type} (l u v : Nat → α) (f x : Int) (m : Nat) (h : ∀ i, i < m → u i = v i) : wrF (wrF l v f x m) u f x m = wrF l v f x m := by
  funext i
  unfold wrF
  by_cases h1 : i < (x - f).toNat
  · rw [if_pos h1, if_pos h1]
  · rw [if_neg h1, if_neg h1]
    by_cases h2 : i < (x - f).toNat + m
    · rw [if_pos h2, if_pos h2]; exact h _ (by omega)
    · rw [if_neg h2, if_neg h2]
theorem wr_reads {α : Type} (l v : Nat → α) (f x : Int) (m i : Nat) (h : i < m) : rdF (wrF l v f x m) f x i = v i := by
  unfold rdF wrF
  rw [if_neg (by omega), if_pos (by omega), show (x - f).toNat + i - (x - f).toNat = i by omega]
theorem wr_swap {α : Type} (l u v : Nat → α) {f x y : Int} {m n : Nat} (hx : f ≤ x) (hy : f ≤ y) (h : ¬ (x < y + n ∧ y < x + m)) : wrF (wrF l u f x m) v f y n = wrF (wrF l v f y n) u f x m := by
  funext i
  unfold wrF
  obtain ⟨p, hp⟩ : ∃ p : Nat, p = (x - f).toNat := ⟨_, rfl⟩
  obtain ⟨q, hq⟩ : ∃ q : Nat, q = (y - f).toNat := ⟨_, rfl⟩
  have hpq : ¬ (p < q + n ∧ q < p + m) := by omega
  rw [← hp, ← hq]
  by_cases a1 : i < p <;> by_cases a2 : i < p + m <;> by_cases b1 : i < q <;> by_cases b2 : i < q + n <;> simp only [a1, a2, b1, b2, if_true, if_false] <;> (first | rfl | (exfalso; omega))
theorem wr_far {α : Type} (l v : Nat → α) {f x y : Int} {n : Nat} (hx : f ≤ x) (hy : f ≤ y) (h : ¬ (x < y + n ∧ y < x + 1)) : rdF (wrF l v f y n) f x 0 = rdF l f x 0 := by
  unfold rdF wrF
  by_cases b1 : (x - f).toNat + 0 < (y - f).toNat
  · rw [if_pos b1]
  · rw [if_neg b1, if_neg (by omega)]
theorem rd_holds {f c n x k : Int} (h : rdE f c n x k = 0) : holdB f c x k = true ∧ n = c := by
  unfold rdE at h
  by_cases h1 : rgtB f c = true ∧ n = c ∧ 1 ≤ k
  · rw [if_pos h1] at h
    cases hh : holdB f c x k with
    | false => rw [hh, if_neg (by decide)] at h; cases h
    | true => exact ⟨rfl, h1.2.1⟩
  · rw [if_neg h1] at h; cases h
theorem brk_rd {F : Fil} {e x k : Int} (h : brkE F e x k = 0) : e = 0 ∧ meetB F.bf F.bc x k = false := by
  unfold brkE at h
  split at h
  · cases h
  · rename_i hn
    refine ⟨h, ?_⟩
    cases hm : meetB F.bf F.bc x k with
    | false => rfl
    | true => exact absurd ⟨h, hm⟩ hn
theorem bit_holds {F : Fil} {x k : Int} (h : bitE F false x k = 0) : rightB F = true ∧ holdB F.cf F.cc x k = true ∧ (F.nC : Int) = F.cc := by
  cases hr : rightB F with
  | false => rw [(bitE_no false hr).1] at h; cases h
  | true => rw [(bitE_out hr).1] at h; exact ⟨rfl, (rd_holds h).1, (rd_holds h).2⟩
theorem wrd_eq {F : Fil} (hr : rightB F = true) (x k : Int) : wrdE F false x k = brkE F (rdE F.hf F.hc F.nH x k) x k := by unfold wrdE; rw [if_pos hr, if_neg (by decide)]
theorem wrd_holds {F : Fil} {x k : Int} (h : wrdE F false x k = 0) : rightB F = true ∧ holdB F.hf F.hc x k = true ∧ meetB F.bf F.bc x k = false ∧ (F.nH : Int) = F.hc := by
  cases hr : rightB F with
  | false => rw [(wrdE_no false hr).1] at h; cases h
  | true =>
    rw [wrd_eq hr] at h
    obtain ⟨h1, h2⟩ := brk_rd h
    exact ⟨rfl, (rd_holds h1).1, h2, (rd_holds h1).2⟩
theorem bit_ok {F : Fil} {x k : Int} (hr : rightB F = true) (h : holdB F.cf F.cc x k = true) : bitE F false x k = 0 := by
  obtain ⟨hb, h1, -⟩ := (rightB_iff F).1 hr
  rw [(bitE_out hr).1]
  unfold rdE
  rw [if_pos ⟨((bankB_iff F).1 hb).1, h1, by have := (holdB_iff _ _ _ _).1 h; omega⟩, if_pos h]
theorem wrd_ok {F : Fil} {x k : Int} (hr : rightB F = true) (h : holdB F.hf F.hc x k = true) (hm : meetB F.bf F.bc x k = false) : wrdE F false x k = 0 := by
  obtain ⟨hb, h1, h2, h3, h4⟩ := (rightB_iff F).1 hr
  rw [wrd_eq hr]
  have e : rdE F.hf F.hc F.nH x k = 0 := by
    unfold rdE
    rw [if_pos ⟨((bankB_iff F).1 hb).2.2.1, h3, by have := (holdB_iff _ _ _ _).1 h; omega⟩, if_pos h]
  rw [e]
  unfold brkE
  rw [if_neg (fun hh => by rw [hm] at hh; cases hh.2)]
/-- Done twice it is as done once. -/
theorem dat_twice {F : Fil} {Q : Qst} (hq : rightQ Q = true) (hr : rightB F = true) (h0 : datE F Q = 0) (hw : writesB Q.k = true) : datF (datF F Q) Q = datF F Q := by
  have hk := (writes_iff Q.k).1 hw
  obtain ⟨r1, -, r3⟩ := dat_right hq hr
  have h0' : datE (datF F Q) Q = 0 := (r3 Q).trans h0
  by_cases h5 : Q.k = 5 ∨ Q.k = 15
  · have e := (dat_bits hq hr h0 h5).1
    have e' := (dat_bits hq r1 h0' h5).1
    rw [e', e]
    show { F with C := wrF (wrF F.C (wrB Q) F.cf Q.ad (wrN Q)) (wrB Q) F.cf Q.ad (wrN Q) } = _
    rw [wr_twice _ _ _ _ _ _ (fun _ _ => rfl)]
  · have e := (dat_words hq hr h0 (by omega)).1
    have e' := (dat_words hq r1 h0' (by omega)).1
    rw [e', e]
    show { F with H := wrF (wrF F.H (wrW F Q) F.hf Q.ad (wrN Q)) (wrW { F with H := wrF F.H (wrW F Q) F.hf Q.ad (wrN Q) } Q) F.hf Q.ad (wrN Q) } = _
    rw [wr_twice]
    intro i hi
    unfold wrW
    by_cases h6 : Q.k = 6
    · rw [if_pos h6, if_pos h6]
    rw [if_neg h6, if_neg h6]
    by_cases h22 : Q.k = 22
    · rw [if_pos h22, if_pos h22]
      have hn : wrN Q = 1 := (wrN_int (ask_facts hq)).2.1 (by omega)
      show mskQ (rdF (wrF F.H (fun _ => mskQ (wrdL F false Q.ad 0) Q.an Q.oo) F.hf Q.ad (wrN Q)) F.hf Q.ad 0) Q.an Q.oo = _
      rw [wr_reads _ _ _ _ _ _ (by omega)]
      exact msk_twice _ _ _
    · rw [if_neg h22, if_neg h22]
/-- The ask that reads what was written. -/
def backQ (Q : Qst) : Qst := { zeroQ with k := if Q.k = 5 ∨ Q.k = 15 then 1 else 3, ad := Q.ad, ct := max Q.ct 1 }
theorem back_num {Q : Qst} (a : AskF Q) (hw : writesB Q.k = true) : max Q.ct 1 = (wrN Q : Int) := by
  obtain ⟨n1, n2, -⟩ := wrN_int a
  have hk := (writes_iff Q.k).1 hw
  by_cases h : Q.k = 15 ∨ Q.k = 16 ∨ Q.k = 23
  · rw [n1 h]
    have := a.bt; have := a.wd
    omega
  · rw [a.c0 (by omega), n2 (by omega)]; rfl
theorem back_right {Q : Qst} (hq : rightQ Q = true) (hw : writesB Q.k = true) : rightQ (backQ Q) = true := by
  have a := ask_facts hq
  have hk := (writes_iff Q.k).1 hw
  have h1 := a.bt; have h2 := a.wd; have h3 := a.c0; have h4 := a.ad
  refine (rightQ_iff _).2 ⟨(known_iff _).2 ?_, ?_, h4, ?_⟩
  · have e : (backQ Q).k = 1 ∨ (backQ Q).k = 3 := by
      unfold backQ
      by_cases h5 : Q.k = 5 ∨ Q.k = 15
      · exact .inl (if_pos h5)
      · exact .inr (if_neg h5)
    omega
  · unfold onlyP backQ
    by_cases h5 : Q.k = 5 ∨ Q.k = 15
    · simp (config := { decide := true }) [h5, zeroQ]
    · simp (config := { decide := true }) [h5, zeroQ]
  · unfold fitsB backQ
    by_cases h5 : Q.k = 5 ∨ Q.k = 15
    · simp (config := { decide := true }) only [h5, if_true]
      exact (inB_iff _ _ _).2 (by omega)
    · simp (config := { decide := true }) only [h5, if_true, if_false]
      exact (inB_iff _ _ _).2 (by omega)
/-- What was written is read. -/
theorem back_bits {F : Fil} {Q : Qst} (hq : rightQ Q = true) (hr : rightB F = true) (h0 : datE F Q = 0) (hk : Q.k = 5 ∨ Q.k = 15) : datE (datF F Q) (backQ Q) = 0 ∧ (datT (datF F Q) (backQ Q)).nb = wrN Q ∧ (datT (datF F Q) (backQ Q)).cd = 0 ∧ ∀ i, i < wrN Q → (datT (datF F Q) (backQ Q)).B i = wrB Q i := by
  have a := ask_facts hq
  have hw : writesB Q.k = true := (writes_iff _).2 (by omega)
  have hn := back_num a hw
  obtain ⟨e1, e2⟩ := dat_bits hq hr h0 hk
  have hbk : (backQ Q).k = 1 := by show (if Q.k = 5 ∨ Q.k = 15 then (1 : Int) else 3) = 1; rw [if_pos hk]
  have hE : datE (datF F Q) (backQ Q) = 0 := by
    rw [(dat_right hq hr).2.2]
    unfold datE
    rw [if_pos (.inl hbk), hbk]
    show bitE F false Q.ad (max Q.ct 1) = 0
    rw [hn]; exact e2
  have hT : datT (datF F Q) (backQ Q) = { zeroT with k := (backQ Q).k, nb := bitN (datF F Q) false Q.ad (max Q.ct 1), B := bitL (datF F Q) false Q.ad } := by
    unfold datT
    rw [if_neg (fun h => h hE), if_pos (.inl hbk), hbk]
    rfl
  have hN : bitN (datF F Q) false Q.ad (max Q.ct 1) = wrN Q := by
    have e3 : bitE (datF F Q) false Q.ad (max Q.ct 1) = 0 := by rw [e1, hn]; exact e2
    unfold bitN
    rw [if_pos e3, hn, Int.toNat_natCast]
  refine ⟨hE, by rw [hT]; exact hN, by rw [hT]; rfl, fun i hi => ?_⟩
  rw [hT, e1]
  exact wr_reads F.C (wrB Q) F.cf Q.ad (wrN Q) i hi
theorem back_words {F : Fil} {Q : Qst} (hq : rightQ Q = true) (hr : rightB F = true) (h0 : datE F Q = 0) (hk : Q.k = 6 ∨ Q.k = 16 ∨ Q.k = 22 ∨ Q.k = 23) : datE (datF F Q) (backQ Q) = 0 ∧ (datT (datF F Q) (backQ Q)).nr = wrN Q ∧ (datT (datF F Q) (backQ Q)).cd = 0 ∧ ∀ i, i < wrN Q → (datT (datF F Q) (backQ Q)).R i = wrW F Q i := by
  have a := ask_facts hq
  have hw : writesB Q.k = true := (writes_iff _).2 (by omega)
  have hn := back_num a hw
  obtain ⟨e1, e2⟩ := dat_words hq hr h0 hk
  have hbk : (backQ Q).k = 3 := by show (if Q.k = 5 ∨ Q.k = 15 then (1 : Int) else 3) = 3; rw [if_neg (by omega)]
  have hE : datE (datF F Q) (backQ Q) = 0 := by
    rw [(dat_right hq hr).2.2]
    unfold datE
    rw [if_neg (by omega), if_pos (.inl hbk), hbk]
    show wrdE F false Q.ad (max Q.ct 1) = 0
    rw [hn]; exact e2
  have hT : datT (datF F Q) (backQ Q) = { zeroT with k := (backQ Q).k, nr := wrdN (datF F Q) false Q.ad (max Q.ct 1), R := wrdL (datF F Q) false Q.ad } := by
    unfold datT
    rw [if_neg (fun h => h hE), if_neg (by omega), if_pos (.inl hbk), hbk]
    rfl
  have hN : wrdN (datF F Q) false Q.ad (max Q.ct 1) = wrN Q := by
    have e3 : wrdE (datF F Q) false Q.ad (max Q.ct 1) = 0 := by rw [e1, hn]; exact e2
    unfold wrdN
    rw [if_pos e3, hn, Int.toNat_natCast]
  refine ⟨hE, by rw [hT]; exact hN, by rw [hT]; rfl, fun i hi => ?_⟩
  rw [hT, e1]
  exact wr_reads F.H (wrW F Q) F.hf Q.ad (wrN Q) i hi
/-- Two writes apart. -/
theorem dat_swap {F : Fil} {A B : Qst} (ha : rightQ A = true) (hb : rightQ B = true) (hr : rightB F = true) (wa : writesB A.k = true) (wb : writesB B.k = true)
    (hap : ((decide (A.k = 5 ∨ A.k = 15) : Bool) = decide (B.k = 5 ∨ B.k = 15)) → ¬ (A.ad < B.ad + max B.ct 1 ∧ B.ad < A.ad + max A.ct 1)) : datF (datF F A) B = datF (datF F B) A := by
  obtain ⟨ra, -, ea⟩ := dat_right ha hr
  obtain ⟨rb, -, eb⟩ := dat_right hb hr
  by_cases h0 : datE F A = 0
  · by_cases g0 : datE F B = 0
    · have h0' : datE (datF F B) A = 0 := (eb A).trans h0
      have g0' : datE (datF F A) B = 0 := (ea B).trans g0
      have ka := (writes_iff A.k).1 wa
      have kb := (writes_iff B.k).1 wb
      rw [back_num (ask_facts ha) wa, back_num (ask_facts hb) wb] at hap
      by_cases a5 : A.k = 5 ∨ A.k = 15
      · obtain ⟨e1, p1⟩ := dat_bits ha hr h0 a5
        obtain ⟨e2, -⟩ := dat_bits ha rb h0' a5
        by_cases b5 : B.k = 5 ∨ B.k = 15
        · obtain ⟨e3, p3⟩ := dat_bits hb hr g0 b5
          obtain ⟨e4, -⟩ := dat_bits hb ra g0' b5
          have hd := hap (by rw [decide_eq_true a5, decide_eq_true b5])
          have q1 := (holdB_iff _ _ _ _).1 (bit_holds p1).2.1
          have q3 := (holdB_iff _ _ _ _).1 (bit_holds p3).2.1
          rw [e4, e2, e1, e3]
          show { F with C := wrF (wrF F.C (wrB A) F.cf A.ad (wrN A)) (wrB B) F.cf B.ad (wrN B) } = { F with C := wrF (wrF F.C (wrB B) F.cf B.ad (wrN B)) (wrB A) F.cf A.ad (wrN A) }
          rw [wr_swap _ _ _ (by omega) (by omega) hd]
        · obtain ⟨e3, -⟩ := dat_words hb hr g0 (by omega)
          obtain ⟨e4, -⟩ := dat_words hb ra g0' (by omega)
          rw [e4, e2, e1, e3]
          rfl
      · obtain ⟨e1, p1⟩ := dat_words ha hr h0 (by omega)
        obtain ⟨e2, -⟩ := dat_words ha rb h0' (by omega)
        by_cases b5 : B.k = 5 ∨ B.k = 15
        · obtain ⟨e3, -⟩ := dat_bits hb hr g0 b5
          obtain ⟨e4, -⟩ := dat_bits hb ra g0' b5
          rw [e4, e2, e1, e3]
          rfl
        · obtain ⟨e3, p3⟩ := dat_words hb hr g0 (by omega)
          obtain ⟨e4, -⟩ := dat_words hb ra g0' (by omega)
          have hd := hap (by rw [decide_eq_false a5, decide_eq_false b5])
          have q1 := (holdB_iff _ _ _ _).1 (wrd_holds p1).2.1
          have q3 := (holdB_iff _ _ _ _).1 (wrd_holds p3).2.1
          have n1 := wrN_int (ask_facts ha)
          have n3 := wrN_int (ask_facts hb)
          have v4 : wrW (datF F A) B = wrW F B := by
            unfold wrW
            split
            · rfl
            · split
              · rename_i h22
                have hn : wrN B = 1 := n3.2.1 (by omega)
                funext _
                congr 1
                rw [e1]
                exact wr_far F.H (wrW F A) (f := F.hf) (x := B.ad) (y := A.ad) (n := wrN A) (by omega) (by omega) (by omega)
              · rfl
          have v2 : wrW (datF F B) A = wrW F A := by
            unfold wrW
            split
            · rfl
            · split
              · rename_i h22
                have hn : wrN A = 1 := n1.2.1 (by omega)
                funext _
                congr 1
                rw [e3]
                exact wr_far F.H (wrW F B) (f := F.hf) (x := A.ad) (y := B.ad) (n := wrN B) (by omega) (by omega) (by omega)
              · rfl
          rw [e4, e2, v4, v2, e1, e3]
          show { F with H := wrF (wrF F.H (wrW F A) F.hf A.ad (wrN A)) (wrW F B) F.hf B.ad (wrN B) } = { F with H := wrF (wrF F.H (wrW F B) F.hf B.ad (wrN B)) (wrW F A) F.hf A.ad (wrN A) }
          rw [wr_swap _ _ _ (by omega) (by omega) hd]
    · have g0' : datE (datF F A) B ≠ 0 := by rw [ea B]; exact g0
      rw [(datF_no g0').1, (datF_no g0).1]
  · have h0' : datE (datF F B) A ≠ 0 := by rw [eb A]; exact h0
    rw [(datF_no h0').1, (datF_no h0).1]
end Go.Proofs.YtlafnobjfajamaaGreat
