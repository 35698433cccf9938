/-
  THE LAWS OF LAYER 18: like (a state against the document's), sure (package diag's contracts as premises).
-/
import Derived.Test.YtchdgodmncckcaaDiaC
import Derived.Test.YtchdgodmncckcaaDiaS
import Derived.Test.YtchdgodmncckcaaSame
import Derived.Test.YtchdgodmncckcaaLater
namespace Go.Proofs.Ytchdgodmncckcaa
open Go.RowKit
set_option linter.unusedVariables false
set_option maxRecDepth 100000
variable {DS : World → Nat → (Nat → Prop) → Dia → Prop}

set_option maxHeartbeats 8000000 in
theorem like18_v (K : DiagC DS) (p : Nat) (F : Nat → Prop) (D : Dia) (w : World) (h : DS w p F D) : Calls Try.prog 14 #[.pointer (some ⟨p, 0, none⟩), .agg (diaC D)] w fun e w' => e = .returned (.bool true) ∧ Ext w w' := by
  obtain ⟨W2, hW2, e0, g2⟩ : ∃ W2, W2 = w.alloc (.cells (diaC D) 29) ∧ Ext w W2 ∧ W2.heap[w.heap.size]? = some (.cells (diaC D) 29 (0, 0)) := ⟨_, rfl, Ext.alloc w _, heap_alloc_new w _⟩
  have hd : Ext W2 W2.drew := Ext.drew W2
  have HC := Lib.hid (fun W (x : Ext W2 W) => (⟨cell_of_heap (x.block g2) rfl, cell_of_heap (x.block g2) rfl, cell_of_heap (x.block g2) rfl⟩ : W.cell? ⟨w.heap.size, 8, none⟩ = some (.int .u16 D.reg) ∧ W.cell? ⟨w.heap.size, 9, none⟩ = some (.bool D.li) ∧ W.cell? ⟨w.heap.size, 10, none⟩ = some (.int .u8 D.de)))
  have HR := Lib.hid (fun W (x : Ext W2 W) => (.inr ⟨w.heap.size, 0, rfl, heap_lt (x.block g2), fun i hi => by rw [Nat.zero_add]; exact dia_cell (x.block g2) i hi⟩ : Holds .u16 W (some ⟨w.heap.size, 0, none⟩) 8 D.C))
  have KA := Lib.hid (fun W (x : Ext W2 W) => K.all p F D W (K.ext h (e0.trans x)))
  have KL := Lib.hid (fun W (x : Ext W2 W) => K.listening p F D W (K.ext h (e0.trans x)))
  have KG := Lib.hid (fun W (x : Ext W2 W) => K.register p F D W (K.ext h (e0.trans x)))
  have KD := Lib.hid (fun W (x : Ext W2 W) => K.delim p F D W (K.ext h (e0.trans x)))
  clear h K g2
  go_enter Try.func14, Try.ntmps14
  go_upto_region 1 with fail
  rw [← hW2]
  clear hW2
  have hs := hd
  refine wp_region_held_drew (S := fun W => Ext W2 W) (by kernel_rfl) hs (fun _ => ?_)
  refine wpAnyH_takeD (i := 0) (d := 5) (v := .pointer (some ⟨p, 0, none⟩)) rfl rfl (by kernel_rfl) (by kernel_rfl) (by kernel_rfl) (fun _ _ _ h => h) (Or.inl ⟨by rfl, fun W hW => by go_simp⟩) hs ?_
  simp only [Act.put, List.setIfInBounds_toArray, List.set_cons_succ, List.set_cons_zero]
  refine wpAnyH_takeD (i := 2) (d := 7) (v := .pointer (some ⟨w.heap.size, 0, none⟩)) rfl rfl (by kernel_rfl) (by kernel_rfl) (by kernel_rfl) (fun _ _ _ h => h) (Or.inl ⟨by rfl, fun W hW => by go_simp⟩) hs ?_
  simp only [Act.put, List.setIfInBounds_toArray, List.set_cons_succ, List.set_cons_zero]
  refine wpAnyH_takeD (i := 3) (d := 8) (v := .slice (some ⟨w.heap.size, 0, none⟩) 8 8) rfl rfl (by kernel_rfl) (by kernel_rfl) (by kernel_rfl) (fun _ _ _ h => h) (Or.inl ⟨by rfl, fun W hW => by go_simp⟩) hs ?_
  simp only [Act.put, List.setIfInBounds_toArray, List.set_cons_succ, List.set_cons_zero]
  refine wpAnyH_ready (rs := [1]) (by kernel_rfl) (by simp) (AllReadyH.cons rfl (fun K hK => ?_) AllReadyH.nil)
  go_simp
  refine (KA.out _ hs).mono ?_; rintro e w3 ⟨ab, aq, rfl, ha, x3⟩
  go_wp2_with fail
  have y3 := hs.trans x3
  refine hK.out _ _ y3 (fun hs => ?_)
  clear hK K x3
  refine wpAnyH_ready (rs := [4]) (by kernel_rfl) (by simp) (AllReadyH.cons rfl (fun K hK => ?_) AllReadyH.nil)
  go_simp
  refine (words_eq ab (some ⟨w.heap.size, 0, none⟩) 8 8 aq 8 D.C D.C _ ha (HR.out _ hs) (by decide) ⟨rfl, fun _ _ => rfl⟩).mono ?_; rintro e w4 ⟨rfl, q4⟩
  go_wp2_with fail
  have y4 := hs.trans q4
  refine hK.out _ _ y4 (fun hs => ?_)
  clear hK K q4
  refine wpAnyH_takeD (i := 5) (d := 10) (v := .bool true) rfl rfl (by kernel_rfl) (by kernel_rfl) (by kernel_rfl) (fun _ _ _ h => h) (Or.inl ⟨by rfl, fun W hW => by go_simp⟩) hs ?_
  simp only [Act.put, List.setIfInBounds_toArray, List.set_cons_succ, List.set_cons_zero]
  refine wpAnyH_takeD (i := 6) (d := 11) (v := .pointer (some ⟨p, 0, none⟩)) rfl rfl (by kernel_rfl) (by kernel_rfl) (by kernel_rfl) (fun _ _ _ h => h) (Or.inl ⟨by rfl, fun W hW => by go_simp⟩) hs ?_
  simp only [Act.put, List.setIfInBounds_toArray, List.set_cons_succ, List.set_cons_zero]
  refine wpAnyH_takeD (i := 8) (d := 13) (v := .pointer (some ⟨w.heap.size, 9, none⟩)) rfl rfl (by kernel_rfl) (by kernel_rfl) (by kernel_rfl) (fun _ _ _ h => h) (Or.inl ⟨by rfl, fun W hW => by go_simp⟩) hs ?_
  simp only [Act.put, List.setIfInBounds_toArray, List.set_cons_succ, List.set_cons_zero]
  refine wpAnyH_takeD (i := 9) (d := 14) (v := .bool D.li) rfl rfl (by kernel_rfl) (by kernel_rfl) (by kernel_rfl) (fun _ _ _ h => h) (Or.inl ⟨by rfl, fun W hW => by obtain ⟨k8, k9, k10⟩ := HC.out W hW; go_simp⟩) hs ?_
  simp only [Act.put, List.setIfInBounds_toArray, List.set_cons_succ, List.set_cons_zero]
  refine wpAnyH_ready (rs := [7]) (by kernel_rfl) (by simp) (AllReadyH.cons rfl (fun K hK => ?_) AllReadyH.nil)
  go_simp
  refine (KL.out _ hs).mono ?_; rintro e w5 ⟨rfl, x5⟩
  go_wp2_with fail
  have y5 := hs.trans x5
  refine hK.out _ _ y5 (fun hs => ?_)
  clear hK K x5
  refine wpAnyH_takeD (i := 10) (d := 15) (v := .bool true) rfl rfl (by kernel_rfl) (by kernel_rfl) (by kernel_rfl) (fun _ _ _ h => h) (Or.inl ⟨by rfl, fun W hW => by go_simp⟩) hs ?_
  simp only [Act.put, List.setIfInBounds_toArray, List.set_cons_succ, List.set_cons_zero]
  refine wpAnyH_takeD (i := 11) (d := 16) (v := .bool true) rfl rfl (by kernel_rfl) (by kernel_rfl) (by kernel_rfl) (fun _ _ _ h => h) (Or.inl ⟨by rfl, fun W hW => by go_simp⟩) hs ?_
  simp only [Act.put, List.setIfInBounds_toArray, List.set_cons_succ, List.set_cons_zero]
  refine wpAnyH_takeD (i := 12) (d := 17) (v := .bool true) rfl rfl (by kernel_rfl) (by kernel_rfl) (by kernel_rfl) (fun _ _ _ h => h) (Or.inl ⟨by rfl, fun W hW => by go_simp⟩) hs ?_
  simp only [Act.put, List.setIfInBounds_toArray, List.set_cons_succ, List.set_cons_zero]
  refine wpAnyH_takeD (i := 13) (d := 18) (v := .pointer (some ⟨p, 0, none⟩)) rfl rfl (by kernel_rfl) (by kernel_rfl) (by kernel_rfl) (fun _ _ _ h => h) (Or.inl ⟨by rfl, fun W hW => by go_simp⟩) hs ?_
  simp only [Act.put, List.setIfInBounds_toArray, List.set_cons_succ, List.set_cons_zero]
  refine wpAnyH_takeD (i := 15) (d := 20) (v := .pointer (some ⟨w.heap.size, 8, none⟩)) rfl rfl (by kernel_rfl) (by kernel_rfl) (by kernel_rfl) (fun _ _ _ h => h) (Or.inl ⟨by rfl, fun W hW => by go_simp⟩) hs ?_
  simp only [Act.put, List.setIfInBounds_toArray, List.set_cons_succ, List.set_cons_zero]
  refine wpAnyH_takeD (i := 16) (d := 21) (v := .int .u16 D.reg) rfl rfl (by kernel_rfl) (by kernel_rfl) (by kernel_rfl) (fun _ _ _ h => h) (Or.inl ⟨by rfl, fun W hW => by obtain ⟨k8, k9, k10⟩ := HC.out W hW; go_simp⟩) hs ?_
  simp only [Act.put, List.setIfInBounds_toArray, List.set_cons_succ, List.set_cons_zero]
  refine wpAnyH_ready (rs := [14]) (by kernel_rfl) (by simp) (AllReadyH.cons rfl (fun K hK => ?_) AllReadyH.nil)
  go_simp
  refine (KG.out _ hs).mono ?_; rintro e w6 ⟨rfl, x6⟩
  go_wp2_with fail
  have y6 := hs.trans x6
  refine hK.out _ _ y6 (fun hs => ?_)
  clear hK K x6
  refine wpAnyH_takeD (i := 17) (d := 22) (v := .bool true) rfl rfl (by kernel_rfl) (by kernel_rfl) (by kernel_rfl) (fun _ _ _ h => h) (Or.inl ⟨by rfl, fun W hW => by go_simp⟩) hs ?_
  simp only [Act.put, List.setIfInBounds_toArray, List.set_cons_succ, List.set_cons_zero]
  refine wpAnyH_takeD (i := 18) (d := 23) (v := .bool true) rfl rfl (by kernel_rfl) (by kernel_rfl) (by kernel_rfl) (fun _ _ _ h => h) (Or.inl ⟨by rfl, fun W hW => by go_simp⟩) hs ?_
  simp only [Act.put, List.setIfInBounds_toArray, List.set_cons_succ, List.set_cons_zero]
  refine wpAnyH_takeD (i := 19) (d := 24) (v := .bool true) rfl rfl (by kernel_rfl) (by kernel_rfl) (by kernel_rfl) (fun _ _ _ h => h) (Or.inl ⟨by rfl, fun W hW => by go_simp⟩) hs ?_
  simp only [Act.put, List.setIfInBounds_toArray, List.set_cons_succ, List.set_cons_zero]
  refine wpAnyH_takeD (i := 20) (d := 25) (v := .pointer (some ⟨p, 0, none⟩)) rfl rfl (by kernel_rfl) (by kernel_rfl) (by kernel_rfl) (fun _ _ _ h => h) (Or.inl ⟨by rfl, fun W hW => by go_simp⟩) hs ?_
  simp only [Act.put, List.setIfInBounds_toArray, List.set_cons_succ, List.set_cons_zero]
  refine wpAnyH_takeD (i := 22) (d := 27) (v := .pointer (some ⟨w.heap.size, 10, none⟩)) rfl rfl (by kernel_rfl) (by kernel_rfl) (by kernel_rfl) (fun _ _ _ h => h) (Or.inl ⟨by rfl, fun W hW => by go_simp⟩) hs ?_
  simp only [Act.put, List.setIfInBounds_toArray, List.set_cons_succ, List.set_cons_zero]
  refine wpAnyH_takeD (i := 23) (d := 28) (v := .int .u8 D.de) rfl rfl (by kernel_rfl) (by kernel_rfl) (by kernel_rfl) (fun _ _ _ h => h) (Or.inl ⟨by rfl, fun W hW => by obtain ⟨k8, k9, k10⟩ := HC.out W hW; go_simp⟩) hs ?_
  simp only [Act.put, List.setIfInBounds_toArray, List.set_cons_succ, List.set_cons_zero]
  refine wpAnyH_ready (rs := [21]) (by kernel_rfl) (by simp) (AllReadyH.cons rfl (fun K hK => ?_) AllReadyH.nil)
  go_simp
  refine (KD.out _ hs).mono ?_; rintro e w7 ⟨rfl, x7⟩
  go_wp2_with fail
  have y7 := hs.trans x7
  refine hK.out _ _ y7 (fun hs => ?_)
  clear hK K x7
  refine wpAnyH_takeD (i := 24) (d := 29) (v := .bool true) rfl rfl (by kernel_rfl) (by kernel_rfl) (by kernel_rfl) (fun _ _ _ h => h) (Or.inl ⟨by rfl, fun W hW => by go_simp⟩) hs ?_
  simp only [Act.put, List.setIfInBounds_toArray, List.set_cons_succ, List.set_cons_zero]
  refine wpAnyH_takeD (i := 25) (d := 30) (v := .bool true) rfl rfl (by kernel_rfl) (by kernel_rfl) (by kernel_rfl) (fun _ _ _ h => h) (Or.inl ⟨by rfl, fun W hW => by go_simp⟩) hs ?_
  simp only [Act.put, List.setIfInBounds_toArray, List.set_cons_succ, List.set_cons_zero]
  refine wpAnyH_takeD (i := 26) (d := 4) (v := .bool true) rfl rfl (by kernel_rfl) (by kernel_rfl) (by kernel_rfl) (fun _ _ _ h => h) (Or.inl ⟨by rfl, fun W hW => by go_simp⟩) hs ?_
  simp only [Act.put, List.setIfInBounds_toArray, List.set_cons_succ, List.set_cons_zero]
  refine wpAnyH_done (by kernel_rfl) ?_ _
  go_wp2_with fail
  go_ret
  exact ⟨rfl, e0.trans y7⟩
theorem OffN.growsG {α : Type} {mk : α → Value} {F G : Nat → Prop} {w : World} {a : Option Addr} {n : Nat} {f : Nat → α} (h : OffN F a n) (k : Grows F G w) (hh : HoldsG mk w a n f) : OffN G a n := by
  rcases h with e | e
  · exact .inl e
  · rcases hh with e2 | ⟨b, off, ha, hlt, _⟩
    · exact .inl e2
    · exact .inr (e.grows k fun p hp => by rw [ha] at hp; cases hp; exact hlt)
theorem HoldsG.keepO {α : Type} {mk : α → Value} {F : Nat → Prop} {w w' : World} {a : Option Addr} {n : Nat} {f : Nat → α} (h : HoldsG mk w a n f) (x : Keep F w w') (ho : OffN F a n) : HoldsG mk w' a n f := by
  rcases ho with e | e
  · exact .inl e
  · exact h.keep x e
/-- A question of four bytes that are laid for it. -/
theorem ask18 (K : DiagC DS) (l : List Int) (hl : l.length = 4) (hb : ∀ x ∈ l, 0 ≤ x ∧ x < 256) (p : Nat) (F : Nat → Prop) (D : Dia) (w : World) (cs : Array Value) (hcs : cs = (l.map (Value.int .u8)).toArray) (h : DS w p F D) :
    Calls Try.prog 8 #[.pointer (some ⟨p, 0, none⟩), .slice (some ⟨w.heap.size, 0, none⟩) 4 4] (w.alloc (.cells cs 5)) fun e w' => ∃ b q G, e = .returned (.tuple #[.slice b (dgM 4 (ofL l)) q, .int .i64 (dgW 4 (ofL l)), .int .i64 (dgE 4 (ofL l))]) ∧ HoldsG (Value.int .u8) w' b (dgM 4 (ofL l)) (dgB D (ofL l)) ∧ OffN G b (dgM 4 (ofL l)) ∧ Keep F (w.alloc (.cells cs 5)) w' ∧ DS w' p G (dgD D 4 (ofL l)) ∧ Grows F G w := by
  have hx := Ext.alloc w (.cells cs 5)
  refine (K.does p F D (some ⟨w.heap.size, 0, none⟩) 4 4 (ofL l) (w.alloc (.cells cs 5)) (K.ext h hx) (Holds.lit w l 5 cs hcs 4 hl.symm) (.inr fun q hq hF => ?_) (by decide) (Nat.le_refl _) (by unfold maxLen; omega) (fun i hi => ?_)).mono ?_
  · cases hq
    have : w.heap.size < w.heap.size := K.lt h _ hF
    omega
  · unfold ofL
    rw [List.getD_eq_getElem?_getD, List.getElem?_eq_getElem (by omega)]
    exact hb _ (List.getElem_mem _)
  · rintro e w' ⟨b, q, G, h1, h2, h3, h4, h5, h6⟩
    exact ⟨b, q, G, h1, h2, h3, h4, h5, fun i hi => (h6 i hi).imp id (fun hh => Nat.le_trans hx.size hh)⟩
def s18D : Dia := cntD newD 0
def s18E : Dia := { s18D with li := true }
def s18F : Dia := { s18D with C := fun _ => 0, li := false }
theorem s18_1 : dgM 4 (ofL [0, 11, 0, 0]) = 4 ∧ dgW 4 (ofL [0, 11, 0, 0]) = 0 ∧ dgE 4 (ofL [0, 11, 0, 0]) = 0 ∧ dgD s18D 4 (ofL [0, 11, 0, 0]) = s18D := ⟨by decide, by decide, by decide, rfl⟩
theorem s18_2 : dgM 4 (ofL [0, 5, 0, 0]) = 0 ∧ dgW 4 (ofL [0, 5, 0, 0]) = 0 ∧ dgE 4 (ofL [0, 5, 0, 0]) = 1 ∧ dgD s18D 4 (ofL [0, 5, 0, 0]) = s18D := ⟨by decide, by decide, by decide, rfl⟩
theorem s18_3 : dgM 4 (ofL [0, 1, 0, 1]) = 0 ∧ dgW 4 (ofL [0, 1, 0, 1]) = 0 ∧ dgE 4 (ofL [0, 1, 0, 1]) = 3 ∧ dgD s18D 4 (ofL [0, 1, 0, 1]) = s18D := ⟨by decide, by decide, by decide, rfl⟩
theorem s18_4 : dgM 4 (ofL [0, 4, 0, 0]) = 0 ∧ dgW 4 (ofL [0, 4, 0, 0]) = 3 ∧ dgE 4 (ofL [0, 4, 0, 0]) = 0 ∧ dgD s18D 4 (ofL [0, 4, 0, 0]) = s18E := ⟨by decide, by decide, by decide, rfl⟩
theorem s18_5 : dgM 4 (ofL [0, 1, 255, 0]) = 4 ∧ dgW 4 (ofL [0, 1, 255, 0]) = 2 ∧ dgE 4 (ofL [0, 1, 255, 0]) = 0 ∧ dgD s18E 4 (ofL [0, 1, 255, 0]) = s18F := ⟨by decide, by decide, by decide, rfl⟩
theorem s18_b : ∀ i, i < 4 → dgB s18D (ofL [0, 11, 0, 0]) i = ofL [0, 11, 0, 1] i := fun i hi => by
  have h : i = 0 ∨ i = 1 ∨ i = 2 ∨ i = 3 := by omega
  rcases h with rfl | rfl | rfl | rfl <;> decide
set_option maxHeartbeats 16000000 in
theorem sure18 (K : DiagC DS) (w : World) : Calls Try.prog 5 #[] w fun e w' => e = .returned (.bool true) ∧ Ext w w' := by
  have HK := Lib.hid K
  have KO := Lib.hid (fun l hl hb p F D w cs hcs h => ask18 K l hl hb p F D w cs hcs h)
  have HS1 := Lib.hid s18_1
  have HS2 := Lib.hid s18_2
  have HS3 := Lib.hid s18_3
  have HS4 := Lib.hid s18_4
  have HS5 := Lib.hid s18_5
  clear K
  go_enter Try.func5, Try.ntmps5
  go_wp2_with fail
  refine (HK.out.new _).mono ?_; rintro e w1 ⟨p, F0, rfl, x1, T1, n1⟩
  go_wp2_with fail
  refine (HK.out.count p F0 newD 0 w1 T1 (by decide)).mono ?_; rintro e w2 ⟨F1, rfl, k2, T2, g2⟩
  have T2 : DS w2 p F1 s18D := T2
  have x2 := x1.keep k2 n1
  have n2 := n1.grows g2 x1
  clear x1 T1 n1 k2 g2
  go_wp2_with fail
  refine (KO.out [0, 11, 0, 0] rfl (by decide) p F1 s18D w2 #[.int .u8 0, .int .u8 11, .int .u8 0, .int .u8 0] rfl T2).mono ?_; rintro e w3 ⟨b1, q1, F2, rfl, hb1, ob1, k1, T3, g1⟩
  rw [HS1.out.1, HS1.out.2.1, HS1.out.2.2.1]
  rw [HS1.out.1] at hb1 ob1
  rw [HS1.out.2.2.2] at T3
  have y1 : Keep F1 w2 w3 := Keep.trans (Keep.of_ext (Ext.alloc w2 (.cells #[.int .u8 0, .int .u8 11, .int .u8 0, .int .u8 0] 5))) k1 (fun _ h => .inl h)
  have x3 := x2.keep y1 n2
  have n3 := n2.grows g1 x2
  clear x2 T2 n2 y1 k1 g1
  have hB := Lib.hid (And.intro hb1 ob1)
  clear hb1 ob1
  go_wp2_with fail
  refine (KO.out [0, 5, 0, 0] rfl (by decide) p F2 s18D w3 #[.int .u8 0, .int .u8 5, .int .u8 0, .int .u8 0] rfl T3).mono ?_; rintro e w4 ⟨b2, q2, F3, rfl, hb2, ob2, k2, T4, g2⟩
  rw [HS2.out.1, HS2.out.2.1, HS2.out.2.2.1]
  rw [HS2.out.1] at hb2 ob2
  rw [HS2.out.2.2.2] at T4
  have y2 : Keep F2 w3 w4 := Keep.trans (Keep.of_ext (Ext.alloc w3 (.cells #[.int .u8 0, .int .u8 5, .int .u8 0, .int .u8 0] 5))) k2 (fun _ h => .inl h)
  have x4 := x3.keep y2 n3
  have n4 := n3.grows g2 x3
  have hB := Lib.hid (And.intro (hB.out.1.keepO y2 hB.out.2) ((hB.out.2).growsG g2 hB.out.1))
  clear x3 T3 n3 y2 k2 g2 hb2 ob2
  go_wp2_with fail
  refine (KO.out [0, 1, 0, 1] rfl (by decide) p F3 s18D w4 #[.int .u8 0, .int .u8 1, .int .u8 0, .int .u8 1] rfl T4).mono ?_; rintro e w5 ⟨b3, q3, F4, rfl, hb3, ob3, k3, T5, g3⟩
  rw [HS3.out.1, HS3.out.2.1, HS3.out.2.2.1]
  rw [HS3.out.1] at hb3 ob3
  rw [HS3.out.2.2.2] at T5
  have y3 : Keep F3 w4 w5 := Keep.trans (Keep.of_ext (Ext.alloc w4 (.cells #[.int .u8 0, .int .u8 1, .int .u8 0, .int .u8 1] 5))) k3 (fun _ h => .inl h)
  have x5 := x4.keep y3 n4
  have n5 := n4.grows g3 x4
  have hB := Lib.hid (And.intro (hB.out.1.keepO y3 hB.out.2) ((hB.out.2).growsG g3 hB.out.1))
  clear x4 T4 n4 y3 k3 g3 hb3 ob3
  go_wp2_with fail
  refine (KO.out [0, 4, 0, 0] rfl (by decide) p F4 s18D w5 #[.int .u8 0, .int .u8 4, .int .u8 0, .int .u8 0] rfl T5).mono ?_; rintro e w6 ⟨b4, q4, F5, rfl, hb4, ob4, k4, T6, g4⟩
  rw [HS4.out.1, HS4.out.2.1, HS4.out.2.2.1]
  rw [HS4.out.1] at hb4 ob4
  rw [HS4.out.2.2.2] at T6
  have y4 : Keep F4 w5 w6 := Keep.trans (Keep.of_ext (Ext.alloc w5 (.cells #[.int .u8 0, .int .u8 4, .int .u8 0, .int .u8 0] 5))) k4 (fun _ h => .inl h)
  have x6 := x5.keep y4 n5
  have n6 := n5.grows g4 x5
  have hB := Lib.hid (And.intro (hB.out.1.keepO y4 hB.out.2) ((hB.out.2).growsG g4 hB.out.1))
  clear x5 T5 n5 y4 k4 g4 hb4 ob4
  go_wp2_with fail
  refine (HK.out.listening p F5 s18E w6 T6).mono ?_; rintro e w7 ⟨rfl, xl⟩
  rw [show s18E.li = true from rfl]
  have T7 := HK.out.ext T6 xl
  have x7 := x6.trans xl
  have n7 : Above w F5 := n6
  have hB := Lib.hid (And.intro (HoldsG.ext hB.out.1 xl) hB.out.2)
  clear x6 T6 n6 xl
  go_wp2_with fail
  refine (KO.out [0, 1, 255, 0] rfl (by decide) p F5 s18E w7 #[.int .u8 0, .int .u8 1, .int .u8 255, .int .u8 0] rfl T7).mono ?_; rintro e w8 ⟨b5, q5, F6, rfl, hb5, ob5, k5, T8, g5⟩
  rw [HS5.out.1, HS5.out.2.1, HS5.out.2.2.1]
  rw [HS5.out.1] at hb5 ob5
  rw [HS5.out.2.2.2] at T8
  have y5 : Keep F5 w7 w8 := Keep.trans (Keep.of_ext (Ext.alloc w7 (.cells #[.int .u8 0, .int .u8 1, .int .u8 255, .int .u8 0] 5))) k5 (fun _ h => .inl h)
  have x8 := x7.keep y5 n7
  have n8 := n7.grows g5 x7
  have hB := Lib.hid (And.intro (hB.out.1.keepO y5 hB.out.2) ((hB.out.2).growsG g5 hB.out.1))
  clear x7 T7 n7 y5 k5 g5 hb5 ob5
  go_wp2_with fail
  refine (HK.out.doNil _).mono ?_; rintro e w9 ⟨bn, mn, qn, rfl, xn⟩
  have T9 := HK.out.ext T8 xn
  have x9 := x8.trans xn
  have hB := Lib.hid (HoldsG.ext hB.out.1 xn)
  clear x8 T8 n8 xn
  go_wp2_with fail
  refine (bytes_eq _ _ 4 4 _ _ (dgB s18D (ofL [0, 11, 0, 0])) (ofL [0, 11, 0, 1]) _ (HoldsG.ext hB.out (Ext.alloc _ _)) (Holds.lit w9 [0, 11, 0, 1] 5 _ rfl 4 rfl) (by decide) ⟨rfl, s18_b⟩).mono ?_; rintro e wA ⟨rfl, xA⟩
  have TA := HK.out.ext T9 ((Ext.alloc w9 _).trans xA)
  have xA := x9.trans ((Ext.alloc w9 _).trans xA)
  clear x9 T9 hB
  go_wp2_with fail
  refine (HK.out.listening p F6 s18F wA TA).mono ?_; rintro e wB ⟨rfl, xB⟩
  rw [show s18F.li = false from rfl]
  have TB := HK.out.ext TA xB
  have xB := xA.trans xB
  clear xA TA
  go_wp2_with fail
  refine (HK.out.delim p F6 s18F wB TB).mono ?_; rintro e wC ⟨rfl, xC⟩
  rw [show s18F.de = 10 from rfl]
  have xC := xB.trans xC
  clear xB TB
  go_wp2_with fail
  refine (HK.out.countNil _).mono ?_; rintro e wD ⟨rfl, xD⟩
  have xD := xC.trans xD
  clear xC
  go_wp2_with fail
  refine (HK.out.listeningNil _).mono ?_; rintro e wE ⟨rfl, xE⟩
  have xE := xD.trans xE
  clear xD
  go_wp2
  go_ret
  exact ⟨rfl, xE⟩
end Go.Proofs.Ytchdgodmncckcaa
