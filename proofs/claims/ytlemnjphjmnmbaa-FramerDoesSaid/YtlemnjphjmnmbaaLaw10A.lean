/-
  THE LAWS OF LAYER 10: the walk of FramerDoes.
-/
import Derived.Test.YtlemnjphjmnmbaaFrZ
import Derived.Test.YtlemnjphjmnmbaaSure10
import Derived.Test.YtlemnjphjmnmbaaOpen10
import Derived.Deep.LoopGhost
namespace Go.Proofs.Ytlemnjphjmnmbaa
open Go.RowKit
set_option linter.unusedVariables false

theorem St.ext {w w' : World} {p : Nat} {F : Nat → Prop} {x : Fr} {a : Option Addr} {n cp : Nat} {L : List Byt} {T : List Seg} (h : St w p F x a n cp L T) (k : Ext w w') : St w' p F x a n cp L T := ⟨h.fr.ext k, h.ref, h.mem.ext k, h.len, h.off⟩
/-- Bytes do not lie where the document's framer lies. -/
theorem RefM.offB {w : World} {B : Nat} {x : Fr} {a a' : Option Addr} {n cp told cp' : Nat} {L : List Byt} {t : TypeId} {fr : Nat × Nat} (hm : RefM w a' cp' L) (hr : w.heap[B]? = some (.cells (refC x a n cp told) t fr)) : OffN (fun i => i = B) a' L.length := by
  rcases hm.holds with e | ⟨b, o, ha, hlt, hc⟩
  · exact .inl (by rw [e]; rfl)
  · cases L with
    | nil => exact .inl rfl
    | cons y L =>
      refine .inr fun q hq e => ?_
      rw [ha] at hq
      cases hq
      simp only at e
      subst e
      have h := hc 0 y rfl 1 (.int .u8 y.2.1) rfl
      rw [cell_of_row _ _ _ _ _ _ hr] at h
      have hlt8 : o + 0 * 3 + 1 < 8 := by
        rcases Nat.lt_or_ge (o + 0 * 3 + 1) 8 with k | k
        · exact k
        · rw [Array.getElem?_eq_none (by simpa [refC] using k)] at h; cases h
      generalize o + 0 * 3 + 1 = k at h hlt8
      unfold refC at h
      rcases (show k = 0 ∨ k = 1 ∨ k = 2 ∨ k = 3 ∨ k = 4 ∨ k = 5 ∨ k = 6 ∨ k = 7 by omega) with rfl | rfl | rfl | rfl | rfl | rfl | rfl | rfl <;> simp at h
/-- Both framers, and where the document's lies. -/
structure StB (w : World) (B p : Nat) (F : Nat → Prop) (x : Fr) (a : Option Addr) (n cp : Nat) (L : List Byt) (T : List Seg) : Prop where
  st : St w p F x a n cp L T
  row : w.heap[B]? = some (.cells (refC x a n cp T.length) 31 (0, 0))
  off : ¬ F B
theorem StB.ext {w w' : World} {B p : Nat} {F : Nat → Prop} {x : Fr} {a : Option Addr} {n cp : Nat} {L : List Byt} {T : List Seg} (h : StB w B p F x a n cp L T) (k : Ext w w') : StB w' B p F x a n cp L T := ⟨h.st.ext k, k.block h.row, h.off⟩
theorem StB.op {w w' : World} {B p p' : Nat} {F F' : Nat → Prop} {x x' : Fr} {a a' : Option Addr} {n n' cp cp' : Nat} {L L' : List Byt} {T T' : List Seg} (h : StB w B p F x a n cp L T) (k : Keep F w w') (s : St w' p' F' x' a' n' cp' L' T') (g : Grows F F' w) :
    w'.heap[B]? = some (.cells (refC x a n cp T.length) 31 (0, 0)) ∧ StB (w'.setRow B (refC x' a' n' cp' T'.length)) B p' F' x' a' n' cp' L' T' := by
  have hlt := heap_lt h.row
  have hr := (k.block B hlt h.off).trans h.row
  have hB : ¬ F' B := fun hf => (g B hf).elim h.off (fun e => by omega)
  have kR : Keep (fun i => i = B) w' (w'.setRow B (refC x' a' n' cp' T'.length)) := Keep.row _ _ _
  exact ⟨hr, ⟨s.fr.keep kR fun i hi e => hB (by rw [← e]; exact hi), s.ref, ⟨s.mem.holds.keepN kR (s.mem.offB hr), s.mem.le, s.mem.max, s.mem.few, s.mem.small⟩, s.len, s.off⟩, setRow_heap _ _ _ _ _ _ hr, hB⟩
set_option maxRecDepth 100000 in
set_option maxHeartbeats 16000000 in
theorem framerDoes.main (c s l u f : Int) (a : Option Addr) (n cp : Nat) (O : List Opc) (w : World) (ha : HoldsL 4 opc w a O) (hO : O.length = n) (hn : n ≤ 320) (hb : ∀ x ∈ O, 0 ≤ x.2.2.1 ∧ x.2.2.1 < 256) (hr : rightB c s l u = true) (h0 : 0 ≤ f) (h1 : f ≤ 1099511627776) :
    Calls Try.prog 3 #[timesC c s l u, .int .i64 f, .slice a n cp] w fun e w' => e = .returned (.bool true) ∧ Ext w w' := by
  have HA := Lib.hid ha
  have HB := Lib.hid hb
  have HO := Lib.hid hO
  have hg : ¬ ((320 : Int) < n) := by omega
  have h0' : ¬ f < 0 := by omega
  have h1' : ¬ 1099511627776 < f := by omega
  have hnew := fun w' => fnew_yes c s l u f w' hr h0 h1
  have hright := fun w' => rright_any c s l u w'
  rw [hr] at hright
  have HOk := Lib.hid (newF_ok hr h0 h1)
  have HRef := Lib.hid (RefR.new (c := c) (s := s) (l := l) (u := u) h0 h1)
  unfold timesC at hnew ⊢
  have HN := Lib.hid hnew
  have HR := Lib.hid hright
  clear ha hb hO hr h0 h1 hnew hright
  go_enter Try.func3, Try.ntmps3
  go_wp2_with fail
  refine (HN.out _).mono ?_; rintro e w1 ⟨p, F, rfl, x1, r1, b1⟩
  have x1w := (Ext.alloc _ _).trans x1
  have b1w := b1.of (Ext.alloc _ _)
  have hT : ∀ w', Ext w1 w' → w'.cell? ⟨w.heap.size, 0, none⟩ = some (.int .i64 c) ∧ w'.cell? ⟨w.heap.size, 1, none⟩ = some (.int .i64 s) ∧ w'.cell? ⟨w.heap.size, 2, none⟩ = some (.int .i64 l) ∧ w'.cell? ⟨w.heap.size, 3, none⟩ = some (.int .i64 u) := fun w' x =>
    ⟨(x1.trans x).made 0 _ rfl, (x1.trans x).made 1 _ rfl, (x1.trans x).made 2 _ rfl, (x1.trans x).made 3 _ rfl⟩
  obtain ⟨m0, m1, m2, m3⟩ := hT _ (Ext.refl _)
  have HT := Lib.hid hT
  clear HN x1 b1 hT
  go_wp2_with fail
  refine (HR.out _).mono ?_; rintro e w2 ⟨rfl, x2⟩
  clear HR m0 m1 m2 m3
  obtain ⟨m0, m1, m2, m3⟩ := HT.out _ x2
  have hlt2 : w.heap.size < w2.heap.size := World.block_lt_of_cell? w2 _ m0
  go_wp2_with fail
  obtain ⟨W, hW⟩ : ∃ W, W = w2.alloc (.cells #[.int .i64 c, .int .i64 s, .int .i64 l, .int .i64 u, .int .i64 f, .int .i64 f, .slice none 0 0, .int .i64 0] 31) := ⟨_, rfl⟩
  obtain ⟨B, hB⟩ : ∃ B, B = w2.heap.size := ⟨_, rfl⟩
  rw [← hW, ← hB]
  have hBw : w.heap.size ≤ B := by rw [hB]; omega
  have hstart : StB W B p F (newF c s l u f) none 0 0 [] [] ∧ Ext w W ∧ Above w F := by
    have xW : Ext w2 W := by rw [hW]; exact Ext.alloc _ _
    refine ⟨⟨⟨r1.ext (x2.trans xW), HRef.out, ⟨.inl rfl, Nat.le_refl _, Nat.zero_le _, Nat.zero_le _, fun _ h => by cases h⟩, rfl, .inl rfl⟩, by rw [hW, hB]; exact heap_alloc_new _ _, fun h => ?_⟩, (x1w.trans x2).trans xW, b1w⟩
    have := r1.lt _ h
    have := x2.size
    omega
  have HStart := Lib.hid hstart
  have HBw := Lib.hid hBw
  clear hW hB m0 m1 m2 m3 hlt2 HT HOk HRef r1 b1w x1w x2 hstart hBw
  go_loopg [7, 9] n (fun h pv iv wr => ∃ (i p : Nat) (F : Nat → Prop) (x : Fr) (a' : Option Addr) (n' cp' : Nat) (L : List Byt) (T : List Seg), i + h = n ∧ iv = .int .i64 i ∧ pv = .pointer (some ⟨p, 0, none⟩) ∧ Hid (StB wr B p F x a' n' cp' L T ∧ x.sg.count ≤ i ∧ n' ≤ i ∧ Ext w wr ∧ Above w F))
  case atStart => exact ⟨0, p, F, newF c s l u f, none, 0, 0, [], [], by omega, rfl, rfl, Lib.hid ⟨HStart.out.1, Int.le_refl _, Nat.le_refl _, HStart.out.2⟩⟩
  case round =>
    clear HStart
    obtain ⟨i, p, F, x, a', n', cp', L, T, hi, rfl, rfl, hh⟩ := hrel
    cases gk with
    | succ h =>
      have hi1 : (i : Int) < n := by omega
      have hlt : i < O.length := by rw [HO.out]; omega
      obtain ⟨ba, oa, rfl, hpa, hca⟩ := HA.out.resolve_left (by intro e; rw [e] at hlt; simp at hlt)
      obtain ⟨⟨k, y0, y1, y2⟩, hy⟩ : ∃ y, O[i]? = some y := ⟨O[i], List.getElem?_eq_getElem hlt⟩
      have hyb := HB.out _ (List.mem_of_getElem? hy)
      have q0 := hca i _ hy 0 _ rfl
      have q1 := hca i _ hy 1 _ rfl
      have q2 := hca i _ hy 2 _ rfl
      have q3 := hca i _ hy 3 _ rfl
      simp only at q0 q1 q2 q3 hyb
      obtain ⟨hst, hcnt, hn', xw, ab⟩ := hh.out
      have hop := op_any p F x a' n' cp' L T k y0 y1 y2 wr.drew (hst.st.ext (Ext.drew _)) (by omega) (by omega) hyb.1 hyb.2
      have hrow := hst.row
      have HStep := Lib.hid (fun w9 p2 F2 x2 a2 n2 cp2 L2 T2 (k9 : Keep F wr.drew w9) (s9 : St w9 p2 F2 x2 a2 n2 cp2 L2 T2) (g9 : Grows F F2 wr.drew) => (hst.ext (Ext.drew _)).op k9 s9 g9)
      have HLt := Lib.hid hst.st.fr.lt
      have HBlt := Lib.hid (heap_lt hst.row)
      have HOff := Lib.hid hst.off
      have HCnt := Lib.hid (And.intro hcnt hn')
      have HXw := Lib.hid xw
      have HAb := Lib.hid ab
      obtain ⟨c1, s1, l1, u1, f1, t1, sg1⟩ := x
      rw [show refC ⟨c1, s1, l1, u1, f1, t1, sg1⟩ a' n' cp' T.length = #[.int .i64 c1, .int .i64 s1, .int .i64 l1, .int .i64 u1, .int .i64 f1, .int .i64 t1, .slice a' n' cp', .int .i64 T.length] from rfl] at hop hrow
      generalize T.length = told at hop hrow
      have HOp := Lib.hid hop
      have hopsS : ∀ w', Keep (fun i => F i ∨ i = B) wr w' → w'.cell? ⟨ba, oa + i * 4, none⟩ = some (.int .i64 k) ∧ w'.cell? ⟨ba, oa + i * 4 + 1, none⟩ = some (.int .i64 y0) ∧ w'.cell? ⟨ba, oa + i * 4 + 2, none⟩ = some (.int .u8 y1) ∧ w'.cell? ⟨ba, oa + i * 4 + 3, none⟩ = some (.bool y2) := by
        intro w' kk
        have hn : ¬ (F ba ∨ ba = B) := fun e => e.elim (fun h => by have := ab ba h; omega) (fun h => by have := HBw.out; omega)
        exact ⟨kk.cell hn (xw.cell hpa q0), kk.cell hn (xw.cell hpa q1), kk.cell hn (xw.cell hpa q2), kk.cell hn (xw.cell hpa q3)⟩
      let S : World → Prop := fun w' => Keep (fun i => F i ∨ i = B) wr w'
      have hs0 : S wr.drew := .of_ext (Ext.drew _)
      have hsKeep : ∀ w9, Keep F wr.drew w9 → S w9 := fun w9 k9 => ((Keep.of_ext (Ext.drew wr)).same k9).mono (fun i hi => .inl hi)
      have hsStore : ∀ w9 cs, S w9 → S (w9.setRow B cs) := fun w9 cs k9 => k9.same ((Keep.row _ _ _).mono fun i hi => .inr hi)
      have hrow0 : wr.drew.heap[B]? = some (.cells #[.int .i64 c1, .int .i64 s1, .int .i64 l1, .int .i64 u1, .int .i64 f1, .int .i64 t1, .slice a' n' cp', .int .i64 told] 31 (0, 0)) := hrow
      clear q0 q1 q2 q3 hy hyb hst hcnt hn' xw ab hop hrow hca hlt hh
      go_wp2_with fail
      refine wp_region_held_drew (S := S) (by kernel_rfl) hs0 (fun hsd => ?_)
      refine wpAnyH_takeD (i := 0) (d := 51) (v := .pointer (some ⟨p, 0, none⟩)) rfl rfl (by kernel_rfl) (by kernel_rfl) (by kernel_rfl) (fun _ _ _ h => h) (Or.inl ⟨by rfl, fun w _ => by go_simp⟩) hs0 ?_
      simp only [Act.put, List.setIfInBounds_toArray, List.set_cons_succ, List.set_cons_zero]
      refine wpAnyH_takeD (i := 2) (d := 53) (v := .slice (some ⟨ba, oa, none⟩) n cp) rfl rfl (by kernel_rfl) (by kernel_rfl) (by kernel_rfl) (fun _ _ _ h => h) (Or.inl ⟨by rfl, fun w _ => by go_simp⟩) hs0 ?_
      simp only [Act.put, List.setIfInBounds_toArray, List.set_cons_succ, List.set_cons_zero]
      refine wpAnyH_takeD (i := 3) (d := 54) (v := .int .i64 i) rfl rfl (by kernel_rfl) (by kernel_rfl) (by kernel_rfl) (fun _ _ _ h => h) (Or.inl ⟨by rfl, fun w _ => by go_simp⟩) hs0 ?_
      simp only [Act.put, List.setIfInBounds_toArray, List.set_cons_succ, List.set_cons_zero]
      refine wpAnyH_takeD (i := 4) (d := 55) (v := .pointer (some ⟨ba, oa + i * 4, none⟩)) rfl rfl (by kernel_rfl) (by kernel_rfl) (by kernel_rfl) (fun _ _ _ h => h) (Or.inl ⟨by rfl, fun w _ => by go_simp⟩) hs0 ?_
      simp only [Act.put, List.setIfInBounds_toArray, List.set_cons_succ, List.set_cons_zero]
      refine wpAnyH_takeD (i := 5) (d := 56) (v := .agg #[.int .i64 k, .int .i64 y0, .int .u8 y1, .bool y2]) rfl rfl (by kernel_rfl) (by kernel_rfl) (by kernel_rfl) (fun _ _ _ h => h) (Or.inl ⟨by rfl, fun w' hw' => by obtain ⟨q0, q1, q2, q3⟩ := hopsS w' hw'; go_simp⟩) hs0 ?_
      simp only [Act.put, List.setIfInBounds_toArray, List.set_cons_succ, List.set_cons_zero]
      refine wpAnyH_ready (rs := [1]) (by kernel_rfl) (by simp) (AllReadyH.cons rfl (fun K hK => ?_) AllReadyH.nil)
      rw [if_pos (by rfl)]
      refine wp_load_row 31 (.tmp 8) rfl B rfl 31 _ (0, 0) _ hrow0 Try.underlying31 rfl (by kernel_rfl) ?_
      refine hK.out _ _ hs0 (fun hsl => ?_)
      clear hK K
      simp only [Act.put, List.setIfInBounds_toArray]
      refine wpAnyH_ready (rs := [6]) (by kernel_rfl) (by simp) (AllReadyH.cons rfl (fun K hK => ?_) AllReadyH.nil)
      go_simp
      go_at_call 8
      refine HOp.out.mono ?_; rintro e w9 ⟨p2, F2, ⟨c2, s2, l2, u2, f2, t2, sg2⟩, a2, n2, cp2, L2, T2, rfl, k9, st9, g9, hc9, hn9⟩
      obtain ⟨hr9, hst9⟩ := HStep.out w9 p2 F2 _ a2 n2 cp2 L2 T2 k9 st9 g9
      rw [show refC ⟨c2, s2, l2, u2, f2, t2, sg2⟩ a2 n2 cp2 T2.length = #[.int .i64 c2, .int .i64 s2, .int .i64 l2, .int .i64 u2, .int .i64 f2, .int .i64 t2, .slice a2 n2 cp2, .int .i64 T2.length] from rfl] at hst9 ⊢
      obtain ⟨told2, htold2⟩ : ∃ q, q = T2.length := ⟨_, rfl⟩
      rw [← htold2] at hst9 ⊢
      have hfin : StB (w9.setRow B #[.int .i64 c2, .int .i64 s2, .int .i64 l2, .int .i64 u2, .int .i64 f2, .int .i64 t2, .slice a2 n2 cp2, .int .i64 told2]) B p2 F2 ⟨c2, s2, l2, u2, f2, t2, sg2⟩ a2 n2 cp2 L2 T2 ∧ sg2.count ≤ (i + 1 : Nat) ∧ n2 ≤ i + 1 ∧ Ext w (w9.setRow B #[.int .i64 c2, .int .i64 s2, .int .i64 l2, .int .i64 u2, .int .i64 f2, .int .i64 t2, .slice a2 n2 cp2, .int .i64 told2]) ∧ Above w F2 := by
        have hc := HCnt.out
        have hw := HXw.out
        refine ⟨hst9, by simp only at hc9; omega, by omega, ?_, fun j hj => (g9 j hj).elim (HAb.out j) (fun h => by have := hw.size; rw [heap_drew] at h; omega)⟩
        exact (hw.trans (Ext.drew _)).keep ((k9.mono (fun j hj => .inl hj)).same ((Keep.row w9 B _).mono fun j hj => .inr hj) : Keep (fun j => F j ∨ j = B) wr.drew _) (fun j hj => hj.elim (HAb.out j) (fun e => by rw [e]; exact HBw.out))
      have HFin := Lib.hid hfin
      have HTold2 := Lib.hid htold2
      clear HOp HStep HCnt HXw HAb hst9 st9 g9 hc9 hn9 hfin hrow0 htold2
      go_wp2_with fail
      refine hK.out _ _ (hsKeep _ k9) (fun hs1 => ?_)
      clear hK K
      refine wpAnyH_takeD (i := 7) (d := 50) (v := .tuple #[.pointer (some ⟨p2, 0, none⟩), .agg #[.int .i64 c2, .int .i64 s2, .int .i64 l2, .int .i64 u2, .int .i64 f2, .int .i64 t2, .slice a2 n2 cp2, .int .i64 told2], .bool true]) rfl rfl (by kernel_rfl) (by kernel_rfl) (by kernel_rfl) (fun _ _ _ h => h) (Or.inl ⟨by rfl, fun w _ => by go_simp⟩) hs1 ?_
      simp only [Act.put, List.setIfInBounds_toArray, List.set_cons_succ, List.set_cons_zero]
      refine wpAnyH_takeD (i := 8) (d := 58) (v := .pointer (some ⟨p2, 0, none⟩)) rfl rfl (by kernel_rfl) (by kernel_rfl) (by kernel_rfl) (fun _ _ _ h => h) (Or.inl ⟨by rfl, fun w _ => by go_simp⟩) hs1 ?_
      simp only [Act.put, List.setIfInBounds_toArray, List.set_cons_succ, List.set_cons_zero]
      refine wpAnyH_takeD (i := 9) (d := 59) (v := .agg #[.int .i64 c2, .int .i64 s2, .int .i64 l2, .int .i64 u2, .int .i64 f2, .int .i64 t2, .slice a2 n2 cp2, .int .i64 told2]) rfl rfl (by kernel_rfl) (by kernel_rfl) (by kernel_rfl) (fun _ _ _ h => h) (Or.inl ⟨by rfl, fun w _ => by go_simp⟩) hs1 ?_
      simp only [Act.put, List.setIfInBounds_toArray, List.set_cons_succ, List.set_cons_zero]
      refine wpAnyH_takeD (i := 10) (d := 60) (v := .bool true) rfl rfl (by kernel_rfl) (by kernel_rfl) (by kernel_rfl) (fun _ _ _ h => h) (Or.inl ⟨by rfl, fun w _ => by go_simp⟩) hs1 ?_
      simp only [Act.put, List.setIfInBounds_toArray, List.set_cons_succ, List.set_cons_zero]
      refine wpAnyH_takeD (i := 11) (d := 7) (v := .pointer (some ⟨p2, 0, none⟩)) rfl rfl (by kernel_rfl) (by kernel_rfl) (by kernel_rfl) (fun _ _ _ h => h) (Or.inl ⟨by rfl, fun w _ => by go_simp⟩) hs1 ?_
      simp only [Act.put, List.setIfInBounds_toArray, List.set_cons_succ, List.set_cons_zero]
      refine wpAnyH_ready (rs := [12]) (by kernel_rfl) (by simp) (AllReadyH.cons rfl (fun K hK => ?_) AllReadyH.nil)
      rw [if_pos (by rfl)]
      refine wp_store_row 31 (.tmp 8) (.tmp 59) rfl B _ rfl rfl 31 _ hr9 (by kernel_rfl) (by rfl) (by simp [Value.oneCell']) ?_
      refine hK.out _ _ (hsStore _ _ hs1) (fun hs2 => ?_)
      clear hK K
      refine wpAnyH_takeD (i := 13) (d := 10) (v := .bool true) rfl rfl (by kernel_rfl) (by kernel_rfl) (by kernel_rfl) (fun _ _ _ h => h) (Or.inl ⟨by rfl, fun w _ => by go_simp⟩) hs2 ?_
      simp only [Act.put, List.setIfInBounds_toArray]
      refine wpAnyH_done (by kernel_rfl) ?_ _
      clear hsd hsl hs0 hs1 hs2 hsKeep hsStore hopsS k9 hr9 HLt HBlt HOff
      obtain ⟨W4, hW4⟩ : ∃ W4, W4 = w9.setRow B #[.int .i64 c2, .int .i64 s2, .int .i64 l2, .int .i64 u2, .int .i64 f2, .int .i64 t2, .slice a2 n2 cp2, .int .i64 told2] := ⟨_, rfl⟩
      rw [← hW4] at HFin ⊢
      clear hW4 S
      have HDue := Lib.hid (fun w' (y : Ext W4 w') => fdue_any p2 F2 ⟨c2, s2, l2, u2, f2, t2, sg2⟩ w' (HFin.out.1.st.fr.ext y))
      have HDue2 := Lib.hid (fun w' (y : Ext W4 w') => rdue_any10 ⟨c2, s2, l2, u2, f2, t2, sg2⟩ a2 n2 cp2 L2 T2 w' HFin.out.1.st.fr.ok HFin.out.1.st.ref (HFin.out.1.st.mem.ext y) HFin.out.1.st.len)
      have HHeld := Lib.hid (fun w' (y : Ext W4 w') => fheld_any p2 F2 ⟨c2, s2, l2, u2, f2, t2, sg2⟩ w' (HFin.out.1.st.fr.ext y))
      have HHeld2 := Lib.hid (fun w' (y : Ext W4 w') => rheld_any10 ⟨c2, s2, l2, u2, f2, t2, sg2⟩ a2 n2 cp2 L2 T2 w' HFin.out.1.st.fr.ok HFin.out.1.st.ref (HFin.out.1.st.mem.ext y) HFin.out.1.st.len)
      have hrow4 := HFin.out.1.row
      rw [show refC ⟨c2, s2, l2, u2, f2, t2, sg2⟩ a2 n2 cp2 T2.length = #[.int .i64 c2, .int .i64 s2, .int .i64 l2, .int .i64 u2, .int .i64 f2, .int .i64 t2, .slice a2 n2 cp2, .int .i64 T2.length] from rfl] at HDue2 HHeld2 hrow4
      rw [← HTold2.out] at HDue2 HHeld2 hrow4
      generalize dueI ⟨c2, s2, l2, u2, f2, t2, sg2⟩ = D at HDue HDue2
      simp only at HDue HDue2 HHeld HHeld2
      generalize decide (0 < sg2.count) = z at HDue HDue2
      generalize sg2.n = hn at HHeld HHeld2
      have HRow := Lib.hid hrow4
      clear hrow4
      go_wp2_with fail
      refine (HDue.out _ (Ext.refl _)).mono ?_; rintro e w5 ⟨rfl, x5⟩
      have hrow5 := x5.block HRow.out
      clear HDue
      go_wp2_with (refine wpList_load_row rfl 31 (.tmp 8) rfl B rfl 31 _ (0, 0) _ hrow5 Try.underlying31 rfl (by kernel_rfl) ?_)
      refine (HDue2.out _ x5).mono ?_; rintro e w6 ⟨rfl, x6⟩
      have y6 := x5.trans x6
      have hrow6 := x6.block hrow5
      have p0 := Later.cell (cell_of_heap (j := 0) hrow6 rfl); have p1 := Later.cell (cell_of_heap (j := 1) hrow6 rfl); have p2' := Later.cell (cell_of_heap (j := 2) hrow6 rfl); have p3 := Later.cell (cell_of_heap (j := 3) hrow6 rfl)
      have p4 := Later.cell (cell_of_heap (j := 4) hrow6 rfl); have p5 := Later.cell (cell_of_heap (j := 5) hrow6 rfl); have p6 := Later.cell (cell_of_heap (j := 6) hrow6 rfl); have p7 := Later.cell (cell_of_heap (j := 7) hrow6 rfl)
      clear HDue2 x5 x6 hrow5 hrow6
      go_wp2_with fail
      refine wp_region_later (by kernel_rfl) (by kernel_rfl) ?_
      repeat (go_big_quiet_step (first
        | (go_at_call 11; exact later_same (HHeld.out _ (y6.trans (Later.ext _))))
        | (go_at_call 12; exact later_of (HHeld2.out _ (y6.trans (Later.ext _))))))
      refine wpQuiet_nil ?_
      intro _ hw'
      obtain ⟨x, rfl⟩ := hw'
      have x9 := y6.trans x.ext
      generalize x.at = w10 at x9 ⊢
      clear p0 p1 p2' p3 p4 p5 p6 p7 HHeld HHeld2 y6 HRow HTold2
      have hend : StB w10 B p2 F2 ⟨c2, s2, l2, u2, f2, t2, sg2⟩ a2 n2 cp2 L2 T2 ∧ sg2.count ≤ (i + 1 : Nat) ∧ n2 ≤ i + 1 ∧ Ext w w10 ∧ Above w F2 := ⟨HFin.out.1.ext x9, HFin.out.2.1, HFin.out.2.2.1, HFin.out.2.2.2.1.trans x9, HFin.out.2.2.2.2⟩
      have HEnd := Lib.hid hend
      clear hend HFin x9
      go_wp2
      go_roundg h
      case rel => exact ⟨i + 1, p2, F2, ⟨c2, s2, l2, u2, f2, t2, sg2⟩, a2, n2, cp2, L2, T2, by omega, by go_num, rfl, HEnd⟩
      case measure => omega
    | zero =>
      obtain rfl : i = n := by omega
      have hi1 : ¬ ((i : Int) < i) := by omega
      obtain ⟨-, -, -, xw, -⟩ := hh.out
      clear hh HA HB HO HBw hn
      go_wp2_with fail
      refine (sure10_any _).mono ?_; rintro e w3 ⟨rfl, x3⟩
      go_wp2
      go_ret
      exact ⟨rfl, xw.trans x3⟩
theorem framerDoes.long (c s l u f : Int) (a : Option Addr) (n cp : Nat) (w : World) (h : 320 < n) :
    Calls Try.prog 3 #[timesC c s l u, .int .i64 f, .slice a n cp] w fun e w' => e = .returned (.bool true) ∧ Ext w w' := by
  have hg : (320 : Int) < n := by omega
  unfold timesC
  clear h
  go_enter Try.func3, Try.ntmps3
  go_wp2_with fail
  refine (sure10_any _).mono ?_; rintro e w3 ⟨rfl, x3⟩
  go_wp2
  go_ret
  exact ⟨rfl, (Ext.alloc _ _).trans x3⟩
set_option maxRecDepth 100000 in
set_option maxHeartbeats 8000000 in
theorem framerDoes.out (c s l u f : Int) (a : Option Addr) (n cp : Nat) (w : World) (hn : n ≤ 320) (h : rightB c s l u = false ∨ rightB c s l u = true ∧ f < 0 ∨ rightB c s l u = true ∧ ¬ f < 0 ∧ 1099511627776 < f) :
    Calls Try.prog 3 #[timesC c s l u, .int .i64 f, .slice a n cp] w fun e w' => e = .returned (.bool true) ∧ Ext w w' := by
  have hg : ¬ ((320 : Int) < n) := by omega
  have hnew := fun w' => fnew_no c s l u f w' (by rcases h with h | ⟨-, h⟩ | ⟨-, -, h⟩ <;> first | exact .inl h | exact .inr (by omega))
  have hright := fun w' => rright_any c s l u w'
  unfold timesC at hnew ⊢
  have HN := Lib.hid hnew
  clear hnew hn
  rcases h with h | ⟨h, hf⟩ | ⟨h, hf, hf2⟩
  all_goals
    rw [h] at hright
    have HR := Lib.hid hright
    clear hright h
    go_enter Try.func3, Try.ntmps3
    go_wp2_with fail
    refine (HN.out _).mono ?_; rintro e w1 ⟨rfl, x1⟩
    have m0 : w1.cell? ⟨w.heap.size, 0, none⟩ = some (.int .i64 c) := x1.made 0 _ rfl
    have m1 : w1.cell? ⟨w.heap.size, 1, none⟩ = some (.int .i64 s) := x1.made 1 _ rfl
    have m2 : w1.cell? ⟨w.heap.size, 2, none⟩ = some (.int .i64 l) := x1.made 2 _ rfl
    have m3 : w1.cell? ⟨w.heap.size, 3, none⟩ = some (.int .i64 u) := x1.made 3 _ rfl
    have x1w := (Ext.alloc _ _).trans x1
    clear HN x1
    go_wp2_with fail
    refine (HR.out _).mono ?_; rintro e w2 ⟨rfl, x2⟩
    have x2w := x1w.trans x2
    clear HR m0 m1 m2 m3 x1w x2
    go_wp2_with fail
    refine (sure10_any _).mono ?_; rintro e w3 ⟨rfl, x3⟩
    go_wp2
    go_ret
    exact ⟨rfl, x2w.trans x3⟩
theorem framerDoes.walk (c s l u f : Int) (a : Option Addr) (n cp : Nat) (O : List Opc) (w : World) (hc : (Lit.int .i64 c).wf = true) (hs : (Lit.int .i64 s).wf = true) (hl : (Lit.int .i64 l).wf = true) (hu : (Lit.int .i64 u).wf = true) (hf : (Lit.int .i64 f).wf = true)
    (ha : HoldsL 4 opc w a O) (hO : O.length = n) (hcp : n ≤ cp) (hcm : cp ≤ 5864062014634) (hw : ∀ x ∈ O, (Lit.int .i64 x.1).wf = true ∧ (Lit.int .i64 x.2.1).wf = true ∧ (Lit.int .u8 x.2.2.1).wf = true) :
    Calls Try.prog 3 #[.agg #[.int .i64 c, .int .i64 s, .int .i64 l, .int .i64 u], .int .i64 f, .slice a n cp] w fun e w' => e = .returned (.bool true) ∧ Ext w w' := by
  by_cases hn : n ≤ 320
  · cases hr : rightB c s l u
    · exact framerDoes.out c s l u f a n cp w hn (.inl hr)
    · by_cases h0 : f < 0
      · exact framerDoes.out c s l u f a n cp w hn (.inr (.inl ⟨hr, h0⟩))
      · by_cases h1 : 1099511627776 < f
        · exact framerDoes.out c s l u f a n cp w hn (.inr (.inr ⟨hr, h0, h1⟩))
        · exact framerDoes.main c s l u f a n cp O w ha hO hn (fun x hx => by have := bounds_u8 (hw x hx).2.2; omega) hr (by omega) (by omega)
  · exact framerDoes.long c s l u f a n cp w (by omega)
end Go.Proofs.Ytlemnjphjmnmbaa
