/-
  CONTRACTS: package ask (layer 15): fill, fillList.
-/
import Derived.Test.YtokfgdjkafiicaaAskV
namespace Go.Proofs.Ytokfgdjkafiicaa
open Go.RowKit
set_option linter.unusedVariables false
set_option maxRecDepth 100000

set_option maxHeartbeats 4000000 in
theorem fill_c (W0 w : World) (b off g l n : Nat) (k : Int) (f : Nat → Int) (A : Option Addr) (C : Nat) (hF : FieS W0 w b off g zeroQV k (filQ n f k 0)) (hL : LefS W0 w l n (takO n 0) f A C) (hl0 : W0.heap.size ≤ l) (hgl : g ≠ l) (hbl : b ≠ l)
    (h1n : 1 ≤ n) (hn : n ≤ 100000) (hf : ∀ i, i < n → 0 ≤ f i ∧ f i < 256) :
    Calls Try.prog 35 #[.slice (some ⟨b, off, none⟩) (fldN k) (fldN k), .func (Fn.func 36) #[.pointer (some ⟨l, 0, none⟩)] #[]] w fun e w' => e = .returned (.tuple #[]) ∧
      FieS W0 w' b off g zeroQV k (filQ n f k (fldN k)) ∧ ∃ A' C', LefS W0 w' l n (takO n (fldN k)) f A' C' := by
  have hnn := fldN_bd k
  obtain ⟨m, hm⟩ : ∃ m, m = fldN k := ⟨_, rfl⟩
  rw [← hm] at hnn ⊢
  have HM := Lib.hid hm
  have HF0 := Lib.hid hF
  have HL0 := Lib.hid hL
  clear hm hF hL
  go_enter Try.func35, Try.ntmps35
  go_wp2_with fail
  go_loopw [8] (fun iv wr => ∃ i : Nat, i ≤ m ∧ iv = .int .i64 i ∧ FieS W0 wr b off g zeroQV k (filQ n f k i) ∧ ∃ A C, LefS W0 wr l n (takO n i) f A C) (fun iv _ => m - (intOf iv).toNat)
  case atStart => exact ⟨0, Nat.zero_le _, rfl, HF0.out, A, C, HL0.out⟩
  case round =>
    obtain ⟨i, hi, rfl, hF, A, C, hL⟩ := hrel
    have HF := Lib.hid hF
    have HL := Lib.hid hL
    clear hF hL HF0 HL0
    by_cases hlt : i < m
    · have hi' : i < fldN k := by rw [← HM.out]; exact hlt
      have a0 := HF.out.fl.at0 i hi'
      have a1 := HF.out.fl.at1 i hi'
      have a2 := HF.out.fl.at2 i hi'
      have a3 := HF.out.fl.at3 i hi'
      have ob := fldO_bd k i
      have hltI : (i : Int) < m := by omega
      have hto := takO_le n h1n i
      have hgw := heap_lt HF.out.at_
      have hlw := heap_lt HL.out.at_
      obtain ⟨W6, hW6, y6, g6⟩ : ∃ W, W = ((wr.alloc (.cells #[.pointer none, .int .i64 0, .int .i64 0, .int .i64 0] 51)).setRow wr.heap.size #[.pointer (some ⟨g, fldO k i, none⟩), .int .i64 (fldL k i), .int .i64 (fldH k i), .int .i64 (fldT k i)]) ∧ Ext wr W ∧ W.heap[wr.heap.size]? = some (.cells #[.pointer (some ⟨g, fldO k i, none⟩), .int .i64 (fldL k i), .int .i64 (fldH k i), .int .i64 (fldT k i)] 51 (0, 0)) := ⟨_, rfl, asked_row _ _ _ _⟩
      go_upto_region 3 with (first
        | (refine wpList_store_row rfl 51 (.tmp 5) (.tmp 11) rfl _ _ rfl rfl 51 _ (heap_new_at _ _ (by first | rfl | simp)) (by kernel_rfl) rfl (by simp [Value.oneCell']) ?_))
      rw [← hW6]
      clear hW6 a0 a1 a2 a3
      obtain ⟨X, hX⟩ : ∃ X, X = W6.drew := ⟨_, rfl⟩
      have xX : Ext wr X := by rw [hX]; exact y6.trans (Ext.drew _)
      have c6 : X.cell? ⟨wr.heap.size, 0, none⟩ = some (.pointer (some ⟨g, fldO k i, none⟩)) := by rw [hX]; exact (Ext.drew _).cell (heap_lt g6) (cell_of_heap g6 rfl)
      have HC := Lib.hid (fun W (x : Keep (fun i => i = l ∨ i = g) X W) => x.cell (by rintro (h | h) <;> omega) c6)
      have HF2 := Lib.hid (HF.out.ext xX)
      have HL2 := Lib.hid (HL.out.ext xX)
      have KN := Lib.hid (number_c W0 X l n (takO n i) f A C HF2.out.x HL2.out hto.1 hn hf)
      have hs : Keep (fun i => i = l ∨ i = g) X X := Keep.refl _ _
      refine wp_region_held_drew (S := fun W => Keep (fun i => i = l ∨ i = g) X W) (by kernel_rfl) (by rw [← hX]; exact hs) (fun _ => ?_)
      rw [← hX]
      clear hX g6 c6 HF HL y6
      have HF := HF2
      clear HF2 HL2
      refine wpAnyH_takeD (i := 0) (d := 12) (v := .pointer (some ⟨wr.heap.size, 0, none⟩)) rfl rfl (by kernel_rfl) (by kernel_rfl) (by kernel_rfl) (fun _ _ _ h => h) (Or.inl ⟨by rfl, fun W hW => by go_simp⟩) hs ?_
      simp only [Act.put, List.setIfInBounds_toArray, List.set_cons_succ, List.set_cons_zero]
      refine wpAnyH_takeD (i := 1) (d := 13) (v := .pointer (some ⟨g, fldO k i, none⟩)) rfl rfl (by kernel_rfl) (by kernel_rfl) (by kernel_rfl) (fun _ _ _ h => h) (Or.inl ⟨by rfl, fun W hW => by have c5 := HC.out W hW; go_simp⟩) hs ?_
      simp only [Act.put, List.setIfInBounds_toArray, List.set_cons_succ, List.set_cons_zero]
      refine wpAnyH_takeD (i := 2) (d := 14) (v := .func (Fn.func 36) #[.pointer (some ⟨l, 0, none⟩)] #[]) rfl rfl (by kernel_rfl) (by kernel_rfl) (by kernel_rfl) (fun _ _ _ h => h) (Or.inl ⟨by rfl, fun W hW => by go_simp⟩) hs ?_
      simp only [Act.put, List.setIfInBounds_toArray, List.set_cons_succ, List.set_cons_zero]
      refine wpAnyH_ready (rs := [3]) (by kernel_rfl) (by simp) (AllReadyH.cons rfl (fun K hK => ?_) AllReadyH.nil)
      go_simp
      go_at_call 36
      refine (KN.out).mono ?_; rintro e Wc ⟨rfl, ⟨A', C', hL'⟩, y⟩
      go_wp2_with fail
      refine hK.out _ _ (y.mono fun _ h => .inl h) (fun hs => ?_)
      clear hK K
      refine wpAnyH_takeD (i := 4) (d := 16) (v := .pointer (some ⟨g, fldO k i, none⟩)) rfl rfl (by kernel_rfl) (by kernel_rfl) (by kernel_rfl) (fun _ _ _ h => h) (Or.inl ⟨by rfl, fun W hW => by go_simp⟩) hs ?_
      simp only [Act.put, List.setIfInBounds_toArray, List.set_cons_succ, List.set_cons_zero]
      refine wpAnyH_ready (rs := [5]) (by kernel_rfl) (by simp) (AllReadyH.cons rfl (fun K hK => ?_) AllReadyH.nil)
      have gU : FieS W0 Wc b off g zeroQV k (filQ n f k i) := HF.out.keep y (fun j hj => by rw [hj]; exact hl0) (fun e => hgl e) (fun e => hbl e)
      have hfz : Wc.frozen? ⟨g, fldO k i, none⟩ = false := frozenE gU.at_
      have hcu : Wc.cell? ⟨g, fldO k i, none⟩ = some (.int .i64 (getQ (fldO k i) (filQ n f k i))) := cell_of_heap gU.at_ (getQ_cell zeroQV _ ob.1 ob.2)
      go_simp
      refine hK.out _ _ ((y.mono fun _ h => .inl h).trans (keepCellE Wc g _ _) (fun j hj => .inl (.inr hj))) (fun hs => ?_)
      clear hK K hfz hcu hs
      refine wpAnyH_done (by kernel_rfl) ?_ _
      have HU := Lib.hid (gU.set (takV n f i) ob.1 ob.2)
      have HL' := Lib.hid (hL'.keep (keepCellE Wc g (fldO k i) (.int .i64 (takV n f i))) (fun e => hgl e.symm))
      clear gU hL' y
      go_wp2
      go_roundw
      case rel => exact ⟨i + 1, by omega, by go_num, HU.out, A', C', HL'.out⟩
      case measure => simp [intOf]; omega
    · obtain rfl : i = m := by omega
      go_wp2
      go_end0
      exact ⟨rfl, HF.out, A, C, HL.out⟩
theorem lstN_le (n : Nat) (f : Nat → Int) (O : Nat) : lstN n f O ≤ n := by unfold lstN; split <;> omega
theorem cell_near (w : World) (g i j : Nat) (v : Value) (h : j ≠ i) : (w.setCell ⟨g, i, none⟩ v).cell? ⟨g, j, none⟩ = w.cell? ⟨g, j, none⟩ := by
  apply World.cell?_setCell_other
  intro e
  exact h (by cases e; rfl)
/-- Cells of another kind are not touched by a store into an ask. -/
theorem holds_set {α : Type} {mk : α → Value} (hmk : ∀ u, (∀ x, mk u ≠ .int .i64 x) ∧ ∀ a n c, mk u ≠ .slice a n c) {w : World} {x : Option Addr} {m : Nat} {B : Nat → α} {g : Nat} {V : QstV} {T : Qst} {t : TypeId} (h : HoldsG mk w x m B) (hg : w.heap[g]? = some (.cells (qstC V T) t (0, 0))) (o : Nat) (v : Value) : HoldsG mk (w.setCell ⟨g, o, none⟩ v) x m B := by
  by_cases hm : m = 0
  · exact .inl hm
  · refine h.keep (keepCellE w g o v) fun p hp e => ?_
    obtain ⟨b, off, ha, hlt, hc⟩ := h.resolve_left hm
    rw [ha] at hp
    cases hp
    have e : b = g := e
    subst e
    have h0 := hc 0 (by omega)
    rw [cell_of_row _ _ _ _ _ _ hg] at h0
    have hmem := Array.mem_of_getElem? h0
    have := hmk (B 0)
    simp [qstC, this] at hmem
set_option maxHeartbeats 4000000 in
theorem fillList_c (W0 w : World) (g l n O : Nat) (f : Nat → Int) (T : Qst) (A : Option Addr) (C : Nat) (hx : Ext W0 w) (hL : LefS W0 w l n O f A C) (hg : w.heap[g]? = some (.cells (qstC zeroQV T) 44 (0, 0))) (hnb : T.nb = 0) (hnr : T.nr = 0) (hg0 : W0.heap.size ≤ g) (hl0 : W0.heap.size ≤ l) (hgl : g ≠ l)
    (hO : O ≤ n) (hn : n ≤ 100000) (hf : ∀ i, i < n → 0 ≤ f i ∧ f i < 256) (hct : T.ct ≤ 9223372036854775807) :
    Calls Try.prog 37 #[.pointer (some ⟨g, 0, none⟩), .pointer (some ⟨l, 0, none⟩)] w fun e w' => e = .returned (.tuple #[]) ∧ ∃ V' A' C', w'.heap[g]? = some (.cells (qstC V' (lisQ n f O T)) 44 (0, 0)) ∧ QstAt w' V' (lisQ n f O T) ∧
      w'.heap[l]? = some (.cells #[.slice A' (lisL n f O T.k) C'] 66 (0, 0)) ∧ Ext W0 w' := by
  have c0 : w.cell? ⟨g, 0, none⟩ = some (.int .i64 T.k) := cell_of_heap hg rfl
  have HX := Lib.hid hx
  have hab : Above W0 (fun i => i = l) := fun i hi => by rw [hi]; exact hl0
  have hab2 : Above W0 (fun i => i = l ∨ i = g) := fun i hi => by rcases hi with h | h <;> (rw [h]; assumption)
  have hfl : ∀ i, i < lstN n f O → 0 ≤ f (O + 1 + i) ∧ f (O + 1 + i) < 256 := fun i hi => hf _ (by unfold lstN at hi; split at hi <;> omega)
  unfold lisQ lisL
  by_cases h15 : T.k = 15
  · rw [if_pos h15, if_pos (.inl h15)]
    rw [h15] at c0
    have X0 : Ext W0 w.drew := hx.trans (Ext.drew _)
    have c2 : w.drew.cell? ⟨g, 2, none⟩ = some (.int .i64 T.ct) := (Ext.drew _).cell (heap_lt hg) (cell_of_heap hg rfl)
    have hL := hL.ext (Ext.drew w)
    have hg := (Ext.drew w).block hg
    clear h15 HX
    go_enter Try.func37, Try.ntmps37
    go_wp2_with fail
    obtain ⟨X, hX⟩ : ∃ X, X = w.drew := ⟨_, rfl⟩
    rw [← hX] at X0 c2 hL hg
    have hs : Keep (fun i => i = l ∨ i = g) X X ∧ X.cell? ⟨g, 2, none⟩ = some (.int .i64 T.ct) := ⟨Keep.refl _ _, c2⟩
    refine wp_region_held_drew (S := fun W => Keep (fun i => i = l ∨ i = g) X W ∧ W.cell? ⟨g, 2, none⟩ = some (.int .i64 T.ct)) (by kernel_rfl) (by rw [← hX]; exact hs) (fun _ => ?_)
    rw [← hX]
    clear hX c0 hx
    have HX := Lib.hid X0
    have KL := Lib.hid (list_c W0 X l n O f A C X0 hL hO hn hf)
    refine wpAnyH_takeD (i := 0) (d := 11) (v := .pointer (some ⟨g, 0, none⟩)) rfl rfl (by kernel_rfl) (by kernel_rfl) (by kernel_rfl) (fun _ _ _ h => h) (Or.inl ⟨by rfl, fun W hW => by go_simp⟩) hs ?_
    simp only [Act.put, List.setIfInBounds_toArray, List.set_cons_succ, List.set_cons_zero]
    refine wpAnyH_takeD (i := 1) (d := 12) (v := .pointer (some ⟨l, 0, none⟩)) rfl rfl (by kernel_rfl) (by kernel_rfl) (by kernel_rfl) (fun _ _ _ h => h) (Or.inl ⟨by rfl, fun W hW => by go_simp⟩) hs ?_
    simp only [Act.put, List.setIfInBounds_toArray, List.set_cons_succ, List.set_cons_zero]
    refine wpAnyH_takeD (i := 3) (d := 14) (v := .pointer (some ⟨g, 0, none⟩)) rfl rfl (by kernel_rfl) (by kernel_rfl) (by kernel_rfl) (fun _ _ _ h => h) (Or.inl ⟨by rfl, fun W hW => by go_simp⟩) hs ?_
    simp only [Act.put, List.setIfInBounds_toArray, List.set_cons_succ, List.set_cons_zero]
    refine wpAnyH_takeD (i := 4) (d := 15) (v := .pointer (some ⟨g, 0, none⟩)) rfl rfl (by kernel_rfl) (by kernel_rfl) (by kernel_rfl) (fun _ _ _ h => h) (Or.inl ⟨by rfl, fun W hW => by go_simp⟩) hs ?_
    simp only [Act.put, List.setIfInBounds_toArray, List.set_cons_succ, List.set_cons_zero]
    refine wpAnyH_takeD (i := 5) (d := 16) (v := .pointer (some ⟨g, 2, none⟩)) rfl rfl (by kernel_rfl) (by kernel_rfl) (by kernel_rfl) (fun _ _ _ h => h) (Or.inl ⟨by rfl, fun W hW => by go_simp⟩) hs ?_
    simp only [Act.put, List.setIfInBounds_toArray, List.set_cons_succ, List.set_cons_zero]
    refine wpAnyH_takeD (i := 6) (d := 17) (v := .int .i64 T.ct) rfl rfl (by kernel_rfl) (by kernel_rfl) (by kernel_rfl) (fun _ _ _ h => h) (Or.inl ⟨by rfl, fun W hW => by have c2 := hW.2; go_simp⟩) hs ?_
    simp only [Act.put, List.setIfInBounds_toArray, List.set_cons_succ, List.set_cons_zero]
    refine wpAnyH_ready (rs := [2]) (by kernel_rfl) (by simp) (AllReadyH.cons rfl (fun K hK => ?_) AllReadyH.nil)
    go_simp
    go_at_call 55
    refine (KL.out).mono ?_; rintro e Wc ⟨x, d, A', C', rfl, h1, h2, h3, h4, y⟩
    go_wp2_with fail
    refine hK.out _ _ ⟨y.mono fun _ h => .inl h, y.cell (fun e => hgl e) hs.2⟩ (fun hs => ?_)
    clear hK K
    refine wpAnyH_ready (rs := [7]) (by kernel_rfl) (by simp) (AllReadyH.cons rfl (fun K hK => ?_) AllReadyH.nil)
    go_simp
    go_at_call 54
    refine (unpack_x x (lstN n f O) d _ T.ct Wc (h1.ext (HX.out.keep y hab)) (Nat.le_trans (lstN_le n f O) hn) hfl hct).mono ?_; rintro e Wd ⟨xb, db, rfl, m1, m2, hb, z⟩
    go_wp2_with fail
    refine hK.out _ _ ⟨hs.1.trans_ext z, z.cell (World.block_lt_of_cell? _ _ hs.2) hs.2⟩ (fun hs => ?_)
    clear hK K
    refine wpAnyH_takeD (i := 8) (d := 10) (v := .tuple #[.slice xb (unN (lstN n f O) T.ct) db, .int .i64 (unE (lstN n f O) T.ct)]) rfl rfl (by kernel_rfl) (by kernel_rfl) (by kernel_rfl) (fun _ _ _ h => h) (Or.inl ⟨by rfl, fun W hW => by go_simp⟩) hs ?_
    simp only [Act.put, List.setIfInBounds_toArray, List.set_cons_succ, List.set_cons_zero]
    refine wpAnyH_takeD (i := 9) (d := 19) (v := .slice xb (unN (lstN n f O) T.ct) db) rfl rfl (by kernel_rfl) (by kernel_rfl) (by kernel_rfl) (fun _ _ _ h => h) (Or.inl ⟨by rfl, fun W hW => by go_simp⟩) hs ?_
    simp only [Act.put, List.setIfInBounds_toArray, List.set_cons_succ, List.set_cons_zero]
    refine wpAnyH_takeD (i := 10) (d := 20) (v := .int .i64 (unE (lstN n f O) T.ct)) rfl rfl (by kernel_rfl) (by kernel_rfl) (by kernel_rfl) (fun _ _ _ h => h) (Or.inl ⟨by rfl, fun W hW => by go_simp⟩) hs ?_
    simp only [Act.put, List.setIfInBounds_toArray, List.set_cons_succ, List.set_cons_zero]
    refine wpAnyH_takeD (i := 11) (d := 21) (v := .pointer (some ⟨g, 0, none⟩)) rfl rfl (by kernel_rfl) (by kernel_rfl) (by kernel_rfl) (fun _ _ _ h => h) (Or.inl ⟨by rfl, fun W hW => by go_simp⟩) hs ?_
    simp only [Act.put, List.setIfInBounds_toArray, List.set_cons_succ, List.set_cons_zero]
    refine wpAnyH_takeD (i := 12) (d := 22) (v := .pointer (some ⟨g, 8, none⟩)) rfl rfl (by kernel_rfl) (by kernel_rfl) (by kernel_rfl) (fun _ _ _ h => h) (Or.inl ⟨by rfl, fun W hW => by go_simp⟩) hs ?_
    simp only [Act.put, List.setIfInBounds_toArray, List.set_cons_succ, List.set_cons_zero]
    refine wpAnyH_ready (rs := [13]) (by kernel_rfl) (by simp) (AllReadyH.cons rfl (fun K hK => ?_) AllReadyH.nil)
    have gd := z.block (y.block' hg (fun e => hgl e))
    have hfz : Wd.frozen? ⟨g, 8, none⟩ = false := frozenE gd
    have hcu : Wd.cell? ⟨g, 8, none⟩ = some (.slice none T.nb 0) := cell_of_heap gd rfl
    go_simp
    refine hK.out _ _ ⟨hs.1.trans (keepCellE Wd g 8 _) (fun j hj => .inl (.inr hj)), by rw [cell_near _ _ _ _ _ (by decide)]; exact hs.2⟩ (fun hs => ?_)
    clear hK K hfz hcu
    refine wpAnyH_done (by kernel_rfl) ?_ _
    have k1 := keepCellE Wd g 8 (.slice xb (unN (lstN n f O) T.ct) db)
    have hl' := k1.block' (z.block h4) (fun e => hgl e.symm)
    have hg' := heap_setCell_same Wd g 8 _ _ (.slice xb (unN (lstN n f O) T.ct) db) gd
    have hb' := holds_set (mk := Value.bool) (fun u => ⟨fun _ h => (by cases h), fun _ _ _ h => (by cases h)⟩) hb gd 8 (.slice xb (unN (lstN n f O) T.ct) db)
    have xE : Ext W0 (Wd.setCell ⟨g, 8, none⟩ (.slice xb (unN (lstN n f O) T.ct) db)) := HX.out.keep hs.1 hab2
    have HP := Lib.hid (And.intro hg' (And.intro hl' (And.intro hb' (And.intro xE (And.intro m1 m2)))))
    clear hl' hg' hb' xE m1 m2 hb gd k1 hs z y h1 h2 h3 h4
    go_wp2
    go_end0
    obtain ⟨hg', hl', hb', xE, m1, m2⟩ := HP.out
    refine ⟨rfl, ⟨xb, db, none, 0⟩, A', C', ?_, ⟨hb', m1, m2, .inl hnr, by show T.nr ≤ 0; omega, Nat.zero_le _⟩, hl', xE⟩
    exact hg'
  by_cases h16 : T.k = 16 ∨ T.k = 23
  · rw [if_neg h15, if_pos h16, if_pos (.inr h16)]
    have KL := Lib.hid (list_c W0 w l n O f A C hx hL hO hn hf)
    have hk : ∃ k, T.k = k ∧ (k = 16 ∨ k = 23) := ⟨_, rfl, h16⟩
    obtain ⟨k, hk, hk2⟩ := hk
    rw [hk] at c0
    clear hk h16 h15 hL hx
    have hlw : lstN n f O ≤ n := lstN_le n f O
    go_enter Try.func37, Try.ntmps37
    rcases hk2 with rfl | rfl
    all_goals
     go_wp2_with fail
     refine (KL.out).mono ?_; rintro e Wc ⟨x, d, A', C', rfl, h1, h2, h3, h4, y⟩
     go_wp2_with fail
     refine (get_x x (lstN n f O) d _ Wc (h1.ext (HX.out.keep y hab)) (Nat.le_trans hlw hn) hfl).mono ?_; rintro e Wd ⟨xb, db, E, rfl, m1, m2, hb, z⟩
     have gd := z.block (y.block' hg (fun e => hgl e))
     have hfz : Wd.frozen? ⟨g, 9, none⟩ = false := frozenE gd
     have hcu : Wd.cell? ⟨g, 9, none⟩ = some (.slice none T.nr 0) := cell_of_heap gd rfl
     have k1 := keepCellE Wd g 9 (.slice xb (getN (lstN n f O)) db)
     have hl' := k1.block' (z.block h4) (fun e => hgl e.symm)
     have hg' := heap_setCell_same Wd g 9 _ _ (.slice xb (getN (lstN n f O)) db) gd
     have hb' := holds_set (mk := Value.int .u16) (fun u => ⟨fun _ h => (by cases h), fun _ _ _ h => (by cases h)⟩) hb gd 9 (.slice xb (getN (lstN n f O)) db)
     have xE : Ext W0 (Wd.setCell ⟨g, 9, none⟩ (.slice xb (getN (lstN n f O)) db)) := ((HX.out.keep y hab).trans z).keep k1 (fun i hi => by rw [hi]; exact hg0)
     have HP := Lib.hid (And.intro hg' (And.intro hl' (And.intro hb' (And.intro xE (And.intro m1 m2)))))
     clear hl' hg' hb' xE m1 m2 hb gd k1 z y h1 h2 h3 h4
     go_wp2
     go_end0
     obtain ⟨hg', hl', hb', xE, m1, m2⟩ := HP.out
     refine ⟨rfl, ⟨none, 0, xb, db⟩, A', C', ?_, ⟨.inl hnb, by show T.nb ≤ 0; omega, Nat.zero_le _, hb', m1, m2⟩, hl', xE⟩
     exact hg'
  · rw [if_neg h15, if_neg h16, if_neg (by omega)]
    have b1 : (T.k == 15) = false := by simp; omega
    have b2 : (T.k == 16) = false := by simp; omega
    have b3 : (T.k == 23) = false := by simp; omega
    have HG := Lib.hid hg
    have HL := Lib.hid hL
    clear hg hL hx h15 h16
    go_enter Try.func37, Try.ntmps37
    go_wp2
    go_end0
    exact ⟨rfl, zeroQV, A, C, HG.out, none_at _ hnb hnr, HL.out.at_, HX.out⟩
end Go.Proofs.Ytokfgdjkafiicaa
