/-
  CONTRACTS: bilgeref14 (layer 14): what is written.
-/
import Derived.Test.YtkfpnijacfeogaaFilS
import Derived.Test.YtkfpnijacfeogaaStructs
import Derived.Laws.CopyOwn
namespace Go.Proofs.Ytkfpnijacfeogaa
open Go.RowKit
set_option linter.unusedVariables false

/-- What is told, laid out: a field of the box has been turned, the box of what is told is laid. -/
theorem file_told {w w' : World} {V V0 : FilV} {F G : Fil} {j : Nat} {v : Value} {cs : Array Value} (h : FilAt w' V G) (x : Ext w w') (f : From w V0 F V G) (o : FilOff (fun i => i = w.heap.size ∨ i = w.heap.size + 1) V G) :
    FilAt ((w'.setCell ⟨w.heap.size, j, none⟩ v).setRow (w.heap.size + 1) cs) V G ∧ Ext w ((w'.setCell ⟨w.heap.size, j, none⟩ v).setRow (w.heap.size + 1) cs) ∧ From w V0 F V G := by
  refine ⟨?_, below_setRow (Below.setCell x (Nat.le_refl _) _) (Nat.le_succ _) _, f⟩
  have k : Keep (fun i => i = w.heap.size ∨ i = w.heap.size + 1) w' ((w'.setCell ⟨w.heap.size, j, none⟩ v).setRow (w.heap.size + 1) cs) :=
    ((keepCell w' w.heap.size j v).mono fun i hi => .inl hi).trans (keepRow _ (w.heap.size + 1) cs) (fun i hi => .inl (.inr hi))
  exact h.keep k o
theorem above_two (w : World) : Above w (fun i => i = w.heap.size ∨ i = w.heap.size + 1) := fun i hi => by rcases hi with h | h <;> omega
theorem fresh_off {w a : World} {x : Option Addr} {n : Nat} (h : Fresh a x) (hs : w.heap.size + 2 ≤ a.heap.size) : OffN (fun i => i = w.heap.size ∨ i = w.heap.size + 1) x n :=
  h.offN fun i hi => by rcases hi with h | h <;> omega
theorem sbE_right {F : Fil} {x : Int} {m : Nat} (h : rightB F = true) : sbE F x m = rdE F.cf F.cc F.nC x m := by unfold sbE; rw [if_pos h]
theorem sbE_wrong {F : Fil} {x : Int} {m : Nat} (h : rightB F = false) : sbE F x m = 11 := by unfold sbE; rw [if_neg (by rw [h]; decide)]
theorem sbF_no {F : Fil} {x : Int} {m : Nat} {v : Nat → Bool} {E : Int} (h : sbE F x m = E) (h0 : E ≠ 0) : sbF F x m v = zeroF := by unfold sbF; rw [h, if_neg h0]
theorem sbF_yes {F : Fil} {x : Int} {m : Nat} {v : Nat → Bool} (h : sbE F x m = 0) : sbF F x m v = { F with C := wrF F.C v F.cf x m } := by unfold sbF; rw [if_pos h]
set_option maxRecDepth 100000 in
set_option maxHeartbeats 4000000 in
theorem rsetbits14_any (V : FilV) (F : Fil) (x : Int) (b : Option Addr) (m e : Nat) (v : Nat → Bool) (w : World) (h : FilAt w V F) (hv : HoldsG Value.bool w b m v) (hm : m ≤ 1000000) :
    Calls Try.prog 29 #[.agg (filC V F), .int .i64 x, .slice b m e] w (FP (sbE F x m) (sbF F x m v) V F w) := by
  unfold FP
  have e0 := (Ext.alloc w (.cells (filC V F) 31)).trans (Ext.alloc _ (.cells (filC zeroV zeroF) 31))
  have hsz : ((w.alloc (.cells (filC V F) 31)).alloc (.cells (filC zeroV zeroF) 31)).heap.size = w.heap.size + 2 := by simp
  have gX := fun w1 (x1 : Ext ((w.alloc (.cells (filC V F) 31)).alloc (.cells (filC zeroV zeroF) 31)) w1) => (⟨x1.block (two_boxes w _ _ _ _).1, x1.block (two_boxes w _ _ _ _).2, by have := x1.size; omega⟩ : w1.heap[w.heap.size]? = some (.cells (filC V F) 31 (0, 0)) ∧ w1.heap[w.heap.size + 1]? = some (.cells (filC zeroV zeroF) 31 (0, 0)) ∧ w.heap.size + 2 ≤ w1.heap.size)
  have HX := Lib.hid gX
  clear gX hsz
  cases hr : rightB F with
  | false =>
    rw [sbF_no (sbE_wrong hr) (by decide), sbE_wrong hr]
    have HR := Lib.hid (fun w' => rright14_v (V := V) hr w')
    clear hr h hv
    unfold filC at HR e0 HX ⊢
    go_enter Try.func29, Try.ntmps29
    go_wp2_with fail
    refine (HR.out _).mono ?_; rintro e w1 ⟨rfl, x1⟩
    obtain ⟨gB, gR, gS⟩ := HX.out _ x1
    have y1 := e0.trans x1
    clear x1 e0
    go_wp2_with (first | (refine wpList_store_row rfl 31 (.tmp 6) (.tmp 13) rfl (w.heap.size + 1) _ rfl rfl 31 _ gR (by kernel_rfl) rfl (by simp [Value.oneCell']) ?_))
    refine bodyPost_ret (results_row_tmp rfl _ _ (w.heap.size + 1) 31 _ (0, 0) _ rfl (setRow_heap _ _ _ _ _ _ gR) Try.underlying31 rfl (by kernel_rfl)) rfl ⟨zeroV, by rfl, zero_at _, below_setRow y1 (Nat.le_succ _) _, From.zero _ _ _⟩
  | true =>
    have hs := right_small hr
    have HR := Lib.hid (fun w' => rright14_v (V := V) hr w')
    have hE := sbE_right (x := x) (m := m) hr
    have K := Lib.hid (fun w' (hx : Ext w w') => (r13SetBits_f F.cf F.cc x V.a1 F.nC V.d1 F.C b m e v w' (h.h1.ext hx) (hv.ext hx) hs.1 hm).mono fun _ _ => WrPostF.sl)
    have hrd : rdN F.cf F.cc F.nC x m F.nC = if rdE F.cf F.cc F.nC x m = 0 then F.nC else 0 := rfl
    unfold SlP at K
    by_cases hE0 : rdE F.cf F.cc F.nC x m = 0
    · rw [if_pos hE0] at hrd
      rw [hE0] at hE
      rw [hrd, hE0] at K
      rw [sbF_yes hE, hE]
      generalize wrF F.C v F.cf x m = L at K ⊢
      have HH := Lib.hid h
      clear hr hE hE0 hrd h hv hs
      unfold filC at HR e0 HX ⊢
      go_enter Try.func29, Try.ntmps29
      go_wp2_with fail
      refine (HR.out _).mono ?_; rintro e w1 ⟨rfl, x1⟩
      obtain ⟨gB, gR, gS⟩ := HX.out _ x1
      have y1 := e0.trans x1
      have c0 := cell_of_heap (j := 0) gB rfl; have c1 := cell_of_heap (j := 1) gB rfl; have c10 := cell_of_heap (j := 10) gB rfl
      clear e0
      go_wp2_with fail
      refine (K.out _ y1).mono ?_; rintro e w3 ⟨b, q, rfl, h1, h2, h3, x3, f3⟩
      have gB3 := x3.block gB; have gR3 := x3.block gR
      have y3 := y1.trans x3
      have c10 := cell_of_heap (j := 10) gB3 rfl
      have z10 := frozen_of (j := 10) gB3
      have gL : (w3.setCell ⟨w.heap.size, 10, none⟩ (.slice b F.nC q)).heap[w.heap.size]? = some (.cells (filC { V with a1 := b, d1 := q } { F with C := L }) 31 (0, 0)) := (heap_setCell_same _ _ 10 _ _ (.slice b F.nC q) gB3).trans (by rfl)
      dsimp only [filC] at gL
      have gT := (heap_setCell_other w3 ⟨w.heap.size, 10, none⟩ (w.heap.size + 1) (.slice b F.nC q) (Nat.succ_ne_self _)).trans gR3
      have HF : Hid (FilAt w3 { V with a1 := b, d1 := q } { F with C := L } ∧ From w V F { V with a1 := b, d1 := q } { F with C := L } ∧ FilOff (fun i => i = w.heap.size ∨ i = w.heap.size + 1) { V with a1 := b, d1 := q } { F with C := L }) := by
        have h' := HH.out.ext y3
        have o := HH.out.off (above_two w) (Nat.le_refl _)
        exact Lib.hid ⟨⟨h3, h1, h2, h'.h2, h'.l2, h'.m2, h'.h3, h'.l3, h'.m3, h'.h4, h'.l4, h'.m4⟩, ⟨.inr (f3.back y1), .inl ⟨rfl, rfl⟩, .inl ⟨rfl, rfl⟩, .inl ⟨rfl, rfl⟩⟩, ⟨fresh_off f3 gS, o.o2, o.o3, o.o4⟩⟩
      clear h1 h2 h3 x3 f3 y1 x1 gB gR gB3 gR3 gS c0 c1
      go_wp2_with (first
        | (refine wpList_load_row rfl 31 (.tmp 3) rfl w.heap.size rfl 31 _ (0, 0) _ gL Try.underlying31 rfl (by kernel_rfl) ?_)
        | (refine wpList_store_row rfl 31 (.tmp 6) (.tmp 31) rfl (w.heap.size + 1) _ rfl rfl 31 _ gT (by kernel_rfl) rfl (by simp [Value.oneCell']) ?_))
      refine bodyPost_ret (results_row_tmp rfl _ _ (w.heap.size + 1) 31 _ (0, 0) _ rfl (setRow_heap _ _ _ _ _ _ gT) Try.underlying31 rfl (by kernel_rfl)) rfl ⟨{ V with a1 := b, d1 := q }, by rfl, file_told HF.out.1 y3 HF.out.2.1 HF.out.2.2⟩
    · rw [if_neg hE0] at hrd
      rw [hrd] at K
      rw [sbF_no hE hE0, hE]
      generalize rdE F.cf F.cc F.nC x m = E at K hE0 ⊢
      generalize wrF F.C v F.cf x m = L at K ⊢
      clear hr hE hrd h hv hs
      unfold filC at HR e0 HX ⊢
      go_enter Try.func29, Try.ntmps29
      go_wp2_with fail
      refine (HR.out _).mono ?_; rintro e w1 ⟨rfl, x1⟩
      obtain ⟨gB, gR, gS⟩ := HX.out _ x1
      have y1 := e0.trans x1
      have c0 := cell_of_heap (j := 0) gB rfl; have c1 := cell_of_heap (j := 1) gB rfl; have c10 := cell_of_heap (j := 10) gB rfl
      clear e0
      go_wp2_with fail
      refine (K.out _ y1).mono ?_; rintro e w3 ⟨b, q, rfl, h1, h2, h3, x3, f3⟩
      have gR3 := x3.block gR
      have y3 := y1.trans x3
      clear h1 h2 h3 x3 f3 y1 x1 gB gR gS c0 c1 c10
      go_wp2_with (first | (refine wpList_store_row rfl 31 (.tmp 6) (.tmp 27) rfl (w.heap.size + 1) _ rfl rfl 31 _ gR3 (by kernel_rfl) rfl (by simp [Value.oneCell']) ?_))
      refine bodyPost_ret (results_row_tmp rfl _ _ (w.heap.size + 1) 31 _ (0, 0) _ rfl (setRow_heap _ _ _ _ _ _ gR3) Try.underlying31 rfl (by kernel_rfl)) rfl ⟨zeroV, by rfl, zero_at _, below_setRow y3 (Nat.le_succ _) _, From.zero _ _ _⟩
end Go.Proofs.Ytkfpnijacfeogaa
