/-
  CONTRACTS: package ask (layer 15): Right, with its loop over the fields.
-/
import Derived.Test.YtejiafihiielgaaAskD
import Derived.Test.YtejiafihiielgaaAskQ
import Derived.Deep.DeepCutAuto
namespace Go.Proofs.Ytejiafihiielgaa
open Go.RowKit
set_option linter.unusedVariables false
set_option maxRecDepth 100000

/-- An ask that is asked for its fields, in a block of the call's own. -/
structure FieS (w0 wr : World) (b off g : Nat) (V : QstV) (k : Int) (T : Qst) : Prop where
  x : Ext w0 wr
  lo : w0.heap.size ≤ g
  at_ : wr.heap[g]? = some (.cells (qstC V T) 80 (0, 0))
  fl : FldS wr b off g k
  ne : b ≠ g
theorem FieS.ext {w0 wr wr' : World} {b off g : Nat} {V : QstV} {k : Int} {T : Qst} (h : FieS w0 wr b off g V k T) (x : Ext wr wr') : FieS w0 wr' b off g V k T :=
  ⟨h.x.trans x, h.lo, x.block h.at_, h.fl.ext x, h.ne⟩
theorem keepCellE (w : World) (g o : Nat) (v : Value) : Keep (fun i => i = g) w (w.setCell ⟨g, o, none⟩ v) := ⟨rfl, rfl, rfl, by simp, fun k _ hn => Below.heap_setCell w ⟨g, o, none⟩ v k hn⟩
theorem FieS.set {w0 wr : World} {b off g : Nat} {V : QstV} {k : Int} {T : Qst} {o : Nat} (v : Int) (h : FieS w0 wr b off g V k T) (h1 : 1 ≤ o) (h7 : o ≤ 7) : FieS w0 (wr.setCell ⟨g, o, none⟩ (.int .i64 v)) b off g V k (setQ o v T) :=
  ⟨Below.setCell h.x h.lo _, h.lo, by rw [← setQ_cells V T v h1 h7]; exact heap_setCell_same _ _ o _ _ _ h.at_, h.fl.keep (keepCellE wr g o _) (fun e => h.ne e), h.ne⟩
theorem frozenE {w : World} {B j : Nat} {cs : Array Value} {t : TypeId} (h : w.heap[B]? = some (.cells cs t (0, 0))) : w.frozen? ⟨B, j, none⟩ = false := by simp [World.frozen?, h]
def fldZ : Array Value := #[.pointer none, .int .i64 0, .int .i64 0, .int .i64 0]
set_option maxHeartbeats 8000000 in
theorem aright_any (V : QstV) (Q : Qst) (w : World) (h : QstAt w V Q) (n1 : Q.nb ≤ 1000000) (n2 : Q.nr ≤ 1000000) : Calls Try.prog 29 #[.agg (qstC V Q)] w fun e w' => e = .returned (.bool (rightQ Q)) ∧ Ext w w' := by
  obtain ⟨W0, hW0, HX, He⟩ : ∃ W0, W0 = w.alloc (.cells (qstC V Q) 25) ∧ Hid (∀ W, Ext W0 W → W.heap[w.heap.size]? = some (.cells (qstC V Q) 25 (0, 0))) ∧ Hid (Ext w W0) := ⟨_, rfl, Lib.hid fun W hx => hx.block (heap_alloc_new w _), Lib.hid (Ext.alloc w _)⟩
  have HK0 := Lib.hid (fun W (x : Ext W0 W) => (show W.cell? ⟨w.heap.size, 0, none⟩ = some (.int .i64 Q.k) from cell_of_heap (HX.out W x) rfl))
  have c0 := HK0.out _ (Ext.refl W0)
  cases hk : knownB Q.k with
  | false =>
    have HR : Hid (rightQ Q = false) := Lib.hid (by unfold rightQ; rw [hk]; rfl)
    have HK := Lib.hid hk
    clear hk h n1 n2
    go_enter Try.func29, Try.ntmps29
    go_upto_region 1 with fail
    rw [← hW0]
    clear hW0
    go_wp2_with fail
    refine (aknown_v HK.out _).mono ?_; rintro e w1 ⟨rfl, hw1⟩
    rw [hw1]
    clear hw1
    go_wp2
    go_ret
    exact ⟨by rw [HR.out]; rfl, He.out⟩
  | true =>
    have HQ := Lib.hid (fun W (x : Ext w W) => h.ext x)
    have HN := Lib.hid (And.intro n1 n2)
    have HK := Lib.hid hk
    have HRL := Lib.hid (rightL_iff hk)
    have hlo : w.heap.size < W0.heap.size := by rw [hW0]; simp
    clear hk h n1 n2
    go_enter Try.func29, Try.ntmps29
    go_upto_region 1 with fail
    rw [← hW0]
    clear hW0
    go_wp2_with fail
    refine (aknown_v HK.out _).mono ?_; rintro e w1 ⟨rfl, hw1⟩
    rw [hw1]
    clear hw1 w1
    have hrow := HX.out _ (Ext.refl W0)
    obtain ⟨W3, hW3, x3, g3⟩ : ∃ W, W = ((W0.alloc (.cells #[.int .i64 0, .int .i64 0, .int .i64 0, .int .i64 0, .int .i64 0, .int .i64 0, .int .i64 0, .int .i64 0, .slice none 0 0, .slice none 0 0] 80)).setRow W0.heap.size (qstC V Q)) ∧ Ext W0 W ∧ W.heap[W0.heap.size]? = some (.cells (qstC V Q) 80 (0, 0)) := ⟨_, rfl, asked_row _ _ _ _⟩
    go_upto_region 4 with (first
      | (refine wpList_load_row rfl 25 (.tmp 1) rfl w.heap.size rfl 25 _ (0, 0) _ hrow Try.underlying25 rfl (by kernel_rfl) ?_)
      | (refine wpList_store_row rfl 80 (.tmp 3) (.tmp 12) rfl _ _ rfl rfl 80 _ (heap_new_at _ _ (by first | rfl | simp)) (by kernel_rfl) rfl (by simp [qstC, Value.oneCell']) ?_))
    rw [← hW3]
    clear hW3 hrow c0
    have c0 := HK0.out _ x3
    go_wp2_with fail
    refine (fieldsOf_yes _ HK.out _).mono ?_; rintro e w4 ⟨F, rfl, hF, hw4⟩
    rw [hw4]
    have hen := hF.enters
    have HF := Lib.hid hF.tells
    clear hw4 hF c0 w4
    go_wp2_with fail
    refine (HF.out W0.heap.size _).mono ?_; rintro e w5 ⟨b, off, rfl, hf5, hb5, x5⟩
    have hglt : W0.heap.size < W3.heap.size := heap_lt g3
    have hS : FieS W0 w5 b off W0.heap.size V Q.k (clrQ Q 0) := ⟨x3.trans x5, Nat.le_refl _, x5.block g3, hf5, by omega⟩
    have hnn := fldN_bd Q.k
    have HNN := Lib.hid (fldN_eq Q)
    clear hf5 hb5 x5 g3 hglt x3 HF hen
    obtain ⟨n, hn⟩ : ∃ n, n = fldN Q.k := ⟨_, rfl⟩
    rw [← hn] at hnn ⊢
    have HNq := Lib.hid hn
    clear hn
    go_wp2_with fail
    have HRN : Hid (n = numN Q) := Lib.hid (by rw [HNq.out, HNN.out])
    have hB0 := heap_lt hS.at_
    go_loopw [18] (fun iv wr => ∃ i : Nat, i ≤ n ∧ iv = .int .i64 i ∧ FieS W0 wr b off W0.heap.size V Q.k (clrQ Q i) ∧ ∀ j, j < i → fitK Q.k j (numF Q j) = true) (fun iv _ => n - (intOf iv).toNat)
    case atStart => exact ⟨0, Nat.zero_le _, rfl, hS, fun j hj => absurd hj (by omega)⟩
    case round =>
      obtain ⟨i, hi, rfl, hT, hall⟩ := hrel
      have HT := Lib.hid hT
      have HAll := Lib.hid hall
      clear hT hall hS hB0
      by_cases hlt : i < n
      · have hi' : i < fldN Q.k := by rw [← HNq.out]; exact hlt
        have a0 := HT.out.fl.at0 i hi'
        have a1 := HT.out.fl.at1 i hi'
        have a2 := HT.out.fl.at2 i hi'
        have a3 := HT.out.fl.at3 i hi'
        have ob := fldO_bd Q.k i
        have fb := fldB_bd Q.k i
        have hcell : wr.cell? ⟨W0.heap.size, fldO Q.k i, none⟩ = some (.int .i64 (numF Q i)) := by
          rw [cell_of_row _ _ _ _ _ _ HT.out.at_, getQ_cell V _ ob.1 ob.2, clr_num HK.out (by rw [← HRN.out]; exact hlt)]
        have hgl := heap_lt HT.out.at_
        have hltI : (i : Int) < n := by omega
        obtain ⟨B, hB⟩ : ∃ B, fitK Q.k i (numF Q i) = B := ⟨_, rfl⟩
        have HFT := Lib.hid (fun W (x : Ext wr W) => (fits_any W0.heap.size (fldO Q.k i) (fldL Q.k i) (fldH Q.k i) (fldT Q.k i) (numF Q i) W (x.cell hgl hcell) fb).mono fun e w' hh => (⟨hh.1.trans (by rw [← hB]; rfl), hh.2⟩ : e = .returned (.bool B) ∧ Ext W w'))
        have HB := Lib.hid hB
        obtain ⟨W6, hW6, y6, g6⟩ : ∃ W, W = ((wr.alloc (.cells #[.pointer none, .int .i64 0, .int .i64 0, .int .i64 0] 87)).setRow wr.heap.size #[.pointer (some ⟨W0.heap.size, fldO Q.k i, none⟩), .int .i64 (fldL Q.k i), .int .i64 (fldH Q.k i), .int .i64 (fldT Q.k i)]) ∧ Ext wr W ∧ W.heap[wr.heap.size]? = some (.cells #[.pointer (some ⟨W0.heap.size, fldO Q.k i, none⟩), .int .i64 (fldL Q.k i), .int .i64 (fldH Q.k i), .int .i64 (fldT Q.k i)] 87 (0, 0)) := ⟨_, rfl, asked_row _ _ _ _⟩
        have g6' := g6
        rw [hW6] at g6'
        clear hB hcell hi' fb hgl
        go_wp2_with (first
          | (refine wpList_store_row rfl 87 (.tmp 5) (.tmp 21) rfl _ _ rfl rfl 87 _ (heap_new_at _ _ (by first | rfl | simp)) (by kernel_rfl) rfl (by simp [Value.oneCell']) ?_)
          | (refine wpList_load_row rfl 87 (.tmp 5) rfl wr.heap.size rfl 87 _ (0, 0) _ g6' Try.underlying87 rfl (by kernel_rfl) ?_))
        rw [← hW6]
        clear hW6 g6'
        refine (HFT.out _ y6).mono ?_; rintro e w7 ⟨rfl, x7⟩
        cases B with
        | false =>
          have HR : Hid (rightQ Q = false) := Lib.hid (by
            cases hR : rightQ Q
            · rfl
            · have := (HRL.out.1 hR).1 i (by rw [← HRN.out]; exact hlt)
              rw [HB.out] at this; cases this)
          go_wp2
          go_ret
          exact ⟨by rw [HR.out]; rfl, He.out.trans (HT.out.x.trans (y6.trans x7))⟩
        | true =>
          have c5 : w7.cell? ⟨wr.heap.size, 0, none⟩ = some (.pointer (some ⟨W0.heap.size, fldO Q.k i, none⟩)) := cell_of_heap (x7.block g6) rfl
          have HU := Lib.hid (HT.out.ext (y6.trans x7))
          have hfz : w7.frozen? ⟨W0.heap.size, fldO Q.k i, none⟩ = false := frozenE HU.out.at_
          have hcu : w7.cell? ⟨W0.heap.size, fldO Q.k i, none⟩ = some (.int .i64 (getQ (fldO Q.k i) (clrQ Q i))) := cell_of_heap HU.out.at_ (getQ_cell V _ ob.1 ob.2)
          clear a0 a1 a2 a3 g6
          go_wp2
          go_roundw
          case rel => exact ⟨i + 1, by omega, by go_num, HU.out.set 0 ob.1 ob.2, fun j hj => by
                        rcases Nat.lt_or_ge j i with h | h
                        · exact HAll.out j h
                        · obtain rfl : j = i := by omega
                          exact HB.out⟩
          case measure => simp [intOf]; omega
      · obtain rfl : i = n := by omega
        have h8 := heap_setCell_same wr W0.heap.size 8 _ _ (.slice none 0 0) HT.out.at_
        have h9 := heap_setCell_same _ W0.heap.size 9 _ _ (.slice none 0 0) h8
        have hc8 : wr.cell? ⟨W0.heap.size, 8, none⟩ = some (.slice V.a1 (clrQ Q i).nb V.d1) := cell_of_heap HT.out.at_ rfl
        have hc9 : (wr.setCell ⟨W0.heap.size, 8, none⟩ (.slice none 0 0)).cell? ⟨W0.heap.size, 9, none⟩ = some (.slice V.a2 (clrQ Q i).nr V.d2) := cell_of_heap h8 rfl
        have hfz8 : wr.frozen? ⟨W0.heap.size, 8, none⟩ = false := frozenE HT.out.at_
        have hfz9 : (wr.setCell ⟨W0.heap.size, 8, none⟩ (.slice none 0 0)).frozen? ⟨W0.heap.size, 9, none⟩ = false := frozenE h8
        have hrest : (((qstC V (clrQ Q i)).setIfInBounds 8 (.slice none 0 0)).setIfInBounds 9 (.slice none 0 0)) = qstC zeroQV (restQ Q) := by rw [HRN.out]; rfl
        rw [hrest] at h9
        obtain ⟨W8, hW8⟩ : ∃ W8, W8 = (wr.setCell ⟨W0.heap.size, 8, none⟩ (.slice none 0 0)).setCell ⟨W0.heap.size, 9, none⟩ (.slice none 0 0) := ⟨_, rfl⟩
        have x8 : Ext W0 W8 := by rw [hW8]; exact Below.setCell (Below.setCell HT.out.x (Nat.le_refl _) _) (Nat.le_refl _) _
        rw [← hW8] at h9
        clear h8 hrest
        go_upto_region 12 with fail
        rw [← hW8]
        clear hW8 hfz8 hfz9 hc8 hc9
        have hrow := HX.out _ x8
        have KL := Lib.hid (fun W => lists_any V Q W)
        go_wp2_with (first
          | (refine wpList_load_row rfl 25 (.tmp 1) rfl w.heap.size rfl 25 _ (0, 0) _ hrow Try.underlying25 rfl (by kernel_rfl) ?_))
        refine (KL.out _).mono ?_; rintro e w9 ⟨rfl, y9⟩
        have x9 := x8.trans y9
        have g9 := y9.block h9
        have c0 := HK0.out _ x9
        have KS := Lib.hid (fun W => asame_any zeroQV (restQ Q) zeroQV { zeroQ with k := Q.k } W (none_at W rfl rfl) (none_at W rfl rfl) (Nat.zero_le _) (Nat.zero_le _) (Nat.zero_le _) (Nat.zero_le _))
        have HRR : Hid (rightQ Q = (sameQ (restQ Q) { zeroQ with k := Q.k } && decide ((Q.nb : Int) = ofbQ Q) && decide ((Q.nr : Int) = ofrQ Q))) := Lib.hid (by
          rw [Bool.eq_iff_iff, HRL.out, Bool.and_eq_true, Bool.and_eq_true, decide_eq_true_iff, decide_eq_true_iff]
          constructor
          · rintro ⟨-, h1, h2, h3⟩; exact ⟨⟨h1, h2⟩, h3⟩
          · rintro ⟨⟨h1, h2⟩, h3⟩; exact ⟨fun j hj => HAll.out j (by rw [HRN.out]; exact hj), h1, h2, h3⟩)
        generalize sameQ (restQ Q) { zeroQ with k := Q.k } = S at KS HRR
        clear hrow h9
        go_wp2_with (first
          | (refine wpList_load_row rfl 80 (.tmp 3) rfl W0.heap.size rfl 80 _ (0, 0) _ g9 Try.underlying80 rfl (by kernel_rfl) ?_))
        refine (KS.out _).mono ?_; rintro e wA ⟨rfl, yA⟩
        have xA := x9.trans yA
        clear c0 g9
        cases S with
        | false =>
          have HR : Hid (rightQ Q = false) := Lib.hid (by rw [HRR.out]; rfl)
          go_wp2
          go_ret
          exact ⟨by rw [HR.out]; rfl, He.out.trans xA⟩
        | true =>
          have rA := HX.out _ xA
          have c8 : wA.cell? ⟨w.heap.size, 8, none⟩ = some (.slice V.a1 Q.nb V.d1) := cell_of_heap rA rfl
          have c9 : wA.cell? ⟨w.heap.size, 9, none⟩ = some (.slice V.a2 Q.nr V.d2) := cell_of_heap rA rfl
          obtain ⟨n1, n2⟩ := HN.out
          by_cases e1 : (Q.nb : Int) = ofbQ Q
          · have b1 : ((Q.nb : Int) == ofbQ Q) = true := by simp [e1]
            by_cases e2 : (Q.nr : Int) = ofrQ Q
            · have b2 : ((Q.nr : Int) == ofrQ Q) = true := by simp [e2]
              have HR : Hid (rightQ Q = true) := Lib.hid (by rw [HRR.out, decide_eq_true e1, decide_eq_true e2]; rfl)
              clear e1 e2 rA
              go_wp2
              go_ret
              exact ⟨by rw [HR.out]; rfl, He.out.trans xA⟩
            · have b2 : ((Q.nr : Int) == ofrQ Q) = false := by simp [e2]
              have HR : Hid (rightQ Q = false) := Lib.hid (by rw [HRR.out, decide_eq_true e1, decide_eq_false e2]; rfl)
              clear e1 e2 rA
              go_wp2
              go_ret
              exact ⟨by rw [HR.out]; rfl, He.out.trans xA⟩
          · have b1 : ((Q.nb : Int) == ofbQ Q) = false := by simp [e1]
            have HR : Hid (rightQ Q = false) := Lib.hid (by rw [HRR.out, decide_eq_false e1]; rfl)
            clear e1 rA
            go_wp2
            go_ret
            exact ⟨by rw [HR.out]; rfl, He.out.trans xA⟩
theorem aright_v {V : QstV} {Q : Qst} {B : Bool} (hB : rightQ Q = B) (w : World) (h : QstAt w V Q) (n1 : Q.nb ≤ 1000000) (n2 : Q.nr ≤ 1000000) : Calls Try.prog 29 #[.agg (qstC V Q)] w fun e w' => e = .returned (.bool B) ∧ Ext w w' := hB ▸ aright_any V Q w h n1 n2
end Go.Proofs.Ytejiafihiielgaa
