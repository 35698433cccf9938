/-
  CONTRACTS: package ident (layer 21): fill, begin, mayBegin.
-/
import Derived.Test.YthdkhdbabohohaaIdeA
namespace Go.Proofs.Ythdkhdbabohohaa
open Go.RowKit
set_option linter.unusedVariables false
set_option maxRecDepth 100000

theorem filN_drop : ∀ (k m : Nat) (L : List Ob), k ≤ filN m L → filN m L = k + filN (m + lenO (L.take k)) (L.drop k)
  | 0, m, L, _ => by simp [lenO]
  | k + 1, m, [], h => by simp [filN] at h
  | k + 1, m, z :: L, h => by
    unfold filN at h
    split at h
    · rename_i hz
      have ih := filN_drop k (m + (2 + z.n)) L (by omega)
      have e : filN m (z :: L) = filN (m + (2 + z.n)) L + 1 := by conv => lhs; unfold filN; rw [if_pos hz]
      rw [e, ih, List.take_succ_cons, List.drop_succ_cons]
      show _ = k + 1 + filN (m + (2 + z.n + lenO (L.take k))) (L.drop k)
      rw [show m + (2 + z.n + lenO (L.take k)) = m + (2 + z.n) + lenO (L.take k) by omega]; omega
    · omega
theorem filN_le : ∀ (m : Nat) (L : List Ob), filN m L ≤ L.length
  | _, [] => Nat.le_refl _
  | m, z :: L => by
    unfold filN
    split
    · have := filN_le (m + (2 + z.n)) L; simp; omega
    · exact Nat.zero_le _
theorem filN_room : ∀ (m : Nat) (L : List Ob) (k : Nat), m ≤ 252 → k ≤ filN m L → m + lenO (L.take k) ≤ 252
  | m, [], k, h, _ => by simp [lenO]; exact h
  | m, z :: L, 0, h, _ => by simp [lenO]; exact h
  | m, z :: L, k + 1, h, hk => by
    unfold filN at hk
    split at hk
    · rename_i hz
      unfold takB at hz
      rw [Bool.and_eq_true, decide_eq_true_iff] at hz
      have := filN_room (m + (2 + z.n)) L k hz.2 (by omega)
      rw [List.take_succ_cons]
      show m + (2 + z.n + lenO (L.take k)) ≤ 252
      omega
    · omega
/-- The objects are all taken just if each may be there and all have room. -/
theorem filN_all : ∀ (m : Nat) (L : List Ob), m ≤ 252 → (filN m L = L.length ↔ allD L = true ∧ m + lenO L ≤ 252)
  | m, [], h => by simp [filN, allD, lenO]; exact h
  | m, z :: L, h => by
    unfold filN
    by_cases hz : takB m z = true
    · rw [if_pos hz]
      unfold takB at hz
      rw [Bool.and_eq_true, decide_eq_true_iff] at hz
      have ih := filN_all (m + (2 + z.n)) L hz.2
      have e1 : allD (z :: L) = (okD z && allD L) := rfl
      have e2 : lenO (z :: L) = 2 + z.n + lenO L := rfl
      rw [e1, e2, hz.1, Bool.true_and, List.length_cons, show m + (2 + z.n + lenO L) = m + (2 + z.n) + lenO L by omega, ← ih]
      omega
    · rw [if_neg hz]
      constructor
      · intro e; simp at e
      · rintro ⟨h1, h2⟩
        refine absurd ?_ hz
        have h1' : (okD z && allD L) = true := h1
        rw [Bool.and_eq_true] at h1'
        have e2 : lenO (z :: L) = 2 + z.n + lenO L := rfl
        unfold takB
        rw [Bool.and_eq_true, decide_eq_true_iff]
        exact ⟨h1'.1, by omega⟩
/-- Where all may be there, as many are taken as have room. -/
theorem filN_fit : ∀ (m : Nat) (L : List Ob), (∀ z ∈ L, okD z = true) → filN m L = fitF m L
  | _, [], _ => rfl
  | m, z :: L, h => by
    have ih := filN_fit (m + 2 + z.n) L (fun y hy => h y (List.mem_cons_of_mem _ hy))
    have hz := h z (List.mem_cons_self ..)
    unfold filN fitF takB
    rw [hz, Bool.true_and, ← ih]
    by_cases h2 : m + 2 + z.n ≤ 252
    · rw [if_pos (decide_eq_true (by omega)), if_pos h2, show m + (2 + z.n) = m + 2 + z.n by omega]
    · rw [if_neg (by rw [decide_eq_true_iff]; omega), if_neg h2]
set_option maxHeartbeats 4000000 in
theorem fill_any (W0 w : World) (R : Nat) (v : Value) (l : List Int) (a : Option Addr) (n c : Nat) (L : List Ob) (h : Sai W0 w R l v) (x0 : Ext W0 w) (hL : ObjsAt W0 a n c L) (fL : ObjF L) (hl : l.length ≤ 252) :
    Calls Try.prog 27 #[.slice a n c, .func (Fn.func 28) #[.pointer (some ⟨R, 0, none⟩)] #[]] w fun e w' => e = .returned (.int .i64 (filN l.length L : Nat)) ∧ (∃ v', Sai W0 w' R (l ++ (L.take (filN l.length L)).flatMap sayO) v') ∧ Ext W0 w' := by
  have HS := Lib.hid (And.intro h x0)
  have HA := Lib.hid hL
  have HF := Lib.hid fL
  have HLN := Lib.hid hl
  have HFn := Lib.hid (filN_le l.length L)
  have hn1 : n ≤ 100000 := by rw [← hL.len]; exact fL.n
  clear h x0 fL hl
  have HN := Lib.hid hL.len
  clear hL
  go_enter Try.func27, Try.ntmps27
  go_wp2_with fail
  go_loopw [9] (fun iv wr => ∃ i : Nat, i ≤ n ∧ iv = .int .i64 i ∧ i ≤ filN l.length L ∧ (∃ v', Sai W0 wr R (l ++ (L.take i).flatMap sayO) v') ∧ Ext W0 wr) (fun iv _ => n - (intOf iv).toNat)
  case atStart => exact ⟨0, Nat.zero_le _, rfl, Nat.zero_le _, ⟨v, by simpa using HS.out.1⟩, HS.out.2⟩
  case round =>
    obtain ⟨i, hi, rfl, hif, ⟨v', hS⟩, x⟩ := hrel
    by_cases hlt : i < n
    · have hiL : i < L.length := by rw [HN.out]; exact hlt
      obtain ⟨b, o, rfl, hb, -⟩ := HA.out.h.resolve_left (by intro e; rw [e] at hiL; simp at hiL)
      obtain ⟨a0, a1⟩ := HA.out.h.ob_at i hiL
      have hob := HA.out.each _ (List.getElem_mem hiL)
      have hzn := HF.out.2 _ (List.getElem_mem hiL)
      have htk : L.take (i + 1) = L.take i ++ [L[i]] := List.take_succ_eq_append_getElem hiL
      have hdr := filN_drop i l.length L hif
      have hll : (l ++ (L.take i).flatMap sayO).length = l.length + lenO (L.take i) := by rw [List.length_append, sayL_len]
      have hro := filN_room l.length L i HLN.out hif
      have hcons : L.drop i = L[i] :: L.drop (i + 1) := List.drop_eq_getElem_cons hiL
      rw [hcons] at hdr
      obtain ⟨z, hz⟩ : ∃ z, L[i] = z := ⟨_, rfl⟩
      rw [hz] at a0 a1 hob hzn htk hdr
      have HP := Lib.hid (fun W (y : Ext wr W) => put_any W0 W R v' _ z (hS.ext y) (x.trans y) hob (by rw [hll]; exact hro) hzn)
      rw [hll] at HP
      have hlt' : (i : Int) < n := by omega
      replace a0 := x.cell hb a0
      replace a1 := x.cell hb a1
      have q1 : b < wr.heap.size := Nat.lt_of_lt_of_le hb x.size
      have HD := Lib.hid hdr
      have HTk := Lib.hid htk
      obtain ⟨zi, za, zn, zc, zf⟩ := z
      unfold obC at HP
      simp only at a0 a1 HP
      have x2 := Ext.alloc wr (.cells #[.int .i64 zi, .slice za zn zc] 49)
      have HX := Lib.hid (And.intro x x2)
      clear hob hzn htk hdr hll hro hcons hz hb hS x x2 hiL
      cases hT : takB (l.length + lenO (L.take i)) ⟨zi, za, zn, zc, zf⟩ with
      | true =>
        rw [hT] at HP
        have HE : Hid (i + 1 ≤ filN l.length L) := Lib.hid (by
          rw [HD.out]; unfold filN; rw [if_pos hT]; omega)
        clear hT
        go_wp2_with fail
        refine (HP.out _ HX.out.2).mono ?_; rintro e w3 ⟨rfl, ⟨v3, h3⟩, x3⟩
        have H3 := Lib.hid (And.intro h3 x3)
        clear h3 x3
        go_wp2
        go_roundw
        case rel => exact ⟨i + 1, by omega, by go_num, HE.out, ⟨v3, by have := H3.out.1; rw [if_pos trivial] at this; rw [HTk.out, List.flatMap_append, ← List.append_assoc]; simpa using this⟩, H3.out.2⟩
        case measure => simp [intOf]; omega
      | false =>
        rw [hT] at HP
        have HE : Hid (filN l.length L = i) := Lib.hid (by
          rw [HD.out]; unfold filN; rw [if_neg (by rw [hT]; decide)]; omega)
        clear hT
        go_wp2_with fail
        refine (HP.out _ HX.out.2).mono ?_; rintro e w3 ⟨rfl, ⟨v3, h3⟩, x3⟩
        have H3 := Lib.hid (And.intro h3 x3)
        clear h3 x3
        go_wp2
        go_ret
        exact ⟨by rw [HE.out]; rfl, ⟨v3, by rw [HE.out]; simpa using H3.out.1⟩, H3.out.2⟩
    · have hin : i = n := by omega
      have HE : Hid (filN l.length L = n) := Lib.hid (by have := HFn.out; rw [HN.out] at this; omega)
      have HS3 := Lib.hid (And.intro hS x)
      have HSm : Hid (L.take i = L.take (filN l.length L)) := Lib.hid (by rw [HE.out, hin])
      clear hS x
      go_wp2
      go_ret
      exact ⟨by rw [HE.out]; rfl, ⟨v', by rw [← HSm.out]; exact HS3.out.1⟩, HS3.out.2⟩
/-- What stands ahead of the objects. -/
def begL (P : Prt) : List Int := [14, IntKind.u8.wrap P.co, IntKind.u8.wrap (128 + P.lv), if P.mo = true then 255 else 0, IntKind.u8.wrap P.nx, IntKind.u8.wrap P.L.length]
theorem begL_head {P : Prt} (h : rightP P = true) : begL P = headP P := by
  obtain ⟨-, ⟨q1, q2, q3, q4⟩, hnx, q5, -⟩ := rightP_iff.1 h
  obtain ⟨q7, q8⟩ := nxB_bd hnx
  unfold begL headP
  rw [show IntKind.u8.wrap P.co = P.co by rw [IntKind.wrap_u8]; omega, show IntKind.u8.wrap (128 + P.lv) = 128 + P.lv by rw [IntKind.wrap_u8]; omega, show IntKind.u8.wrap P.nx = P.nx by rw [IntKind.wrap_u8]; omega, show IntKind.u8.wrap (P.L.length : Int) = P.L.length by rw [IntKind.wrap_u8]; omega]
def mayB (P : Prt) : Bool := decide (1 ≤ P.co ∧ P.co ≤ 4 ∧ 1 ≤ P.lv ∧ P.lv ≤ 3) && nxB P
theorem rightP_may (P : Prt) : rightP P = (mayB P && decide (filN 6 P.L = P.L.length)) := by
  rw [Bool.eq_iff_iff, rightP_iff, Bool.and_eq_true, decide_eq_true_iff, filN_all 6 P.L (by omega)]
  unfold mayB
  rw [Bool.and_eq_true, decide_eq_true_iff]
  have := lenO_sum P.L
  constructor
  · rintro ⟨h1, h2, h3, h4, h5⟩; exact ⟨⟨h2, h3⟩, h1, h5⟩
  · rintro ⟨⟨h2, h3⟩, h1, h5⟩; exact ⟨h1, h2, h3, by omega, h5⟩
set_option maxHeartbeats 4000000 in
theorem begin_any (P : Prt) (a : Option Addr) (n c : Nat) (w : World) (h : PrtAt w P a n c) :
    Calls Try.prog 25 #[.agg (prC P a n c)] w fun e w' => ∃ v, e = .returned v ∧ w'.ownsRow w.heap.size 5 1 v 6 ((begL P).map (Value.int .u8)) ∧ Ext w w' := by
  obtain ⟨B, hB⟩ : ∃ B, (begL P).map (Value.int .u8) = B := ⟨_, rfl⟩
  rw [hB]
  unfold begL at hB
  rw [h.o.len] at hB
  unfold prC
  obtain ⟨co, lv, mo, nx, L⟩ := P
  simp only at hB ⊢
  obtain ⟨W1, hW1, x1, HG⟩ : ∃ W1, W1 = w.alloc (.cells #[.int .i64 co, .int .i64 lv, .bool mo, .int .i64 nx, .slice a n c] 24) ∧ Ext w W1 ∧ Hid (W1.heap[w.heap.size]? = some (.cells #[.int .i64 co, .int .i64 lv, .bool mo, .int .i64 nx, .slice a n c] 24 (0, 0))) := ⟨_, rfl, Ext.alloc _ _, Lib.hid (heap_alloc_new _ _)⟩
  have c0 := cell_of_heap (j := 0) HG.out rfl
  have c1 := cell_of_heap (j := 1) HG.out rfl
  have c3 := cell_of_heap (j := 3) HG.out rfl
  have c4 := cell_of_heap (j := 4) HG.out rfl
  have HX := Lib.hid x1
  have e1 : IntKind.u8.wrap (IntKind.i64.wrap (128 + lv)) = IntKind.u8.wrap (128 + lv) := by
    rw [IntKind.wrap_u8, IntKind.wrap_u8, IntKind.wrap_i64]; omega
  obtain ⟨V0, hV0⟩ : ∃ V0, IntKind.i64.wrap (128 + lv) = V0 := ⟨_, rfl⟩
  rw [hV0] at e1
  rw [← e1] at hB
  obtain ⟨C1, hC1⟩ : ∃ C1, IntKind.u8.wrap co = C1 := ⟨_, rfl⟩
  obtain ⟨V1, hV1⟩ : ∃ V1, IntKind.u8.wrap V0 = V1 := ⟨_, rfl⟩
  obtain ⟨X1, hX1⟩ : ∃ X1, IntKind.u8.wrap nx = X1 := ⟨_, rfl⟩
  obtain ⟨N1, hN1⟩ : ∃ N1, IntKind.u8.wrap (n : Int) = N1 := ⟨_, rfl⟩
  rw [hC1, hV1, hX1, hN1] at hB
  have HB := Lib.hid hB
  obtain ⟨W2, hW2, x2, HO2⟩ : ∃ W2, W2 = W1.alloc (.cells #[.int .u8 14, .int .u8 C1, .int .u8 V1, .int .u8 0, .int .u8 X1, .int .u8 N1] 5) ∧ Ext W1 W2 ∧ Hid (W2.heap[W1.heap.size]? = some (.cells #[.int .u8 14, .int .u8 C1, .int .u8 V1, .int .u8 0, .int .u8 X1, .int .u8 N1] 5 (0, 0))) :=
    ⟨_, rfl, Ext.alloc _ _, Lib.hid (heap_alloc_new _ _)⟩
  have HX2 := Lib.hid x2
  have HG2 := Lib.hid (x2.block HG.out)
  clear h x1 hB e1 x2
  go_enter Try.func25, Try.ntmps25
  go_upto_region 1 with fail
  rw [← hW1]
  clear hW1
  go_upto_region 2 with fail
  rw [← hW2]
  clear hW2 c0 c1 c3 c4
  have c2 := cell_of_heap (j := 2) HG2.out rfl
  have h3 := cell_of_heap (j := 3) HO2.out rfl
  have f3 := frozen_of_row _ _ 3 _ _ HO2.out
  cases mo
  · go_wp2_with fail
    go_ret
    refine ⟨.slice (some ⟨W1.heap.size, 0, none⟩) 6 6, rfl, ?_, HX.out.trans HX2.out⟩
    rw [← HB.out]
    exact ⟨rfl, .inr ⟨W1.heap.size, 6, _, rfl, HX.out.size, HO2.out, Nat.le_refl _, by unfold maxLen; omega, rfl, rfl⟩⟩
  · go_wp2_with fail
    go_ret
    refine ⟨.slice (some ⟨W1.heap.size, 0, none⟩) 6 6, rfl, ?_, Below.setCell (HX.out.trans HX2.out) HX.out.size _⟩
    rw [← HB.out]
    exact ⟨rfl, .inr ⟨W1.heap.size, 6, _, rfl, HX.out.size, heap_setCell_same _ _ _ _ _ _ HO2.out, Nat.le_refl _, by unfold maxLen; omega, rfl, rfl⟩⟩
set_option maxHeartbeats 4000000 in
theorem may_any (P : Prt) (a : Option Addr) (n c : Nat) (w : World) (h : PrtAt w P a n c) :
    Calls Try.prog 26 #[.agg (prC P a n c)] w fun e w' => e = .returned (.bool (mayB P)) ∧ Ext w w' := by
  have HM : Hid (mayB P = (decide (1 ≤ P.co ∧ P.co ≤ 4 ∧ 1 ≤ P.lv ∧ P.lv ≤ 3) && nxB P)) := Lib.hid rfl
  have HN : Hid (nxB P = if P.mo = true then decide (0 ≤ P.nx ∧ P.nx ≤ 255) else decide (P.nx = 0)) := Lib.hid rfl
  obtain ⟨M, hM⟩ : ∃ M, mayB P = M := ⟨_, rfl⟩
  obtain ⟨NX, hNX⟩ : ∃ NX, nxB P = NX := ⟨_, rfl⟩
  rw [hM, hNX] at HM
  rw [hNX] at HN
  rw [hM]
  unfold prC
  obtain ⟨co, lv, mo, nx, L⟩ := P
  simp only at HM HN ⊢
  obtain ⟨W1, hW1, x1, HG⟩ : ∃ W1, W1 = w.alloc (.cells #[.int .i64 co, .int .i64 lv, .bool mo, .int .i64 nx, .slice a n c] 24) ∧ Ext w W1 ∧ Hid (W1.heap[w.heap.size]? = some (.cells #[.int .i64 co, .int .i64 lv, .bool mo, .int .i64 nx, .slice a n c] 24 (0, 0))) := ⟨_, rfl, Ext.alloc _ _, Lib.hid (heap_alloc_new _ _)⟩
  have c0 := cell_of_heap (j := 0) HG.out rfl
  have c1 := cell_of_heap (j := 1) HG.out rfl
  have c2 := cell_of_heap (j := 2) HG.out rfl
  have c3 := cell_of_heap (j := 3) HG.out rfl
  have HX := Lib.hid x1
  clear h x1 hM hNX
  go_enter Try.func26, Try.ntmps26
  go_upto_region 1 with fail
  rw [← hW1]
  clear hW1
  by_cases h1 : co < 1
  · have HE : Hid (M = false) := Lib.hid (by rw [HM.out, decide_eq_false (by omega), Bool.false_and])
    go_wp2
    go_ret
    exact ⟨by rw [HE.out]; rfl, HX.out⟩
  · by_cases h2 : 4 < co
    · have HE : Hid (M = false) := Lib.hid (by rw [HM.out, decide_eq_false (by omega), Bool.false_and])
      go_wp2
      go_ret
      exact ⟨by rw [HE.out]; rfl, HX.out⟩
    · by_cases h3 : lv < 1
      · have HE : Hid (M = false) := Lib.hid (by rw [HM.out, decide_eq_false (by omega), Bool.false_and])
        go_wp2
        go_ret
        exact ⟨by rw [HE.out]; rfl, HX.out⟩
      · by_cases h4 : 3 < lv
        · have HE : Hid (M = false) := Lib.hid (by rw [HM.out, decide_eq_false (by omega), Bool.false_and])
          go_wp2
          go_ret
          exact ⟨by rw [HE.out]; rfl, HX.out⟩
        · have HE : Hid (M = NX) := Lib.hid (by rw [HM.out, decide_eq_true (by omega), Bool.true_and])
          by_cases h5 : nx = 0
          · have h5' : (nx == 0) = true := by simpa using h5
            have HF : Hid (NX = true) := Lib.hid (by rw [HN.out]; cases mo <;> simp [h5])
            clear h5
            go_wp2
            go_ret
            exact ⟨by rw [HE.out, HF.out]; rfl, HX.out⟩
          · have h5' : (nx == 0) = false := by simpa using h5
            cases mo
            · have HF : Hid (NX = false) := Lib.hid (by rw [HN.out]; simp [h5])
              clear h5
              go_wp2
              go_ret
              exact ⟨by rw [HE.out, HF.out]; rfl, HX.out⟩
            · by_cases h6 : 0 < nx
              · by_cases h7 : nx ≤ 255
                · have HF : Hid (NX = true) := Lib.hid (by rw [HN.out, if_pos rfl]; exact decide_eq_true (by omega))
                  go_wp2
                  go_ret
                  exact ⟨by rw [HE.out, HF.out]; rfl, HX.out⟩
                · have HF : Hid (NX = false) := Lib.hid (by rw [HN.out, if_pos rfl]; exact decide_eq_false (by omega))
                  go_wp2
                  go_ret
                  exact ⟨by rw [HE.out, HF.out]; rfl, HX.out⟩
              · have HF : Hid (NX = false) := Lib.hid (by rw [HN.out, if_pos rfl]; exact decide_eq_false (by omega))
                go_wp2
                go_ret
                exact ⟨by rw [HE.out, HF.out]; rfl, HX.out⟩
end Go.Proofs.Ythdkhdbabohohaa
