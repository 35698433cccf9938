/-
  CONTRACTS: package ident (layer 21): question, asked, with.
  CONTRACTS: package ident (layer 21): Answer.
-/
import Derived.Test.YthdkhdbabohohaaIdeD
import Derived.Test.YthdkhdbabohohaaIdeO
namespace Go.Proofs.Ythdkhdbabohohaa
open Go.RowKit
set_option linter.unusedVariables false
set_option maxRecDepth 100000

def queE (m : Nat) (f : Nat → Int) : Int := if m = 0 ∨ f 0 ≠ 14 then 1 else if m ≠ 3 then 3 else 0
set_option maxHeartbeats 4000000 in
theorem que_any (b : Option Addr) (m d : Nat) (f : Nat → Int) (w : World) (h : Holds .u8 w b m f) (hf : ∀ i, i < m → 0 ≤ f i ∧ f i < 256) :
    Calls Try.prog 33 #[.slice b m d] w fun e w' => ∃ c i, e = .returned (.tuple #[.int .i64 c, .int .i64 i, .int .i64 (queE m f)]) ∧ (queE m f = 0 → c = f 1 ∧ i = f 2) ∧ Ext w w' := by
  obtain ⟨E, hE⟩ : ∃ E, queE m f = E := ⟨_, rfl⟩
  rw [hE]
  unfold queE at hE
  by_cases h0 : m = 0
  · have HE : Hid (E = 1) := Lib.hid (by rw [← hE, if_pos (.inl h0)])
    subst h0
    clear h hf hE
    go_enter Try.func33, Try.ntmps33
    go_wp2
    go_ret3
    exact ⟨0, 0, by rw [HE.out]; rfl, (fun e => by rw [HE.out] at e; cases e), Ext.refl _⟩
  · obtain ⟨p, o, rfl, hp, hc⟩ := h.resolve_left h0
    have c0 : w.cell? ⟨p, o, none⟩ = some (.int .u8 (f 0)) := hc 0 (by omega)
    have m0 : ((m : Int) == 0) = false := by simp; omega
    have m1 : (0 : Int) < m := by omega
    obtain ⟨F0, hF0⟩ : ∃ F0, f 0 = F0 := ⟨_, rfl⟩
    rw [hF0] at c0 hE
    by_cases h14 : F0 = 14
    · subst h14
      by_cases h3 : m = 3
      · subst h3
        have HE : Hid (E = 0) := Lib.hid (by rw [← hE, if_neg (by omega), if_neg (by omega)])
        have c1 : w.cell? ⟨p, o + 1, none⟩ = some (.int .u8 (f 1)) := hc 1 (by omega)
        have c2 : w.cell? ⟨p, o + 2, none⟩ = some (.int .u8 (f 2)) := hc 2 (by omega)
        have b1 := hf 1 (by omega)
        have b2 := hf 2 (by omega)
        obtain ⟨F1, hF1⟩ : ∃ F1, f 1 = F1 := ⟨_, rfl⟩
        obtain ⟨F2, hF2⟩ : ∃ F2, f 2 = F2 := ⟨_, rfl⟩
        rw [hF1] at c1 b1
        rw [hF2] at c2 b2
        have u1 : IntKind.i64.wrap F1 = F1 := IntWalk.i64_in _ (by omega)
        have u2 : IntKind.i64.wrap F2 = F2 := IntWalk.i64_in _ (by omega)
        have HFF := Lib.hid (And.intro hF1 hF2)
        clear h hf hE hc hF0 hF1 hF2 b1 b2 h0 hp
        go_enter Try.func33, Try.ntmps33
        go_upto_region 5 with fail
        go_region_with fail
        all_goals go_wp2_with fail
        all_goals go_ret3
        all_goals exact ⟨F1, F2, by rw [HE.out]; rfl, fun _ => ⟨HFF.out.1.symm, HFF.out.2.symm⟩, Ext.drew _⟩
      · have HE : Hid (E = 3) := Lib.hid (by rw [← hE, if_neg (by omega), if_pos h3])
        have m3 : ((m : Int) != 3) = true := by simp; omega
        clear h hf hE hc hF0 h0 hp h3
        go_enter Try.func33, Try.ntmps33
        go_wp2
        go_ret3
        exact ⟨0, 0, by rw [HE.out]; rfl, (fun e => by rw [HE.out] at e; cases e), Ext.refl _⟩
    · have HE : Hid (E = 1) := Lib.hid (by rw [← hE, if_pos (.inr h14)])
      have h14' : (F0 != 14) = true := by simpa using h14
      clear h hf hE hc hF0 h0 hp
      go_enter Try.func33, Try.ntmps33
      go_wp2
      go_ret3
      exact ⟨0, 0, by rw [HE.out]; rfl, (fun e => by rw [HE.out] at e; cases e), Ext.refl _⟩
def askE (L : List Ob) (co id : Int) : Int := if co < 1 ∨ 4 < co then 3 else if co = 4 ∧ (findO id L).isSome = false then 2 else 0
def askL (L : List Ob) (co id : Int) : List Ob := if co = 4 then [(findO id L).getD zeroOb] else fromO co id L
theorem fromO_len (s id : Int) (L : List Ob) : (fromO s id L).length ≤ L.length := by
  unfold fromO
  split
  · exact ofO_len _ _
  · exact Nat.le_trans (atO_sub _ _).1 (ofO_len _ _)
theorem at_find : ∀ {L : List Ob} {id : Int} {z : Ob}, findO id L = some z → ∃ R, atO id L = z :: R
  | x :: L, id, z, h => by
    unfold findO at h
    unfold atO
    split at h
    · rename_i hx
      cases h
      exact ⟨L, by rw [if_pos hx]⟩
    · rename_i hx
      obtain ⟨R, hR⟩ := at_find h
      exact ⟨R, by rw [if_neg hx]; exact hR⟩
theorem of3 (L : List Ob) : ofO 3 L = L := by
  unfold ofO
  exact List.filter_eq_self.2 (fun z _ => rfl)
theorem from_one {L : List Ob} {id : Int} {z : Ob} (h : findO id L = some z) : ∃ R, fromO 3 id L = z :: R := by
  obtain ⟨R, hR⟩ := at_find h
  refine ⟨R, ?_⟩
  unfold fromO
  rw [of3, hR, if_neg (by simp)]
theorem sameO_consL {M R : List Ob} {z : Ob} (h : sameO M (z :: R) = true) : 1 ≤ M.length ∧ sameO (M.take 1) [z] = true := by
  have e := sameO_take h 1
  have l := sameO_len h
  exact ⟨by rw [l]; simp, by simpa using e⟩
set_option maxHeartbeats 8000000 in
theorem asked_any (O : ObjC) (a : Option Addr) (n c : Nat) (L : List Ob) (co id : Int) (w : World) (hL : ObjsAt w a n c L) (fL : ObjF L) (hco : 0 ≤ co ∧ co < 256) (hid : 0 ≤ id ∧ id < 256) :
    Calls Try.prog 34 #[.slice a n c, .int .i64 co, .int .i64 id] w fun e w' => ∃ b m q M, e = .returned (.tuple #[.slice b m q, .int .i64 (askE L co id)]) ∧ (askE L co id = 0 → ObjsAt w' b m q M ∧ sameO M (askL L co id) = true) ∧ Ext w w' := by
  have wid : (Lit.int .i64 id).wf = true := by simp [Lit.wf, IntKind.min, IntKind.max, IntKind.signed, IntKind.bits]; omega
  have HFd := Lib.hid (O.find a n c L id w hL fL wid)
  have HFr := Lib.hid (fun W s (x : Ext w W) (h : (Lit.int .i64 s).wf = true) => O.from_ a n c L s id W (hL.ext x) fL h wid)
  have HN := Lib.hid (And.intro hL.len fL.n)
  have hn : n ≤ 100000 := by rw [← hL.len]; exact fL.n
  clear hL fL
  by_cases h4 : co = 4
  · subst h4
    cases hf : findO id L with
    | none =>
      have HE : Hid (askE L 4 id = 2) := Lib.hid (by unfold askE; rw [if_neg (by omega), if_pos ⟨rfl, by rw [hf]; rfl⟩])
      rw [hf] at HFd
      clear hf hid hco
      go_enter Try.func34, Try.ntmps34
      go_wp2_with fail
      refine HFd.out.mono ?_; rintro e w1 ⟨z, rfl, -, -, x1⟩
      have HX1 := Lib.hid x1
      unfold obC
      go_wp2
      go_ret2
      exact ⟨none, 0, 0, [], by rw [HE.out]; rfl, (fun e => by rw [HE.out] at e; cases e), HX1.out.trans (Ext.alloc _ _)⟩
    | some z =>
      have HE : Hid (askE L 4 id = 0) := Lib.hid (by unfold askE; rw [if_neg (by omega), if_neg (fun h => by have := h.2; rw [hf] at this; cases this)])
      have HLl : Hid (askL L 4 id = [z]) := Lib.hid (by unfold askL; rw [if_pos rfl, hf]; rfl)
      obtain ⟨R, hR⟩ := from_one hf
      have HRR := Lib.hid hR
      rw [hf] at HFd
      clear hf hid hco hR
      go_enter Try.func34, Try.ntmps34
      go_wp2_with fail
      refine HFd.out.mono ?_; rintro e w1 ⟨z1, rfl, -, -, x1⟩
      have HX1 := Lib.hid x1
      have HFr3 := Lib.hid (fun W (x : Ext w W) => HFr.out W 3 x (by decide))
      unfold obC
      clear x1
      go_wp2_with fail
      refine (HFr3.out _ (HX1.out.trans (Ext.alloc _ _))).mono ?_; rintro e w2 ⟨b, m, q, M, rfl, hM, sM, x2⟩
      rw [HRR.out] at sM
      obtain ⟨l1, s1⟩ := sameO_consL sM
      have hm1 : 1 ≤ m := by rw [← hM.len]; exact l1
      have HF := Lib.hid (And.intro (hM.take hm1) (And.intro s1 ((HX1.out.trans (Ext.alloc _ _)).trans x2)))
      have hmq : m ≤ q := hM.l
      have hq9 : (q : Int) ≤ 9223372036854775807 := by have := hM.m; unfold maxLen at this; omega
      have hm1' : min (1 : Int) (m : Int) = 1 := by omega
      have hmq' : (1 : Int) ≤ q := by omega
      clear hM sM x2 l1 s1
      go_wp2
      go_ret2
      exact ⟨b, 1, q, M.take 1, by rw [HE.out]; rfl, (fun _ => ⟨HF.out.1, by rw [HLl.out]; exact HF.out.2.1⟩), HF.out.2.2⟩
  · by_cases hr : 1 ≤ co ∧ co ≤ 3
    · have HE : Hid (askE L co id = 0) := Lib.hid (by unfold askE; rw [if_neg (by omega), if_neg (fun h => h4 h.1)])
      have HLl : Hid (askL L co id = fromO co id L) := Lib.hid (by unfold askL; rw [if_neg h4])
      have hcs : co = 1 ∨ co = 2 ∨ co = 3 := by omega
      have HFc := Lib.hid (fun W (x : Ext w W) => HFr.out W co x (by simp [Lit.wf, IntKind.min, IntKind.max, IntKind.signed, IntKind.bits]; omega))
      have HFl := Lib.hid (fromO_len co id L)
      have b4 : (co == 4) = false := by simpa using h4
      clear hid hco h4 hr HFd HFr
      rcases hcs with rfl | rfl | rfl
      all_goals
        go_enter Try.func34, Try.ntmps34
        go_wp2_with fail
        refine (HFc.out _ (Ext.refl w)).mono ?_; rintro e w2 ⟨b, m, q, M, rfl, hM, sM, x2⟩
        have hmn : m ≤ n := by have h1 := hM.len; have h2 := sameO_len sM; have h3 := HFl.out; have h4 := HN.out.1; omega
        have HF := Lib.hid (And.intro hM (And.intro sM x2))
        have hmq : m ≤ q := hM.l
        have hq9 : (q : Int) ≤ 9223372036854775807 := by have := hM.m; unfold maxLen at this; omega
        have hmn' : min (n : Int) (m : Int) = m := by omega
        have hmq' : (m : Int) ≤ q := by omega
        clear hM sM x2
        go_wp2
        go_ret2
        exact ⟨b, m, q, M, by rw [HE.out]; rfl, (fun _ => ⟨HF.out.1, by rw [HLl.out]; exact HF.out.2.1⟩), HF.out.2.2⟩
    · have HE : Hid (askE L co id = 3) := Lib.hid (by unfold askE; rw [if_pos (by omega)])
      have b4 : (co == 4) = false := by simpa using h4
      have b1 : (co == 1) = false := by simp; omega
      have b2 : (co == 2) = false := by simp; omega
      have b3 : (co == 3) = false := by simp; omega
      clear hid hco h4 hr HFd HFr
      go_enter Try.func34, Try.ntmps34
      go_wp2
      go_ret2
      exact ⟨none, 0, 0, [], by rw [HE.out]; rfl, (fun e => by rw [HE.out] at e; cases e), Ext.refl _⟩
/-- The part with as many objects as have room. -/
def witP (co lv : Int) (F : List Ob) : Prt := ⟨co, lv, decide (filN 6 F < F.length), if filN 6 F < F.length then (F[filN 6 F]?.getD zeroOb).id else 0, F.take (filN 6 F)⟩
set_option maxHeartbeats 8000000 in
theorem with_any (co lv : Int) (b : Option Addr) (m q : Nat) (F : List Ob) (w : World) (hF : ObjsAt w b m q F) (fF : ObjF F) (wc : (Lit.int .i64 co).wf = true) (wl : (Lit.int .i64 lv).wf = true) :
    Calls Try.prog 35 #[.agg #[.int .i64 co, .int .i64 lv, .bool false, .int .i64 0, .slice none 0 0], .slice b m q] w fun e w' => e = .returned (.agg (prC (witP co lv F) b (filN 6 F) q)) ∧ ObjsAt w' b (filN 6 F) q (F.take (filN 6 F)) ∧ Ext w w' := by
  obtain ⟨G, hG⟩ : ∃ G, G = w.heap.size := ⟨_, rfl⟩
  obtain ⟨W0, hW0, x0, HG, HG1⟩ : ∃ W0, W0 = (w.alloc (.cells #[.int .i64 co, .int .i64 lv, .bool false, .int .i64 0, .slice none 0 0] 24)).alloc (.cells #[.int .i64 0, .int .i64 0, .bool false, .int .i64 0, .slice none 0 0] 24) ∧ Ext w W0 ∧ Hid (W0.heap[G]? = some (.cells #[.int .i64 co, .int .i64 lv, .bool false, .int .i64 0, .slice none 0 0] 24 (0, 0))) ∧ Hid (W0.heap[G + 1]? = some (.cells #[.int .i64 0, .int .i64 0, .bool false, .int .i64 0, .slice none 0 0] 24 (0, 0))) :=
    ⟨_, rfl, (Ext.alloc _ _).alloc' _, Lib.hid (by rw [hG]; exact (heap_alloc_old _ _ (by simp)).trans (heap_alloc_new _ _)), Lib.hid (by rw [hG]; exact heap_new_at _ _ (by simp))⟩
  have HX := Lib.hid x0
  have HGs := Lib.hid hG
  have HBe := Lib.hid (begin_any ⟨co, lv, false, 0, []⟩ none 0 0 W0 ⟨ObjsAt.nil _, wc, wl, show (Lit.int .i64 0).wf = true by decide⟩)
  have HA := Lib.hid (And.intro hF fF)
  have HFn := Lib.hid (filN_le 6 F)
  have HW : Hid (witP co lv F = ⟨co, lv, decide (filN 6 F < F.length), if filN 6 F < F.length then (F[filN 6 F]?.getD zeroOb).id else 0, F.take (filN 6 F)⟩) := Lib.hid rfl
  obtain ⟨k, hk⟩ : ∃ k, filN 6 F = k := ⟨_, rfl⟩
  rw [hk] at HFn HW ⊢
  have HKk := Lib.hid hk
  clear hk
  have HLn := Lib.hid hF.len
  have HQ := Lib.hid (And.intro hF.l hF.m)
  unfold prC at HBe
  simp only at HBe
  have e1 : W0.heap.size = G + 2 := by rw [hW0, hG]; simp
  have HS0 := Lib.hid e1
  clear hF fF wc wl x0 e1
  go_enter Try.func35, Try.ntmps35
  go_upto_region 1 with fail
  rw [← hW0, ← hG]
  clear hW0 hG
  have gR := HG.out
  go_wp2_with (refine wpList_load_row rfl 24 (.tmp 2) rfl G rfl 24 #[.int .i64 co, .int .i64 lv, .bool false, .int .i64 0, .slice none 0 0] (0, 0) _ gR Try.underlying24 rfl (by kernel_rfl) ?_)
  clear gR
  refine HBe.out.mono ?_; rintro e w2 ⟨v, rfl, hown, x2⟩
  obtain ⟨sb, sq, rfl⟩ := own_shape hown
  obtain ⟨R, hR⟩ : ∃ R, R = w2.heap.size := ⟨_, rfl⟩
  obtain ⟨W3, hW3, x3, HG3⟩ : ∃ W3, W3 = w2.alloc (.cells #[.slice sb 6 sq] 57) ∧ Ext w2 W3 ∧ Hid (W3.heap[R]? = some (.cells #[.slice sb 6 sq] 57 (0, 0))) := ⟨_, rfl, Ext.alloc _ _, Lib.hid (by rw [hR]; exact heap_alloc_new _ _)⟩
  have HS3 : Hid (Sai W0 W3 R (begL ⟨co, lv, false, 0, []⟩) (.slice sb 6 sq)) := Lib.hid ⟨HG3.out, own_ext hown x3, fun e => by have := (hown.lt R e).2; omega, by rw [hR]; exact x2.size⟩
  have HX3 := Lib.hid (x2.trans x3)
  clear hown x2 x3
  go_upto_region 2 with fail
  rw [← hW3, ← hR]
  clear hW3 hR
  have HFL := Lib.hid (fill_any W0 W3 R _ (begL ⟨co, lv, false, 0, []⟩) b m q F HS3.out HX3.out (HA.out.1.ext HX.out) HA.out.2 (by show (6 : Nat) ≤ 252; decide))
  rw [show (begL ⟨co, lv, false, 0, []⟩).length = 6 from rfl, HKk.out] at HFL
  go_wp2_with fail
  refine HFL.out.mono ?_; rintro e w4 ⟨rfl, -, x4⟩
  have HG4 := Lib.hid (x4.block HG.out)
  have HG14 := Lib.hid (x4.block HG1.out)
  have HX4 := Lib.hid (HX.out.trans x4)
  have c4 := cell_of_heap (j := 4) HG4.out rfl
  have f4 := frozen_of_row _ _ 4 _ _ HG4.out
  have k1 : (k : Int) ≤ m := by have := HFn.out; have := HLn.out; omega
  have k2 : (m : Int) ≤ q := by have := HQ.out.1; omega
  have k3 : (q : Int) ≤ 9223372036854775807 := by have := HQ.out.2; unfold maxLen at this; omega
  have k4 : (k : Int) ≤ q := by omega
  clear x4
  go_upto_region 4 with fail
  obtain ⟨W5, hW5, HG5, HG15, HX5⟩ : ∃ W5, W5 = w4.setCell ⟨G, 4, none⟩ (.slice b k q) ∧ Hid (W5.heap[G]? = some (.cells #[.int .i64 co, .int .i64 lv, .bool false, .int .i64 0, .slice b k q] 24 (0, 0))) ∧ Hid (W5.heap[G + 1]? = some (.cells #[.int .i64 0, .int .i64 0, .bool false, .int .i64 0, .slice none 0 0] 24 (0, 0))) ∧ Hid (Ext w W5) :=
    ⟨_, rfl, Lib.hid (heap_setCell_same _ _ _ _ _ _ HG4.out), Lib.hid ((heap_setCell_other _ _ _ _ (by simp)).trans HG14.out), Lib.hid (Below.setCell HX4.out (by rw [HGs.out]; exact Nat.le_refl _) _)⟩
  rw [← hW5]
  clear hW5 c4 f4
  by_cases hlt : k < F.length
  · have hlt' : (k : Int) < m := by have := HLn.out; omega
    obtain ⟨p, o, rfl, hp, -⟩ := HA.out.1.h.resolve_left (by intro e; rw [e] at hlt; simp at hlt)
    obtain ⟨a0, a1⟩ := HA.out.1.h.ob_at k hlt
    have hid : (F[k]?.getD zeroOb).id = F[k].id := by rw [List.getElem?_eq_getElem hlt]; rfl
    obtain ⟨I, hI⟩ : ∃ I, F[k].id = I := ⟨_, rfl⟩
    rw [hI] at a0 hid
    have HWP : Hid (prC (witP co lv F) (some ⟨p, o, none⟩) k q = #[.int .i64 co, .int .i64 lv, .bool true, .int .i64 I, .slice (some ⟨p, o, none⟩) k q]) := Lib.hid (by rw [HW.out, decide_eq_true hlt, if_pos hlt, hid]; rfl)
    go_upto_region 5 with fail
    obtain ⟨X, hX⟩ : ∃ X, X = W5.drew := ⟨_, rfl⟩
    have x5X : Ext W5 X := by rw [hX]; exact Ext.drew _
    have hs : Keep (fun i => i = G) X X := Keep.refl _ _
    refine wp_region_held_drew (S := fun W => Keep (fun i => i = G) X W) (by kernel_rfl) (by rw [← hX]; exact hs) (fun _ => ?_)
    rw [← hX]
    clear hX
    have gX := x5X.block HG5.out
    have HC0 := Lib.hid (fun W (x : Keep (fun i => i = G) X W) => (x.cell (fun e => by have e : p = G := e; have := HGs.out; omega) ((HX5.out.trans x5X).cell hp a0) : W.cell? ⟨p, o + k * 2, none⟩ = some (.int .i64 I)))
    clear a0 a1 hid hI
    -- REGION (bilge/ident.Part).with 5 ident_with5
    refine wpAnyH_takeD (i := 0) (d := 20) (v := .slice (some ⟨p, o, none⟩) m q) rfl rfl (by kernel_rfl) (by kernel_rfl) (by kernel_rfl) (fun _ _ _ h => h) (Or.inl ⟨by rfl, fun W hW => by go_simp⟩) hs ?_
    simp only [Act.put, List.setIfInBounds_toArray, List.set_cons_succ, List.set_cons_zero]
    refine wpAnyH_takeD (i := 1) (d := 21) (v := .int .i64 (k : Nat)) rfl rfl (by kernel_rfl) (by kernel_rfl) (by kernel_rfl) (fun _ _ _ h => h) (Or.inl ⟨by rfl, fun W hW => by go_simp⟩) hs ?_
    simp only [Act.put, List.setIfInBounds_toArray, List.set_cons_succ, List.set_cons_zero]
    refine wpAnyH_takeD (i := 2) (d := 22) (v := .pointer (some ⟨p, o + k * 2, none⟩)) rfl rfl (by kernel_rfl) (by kernel_rfl) (by kernel_rfl) (fun _ _ _ h => h) (Or.inl ⟨by rfl, fun W hW => by have k0 := HC0.out W hW; go_simp⟩) hs ?_
    simp only [Act.put, List.setIfInBounds_toArray, List.set_cons_succ, List.set_cons_zero]
    refine wpAnyH_takeD (i := 3) (d := 23) (v := .pointer (some ⟨p, o + k * 2, none⟩)) rfl rfl (by kernel_rfl) (by kernel_rfl) (by kernel_rfl) (fun _ _ _ h => h) (Or.inl ⟨by rfl, fun W hW => by go_simp⟩) hs ?_
    simp only [Act.put, List.setIfInBounds_toArray, List.set_cons_succ, List.set_cons_zero]
    refine wpAnyH_takeD (i := 4) (d := 24) (v := .int .i64 I) rfl rfl (by kernel_rfl) (by kernel_rfl) (by kernel_rfl) (fun _ _ _ h => h) (Or.inl ⟨by rfl, fun W hW => by have k0 := HC0.out W hW; go_simp⟩) hs ?_
    simp only [Act.put, List.setIfInBounds_toArray, List.set_cons_succ, List.set_cons_zero]
    refine wpAnyH_takeD (i := 5) (d := 25) (v := .pointer (some ⟨G, 2, none⟩)) rfl rfl (by kernel_rfl) (by kernel_rfl) (by kernel_rfl) (fun _ _ _ h => h) (Or.inl ⟨by rfl, fun W hW => by go_simp⟩) hs ?_
    simp only [Act.put, List.setIfInBounds_toArray, List.set_cons_succ, List.set_cons_zero]
    refine wpAnyH_ready (rs := [6]) (by kernel_rfl) (by simp) (AllReadyH.cons rfl (fun K hK => ?_) AllReadyH.nil)
    have cb := cell_of_heap (j := 2) gX rfl
    have fb := frozen_of_row _ _ 2 _ _ gX
    go_simp
    refine hK.out _ _ (hs.trans (keepCellM X G 2 _) (fun i h => .inl h)) (fun hs => ?_)
    clear hK K cb fb
    have gY : (X.setCell ⟨G, 2, none⟩ (.bool true)).heap[G]? = some (.cells #[.int .i64 co, .int .i64 lv, .bool true, .int .i64 0, .slice (some ⟨p, o, none⟩) k q] 24 (0, 0)) := heap_setCell_same _ _ _ _ _ _ gX
    refine wpAnyH_takeD (i := 7) (d := 26) (v := .pointer (some ⟨G, 3, none⟩)) rfl rfl (by kernel_rfl) (by kernel_rfl) (by kernel_rfl) (fun _ _ _ h => h) (Or.inl ⟨by rfl, fun W hW => by go_simp⟩) hs ?_
    simp only [Act.put, List.setIfInBounds_toArray, List.set_cons_succ, List.set_cons_zero]
    refine wpAnyH_ready (rs := [8]) (by kernel_rfl) (by simp) (AllReadyH.cons rfl (fun K hK => ?_) AllReadyH.nil)
    have cb := cell_of_heap (j := 3) gY rfl
    have fb := frozen_of_row _ _ 3 _ _ gY
    go_simp
    refine hK.out _ _ (hs.trans (keepCellM _ G 3 _) (fun i h => .inl h)) (fun hs => ?_)
    clear hK K cb fb
    have gZ : ((X.setCell ⟨G, 2, none⟩ (.bool true)).setCell ⟨G, 3, none⟩ (.int .i64 I)).heap[G]? = some (.cells #[.int .i64 co, .int .i64 lv, .bool true, .int .i64 I, .slice (some ⟨p, o, none⟩) k q] 24 (0, 0)) := heap_setCell_same _ _ _ _ _ _ gY
    refine wpAnyH_done (by kernel_rfl) ?_ _
    -- END REGION
    have g1 : ((X.setCell ⟨G, 2, none⟩ (.bool true)).setCell ⟨G, 3, none⟩ (.int .i64 I)).heap[G + 1]? = some (.cells #[.int .i64 0, .int .i64 0, .bool false, .int .i64 0, .slice none 0 0] 24 (0, 0)) := (hs.block (G + 1) (heap_lt (x5X.block HG15.out)) (by simp)).trans (x5X.block HG15.out)
    have hZ : Ext w ((X.setCell ⟨G, 2, none⟩ (.bool true)).setCell ⟨G, 3, none⟩ (.int .i64 I)) := (HX5.out.trans x5X).keep hs (fun i hi => by have hi : i = G := hi; rw [hi, HGs.out]; exact Nat.le_refl _)
    obtain ⟨Z, hZ1⟩ : ∃ Z, Z = (X.setCell ⟨G, 2, none⟩ (.bool true)).setCell ⟨G, 3, none⟩ (.int .i64 I) := ⟨_, rfl⟩
    rw [← hZ1] at g1 hZ gZ ⊢
    have HXZ := Lib.hid hZ
    clear hZ1 hZ hs x5X gX
    have gZ' : Z.heap[G]? = some (.cells #[.int .i64 co, .int .i64 lv, .bool true, .int .i64 I, .slice (some ⟨p, o, none⟩) k q] 24 (0, 0)) := gZ
    clear gZ
    go_wp2_with (first
      | (refine wpList_load_row rfl 24 (.tmp 2) rfl G rfl 24 _ (0, 0) _ gZ' Try.underlying24 rfl (by kernel_rfl) ?_)
      | (refine wpList_store_row rfl 24 (.tmp 4) (.tmp 27) rfl (G + 1) #[.int .i64 co, .int .i64 lv, .bool true, .int .i64 I, .slice (some ⟨p, o, none⟩) k q] rfl rfl 24 #[.int .i64 0, .int .i64 0, .bool false, .int .i64 0, .slice none 0 0] g1 (by kernel_rfl) rfl (by simp [Value.oneCell']) ?_))
    refine bodyPost_ret (results_cell_row rfl _ _ (G + 1) 24 _ (0, 0) _ rfl (setRow_heap _ _ _ _ _ _ g1) Try.underlying24 rfl (by kernel_rfl)) rfl ?_
    have hx := below_setRow HXZ.out (g := G + 1) (by rw [HGs.out]; omega) #[.int .i64 co, .int .i64 lv, .bool true, .int .i64 I, .slice (some ⟨p, o, none⟩) k q]
    exact ⟨by rw [HWP.out], (HA.out.1.take (by omega)).ext hx, hx⟩
  · have hkF : k = F.length := by have := HFn.out; omega
    have hlt' : m ≤ k := by have := HLn.out; omega
    have HWP : Hid (prC (witP co lv F) b k q = #[.int .i64 co, .int .i64 lv, .bool false, .int .i64 0, .slice b k q]) := Lib.hid (by rw [HW.out, decide_eq_false hlt, if_neg hlt]; rfl)
    have g5 := HG5.out
    have g1 := HG15.out
    clear hkF
    go_wp2_with (first
      | (refine wpList_load_row rfl 24 (.tmp 2) rfl G rfl 24 _ (0, 0) _ g5 Try.underlying24 rfl (by kernel_rfl) ?_)
      | (refine wpList_store_row rfl 24 (.tmp 4) (.tmp 27) rfl (G + 1) #[.int .i64 co, .int .i64 lv, .bool false, .int .i64 0, .slice b k q] rfl rfl 24 #[.int .i64 0, .int .i64 0, .bool false, .int .i64 0, .slice none 0 0] g1 (by kernel_rfl) rfl (by simp [Value.oneCell']) ?_))
    refine bodyPost_ret (results_cell_row rfl _ _ (G + 1) 24 _ (0, 0) _ rfl (setRow_heap _ _ _ _ _ _ g1) Try.underlying24 rfl (by kernel_rfl)) rfl ?_
    have hx := below_setRow HX5.out (g := G + 1) (by rw [HGs.out]; omega) #[.int .i64 co, .int .i64 lv, .bool false, .int .i64 0, .slice b k q]
    exact ⟨by rw [HWP.out], (HA.out.1.take (by omega)).ext hx, hx⟩
end Go.Proofs.Ythdkhdbabohohaa
namespace Go.Proofs.Ythdkhdbabohohaa
open Go.RowKit
set_option linter.unusedVariables false
set_option maxRecDepth 100000

/-- What Answer tells. -/
def AnsF (L : List Ob) (m : Nat) (f : Nat → Int) (w : World) (e : Ending) (w' : World) : Prop := ∃ x q, e = .returned (.tuple #[.slice x (ansK L m f) q, .int .i64 (ansE L m f)]) ∧ Holds .u8 w' x (ansK L m f) (ofL (sayP (ansP L f))) ∧ ansK L m f ≤ q ∧ q ≤ maxLen ∧ Fresh w x ∧ Ext w w'
theorem ansF_no {L : List Ob} {m : Nat} {f : Nat → Int} {w w' : World} {E : Int} (hE : ansE L m f = E) (h0 : E ≠ 0) (x : Ext w w') : AnsF L m f w (.returned (.tuple #[.slice none 0 0, .int .i64 E])) w' := by
  have hk : ansK L m f = 0 := by unfold ansK; rw [hE, if_neg h0]
  unfold AnsF
  rw [hk, hE]
  exact ⟨none, 0, rfl, .inl rfl, Nat.le_refl _, Nat.zero_le _, Fresh.nil _, x⟩
theorem ansE_split {L : List Ob} {m : Nat} {f : Nat → Int} (h : rightO L = true) : ansE L m f = if queE m f ≠ 0 then queE m f else askE L (f 1) (f 2) := by
  unfold ansE queE askE
  rw [h, if_neg (by decide)]
  by_cases h1 : m = 0 ∨ f 0 ≠ 14
  · rw [if_pos h1, if_pos h1, if_pos (by decide)]
  · rw [if_neg h1, if_neg h1]
    by_cases h3 : m ≠ 3
    · rw [if_pos (.inl h3), if_pos h3, if_pos (by decide)]
    · rw [if_neg h3, if_neg (show ¬ (0 : Int) ≠ 0 by decide)]
      by_cases h2 : f 1 < 1 ∨ 4 < f 1
      · rw [if_pos (.inr h2), if_pos h2]
      · rw [if_neg (fun e => e.elim h3 h2), if_neg h2]
theorem askE_ok {L : List Ob} {co id : Int} (h : askE L co id = 0) : 1 ≤ co ∧ co ≤ 4 ∧ (co = 4 → (findO id L).isSome = true) := by
  unfold askE at h
  split at h
  · cases h
  · split at h
    · cases h
    · rename_i h1 h2
      refine ⟨by omega, by omega, fun e => ?_⟩
      cases hf : (findO id L).isSome with
      | true => rfl
      | false => exact absurd ⟨e, hf⟩ h2
theorem askL_F {L : List Ob} (h : ObjF L) (co id : Int) : ObjF (askL L co id) := by
  unfold askL
  split
  · cases hf : findO id L with
    | none => exact oneF (z := zeroOb) (Nat.zero_le _)
    | some z => exact oneF (h.e z (findO_mem hf))
  · exact h.fromO _ _
theorem wit_part {L M : List Ob} {f : Nat → Int} (h : rightO L = true) (hk : askE L (f 1) (f 2) = 0) (hM : sameO M (askL L (f 1) (f 2)) = true) :
    sameP (witP (f 1) (levelO L) M) (ansP L f) = true ∧ rightP (ansP L f) = true := by
  obtain ⟨c1, c4, hs⟩ := askE_ok hk
  have hmem := ansL_mem (L := L) (f := f) hs
  have hok : ∀ z ∈ ansL L f, okD z = true := fun z hz => right_okD h z (hmem z hz)
  have hM' : sameO M (ansL L f) = true := hM
  have hokM : ∀ z ∈ M, okD z = true := allD_iff.1 (by rw [(says_same hM').2.1]; exact allD_iff.2 hok)
  have e : witP (f 1) (levelO L) M = partA L M (f 1) := by
    unfold witP partA
    rw [filN_fit 6 M hokM]
  rw [e]
  exact ⟨partA_same (sameO_refl _) hM', partA_right h c1 c4 hok⟩
set_option maxHeartbeats 8000000 in
theorem answer_f (O : ObjC) (a b : Option Addr) (n c m d : Nat) (L : List Ob) (f : Nat → Int) (w : World) (hL : ObjsAt w a n c L) (fL : ObjF L) (hb : Holds .u8 w b m f) (hf : ∀ i, i < m → 0 ≤ f i ∧ f i < 256) :
    Calls Try.prog 16 #[.slice a n c, .slice b m d] w (AnsF L m f w) := by
  have HR := Lib.hid (O.right a n c L w hL fL)
  have HQu := Lib.hid (fun W (x : Ext w W) => que_any b m d f W (hb.ext x) hf)
  have HLv := Lib.hid (fun W (x : Ext w W) => O.level a n c L W (hL.ext x) fL)
  have HSp : Hid (rightO L = true → ansE L m f = if queE m f ≠ 0 then queE m f else askE L (f 1) (f 2)) := Lib.hid ansE_split
  have HAk := Lib.hid (fun W (x : Ext w W) h1 h2 => asked_any O a n c L (f 1) (f 2) W (hL.ext x) fL h1 h2)
  have HfL := Lib.hid fL
  have HB : Hid (queE m f = 0 → (0 ≤ f 1 ∧ f 1 < 256) ∧ (0 ≤ f 2 ∧ f 2 < 256)) := Lib.hid (fun h => by
    have h3 : m = 3 := by
      unfold queE at h
      split at h
      · cases h
      · split at h
        · cases h
        · omega
    exact ⟨hf 1 (by omega), hf 2 (by omega)⟩)
  clear hL fL hb hf
  cases hr : rightO L with
  | false =>
    rw [hr] at HR
    have HE : Hid (ansE L m f = 11) := Lib.hid (by unfold ansE; rw [if_pos hr])
    clear hr
    go_enter Try.func16, Try.ntmps16
    go_wp2_with fail
    refine HR.out.mono ?_; rintro e w1 ⟨rfl, x1⟩
    go_wp2
    go_ret2
    exact ansF_no HE.out (by decide) x1
  | true =>
    rw [hr] at HR
    have HRr := Lib.hid hr
    have HS := Lib.hid (HSp.out hr)
    obtain ⟨E, hE⟩ : ∃ E, queE m f = E := ⟨_, rfl⟩
    rw [hE] at HQu HS HB
    clear hr hE HSp
    go_enter Try.func16, Try.ntmps16
    go_wp2_with fail
    refine HR.out.mono ?_; rintro e w1 ⟨rfl, x1⟩
    go_wp2_with fail
    refine (HQu.out w1 x1).mono ?_; rintro e w2 ⟨co, id, rfl, hci, x2⟩
    have HX2 := Lib.hid (x1.trans x2)
    clear x1 x2
    by_cases h0 : E = 0
    · obtain ⟨h1, h2⟩ := hci h0
      subst h1 h2 h0
      obtain ⟨hb1, hb2⟩ := HB.out rfl
      have HAsk := Lib.hid (HAk.out w2 HX2.out hb1 hb2)
      have HS2 : Hid (ansE L m f = askE L (f 1) (f 2)) := Lib.hid (by rw [HS.out, if_neg (by simp)])
      have HFF : Hid ((Lit.int .i64 (f 1)).wf = true) := Lib.hid (by simp [Lit.wf, IntKind.min, IntKind.max, IntKind.signed, IntKind.bits]; omega)
      obtain ⟨F1, hF1⟩ : ∃ F1, f 1 = F1 := ⟨_, rfl⟩
      obtain ⟨F2, hF2⟩ : ∃ F2, f 2 = F2 := ⟨_, rfl⟩
      obtain ⟨K, hK⟩ : ∃ K, askE L F1 F2 = K := ⟨_, rfl⟩
      have HWt : Hid (K = 0 → ∀ M, sameO M (askL L F1 F2) = true → sameP (witP F1 (levelO L) M) (ansP L f) = true ∧ rightP (ansP L f) = true) := Lib.hid (fun h M hM => by
        rw [← hF1]
        exact wit_part HRr.out (by rw [hF1, hF2, hK]; exact h) (by rw [hF1, hF2]; exact hM))
      rw [hF1, hF2] at HAsk HS2
      rw [hF1] at HFF
      rw [hK] at HAsk HS2
      have HaF := Lib.hid (askL_F HfL.out F1 F2)
      clear hci hb1 hb2 hK HAk HQu HB HS
      rw [hF1, hF2]
      clear hF1 hF2
      go_wp2_with fail
      refine HAsk.out.mono ?_; rintro e w3 ⟨mb, mm, mq, M, rfl, hM, x3⟩
      have HX3 := Lib.hid (HX2.out.trans x3)
      clear x3
      by_cases hk : K = 0
      · obtain ⟨hMa, hMs⟩ := hM hk
        subst hk
        have HMa := Lib.hid hMa
        have HMF := Lib.hid (ObjF.same hMs HaF.out)
        have HWP := Lib.hid (HWt.out rfl M hMs)
        have HLv3 := Lib.hid (HLv.out w3 HX3.out)
        have HVw : Hid ((Lit.int .i64 (levelO L)).wf = true) := Lib.hid (by obtain ⟨l1, l3⟩ := level_bd HRr.out; simp [Lit.wf, IntKind.min, IntKind.max, IntKind.signed, IntKind.bits]; omega)
        obtain ⟨V, hV⟩ : ∃ V, levelO L = V := ⟨_, rfl⟩
        rw [hV] at HLv3 HWP HVw
        clear hM hMa hMs hV HWt
        go_wp2_with fail
        refine HLv3.out.mono ?_; rintro e w4 ⟨rfl, x4⟩
        have HWi := Lib.hid (with_any F1 V mb mm mq M w4 (HMa.out.ext x4) HMF.out HFF.out HVw.out)
        have HX4 := Lib.hid (HX3.out.trans x4)
        clear x4
        go_wp2_with fail
        refine HWi.out.mono ?_; rintro e w5 ⟨rfl, o5, x5⟩
        have HX5 := Lib.hid (HX4.out.trans x5)
        obtain ⟨P, hP⟩ : ∃ P, witP F1 V M = P := ⟨_, rfl⟩
        have hPL : P.L = M.take (filN 6 M) := by rw [← hP]; rfl
        have hPat : PrtAt w5 P mb (filN 6 M) mq := by
          refine ⟨by rw [hPL]; exact o5, by rw [← hP]; exact HFF.out, by rw [← hP]; exact HVw.out, ?_⟩
          rw [← hP]
          show (Lit.int .i64 (if filN 6 M < M.length then (M[filN 6 M]?.getD zeroOb).id else 0)).wf = true
          split
          · rename_i hlt
            rw [List.getElem?_eq_getElem hlt]
            exact (HMa.out.each _ (List.getElem_mem hlt)).wi
          · decide
        have hfP : ObjF P.L := by rw [hPL]; exact HMF.out.sub (by rw [List.length_take]; omega) (fun z hz => List.mem_of_mem_take hz)
        have HWr := Lib.hid (write_f P mb (filN 6 M) mq w5 hPat hfP)
        rw [hP] at HWP ⊢
        have hrP : rightP P = true := by rw [right_same HWP.out.1]; exact HWP.out.2
        have hak : ansK L m f = 6 + lenO (ansP L f).L := by unfold ansK; rw [HS2.out, if_pos rfl]
        have hwk : wrK P = ansK L m f := by
          unfold wrK
          rw [if_pos hrP, hak, (says_same (sameP_iff.1 HWP.out.1).2.2.2.2).2.2]
        have hwe : wrE P = 0 := by unfold wrE; rw [if_pos hrP]
        have HFin := Lib.hid (And.intro hwk (And.intro hwe (say_same HWP.out.1)))
        clear hP hPL hPat hfP hrP hak hwk hwe o5 x5
        go_wp2_with fail
        refine HWr.out.mono ?_; rintro e w6 ⟨x, q, rfl, h6, l6, m6, f6, x6⟩
        have H6 := Lib.hid (And.intro h6 (And.intro l6 (And.intro m6 (And.intro f6 x6))))
        clear h6 l6 m6 f6 x6
        go_wp2
        go_ret2
        obtain ⟨h6, l6, m6, f6, x6⟩ := H6.out
        obtain ⟨q1, q2, q3⟩ := HFin.out
        rw [q1] at h6 l6
        rw [q3] at h6
        exact ⟨x, q, by rw [HS2.out]; simp [q1, q2], h6, l6, m6, fun p hp => Nat.le_trans HX5.out.size (f6 p hp), HX5.out.trans x6⟩
      · have hk' : (K != 0) = true := by simpa using hk
        have HKn := Lib.hid hk
        clear hk hM
        go_wp2
        go_ret2
        exact ansF_no HS2.out HKn.out HX3.out
    · have h0' : (E != 0) = true := by simpa using h0
      have HE : Hid (ansE L m f = E) := Lib.hid (by rw [HS.out, if_pos h0])
      have H0 := Lib.hid h0
      clear h0 hci
      go_wp2
      go_ret2
      exact ansF_no HE.out H0.out HX2.out
end Go.Proofs.Ythdkhdbabohohaa
