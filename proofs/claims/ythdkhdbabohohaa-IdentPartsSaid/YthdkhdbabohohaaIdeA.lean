/-
  CONTRACTS: package ident (layer 21): what is said so far, in a box of the call's own; put.
-/
import Derived.Test.YthdkhdbabohohaaIdeC
import Derived.Test.YthdkhdbabohohaaAppendT
import Derived.Test.YthdkhdbabohohaaObjG
namespace Go.Proofs.Ythdkhdbabohohaa
open Go.RowKit
set_option linter.unusedVariables false
set_option maxRecDepth 100000

/-- What is said so far: a list of bytes in memory of the call's own (behind W0), its slice in the box R. -/
structure Sai (W0 w : World) (R : Nat) (l : List Int) (v : Value) : Prop where
  at_ : w.heap[R]? = some (.cells #[v] 57 (0, 0))
  own : w.ownsRow W0.heap.size 5 1 v l.length (l.map (Value.int .u8))
  ne : v.ownBlock ≠ some R
  lo : W0.heap.size ≤ R
/-- What a put may change. -/
def SaF (R : Nat) (v : Value) : Nat → Prop := fun i => i = R ∨ v.ownBlock = some i
theorem Sai.ext {W0 w w' : World} {R : Nat} {l : List Int} {v : Value} (h : Sai W0 w R l v) (x : Ext w w') : Sai W0 w' R l v := ⟨x.block h.at_, own_ext h.own x, h.ne, h.lo⟩
theorem Sai.lt {W0 w : World} {R : Nat} {l : List Int} {v : Value} (h : Sai W0 w R l v) : ∀ i, SaF R v i → W0.heap.size ≤ i ∧ i < w.heap.size := fun i hi => by
  rcases hi with rfl | hi
  · exact ⟨h.lo, heap_lt h.at_⟩
  · exact h.own.lt i hi
theorem Sai.low {W0 w w' : World} {R : Nat} {l : List Int} {v : Value} (h : Sai W0 w R l v) (k : Keep (SaF R v) w w') (x : Ext W0 w) : Ext W0 w' := Below.trans x (k.below x.size (fun i hi => (h.lt i hi).1))
theorem Sai.push {W0 w w2 w3 : World} {R : Nat} {l l' : List Int} {v v' : Value} (h : Sai W0 w R l v) (x : Ext w w2) (hown : w3.ownsRow W0.heap.size 5 1 v' (l.length + l'.length) (l.map (Value.int .u8) ++ l'.map (Value.int .u8)))
    (hgr : w2.grownBy w3 v.ownBlock) (hob : ∀ q, v'.ownBlock = some q → v.ownBlock = some q ∨ q = w2.heap.size) :
    w3.heap[R]? = some (.cells #[v] 57 (0, 0)) ∧ Sai W0 (w3.setCell ⟨R, 0, none⟩ v') R (l ++ l') v' ∧ Keep (SaF R v) w2 w3 ∧ Keep (SaF R v) w2 (w3.setCell ⟨R, 0, none⟩ v') := by
  have hR2 := heap_lt (x.block h.at_)
  have gR : w3.heap[R]? = some (.cells #[v] 57 (0, 0)) := (hgr.block R hR2 (Ne.symm h.ne)).trans (x.block h.at_)
  have hne : v'.ownBlock ≠ some R := fun e => by
    rcases hob R e with q | q
    · exact h.ne q
    · omega
  refine ⟨gR, ⟨one_setCell gR, ?_, hne, h.lo⟩, ⟨hgr.os, hgr.tape, hgr.output, hgr.size, fun k hk hn => hgr.block k hk (fun e => hn (.inr e.symm))⟩, ⟨hgr.os, hgr.tape, hgr.output, by simpa [World.setCell] using hgr.size, fun k hk hn => ?_⟩⟩
  · rw [List.length_append, List.map_append]; exact ownsRow_setCell_other hown hne _
  · rw [heap_setCell_other _ _ _ _ (fun e => hn (.inl e))]
    exact hgr.block k hk (fun e => hn (.inr e.symm))
/-- Whether an object may be there and has room behind m bytes; how many of a list are taken. -/
def takB (m : Nat) (z : Ob) : Bool := okD z && decide (m + (2 + z.n) ≤ 252)
def filN : Nat → List Ob → Nat
  | _, [] => 0
  | m, z :: L => if takB m z = true then filN (m + (2 + z.n)) L + 1 else 0
theorem two_held (w : World) (x y : Int) (t : TypeId) : HoldsG (Value.int .u8) (w.alloc (.cells #[.int .u8 x, .int .u8 y] t)) (some ⟨w.heap.size, 0, none⟩) 2 (ofL [x, y]) :=
  HoldsG.new w _ t 2 (ofL [x, y]) (fun i hi => by
    have : i = 0 ∨ i = 1 := by omega
    rcases this with rfl | rfl <;> rfl)
theorem lstG_ofL (l : List Int) : lstG (Value.int .u8) (ofL l) l.length = l.map (Value.int .u8) := lst_ofL (k := .u8) l
theorem lstG_map (f : Nat → Int) (n : Nat) : lstG (Value.int .u8) f n = ((List.range n).map f).map (Value.int .u8) := by unfold lstG; rw [List.map_map]; rfl
theorem frozenS {w : World} {R : Nat} {cs : Array Value} {t : TypeId} (h : w.heap[R]? = some (.cells cs t (0, 0))) : w.frozen? ⟨R, 0, none⟩ = false := by simp [World.frozen?, h]
theorem put_mid {W0 X w3 : World} {R G m q N : Nat} {b : Option Addr} {l : List Int} {I : Int} {A : Option Addr} {C : Nat} {v3 : Value}
    (hF : ∀ i, SaF R (.slice b m q) i → i ≠ G) (hG : X.heap[G]? = some (.cells #[.int .i64 I, .slice A N C] 49 (0, 0))) (hS : Sai W0 X R l (.slice b m q)) (k : Keep (SaF R (.slice b m q)) X (w3.setCell ⟨R, 0, none⟩ v3))
    (hob : ∀ i, v3.ownBlock = some i → (Value.slice b m q).ownBlock = some i ∨ i = (X.alloc (.cells #[.int .u8 I, .int .u8 N] 5)).heap.size) (h3 : Sai W0 (w3.setCell ⟨R, 0, none⟩ v3) R (l ++ [I, (N : Int)]) v3) (x : Ext W0 X) :
    ∃ W3 v, Value.bool false = .bool false ∧ w3.setCell ⟨R, 0, none⟩ v3 = W3 ∧ Sai W0 W3 R (l ++ [I, (N : Int)]) v ∧ W3.heap[G]? = some (.cells #[.int .i64 I, .slice A N C] 49 (0, 0)) ∧ (∀ i, SaF R v i → i ≠ G) ∧ Ext W0 W3 := by
  refine ⟨_, v3, rfl, rfl, h3, (k.block G (heap_lt hG) (fun e => hF _ e rfl)).trans hG, fun i hi => ?_, hS.low k x⟩
  rcases hi with rfl | hi
  · exact hF _ (.inl rfl)
  · rcases hob i hi with e | e
    · exact hF _ (.inr e)
    · have := heap_lt hG
      rw [World.size_alloc] at e
      omega
set_option maxHeartbeats 8000000 in
theorem put_any (W0 w : World) (R : Nat) (v : Value) (l : List Int) (z : Ob) (h : Sai W0 w R l v) (x0 : Ext W0 w) (hz : ObjAt W0 z) (hl : l.length ≤ 252) (hn : z.n ≤ 1000000) :
    Calls Try.prog 28 #[.pointer (some ⟨R, 0, none⟩), .agg (obC z)] w fun e w' => e = .returned (.bool (takB l.length z)) ∧ (∃ v', Sai W0 w' R (l ++ if takB l.length z = true then sayO z else []) v') ∧ Ext W0 w' := by
  obtain ⟨i8, hi8, hz80, hz81, hz82⟩ := info_parts Try.info8i
  obtain ⟨b, m, q, hv⟩ : ∃ b m q, v = .slice b m q := by
    rcases h.own.2 with ⟨hv, h0⟩ | ⟨g, cap, cur, hv, _⟩
    · exact ⟨_, _, _, hv⟩
    · exact ⟨_, _, _, hv⟩
  subst hv
  have hm : l.length = m := (cap_of_own h.own).2.2.symm
  obtain ⟨T, hT⟩ : ∃ T, takB m z = T := ⟨_, rfl⟩
  have HT : Hid (T = (okD z && decide (m + (2 + z.n) ≤ 252))) := Lib.hid hT.symm
  have HSZ := Lib.hid (fun W (x : Ext W0 W) => size_any z W (hz.ext x) hn)
  have HZ := Lib.hid hz
  have hok := okD_iff (z := z)
  have HSay : Hid (sayO z = [z.id, (z.n : Int)] ++ (List.range z.n).map z.f) := Lib.hid rfl
  rw [hm] at hl ⊢
  rw [hT]
  obtain ⟨G, hG⟩ : ∃ G, G = w.heap.size := ⟨_, rfl⟩
  obtain ⟨W1, hW1, y1, HG⟩ : ∃ W1, W1 = w.alloc (.cells (obC z) 49) ∧ Ext w W1 ∧ Hid (W1.heap[G]? = some (.cells (obC z) 49 (0, 0))) := ⟨_, rfl, Ext.alloc _ _, Lib.hid (by rw [hG]; exact heap_alloc_new _ _)⟩
  unfold obC at HSZ HG hW1 ⊢
  obtain ⟨I, A, N, C, f⟩ := z
  simp only at hn hok HT HSZ HSay HG hW1 ⊢
  have HOK := Lib.hid hok
  have HGF : Hid (∀ i, SaF R (.slice b m q) i → i ≠ G) := Lib.hid (fun i hi => by have := (h.lt i hi).2; omega)
  have HS1 := Lib.hid (h.ext y1)
  have HX1 := Lib.hid (x0.trans y1)
  have HM := Lib.hid hm
  have c0 := cell_of_heap (j := 0) HG.out rfl
  have c1 := cell_of_heap (j := 1) HG.out rfl
  have cR := cell_of_heap (j := 0) HS1.out.at_ rfl
  have lG := heap_lt HG.out
  have HTD := Lib.hid hT
  clear h x0 hz hT hok y1 hm
  go_enter Try.func28, Try.ntmps28
  go_upto_region 1 with fail
  rw [← hW1, ← hG]
  clear hW1 hG
  go_cut [28] (fun pv wx => ∃ Wn, wx = Wn ∧ pv = .bool (!T) ∧ Ext W1 Wn)
  case first =>
    have HC1 := Lib.hid (fun W (x : Ext W1 W) => (⟨x.cell lG c0, x.cell lG c1, x.cell (heap_lt HS1.out.at_) cR⟩ : W.cell? ⟨G, 0, none⟩ = some (.int .i64 I) ∧ W.cell? ⟨G, 1, none⟩ = some (.slice A N C) ∧ W.cell? ⟨R, 0, none⟩ = some (.slice b m q)))
    obtain ⟨X, hX⟩ : ∃ X, X = W1.drew := ⟨_, rfl⟩
    have hs : Ext W1 X := by rw [hX]; exact Ext.drew _
    refine wp_region_held_drew (S := fun W => Ext W1 W) (by kernel_rfl) (by rw [← hX]; exact hs) (fun _ => ?_)
    rw [← hX]
    clear hX c0 c1 cR lG
    by_cases h1 : I < 0
    · have HE : Hid (T = false) := Lib.hid (by rw [HT.out]; cases e : okD ⟨I, A, N, C, f⟩ with | false => rfl | true => have := HOK.out.1 e; omega)
      -- REGION (*bilge/ident.said).put 1 ident_put1:A
      refine wpAnyH_takeD (i := 0) (d := 5) (v := .pointer (some ⟨G, 0, none⟩)) rfl rfl (by kernel_rfl) (by kernel_rfl) (by kernel_rfl) (fun _ _ _ h => h) (Or.inl ⟨by rfl, fun W hW => by go_simp⟩) hs ?_
      simp only [Act.put, List.setIfInBounds_toArray, List.set_cons_succ, List.set_cons_zero]
      refine wpAnyH_takeD (i := 1) (d := 6) (v := .int .i64 I) rfl rfl (by kernel_rfl) (by kernel_rfl) (by kernel_rfl) (fun _ _ _ h => h) (Or.inl ⟨by rfl, fun W hW => by obtain ⟨k0, k1, kR⟩ := HC1.out W hW; go_simp⟩) hs ?_
      simp only [Act.put, List.setIfInBounds_toArray, List.set_cons_succ, List.set_cons_zero]
      refine wpAnyH_takeD (i := 2) (d := 7) (v := .bool true) rfl rfl (by kernel_rfl) (by kernel_rfl) (by kernel_rfl) (fun _ _ _ h => h) (Or.inl ⟨by rfl, fun W hW => by go_simp⟩) hs ?_
      simp only [Act.put, List.setIfInBounds_toArray, List.set_cons_succ, List.set_cons_zero]
      refine wpAnyH_takeD (i := 3) (d := 8) (v := .bool true) rfl rfl (by kernel_rfl) (by kernel_rfl) (by kernel_rfl) (fun _ _ _ h => h) (Or.inl ⟨by rfl, fun W hW => by go_simp⟩) hs ?_
      simp only [Act.put, List.setIfInBounds_toArray, List.set_cons_succ, List.set_cons_zero]
      refine wpAnyH_takeD (i := 4) (d := 9) (v := undef) rfl rfl (by kernel_rfl) (by kernel_rfl) (by kernel_rfl) (fun _ _ _ h => h) (Or.inr ⟨by rfl, rfl⟩) hs ?_
      simp only [Act.put, List.setIfInBounds_toArray, List.set_cons_succ, List.set_cons_zero]
      refine wpAnyH_takeD (i := 5) (d := 10) (v := undef) rfl rfl (by kernel_rfl) (by kernel_rfl) (by kernel_rfl) (fun _ _ _ h => h) (Or.inr ⟨by rfl, rfl⟩) hs ?_
      simp only [Act.put, List.setIfInBounds_toArray, List.set_cons_succ, List.set_cons_zero]
      refine wpAnyH_takeD (i := 6) (d := 11) (v := undef) rfl rfl (by kernel_rfl) (by kernel_rfl) (by kernel_rfl) (fun _ _ _ h => h) (Or.inr ⟨by rfl, rfl⟩) hs ?_
      simp only [Act.put, List.setIfInBounds_toArray, List.set_cons_succ, List.set_cons_zero]
      refine wpAnyH_takeD (i := 7) (d := 12) (v := .bool true) rfl rfl (by kernel_rfl) (by kernel_rfl) (by kernel_rfl) (fun _ _ _ h => h) (Or.inl ⟨by rfl, fun W hW => by go_simp⟩) hs ?_
      simp only [Act.put, List.setIfInBounds_toArray, List.set_cons_succ, List.set_cons_zero]
      refine wpAnyH_takeD (i := 8) (d := 13) (v := .bool true) rfl rfl (by kernel_rfl) (by kernel_rfl) (by kernel_rfl) (fun _ _ _ h => h) (Or.inl ⟨by rfl, fun W hW => by go_simp⟩) hs ?_
      simp only [Act.put, List.setIfInBounds_toArray, List.set_cons_succ, List.set_cons_zero]
      refine wpAnyH_takeD (i := 9) (d := 14) (v := undef) rfl rfl (by kernel_rfl) (by kernel_rfl) (by kernel_rfl) (fun _ _ _ h => h) (Or.inr ⟨by rfl, rfl⟩) hs ?_
      simp only [Act.put, List.setIfInBounds_toArray, List.set_cons_succ, List.set_cons_zero]
      refine wpAnyH_takeD (i := 10) (d := 15) (v := undef) rfl rfl (by kernel_rfl) (by kernel_rfl) (by kernel_rfl) (fun _ _ _ h => h) (Or.inr ⟨by rfl, rfl⟩) hs ?_
      simp only [Act.put, List.setIfInBounds_toArray, List.set_cons_succ, List.set_cons_zero]
      refine wpAnyH_takeD (i := 11) (d := 16) (v := undef) rfl rfl (by kernel_rfl) (by kernel_rfl) (by kernel_rfl) (fun _ _ _ h => h) (Or.inr ⟨by rfl, rfl⟩) hs ?_
      simp only [Act.put, List.setIfInBounds_toArray, List.set_cons_succ, List.set_cons_zero]
      refine wpAnyH_takeD (i := 12) (d := 17) (v := undef) rfl rfl (by kernel_rfl) (by kernel_rfl) (by kernel_rfl) (fun _ _ _ h => h) (Or.inr ⟨by rfl, rfl⟩) hs ?_
      simp only [Act.put, List.setIfInBounds_toArray, List.set_cons_succ, List.set_cons_zero]
      refine wpAnyH_takeD (i := 13) (d := 18) (v := .bool true) rfl rfl (by kernel_rfl) (by kernel_rfl) (by kernel_rfl) (fun _ _ _ h => h) (Or.inl ⟨by rfl, fun W hW => by go_simp⟩) hs ?_
      simp only [Act.put, List.setIfInBounds_toArray, List.set_cons_succ, List.set_cons_zero]
      refine wpAnyH_takeD (i := 14) (d := 19) (v := .bool true) rfl rfl (by kernel_rfl) (by kernel_rfl) (by kernel_rfl) (fun _ _ _ h => h) (Or.inl ⟨by rfl, fun W hW => by go_simp⟩) hs ?_
      simp only [Act.put, List.setIfInBounds_toArray, List.set_cons_succ, List.set_cons_zero]
      refine wpAnyH_takeD (i := 15) (d := 20) (v := undef) rfl rfl (by kernel_rfl) (by kernel_rfl) (by kernel_rfl) (fun _ _ _ h => h) (Or.inr ⟨by rfl, rfl⟩) hs ?_
      simp only [Act.put, List.setIfInBounds_toArray, List.set_cons_succ, List.set_cons_zero]
      refine wpAnyH_takeD (i := 16) (d := 21) (v := undef) rfl rfl (by kernel_rfl) (by kernel_rfl) (by kernel_rfl) (fun _ _ _ h => h) (Or.inr ⟨by rfl, rfl⟩) hs ?_
      simp only [Act.put, List.setIfInBounds_toArray, List.set_cons_succ, List.set_cons_zero]
      refine wpAnyH_takeD (i := 17) (d := 22) (v := undef) rfl rfl (by kernel_rfl) (by kernel_rfl) (by kernel_rfl) (fun _ _ _ h => h) (Or.inr ⟨by rfl, rfl⟩) hs ?_
      simp only [Act.put, List.setIfInBounds_toArray, List.set_cons_succ, List.set_cons_zero]
      refine wpAnyH_takeD (i := 18) (d := 23) (v := undef) rfl rfl (by kernel_rfl) (by kernel_rfl) (by kernel_rfl) (fun _ _ _ h => h) (Or.inr ⟨by rfl, rfl⟩) hs ?_
      simp only [Act.put, List.setIfInBounds_toArray, List.set_cons_succ, List.set_cons_zero]
      refine wpAnyH_takeD (i := 19) (d := 24) (v := undef) rfl rfl (by kernel_rfl) (by kernel_rfl) (by kernel_rfl) (fun _ _ _ h => h) (Or.inr ⟨by rfl, rfl⟩) hs ?_
      simp only [Act.put, List.setIfInBounds_toArray, List.set_cons_succ, List.set_cons_zero]
      refine wpAnyH_takeD (i := 20) (d := 25) (v := undef) rfl rfl (by kernel_rfl) (by kernel_rfl) (by kernel_rfl) (fun _ _ _ h => h) (Or.inr ⟨by rfl, rfl⟩) hs ?_
      simp only [Act.put, List.setIfInBounds_toArray, List.set_cons_succ, List.set_cons_zero]
      refine wpAnyH_takeD (i := 21) (d := 26) (v := undef) rfl rfl (by kernel_rfl) (by kernel_rfl) (by kernel_rfl) (fun _ _ _ h => h) (Or.inr ⟨by rfl, rfl⟩) hs ?_
      simp only [Act.put, List.setIfInBounds_toArray, List.set_cons_succ, List.set_cons_zero]
      refine wpAnyH_takeD (i := 22) (d := 27) (v := undef) rfl rfl (by kernel_rfl) (by kernel_rfl) (by kernel_rfl) (fun _ _ _ h => h) (Or.inr ⟨by rfl, rfl⟩) hs ?_
      simp only [Act.put, List.setIfInBounds_toArray, List.set_cons_succ, List.set_cons_zero]
      refine wpAnyH_takeD (i := 23) (d := 28) (v := .bool true) rfl rfl (by kernel_rfl) (by kernel_rfl) (by kernel_rfl) (fun _ _ _ h => h) (Or.inl ⟨by rfl, fun W hW => by go_simp⟩) hs ?_
      simp only [Act.put, List.setIfInBounds_toArray, List.set_cons_succ, List.set_cons_zero]
      refine wpAnyH_done (by kernel_rfl) ?_ _
      go_wp2_with fail
      go_meet
      exact ⟨_, rfl, by rw [HE.out]; rfl, hs⟩
      -- END REGION
    · by_cases h2 : 255 < I
      · have HE : Hid (T = false) := Lib.hid (by rw [HT.out]; cases e : okD ⟨I, A, N, C, f⟩ with | false => rfl | true => have := HOK.out.1 e; omega)
        -- REGION (*bilge/ident.said).put 1 ident_put1:B
        refine wpAnyH_takeD (i := 0) (d := 5) (v := .pointer (some ⟨G, 0, none⟩)) rfl rfl (by kernel_rfl) (by kernel_rfl) (by kernel_rfl) (fun _ _ _ h => h) (Or.inl ⟨by rfl, fun W hW => by go_simp⟩) hs ?_
        simp only [Act.put, List.setIfInBounds_toArray, List.set_cons_succ, List.set_cons_zero]
        refine wpAnyH_takeD (i := 1) (d := 6) (v := .int .i64 I) rfl rfl (by kernel_rfl) (by kernel_rfl) (by kernel_rfl) (fun _ _ _ h => h) (Or.inl ⟨by rfl, fun W hW => by obtain ⟨k0, k1, kR⟩ := HC1.out W hW; go_simp⟩) hs ?_
        simp only [Act.put, List.setIfInBounds_toArray, List.set_cons_succ, List.set_cons_zero]
        refine wpAnyH_takeD (i := 2) (d := 7) (v := .bool false) rfl rfl (by kernel_rfl) (by kernel_rfl) (by kernel_rfl) (fun _ _ _ h => h) (Or.inl ⟨by rfl, fun W hW => by go_simp⟩) hs ?_
        simp only [Act.put, List.setIfInBounds_toArray, List.set_cons_succ, List.set_cons_zero]
        refine wpAnyH_takeD (i := 3) (d := 8) (v := .bool false) rfl rfl (by kernel_rfl) (by kernel_rfl) (by kernel_rfl) (fun _ _ _ h => h) (Or.inl ⟨by rfl, fun W hW => by go_simp⟩) hs ?_
        simp only [Act.put, List.setIfInBounds_toArray, List.set_cons_succ, List.set_cons_zero]
        refine wpAnyH_takeD (i := 4) (d := 9) (v := .pointer (some ⟨G, 0, none⟩)) rfl rfl (by kernel_rfl) (by kernel_rfl) (by kernel_rfl) (fun _ _ _ h => h) (Or.inl ⟨by rfl, fun W hW => by go_simp⟩) hs ?_
        simp only [Act.put, List.setIfInBounds_toArray, List.set_cons_succ, List.set_cons_zero]
        refine wpAnyH_takeD (i := 5) (d := 10) (v := .int .i64 I) rfl rfl (by kernel_rfl) (by kernel_rfl) (by kernel_rfl) (fun _ _ _ h => h) (Or.inl ⟨by rfl, fun W hW => by obtain ⟨k0, k1, kR⟩ := HC1.out W hW; go_simp⟩) hs ?_
        simp only [Act.put, List.setIfInBounds_toArray, List.set_cons_succ, List.set_cons_zero]
        refine wpAnyH_takeD (i := 6) (d := 11) (v := .bool true) rfl rfl (by kernel_rfl) (by kernel_rfl) (by kernel_rfl) (fun _ _ _ h => h) (Or.inl ⟨by rfl, fun W hW => by go_simp⟩) hs ?_
        simp only [Act.put, List.setIfInBounds_toArray, List.set_cons_succ, List.set_cons_zero]
        refine wpAnyH_takeD (i := 7) (d := 12) (v := .bool true) rfl rfl (by kernel_rfl) (by kernel_rfl) (by kernel_rfl) (fun _ _ _ h => h) (Or.inl ⟨by rfl, fun W hW => by go_simp⟩) hs ?_
        simp only [Act.put, List.setIfInBounds_toArray, List.set_cons_succ, List.set_cons_zero]
        refine wpAnyH_takeD (i := 8) (d := 13) (v := .bool true) rfl rfl (by kernel_rfl) (by kernel_rfl) (by kernel_rfl) (fun _ _ _ h => h) (Or.inl ⟨by rfl, fun W hW => by go_simp⟩) hs ?_
        simp only [Act.put, List.setIfInBounds_toArray, List.set_cons_succ, List.set_cons_zero]
        refine wpAnyH_takeD (i := 9) (d := 14) (v := undef) rfl rfl (by kernel_rfl) (by kernel_rfl) (by kernel_rfl) (fun _ _ _ h => h) (Or.inr ⟨by rfl, rfl⟩) hs ?_
        simp only [Act.put, List.setIfInBounds_toArray, List.set_cons_succ, List.set_cons_zero]
        refine wpAnyH_takeD (i := 10) (d := 15) (v := undef) rfl rfl (by kernel_rfl) (by kernel_rfl) (by kernel_rfl) (fun _ _ _ h => h) (Or.inr ⟨by rfl, rfl⟩) hs ?_
        simp only [Act.put, List.setIfInBounds_toArray, List.set_cons_succ, List.set_cons_zero]
        refine wpAnyH_takeD (i := 11) (d := 16) (v := undef) rfl rfl (by kernel_rfl) (by kernel_rfl) (by kernel_rfl) (fun _ _ _ h => h) (Or.inr ⟨by rfl, rfl⟩) hs ?_
        simp only [Act.put, List.setIfInBounds_toArray, List.set_cons_succ, List.set_cons_zero]
        refine wpAnyH_takeD (i := 12) (d := 17) (v := undef) rfl rfl (by kernel_rfl) (by kernel_rfl) (by kernel_rfl) (fun _ _ _ h => h) (Or.inr ⟨by rfl, rfl⟩) hs ?_
        simp only [Act.put, List.setIfInBounds_toArray, List.set_cons_succ, List.set_cons_zero]
        refine wpAnyH_takeD (i := 13) (d := 18) (v := .bool true) rfl rfl (by kernel_rfl) (by kernel_rfl) (by kernel_rfl) (fun _ _ _ h => h) (Or.inl ⟨by rfl, fun W hW => by go_simp⟩) hs ?_
        simp only [Act.put, List.setIfInBounds_toArray, List.set_cons_succ, List.set_cons_zero]
        refine wpAnyH_takeD (i := 14) (d := 19) (v := .bool true) rfl rfl (by kernel_rfl) (by kernel_rfl) (by kernel_rfl) (fun _ _ _ h => h) (Or.inl ⟨by rfl, fun W hW => by go_simp⟩) hs ?_
        simp only [Act.put, List.setIfInBounds_toArray, List.set_cons_succ, List.set_cons_zero]
        refine wpAnyH_takeD (i := 15) (d := 20) (v := undef) rfl rfl (by kernel_rfl) (by kernel_rfl) (by kernel_rfl) (fun _ _ _ h => h) (Or.inr ⟨by rfl, rfl⟩) hs ?_
        simp only [Act.put, List.setIfInBounds_toArray, List.set_cons_succ, List.set_cons_zero]
        refine wpAnyH_takeD (i := 16) (d := 21) (v := undef) rfl rfl (by kernel_rfl) (by kernel_rfl) (by kernel_rfl) (fun _ _ _ h => h) (Or.inr ⟨by rfl, rfl⟩) hs ?_
        simp only [Act.put, List.setIfInBounds_toArray, List.set_cons_succ, List.set_cons_zero]
        refine wpAnyH_takeD (i := 17) (d := 22) (v := undef) rfl rfl (by kernel_rfl) (by kernel_rfl) (by kernel_rfl) (fun _ _ _ h => h) (Or.inr ⟨by rfl, rfl⟩) hs ?_
        simp only [Act.put, List.setIfInBounds_toArray, List.set_cons_succ, List.set_cons_zero]
        refine wpAnyH_takeD (i := 18) (d := 23) (v := undef) rfl rfl (by kernel_rfl) (by kernel_rfl) (by kernel_rfl) (fun _ _ _ h => h) (Or.inr ⟨by rfl, rfl⟩) hs ?_
        simp only [Act.put, List.setIfInBounds_toArray, List.set_cons_succ, List.set_cons_zero]
        refine wpAnyH_takeD (i := 19) (d := 24) (v := undef) rfl rfl (by kernel_rfl) (by kernel_rfl) (by kernel_rfl) (fun _ _ _ h => h) (Or.inr ⟨by rfl, rfl⟩) hs ?_
        simp only [Act.put, List.setIfInBounds_toArray, List.set_cons_succ, List.set_cons_zero]
        refine wpAnyH_takeD (i := 20) (d := 25) (v := undef) rfl rfl (by kernel_rfl) (by kernel_rfl) (by kernel_rfl) (fun _ _ _ h => h) (Or.inr ⟨by rfl, rfl⟩) hs ?_
        simp only [Act.put, List.setIfInBounds_toArray, List.set_cons_succ, List.set_cons_zero]
        refine wpAnyH_takeD (i := 21) (d := 26) (v := undef) rfl rfl (by kernel_rfl) (by kernel_rfl) (by kernel_rfl) (fun _ _ _ h => h) (Or.inr ⟨by rfl, rfl⟩) hs ?_
        simp only [Act.put, List.setIfInBounds_toArray, List.set_cons_succ, List.set_cons_zero]
        refine wpAnyH_takeD (i := 22) (d := 27) (v := undef) rfl rfl (by kernel_rfl) (by kernel_rfl) (by kernel_rfl) (fun _ _ _ h => h) (Or.inr ⟨by rfl, rfl⟩) hs ?_
        simp only [Act.put, List.setIfInBounds_toArray, List.set_cons_succ, List.set_cons_zero]
        refine wpAnyH_takeD (i := 23) (d := 28) (v := .bool true) rfl rfl (by kernel_rfl) (by kernel_rfl) (by kernel_rfl) (fun _ _ _ h => h) (Or.inl ⟨by rfl, fun W hW => by go_simp⟩) hs ?_
        simp only [Act.put, List.setIfInBounds_toArray, List.set_cons_succ, List.set_cons_zero]
        refine wpAnyH_done (by kernel_rfl) ?_ _
        go_wp2_with fail
        go_meet
        exact ⟨_, rfl, by rw [HE.out]; rfl, hs⟩
        -- END REGION
      · by_cases h3 : 240 < (N : Int)
        · have HE : Hid (T = false) := Lib.hid (by rw [HT.out]; cases e : okD ⟨I, A, N, C, f⟩ with | false => rfl | true => have := HOK.out.1 e; omega)
          -- REGION (*bilge/ident.said).put 1 ident_put1:C
          refine wpAnyH_takeD (i := 0) (d := 5) (v := .pointer (some ⟨G, 0, none⟩)) rfl rfl (by kernel_rfl) (by kernel_rfl) (by kernel_rfl) (fun _ _ _ h => h) (Or.inl ⟨by rfl, fun W hW => by go_simp⟩) hs ?_
          simp only [Act.put, List.setIfInBounds_toArray, List.set_cons_succ, List.set_cons_zero]
          refine wpAnyH_takeD (i := 1) (d := 6) (v := .int .i64 I) rfl rfl (by kernel_rfl) (by kernel_rfl) (by kernel_rfl) (fun _ _ _ h => h) (Or.inl ⟨by rfl, fun W hW => by obtain ⟨k0, k1, kR⟩ := HC1.out W hW; go_simp⟩) hs ?_
          simp only [Act.put, List.setIfInBounds_toArray, List.set_cons_succ, List.set_cons_zero]
          refine wpAnyH_takeD (i := 2) (d := 7) (v := .bool false) rfl rfl (by kernel_rfl) (by kernel_rfl) (by kernel_rfl) (fun _ _ _ h => h) (Or.inl ⟨by rfl, fun W hW => by go_simp⟩) hs ?_
          simp only [Act.put, List.setIfInBounds_toArray, List.set_cons_succ, List.set_cons_zero]
          refine wpAnyH_takeD (i := 3) (d := 8) (v := .bool false) rfl rfl (by kernel_rfl) (by kernel_rfl) (by kernel_rfl) (fun _ _ _ h => h) (Or.inl ⟨by rfl, fun W hW => by go_simp⟩) hs ?_
          simp only [Act.put, List.setIfInBounds_toArray, List.set_cons_succ, List.set_cons_zero]
          refine wpAnyH_takeD (i := 4) (d := 9) (v := .pointer (some ⟨G, 0, none⟩)) rfl rfl (by kernel_rfl) (by kernel_rfl) (by kernel_rfl) (fun _ _ _ h => h) (Or.inl ⟨by rfl, fun W hW => by go_simp⟩) hs ?_
          simp only [Act.put, List.setIfInBounds_toArray, List.set_cons_succ, List.set_cons_zero]
          refine wpAnyH_takeD (i := 5) (d := 10) (v := .int .i64 I) rfl rfl (by kernel_rfl) (by kernel_rfl) (by kernel_rfl) (fun _ _ _ h => h) (Or.inl ⟨by rfl, fun W hW => by obtain ⟨k0, k1, kR⟩ := HC1.out W hW; go_simp⟩) hs ?_
          simp only [Act.put, List.setIfInBounds_toArray, List.set_cons_succ, List.set_cons_zero]
          refine wpAnyH_takeD (i := 6) (d := 11) (v := .bool false) rfl rfl (by kernel_rfl) (by kernel_rfl) (by kernel_rfl) (fun _ _ _ h => h) (Or.inl ⟨by rfl, fun W hW => by go_simp⟩) hs ?_
          simp only [Act.put, List.setIfInBounds_toArray, List.set_cons_succ, List.set_cons_zero]
          refine wpAnyH_takeD (i := 7) (d := 12) (v := .bool false) rfl rfl (by kernel_rfl) (by kernel_rfl) (by kernel_rfl) (fun _ _ _ h => h) (Or.inl ⟨by rfl, fun W hW => by go_simp⟩) hs ?_
          simp only [Act.put, List.setIfInBounds_toArray, List.set_cons_succ, List.set_cons_zero]
          refine wpAnyH_takeD (i := 8) (d := 13) (v := .bool false) rfl rfl (by kernel_rfl) (by kernel_rfl) (by kernel_rfl) (fun _ _ _ h => h) (Or.inl ⟨by rfl, fun W hW => by go_simp⟩) hs ?_
          simp only [Act.put, List.setIfInBounds_toArray, List.set_cons_succ, List.set_cons_zero]
          refine wpAnyH_takeD (i := 9) (d := 14) (v := .pointer (some ⟨G, 1, none⟩)) rfl rfl (by kernel_rfl) (by kernel_rfl) (by kernel_rfl) (fun _ _ _ h => h) (Or.inl ⟨by rfl, fun W hW => by go_simp⟩) hs ?_
          simp only [Act.put, List.setIfInBounds_toArray, List.set_cons_succ, List.set_cons_zero]
          refine wpAnyH_takeD (i := 10) (d := 15) (v := .slice A N C) rfl rfl (by kernel_rfl) (by kernel_rfl) (by kernel_rfl) (fun _ _ _ h => h) (Or.inl ⟨by rfl, fun W hW => by obtain ⟨k0, k1, kR⟩ := HC1.out W hW; go_simp⟩) hs ?_
          simp only [Act.put, List.setIfInBounds_toArray, List.set_cons_succ, List.set_cons_zero]
          refine wpAnyH_takeD (i := 11) (d := 16) (v := .int .i64 N) rfl rfl (by kernel_rfl) (by kernel_rfl) (by kernel_rfl) (fun _ _ _ h => h) (Or.inl ⟨by rfl, fun W hW => by go_simp⟩) hs ?_
          simp only [Act.put, List.setIfInBounds_toArray, List.set_cons_succ, List.set_cons_zero]
          refine wpAnyH_takeD (i := 12) (d := 17) (v := .bool true) rfl rfl (by kernel_rfl) (by kernel_rfl) (by kernel_rfl) (fun _ _ _ h => h) (Or.inl ⟨by rfl, fun W hW => by go_simp⟩) hs ?_
          simp only [Act.put, List.setIfInBounds_toArray, List.set_cons_succ, List.set_cons_zero]
          refine wpAnyH_takeD (i := 13) (d := 18) (v := .bool true) rfl rfl (by kernel_rfl) (by kernel_rfl) (by kernel_rfl) (fun _ _ _ h => h) (Or.inl ⟨by rfl, fun W hW => by go_simp⟩) hs ?_
          simp only [Act.put, List.setIfInBounds_toArray, List.set_cons_succ, List.set_cons_zero]
          refine wpAnyH_takeD (i := 14) (d := 19) (v := .bool true) rfl rfl (by kernel_rfl) (by kernel_rfl) (by kernel_rfl) (fun _ _ _ h => h) (Or.inl ⟨by rfl, fun W hW => by go_simp⟩) hs ?_
          simp only [Act.put, List.setIfInBounds_toArray, List.set_cons_succ, List.set_cons_zero]
          refine wpAnyH_takeD (i := 15) (d := 20) (v := undef) rfl rfl (by kernel_rfl) (by kernel_rfl) (by kernel_rfl) (fun _ _ _ h => h) (Or.inr ⟨by rfl, rfl⟩) hs ?_
          simp only [Act.put, List.setIfInBounds_toArray, List.set_cons_succ, List.set_cons_zero]
          refine wpAnyH_takeD (i := 16) (d := 21) (v := undef) rfl rfl (by kernel_rfl) (by kernel_rfl) (by kernel_rfl) (fun _ _ _ h => h) (Or.inr ⟨by rfl, rfl⟩) hs ?_
          simp only [Act.put, List.setIfInBounds_toArray, List.set_cons_succ, List.set_cons_zero]
          refine wpAnyH_takeD (i := 17) (d := 22) (v := undef) rfl rfl (by kernel_rfl) (by kernel_rfl) (by kernel_rfl) (fun _ _ _ h => h) (Or.inr ⟨by rfl, rfl⟩) hs ?_
          simp only [Act.put, List.setIfInBounds_toArray, List.set_cons_succ, List.set_cons_zero]
          refine wpAnyH_takeD (i := 18) (d := 23) (v := undef) rfl rfl (by kernel_rfl) (by kernel_rfl) (by kernel_rfl) (fun _ _ _ h => h) (Or.inr ⟨by rfl, rfl⟩) hs ?_
          simp only [Act.put, List.setIfInBounds_toArray, List.set_cons_succ, List.set_cons_zero]
          refine wpAnyH_takeD (i := 19) (d := 24) (v := undef) rfl rfl (by kernel_rfl) (by kernel_rfl) (by kernel_rfl) (fun _ _ _ h => h) (Or.inr ⟨by rfl, rfl⟩) hs ?_
          simp only [Act.put, List.setIfInBounds_toArray, List.set_cons_succ, List.set_cons_zero]
          refine wpAnyH_takeD (i := 20) (d := 25) (v := undef) rfl rfl (by kernel_rfl) (by kernel_rfl) (by kernel_rfl) (fun _ _ _ h => h) (Or.inr ⟨by rfl, rfl⟩) hs ?_
          simp only [Act.put, List.setIfInBounds_toArray, List.set_cons_succ, List.set_cons_zero]
          refine wpAnyH_takeD (i := 21) (d := 26) (v := undef) rfl rfl (by kernel_rfl) (by kernel_rfl) (by kernel_rfl) (fun _ _ _ h => h) (Or.inr ⟨by rfl, rfl⟩) hs ?_
          simp only [Act.put, List.setIfInBounds_toArray, List.set_cons_succ, List.set_cons_zero]
          refine wpAnyH_takeD (i := 22) (d := 27) (v := undef) rfl rfl (by kernel_rfl) (by kernel_rfl) (by kernel_rfl) (fun _ _ _ h => h) (Or.inr ⟨by rfl, rfl⟩) hs ?_
          simp only [Act.put, List.setIfInBounds_toArray, List.set_cons_succ, List.set_cons_zero]
          refine wpAnyH_takeD (i := 23) (d := 28) (v := .bool true) rfl rfl (by kernel_rfl) (by kernel_rfl) (by kernel_rfl) (fun _ _ _ h => h) (Or.inl ⟨by rfl, fun W hW => by go_simp⟩) hs ?_
          simp only [Act.put, List.setIfInBounds_toArray, List.set_cons_succ, List.set_cons_zero]
          refine wpAnyH_done (by kernel_rfl) ?_ _
          go_wp2_with fail
          go_meet
          exact ⟨_, rfl, by rw [HE.out]; rfl, hs⟩
          -- END REGION
        · have e1 : IntKind.i64.wrap ((m : Int) + (2 + (N : Int))) = m + (2 + N) := IntWalk.i64_in _ (by omega)
          by_cases h4 : 252 < (m : Int) + (2 + (N : Int))
          · have HE : Hid (T = false) := Lib.hid (by rw [HT.out, decide_eq_false (by show ¬ m + (2 + N) ≤ 252; omega), Bool.and_false])
            -- REGION (*bilge/ident.said).put 1 ident_put1:D
            refine wpAnyH_takeD (i := 0) (d := 5) (v := .pointer (some ⟨G, 0, none⟩)) rfl rfl (by kernel_rfl) (by kernel_rfl) (by kernel_rfl) (fun _ _ _ h => h) (Or.inl ⟨by rfl, fun W hW => by go_simp⟩) hs ?_
            simp only [Act.put, List.setIfInBounds_toArray, List.set_cons_succ, List.set_cons_zero]
            refine wpAnyH_takeD (i := 1) (d := 6) (v := .int .i64 I) rfl rfl (by kernel_rfl) (by kernel_rfl) (by kernel_rfl) (fun _ _ _ h => h) (Or.inl ⟨by rfl, fun W hW => by obtain ⟨k0, k1, kR⟩ := HC1.out W hW; go_simp⟩) hs ?_
            simp only [Act.put, List.setIfInBounds_toArray, List.set_cons_succ, List.set_cons_zero]
            refine wpAnyH_takeD (i := 2) (d := 7) (v := .bool false) rfl rfl (by kernel_rfl) (by kernel_rfl) (by kernel_rfl) (fun _ _ _ h => h) (Or.inl ⟨by rfl, fun W hW => by go_simp⟩) hs ?_
            simp only [Act.put, List.setIfInBounds_toArray, List.set_cons_succ, List.set_cons_zero]
            refine wpAnyH_takeD (i := 3) (d := 8) (v := .bool false) rfl rfl (by kernel_rfl) (by kernel_rfl) (by kernel_rfl) (fun _ _ _ h => h) (Or.inl ⟨by rfl, fun W hW => by go_simp⟩) hs ?_
            simp only [Act.put, List.setIfInBounds_toArray, List.set_cons_succ, List.set_cons_zero]
            refine wpAnyH_takeD (i := 4) (d := 9) (v := .pointer (some ⟨G, 0, none⟩)) rfl rfl (by kernel_rfl) (by kernel_rfl) (by kernel_rfl) (fun _ _ _ h => h) (Or.inl ⟨by rfl, fun W hW => by go_simp⟩) hs ?_
            simp only [Act.put, List.setIfInBounds_toArray, List.set_cons_succ, List.set_cons_zero]
            refine wpAnyH_takeD (i := 5) (d := 10) (v := .int .i64 I) rfl rfl (by kernel_rfl) (by kernel_rfl) (by kernel_rfl) (fun _ _ _ h => h) (Or.inl ⟨by rfl, fun W hW => by obtain ⟨k0, k1, kR⟩ := HC1.out W hW; go_simp⟩) hs ?_
            simp only [Act.put, List.setIfInBounds_toArray, List.set_cons_succ, List.set_cons_zero]
            refine wpAnyH_takeD (i := 6) (d := 11) (v := .bool false) rfl rfl (by kernel_rfl) (by kernel_rfl) (by kernel_rfl) (fun _ _ _ h => h) (Or.inl ⟨by rfl, fun W hW => by go_simp⟩) hs ?_
            simp only [Act.put, List.setIfInBounds_toArray, List.set_cons_succ, List.set_cons_zero]
            refine wpAnyH_takeD (i := 7) (d := 12) (v := .bool false) rfl rfl (by kernel_rfl) (by kernel_rfl) (by kernel_rfl) (fun _ _ _ h => h) (Or.inl ⟨by rfl, fun W hW => by go_simp⟩) hs ?_
            simp only [Act.put, List.setIfInBounds_toArray, List.set_cons_succ, List.set_cons_zero]
            refine wpAnyH_takeD (i := 8) (d := 13) (v := .bool false) rfl rfl (by kernel_rfl) (by kernel_rfl) (by kernel_rfl) (fun _ _ _ h => h) (Or.inl ⟨by rfl, fun W hW => by go_simp⟩) hs ?_
            simp only [Act.put, List.setIfInBounds_toArray, List.set_cons_succ, List.set_cons_zero]
            refine wpAnyH_takeD (i := 9) (d := 14) (v := .pointer (some ⟨G, 1, none⟩)) rfl rfl (by kernel_rfl) (by kernel_rfl) (by kernel_rfl) (fun _ _ _ h => h) (Or.inl ⟨by rfl, fun W hW => by go_simp⟩) hs ?_
            simp only [Act.put, List.setIfInBounds_toArray, List.set_cons_succ, List.set_cons_zero]
            refine wpAnyH_takeD (i := 10) (d := 15) (v := .slice A N C) rfl rfl (by kernel_rfl) (by kernel_rfl) (by kernel_rfl) (fun _ _ _ h => h) (Or.inl ⟨by rfl, fun W hW => by obtain ⟨k0, k1, kR⟩ := HC1.out W hW; go_simp⟩) hs ?_
            simp only [Act.put, List.setIfInBounds_toArray, List.set_cons_succ, List.set_cons_zero]
            refine wpAnyH_takeD (i := 11) (d := 16) (v := .int .i64 N) rfl rfl (by kernel_rfl) (by kernel_rfl) (by kernel_rfl) (fun _ _ _ h => h) (Or.inl ⟨by rfl, fun W hW => by go_simp⟩) hs ?_
            simp only [Act.put, List.setIfInBounds_toArray, List.set_cons_succ, List.set_cons_zero]
            refine wpAnyH_takeD (i := 12) (d := 17) (v := .bool false) rfl rfl (by kernel_rfl) (by kernel_rfl) (by kernel_rfl) (fun _ _ _ h => h) (Or.inl ⟨by rfl, fun W hW => by go_simp⟩) hs ?_
            simp only [Act.put, List.setIfInBounds_toArray, List.set_cons_succ, List.set_cons_zero]
            refine wpAnyH_takeD (i := 13) (d := 18) (v := .bool false) rfl rfl (by kernel_rfl) (by kernel_rfl) (by kernel_rfl) (fun _ _ _ h => h) (Or.inl ⟨by rfl, fun W hW => by go_simp⟩) hs ?_
            simp only [Act.put, List.setIfInBounds_toArray, List.set_cons_succ, List.set_cons_zero]
            refine wpAnyH_takeD (i := 14) (d := 19) (v := .bool false) rfl rfl (by kernel_rfl) (by kernel_rfl) (by kernel_rfl) (fun _ _ _ h => h) (Or.inl ⟨by rfl, fun W hW => by go_simp⟩) hs ?_
            simp only [Act.put, List.setIfInBounds_toArray, List.set_cons_succ, List.set_cons_zero]
            refine wpAnyH_takeD (i := 15) (d := 20) (v := .pointer (some ⟨R, 0, none⟩)) rfl rfl (by kernel_rfl) (by kernel_rfl) (by kernel_rfl) (fun _ _ _ h => h) (Or.inl ⟨by rfl, fun W hW => by go_simp⟩) hs ?_
            simp only [Act.put, List.setIfInBounds_toArray, List.set_cons_succ, List.set_cons_zero]
            refine wpAnyH_takeD (i := 16) (d := 21) (v := .pointer (some ⟨R, 0, none⟩)) rfl rfl (by kernel_rfl) (by kernel_rfl) (by kernel_rfl) (fun _ _ _ h => h) (Or.inl ⟨by rfl, fun W hW => by go_simp⟩) hs ?_
            simp only [Act.put, List.setIfInBounds_toArray, List.set_cons_succ, List.set_cons_zero]
            refine wpAnyH_takeD (i := 17) (d := 22) (v := .slice b m q) rfl rfl (by kernel_rfl) (by kernel_rfl) (by kernel_rfl) (fun _ _ _ h => h) (Or.inl ⟨by rfl, fun W hW => by obtain ⟨k0, k1, kR⟩ := HC1.out W hW; go_simp⟩) hs ?_
            simp only [Act.put, List.setIfInBounds_toArray, List.set_cons_succ, List.set_cons_zero]
            refine wpAnyH_takeD (i := 18) (d := 23) (v := .int .i64 m) rfl rfl (by kernel_rfl) (by kernel_rfl) (by kernel_rfl) (fun _ _ _ h => h) (Or.inl ⟨by rfl, fun W hW => by go_simp⟩) hs ?_
            simp only [Act.put, List.setIfInBounds_toArray, List.set_cons_succ, List.set_cons_zero]
            refine wpAnyH_takeD (i := 19) (d := 24) rfl rfl (by kernel_rfl) (by kernel_rfl) (by kernel_rfl) (fun _ _ _ h => h) (yieldsIf_load_row (by rfl) 49 (.tmp 3) rfl (G) rfl 49 _ (0, 0) _ (fun w' hw' => (hw'.block HG.out)) Try.underlying49 rfl (by kernel_rfl)) hs ?_
            simp only [Act.put, List.setIfInBounds_toArray, List.set_cons_succ, List.set_cons_zero]
            refine wpAnyH_ready (rs := [20]) (by kernel_rfl) (by simp) (AllReadyH.cons rfl (fun K hK => ?_) AllReadyH.nil)
            go_simp
            go_at_call 22
            refine (HSZ.out _ (HX1.out.trans hs)).mono ?_; rintro e w5 ⟨rfl, x5⟩
            go_wp2_with fail
            refine hK.out _ _ (hs.trans x5) (fun hs => ?_)
            clear hK K
            refine wpAnyH_takeD (i := 21) (d := 26) (v := .int .i64 ((m : Int) + (2 + (N : Int)))) rfl rfl (by kernel_rfl) (by kernel_rfl) (by kernel_rfl) (fun _ _ _ h => h) (Or.inl ⟨by rfl, fun W hW => by go_simp⟩) hs ?_
            simp only [Act.put, List.setIfInBounds_toArray, List.set_cons_succ, List.set_cons_zero]
            refine wpAnyH_takeD (i := 22) (d := 27) (v := .bool true) rfl rfl (by kernel_rfl) (by kernel_rfl) (by kernel_rfl) (fun _ _ _ h => h) (Or.inl ⟨by rfl, fun W hW => by go_simp⟩) hs ?_
            simp only [Act.put, List.setIfInBounds_toArray, List.set_cons_succ, List.set_cons_zero]
            refine wpAnyH_takeD (i := 23) (d := 28) (v := .bool true) rfl rfl (by kernel_rfl) (by kernel_rfl) (by kernel_rfl) (fun _ _ _ h => h) (Or.inl ⟨by rfl, fun W hW => by go_simp⟩) hs ?_
            simp only [Act.put, List.setIfInBounds_toArray, List.set_cons_succ, List.set_cons_zero]
            refine wpAnyH_done (by kernel_rfl) ?_ _
            go_wp2_with fail
            go_meet
            exact ⟨_, rfl, by rw [HE.out]; rfl, hs⟩
            -- END REGION
          · have HE : Hid (T = true) := Lib.hid (by rw [HT.out, HOK.out.2 (by omega), Bool.true_and]; exact decide_eq_true (by show m + (2 + N) ≤ 252; omega))
            -- REGION (*bilge/ident.said).put 1 ident_put1:E
            refine wpAnyH_takeD (i := 0) (d := 5) (v := .pointer (some ⟨G, 0, none⟩)) rfl rfl (by kernel_rfl) (by kernel_rfl) (by kernel_rfl) (fun _ _ _ h => h) (Or.inl ⟨by rfl, fun W hW => by go_simp⟩) hs ?_
            simp only [Act.put, List.setIfInBounds_toArray, List.set_cons_succ, List.set_cons_zero]
            refine wpAnyH_takeD (i := 1) (d := 6) (v := .int .i64 I) rfl rfl (by kernel_rfl) (by kernel_rfl) (by kernel_rfl) (fun _ _ _ h => h) (Or.inl ⟨by rfl, fun W hW => by obtain ⟨k0, k1, kR⟩ := HC1.out W hW; go_simp⟩) hs ?_
            simp only [Act.put, List.setIfInBounds_toArray, List.set_cons_succ, List.set_cons_zero]
            refine wpAnyH_takeD (i := 2) (d := 7) (v := .bool false) rfl rfl (by kernel_rfl) (by kernel_rfl) (by kernel_rfl) (fun _ _ _ h => h) (Or.inl ⟨by rfl, fun W hW => by go_simp⟩) hs ?_
            simp only [Act.put, List.setIfInBounds_toArray, List.set_cons_succ, List.set_cons_zero]
            refine wpAnyH_takeD (i := 3) (d := 8) (v := .bool false) rfl rfl (by kernel_rfl) (by kernel_rfl) (by kernel_rfl) (fun _ _ _ h => h) (Or.inl ⟨by rfl, fun W hW => by go_simp⟩) hs ?_
            simp only [Act.put, List.setIfInBounds_toArray, List.set_cons_succ, List.set_cons_zero]
            refine wpAnyH_takeD (i := 4) (d := 9) (v := .pointer (some ⟨G, 0, none⟩)) rfl rfl (by kernel_rfl) (by kernel_rfl) (by kernel_rfl) (fun _ _ _ h => h) (Or.inl ⟨by rfl, fun W hW => by go_simp⟩) hs ?_
            simp only [Act.put, List.setIfInBounds_toArray, List.set_cons_succ, List.set_cons_zero]
            refine wpAnyH_takeD (i := 5) (d := 10) (v := .int .i64 I) rfl rfl (by kernel_rfl) (by kernel_rfl) (by kernel_rfl) (fun _ _ _ h => h) (Or.inl ⟨by rfl, fun W hW => by obtain ⟨k0, k1, kR⟩ := HC1.out W hW; go_simp⟩) hs ?_
            simp only [Act.put, List.setIfInBounds_toArray, List.set_cons_succ, List.set_cons_zero]
            refine wpAnyH_takeD (i := 6) (d := 11) (v := .bool false) rfl rfl (by kernel_rfl) (by kernel_rfl) (by kernel_rfl) (fun _ _ _ h => h) (Or.inl ⟨by rfl, fun W hW => by go_simp⟩) hs ?_
            simp only [Act.put, List.setIfInBounds_toArray, List.set_cons_succ, List.set_cons_zero]
            refine wpAnyH_takeD (i := 7) (d := 12) (v := .bool false) rfl rfl (by kernel_rfl) (by kernel_rfl) (by kernel_rfl) (fun _ _ _ h => h) (Or.inl ⟨by rfl, fun W hW => by go_simp⟩) hs ?_
            simp only [Act.put, List.setIfInBounds_toArray, List.set_cons_succ, List.set_cons_zero]
            refine wpAnyH_takeD (i := 8) (d := 13) (v := .bool false) rfl rfl (by kernel_rfl) (by kernel_rfl) (by kernel_rfl) (fun _ _ _ h => h) (Or.inl ⟨by rfl, fun W hW => by go_simp⟩) hs ?_
            simp only [Act.put, List.setIfInBounds_toArray, List.set_cons_succ, List.set_cons_zero]
            refine wpAnyH_takeD (i := 9) (d := 14) (v := .pointer (some ⟨G, 1, none⟩)) rfl rfl (by kernel_rfl) (by kernel_rfl) (by kernel_rfl) (fun _ _ _ h => h) (Or.inl ⟨by rfl, fun W hW => by go_simp⟩) hs ?_
            simp only [Act.put, List.setIfInBounds_toArray, List.set_cons_succ, List.set_cons_zero]
            refine wpAnyH_takeD (i := 10) (d := 15) (v := .slice A N C) rfl rfl (by kernel_rfl) (by kernel_rfl) (by kernel_rfl) (fun _ _ _ h => h) (Or.inl ⟨by rfl, fun W hW => by obtain ⟨k0, k1, kR⟩ := HC1.out W hW; go_simp⟩) hs ?_
            simp only [Act.put, List.setIfInBounds_toArray, List.set_cons_succ, List.set_cons_zero]
            refine wpAnyH_takeD (i := 11) (d := 16) (v := .int .i64 N) rfl rfl (by kernel_rfl) (by kernel_rfl) (by kernel_rfl) (fun _ _ _ h => h) (Or.inl ⟨by rfl, fun W hW => by go_simp⟩) hs ?_
            simp only [Act.put, List.setIfInBounds_toArray, List.set_cons_succ, List.set_cons_zero]
            refine wpAnyH_takeD (i := 12) (d := 17) (v := .bool false) rfl rfl (by kernel_rfl) (by kernel_rfl) (by kernel_rfl) (fun _ _ _ h => h) (Or.inl ⟨by rfl, fun W hW => by go_simp⟩) hs ?_
            simp only [Act.put, List.setIfInBounds_toArray, List.set_cons_succ, List.set_cons_zero]
            refine wpAnyH_takeD (i := 13) (d := 18) (v := .bool false) rfl rfl (by kernel_rfl) (by kernel_rfl) (by kernel_rfl) (fun _ _ _ h => h) (Or.inl ⟨by rfl, fun W hW => by go_simp⟩) hs ?_
            simp only [Act.put, List.setIfInBounds_toArray, List.set_cons_succ, List.set_cons_zero]
            refine wpAnyH_takeD (i := 14) (d := 19) (v := .bool false) rfl rfl (by kernel_rfl) (by kernel_rfl) (by kernel_rfl) (fun _ _ _ h => h) (Or.inl ⟨by rfl, fun W hW => by go_simp⟩) hs ?_
            simp only [Act.put, List.setIfInBounds_toArray, List.set_cons_succ, List.set_cons_zero]
            refine wpAnyH_takeD (i := 15) (d := 20) (v := .pointer (some ⟨R, 0, none⟩)) rfl rfl (by kernel_rfl) (by kernel_rfl) (by kernel_rfl) (fun _ _ _ h => h) (Or.inl ⟨by rfl, fun W hW => by go_simp⟩) hs ?_
            simp only [Act.put, List.setIfInBounds_toArray, List.set_cons_succ, List.set_cons_zero]
            refine wpAnyH_takeD (i := 16) (d := 21) (v := .pointer (some ⟨R, 0, none⟩)) rfl rfl (by kernel_rfl) (by kernel_rfl) (by kernel_rfl) (fun _ _ _ h => h) (Or.inl ⟨by rfl, fun W hW => by go_simp⟩) hs ?_
            simp only [Act.put, List.setIfInBounds_toArray, List.set_cons_succ, List.set_cons_zero]
            refine wpAnyH_takeD (i := 17) (d := 22) (v := .slice b m q) rfl rfl (by kernel_rfl) (by kernel_rfl) (by kernel_rfl) (fun _ _ _ h => h) (Or.inl ⟨by rfl, fun W hW => by obtain ⟨k0, k1, kR⟩ := HC1.out W hW; go_simp⟩) hs ?_
            simp only [Act.put, List.setIfInBounds_toArray, List.set_cons_succ, List.set_cons_zero]
            refine wpAnyH_takeD (i := 18) (d := 23) (v := .int .i64 m) rfl rfl (by kernel_rfl) (by kernel_rfl) (by kernel_rfl) (fun _ _ _ h => h) (Or.inl ⟨by rfl, fun W hW => by go_simp⟩) hs ?_
            simp only [Act.put, List.setIfInBounds_toArray, List.set_cons_succ, List.set_cons_zero]
            refine wpAnyH_takeD (i := 19) (d := 24) rfl rfl (by kernel_rfl) (by kernel_rfl) (by kernel_rfl) (fun _ _ _ h => h) (yieldsIf_load_row (by rfl) 49 (.tmp 3) rfl (G) rfl 49 _ (0, 0) _ (fun w' hw' => (hw'.block HG.out)) Try.underlying49 rfl (by kernel_rfl)) hs ?_
            simp only [Act.put, List.setIfInBounds_toArray, List.set_cons_succ, List.set_cons_zero]
            refine wpAnyH_ready (rs := [20]) (by kernel_rfl) (by simp) (AllReadyH.cons rfl (fun K hK => ?_) AllReadyH.nil)
            go_simp
            go_at_call 22
            refine (HSZ.out _ (HX1.out.trans hs)).mono ?_; rintro e w5 ⟨rfl, x5⟩
            go_wp2_with fail
            refine hK.out _ _ (hs.trans x5) (fun hs => ?_)
            clear hK K
            refine wpAnyH_takeD (i := 21) (d := 26) (v := .int .i64 ((m : Int) + (2 + (N : Int)))) rfl rfl (by kernel_rfl) (by kernel_rfl) (by kernel_rfl) (fun _ _ _ h => h) (Or.inl ⟨by rfl, fun W hW => by go_simp⟩) hs ?_
            simp only [Act.put, List.setIfInBounds_toArray, List.set_cons_succ, List.set_cons_zero]
            refine wpAnyH_takeD (i := 22) (d := 27) (v := .bool false) rfl rfl (by kernel_rfl) (by kernel_rfl) (by kernel_rfl) (fun _ _ _ h => h) (Or.inl ⟨by rfl, fun W hW => by go_simp⟩) hs ?_
            simp only [Act.put, List.setIfInBounds_toArray, List.set_cons_succ, List.set_cons_zero]
            refine wpAnyH_takeD (i := 23) (d := 28) (v := .bool false) rfl rfl (by kernel_rfl) (by kernel_rfl) (by kernel_rfl) (fun _ _ _ h => h) (Or.inl ⟨by rfl, fun W hW => by go_simp⟩) hs ?_
            simp only [Act.put, List.setIfInBounds_toArray, List.set_cons_succ, List.set_cons_zero]
            refine wpAnyH_done (by kernel_rfl) ?_ _
            go_wp2_with fail
            go_meet
            exact ⟨_, rfl, by rw [HE.out]; rfl, hs⟩
            -- END REGION
  case rest =>
    obtain ⟨Wc, hwc, rfl, xc⟩ := hcut
    rw [hwc]
    clear hwc c0 c1 cR lG
    have HXc := Lib.hid xc
    clear xc
    cases T with
    | false =>
      go_wp2_with fail
      go_ret
      exact ⟨rfl, ⟨_, by simpa using HS1.out.ext HXc.out⟩, HX1.out.trans HXc.out⟩
    | true =>
      have ht := HT.out.symm
      rw [Bool.and_eq_true, decide_eq_true_iff] at ht
      obtain ⟨i0, i1, i2⟩ := HOK.out.1 ht.1
      have t2 : m + (2 + N) ≤ 252 := ht.2
      have u1 : IntKind.u8.wrap I = I := by rw [IntKind.wrap_u8]; omega
      have u2 : IntKind.u8.wrap (N : Int) = N := by rw [IntKind.wrap_u8]; omega
      clear ht
      go_upto_region 3 with fail
      go_cut [4] (fun pv wx => ∃ W3 v3, pv = .bool false ∧ wx = W3 ∧ Sai W0 W3 R (l ++ [I, (N : Int)]) v3 ∧ W3.heap[G]? = some (.cells #[.int .i64 I, .slice A N C] 49 (0, 0)) ∧ (∀ i, SaF R v3 i → i ≠ G) ∧ Ext W0 W3)
      case first =>
        obtain ⟨X, hX⟩ : ∃ X, X = Wc.drew := ⟨_, rfl⟩
        have x1X : Ext W1 X := by rw [hX]; exact ext_drew HXc.out
        have hs : Keep (SaF R (.slice b m q)) X X := Keep.refl _ _
        refine wp_region_held_drew (S := fun W => Keep (SaF R (.slice b m q)) X W) (by kernel_rfl) (by rw [← hX]; exact hs) (fun _ => ?_)
        rw [← hX]
        clear hX
        have HSX := Lib.hid (HS1.out.ext x1X)
        have HGX := Lib.hid (x1X.block HG.out)
        have HC := Lib.hid (fun W (k : Keep (SaF R (.slice b m q)) X W) => (⟨k.cell (fun hF => HGF.out _ hF rfl) (cell_of_heap HGX.out rfl), k.cell (fun hF => HGF.out _ hF rfl) (cell_of_heap HGX.out rfl)⟩ : W.cell? ⟨G, 0, none⟩ = some (.int .i64 I) ∧ W.cell? ⟨G, 1, none⟩ = some (.slice A N C)))
        have HOW : Hid (∀ W, Ext X W → W.ownsRow W0.heap.size 5 1 (.slice b m q) m (l.map (Value.int .u8))) := Lib.hid (fun W x => by have := own_ext HSX.out.own x; rw [HM.out] at this; exact this)
        have HB0 : Hid (W0.heap.size ≤ X.heap.size) := Lib.hid (HX1.out.trans x1X).size
        -- REGION (*bilge/ident.said).put 3 ident_put3
        refine wpAnyH_takeD (i := 0) (d := 29) (v := .pointer (some ⟨R, 0, none⟩)) rfl rfl (by kernel_rfl) (by kernel_rfl) (by kernel_rfl) (fun _ _ _ h => h) (Or.inl ⟨by rfl, fun W hW => by go_simp⟩) hs ?_
        simp only [Act.put, List.setIfInBounds_toArray, List.set_cons_succ, List.set_cons_zero]
        refine wpAnyH_takeD (i := 1) (d := 30) (v := .pointer (some ⟨R, 0, none⟩)) rfl rfl (by kernel_rfl) (by kernel_rfl) (by kernel_rfl) (fun _ _ _ h => h) (Or.inl ⟨by rfl, fun W hW => by go_simp⟩) hs ?_
        simp only [Act.put, List.setIfInBounds_toArray, List.set_cons_succ, List.set_cons_zero]
        refine wpAnyH_takeD (i := 2) (d := 31) (v := .pointer (some ⟨R, 0, none⟩)) rfl rfl (by kernel_rfl) (by kernel_rfl) (by kernel_rfl) (fun _ _ _ h => h) (Or.inl ⟨by rfl, fun W hW => by go_simp⟩) hs ?_
        simp only [Act.put, List.setIfInBounds_toArray, List.set_cons_succ, List.set_cons_zero]
        refine wpAnyH_takeD (i := 4) (d := 33) (v := .pointer (some ⟨G, 0, none⟩)) rfl rfl (by kernel_rfl) (by kernel_rfl) (by kernel_rfl) (fun _ _ _ h => h) (Or.inl ⟨by rfl, fun W hW => by go_simp⟩) hs ?_
        simp only [Act.put, List.setIfInBounds_toArray, List.set_cons_succ, List.set_cons_zero]
        refine wpAnyH_takeD (i := 5) (d := 34) (v := .int .i64 I) rfl rfl (by kernel_rfl) (by kernel_rfl) (by kernel_rfl) (fun _ _ _ h => h) (Or.inl ⟨by rfl, fun W hW => by obtain ⟨k0, k1⟩ := HC.out W hW; go_simp⟩) hs ?_
        simp only [Act.put, List.setIfInBounds_toArray, List.set_cons_succ, List.set_cons_zero]
        refine wpAnyH_takeD (i := 6) (d := 35) (v := .int .u8 I) rfl rfl (by kernel_rfl) (by kernel_rfl) (by kernel_rfl) (fun _ _ _ h => h) (Or.inl ⟨by rfl, fun W hW => by go_simp⟩) hs ?_
        simp only [Act.put, List.setIfInBounds_toArray, List.set_cons_succ, List.set_cons_zero]
        refine wpAnyH_takeD (i := 7) (d := 36) (v := .pointer (some ⟨G, 1, none⟩)) rfl rfl (by kernel_rfl) (by kernel_rfl) (by kernel_rfl) (fun _ _ _ h => h) (Or.inl ⟨by rfl, fun W hW => by go_simp⟩) hs ?_
        simp only [Act.put, List.setIfInBounds_toArray, List.set_cons_succ, List.set_cons_zero]
        refine wpAnyH_takeD (i := 8) (d := 37) (v := .slice A N C) rfl rfl (by kernel_rfl) (by kernel_rfl) (by kernel_rfl) (fun _ _ _ h => h) (Or.inl ⟨by rfl, fun W hW => by obtain ⟨k0, k1⟩ := HC.out W hW; go_simp⟩) hs ?_
        simp only [Act.put, List.setIfInBounds_toArray, List.set_cons_succ, List.set_cons_zero]
        refine wpAnyH_takeD (i := 9) (d := 38) (v := .int .i64 N) rfl rfl (by kernel_rfl) (by kernel_rfl) (by kernel_rfl) (fun _ _ _ h => h) (Or.inl ⟨by rfl, fun W hW => by go_simp⟩) hs ?_
        simp only [Act.put, List.setIfInBounds_toArray, List.set_cons_succ, List.set_cons_zero]
        refine wpAnyH_takeD (i := 10) (d := 39) (v := .int .u8 N) rfl rfl (by kernel_rfl) (by kernel_rfl) (by kernel_rfl) (fun _ _ _ h => h) (Or.inl ⟨by rfl, fun W hW => by go_simp⟩) hs ?_
        simp only [Act.put, List.setIfInBounds_toArray, List.set_cons_succ, List.set_cons_zero]
        refine wpAnyH_ready (rs := [3, 11]) (by kernel_rfl) (by simp) (AllReadyH.cons rfl (fun K hK => ?_) (AllReadyH.cons rfl (fun K hK => ?_) AllReadyH.nil))
        · have cR := cell_of_heap (j := 0) (HSX.out.at_) rfl
          go_simp
          refine hK.out _ _ hs (fun hs => ?_)
          clear hK K cR
          refine wpAnyH_ready (rs := [11]) (by kernel_rfl) (by simp) (AllReadyH.cons rfl (fun K hK => ?_) AllReadyH.nil)
          go_simp
          refine hK.out _ _ (hs.trans_ext (Ext.alloc _ _)) (fun hs => ?_)
          clear hK K
          refine wpAnyH_ready (rs := [12]) (by kernel_rfl) (by simp) (AllReadyH.cons rfl (fun K hK => ?_) AllReadyH.nil)
          refine step_append_holdsT rfl (.tmp 32) (.tmp 40) 57 57 rfl W0.heap.size 5 5 i8 (.int .u8 0) 1 Try.underlying57 Try.underlying57 hi8 hz80 hz81 hz82 rfl (.slice b m q) m (l.map (Value.int .u8)) (by rfl) (HOW.out _ (Ext.alloc X _)) (some ⟨X.heap.size, 0, none⟩) 2 2 (ofL [I, (N : Int)]) (by rfl) (two_held X I N 5) (fun _ => rfl) (by unfold maxLen; omega) (by omega) (Nat.le_trans HB0.out (Ext.alloc X _).size) 41 rfl ?_
          intro v3 w3 hown3 hgr3 hob3
          obtain ⟨b3, c3, rfl⟩ := own_shape hown3
          obtain ⟨gR3, hS3, k3, k3'⟩ := Sai.push HSX.out (Ext.alloc X (.cells #[.int .u8 I, .int .u8 N] 5)) (l' := [I, (N : Int)]) (by rw [HM.out]; exact hown3) hgr3 hob3
          refine hK.out _ _ ((Keep.of_ext (Ext.alloc X (.cells #[.int .u8 I, .int .u8 N] 5))).trans k3 (fun i h => .inl h)) (fun hs => ?_)
          clear hK K
          refine wpAnyH_takeD (i := 13) (d := 42) (v := .pointer (some ⟨R, 0, none⟩)) rfl rfl (by kernel_rfl) (by kernel_rfl) (by kernel_rfl) (fun _ _ _ h => h) (Or.inl ⟨by rfl, fun W hW => by go_simp⟩) hs ?_
          simp only [Act.put, List.setIfInBounds_toArray, List.set_cons_succ, List.set_cons_zero]
          refine wpAnyH_ready (rs := [14]) (by kernel_rfl) (by simp) (AllReadyH.cons rfl (fun K hK => ?_) AllReadyH.nil)
          have cR := cell_of_heap (j := 0) gR3 rfl
          have fR := frozenS gR3
          go_simp
          refine hK.out _ _ ((Keep.of_ext (Ext.alloc X (.cells #[.int .u8 I, .int .u8 N] 5))).trans k3' (fun i h => .inl h)) (fun hs => ?_)
          clear hK K cR fR
          refine wpAnyH_done (by kernel_rfl) ?_ _
          go_wp2_with fail
          go_meet
          exact put_mid HGF.out HGX.out HSX.out hs hob3 hS3 (HX1.out.trans x1X)
        · go_simp
          refine hK.out _ _ (hs.trans_ext (Ext.alloc _ _)) (fun hs => ?_)
          clear hK K
          refine wpAnyH_ready (rs := [3]) (by kernel_rfl) (by simp) (AllReadyH.cons rfl (fun K hK => ?_) AllReadyH.nil)
          have cR := cell_of_heap (j := 0) ((Ext.alloc X (.cells #[.int .u8 I, .int .u8 N] 5)).block HSX.out.at_) rfl
          go_simp
          refine hK.out _ _ hs (fun hs => ?_)
          clear hK K cR
          refine wpAnyH_ready (rs := [12]) (by kernel_rfl) (by simp) (AllReadyH.cons rfl (fun K hK => ?_) AllReadyH.nil)
          refine step_append_holdsT rfl (.tmp 32) (.tmp 40) 57 57 rfl W0.heap.size 5 5 i8 (.int .u8 0) 1 Try.underlying57 Try.underlying57 hi8 hz80 hz81 hz82 rfl (.slice b m q) m (l.map (Value.int .u8)) (by rfl) (HOW.out _ (Ext.alloc X _)) (some ⟨X.heap.size, 0, none⟩) 2 2 (ofL [I, (N : Int)]) (by rfl) (two_held X I N 5) (fun _ => rfl) (by unfold maxLen; omega) (by omega) (Nat.le_trans HB0.out (Ext.alloc X _).size) 41 rfl ?_
          intro v3 w3 hown3 hgr3 hob3
          obtain ⟨b3, c3, rfl⟩ := own_shape hown3
          obtain ⟨gR3, hS3, k3, k3'⟩ := Sai.push HSX.out (Ext.alloc X (.cells #[.int .u8 I, .int .u8 N] 5)) (l' := [I, (N : Int)]) (by rw [HM.out]; exact hown3) hgr3 hob3
          refine hK.out _ _ ((Keep.of_ext (Ext.alloc X (.cells #[.int .u8 I, .int .u8 N] 5))).trans k3 (fun i h => .inl h)) (fun hs => ?_)
          clear hK K
          refine wpAnyH_takeD (i := 13) (d := 42) (v := .pointer (some ⟨R, 0, none⟩)) rfl rfl (by kernel_rfl) (by kernel_rfl) (by kernel_rfl) (fun _ _ _ h => h) (Or.inl ⟨by rfl, fun W hW => by go_simp⟩) hs ?_
          simp only [Act.put, List.setIfInBounds_toArray, List.set_cons_succ, List.set_cons_zero]
          refine wpAnyH_ready (rs := [14]) (by kernel_rfl) (by simp) (AllReadyH.cons rfl (fun K hK => ?_) AllReadyH.nil)
          have cR := cell_of_heap (j := 0) gR3 rfl
          have fR := frozenS gR3
          go_simp
          refine hK.out _ _ ((Keep.of_ext (Ext.alloc X (.cells #[.int .u8 I, .int .u8 N] 5))).trans k3' (fun i h => .inl h)) (fun hs => ?_)
          clear hK K cR fR
          refine wpAnyH_done (by kernel_rfl) ?_ _
          go_wp2_with fail
          go_meet
          exact put_mid HGF.out HGX.out HSX.out hs hob3 hS3 (HX1.out.trans x1X)
        -- END REGION
      case rest =>
        obtain ⟨W3, v3, rfl, hwc, hS3, hG3, hF3, hx3⟩ := hcut
        rw [hwc]
        clear hwc
        have HS3 := Lib.hid hS3
        have HX3 := Lib.hid hx3
        have HG3 := Lib.hid hG3
        have HGF3 := Lib.hid hF3
        clear hS3 hx3 hG3 hF3
        go_upto_region 4 with fail
        obtain ⟨Y, hY⟩ : ∃ Y, Y = W3.drew := ⟨_, rfl⟩
        have x3Y : Ext W3 Y := by rw [hY]; exact Ext.drew _
        have hs : Keep (SaF R v3) Y Y := Keep.refl _ _
        refine wp_region_held_drew (S := fun W => Keep (SaF R v3) Y W) (by kernel_rfl) (by rw [← hY]; exact hs) (fun _ => ?_)
        rw [← hY]
        clear hY
        have HSY := Lib.hid (HS3.out.ext x3Y)
        have HXY := Lib.hid (HX3.out.trans x3Y)
        have HC3 := Lib.hid (fun W (k : Keep (SaF R v3) Y W) => (k.cell (fun hF => HGF3.out _ hF rfl) (cell_of_heap (x3Y.block HG3.out) rfl) : W.cell? ⟨G, 1, none⟩ = some (.slice A N C)))
        -- REGION (*bilge/ident.said).put 4 ident_put4
        refine wpAnyH_takeD (i := 0) (d := 43) (v := .pointer (some ⟨R, 0, none⟩)) rfl rfl (by kernel_rfl) (by kernel_rfl) (by kernel_rfl) (fun _ _ _ h => h) (Or.inl ⟨by rfl, fun W hW => by go_simp⟩) hs ?_
        simp only [Act.put, List.setIfInBounds_toArray, List.set_cons_succ, List.set_cons_zero]
        refine wpAnyH_takeD (i := 1) (d := 44) (v := .pointer (some ⟨R, 0, none⟩)) rfl rfl (by kernel_rfl) (by kernel_rfl) (by kernel_rfl) (fun _ _ _ h => h) (Or.inl ⟨by rfl, fun W hW => by go_simp⟩) hs ?_
        simp only [Act.put, List.setIfInBounds_toArray, List.set_cons_succ, List.set_cons_zero]
        refine wpAnyH_takeD (i := 2) (d := 45) (v := .pointer (some ⟨R, 0, none⟩)) rfl rfl (by kernel_rfl) (by kernel_rfl) (by kernel_rfl) (fun _ _ _ h => h) (Or.inl ⟨by rfl, fun W hW => by go_simp⟩) hs ?_
        simp only [Act.put, List.setIfInBounds_toArray, List.set_cons_succ, List.set_cons_zero]
        refine wpAnyH_takeD (i := 4) (d := 47) (v := .pointer (some ⟨G, 1, none⟩)) rfl rfl (by kernel_rfl) (by kernel_rfl) (by kernel_rfl) (fun _ _ _ h => h) (Or.inl ⟨by rfl, fun W hW => by go_simp⟩) hs ?_
        simp only [Act.put, List.setIfInBounds_toArray, List.set_cons_succ, List.set_cons_zero]
        refine wpAnyH_takeD (i := 5) (d := 48) (v := .slice A N C) rfl rfl (by kernel_rfl) (by kernel_rfl) (by kernel_rfl) (fun _ _ _ h => h) (Or.inl ⟨by rfl, fun W hW => by have k1 := HC3.out W hW; go_simp⟩) hs ?_
        simp only [Act.put, List.setIfInBounds_toArray, List.set_cons_succ, List.set_cons_zero]
        refine wpAnyH_ready (rs := [3]) (by kernel_rfl) (by simp) (AllReadyH.cons rfl (fun K hK => ?_) AllReadyH.nil)
        have cR := cell_of_heap (j := 0) (HSY.out.at_) rfl
        go_simp
        refine hK.out _ _ hs (fun hs => ?_)
        clear hK K cR
        refine wpAnyH_ready (rs := [6]) (by kernel_rfl) (by simp) (AllReadyH.cons rfl (fun K hK => ?_) AllReadyH.nil)
        refine step_append_holdsT rfl (.tmp 46) (.tmp 48) 57 25 rfl W0.heap.size 5 5 i8 (.int .u8 0) 1 Try.underlying57 Try.underlying25 hi8 hz80 hz81 hz82 rfl v3 (l ++ [I, (N : Int)]).length ((l ++ [I, (N : Int)]).map (Value.int .u8)) (by rfl) HSY.out.own A N C f (by rfl) (HZ.out.h.ext HXY.out) (fun _ => rfl) (by have := HM.out; simp; unfold maxLen; omega) (by have := HM.out; simp; omega) HXY.out.size 49 rfl ?_
        intro v4 w4 hown4 hgr4 hob4
        obtain ⟨b4, n4, c4, hv4⟩ : ∃ b n c, v4 = .slice b n c := ⟨_, _, _, (own_shape hown4).choose_spec.choose_spec⟩
        subst hv4
        obtain ⟨gR4, hS4, k4, k4'⟩ := Sai.push HSY.out (Ext.refl Y) (l' := (List.range N).map f) (by rw [List.length_map, List.length_range, ← lstG_map]; exact hown4) hgr4 hob4
        refine hK.out _ _ k4 (fun hs => ?_)
        clear hK K
        refine wpAnyH_takeD (i := 7) (d := 50) (v := .pointer (some ⟨R, 0, none⟩)) rfl rfl (by kernel_rfl) (by kernel_rfl) (by kernel_rfl) (fun _ _ _ h => h) (Or.inl ⟨by rfl, fun W hW => by go_simp⟩) hs ?_
        simp only [Act.put, List.setIfInBounds_toArray, List.set_cons_succ, List.set_cons_zero]
        refine wpAnyH_ready (rs := [8]) (by kernel_rfl) (by simp) (AllReadyH.cons rfl (fun K hK => ?_) AllReadyH.nil)
        have cR := cell_of_heap (j := 0) gR4 rfl
        have fR := frozenS gR4
        go_simp
        refine hK.out _ _ k4' (fun hs => ?_)
        clear hK K cR fR
        refine wpAnyH_done (by kernel_rfl) ?_ _
        have HX4 := Lib.hid (HSY.out.low hs HXY.out)
        have HS4 := Lib.hid hS4
        clear hs gR4 k4 k4' hown4 hgr4 hob4 hS4
        go_wp2_with fail
        go_ret
        refine ⟨rfl, ⟨.slice b4 n4 c4, ?_⟩, HX4.out⟩
        rw [HSay.out, ← List.append_assoc]
        exact HS4.out
        -- END REGION
end Go.Proofs.Ythdkhdbabohohaa
