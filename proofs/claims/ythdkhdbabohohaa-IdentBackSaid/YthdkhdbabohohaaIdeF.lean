/-
  CONTRACTS: package ident (layer 21): Read.
-/
import Derived.Test.YthdkhdbabohohaaIdeD
import Derived.Test.YthdkhdbabohohaaIdeE
namespace Go.Proofs.Ythdkhdbabohohaa
open Go.RowKit
set_option linter.unusedVariables false
set_option maxRecDepth 100000

/-- Objects that a call has made. -/
structure TakM (w0 w : World) (b : Option Addr) (q : Nat) (M : List Ob) : Prop where
  o : ObjsAt w b M.length q M
  f : Fresh w0 b
  fz : ∀ z ∈ M, z.n ≠ 0 → Fresh w0 z.a
  x0 : Ext w0 w
/-- A block in which none of them lies. -/
def OffO (g : Nat) (b : Option Addr) (M : List Ob) : Prop := (M ≠ [] → ∀ p, b = some p → p.block ≠ g) ∧ ∀ z ∈ M, z.n ≠ 0 → ∀ p, z.a = some p → p.block ≠ g
theorem TakM.ext {w0 w w' : World} {b : Option Addr} {q : Nat} {M : List Ob} (h : TakM w0 w b q M) (x : Ext w w') : TakM w0 w' b q M := ⟨h.o.ext x, h.f, h.fz, h.x0.trans x⟩
theorem TakM.base {w1 w0 w : World} {b : Option Addr} {q : Nat} {M : List Ob} (h : TakM w0 w b q M) (x : Ext w1 w0) : TakM w1 w b q M :=
  ⟨h.o, fun p hp => Nat.le_trans x.size (h.f p hp), fun z hz hn p hp => Nat.le_trans x.size (h.fz z hz hn p hp), x.trans h.x0⟩
theorem TakM.below {w0 w : World} {b : Option Addr} {q g : Nat} {M : List Ob} (h : TakM w0 w b q M) (hg : w.heap.size ≤ g) : OffO g b M := by
  refine ⟨fun hM p hp e => ?_, fun z hz hn p hp e => ?_⟩
  · obtain ⟨b', o, hb, hlt, -⟩ := h.o.h.resolve_left hM
    rw [hp] at hb; cases hb
    have e : b' = g := e
    omega
  · have := holds_lt (h.o.each z hz).h hn hp
    omega
theorem TakM.above {w0 w : World} {b : Option Addr} {q g : Nat} {M : List Ob} (h : TakM w0 w b q M) (hg : g < w0.heap.size) : OffO g b M :=
  ⟨fun _ p hp e => by have := h.f p hp; omega, fun z hz hn p hp e => by have := h.fz z hz hn p hp; omega⟩
theorem ObjsAt.keepO {w w' : World} {a : Option Addr} {n c : Nat} {L : List Ob} {r : Nat} (h : ObjsAt w a n c L) (k : Keep (fun i => i = r) w w') (ho : OffO r a L) : ObjsAt w' a n c L := by
  refine ⟨h.len, ?_, h.l, h.m, fun z hz' => ?_⟩
  · by_cases hL : L = []
    · exact .inl hL
    · exact h.h.keep k (fun p hp e => ho.1 hL p hp e)
  · have e := h.each z hz'
    refine ⟨?_, e.l, e.m, e.s, e.b, e.wi⟩
    by_cases hn : z.n = 0
    · exact .inl hn
    · exact e.h.keep k (fun p hp e => ho.2 z hz' hn p hp e)
theorem keep_setRow (w : World) (g : Nat) (cs : Array Value) : Keep (fun i => i = g) w (w.setRow g cs) := ⟨rfl, rfl, rfl, by simp, fun k _ hn => setRow_other _ _ k _ hn⟩
theorem read_mid {W0 W : World} {g tq n : Nat} {tb : Option Addr} {M : List Ob} {F1 F2 F4 : Int} {T3 : Bool} {K : List Ob}
    (gz : W.heap[g]? = some (.cells #[.int .i64 0, .int .i64 0, .bool false, .int .i64 0, .slice none 0 0] 24 (0, 0))) (ho : OffO g tb M) (t : TakM W0 W tb tq M) (t2 : sameO M K = true) (t4 : ∀ z ∈ M, z.n ≤ 255) (t5 : 2 * M.length ≤ n)
    (lg : W0.heap.size ≤ g) (hs : Ext W0 (W.setRow g #[.int .i64 F1, .int .i64 (F2 - 128), .bool T3, .int .i64 F4, .slice tb M.length tq])) :
    ∃ (g' : Nat) (tb' : Option Addr) (tq' : Nat) (M' : List Ob) (W' : World), Value.pointer (some ⟨g, 0, none⟩) = .pointer (some ⟨g', 0, none⟩) ∧ W.setRow g #[.int .i64 F1, .int .i64 (F2 - 128), .bool T3, .int .i64 F4, .slice tb M.length tq] = W' ∧ W'.heap[g']? = some (.cells (prC ⟨F1, F2 - 128, T3, F4, M'⟩ tb' M'.length tq') 24 (0, 0)) ∧ TakM W0 W' tb' tq' M' ∧ sameO M' K = true ∧ (∀ z ∈ M', z.n ≤ 255) ∧ 2 * M'.length ≤ n ∧ W0.heap.size ≤ g' :=
  ⟨g, tb, tq, M, _, rfl, rfl, setRow_heap W g _ _ _ _ gz, ⟨t.o.keepO (keep_setRow W g _) ho, t.f, t.fz, hs⟩, t2, t4, t5, lg⟩
/-- What Read tells. -/
def ReaF (a : Option Addr) (l : List Int) (w : World) (e : Ending) (w' : World) : Prop := ∃ P b m q, e = .returned (.tuple #[.agg (prC P b m q), .int .i64 (rdI l)]) ∧ PrtAt w' P b m q ∧ ObjF P.L ∧ sameP P ((readP l).getD zeroPr) = true ∧ Fresh w b ∧ (∀ z ∈ P.L, z.n ≠ 0 → Fresh w z.a ∨ Within a z.a) ∧ Ext w w'
theorem reaF_no {a : Option Addr} {l : List Int} {w w' : World} (h : readP l = none) (x : Ext w w') : ReaF a l w (.returned (.tuple #[.agg #[.int .i64 0, .int .i64 0, .bool false, .int .i64 0, .slice none 0 0], .int .i64 14])) w' := by
  refine ⟨zeroPr, none, 0, 0, by unfold rdI; rw [h]; rfl, ⟨ObjsAt.nil w', by decide, by decide, by decide⟩, ⟨Nat.zero_le _, fun z hz => by cases hz⟩, by rw [h]; exact sameP_refl _, Fresh.nil _, (fun z hz => by cases hz), x⟩
theorem readP_len {l : List Int} (h : l.length < 6 ∨ 252 < l.length) : readP l = none := by
  unfold readP
  rw [if_neg]
  rintro ⟨h1, h2, h3, h4⟩
  obtain ⟨-, -, -, -, h5⟩ := rightP_iff.1 h3
  have := congrArg List.length h4
  rw [sayP_len] at this
  omega
set_option maxHeartbeats 8000000 in
theorem read_short (a : Option Addr) (n c : Nat) (f : Nat → Int) (w : World) (h : n < 6 ∨ 252 < n) : Calls Try.prog 12 #[.slice a n c] w (ReaF a ((List.range n).map f) w) := by
  have HNO : Hid (readP ((List.range n).map f) = none) := Lib.hid (readP_len (by simpa using h))
  have x0 := Ext.alloc w (.cells #[.int .i64 0, .int .i64 0, .bool false, .int .i64 0, .slice none 0 0] 24)
  have HX := Lib.hid x0
  have gR := heap_alloc_new w (.cells #[.int .i64 0, .int .i64 0, .bool false, .int .i64 0, .slice none 0 0] 24)
  clear x0
  by_cases h6 : (n : Int) < 6
  · clear h
    go_enter Try.func12, Try.ntmps12
    go_wp2
    refine bodyPost_ret (results_row_tmp rfl _ _ w.heap.size 24 _ (0, 0) _ rfl gR Try.underlying24 rfl (by kernel_rfl)) rfl ?_
    exact reaF_no HNO.out HX.out
  · have h2 : (252 : Int) < n := by omega
    clear h
    go_enter Try.func12, Try.ntmps12
    go_wp2
    refine bodyPost_ret (results_row_tmp rfl _ _ w.heap.size 24 _ (0, 0) _ rfl gR Try.underlying24 rfl (by kernel_rfl)) rfl ?_
    exact reaF_no HNO.out HX.out
set_option maxHeartbeats 16000000 in
theorem read_long (a : Option Addr) (n c : Nat) (f : Nat → Int) (w : World) (ha : Holds .u8 w a n f) (hnc : n ≤ c) (hcm : c ≤ maxLen) (hf : ∀ i, i < n → 0 ≤ f i ∧ f i < 256) (h6 : 6 ≤ n) (hn : n ≤ 252) :
    Calls Try.prog 12 #[.slice a n c] w (ReaF a ((List.range n).map f) w) := by
  obtain ⟨W0, hW0, x0, HR0⟩ : ∃ W0, W0 = w.alloc (.cells #[.int .i64 0, .int .i64 0, .bool false, .int .i64 0, .slice none 0 0] 24) ∧ Ext w W0 ∧ Hid (W0.heap[w.heap.size]? = some (.cells #[.int .i64 0, .int .i64 0, .bool false, .int .i64 0, .slice none 0 0] 24 (0, 0))) := ⟨_, rfl, Ext.alloc _ _, Lib.hid (heap_alloc_new _ _)⟩
  have hA0 := ha.ext x0
  obtain ⟨b, off, rfl, hlt, hc⟩ := hA0.resolve_left (by omega)
  have HC := Lib.hid (fun W (x : Ext W0 W) => (⟨x.cell hlt (hc 1 (by omega)), x.cell hlt (hc 2 (by omega)), x.cell hlt (hc 3 (by omega)), x.cell hlt (hc 4 (by omega))⟩ : W.cell? ⟨b, off + 1, none⟩ = some (.int .u8 (f 1)) ∧ W.cell? ⟨b, off + 2, none⟩ = some (.int .u8 (f 2)) ∧ W.cell? ⟨b, off + 3, none⟩ = some (.int .u8 (f 3)) ∧ W.cell? ⟨b, off + 4, none⟩ = some (.int .u8 (f 4))))
  obtain ⟨l, hl⟩ : ∃ l, l = (List.range n).map f := ⟨_, rfl⟩
  have hll : l.length = n := by rw [hl]; simp
  have hof : ∀ i, i < n → ofL l i = f i := fun i hi => by rw [hl]; exact ofL_range n f i hi
  have hdr : (List.range (n - 6)).map (fun i => f (6 + i)) = l.drop 6 := by
    rw [hl]
    apply List.ext_getElem?
    intro i
    rw [List.getElem?_drop, List.getElem?_map, List.getElem?_map]
    by_cases hi : i < n - 6
    · rw [List.getElem?_range hi, List.getElem?_range (by omega)]; rfl
    · rw [List.getElem?_eq_none (by simp; omega), List.getElem?_eq_none (by simp; omega)]; rfl
  obtain ⟨A6, hA6⟩ : ∃ A6, (if c = 6 then some ⟨b, off, none⟩ else some (⟨b, off + 6, none⟩ : Addr)) = A6 := ⟨_, rfl⟩
  have HN6 : Hid (∀ W, Ext W0 W → Holds .u8 W A6 (n - 6) (fun i => f (6 + i))) := Lib.hid (fun W x => by
    by_cases hn6 : n - 6 = 0
    · exact .inl hn6
    · rw [if_neg (by omega)] at hA6
      rw [← hA6]
      exact .inr ⟨b, off + 6, rfl, Nat.lt_of_lt_of_le hlt x.size, fun i hi => by rw [Nat.add_assoc]; exact x.cell hlt (hc (6 + i) (by omega))⟩)
  have HTk := Lib.hid (fun W (x : Ext W0 W) => take_f A6 (n - 6) (c - 6) n (fun i => f (6 + i)) W (HN6.out W x) (by omega) (by omega) (by omega) (fun i hi => hf (6 + i) (by omega)) (by omega))
  rw [hdr] at HTk
  rw [← hl]
  obtain ⟨F1, hF1⟩ : ∃ F1, f 1 = F1 := ⟨_, rfl⟩
  obtain ⟨F2, hF2⟩ : ∃ F2, f 2 = F2 := ⟨_, rfl⟩
  obtain ⟨F3, hF3⟩ : ∃ F3, f 3 = F3 := ⟨_, rfl⟩
  obtain ⟨F4, hF4⟩ : ∃ F4, f 4 = F4 := ⟨_, rfl⟩
  obtain ⟨T3, hT3⟩ : ∃ T3, (F3 == 255) = T3 := ⟨_, rfl⟩
  have b1 := hf 1 (by omega)
  have b2 := hf 2 (by omega)
  have b4 := hf 4 (by omega)
  rw [hF1] at b1
  rw [hF2] at b2
  rw [hF4] at b4
  rw [hF1, hF2, hF3, hF4] at HC
  have HP : Hid (l.length = n ∧ ofL l 2 = F2 ∧ partP l = ⟨F1, F2 - 128, T3, F4, parI l.length (l.drop 6)⟩) := Lib.hid ⟨hll, by rw [hof 2 (by omega), hF2], by
    unfold partP
    rw [hof 1 (by omega), hof 2 (by omega), hof 3 (by omega), hof 4 (by omega), hF1, hF2, hF3, hF4, ← hT3]
    congr 1⟩
  have u1 : IntKind.i64.wrap F1 = F1 := IntWalk.i64_in _ (by omega)
  have u2 : IntKind.i64.wrap F2 = F2 := IntWalk.i64_in _ (by omega)
  have u4 : IntKind.i64.wrap F4 = F4 := IntWalk.i64_in _ (by omega)
  have u5 : IntKind.i64.wrap (F2 - 128) = F2 - 128 := IntWalk.i64_in _ (by omega)
  have g6 : ¬ (n : Int) < 6 := by omega
  have g5 : ¬ 252 < (n : Int) := by omega
  have n1 : (1 : Int) < n := by omega
  have n2 : (2 : Int) < n := by omega
  have n3 : (3 : Int) < n := by omega
  have n4 : (4 : Int) < n := by omega
  have g7 : (6 : Int) ≤ n := by omega
  have g8 : (n : Int) ≤ c := by omega
  have g9 : (c : Int) ≤ 9223372036854775807 := by unfold maxLen at hcm; omega
  have HI := Lib.hid (And.intro (Holds.ext ha x0) (And.intro hn (And.intro hf hl)))
  have HX := Lib.hid x0
  have HBD := Lib.hid (And.intro b1 (And.intro b2 b4))
  clear ha hn hnc hcm hf h6 hA0 hc hlt hl hll hof hF1 hF2 hF3 hF4 b1 b2 b4 x0 HN6 hdr
  go_enter Try.func12, Try.ntmps12
  go_upto_region 1 with fail
  rw [← hW0]
  clear hW0
  go_upto_region 3 with fail
  obtain ⟨X, hX⟩ : ∃ X, X = W0.drew := ⟨_, rfl⟩
  have hs : Ext W0 X := by rw [hX]; exact Ext.drew _
  have HXX := Lib.hid hs
  go_cut [4] (fun pv wx => ∃ (g : Nat) (tb : Option Addr) (tq : Nat) (M : List Ob) (W : World), pv = .pointer (some ⟨g, 0, none⟩) ∧ wx = W ∧ W.heap[g]? = some (.cells (prC ⟨F1, F2 - 128, T3, F4, M⟩ tb M.length tq) 24 (0, 0)) ∧ TakM W0 W tb tq M ∧ sameO M (parI n (l.drop 6)) = true ∧ (∀ z ∈ M, z.n ≤ 255) ∧ 2 * M.length ≤ n - 6 ∧ W0.heap.size ≤ g)
  case first =>
    as_aux_lemma =>
    refine wp_region_held_drew (S := fun W => Ext W0 W) (by kernel_rfl) (by rw [← hX]; exact hs) (fun _ => ?_)
    rw [← hX]
    clear hX
    -- REGION bilge/ident.Read 3 ident_read3
    refine wpAnyH_takeD (i := 0) (d := 16) (v := .slice (some ⟨b, off, none⟩) n c) rfl rfl (by kernel_rfl) (by kernel_rfl) (by kernel_rfl) (fun _ _ _ h => h) (Or.inl ⟨by rfl, fun W hW => by go_simp⟩) hs ?_
    simp only [Act.put, List.setIfInBounds_toArray, List.set_cons_succ, List.set_cons_zero]
    refine wpAnyH_takeD (i := 1) (d := 17) (v := .pointer (some ⟨b, off + 1, none⟩)) rfl rfl (by kernel_rfl) (by kernel_rfl) (by kernel_rfl) (fun _ _ _ h => h) (Or.inl ⟨by rfl, fun W hW => by obtain ⟨k1, k2, k3, k4⟩ := HC.out W hW; go_simp⟩) hs ?_
    simp only [Act.put, List.setIfInBounds_toArray, List.set_cons_succ, List.set_cons_zero]
    refine wpAnyH_takeD (i := 2) (d := 18) (v := .int .u8 F1) rfl rfl (by kernel_rfl) (by kernel_rfl) (by kernel_rfl) (fun _ _ _ h => h) (Or.inl ⟨by rfl, fun W hW => by obtain ⟨k1, k2, k3, k4⟩ := HC.out W hW; go_simp⟩) hs ?_
    simp only [Act.put, List.setIfInBounds_toArray, List.set_cons_succ, List.set_cons_zero]
    refine wpAnyH_takeD (i := 3) (d := 19) (v := .int .i64 F1) rfl rfl (by kernel_rfl) (by kernel_rfl) (by kernel_rfl) (fun _ _ _ h => h) (Or.inl ⟨by rfl, fun W hW => by go_simp⟩) hs ?_
    simp only [Act.put, List.setIfInBounds_toArray, List.set_cons_succ, List.set_cons_zero]
    refine wpAnyH_takeD (i := 4) (d := 20) (v := .slice (some ⟨b, off, none⟩) n c) rfl rfl (by kernel_rfl) (by kernel_rfl) (by kernel_rfl) (fun _ _ _ h => h) (Or.inl ⟨by rfl, fun W hW => by go_simp⟩) hs ?_
    simp only [Act.put, List.setIfInBounds_toArray, List.set_cons_succ, List.set_cons_zero]
    refine wpAnyH_takeD (i := 5) (d := 21) (v := .pointer (some ⟨b, off + 2, none⟩)) rfl rfl (by kernel_rfl) (by kernel_rfl) (by kernel_rfl) (fun _ _ _ h => h) (Or.inl ⟨by rfl, fun W hW => by obtain ⟨k1, k2, k3, k4⟩ := HC.out W hW; go_simp⟩) hs ?_
    simp only [Act.put, List.setIfInBounds_toArray, List.set_cons_succ, List.set_cons_zero]
    refine wpAnyH_takeD (i := 6) (d := 22) (v := .int .u8 F2) rfl rfl (by kernel_rfl) (by kernel_rfl) (by kernel_rfl) (fun _ _ _ h => h) (Or.inl ⟨by rfl, fun W hW => by obtain ⟨k1, k2, k3, k4⟩ := HC.out W hW; go_simp⟩) hs ?_
    simp only [Act.put, List.setIfInBounds_toArray, List.set_cons_succ, List.set_cons_zero]
    refine wpAnyH_takeD (i := 7) (d := 23) (v := .int .i64 F2) rfl rfl (by kernel_rfl) (by kernel_rfl) (by kernel_rfl) (fun _ _ _ h => h) (Or.inl ⟨by rfl, fun W hW => by go_simp⟩) hs ?_
    simp only [Act.put, List.setIfInBounds_toArray, List.set_cons_succ, List.set_cons_zero]
    refine wpAnyH_takeD (i := 8) (d := 24) (v := .int .i64 (F2 - 128)) rfl rfl (by kernel_rfl) (by kernel_rfl) (by kernel_rfl) (fun _ _ _ h => h) (Or.inl ⟨by rfl, fun W hW => by go_simp⟩) hs ?_
    simp only [Act.put, List.setIfInBounds_toArray, List.set_cons_succ, List.set_cons_zero]
    refine wpAnyH_takeD (i := 9) (d := 25) (v := .slice (some ⟨b, off, none⟩) n c) rfl rfl (by kernel_rfl) (by kernel_rfl) (by kernel_rfl) (fun _ _ _ h => h) (Or.inl ⟨by rfl, fun W hW => by go_simp⟩) hs ?_
    simp only [Act.put, List.setIfInBounds_toArray, List.set_cons_succ, List.set_cons_zero]
    refine wpAnyH_takeD (i := 10) (d := 26) (v := .pointer (some ⟨b, off + 3, none⟩)) rfl rfl (by kernel_rfl) (by kernel_rfl) (by kernel_rfl) (fun _ _ _ h => h) (Or.inl ⟨by rfl, fun W hW => by obtain ⟨k1, k2, k3, k4⟩ := HC.out W hW; go_simp⟩) hs ?_
    simp only [Act.put, List.setIfInBounds_toArray, List.set_cons_succ, List.set_cons_zero]
    refine wpAnyH_takeD (i := 11) (d := 27) (v := .int .u8 F3) rfl rfl (by kernel_rfl) (by kernel_rfl) (by kernel_rfl) (fun _ _ _ h => h) (Or.inl ⟨by rfl, fun W hW => by obtain ⟨k1, k2, k3, k4⟩ := HC.out W hW; go_simp⟩) hs ?_
    simp only [Act.put, List.setIfInBounds_toArray, List.set_cons_succ, List.set_cons_zero]
    refine wpAnyH_takeD (i := 12) (d := 28) (v := .bool T3) rfl rfl (by kernel_rfl) (by kernel_rfl) (by kernel_rfl) (fun _ _ _ h => h) (Or.inl ⟨by rfl, fun W hW => by go_simp⟩) hs ?_
    simp only [Act.put, List.setIfInBounds_toArray, List.set_cons_succ, List.set_cons_zero]
    refine wpAnyH_takeD (i := 13) (d := 29) (v := .slice (some ⟨b, off, none⟩) n c) rfl rfl (by kernel_rfl) (by kernel_rfl) (by kernel_rfl) (fun _ _ _ h => h) (Or.inl ⟨by rfl, fun W hW => by go_simp⟩) hs ?_
    simp only [Act.put, List.setIfInBounds_toArray, List.set_cons_succ, List.set_cons_zero]
    refine wpAnyH_takeD (i := 14) (d := 30) (v := .pointer (some ⟨b, off + 4, none⟩)) rfl rfl (by kernel_rfl) (by kernel_rfl) (by kernel_rfl) (fun _ _ _ h => h) (Or.inl ⟨by rfl, fun W hW => by obtain ⟨k1, k2, k3, k4⟩ := HC.out W hW; go_simp⟩) hs ?_
    simp only [Act.put, List.setIfInBounds_toArray, List.set_cons_succ, List.set_cons_zero]
    refine wpAnyH_takeD (i := 15) (d := 31) (v := .int .u8 F4) rfl rfl (by kernel_rfl) (by kernel_rfl) (by kernel_rfl) (fun _ _ _ h => h) (Or.inl ⟨by rfl, fun W hW => by obtain ⟨k1, k2, k3, k4⟩ := HC.out W hW; go_simp⟩) hs ?_
    simp only [Act.put, List.setIfInBounds_toArray, List.set_cons_succ, List.set_cons_zero]
    refine wpAnyH_takeD (i := 16) (d := 32) (v := .int .i64 F4) rfl rfl (by kernel_rfl) (by kernel_rfl) (by kernel_rfl) (fun _ _ _ h => h) (Or.inl ⟨by rfl, fun W hW => by go_simp⟩) hs ?_
    simp only [Act.put, List.setIfInBounds_toArray, List.set_cons_succ, List.set_cons_zero]
    refine wpAnyH_takeD (i := 17) (d := 33) (v := .slice (some ⟨b, off, none⟩) n c) rfl rfl (by kernel_rfl) (by kernel_rfl) (by kernel_rfl) (fun _ _ _ h => h) (Or.inl ⟨by rfl, fun W hW => by go_simp⟩) hs ?_
    simp only [Act.put, List.setIfInBounds_toArray, List.set_cons_succ, List.set_cons_zero]
    refine wpAnyH_takeD (i := 18) (d := 34) (v := .slice A6 (n - 6) (c - 6)) rfl rfl (by kernel_rfl) (by kernel_rfl) (by kernel_rfl) (fun _ _ _ h => h) (Or.inl ⟨by rfl, fun W hW => by go_simp⟩) hs ?_
    simp only [Act.put, List.setIfInBounds_toArray, List.set_cons_succ, List.set_cons_zero]
    refine wpAnyH_ready (rs := [19, 21]) (by kernel_rfl) (by simp) (AllReadyH.cons rfl (fun K hK => ?_) (AllReadyH.cons rfl (fun K hK => ?_) AllReadyH.nil))
    · go_simp
      go_at_call 30
      refine (HTk.out _ hs).mono ?_; rintro e w5 ⟨M, tb, tq, rfl, t1, t2, t3, t4, t5, t6⟩
      go_wp2_with fail
      refine hK.out _ _ (hs.trans t6) (fun hs => ?_)
      clear hK K
      have tM : TakM X w5 tb tq M := ⟨t1, t3, fun z hz => (t4 z hz).2, t6⟩
      refine wpAnyH_takeD (i := 20) (d := 36) (v := .agg #[.int .i64 F1, .int .i64 (F2 - 128), .bool T3, .int .i64 F4, .slice tb (List.length M) tq]) rfl rfl (by kernel_rfl) (by kernel_rfl) (by kernel_rfl) (fun _ _ _ h => h) (Or.inl ⟨by rfl, fun W hW => by go_simp⟩) hs ?_
      simp only [Act.put, List.setIfInBounds_toArray, List.set_cons_succ, List.set_cons_zero]
      refine wpAnyH_ready (rs := [21]) (by kernel_rfl) (by simp) (AllReadyH.cons rfl (fun K hK => ?_) AllReadyH.nil)
      go_simp
      refine hK.out _ _ (hs.trans (Ext.alloc _ _)) (fun hs => ?_)
      clear hK K
      have gz := heap_alloc_new w5 (.cells #[.int .i64 0, .int .i64 0, .bool false, .int .i64 0, .slice none 0 0] 24)
      obtain ⟨g, hg⟩ : ∃ g, g = w5.heap.size := ⟨_, rfl⟩
      rw [← hg] at gz
      have ho := tM.below (g := g) (by rw [hg]; exact Nat.le_refl _)
      have tM := TakM.ext tM (Ext.alloc w5 (.cells #[.int .i64 0, .int .i64 0, .bool false, .int .i64 0, .slice none 0 0] 24))
      have lg : W0.heap.size ≤ g := by rw [hg]; exact (HXX.out.trans t6).size
      simp only [← hg]
      have HGg := Lib.hid hg
      clear hg
      refine wpAnyH_ready (rs := [22]) (by kernel_rfl) (by simp) (AllReadyH.cons rfl (fun K hK => ?_) AllReadyH.nil)
      refine step_store_row rfl 24 (.tmp 4) (.tmp 36) rfl g #[.int .i64 F1, .int .i64 (F2 - 128), .bool T3, .int .i64 F4, .slice tb (List.length M) tq] (by rfl) (by rfl) 24 #[.int .i64 0, .int .i64 0, .bool false, .int .i64 0, .slice none 0 0] gz (by kernel_rfl) rfl (by simp [Value.oneCell']) rfl ?_
      refine hK.out _ _ (below_setRow hs lg _) (fun hs => ?_)
      clear hK K
      simp only [Act.put]
      refine wpAnyH_done (by kernel_rfl) ?_ _
      go_wp2_with fail
      go_meet
      exact read_mid gz ho (tM.base HXX.out) t2 (fun z hz => (t4 z hz).1) t5 lg hs
    · go_simp
      refine hK.out _ _ (hs.trans (Ext.alloc _ _)) (fun hs => ?_)
      clear hK K
      have gz := heap_alloc_new X (.cells #[.int .i64 0, .int .i64 0, .bool false, .int .i64 0, .slice none 0 0] 24)
      obtain ⟨g, hg⟩ : ∃ g, g = X.heap.size := ⟨_, rfl⟩
      rw [← hg] at gz
      have lg : W0.heap.size ≤ g := by rw [hg]; exact HXX.out.size
      simp only [← hg]
      have HGg := Lib.hid hg
      clear hg
      refine wpAnyH_ready (rs := [19]) (by kernel_rfl) (by simp) (AllReadyH.cons rfl (fun K hK => ?_) AllReadyH.nil)
      go_simp
      go_at_call 30
      refine (HTk.out _ hs).mono ?_; rintro e w5 ⟨M, tb, tq, rfl, t1, t2, t3, t4, t5, t6⟩
      go_wp2_with fail
      refine hK.out _ _ (hs.trans t6) (fun hs => ?_)
      clear hK K
      have gz := t6.block gz
      have tM : TakM (X.alloc (.cells #[.int .i64 0, .int .i64 0, .bool false, .int .i64 0, .slice none 0 0] 24)) w5 tb tq M := ⟨t1, t3, fun z hz => (t4 z hz).2, t6⟩
      have ho := tM.above (g := g) (by rw [HGg.out, World.size_alloc]; omega)
      have tM := tM.base (Ext.alloc X (.cells #[.int .i64 0, .int .i64 0, .bool false, .int .i64 0, .slice none 0 0] 24))
      refine wpAnyH_takeD (i := 20) (d := 36) (v := .agg #[.int .i64 F1, .int .i64 (F2 - 128), .bool T3, .int .i64 F4, .slice tb (List.length M) tq]) rfl rfl (by kernel_rfl) (by kernel_rfl) (by kernel_rfl) (fun _ _ _ h => h) (Or.inl ⟨by rfl, fun W hW => by go_simp⟩) hs ?_
      simp only [Act.put, List.setIfInBounds_toArray, List.set_cons_succ, List.set_cons_zero]
      refine wpAnyH_ready (rs := [22]) (by kernel_rfl) (by simp) (AllReadyH.cons rfl (fun K hK => ?_) AllReadyH.nil)
      refine step_store_row rfl 24 (.tmp 4) (.tmp 36) rfl g #[.int .i64 F1, .int .i64 (F2 - 128), .bool T3, .int .i64 F4, .slice tb (List.length M) tq] (by rfl) (by rfl) 24 #[.int .i64 0, .int .i64 0, .bool false, .int .i64 0, .slice none 0 0] gz (by kernel_rfl) rfl (by simp [Value.oneCell']) rfl ?_
      refine hK.out _ _ (below_setRow hs lg _) (fun hs => ?_)
      clear hK K
      simp only [Act.put]
      refine wpAnyH_done (by kernel_rfl) ?_ _
      go_wp2_with fail
      go_meet
      exact read_mid gz ho (tM.base HXX.out) t2 (fun z hz => (t4 z hz).1) t5 lg hs
    -- END REGION
  case rest =>
    obtain ⟨g, tb, tq, M, W3, rfl, hwc, gz, tM, sM, m1, m2, lg⟩ := hcut
    rw [hwc]
    clear hwc hX hs HXX HTk u1 u2 u4 u5 n1 n2 n3 n4 g7 g8 g9
    obtain ⟨P, hP⟩ : ∃ P : Prt, P = ⟨F1, F2 - 128, T3, F4, M⟩ := ⟨_, rfl⟩
    rw [← hP] at gz
    have hPL : P.L = M := by rw [hP]
    have hsP : sameP P (partP l) = true := by rw [hP, HP.out.2.2, HP.out.1]; exact sameP_iff.2 ⟨rfl, rfl, rfl, rfl, sM⟩
    have hPat : PrtAt W3 P tb M.length tq := by
      obtain ⟨b1, b2, b4⟩ := HBD.out
      rw [hP]
      refine ⟨tM.o, ?_, ?_, ?_⟩ <;> (simp [Lit.wf, IntKind.min, IntKind.max, IntKind.signed, IntKind.bits]; omega)
    have hfL : ObjF P.L := by rw [hPL]; exact ⟨by have := HI.out.2.1; omega, fun z hz => by have := m1 z hz; omega⟩
    have HWr := Lib.hid (write_f P tb M.length tq W3 hPat hfL)
    have HNO : Hid (rightP P = false ∨ sayP P ≠ l → readP l = none) := Lib.hid (fun h => by
      unfold readP
      rw [if_neg]
      rintro ⟨-, -, h3, h4⟩
      rcases h with h | h
      · rw [right_same hsP, h3] at h; cases h
      · exact h (by rw [say_same hsP]; exact h4))
    have HYES : Hid (rightP P = true → sayP P = l → readP l = some (partP l)) := Lib.hid (fun h1 h2 => by
      unfold readP
      rw [if_pos]
      have h1' := h1
      rw [right_same hsP] at h1'
      refine ⟨?_, ?_, h1', by rw [← say_same hsP]; exact h2⟩
      · rw [← h2, sayP_len]; omega
      · obtain ⟨-, ⟨-, -, h3, -⟩, -⟩ := rightP_iff.1 h1
        have e : P.lv = F2 - 128 := by rw [hP]
        rw [HP.out.2.1]; omega)
    have HFin := Lib.hid (And.intro hsP (And.intro hPat (And.intro hfL (And.intro hPL (And.intro tM.f (And.intro tM.fz (And.intro tM.x0 lg)))))))
    have HGz := Lib.hid gz
    have HRR := Lib.hid (tM.x0.block HR0.out)
    clear hP sM m1 m2 hsP hPat hfL tM lg hPL
    go_wp2_with (refine wpList_load_row rfl 24 (.tmp 4) rfl g rfl 24 (prC P tb M.length tq) (0, 0) _ gz Try.underlying24 rfl (by kernel_rfl) ?_)
    clear gz
    refine HWr.out.mono ?_; rintro e w9 ⟨wb, wq, rfl, h9, l9, m9, f9, x9⟩
    have HX9 := Lib.hid x9
    have hr := wrK P
    cases hR : rightP P with
    | false =>
      have hk : wrK P = 0 := by unfold wrK; rw [hR]; rfl
      have he : wrE P = 11 := by unfold wrE; rw [hR]; rfl
      rw [hk, he]
      have HN := Lib.hid (HNO.out (.inl hR))
      have g10 := x9.block HRR.out
      clear h9 l9 m9 f9 x9 hk he hR hr
      go_wp2_with (refine wpList_store_row rfl 24 (.tmp 2) (.tmp 50) rfl w.heap.size #[.int .i64 0, .int .i64 0, .bool false, .int .i64 0, .slice none 0 0] rfl rfl 24 #[.int .i64 0, .int .i64 0, .bool false, .int .i64 0, .slice none 0 0] g10 (by kernel_rfl) rfl (by simp [Value.oneCell']) ?_)
      refine bodyPost_ret (results_row_tmp rfl _ _ w.heap.size 24 _ (0, 0) _ rfl (setRow_heap _ _ _ _ _ _ g10) Try.underlying24 rfl (by kernel_rfl)) rfl ?_
      exact reaF_no HN.out (below_setRow (HX.out.trans (HFin.out.2.2.2.2.2.2.1.trans HX9.out)) (Nat.le_refl _) _)
    | true =>
      have hk : wrK P = 6 + lenO P.L := by unfold wrK; rw [hR]; rfl
      have he : wrE P = 0 := by unfold wrE; rw [hR]; rfl
      rw [hk, he]
      rw [hk] at h9 l9
      have hbd := say_bd hR (fun z hz => (HFin.out.2.1.o.each z (HFin.out.2.2.2.1 ▸ hz)).b)
      have hEq : eqB (6 + lenO P.L) n (ofL (sayP P)) f = true ↔ sayP P = l := by
        rw [eqB_iff]
        constructor
        · rintro ⟨h1, h2⟩
          rw [HI.out.2.2.2]
          apply List.ext_getElem?
          intro i
          by_cases hi : i < n
          · rw [List.getElem?_map, List.getElem?_range hi, List.getElem?_eq_getElem (by rw [sayP_len]; omega)]
            have := h2 i (by omega)
            unfold ofL at this
            rw [List.getD_eq_getElem?_getD, List.getElem?_eq_getElem (by rw [sayP_len]; omega)] at this
            simpa using this
          · rw [List.getElem?_eq_none (by rw [sayP_len]; omega), List.getElem?_eq_none (by simp; omega)]
        · intro h
          have hl := congrArg List.length h
          rw [sayP_len, HP.out.1] at hl
          refine ⟨hl, fun i hi => ?_⟩
          rw [h, HI.out.2.2.2]
          exact ofL_range n f i (by omega)
      have KB := Lib.hid (equal_any wb (some ⟨b, off, none⟩) (6 + lenO P.L) n wq c (ofL (sayP P)) f w9 h9 (HI.out.1.ext (HFin.out.2.2.2.2.2.2.1.trans HX9.out)) hbd HI.out.2.2.1)
      have HEQ := Lib.hid hEq
      have HR := Lib.hid hR
      have HG9 := Lib.hid (x9.block HGz.out)
      have g10 := x9.block HRR.out
      clear h9 l9 m9 f9 x9 hk he hR hr hbd hEq
      cases hT : eqB (6 + lenO P.L) n (ofL (sayP P)) f with
      | false =>
        rw [hT] at KB
        have HN := Lib.hid (HNO.out (.inr (fun h => by have := HEQ.out.2 h; rw [hT] at this; cases this)))
        clear hT
        go_wp2_with fail
        refine KB.out.mono ?_; rintro e w10 ⟨rfl, hw10⟩
        rw [← hw10]
        clear hw10
        go_wp2_with (refine wpList_store_row rfl 24 (.tmp 2) (.tmp 50) rfl w.heap.size #[.int .i64 0, .int .i64 0, .bool false, .int .i64 0, .slice none 0 0] rfl rfl 24 #[.int .i64 0, .int .i64 0, .bool false, .int .i64 0, .slice none 0 0] g10 (by kernel_rfl) rfl (by simp [Value.oneCell']) ?_)
        refine bodyPost_ret (results_row_tmp rfl _ _ w.heap.size 24 _ (0, 0) _ rfl (setRow_heap _ _ _ _ _ _ g10) Try.underlying24 rfl (by kernel_rfl)) rfl ?_
        exact reaF_no HN.out (below_setRow (HX.out.trans (HFin.out.2.2.2.2.2.2.1.trans HX9.out)) (Nat.le_refl _) _)
      | true =>
        rw [hT] at KB
        have HY := Lib.hid (HYES.out HR.out (HEQ.out.1 hT))
        have gb := HG9.out
        clear hT
        go_wp2_with fail
        refine KB.out.mono ?_; rintro e w10 ⟨rfl, hw10⟩
        rw [← hw10]
        clear hw10
        go_wp2_with (first
          | (refine wpList_load_row rfl 24 (.tmp 4) rfl g rfl 24 (prC P tb M.length tq) (0, 0) _ gb Try.underlying24 rfl (by kernel_rfl) ?_)
          | (refine wpList_store_row rfl 24 (.tmp 2) (.tmp 51) rfl w.heap.size (prC P tb M.length tq) rfl rfl 24 #[.int .i64 0, .int .i64 0, .bool false, .int .i64 0, .slice none 0 0] g10 (by kernel_rfl) rfl (by simp [prC, Value.oneCell']) ?_))
        refine bodyPost_ret (results_row_tmp rfl _ _ w.heap.size 24 _ (0, 0) _ rfl (setRow_heap _ _ _ _ _ _ g10) Try.underlying24 rfl (by kernel_rfl)) rfl ?_
        obtain ⟨hsP, hPat, hfL, hPL, hf, hfz, hx0, hlg⟩ := HFin.out
        have hlB : w.heap.size < W0.heap.size := heap_lt HR0.out
        refine ⟨P, tb, M.length, tq, by unfold rdI; rw [HY.out]; rfl, ⟨?_, hPat.wc, hPat.wl, hPat.wn⟩, hfL, by rw [HY.out]; exact hsP, fun p hp => by have := hf p hp; omega, fun z hz hn => .inl (fun p hp => by have := hfz z (hPL ▸ hz) hn p hp; omega), below_setRow (HX.out.trans (hx0.trans HX9.out)) (Nat.le_refl _) _⟩
        exact (hPat.o.ext HX9.out).keepO (keep_setRow _ _ _) ⟨fun _ p hp => by have := hf p hp; omega, fun z hz hn p hp => by have := hfz z (hPL ▸ hz) hn p hp; omega⟩
theorem read_f (a : Option Addr) (n c : Nat) (f : Nat → Int) (w : World) (ha : Holds .u8 w a n f) (hnc : n ≤ c) (hcm : c ≤ maxLen) (hf : ∀ i, i < n → 0 ≤ f i ∧ f i < 256) : Calls Try.prog 12 #[.slice a n c] w (ReaF a ((List.range n).map f) w) := by
  by_cases h : n < 6 ∨ 252 < n
  · exact read_short a n c f w h
  · exact read_long a n c f w ha hnc hcm hf (by omega) (by omega)
end Go.Proofs.Ythdkhdbabohohaa
