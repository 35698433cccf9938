/-
  CONTRACTS: bilgeref21 (layer 21): Read, the walk.
-/
import Derived.Test.YthdkhdbabohohaaIdeS
import Derived.Laws.CopyOwn
namespace Go.Proofs.Ythdkhdbabohohaa
open Go.RowKit
set_option linter.unusedVariables false
set_option maxRecDepth 100000

/-- append of one element out of a block that was made just ahead, as a step; what grows is told. -/
theorem step_append_elO {P : Program} {w : World} {α : Type} {sz : Nat} {mk : α → List Value} {ops : Array Oper} {o : Oper} {a : Act} {K : Act → World → Prop} {Q : Exit → Act → World → Prop} {E : Prop} (hgd : o.guard = none) (s x : Operand) (t : TypeId)
    (ho : o.op = .call { callee := .builtin .append, args := #[s, x], argTypes := #[t, t] })
    (base : Nat) (e : TypeId) (i : TypeInfo) (z : Value) (bytes : Nat) (ht : P.underlying t = some (.slice e)) (hi : P.info? e = some i) (hz : i.zero = some z)
    (hsize : i.size = sz) (hby : i.bytes = bytes) (hzs : z.cells.size = sz) (hsz : 0 < sz)
    (v : Value) (n : Nat) (L : List α) (hs : a.eval s = v) (hown : w.ownsRow base e sz v n (L.flatMap mk))
    (b : Nat) (cs : Array Value) (t' : TypeId) (fr : Nat × Nat) (y : α) (hx : a.eval x = .slice (some ⟨b, 0, none⟩) 1 1) (hb : w.heap[b]? = some (.cells cs t' fr)) (hcs : cs.toList = mk y) (hl : (mk y).length = sz) (h1 : ∀ u ∈ mk y, u.oneCell' = true)
    (h63 : n + 1 ≤ maxLen) (hbytes : (n + 1) * bytes ≤ 140737488355328) (hbase : base ≤ w.heap.size) (d : Tmp) (hd : o.dst = some d)
    (h : ∀ g cap w', w'.ownsRow base e sz (.slice (some ⟨g, 0, none⟩) (n + 1) cap) (n + 1) ((L ++ [y]).flatMap mk) → w.grownBy w' v.ownBlock → (v.ownBlock = some g ∨ g = w.heap.size) → K (a.put (some d) (.slice (some ⟨g, 0, none⟩) (n + 1) cap)) w') :
    if Region.wanted o (yielded ops a.tmps) = true then Oper.wp P o a w K Q else E := by
  refine step_append_lies w hgd s x t ho base e i z sz bytes ht hi hz hsize hby hzs hsz v n (L.flatMap mk) hs hown ⟨b, 0, none⟩ 1 1 (mk y) hx (by omega) ?_ h1 (by omega) h63 hbytes hbase w.heap.size rfl ?_
  · intro j u hu
    have e1 : (⟨b, 0, none⟩ : Addr).add j = ⟨b, j, none⟩ := by unfold Addr.add; split <;> simp_all
    rw [e1, cell_of_row w b j cs t' fr hb, ← Array.getElem?_toList, hcs]; exact hu
  · intro g cap w' h2 h3 h4 _
    rw [hd]
    exact h _ _ _ (by simpa using h2) h3 h4
theorem ReaM.at2 {w wr : World} {B G : Nat} {co lv : Int} {mo : Bool} {nx : Int} {v : Value} {M : List Ob} (h : ReaM w wr B G co lv mo nx v M) : ∃ a c, v = .slice a M.length c ∧ ObjsAt wr a M.length c M ∧ (∀ p, a = some p → B ≤ p.block) ∧ ∀ z ∈ M, z.n ≠ 0 → ∀ p, z.a = some p → B ≤ p.block := by
  obtain ⟨a, c, hv, h1, h2, h3, h4⟩ := HoldsL.of_own obL_length h.own rfl
  exact ⟨a, c, hv, ⟨rfl, h3, h1, h2, fun z hz => (h.each z hz).at_⟩, h4, fun z hz hn p hp => ((h.each z hz).off hn p hp).1⟩
theorem ObjsAt.keep1 {w w' : World} {a : Option Addr} {n c : Nat} {L : List Ob} {r : Nat} (h : ObjsAt w a n c L) (k : Keep (fun i => i = r) w w') (ha : ∀ p, a = some p → p.block ≠ r) (hz : ∀ z ∈ L, z.n ≠ 0 → ∀ p, z.a = some p → p.block ≠ r) : ObjsAt w' a n c L := by
  refine ⟨h.len, h.h.keep k (fun p hp e => ha p hp e), h.l, h.m, fun z hz' => ?_⟩
  have e := h.each z hz'
  refine ⟨?_, e.l, e.m, e.s, e.b, e.wi⟩
  by_cases hn : z.n = 0
  · exact .inl hn
  · exact e.h.keep k (fun p hp e => hz z hz' hn p hp e)
def slLen : Value → Nat
  | .slice _ n _ => n
  | _ => 0
def zPr : Array Value := #[.int .i64 0, .int .i64 0, .bool false, .int .i64 0, .slice none 0 0]
/-- What Read tells. -/
def ReaP (l : List Int) (w : World) (e : Ending) (w' : World) : Prop := ∃ P b m q, e = .returned (.tuple #[.agg (prC P b m q), .bool (readP l).isSome]) ∧ PrtAt w' P b m q ∧ ObjF P.L ∧ sameP P ((readP l).getD zeroPr) = true ∧ Ext w w'
theorem reaP_no {l : List Int} {w w' : World} (h : readP l = none) (x : Ext w w') : ReaP l w (.returned (.tuple #[.agg #[.int .i64 0, .int .i64 0, .bool false, .int .i64 0, .slice none 0 0], .bool false])) w' := by
  refine ⟨zeroPr, none, 0, 0, by rw [h]; rfl, ⟨ObjsAt.nil w', by decide, by decide, by decide⟩, ⟨Nat.zero_le _, fun z hz => by cases hz⟩, by rw [h]; exact sameP_refl _, x⟩
set_option maxHeartbeats 8000000 in
theorem rread21_short (a : Option Addr) (n c : Nat) (f : Nat → Int) (w : World) (ha : Holds .u8 w a n f) (hn : n ≤ 600) (hf : ∀ i, i < n → 0 ≤ f i ∧ f i < 256) (hs : n < 6 ∨ f 2 < 128) :
    Calls Try.prog 13 #[.slice a n c] w (ReaP ((List.range n).map f) w) := by
  have hno : readP ((List.range n).map f) = none := by
    unfold readP
    rw [if_neg]
    rintro ⟨h1, h2, -⟩
    rw [List.length_map, List.length_range] at h1
    rw [ofL_range n f 2 (by omega)] at h2
    omega
  have HNO := Lib.hid hno
  have x0 := Ext.alloc w (.cells #[.int .i64 0, .int .i64 0, .bool false, .int .i64 0, .slice none 0 0] 33)
  have gR := heap_alloc_new w (.cells #[.int .i64 0, .int .i64 0, .bool false, .int .i64 0, .slice none 0 0] 33)
  have HX := Lib.hid x0
  clear hno
  by_cases h6 : n < 6
  · have h6' : (n : Int) < 6 := by omega
    clear hs ha hf hn h6 x0
    go_enter Try.func13, Try.ntmps13
    go_wp2
    refine bodyPost_ret (results_row_tmp rfl _ _ w.heap.size 33 _ (0, 0) _ rfl gR Try.underlying33 rfl (by kernel_rfl)) rfl ?_
    exact reaP_no HNO.out HX.out
  · have h2 := hs.resolve_left h6
    have h6' : ¬ (n : Int) < 6 := by omega
    have hn2 : (2 : Int) < n := by omega
    obtain ⟨b, off, rfl, hlt, hc⟩ := ha.resolve_left (by omega)
    have c2 := x0.cell hlt (hc 2 (by omega))
    obtain ⟨F2, hF2⟩ : ∃ F2, f 2 = F2 := ⟨_, rfl⟩
    rw [hF2] at c2 h2
    clear hs ha hf hn h6 x0 hc hF2
    go_enter Try.func13, Try.ntmps13
    go_wp2
    refine bodyPost_ret (results_row_tmp rfl _ _ w.heap.size 33 _ (0, 0) _ rfl gR Try.underlying33 rfl (by kernel_rfl)) rfl ?_
    exact reaP_no HNO.out HX.out
set_option maxHeartbeats 16000000 in
theorem rread21_long (a : Option Addr) (n c : Nat) (f : Nat → Int) (w : World) (ha : Holds .u8 w a n f) (hn : n ≤ 600) (hnc : n ≤ c) (hcm : c ≤ maxLen) (hf : ∀ i, i < n → 0 ≤ f i ∧ f i < 256) (h6 : 6 ≤ n) (h2 : 128 ≤ f 2) :
    Calls Try.prog 13 #[.slice a n c] w (ReaP ((List.range n).map f) w) := by
  obtain ⟨i8, hi8, hz80, hz81, hz82⟩ := info_parts Try.info8i
  obtain ⟨io, hio, ho0, ho1, ho2⟩ := info_parts Try.infoOb
  obtain ⟨W0, hW0, x0, HR0⟩ : ∃ W0, W0 = w.alloc (.cells #[.int .i64 0, .int .i64 0, .bool false, .int .i64 0, .slice none 0 0] 33) ∧ Ext w W0 ∧ Hid (W0.heap[w.heap.size]? = some (.cells #[.int .i64 0, .int .i64 0, .bool false, .int .i64 0, .slice none 0 0] 33 (0, 0))) := ⟨_, rfl, Ext.alloc _ _, Lib.hid (heap_alloc_new _ _)⟩
  have hA0 := ha.ext x0
  obtain ⟨b, off, rfl, hlt, hc⟩ := hA0.resolve_left (by omega)
  have k2 : W0.cell? ⟨b, off + 2, none⟩ = some (.int .u8 (f 2)) := hc 2 (by omega)
  have HC := Lib.hid (fun W (x : Ext W0 W) => (⟨x.cell hlt (hc 1 (by omega)), x.cell hlt (hc 2 (by omega)), x.cell hlt (hc 3 (by omega)), x.cell hlt (hc 4 (by omega))⟩ :
    W.cell? ⟨b, off + 1, none⟩ = some (.int .u8 (f 1)) ∧ W.cell? ⟨b, off + 2, none⟩ = some (.int .u8 (f 2)) ∧ W.cell? ⟨b, off + 3, none⟩ = some (.int .u8 (f 3)) ∧ W.cell? ⟨b, off + 4, none⟩ = some (.int .u8 (f 4))))
  obtain ⟨l, hl⟩ : ∃ l, l = (List.range n).map f := ⟨_, rfl⟩
  have hll : l.length = n := by rw [hl]; simp
  have hof : ∀ i, i < n → ofL l i = f i := fun i hi => by rw [hl]; exact ofL_range n f i hi
  rw [← hl]
  obtain ⟨F1, hF1⟩ : ∃ F1, f 1 = F1 := ⟨_, rfl⟩
  obtain ⟨F2, hF2⟩ : ∃ F2, f 2 = F2 := ⟨_, rfl⟩
  obtain ⟨F3, hF3⟩ : ∃ F3, f 3 = F3 := ⟨_, rfl⟩
  obtain ⟨F4, hF4⟩ : ∃ F4, f 4 = F4 := ⟨_, rfl⟩
  obtain ⟨T3, hT3⟩ : ∃ T3, (F3 == 255) = T3 := ⟨_, rfl⟩
  have b1 := hf 1 (by omega)
  have b2 := hf 2 (by omega)
  have b4 := hf 4 (by omega)
  rw [hF1] at b1
  rw [hF2] at b2 h2 k2
  rw [hF4] at b4
  rw [hF1, hF2, hF3, hF4] at HC
  have HP : Hid (6 ≤ l.length ∧ 128 ≤ ofL l 2 ∧ partP l = ⟨F1, F2 - 128, T3, F4, parI l.length (l.drop 6)⟩) := Lib.hid ⟨by omega, by rw [hof 2 (by omega), hF2]; exact h2, by
    unfold partP
    rw [hof 1 (by omega), hof 2 (by omega), hof 3 (by omega), hof 4 (by omega), hF1, hF2, hF3, hF4, ← hT3]
    congr 1⟩
  have u1 : IntKind.i64.wrap F1 = F1 := IntWalk.i64_in _ (by omega)
  have u2 : IntKind.i64.wrap F2 = F2 := IntWalk.i64_in _ (by omega)
  have u4 : IntKind.i64.wrap F4 = F4 := IntWalk.i64_in _ (by omega)
  have u5 : IntKind.i64.wrap (F2 - 128) = F2 - 128 := IntWalk.i64_in _ (by omega)
  have g2 : ¬ F2 < 128 := by omega
  have g6 : ¬ (n : Int) < 6 := by omega
  have n1 : (1 : Int) < n := by omega
  have n2 : (2 : Int) < n := by omega
  have n3 : (3 : Int) < n := by omega
  have n4 : (4 : Int) < n := by omega
  have HI := Lib.hid (And.intro (Holds.ext ha x0) (And.intro hn (And.intro hnc (And.intro hcm (And.intro hf (And.intro h6 (And.intro hll hof)))))))
  have HX := Lib.hid x0
  have HBD := Lib.hid (And.intro b1 (And.intro b2 b4))
  clear ha hn hnc hcm hf h6 hA0 hc hlt hl hll hof hF1 hF2 hF3 hF4 b1 b2 b4 h2 x0
  go_enter Try.func13, Try.ntmps13
  go_upto_region 1 with fail
  rw [← hW0]
  clear hW0
  go_upto_region 3 with fail
  obtain ⟨X, hX⟩ : ∃ X, X = W0.drew := ⟨_, rfl⟩
  have hs : Ext W0 X := by rw [hX]; exact Ext.drew _
  have hXl : W0.heap.size ≤ X.heap.size := hs.size
  refine wp_region_held_drew (S := fun W => Ext W0 W) (by kernel_rfl) (by rw [← hX]; exact hs) (fun _ => ?_)
  rw [← hX]
  clear hX
  refine wpAnyH_takeD (i := 0) (d := 19) (v := .slice (some ⟨b, off, none⟩) n c) rfl rfl (by kernel_rfl) (by kernel_rfl) (by kernel_rfl) (fun _ _ _ h => h) (Or.inl ⟨by rfl, fun W hW => by go_simp⟩) hs ?_
  simp only [Act.put, List.setIfInBounds_toArray, List.set_cons_succ, List.set_cons_zero]
  refine wpAnyH_takeD (i := 1) (d := 20) (v := .pointer (some ⟨b, off + 1, none⟩)) rfl rfl (by kernel_rfl) (by kernel_rfl) (by kernel_rfl) (fun _ _ _ h => h) (Or.inl ⟨by rfl, fun W hW => by obtain ⟨k1, k2, k3, k4⟩ := HC.out W hW; go_simp⟩) hs ?_
  simp only [Act.put, List.setIfInBounds_toArray, List.set_cons_succ, List.set_cons_zero]
  refine wpAnyH_takeD (i := 2) (d := 21) (v := .int .u8 F1) rfl rfl (by kernel_rfl) (by kernel_rfl) (by kernel_rfl) (fun _ _ _ h => h) (Or.inl ⟨by rfl, fun W hW => by obtain ⟨k1, k2, k3, k4⟩ := HC.out W hW; go_simp⟩) hs ?_
  simp only [Act.put, List.setIfInBounds_toArray, List.set_cons_succ, List.set_cons_zero]
  refine wpAnyH_takeD (i := 3) (d := 22) (v := .int .i64 F1) rfl rfl (by kernel_rfl) (by kernel_rfl) (by kernel_rfl) (fun _ _ _ h => h) (Or.inl ⟨by rfl, fun W hW => by go_simp⟩) hs ?_
  simp only [Act.put, List.setIfInBounds_toArray, List.set_cons_succ, List.set_cons_zero]
  refine wpAnyH_takeD (i := 4) (d := 23) (v := .slice (some ⟨b, off, none⟩) n c) rfl rfl (by kernel_rfl) (by kernel_rfl) (by kernel_rfl) (fun _ _ _ h => h) (Or.inl ⟨by rfl, fun W hW => by go_simp⟩) hs ?_
  simp only [Act.put, List.setIfInBounds_toArray, List.set_cons_succ, List.set_cons_zero]
  refine wpAnyH_takeD (i := 5) (d := 24) (v := .pointer (some ⟨b, off + 2, none⟩)) rfl rfl (by kernel_rfl) (by kernel_rfl) (by kernel_rfl) (fun _ _ _ h => h) (Or.inl ⟨by rfl, fun W hW => by obtain ⟨k1, k2, k3, k4⟩ := HC.out W hW; go_simp⟩) hs ?_
  simp only [Act.put, List.setIfInBounds_toArray, List.set_cons_succ, List.set_cons_zero]
  refine wpAnyH_takeD (i := 6) (d := 25) (v := .int .u8 F2) rfl rfl (by kernel_rfl) (by kernel_rfl) (by kernel_rfl) (fun _ _ _ h => h) (Or.inl ⟨by rfl, fun W hW => by obtain ⟨k1, k2, k3, k4⟩ := HC.out W hW; go_simp⟩) hs ?_
  simp only [Act.put, List.setIfInBounds_toArray, List.set_cons_succ, List.set_cons_zero]
  refine wpAnyH_takeD (i := 7) (d := 26) (v := .int .i64 F2) rfl rfl (by kernel_rfl) (by kernel_rfl) (by kernel_rfl) (fun _ _ _ h => h) (Or.inl ⟨by rfl, fun W hW => by go_simp⟩) hs ?_
  simp only [Act.put, List.setIfInBounds_toArray, List.set_cons_succ, List.set_cons_zero]
  refine wpAnyH_takeD (i := 8) (d := 27) (v := .int .i64 (F2 - 128)) rfl rfl (by kernel_rfl) (by kernel_rfl) (by kernel_rfl) (fun _ _ _ h => h) (Or.inl ⟨by rfl, fun W hW => by go_simp⟩) hs ?_
  simp only [Act.put, List.setIfInBounds_toArray, List.set_cons_succ, List.set_cons_zero]
  refine wpAnyH_takeD (i := 9) (d := 28) (v := .slice (some ⟨b, off, none⟩) n c) rfl rfl (by kernel_rfl) (by kernel_rfl) (by kernel_rfl) (fun _ _ _ h => h) (Or.inl ⟨by rfl, fun W hW => by go_simp⟩) hs ?_
  simp only [Act.put, List.setIfInBounds_toArray, List.set_cons_succ, List.set_cons_zero]
  refine wpAnyH_takeD (i := 10) (d := 29) (v := .pointer (some ⟨b, off + 3, none⟩)) rfl rfl (by kernel_rfl) (by kernel_rfl) (by kernel_rfl) (fun _ _ _ h => h) (Or.inl ⟨by rfl, fun W hW => by obtain ⟨k1, k2, k3, k4⟩ := HC.out W hW; go_simp⟩) hs ?_
  simp only [Act.put, List.setIfInBounds_toArray, List.set_cons_succ, List.set_cons_zero]
  refine wpAnyH_takeD (i := 11) (d := 30) (v := .int .u8 F3) rfl rfl (by kernel_rfl) (by kernel_rfl) (by kernel_rfl) (fun _ _ _ h => h) (Or.inl ⟨by rfl, fun W hW => by obtain ⟨k1, k2, k3, k4⟩ := HC.out W hW; go_simp⟩) hs ?_
  simp only [Act.put, List.setIfInBounds_toArray, List.set_cons_succ, List.set_cons_zero]
  refine wpAnyH_takeD (i := 12) (d := 31) (v := .bool T3) rfl rfl (by kernel_rfl) (by kernel_rfl) (by kernel_rfl) (fun _ _ _ h => h) (Or.inl ⟨by rfl, fun W hW => by go_simp⟩) hs ?_
  simp only [Act.put, List.setIfInBounds_toArray, List.set_cons_succ, List.set_cons_zero]
  refine wpAnyH_takeD (i := 13) (d := 32) (v := .slice (some ⟨b, off, none⟩) n c) rfl rfl (by kernel_rfl) (by kernel_rfl) (by kernel_rfl) (fun _ _ _ h => h) (Or.inl ⟨by rfl, fun W hW => by go_simp⟩) hs ?_
  simp only [Act.put, List.setIfInBounds_toArray, List.set_cons_succ, List.set_cons_zero]
  refine wpAnyH_takeD (i := 14) (d := 33) (v := .pointer (some ⟨b, off + 4, none⟩)) rfl rfl (by kernel_rfl) (by kernel_rfl) (by kernel_rfl) (fun _ _ _ h => h) (Or.inl ⟨by rfl, fun W hW => by obtain ⟨k1, k2, k3, k4⟩ := HC.out W hW; go_simp⟩) hs ?_
  simp only [Act.put, List.setIfInBounds_toArray, List.set_cons_succ, List.set_cons_zero]
  refine wpAnyH_takeD (i := 15) (d := 34) (v := .int .u8 F4) rfl rfl (by kernel_rfl) (by kernel_rfl) (by kernel_rfl) (fun _ _ _ h => h) (Or.inl ⟨by rfl, fun W hW => by obtain ⟨k1, k2, k3, k4⟩ := HC.out W hW; go_simp⟩) hs ?_
  simp only [Act.put, List.setIfInBounds_toArray, List.set_cons_succ, List.set_cons_zero]
  refine wpAnyH_takeD (i := 16) (d := 35) (v := .int .i64 F4) rfl rfl (by kernel_rfl) (by kernel_rfl) (by kernel_rfl) (fun _ _ _ h => h) (Or.inl ⟨by rfl, fun W hW => by go_simp⟩) hs ?_
  simp only [Act.put, List.setIfInBounds_toArray, List.set_cons_succ, List.set_cons_zero]
  refine wpAnyH_takeD (i := 17) (d := 36) (v := .agg #[.int .i64 F1, .int .i64 (F2 - 128), .bool T3, .int .i64 F4, .slice none 0 0]) rfl rfl (by kernel_rfl) (by kernel_rfl) (by kernel_rfl) (fun _ _ _ h => h) (Or.inl ⟨by rfl, fun W hW => by go_simp⟩) hs ?_
  simp only [Act.put, List.setIfInBounds_toArray, List.set_cons_succ, List.set_cons_zero]
  refine wpAnyH_ready (rs := [18]) (by kernel_rfl) (by simp) (AllReadyH.cons rfl (fun K hK => ?_) AllReadyH.nil)
  go_simp
  refine hK.out _ _ (hs.trans (Ext.alloc _ _)) (fun hs => ?_)
  clear hK K
  refine wpAnyH_ready (rs := [19]) (by kernel_rfl) (by simp) (AllReadyH.cons rfl (fun K hK => ?_) AllReadyH.nil)
  refine step_store_row rfl 33 (.tmp 4) (.tmp 36) rfl X.heap.size #[.int .i64 F1, .int .i64 (F2 - 128), .bool T3, .int .i64 F4, .slice none 0 0] rfl rfl 33 #[.int .i64 0, .int .i64 0, .bool false, .int .i64 0, .slice none 0 0] (heap_alloc_new X _) (by kernel_rfl) rfl (by simp [Value.oneCell']) rfl ?_
  refine hK.out _ _ (below_setRow hs hXl _) (fun hs => ?_)
  clear hK K
  simp only [Act.put]
  refine wpAnyH_done (by kernel_rfl) ?_ _
  obtain ⟨G, hG⟩ : ∃ G, G = X.heap.size := ⟨_, rfl⟩
  obtain ⟨B, hB⟩ : ∃ B, B = W0.heap.size := ⟨_, rfl⟩
  obtain ⟨W3, hW3, x3, HM3⟩ : ∃ W3, W3 = (X.alloc (.cells #[.int .i64 0, .int .i64 0, .bool false, .int .i64 0, .slice none 0 0] 33)).setRow X.heap.size #[.int .i64 F1, .int .i64 (F2 - 128), .bool T3, .int .i64 F4, .slice none 0 0] ∧ Ext W0 W3 ∧ Hid (ReaM W0 W3 B G F1 (F2 - 128) T3 F4 (.slice none 0 0) []) :=
    ⟨_, rfl, hs, Lib.hid ⟨World.ownsRow_nil _ _ _ _, by rw [hG]; exact setRow_heap _ _ _ _ _ _ (heap_alloc_new X _), (fun z hz => by cases hz), hs, by simp [Value.ownBlock], hB, by rw [hB, hG]; exact hXl⟩⟩
  have HBB := Lib.hid hB
  go_upto_region 4 with fail
  rw [← hW3, ← hG]
  clear hW3 hG hB hs hXl
  have g7 : (6 : Int) ≤ n := by have := HI.out.2.2.2.2.2.1; omega
  have g8 : (n : Int) ≤ c := by have := HI.out.2.2.1; omega
  have g9 : (c : Int) ≤ 9223372036854775807 := by have := HI.out.2.2.2.1; unfold maxLen at this; omega
  go_cut [5] (fun v wx => ∃ A, v = .slice A (n - 6) (c - 6) ∧ Holds .u8 W0 A (n - 6) (fun i => f (6 + i)) ∧ wx = W3)
  case first =>
    obtain ⟨A6, hA6⟩ : ∃ A6, (if c = 6 then some ⟨b, off, none⟩ else some (⟨b, off + 6, none⟩ : Addr)) = A6 := ⟨_, rfl⟩
    have HN : Hid (Holds .u8 W0 A6 (n - 6) (fun i => f (6 + i))) := Lib.hid (by
      by_cases hn6 : n - 6 = 0
      · exact .inl hn6
      · obtain ⟨b', o', e, hl, hc⟩ := HI.out.1.resolve_left (by have := HI.out.2.2.2.2.2.1; omega)
        cases e
        rw [if_neg (by omega)] at hA6
        rw [← hA6]
        exact .inr ⟨b, off + 6, rfl, hl, fun i hi => by rw [Nat.add_assoc]; exact hc (6 + i) (by omega)⟩)
    go_wp2
    go_meet
    exact ⟨_, rfl, HN.out, by trivial⟩
  case rest =>
    obtain ⟨A, rfl, hA, hwc⟩ := hcut
    rw [hwc]
    clear hwc
    have HA6 := Lib.hid hA
    clear hA g7 g8 g9 n1 n2 n3 n4 u1 u2 u4 u5 g2 g6 k2 x3
    go_wp2_with fail
    go_loopw [5] (fun rv wr => ∃ (j : Nat) (A : Option Addr) (M : List Ob) (v : Value) (kk : Nat), 6 ≤ j ∧ j ≤ n ∧ rv = .slice A (n - j) (c - j) ∧ Holds .u8 W0 A (n - j) (fun i => f (j + i)) ∧ ReaM W0 wr B G F1 (F2 - 128) T3 F4 v M ∧ n - j ≤ kk ∧ sameO (M ++ parI kk (l.drop j)) (parI l.length (l.drop 6)) = true ∧ 2 * M.length ≤ j) (fun rv _ => slLen rv)
    case atStart => exact ⟨6, A, [], _, l.length, Nat.le_refl _, HI.out.2.2.2.2.2.1, rfl, HA6.out, HM3.out, by rw [HI.out.2.2.2.2.2.2.1]; omega, sameO_refl _, Nat.zero_le _⟩
    case round =>
      obtain ⟨j, A, M, v, kk, j6, jn, rfl, hA, hM, hkk, hsm, hMl⟩ := hrel
      obtain ⟨R, hR⟩ : ∃ R, n - j = R := ⟨_, rfl⟩
      obtain ⟨D, hD⟩ : ∃ D, c - j = D := ⟨_, rfl⟩
      rw [hR] at hA hkk ⊢
      rw [hD]
      have hRD : R ≤ D := by have := HI.out.2.2.1; omega
      have HRM := Lib.hid hM
      have HXR := Lib.hid hM.ext
      have HJ := Lib.hid (And.intro j6 (And.intro jn (And.intro hR (And.intro hD (And.intro hkk (And.intro hsm (And.intro hMl hRD)))))))
      have HA := Lib.hid hA
      have hD9 : (D : Int) ≤ 9223372036854775807 := by have := HI.out.2.2.2.1; unfold maxLen at this; omega
      have hRD' : (R : Int) ≤ D := by omega
      clear j6 jn hR hD hkk hsm hMl hRD hM hA HA6 HM3
      obtain ⟨Q, hQ⟩ : ∃ Q, Q = decide (2 ≤ R ∧ 2 + f (j + 1) ≤ (R : Int)) := ⟨_, rfl⟩
      have HQ := Lib.hid hQ
      clear hQ
      go_upto_region 5 with fail
      go_cut [51] (fun v wx => v = .bool Q ∧ wx = wr)
      case first =>
        by_cases hR2 : 2 ≤ R
        · obtain ⟨p, o, rfl, hp, hc⟩ := HA.out.resolve_left (by omega)
          obtain ⟨m1, hm1⟩ : ∃ m1, f (j + 1) = m1 := ⟨_, rfl⟩
          have c1 : wr.cell? ⟨p, o + 1, none⟩ = some (.int .u8 m1) := HXR.out.cell hp (by rw [← hm1]; exact hc 1 (by omega))
          have hb1 : 0 ≤ m1 ∧ m1 < 256 := by rw [← hm1]; exact HI.out.2.2.2.2.1 (j + 1) (by have := HJ.out; omega)
          have r2 : (2 : Int) ≤ R := by omega
          have r1 : (1 : Int) < R := by omega
          have e0 : IntKind.i64.wrap m1 = m1 := IntWalk.i64_in _ (by omega)
          have e1 : IntKind.i64.wrap (2 + m1) = 2 + m1 := IntWalk.i64_in _ (by omega)
          have HE : Hid (Q = decide (2 + m1 ≤ (R : Int))) := Lib.hid (by rw [HQ.out, hm1]; exact decide_eq_decide.2 ⟨fun h => h.2, fun h => ⟨hR2, h⟩⟩)
          clear hc hm1 hb1 hR2 hp
          go_wp2
          go_meet
          exact ⟨by rw [HE.out], by trivial⟩
        · have r2 : ¬ (2 : Int) ≤ R := by omega
          have HE : Hid (Q = false) := Lib.hid (by rw [HQ.out]; exact decide_eq_false (fun h => hR2 h.1))
          go_wp2
          go_meet
          exact ⟨by rw [HE.out], by trivial⟩
      case rest =>
        obtain ⟨rfl, hwc⟩ := hcut
        rw [hwc]
        clear hwc
        cases Q with
        | true =>
          obtain ⟨hR2, hRm⟩ := of_decide_eq_true HQ.out.symm
          obtain ⟨p, o, rfl, hp, hc⟩ := HA.out.resolve_left (by omega)
          have hb1 := HI.out.2.2.2.2.1 (j + 1) (by have := HJ.out; omega)
          have hb0 := HI.out.2.2.2.2.1 j (by have := HJ.out; omega)
          obtain ⟨m, hm⟩ : ∃ m : Nat, f (j + 1) = m := ⟨(f (j + 1)).toNat, by omega⟩
          obtain ⟨I, hI⟩ : ∃ I, f j = I := ⟨_, rfl⟩
          have c0 : W0.cell? ⟨p, o, none⟩ = some (.int .u8 I) := by rw [← hI]; exact hc 0 (by omega)
          have c1 : wr.cell? ⟨p, o + 1, none⟩ = some (.int .u8 m) := HXR.out.cell hp (by rw [← hm]; exact hc 1 (by omega))
          rw [hm] at hRm hb1
          rw [hI] at hb0
          have r1 : (1 : Int) < R := by omega
          have r0 : (0 : Int) < R := by omega
          have r9 : ¬ R = 0 := by omega
          have e0 : IntKind.i64.wrap (m : Int) = m := IntWalk.i64_in _ (by omega)
          have e1 : IntKind.i64.wrap (2 + (m : Int)) = 2 + m := IntWalk.i64_in _ (by omega)
          have e2 : IntKind.i64.wrap I = I := IntWalk.i64_in _ (by omega)
          have s1 : (2 : Int) + m ≤ D := by omega
          have s2 : ¬ (2 : Int) + m < 0 := by omega
          have s3 : (2 : Int) ≤ 2 + (m : Int) := by omega
          have s4 : (2 : Int) + m ≤ R := hRm
          have s5 : ((2 : Int) + m).toNat = 2 + m := by omega
          obtain ⟨Z, hZ⟩ : ∃ Z, (if D = 2 then some ⟨p, o, none⟩ else some (⟨p, o + 2, none⟩ : Addr)) = Z := ⟨_, rfl⟩
          have HZ := Lib.hid (fun W (x : Ext wr W) => (by
            by_cases hm0 : m = 0
            · exact .inl hm0
            · have hD2 : ¬ D = 2 := by omega
              rw [if_neg hD2] at hZ
              rw [← hZ]
              exact .inr ⟨p, o + 2, rfl, Nat.lt_of_lt_of_le hp (Nat.le_trans HXR.out.size x.size), fun i hi => by
                have := hc (2 + i) (by omega)
                rw [← Nat.add_assoc] at this
                exact (HXR.out.trans x).cell hp (by show W0.cell? ⟨p, o + 2 + i, none⟩ = some (.int .u8 (f (j + 2 + i))); rw [show j + 2 + i = j + (2 + i) by omega]; exact this)⟩ : Holds .u8 W Z m (fun i => f (j + 2 + i))))
          have HZB : Hid (∀ i, i < m → 0 ≤ f (j + 2 + i) ∧ f (j + 2 + i) < 256) := Lib.hid (fun i hi => HI.out.2.2.2.2.1 _ (by have := HJ.out; omega))
          have HZI : Hid ((Lit.int .i64 I).wf = true) := Lib.hid (by simp [Lit.wf, IntKind.min, IntKind.max, IntKind.signed, IntKind.bits]; omega)
          have HML : Hid (M.length ≤ 600 ∧ m ≤ 255) := Lib.hid ⟨by have := HJ.out; have := HI.out.2.1; omega, by omega⟩
          have HC0 := Lib.hid (fun W (x : Ext W0 W) => x.cell hp c0)
          have HCB := Lib.hid (fun W (x : Ext wr W) => (cell_of_heap (x.block HRM.out.box) rfl : W.cell? ⟨G, 4, none⟩ = some v))
          have HMI := Lib.hid (And.intro hm (And.intro hI (And.intro hR2 hRm)))
          have HC8 := Lib.hid (And.intro hp hc)
          clear hR2 hRm hb1 hb0 hm hI c0 hp hc
          go_upto_region 7 with fail
          obtain ⟨X, hX⟩ : ∃ X, X = wr.drew := ⟨_, rfl⟩
          have hX0 : Ext wr X := by rw [hX]; exact Ext.drew _
          have hs : Ext W0 X := HXR.out.trans hX0
          have hy : Ext wr X := hX0
          clear c1
          go_cut [67] (fun u wx => ∃ (a2 : Option Addr) (c2 : Nat) (v' : Value), u = .slice a2 m c2 ∧ ReaM W0 wx B G F1 (F2 - 128) T3 F4 v' (M ++ [⟨I, a2, m, c2, fun i => f (j + 2 + i)⟩]))
          case first =>
            as_aux_lemma =>
            refine wp_region_held_drew (S := fun W => Ext W0 W) (by kernel_rfl) (by rw [← hX]; exact hs) (fun _ => ?_)
            rw [← hX]
            clear hX
            refine wpAnyH_takeD (i := 0) (d := 57) (v := .pointer (some ⟨G, 4, none⟩)) rfl rfl (by kernel_rfl) (by kernel_rfl) (by kernel_rfl) (fun _ _ _ h => h) (Or.inl ⟨by rfl, fun W hW => by go_simp⟩) hs ?_
            simp only [Act.put, List.setIfInBounds_toArray, List.set_cons_succ, List.set_cons_zero]
            refine wpAnyH_takeD (i := 2) (d := 59) (v := .slice (some ⟨p, o, none⟩) R D) rfl rfl (by kernel_rfl) (by kernel_rfl) (by kernel_rfl) (fun _ _ _ h => h) (Or.inl ⟨by rfl, fun W hW => by go_simp⟩) hs ?_
            simp only [Act.put, List.setIfInBounds_toArray, List.set_cons_succ, List.set_cons_zero]
            refine wpAnyH_takeD (i := 3) (d := 60) (v := .pointer (some ⟨p, o, none⟩)) rfl rfl (by kernel_rfl) (by kernel_rfl) (by kernel_rfl) (fun _ _ _ h => h) (Or.inl ⟨by rfl, fun W hW => by have k1 := HC0.out W hW; go_simp⟩) hs ?_
            simp only [Act.put, List.setIfInBounds_toArray, List.set_cons_succ, List.set_cons_zero]
            refine wpAnyH_takeD (i := 4) (d := 61) (v := .int .u8 I) rfl rfl (by kernel_rfl) (by kernel_rfl) (by kernel_rfl) (fun _ _ _ h => h) (Or.inl ⟨by rfl, fun W hW => by have k1 := HC0.out W hW; go_simp⟩) hs ?_
            simp only [Act.put, List.setIfInBounds_toArray, List.set_cons_succ, List.set_cons_zero]
            refine wpAnyH_takeD (i := 5) (d := 62) (v := .int .i64 I) rfl rfl (by kernel_rfl) (by kernel_rfl) (by kernel_rfl) (fun _ _ _ h => h) (Or.inl ⟨by rfl, fun W hW => by go_simp⟩) hs ?_
            simp only [Act.put, List.setIfInBounds_toArray, List.set_cons_succ, List.set_cons_zero]
            refine wpAnyH_takeD (i := 7) (d := 64) (v := .slice (some ⟨p, o, none⟩) R D) rfl rfl (by kernel_rfl) (by kernel_rfl) (by kernel_rfl) (fun _ _ _ h => h) (Or.inl ⟨by rfl, fun W hW => by go_simp⟩) hs ?_
            simp only [Act.put, List.setIfInBounds_toArray, List.set_cons_succ, List.set_cons_zero]
            refine wpAnyH_takeD (i := 8) (d := 65) (v := .int .i64 (2 + (m : Int))) rfl rfl (by kernel_rfl) (by kernel_rfl) (by kernel_rfl) (fun _ _ _ h => h) (Or.inl ⟨by rfl, fun W hW => by go_simp⟩) hs ?_
            simp only [Act.put, List.setIfInBounds_toArray, List.set_cons_succ, List.set_cons_zero]
            refine wpAnyH_takeD (i := 9) (d := 66) (v := .slice Z m (D - 2)) rfl rfl (by kernel_rfl) (by kernel_rfl) (by kernel_rfl) (fun _ _ _ h => h) (Or.inl ⟨by rfl, fun W hW => by go_simp⟩) hs ?_
            simp only [Act.put, List.setIfInBounds_toArray, List.set_cons_succ, List.set_cons_zero]
            refine wpAnyH_ready (rs := [1, 6]) (by kernel_rfl) (by simp) (AllReadyH.cons rfl (fun K hK => ?_) (AllReadyH.cons rfl (fun K hK => ?_) AllReadyH.nil))
            · have cb := HCB.out _ hy
              go_simp
              refine hK.out _ _ hs (fun hs => ?_)
              clear hK K cb
              refine wpAnyH_ready (rs := [6]) (by kernel_rfl) (by simp) (AllReadyH.cons rfl (fun K hK => ?_) AllReadyH.nil)
              go_simp
              refine hK.out _ _ (hs.trans (Ext.alloc _ _)) (fun hs => ?_)
              clear hK K
              have he := heap_alloc_new X (.cells #[] 5)
              have hy := hy.trans (Ext.alloc X (.cells #[] 5))
              refine wpAnyH_ready (rs := [10]) (by kernel_rfl) (by simp) (AllReadyH.cons rfl (fun K hK => ?_) AllReadyH.nil)
              refine step_appendM rfl (.tmp 63) (.tmp 66) 25 rfl wr.heap.size 5 i8 (.int .u8 0) 1 Try.underlying25 hi8 hz80 hz81 hz82 rfl _ 0 [] (by rfl) (own_empty he hX0.size) Z m (D - 2) (fun i => f (j + 2 + i)) (by rfl) (HZ.out _ hy) (fun _ => rfl) (by have := HML.out; unfold maxLen; omega) (by have := HML.out; omega) hy.size 67 rfl ?_
              intro v2 w2 hown2 hb2
              have hy : Ext wr w2 := Below.trans hy hb2
              obtain ⟨a2, c2, rfl, q1, q2, q3, q4⟩ := Holds.of_own_at (f := fun i => f (j + 2 + i)) (show w2.ownsRow wr.heap.size 5 1 v2 m (lst .u8 (fun i => f (j + 2 + i)) m) by simpa [lst, lstG] using hown2)
              refine hK.out _ _ (HXR.out.trans hy) (fun hs => ?_)
              clear hK K hown2 hb2 he
              refine wpAnyH_takeD (i := 11) (d := 68) (v := .agg #[.int .i64 I, .slice a2 m c2]) rfl rfl (by kernel_rfl) (by kernel_rfl) (by kernel_rfl) (fun _ _ _ h => h) (Or.inl ⟨by rfl, fun W hW => by go_simp⟩) hs ?_
              simp only [Act.put, List.setIfInBounds_toArray, List.set_cons_succ, List.set_cons_zero]
              refine wpAnyH_ready (rs := [12]) (by kernel_rfl) (by simp) (AllReadyH.cons rfl (fun K hK => ?_) AllReadyH.nil)
              go_simp
              refine hK.out _ _ (hs.trans (Ext.alloc _ _)) (fun hs => ?_)
              clear hK K
              have hl := heap_alloc_new w2 (.cells #[.int .i64 I, .slice a2 m c2] 49)
              have q3 := Holds.ext q3 (Ext.alloc w2 (.cells #[.int .i64 I, .slice a2 m c2] 49))
              have hy := hy.trans (Ext.alloc w2 (.cells #[.int .i64 I, .slice a2 m c2] 49))
              refine wpAnyH_ready (rs := [13]) (by kernel_rfl) (by simp) (AllReadyH.cons rfl (fun K hK => ?_) AllReadyH.nil)
              refine step_append_elO rfl (.tmp 58) (.tmp 69) 22 rfl B 49 io (.agg #[.int .i64 0, .slice none 0 0]) 32 Try.underlying22 hio ho0 ho1 ho2 rfl (by decide) v M.length M (by rfl) (own_ext HRM.out.own hy) w2.heap.size #[.int .i64 I, .slice a2 m c2] 49 (0, 0) ⟨I, a2, m, c2, fun i => f (j + 2 + i)⟩ (by rfl) hl rfl rfl (by simp [obL, Value.oneCell']) (by have := HML.out; unfold maxLen; omega) (by have := HML.out; omega) (by rw [HBB.out]; exact hs.size) 70 rfl ?_
              intro g cap w4 hown4 hgr4 hg4
              have x4 : Ext W0 w4 := Below.trans hs (by rw [← HBB.out]; exact (Below.refl B _).grown hgr4 (by rw [HBB.out]; exact hs.size) (fun q hq => ((own_ext HRM.out.own hy).lt q hq).1))
              have b4 := (hgr4.block G (Nat.lt_of_lt_of_le (heap_lt HRM.out.box) hy.size) (fun e => HRM.out.nb e.symm)).trans (hy.block HRM.out.box)
              refine hK.out _ _ x4 (fun hs => ?_)
              clear hK K
              refine wpAnyH_takeD (i := 14) (d := 71) (v := .pointer (some ⟨G, 4, none⟩)) rfl rfl (by kernel_rfl) (by kernel_rfl) (by kernel_rfl) (fun _ _ _ h => h) (Or.inl ⟨by rfl, fun W hW => by go_simp⟩) hs ?_
              simp only [Act.put, List.setIfInBounds_toArray, List.set_cons_succ, List.set_cons_zero]
              refine wpAnyH_ready (rs := [15]) (by kernel_rfl) (by simp) (AllReadyH.cons rfl (fun K hK => ?_) AllReadyH.nil)
              have cb : w4.cell? ⟨G, 4, none⟩ = some v := cell_of_heap b4 rfl
              have fb : w4.frozen? ⟨G, 4, none⟩ = false := by simp [World.frozen?, b4]
              go_simp
              refine hK.out _ _ (Below.setCell hs (by rw [← HBB.out]; exact HRM.out.bs) _) (fun hs => ?_)
              clear hK K
              refine wpAnyH_done (by kernel_rfl) ?_ _
              have hz5 := ReaM.push HRM.out hy (z := ⟨I, a2, m, c2, fun i => f (j + 2 + i)⟩) ⟨q3, q1, q2, by have := HML.out; show m ≤ _; omega, HZB.out, HZI.out⟩ HML.out.2 (fun _ => q4) hown4 hgr4 hg4
              go_wp2_with fail
              go_meet
              exact ⟨a2, c2, _, rfl, hz5⟩
            · go_simp
              refine hK.out _ _ (hs.trans (Ext.alloc _ _)) (fun hs => ?_)
              clear hK K
              have he := heap_alloc_new X (.cells #[] 5)
              have hy := hy.trans (Ext.alloc X (.cells #[] 5))
              refine wpAnyH_ready (rs := [1, 10]) (by kernel_rfl) (by simp) (AllReadyH.cons rfl (fun K hK => ?_) (AllReadyH.cons rfl (fun K hK => ?_) AllReadyH.nil))
              · have cb := HCB.out _ hy
                go_simp
                refine hK.out _ _ hs (fun hs => ?_)
                clear hK K cb
                refine wpAnyH_ready (rs := [10]) (by kernel_rfl) (by simp) (AllReadyH.cons rfl (fun K hK => ?_) AllReadyH.nil)
                refine step_appendM rfl (.tmp 63) (.tmp 66) 25 rfl wr.heap.size 5 i8 (.int .u8 0) 1 Try.underlying25 hi8 hz80 hz81 hz82 rfl _ 0 [] (by rfl) (own_empty he hX0.size) Z m (D - 2) (fun i => f (j + 2 + i)) (by rfl) (HZ.out _ hy) (fun _ => rfl) (by have := HML.out; unfold maxLen; omega) (by have := HML.out; omega) hy.size 67 rfl ?_
                intro v2 w2 hown2 hb2
                have hy : Ext wr w2 := Below.trans hy hb2
                obtain ⟨a2, c2, rfl, q1, q2, q3, q4⟩ := Holds.of_own_at (f := fun i => f (j + 2 + i)) (show w2.ownsRow wr.heap.size 5 1 v2 m (lst .u8 (fun i => f (j + 2 + i)) m) by simpa [lst, lstG] using hown2)
                refine hK.out _ _ (HXR.out.trans hy) (fun hs => ?_)
                clear hK K hown2 hb2 he
                refine wpAnyH_takeD (i := 11) (d := 68) (v := .agg #[.int .i64 I, .slice a2 m c2]) rfl rfl (by kernel_rfl) (by kernel_rfl) (by kernel_rfl) (fun _ _ _ h => h) (Or.inl ⟨by rfl, fun W hW => by go_simp⟩) hs ?_
                simp only [Act.put, List.setIfInBounds_toArray, List.set_cons_succ, List.set_cons_zero]
                refine wpAnyH_ready (rs := [12]) (by kernel_rfl) (by simp) (AllReadyH.cons rfl (fun K hK => ?_) AllReadyH.nil)
                go_simp
                refine hK.out _ _ (hs.trans (Ext.alloc _ _)) (fun hs => ?_)
                clear hK K
                have hl := heap_alloc_new w2 (.cells #[.int .i64 I, .slice a2 m c2] 49)
                have q3 := Holds.ext q3 (Ext.alloc w2 (.cells #[.int .i64 I, .slice a2 m c2] 49))
                have hy := hy.trans (Ext.alloc w2 (.cells #[.int .i64 I, .slice a2 m c2] 49))
                refine wpAnyH_ready (rs := [13]) (by kernel_rfl) (by simp) (AllReadyH.cons rfl (fun K hK => ?_) AllReadyH.nil)
                refine step_append_elO rfl (.tmp 58) (.tmp 69) 22 rfl B 49 io (.agg #[.int .i64 0, .slice none 0 0]) 32 Try.underlying22 hio ho0 ho1 ho2 rfl (by decide) v M.length M (by rfl) (own_ext HRM.out.own hy) w2.heap.size #[.int .i64 I, .slice a2 m c2] 49 (0, 0) ⟨I, a2, m, c2, fun i => f (j + 2 + i)⟩ (by rfl) hl rfl rfl (by simp [obL, Value.oneCell']) (by have := HML.out; unfold maxLen; omega) (by have := HML.out; omega) (by rw [HBB.out]; exact hs.size) 70 rfl ?_
                intro g cap w4 hown4 hgr4 hg4
                have x4 : Ext W0 w4 := Below.trans hs (by rw [← HBB.out]; exact (Below.refl B _).grown hgr4 (by rw [HBB.out]; exact hs.size) (fun q hq => ((own_ext HRM.out.own hy).lt q hq).1))
                have b4 := (hgr4.block G (Nat.lt_of_lt_of_le (heap_lt HRM.out.box) hy.size) (fun e => HRM.out.nb e.symm)).trans (hy.block HRM.out.box)
                refine hK.out _ _ x4 (fun hs => ?_)
                clear hK K
                refine wpAnyH_takeD (i := 14) (d := 71) (v := .pointer (some ⟨G, 4, none⟩)) rfl rfl (by kernel_rfl) (by kernel_rfl) (by kernel_rfl) (fun _ _ _ h => h) (Or.inl ⟨by rfl, fun W hW => by go_simp⟩) hs ?_
                simp only [Act.put, List.setIfInBounds_toArray, List.set_cons_succ, List.set_cons_zero]
                refine wpAnyH_ready (rs := [15]) (by kernel_rfl) (by simp) (AllReadyH.cons rfl (fun K hK => ?_) AllReadyH.nil)
                have cb : w4.cell? ⟨G, 4, none⟩ = some v := cell_of_heap b4 rfl
                have fb : w4.frozen? ⟨G, 4, none⟩ = false := by simp [World.frozen?, b4]
                go_simp
                refine hK.out _ _ (Below.setCell hs (by rw [← HBB.out]; exact HRM.out.bs) _) (fun hs => ?_)
                clear hK K
                refine wpAnyH_done (by kernel_rfl) ?_ _
                have hz5 := ReaM.push HRM.out hy (z := ⟨I, a2, m, c2, fun i => f (j + 2 + i)⟩) ⟨q3, q1, q2, by have := HML.out; show m ≤ _; omega, HZB.out, HZI.out⟩ HML.out.2 (fun _ => q4) hown4 hgr4 hg4
                go_wp2_with fail
                go_meet
                exact ⟨a2, c2, _, rfl, hz5⟩
              · refine step_appendM rfl (.tmp 63) (.tmp 66) 25 rfl wr.heap.size 5 i8 (.int .u8 0) 1 Try.underlying25 hi8 hz80 hz81 hz82 rfl _ 0 [] (by rfl) (own_empty he hX0.size) Z m (D - 2) (fun i => f (j + 2 + i)) (by rfl) (HZ.out _ hy) (fun _ => rfl) (by have := HML.out; unfold maxLen; omega) (by have := HML.out; omega) hy.size 67 rfl ?_
                intro v2 w2 hown2 hb2
                have hy : Ext wr w2 := Below.trans hy hb2
                obtain ⟨a2, c2, rfl, q1, q2, q3, q4⟩ := Holds.of_own_at (f := fun i => f (j + 2 + i)) (show w2.ownsRow wr.heap.size 5 1 v2 m (lst .u8 (fun i => f (j + 2 + i)) m) by simpa [lst, lstG] using hown2)
                refine hK.out _ _ (HXR.out.trans hy) (fun hs => ?_)
                clear hK K hown2 hb2 he
                refine wpAnyH_takeD (i := 11) (d := 68) (v := .agg #[.int .i64 I, .slice a2 m c2]) rfl rfl (by kernel_rfl) (by kernel_rfl) (by kernel_rfl) (fun _ _ _ h => h) (Or.inl ⟨by rfl, fun W hW => by go_simp⟩) hs ?_
                simp only [Act.put, List.setIfInBounds_toArray, List.set_cons_succ, List.set_cons_zero]
                refine wpAnyH_ready (rs := [1, 12]) (by kernel_rfl) (by simp) (AllReadyH.cons rfl (fun K hK => ?_) (AllReadyH.cons rfl (fun K hK => ?_) AllReadyH.nil))
                · have cb := HCB.out _ hy
                  go_simp
                  refine hK.out _ _ hs (fun hs => ?_)
                  clear hK K cb
                  refine wpAnyH_ready (rs := [12]) (by kernel_rfl) (by simp) (AllReadyH.cons rfl (fun K hK => ?_) AllReadyH.nil)
                  go_simp
                  refine hK.out _ _ (hs.trans (Ext.alloc _ _)) (fun hs => ?_)
                  clear hK K
                  have hl := heap_alloc_new w2 (.cells #[.int .i64 I, .slice a2 m c2] 49)
                  have q3 := Holds.ext q3 (Ext.alloc w2 (.cells #[.int .i64 I, .slice a2 m c2] 49))
                  have hy := hy.trans (Ext.alloc w2 (.cells #[.int .i64 I, .slice a2 m c2] 49))
                  refine wpAnyH_ready (rs := [13]) (by kernel_rfl) (by simp) (AllReadyH.cons rfl (fun K hK => ?_) AllReadyH.nil)
                  refine step_append_elO rfl (.tmp 58) (.tmp 69) 22 rfl B 49 io (.agg #[.int .i64 0, .slice none 0 0]) 32 Try.underlying22 hio ho0 ho1 ho2 rfl (by decide) v M.length M (by rfl) (own_ext HRM.out.own hy) w2.heap.size #[.int .i64 I, .slice a2 m c2] 49 (0, 0) ⟨I, a2, m, c2, fun i => f (j + 2 + i)⟩ (by rfl) hl rfl rfl (by simp [obL, Value.oneCell']) (by have := HML.out; unfold maxLen; omega) (by have := HML.out; omega) (by rw [HBB.out]; exact hs.size) 70 rfl ?_
                  intro g cap w4 hown4 hgr4 hg4
                  have x4 : Ext W0 w4 := Below.trans hs (by rw [← HBB.out]; exact (Below.refl B _).grown hgr4 (by rw [HBB.out]; exact hs.size) (fun q hq => ((own_ext HRM.out.own hy).lt q hq).1))
                  have b4 := (hgr4.block G (Nat.lt_of_lt_of_le (heap_lt HRM.out.box) hy.size) (fun e => HRM.out.nb e.symm)).trans (hy.block HRM.out.box)
                  refine hK.out _ _ x4 (fun hs => ?_)
                  clear hK K
                  refine wpAnyH_takeD (i := 14) (d := 71) (v := .pointer (some ⟨G, 4, none⟩)) rfl rfl (by kernel_rfl) (by kernel_rfl) (by kernel_rfl) (fun _ _ _ h => h) (Or.inl ⟨by rfl, fun W hW => by go_simp⟩) hs ?_
                  simp only [Act.put, List.setIfInBounds_toArray, List.set_cons_succ, List.set_cons_zero]
                  refine wpAnyH_ready (rs := [15]) (by kernel_rfl) (by simp) (AllReadyH.cons rfl (fun K hK => ?_) AllReadyH.nil)
                  have cb : w4.cell? ⟨G, 4, none⟩ = some v := cell_of_heap b4 rfl
                  have fb : w4.frozen? ⟨G, 4, none⟩ = false := by simp [World.frozen?, b4]
                  go_simp
                  refine hK.out _ _ (Below.setCell hs (by rw [← HBB.out]; exact HRM.out.bs) _) (fun hs => ?_)
                  clear hK K
                  refine wpAnyH_done (by kernel_rfl) ?_ _
                  have hz5 := ReaM.push HRM.out hy (z := ⟨I, a2, m, c2, fun i => f (j + 2 + i)⟩) ⟨q3, q1, q2, by have := HML.out; show m ≤ _; omega, HZB.out, HZI.out⟩ HML.out.2 (fun _ => q4) hown4 hgr4 hg4
                  go_wp2_with fail
                  go_meet
                  exact ⟨a2, c2, _, rfl, hz5⟩
                · go_simp
                  refine hK.out _ _ (hs.trans (Ext.alloc _ _)) (fun hs => ?_)
                  clear hK K
                  have hl := heap_alloc_new w2 (.cells #[.int .i64 I, .slice a2 m c2] 49)
                  have q3 := Holds.ext q3 (Ext.alloc w2 (.cells #[.int .i64 I, .slice a2 m c2] 49))
                  have hy := hy.trans (Ext.alloc w2 (.cells #[.int .i64 I, .slice a2 m c2] 49))
                  refine wpAnyH_ready (rs := [1]) (by kernel_rfl) (by simp) (AllReadyH.cons rfl (fun K hK => ?_) AllReadyH.nil)
                  have cb := HCB.out _ hy
                  go_simp
                  refine hK.out _ _ hs (fun hs => ?_)
                  clear hK K cb
                  refine wpAnyH_ready (rs := [13]) (by kernel_rfl) (by simp) (AllReadyH.cons rfl (fun K hK => ?_) AllReadyH.nil)
                  refine step_append_elO rfl (.tmp 58) (.tmp 69) 22 rfl B 49 io (.agg #[.int .i64 0, .slice none 0 0]) 32 Try.underlying22 hio ho0 ho1 ho2 rfl (by decide) v M.length M (by rfl) (own_ext HRM.out.own hy) w2.heap.size #[.int .i64 I, .slice a2 m c2] 49 (0, 0) ⟨I, a2, m, c2, fun i => f (j + 2 + i)⟩ (by rfl) hl rfl rfl (by simp [obL, Value.oneCell']) (by have := HML.out; unfold maxLen; omega) (by have := HML.out; omega) (by rw [HBB.out]; exact hs.size) 70 rfl ?_
                  intro g cap w4 hown4 hgr4 hg4
                  have x4 : Ext W0 w4 := Below.trans hs (by rw [← HBB.out]; exact (Below.refl B _).grown hgr4 (by rw [HBB.out]; exact hs.size) (fun q hq => ((own_ext HRM.out.own hy).lt q hq).1))
                  have b4 := (hgr4.block G (Nat.lt_of_lt_of_le (heap_lt HRM.out.box) hy.size) (fun e => HRM.out.nb e.symm)).trans (hy.block HRM.out.box)
                  refine hK.out _ _ x4 (fun hs => ?_)
                  clear hK K
                  refine wpAnyH_takeD (i := 14) (d := 71) (v := .pointer (some ⟨G, 4, none⟩)) rfl rfl (by kernel_rfl) (by kernel_rfl) (by kernel_rfl) (fun _ _ _ h => h) (Or.inl ⟨by rfl, fun W hW => by go_simp⟩) hs ?_
                  simp only [Act.put, List.setIfInBounds_toArray, List.set_cons_succ, List.set_cons_zero]
                  refine wpAnyH_ready (rs := [15]) (by kernel_rfl) (by simp) (AllReadyH.cons rfl (fun K hK => ?_) AllReadyH.nil)
                  have cb : w4.cell? ⟨G, 4, none⟩ = some v := cell_of_heap b4 rfl
                  have fb : w4.frozen? ⟨G, 4, none⟩ = false := by simp [World.frozen?, b4]
                  go_simp
                  refine hK.out _ _ (Below.setCell hs (by rw [← HBB.out]; exact HRM.out.bs) _) (fun hs => ?_)
                  clear hK K
                  refine wpAnyH_done (by kernel_rfl) ?_ _
                  have hz5 := ReaM.push HRM.out hy (z := ⟨I, a2, m, c2, fun i => f (j + 2 + i)⟩) ⟨q3, q1, q2, by have := HML.out; show m ≤ _; omega, HZB.out, HZI.out⟩ HML.out.2 (fun _ => q4) hown4 hgr4 hg4
                  go_wp2_with fail
                  go_meet
                  exact ⟨a2, c2, _, rfl, hz5⟩
          case rest =>
            obtain ⟨a2, c2, v', rfl, hM'⟩ := hcut
            have HM' := Lib.hid hM'
            have hkk0 := HJ.out.2.2.2.2.1
            have hR2' := HMI.out.2.2.1
            obtain ⟨k', hk'⟩ : ∃ k', kk = k' + 1 := ⟨kk - 1, by omega⟩
            have HNX : Hid (∀ A', Holds .u8 W0 A' (R - (2 + m)) (fun i => f (j + (2 + m) + i)) → ∃ (j' : Nat) (A : Option Addr) (M : List Ob) (v : Value) (kk : Nat), 6 ≤ j' ∧ j' ≤ n ∧ Value.slice A' (R - (2 + m)) (D - (2 + m)) = .slice A (n - j') (c - j') ∧ Holds .u8 W0 A (n - j') (fun i => f (j' + i)) ∧ ReaM W0 wc B G F1 (F2 - 128) T3 F4 v M ∧ n - j' ≤ kk ∧ sameO (M ++ parI kk (l.drop j')) (parI l.length (l.drop 6)) = true ∧ 2 * M.length ≤ j') := Lib.hid (fun A' hA' => by
              obtain ⟨j6, jn, hR, hD, hkk, hsm, hMl, hRD⟩ := HJ.out
              obtain ⟨hm, hI, hR2, hRm⟩ := HMI.out
              obtain ⟨-, hn, hnc, hcm, hf, h6, hll, hof⟩ := HI.out
              refine ⟨j + 2 + m, A', M ++ [⟨I, a2, m, c2, fun i => f (j + 2 + i)⟩], v', k', by omega, by omega, by rw [← hR, ← hD]; congr 1 <;> omega, ?_, HM'.out, by omega, ?_, by rw [List.length_append, List.length_singleton]; omega⟩
              · rw [show n - (j + 2 + m) = R - (2 + m) by omega, show (fun i => f (j + 2 + m + i)) = (fun i => f (j + (2 + m) + i)) from funext fun i => by rw [show j + 2 + m + i = j + (2 + m) + i by omega]]; exact hA'
              · have hps := parO_step (k := k') (j := j) (m := m) (l := l) (i := I) (mm := m) (by omega) (by rw [hof j (by omega), hI]) (by rw [hof (j + 1) (by omega), hm]) (Int.toNat_natCast m)
                rw [hk', hps] at hsm
                refine sameO_trans ?_ hsm
                have e : ∀ (y : Ob) (P : List Ob), M ++ y :: P = (M ++ [y]) ++ P := fun y P => by simp
                rw [e ⟨I, none, m, m, ofL ((l.drop (j + 2)).take m)⟩ (parI k' (l.drop (j + 2 + m)))]
                refine sameO_append (sameO_append (sameO_refl _) (sameO_one (sameZ_iff.2 ⟨rfl, rfl, fun i hi => ?_⟩))) (sameO_refl _)
                show f (j + 2 + i) = ofL ((l.drop (j + 2)).take m) i
                have hi' : i < m := hi
                rw [← hof (j + 2 + i) (by omega)]
                unfold ofL
                simp [List.getD_eq_getElem?_getD, hi'])
            have HMS : Hid (R - (2 + m) < R) := Lib.hid (by omega)
            clear hM' hk' hX hX0 hs hy hZ hkk0 hR2'
            obtain ⟨A8, hA8⟩ : ∃ A8, (if D = 2 + m then some ⟨p, o, none⟩ else some (⟨p, o + (2 + m), none⟩ : Addr)) = A8 := ⟨_, rfl⟩
            have HH0 : Hid (Holds .u8 W0 A8 (R - (2 + m)) (fun i => f (j + (2 + m) + i))) := Lib.hid (by
              by_cases hn6 : R - (2 + m) = 0
              · exact .inl hn6
              · have := HJ.out.2.2.2.2.2.2.2
                rw [if_neg (by omega)] at hA8
                rw [← hA8]
                refine .inr ⟨p, o + (2 + m), rfl, HC8.out.1, fun i hi => ?_⟩
                have := HC8.out.2 (2 + m + i) (by omega)
                show W0.cell? ⟨p, o + (2 + m) + i, none⟩ = some (.int .u8 (f (j + (2 + m) + i)))
                rw [show o + (2 + m) + i = o + (2 + m + i) by omega, show j + (2 + m) + i = j + (2 + m + i) by omega]; exact this)
            go_wp2
            go_roundw
            case rel => exact HNX.out _ HH0.out
            case measure => simp [slLen]; exact HMS.out
        | false =>
          have hnq := of_decide_eq_false HQ.out.symm
          obtain ⟨j6, jn, hR, hD, hkk, hsm, hMl, hRD⟩ := HJ.out
          obtain ⟨-, hn, hnc, hcm, hf, h6, hll, hof⟩ := HI.out
          have hpe : parI kk (l.drop j) = [] := by
            refine parO_end (by
              by_cases h2 : R < 2
              · left; omega
              · right
                rw [hof (j + 1) (by omega), hll, hR]
                have : ¬ 2 + f (j + 1) ≤ (R : Int) := fun h => hnq ⟨by omega, h⟩
                omega) ?_
            by_cases hj : j + 1 < n
            · rw [hof _ hj]; exact (hf _ hj).1
            · unfold ofL; simp [List.getD_eq_getElem?_getD, List.getElem?_eq_none (show l.length ≤ j + 1 by omega)]
          rw [hpe, List.append_nil] at hsm
          obtain ⟨av, cv, hv, oM, hav, hzv⟩ := HRM.out.at2
          subst hv
          obtain ⟨P, hP⟩ : ∃ P : Prt, P = ⟨F1, F2 - 128, T3, F4, M⟩ := ⟨_, rfl⟩
          have hPL : P.L = M := by rw [hP]
          have hsP : sameP P (partP l) = true := by rw [hP, HP.out.2.2]; exact sameP_iff.2 ⟨rfl, rfl, rfl, rfl, hsm⟩
          have hPat : PrtAt wr P av M.length cv := by
            obtain ⟨b1, b2, b4⟩ := HBD.out
            rw [hP]
            refine ⟨oM, ?_, ?_, ?_⟩ <;> (simp [Lit.wf, IntKind.min, IntKind.max, IntKind.signed, IntKind.bits]; omega)
          have hfL : ObjF P.L := by rw [hPL]; exact ⟨by omega, fun z hz => by have := (HRM.out.each z hz).few; omega⟩
          have hbx : ∀ W, Ext wr W → W.heap[G]? = some (.cells (prC P av M.length cv) 33 (0, 0)) := fun W x => by rw [hP]; exact x.block HRM.out.box
          have HBX := Lib.hid hbx
          have HFin := Lib.hid (And.intro hsP (And.intro hPat (And.intro hfL (And.intro hPL (And.intro hav hzv)))))
          have hno : rightP P = false ∨ sayP P ≠ l → readP l = none := fun h => by
            unfold readP
            rw [if_neg]
            rintro ⟨-, -, h3, h4⟩
            rcases h with h | h
            · rw [right_same hsP, h3] at h; cases h
            · exact h ((say_same hsP).trans h4)
          have hyes : rightP P = true → sayP P = l → readP l = some (partP l) := fun h1 h2 => by
            unfold readP
            rw [if_pos ⟨HP.out.1, HP.out.2.1, by rw [← right_same hsP]; exact h1, by rw [← say_same hsP]; exact h2⟩]
          have HNO := Lib.hid hno
          have HYES := Lib.hid hyes
          have HXr := Lib.hid (HX.out.trans HXR.out)
          have HL6 := Lib.hid hll
          have HOF := Lib.hid hof
          have HNN := Lib.hid hn
          clear hnq j6 jn hR hD hkk hsm hMl hRD hn hnc hcm hf h6 hll hof hpe hsP hPat hfL hbx hno hyes hav hzv oM hPL hP hD9 hRD'
          have gb := HBX.out wr (Ext.refl _)
          cases hr : rightP P with
          | false =>
            have KW := Lib.hid (rwrite21_no P av M.length cv wr HFin.out.2.1 HFin.out.2.2.1 hr)
            have HN := Lib.hid (HNO.out (.inl hr))
            clear hr
            go_wp2_with (refine wpList_load_row rfl 33 (.tmp 4) rfl G rfl 33 (prC P av M.length cv) (0, 0) _ gb Try.underlying33 rfl (by kernel_rfl) ?_)
            clear gb
            refine KW.out.mono ?_; rintro e w9 ⟨rfl, x9⟩
            have g9 := x9.block (HXR.out.block HR0.out)
            go_wp2_with (refine wpList_store_row rfl 33 (.tmp 2) (.tmp 88) rfl w.heap.size #[.int .i64 0, .int .i64 0, .bool false, .int .i64 0, .slice none 0 0] rfl rfl 33 #[.int .i64 0, .int .i64 0, .bool false, .int .i64 0, .slice none 0 0] g9 (by kernel_rfl) rfl (by simp [Value.oneCell']) ?_)
            refine bodyPost_ret (results_row_tmp rfl _ _ w.heap.size 33 _ (0, 0) _ rfl (setRow_heap _ _ _ _ _ _ g9) Try.underlying33 rfl (by kernel_rfl)) rfl ?_
            exact reaP_no HN.out (below_setRow (HXr.out.trans x9) (Nat.le_refl _) _)
          | true =>
            have KW := Lib.hid (rwrite21_yes P av M.length cv wr HFin.out.2.1 hr)
            have HR := Lib.hid hr
            clear hr
            go_wp2_with (refine wpList_load_row rfl 33 (.tmp 4) rfl G rfl 33 (prC P av M.length cv) (0, 0) _ gb Try.underlying33 rfl (by kernel_rfl) ?_)
            clear gb
            refine KW.out.mono ?_; rintro e w9 ⟨b9, q9, rfl, hh9, l9, m9, f9, x9⟩
            have hs9 := rightP_iff.1 HR.out
            have KB := Lib.hid (bytes_any b9 (some ⟨b, off, none⟩) (6 + lenO P.L) n q9 c (ofL (sayP P)) f w9 hh9 (HI.out.1.ext (HXR.out.trans x9)) (by have := hs9.2.2.2.2; omega) (by have := HNN.out; omega))
            have hEq : eqB (6 + lenO P.L) n (ofL (sayP P)) f = true ↔ sayP P = l := by
              rw [eqB_iff]
              constructor
              · rintro ⟨h1, h2⟩
                apply List.ext_getElem?
                intro i
                by_cases hi : i < n
                · have e1 := h2 i (by omega)
                  rw [← HOF.out i hi] at e1
                  unfold ofL at e1
                  rw [List.getD_eq_getElem?_getD, List.getD_eq_getElem?_getD, List.getElem?_eq_getElem (by rw [sayP_len]; omega), List.getElem?_eq_getElem (by rw [HL6.out]; exact hi)] at e1
                  rw [List.getElem?_eq_getElem (by rw [sayP_len]; omega), List.getElem?_eq_getElem (by rw [HL6.out]; exact hi)]
                  exact congrArg some e1
                · rw [List.getElem?_eq_none (by rw [sayP_len]; omega), List.getElem?_eq_none (by rw [HL6.out]; omega)]
              · intro h
                have hl := congrArg List.length h
                rw [sayP_len, HL6.out] at hl
                exact ⟨hl, fun i hi => by rw [h]; exact HOF.out i (by omega)⟩
            have HEQ := Lib.hid hEq
            clear hEq hh9 l9 m9 f9 hs9
            cases hT : eqB (6 + lenO P.L) n (ofL (sayP P)) f with
            | false =>
              rw [hT] at KB
              have HN := Lib.hid (HNO.out (.inr (fun h => by have := HEQ.out.2 h; rw [hT] at this; cases this)))
              clear hT
              go_wp2_with fail
              refine KB.out.mono ?_; rintro e w10 ⟨rfl, hw10⟩
              have x10 : Ext w9 w10 := by obtain ⟨q, hq⟩ := hw10; rw [hq]; exact below_drewN (Below.refl _ _) q
              clear hw10
              have g10 := x10.block (x9.block (HXR.out.block HR0.out))
              go_wp2_with (refine wpList_store_row rfl 33 (.tmp 2) (.tmp 88) rfl w.heap.size #[.int .i64 0, .int .i64 0, .bool false, .int .i64 0, .slice none 0 0] rfl rfl 33 #[.int .i64 0, .int .i64 0, .bool false, .int .i64 0, .slice none 0 0] g10 (by kernel_rfl) rfl (by simp [Value.oneCell']) ?_)
              refine bodyPost_ret (results_row_tmp rfl _ _ w.heap.size 33 _ (0, 0) _ rfl (setRow_heap _ _ _ _ _ _ g10) Try.underlying33 rfl (by kernel_rfl)) rfl ?_
              exact reaP_no HN.out (below_setRow (HXr.out.trans (x9.trans x10)) (Nat.le_refl _) _)
            | true =>
              rw [hT] at KB
              have HY := Lib.hid (HYES.out HR.out (HEQ.out.1 hT))
              clear hT
              go_wp2_with fail
              refine KB.out.mono ?_; rintro e w10 ⟨rfl, hw10⟩
              have x10 : Ext w9 w10 := by obtain ⟨q, hq⟩ := hw10; rw [hq]; exact below_drewN (Below.refl _ _) q
              clear hw10
              have x90 := x9.trans x10
              have g10 := x90.block (HXR.out.block HR0.out)
              have gb := HBX.out w10 x90
              go_wp2_with (first
                | (refine wpList_load_row rfl 33 (.tmp 4) rfl G rfl 33 (prC P av M.length cv) (0, 0) _ gb Try.underlying33 rfl (by kernel_rfl) ?_)
                | (refine wpList_store_row rfl 33 (.tmp 2) (.tmp 89) rfl w.heap.size (prC P av M.length cv) rfl rfl 33 #[.int .i64 0, .int .i64 0, .bool false, .int .i64 0, .slice none 0 0] g10 (by kernel_rfl) rfl (by simp [prC, Value.oneCell']) ?_))
              refine bodyPost_ret (results_row_tmp rfl _ _ w.heap.size 33 _ (0, 0) _ rfl (setRow_heap _ _ _ _ _ _ g10) Try.underlying33 rfl (by kernel_rfl)) rfl ?_
              obtain ⟨hsP, hPat, hfL, hPL, hav, hzv⟩ := HFin.out
              have hlB : w.heap.size < B := by rw [HBB.out]; exact heap_lt HR0.out
              refine ⟨P, av, M.length, cv, by rw [HY.out]; rfl, ⟨?_, hPat.wc, hPat.wl, hPat.wn⟩, hfL, by rw [HY.out]; exact hsP, below_setRow (HXr.out.trans x90) (Nat.le_refl _) _⟩
              refine (hPat.o.ext x90).keep1 (r := w.heap.size) ⟨rfl, rfl, rfl, by simp, fun k _ hn => setRow_other _ _ k _ hn⟩ (fun p hp => by have := hav p hp; omega) (fun z hz hn p hp => by have := hzv z (hPL ▸ hz) hn p hp; omega)
end Go.Proofs.Ythdkhdbabohohaa
