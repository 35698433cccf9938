/-
  THE LAWS OF LAYER 18: the walk of DiagDoes (package diag's contracts as premises).
-/
import Derived.Test.YtchdgodmncckcaaLaw18A
import Derived.Test.YtchdgodmncckcaaDiaIn
import Derived.Deep.LoopGhost
import Derived.Deep.DeepCutAuto
namespace Go.Proofs.Ytchdgodmncckcaa
open Go.RowKit
set_option linter.unusedVariables false
set_option maxRecDepth 100000
variable {DS : World → Nat → (Nat → Prop) → Dia → Prop}

theorem dia_put (D : Dia) (j : Nat) (hj : j < 8) (v : Int) : (diaC D).setIfInBounds j (.int .u16 v) = diaC { D with C := upd D.C j v } := by
  have hj8 : j = 0 ∨ j = 1 ∨ j = 2 ∨ j = 3 ∨ j = 4 ∨ j = 5 ∨ j = 6 ∨ j = 7 := by omega
  rcases hj8 with rfl | rfl | rfl | rfl | rfl | rfl | rfl | rfl <;> (simp only [diaC, List.setIfInBounds_toArray, List.set_cons_succ, List.set_cons_zero]; rfl)
theorem tmod18 (x : Int) : -65536 < x.tmod 65536 ∧ x.tmod 65536 < 65536 := by
  rcases Int.le_total 0 x with h | h
  · rw [Int.tmod_eq_emod_of_nonneg h]; omega
  · rw [show x = -(-x) by omega, Int.neg_tmod, Int.tmod_eq_emod_of_nonneg (by omega)]; omega
theorem dgM_ways (n : Nat) (f : Nat → Int) : dgM n f = 0 ∨ 2 ≤ dgM n f := by
  unfold dgM
  split
  · exact .inl rfl
  · rename_i h
    right
    rcases dg_ways n f with e | e | e | e
    · exact absurd (.inl (by rw [e.1]; decide)) h
    · exact e.2.1
    · exact e.2.1
    · exact e.2.1
theorem dgM_le {n N : Nat} {f : Nat → Int} (h : n ≤ N) : dgM n f ≤ N := by unfold dgM; split; exact Nat.zero_le _; exact h
def zeroD18 : Dia := ⟨fun _ => 0, 0, false, 0⟩
/-- Two bytes and more do not lie in a state's box. -/
theorem u8_keep {W W' : World} {g m : Nat} {b : Option Addr} {h : Nat → Int} {t : TypeId} {D : Dia} (hg : W.heap[g]? = some (.cells (diaC D) t (0, 0))) (hh : HoldsG (Value.int .u8) W b m h) (hm : m = 0 ∨ 2 ≤ m) (k : Keep (fun q => q = g) W W') : HoldsG (Value.int .u8) W' b m h := by
  rcases hm with hm | hm
  · exact .inl hm
  refine hh.keep k ?_
  rintro p rfl e
  obtain ⟨b, off, ha, hlt, hc⟩ := hh.resolve_left (by omega)
  cases ha
  have e : b = g := e
  subst e
  have c0 := hc 0 (by omega)
  have c1 := hc 1 (by omega)
  rw [cell_of_row _ _ _ _ _ _ hg] at c0 c1
  have hs : off + 1 < 11 := (Array.getElem?_eq_some_iff.1 c1).1
  have ho : off = 0 ∨ off = 1 ∨ off = 2 ∨ off = 3 ∨ off = 4 ∨ off = 5 ∨ off = 6 ∨ off = 7 ∨ off = 8 ∨ off = 9 := by omega
  rcases ho with rfl | rfl | rfl | rfl | rfl | rfl | rfl | rfl | rfl | rfl <;> simp [diaC] at c0
/-- A state, and the document's in its box. -/
structure Dg18 (DS : World → Nat → (Nat → Prop) → Dia → Prop) (w wr : World) (B p : Nat) (F : Nat → Prop) (D : Dia) : Prop where
  s : DS wr p F D
  n : ¬ F B
  a : Above w F
  x : Ext w wr
  b : wr.heap[B]? = some (.cells (diaC D) 29 (0, 0))
  l : w.heap.size ≤ B
theorem Dg18.ext (K : DiagC DS) {w wr wr' : World} {B p : Nat} {F : Nat → Prop} {D : Dia} (h : Dg18 DS w wr B p F D) (x : Ext wr wr') : Dg18 DS w wr' B p F D := ⟨K.ext h.s x, h.n, h.a, h.x.trans x, x.block h.b, h.l⟩
/-- The state has changed, the document's not yet. -/
theorem Dg18.turn {w wr wr' : World} {B p p' : Nat} {F G : Nat → Prop} {D D' : Dia} (h : Dg18 DS w wr B p F D) (k : Keep F wr wr') (s : DS wr' p' G D') (g : Grows F G wr) : DS wr' p' G D' ∧ ¬ G B ∧ Above w G ∧ Ext w wr' ∧ wr'.heap[B]? = some (.cells (diaC D) 29 (0, 0)) :=
  ⟨s, fun hG => (g B hG).elim h.n (fun e => absurd (heap_lt h.b) (by omega)), h.a.grows g h.x, h.x.keep k h.a, (k.block B (heap_lt h.b) h.n).trans h.b⟩
set_option maxHeartbeats 16000000 in
theorem diagDoes.small (K : DiagC DS) (a : Option Addr) (n c : Nat) (L : List Dop) (w : World) (ha : HoldsL 3 dopL w a L) (hL : L.length = n) (hn : n ≤ 120) (hz : ∀ z ∈ L, DopAt w z) :
    Calls Try.prog 3 #[.slice a n c] w fun e w' => e = .returned (.bool true) ∧ Ext w w' := by
  have HK := Lib.hid K
  have HL := Lib.hid hL
  have HZ := Lib.hid hz
  have HA := Lib.hid ha
  have hnI : ¬ (120 : Int) < n := by omega
  have HN := Lib.hid hn
  clear K hL hz ha hn
  go_enter Try.func3, Try.ntmps3
  go_wp2_with fail
  refine (HK.out.new _).mono ?_; rintro e w1 ⟨p, F, rfl, x1, T1, n1⟩
  go_wp2_with fail
  refine (rnew18_v w1).mono ?_; rintro e w2 ⟨rfl, x2⟩
  obtain ⟨W3, hW3, x3, g3⟩ : ∃ W, W = ((w2.alloc (.cells #[.int .u16 0, .int .u16 0, .int .u16 0, .int .u16 0, .int .u16 0, .int .u16 0, .int .u16 0, .int .u16 0, .int .u16 0, .bool false, .int .u8 0] 29)).setRow w2.heap.size (diaC newD)) ∧ Ext w2 W ∧ W.heap[w2.heap.size]? = some (.cells (diaC newD) 29 (0, 0)) := ⟨_, rfl, below_setRow (Ext.alloc w2 _) (Nat.le_refl _) _, setRow_heap _ _ _ _ _ _ (heap_alloc_new w2 _)⟩
  go_upto_region 7 with (first
    | (refine wpList_store_row rfl 29 (.tmp 4) (.tmp 22) rfl _ _ rfl rfl 29 _ (heap_new_at _ _ (by first | rfl | simp)) (by kernel_rfl) rfl (by simp [diaC, newD, Value.oneCell']) ?_))
  rw [← hW3]
  clear hW3
  have hS : Dg18 DS w W3 w2.heap.size p F newD := ⟨HK.out.ext (HK.out.ext T1 x2) x3, fun h => absurd (HK.out.lt (HK.out.ext T1 x2) _ h) (Nat.lt_irrefl _), n1, (x1.trans x2).trans x3, g3, (x1.trans x2).size⟩
  clear T1 n1 x1 x2 x3 g3
  generalize w2.heap.size = B at hS ⊢
  clear hnI
  simp only [Act.put]
  go_wp2_with fail
  go_loopg [3, 5] n (fun h sv iv wr => ∃ (i : Nat) (p : Nat) (F : Nat → Prop) (D : Dia), i + h = n ∧ iv = .int .i64 i ∧ sv = .pointer (some ⟨p, 0, none⟩) ∧ Dg18 DS w wr B p F D)
  case atStart => exact ⟨0, p, F, newD, by omega, rfl, rfl, hS⟩
  case round =>
    clear hS
    obtain ⟨i, p, F, D, hi, rfl, rfl, hS⟩ := hrel
    cases gk with
    | zero =>
      have hi1 : ¬ ((i : Int) < n) := by omega
      have HS := Lib.hid hS.x
      clear hS
      go_wp2_with fail
      refine (sure18 HK.out _).mono ?_; rintro e w3 ⟨rfl, x3⟩
      go_wp2
      go_ret
      exact ⟨rfl, HS.out.trans x3⟩
    | succ h =>
      have hiO : i < L.length := by rw [HL.out]; omega
      obtain ⟨b, off, rfl, hb, hc⟩ := HA.out.resolve_left (by intro e; rw [e] at hiO; simp at hiO)
      have hZ := HZ.out L[i] (List.getElem_mem _)
      have c0 : w.cell? ⟨b, off + i * 3, none⟩ = some (.int .i64 (L[i]).k) := hc i L[i] (List.getElem?_eq_getElem hiO) 0 _ rfl
      have c1 := hc i L[i] (List.getElem?_eq_getElem hiO) 1 _ rfl
      have c2 := hc i L[i] (List.getElem?_eq_getElem hiO) 2 _ rfl
      generalize L[i] = z at hZ c0 c1 c2
      obtain ⟨k, x, za, zm, zd, zf⟩ := z
      have HC := Lib.hid (fun W (x : Ext w W) => And.intro (x.cell hb c0) (And.intro (x.cell hb c1) (x.cell hb c2)))
      have hi1 : (i : Int) < n := by omega
      have hi120 : (i : Int) ≤ 120 := by have := HN.out; omega
      obtain ⟨d0, d1, d2⟩ := HC.out _ hS.x
      have HI := Lib.hid hi
      have HZZ := Lib.hid hZ
      have hwx := hZ.wx
      clear hc c0 c1 c2 hiO hi hZ hb
      simp only at d0 d1 d2 HC HZZ hwx
      by_cases hbig : 600 < zm
      · have hm : (600 : Int) < zm := by omega
        have HS := Lib.hid hS.x
        clear hbig hS
        go_wp2_with fail
        refine (sure18 HK.out _).mono ?_; rintro e w3 ⟨rfl, x3⟩
        go_wp2
        go_ret
        exact ⟨rfl, HS.out.trans x3⟩
      · have hm : ¬ (600 : Int) < zm := by omega
        have hm600 : zm ≤ 600 := by omega
        have HM := Lib.hid hm600
        clear hbig hm600
        by_cases hk0 : k = 0
        · subst hk0
          have hz := HZZ.out
          have hoff : OffN F za zm := by
            rcases hz.h with e | ⟨b', o', e, hlt, -⟩
            · exact .inl e
            · exact .inr fun q hq hF => by have e : za = _ := e; rw [e] at hq; cases hq; have := hS.a _ hF; have : w.heap.size ≤ b' := this; have hlt : b' < w.heap.size := hlt; omega
          have KD := Lib.hid (HK.out.does p F D za zm zd zf wr hS.s (hz.h.ext hS.x) hoff HM.out hz.l hz.m hz.b)
          have KR := Lib.hid (fun W (x : Ext w W) => rdo18_any D za zm zd zf W (hz.h.ext x) HM.out hz.l hz.m hz.b (HK.out.bd hS.s))
          have HMW := Lib.hid (dgM_ways zm zf)
          have hM6 : dgM zm zf ≤ 600 := dgM_le HM.out
          unfold RDo18 at KR
          clear hoff hz
          generalize dgM zm zf = M at *
          generalize dgW zm zf = Wh at *
          generalize dgE zm zf = Er at *
          generalize dgD D zm zf = D' at *
          have HM6 := Lib.hid hM6
          clear hM6
          go_upto_region 18 with (first
            | (go_at_call 8; refine (KD.out).mono ?_; rintro e w2 ⟨b6, q6, G, rfl, hb6, ob6, k2, T2, g2⟩))
          obtain ⟨s2, n2, a2, x2, b2⟩ := hS.turn k2 T2 g2
          have hBl := hS.l
          have HL2 := Lib.hid (fun W (x : Ext w2 W) => And.intro (x.block b2) (HC.out _ (x2.trans x)).2.2)
          have HB6 := Lib.hid hb6
          have HS2 := Lib.hid s2
          have HG := Lib.hid (And.intro n2 (And.intro a2 (And.intro x2 hBl)))
          clear hS k2 T2 g2 hb6 ob6 s2 n2 a2 hBl d0 d1 d2 KD
          go_cut [9, 10, 11, 12] (fun v9 v10 v11 v12 wx => ∃ (g : Nat) (bb : Option Addr) (q : Nat), v9 = .pointer (some ⟨g, 0, none⟩) ∧ v10 = .slice bb M q ∧ v11 = .int .i64 Wh ∧ v12 = .int .i64 Er ∧ wx.heap[g]? = some (.cells (diaC D') 29 (0, 0)) ∧ HoldsG (Value.int .u8) wx bb M (dgB D zf) ∧ Ext w2 wx)
          case first =>
            have hd : Ext w2 w2.drew := Ext.drew w2
            have hs := hd
            refine wp_region_held_drew (S := fun W => Ext w2 W) (by kernel_rfl) hs (fun _ => ?_)
            refine wpAnyH_takeD (i := 0) (d := 61) rfl rfl (by kernel_rfl) (by kernel_rfl) (by kernel_rfl) (fun _ _ _ h => h) (yieldsIf_load_row (by rfl) 29 (.tmp 4) rfl (B) rfl 29 _ (0, 0) _ (fun w' hw' => (HL2.out _ hw').1) Try.underlying29 rfl (by kernel_rfl)) hs ?_
            simp only [Act.put, List.setIfInBounds_toArray, List.set_cons_succ, List.set_cons_zero]
            refine wpAnyH_takeD (i := 1) (d := 62) (v := .slice (some ⟨b, off, none⟩) n c) rfl rfl (by kernel_rfl) (by kernel_rfl) (by kernel_rfl) (fun _ _ _ h => h) (Or.inl ⟨by rfl, fun W hW => by go_simp⟩) hs ?_
            simp only [Act.put, List.setIfInBounds_toArray, List.set_cons_succ, List.set_cons_zero]
            refine wpAnyH_takeD (i := 2) (d := 63) (v := .int .i64 i) rfl rfl (by kernel_rfl) (by kernel_rfl) (by kernel_rfl) (fun _ _ _ h => h) (Or.inl ⟨by rfl, fun W hW => by go_simp⟩) hs ?_
            simp only [Act.put, List.setIfInBounds_toArray, List.set_cons_succ, List.set_cons_zero]
            refine wpAnyH_takeD (i := 3) (d := 64) (v := .pointer (some ⟨b, off + i * 3, none⟩)) rfl rfl (by kernel_rfl) (by kernel_rfl) (by kernel_rfl) (fun _ _ _ h => h) (Or.inl ⟨by rfl, fun W hW => by have kc := (HL2.out W hW).2; go_simp⟩) hs ?_
            simp only [Act.put, List.setIfInBounds_toArray, List.set_cons_succ, List.set_cons_zero]
            refine wpAnyH_takeD (i := 4) (d := 65) (v := .pointer (some ⟨b, off + i * 3 + 2, none⟩)) rfl rfl (by kernel_rfl) (by kernel_rfl) (by kernel_rfl) (fun _ _ _ h => h) (Or.inl ⟨by rfl, fun W hW => by go_simp⟩) hs ?_
            simp only [Act.put, List.setIfInBounds_toArray, List.set_cons_succ, List.set_cons_zero]
            refine wpAnyH_takeD (i := 5) (d := 66) (v := .slice za zm zd) rfl rfl (by kernel_rfl) (by kernel_rfl) (by kernel_rfl) (fun _ _ _ h => h) (Or.inl ⟨by rfl, fun W hW => by have kc := (HL2.out W hW).2; go_simp⟩) hs ?_
            simp only [Act.put, List.setIfInBounds_toArray, List.set_cons_succ, List.set_cons_zero]
            refine wpAnyH_ready (rs := [6, 12]) (by kernel_rfl) (by simp) (AllReadyH.cons rfl (fun K hK => ?_) (AllReadyH.cons rfl (fun K hK => ?_) AllReadyH.nil))
            · go_simp
              refine (KR.out _ (HG.out.2.2.1.trans hd)).mono ?_; rintro e w3 ⟨bb, q, rfl, hbb, x3⟩
              go_wp2_with fail
              have y3 := hd.trans x3
              refine hK.out _ _ y3 (fun hs => ?_)
              clear hK K
              refine wpAnyH_takeD (i := 7) (d := 60) (v := .tuple #[.agg (diaC D'), .slice bb M q, .int .i64 Wh, .int .i64 Er]) rfl rfl (by kernel_rfl) (by kernel_rfl) (by kernel_rfl) (fun _ _ _ h => h) (Or.inl ⟨by rfl, fun W hW => by go_simp⟩) hs ?_
              simp only [Act.put, List.setIfInBounds_toArray, List.set_cons_succ, List.set_cons_zero]
              refine wpAnyH_takeD (i := 8) (d := 68) (v := .agg (diaC D')) rfl rfl (by kernel_rfl) (by kernel_rfl) (by kernel_rfl) (fun _ _ _ h => h) (Or.inl ⟨by rfl, fun W hW => by go_simp⟩) hs ?_
              simp only [Act.put, List.setIfInBounds_toArray, List.set_cons_succ, List.set_cons_zero]
              refine wpAnyH_takeD (i := 9) (d := 69) (v := .slice bb M q) rfl rfl (by kernel_rfl) (by kernel_rfl) (by kernel_rfl) (fun _ _ _ h => h) (Or.inl ⟨by rfl, fun W hW => by go_simp⟩) hs ?_
              simp only [Act.put, List.setIfInBounds_toArray, List.set_cons_succ, List.set_cons_zero]
              refine wpAnyH_takeD (i := 10) (d := 70) (v := .int .i64 Wh) rfl rfl (by kernel_rfl) (by kernel_rfl) (by kernel_rfl) (fun _ _ _ h => h) (Or.inl ⟨by rfl, fun W hW => by go_simp⟩) hs ?_
              simp only [Act.put, List.setIfInBounds_toArray, List.set_cons_succ, List.set_cons_zero]
              refine wpAnyH_takeD (i := 11) (d := 71) (v := .int .i64 Er) rfl rfl (by kernel_rfl) (by kernel_rfl) (by kernel_rfl) (fun _ _ _ h => h) (Or.inl ⟨by rfl, fun W hW => by go_simp⟩) hs ?_
              simp only [Act.put, List.setIfInBounds_toArray, List.set_cons_succ, List.set_cons_zero]
              refine wpAnyH_ready (rs := [12]) (by kernel_rfl) (by simp) (AllReadyH.cons rfl (fun K hK => ?_) AllReadyH.nil)
              go_simp
              refine hK.out _ _ (y3.trans (Ext.alloc _ _)) (fun hs => ?_)
              clear hK K
              refine wpAnyH_ready (rs := [13]) (by kernel_rfl) (by simp) (AllReadyH.cons rfl (fun K hK => ?_) AllReadyH.nil)
              refine step_store_row rfl 29 (.tmp 9) (.tmp 68) rfl (w3.heap.size) _ rfl rfl 29 _ (heap_alloc_new w3 _) (by kernel_rfl) rfl (by simp [diaC, Value.oneCell']) rfl ?_
              have y4 := below_setRow (y3.trans (Ext.alloc w3 (.cells #[.int .u16 0, .int .u16 0, .int .u16 0, .int .u16 0, .int .u16 0, .int .u16 0, .int .u16 0, .int .u16 0, .int .u16 0, .bool false, .int .u8 0] 29))) y3.size (diaC D')
              have h4 := u8_keep (D := zeroD18) (W' := (w3.alloc (.cells #[.int .u16 0, .int .u16 0, .int .u16 0, .int .u16 0, .int .u16 0, .int .u16 0, .int .u16 0, .int .u16 0, .int .u16 0, .bool false, .int .u8 0] 29)).setRow w3.heap.size (diaC D')) (heap_alloc_new w3 (.cells #[.int .u16 0, .int .u16 0, .int .u16 0, .int .u16 0, .int .u16 0, .int .u16 0, .int .u16 0, .int .u16 0, .int .u16 0, .bool false, .int .u8 0] 29)) (HoldsG.ext hbb (Ext.alloc w3 _)) HMW.out ⟨rfl, rfl, rfl, by simp, fun k _ hn => setRow_other _ _ k _ hn⟩
              refine hK.out _ _ y4 (fun hs => ?_)
              clear hK K
              simp only [Act.put]
              refine wpAnyH_takeD (i := 14) (d := 10) (v := .slice bb M q) rfl rfl (by kernel_rfl) (by kernel_rfl) (by kernel_rfl) (fun _ _ _ h => h) (Or.inl ⟨by rfl, fun W hW => by go_simp⟩) hs ?_
              simp only [Act.put, List.setIfInBounds_toArray, List.set_cons_succ, List.set_cons_zero]
              refine wpAnyH_takeD (i := 15) (d := 11) (v := .int .i64 Wh) rfl rfl (by kernel_rfl) (by kernel_rfl) (by kernel_rfl) (fun _ _ _ h => h) (Or.inl ⟨by rfl, fun W hW => by go_simp⟩) hs ?_
              simp only [Act.put, List.setIfInBounds_toArray, List.set_cons_succ, List.set_cons_zero]
              refine wpAnyH_takeD (i := 16) (d := 12) (v := .int .i64 Er) rfl rfl (by kernel_rfl) (by kernel_rfl) (by kernel_rfl) (fun _ _ _ h => h) (Or.inl ⟨by rfl, fun W hW => by go_simp⟩) hs ?_
              simp only [Act.put, List.setIfInBounds_toArray, List.set_cons_succ, List.set_cons_zero]
              refine wpAnyH_done (by kernel_rfl) ?_ _
              go_wp2_with fail
              go_meet
              exact ⟨_, bb, q, rfl, rfl, rfl, rfl, setRow_heap _ _ _ _ _ _ (heap_alloc_new w3 _), h4, y4⟩
            · go_simp
              refine hK.out _ _ (hd.trans (Ext.alloc _ _)) (fun hs => ?_)
              clear hK K
              refine wpAnyH_ready (rs := [6]) (by kernel_rfl) (by simp) (AllReadyH.cons rfl (fun K hK => ?_) AllReadyH.nil)
              go_simp
              refine (KR.out _ (HG.out.2.2.1.trans (hd.trans (Ext.alloc _ _)))).mono ?_; rintro e w3 ⟨bb, q, rfl, hbb, x3⟩
              go_wp2_with fail
              have y3 := (hd.trans (Ext.alloc _ _)).trans x3
              refine hK.out _ _ y3 (fun hs => ?_)
              clear hK K
              refine wpAnyH_takeD (i := 7) (d := 60) (v := .tuple #[.agg (diaC D'), .slice bb M q, .int .i64 Wh, .int .i64 Er]) rfl rfl (by kernel_rfl) (by kernel_rfl) (by kernel_rfl) (fun _ _ _ h => h) (Or.inl ⟨by rfl, fun W hW => by go_simp⟩) hs ?_
              simp only [Act.put, List.setIfInBounds_toArray, List.set_cons_succ, List.set_cons_zero]
              refine wpAnyH_takeD (i := 8) (d := 68) (v := .agg (diaC D')) rfl rfl (by kernel_rfl) (by kernel_rfl) (by kernel_rfl) (fun _ _ _ h => h) (Or.inl ⟨by rfl, fun W hW => by go_simp⟩) hs ?_
              simp only [Act.put, List.setIfInBounds_toArray, List.set_cons_succ, List.set_cons_zero]
              refine wpAnyH_takeD (i := 9) (d := 69) (v := .slice bb M q) rfl rfl (by kernel_rfl) (by kernel_rfl) (by kernel_rfl) (fun _ _ _ h => h) (Or.inl ⟨by rfl, fun W hW => by go_simp⟩) hs ?_
              simp only [Act.put, List.setIfInBounds_toArray, List.set_cons_succ, List.set_cons_zero]
              refine wpAnyH_takeD (i := 10) (d := 70) (v := .int .i64 Wh) rfl rfl (by kernel_rfl) (by kernel_rfl) (by kernel_rfl) (fun _ _ _ h => h) (Or.inl ⟨by rfl, fun W hW => by go_simp⟩) hs ?_
              simp only [Act.put, List.setIfInBounds_toArray, List.set_cons_succ, List.set_cons_zero]
              refine wpAnyH_takeD (i := 11) (d := 71) (v := .int .i64 Er) rfl rfl (by kernel_rfl) (by kernel_rfl) (by kernel_rfl) (fun _ _ _ h => h) (Or.inl ⟨by rfl, fun W hW => by go_simp⟩) hs ?_
              simp only [Act.put, List.setIfInBounds_toArray, List.set_cons_succ, List.set_cons_zero]
              refine wpAnyH_ready (rs := [13]) (by kernel_rfl) (by simp) (AllReadyH.cons rfl (fun K hK => ?_) AllReadyH.nil)
              refine step_store_row rfl 29 (.tmp 9) (.tmp 68) rfl (w2.drew.heap.size) _ rfl rfl 29 _ (x3.block (heap_alloc_new w2.drew _)) (by kernel_rfl) rfl (by simp [diaC, Value.oneCell']) rfl ?_
              have y4 := below_setRow y3 hd.size (diaC D')
              have h4 := u8_keep (D := zeroD18) (W' := w3.setRow w2.drew.heap.size (diaC D')) (x3.block (heap_alloc_new w2.drew (.cells #[.int .u16 0, .int .u16 0, .int .u16 0, .int .u16 0, .int .u16 0, .int .u16 0, .int .u16 0, .int .u16 0, .int .u16 0, .bool false, .int .u8 0] 29))) hbb HMW.out ⟨rfl, rfl, rfl, by simp, fun k _ hn => setRow_other _ _ k _ hn⟩
              refine hK.out _ _ y4 (fun hs => ?_)
              clear hK K
              simp only [Act.put]
              refine wpAnyH_takeD (i := 14) (d := 10) (v := .slice bb M q) rfl rfl (by kernel_rfl) (by kernel_rfl) (by kernel_rfl) (fun _ _ _ h => h) (Or.inl ⟨by rfl, fun W hW => by go_simp⟩) hs ?_
              simp only [Act.put, List.setIfInBounds_toArray, List.set_cons_succ, List.set_cons_zero]
              refine wpAnyH_takeD (i := 15) (d := 11) (v := .int .i64 Wh) rfl rfl (by kernel_rfl) (by kernel_rfl) (by kernel_rfl) (fun _ _ _ h => h) (Or.inl ⟨by rfl, fun W hW => by go_simp⟩) hs ?_
              simp only [Act.put, List.setIfInBounds_toArray, List.set_cons_succ, List.set_cons_zero]
              refine wpAnyH_takeD (i := 16) (d := 12) (v := .int .i64 Er) rfl rfl (by kernel_rfl) (by kernel_rfl) (by kernel_rfl) (fun _ _ _ h => h) (Or.inl ⟨by rfl, fun W hW => by go_simp⟩) hs ?_
              simp only [Act.put, List.setIfInBounds_toArray, List.set_cons_succ, List.set_cons_zero]
              refine wpAnyH_done (by kernel_rfl) ?_ _
              go_wp2_with fail
              go_meet
              exact ⟨_, bb, q, rfl, rfl, rfl, rfl, setRow_heap _ _ _ _ _ _ (x3.block (heap_alloc_new w2.drew (.cells #[.int .u16 0, .int .u16 0, .int .u16 0, .int .u16 0, .int .u16 0, .int .u16 0, .int .u16 0, .int .u16 0, .int .u16 0, .bool false, .int .u8 0] 29))), h4, y4⟩
          case rest =>
          obtain ⟨g, bb, q, rfl, rfl, rfl, rfl, hg, hbb, x3⟩ := hcut
          obtain ⟨w3, hw3⟩ : ∃ W, W = wc := ⟨_, rfl⟩
          rw [← hw3] at hg hbb x3 ⊢
          clear hw3
          have b3 := (HL2.out _ x3).1
          go_upto_region 20 with (first
            | (refine wpList_load_row rfl 29 (.tmp 9) rfl (g) rfl 29 _ (0, 0) _ hg Try.underlying29 rfl (by kernel_rfl) ?_)
            | (refine wpList_store_row rfl 29 (.tmp 4) (.tmp 72) rfl (B) _ rfl rfl 29 _ b3 (by kernel_rfl) rfl (by simp [diaC, Value.oneCell']) ?_))
          obtain ⟨w4, hw4⟩ : ∃ W, W = w3.setRow B (diaC D') := ⟨_, rfl⟩
          have k4 : Keep (fun q => q = B) w3 w4 := by rw [hw4]; exact ⟨rfl, rfl, rfl, by simp, fun k _ hn => setRow_other w3 _ k _ hn⟩
          have S4 : Dg18 DS w w4 B p G D' := by
            refine ⟨HK.out.keep (HK.out.ext HS2.out x3) k4 (fun q hq e => by have e : q = B := e; exact HG.out.1 (e ▸ hq)), HG.out.1, HG.out.2.1, ?_, ?_, HG.out.2.2.2⟩
            · rw [hw4]; exact below_setRow (HG.out.2.2.1.trans x3) HG.out.2.2.2 _
            · rw [hw4]; exact setRow_heap _ _ _ _ _ _ b3
          have h6 := u8_keep b3 (HoldsG.ext HB6.out x3) HMW.out k4
          have h7 := u8_keep b3 hbb HMW.out k4
          rw [← hw4]
          clear hw4 k4 b3 hbb hg x3 x2 b2 HB6 HS2 HG HL2 KR
          have hWW : (Wh != Wh) = false := by simp
          have hEE : (Er != Er) = false := by simp
          simp only [Act.put]
          go_wp2_with fail
          refine (bytes_eq b6 bb M M q6 q (dgB D zf) (dgB D zf) w4 h6 h7 (by have := HM6.out; omega) ⟨rfl, fun _ _ => rfl⟩).mono ?_; rintro e w5 ⟨rfl, x5⟩
          have S5 := S4.ext HK.out x5
          clear S4 h6 h7
          have bb := S5.b
          go_wp2_with (first
            | (refine wpList_load_row rfl 29 (.tmp 4) rfl (B) rfl 29 _ (0, 0) _ bb Try.underlying29 rfl (by kernel_rfl) ?_))
          refine (like18_v HK.out _ _ _ _ S5.s).mono ?_; rintro e wl ⟨rfl, xl⟩
          have SL := S5.ext HK.out xl
          clear bb
          go_wp2
          go_roundg h
          case rel => exact ⟨i + 1, _, _, _, by have := HI.out; omega, by go_num, rfl, SL⟩
          case measure => omega
        · have z0 : (k == 0) = false := by simp [hk0]
          by_cases hk1 : k = 1
          · subst hk1
            by_cases hx : 0 ≤ x ∧ x < 8
            · obtain ⟨j, rfl⟩ : ∃ j : Nat, x = j := ⟨x.toNat, by omega⟩
              have hj : j < 8 := by omega
              have hjI : (j : Int) < 8 := by omega
              have hj0 : (0 : Int) ≤ j := by omega
              have hcj := dia_cell hS.b j hj
              have hfj := frozen18 (j := j) hS.b
              have hwr : IntKind.u16.wrap (D.C j + 1) = (D.C j + 1) % 65536 := by rw [IntKind.wrap_u16]
              have HD : Hid (cntD D j = { D with C := upd D.C j ((D.C j + 1) % 65536) } ∧ cntE j = 0) := Lib.hid (by unfold cntD cntE; rw [if_pos hx, if_pos hx, Int.toNat_natCast]; exact ⟨rfl, rfl⟩)
              have HJ := Lib.hid hj
              clear hx hj
              go_upto_region 26 with fail
              obtain ⟨w2, hw2⟩ : ∃ W, W = wr.setCell ⟨B, j, none⟩ (.int .u16 ((D.C j + 1) % 65536)) := ⟨_, rfl⟩
              have k2 : Keep (fun q => q = B) wr w2 := by rw [hw2]; exact keepCellM wr B j _
              have b2 : w2.heap[B]? = some (.cells (diaC { D with C := upd D.C j ((D.C j + 1) % 65536) }) 29 (0, 0)) := by rw [hw2, ← dia_put D j HJ.out]; exact heap_setCell_same _ _ j _ _ _ hS.b
              have x2 : Ext w w2 := by rw [hw2]; exact Below.setCell hS.x hS.l _
              have s2 := HK.out.keep hS.s k2 (fun q hq e => by have e : q = B := e; exact hS.n (e ▸ hq))
              obtain ⟨d0', d1', d2'⟩ := HC.out _ x2
              rw [← hw2]
              clear hw2 hcj hfj hwr d0 d1 d2
              go_wp2_with fail
              refine (HK.out.count p F D j w2 s2 hwx).mono ?_; rintro e w4 ⟨G, rfl, k4, T4, g4⟩
              rw [HD.out.2]
              rw [HD.out.1] at T4
              have S4 : Dg18 DS w w4 B p G { D with C := upd D.C j ((D.C j + 1) % 65536) } := ⟨T4, fun hG => (g4 B hG).elim hS.n (fun e => absurd (heap_lt b2) (by omega)), hS.a.grows g4 x2, x2.keep k4 hS.a, (k4.block B (heap_lt b2) hS.n).trans b2, hS.l⟩
              clear s2 k2 b2 x2 k4 T4 g4 hS d0' d1' d2'
              have bb := S4.b
              go_wp2_with (first
                | (refine wpList_load_row rfl 29 (.tmp 4) rfl (B) rfl 29 _ (0, 0) _ bb Try.underlying29 rfl (by kernel_rfl) ?_))
              refine (like18_v HK.out _ _ _ _ S4.s).mono ?_; rintro e wl ⟨rfl, xl⟩
              have SL := S4.ext HK.out xl
              clear bb
              go_wp2
              go_roundg h
              case rel => exact ⟨i + 1, _, _, _, by have := HI.out; omega, by go_num, rfl, SL⟩
              case measure => omega
            · have hcE : cntE x = 11 ∧ cntD D x = D := by unfold cntE cntD; rw [if_neg hx, if_neg hx]; exact ⟨rfl, rfl⟩
              have HE := Lib.hid hcE
              have KC := Lib.hid (HK.out.count p F D x wr hS.s hwx)
              rw [hcE.1, hcE.2] at KC
              clear hcE
              by_cases h0 : 0 ≤ x
              · have h8 : ¬ x < 8 := by omega
                have g0 : decide (0 ≤ x) = true := decide_eq_true h0
                have g8 : decide (x < 8) = false := decide_eq_false h8
                clear hx h0 h8
                go_wp2_with fail
                refine (KC.out).mono ?_; rintro e w4 ⟨G, rfl, k4, T4, g4⟩
                obtain ⟨s4, n4, a4, x4, b4⟩ := hS.turn k4 T4 g4
                have S4 : Dg18 DS w w4 B p G D := ⟨s4, n4, a4, x4, b4, hS.l⟩
                clear s4 n4 a4 x4 b4 k4 T4 g4 hS d0 d1 d2 KC
                have bb := S4.b
                go_wp2_with (first
                  | (refine wpList_load_row rfl 29 (.tmp 4) rfl (B) rfl 29 _ (0, 0) _ bb Try.underlying29 rfl (by kernel_rfl) ?_))
                refine (like18_v HK.out _ _ _ _ S4.s).mono ?_; rintro e wl ⟨rfl, xl⟩
                have SL := S4.ext HK.out xl
                clear bb
                go_wp2
                go_roundg h
                case rel => exact ⟨i + 1, _, _, _, by have := HI.out; omega, by go_num, rfl, SL⟩
                case measure => omega
              · have g0 : decide (0 ≤ x) = false := decide_eq_false h0
                clear hx h0
                go_wp2_with fail
                refine (KC.out).mono ?_; rintro e w4 ⟨G, rfl, k4, T4, g4⟩
                obtain ⟨s4, n4, a4, x4, b4⟩ := hS.turn k4 T4 g4
                have S4 : Dg18 DS w w4 B p G D := ⟨s4, n4, a4, x4, b4, hS.l⟩
                clear s4 n4 a4 x4 b4 k4 T4 g4 hS d0 d1 d2 KC
                have bb := S4.b
                go_wp2_with (first
                  | (refine wpList_load_row rfl 29 (.tmp 4) rfl (B) rfl 29 _ (0, 0) _ bb Try.underlying29 rfl (by kernel_rfl) ?_))
                refine (like18_v HK.out _ _ _ _ S4.s).mono ?_; rintro e wl ⟨rfl, xl⟩
                have SL := S4.ext HK.out xl
                clear bb
                go_wp2
                go_roundg h
                case rel => exact ⟨i + 1, _, _, _, by have := HI.out; omega, by go_num, rfl, SL⟩
                case measure => omega
          · have z1 : (k == 1) = false := by simp [hk1]
            by_cases hk2 : k = 2
            · subst hk2
              obtain ⟨v, hv⟩ : ∃ v, IntKind.u16.wrap (x.tmod 65536) = v := ⟨_, rfl⟩
              have hv2 : 0 ≤ v ∧ v < 65536 := by rw [← hv, IntKind.wrap_u16]; omega
              have hwt : IntKind.i64.wrap (x.tmod 65536) = x.tmod 65536 := by have := tmod18 x; exact IntWalk.i64_in _ (by omega)
              have KS := Lib.hid (HK.out.setreg p F D v wr hS.s hv2.1 hv2.2)
              clear hv2
              go_wp2_with fail
              refine (KS.out).mono ?_; rintro e w3 ⟨G, rfl, k3, T3, g3⟩
              obtain ⟨s3, n3, a3, x3, b3⟩ := hS.turn k3 T3 g3
              obtain ⟨e0, e1, e2⟩ := HC.out _ x3
              have c8 : w3.cell? ⟨B, 8, none⟩ = some (.int .u16 D.reg) := cell_of_heap b3 rfl
              have f8 := frozen18 (j := 8) b3
              go_upto_region 31 with fail
              obtain ⟨w4, hw4⟩ : ∃ W, W = w3.setCell ⟨B, 8, none⟩ (.int .u16 v) := ⟨_, rfl⟩
              have S4 : Dg18 DS w w4 B p G { D with reg := v } := by
                rw [hw4]
                refine ⟨HK.out.keep s3 (keepCellM w3 B 8 _) (fun q hq e => by have e : q = B := e; exact n3 (e ▸ hq)), n3, a3, Below.setCell x3 hS.l _, ?_, hS.l⟩
                have h := heap_setCell_same w3 B 8 _ _ (.int .u16 v) b3
                rw [h]
                simp only [diaC, List.setIfInBounds_toArray, List.set_cons_succ, List.set_cons_zero]
              rw [← hw4]
              clear hw4 s3 n3 a3 x3 b3 c8 f8 e0 e1 e2 d0 d1 d2 k3 T3 g3 hS hwt hv
              have bb := S4.b
              go_wp2_with (first
                | (refine wpList_load_row rfl 29 (.tmp 4) rfl (B) rfl 29 _ (0, 0) _ bb Try.underlying29 rfl (by kernel_rfl) ?_))
              refine (like18_v HK.out _ _ _ _ S4.s).mono ?_; rintro e wl ⟨rfl, xl⟩
              have SL := S4.ext HK.out xl
              clear bb
              go_wp2
              go_roundg h
              case rel => exact ⟨i + 1, _, _, _, by have := HI.out; omega, by go_num, rfl, SL⟩
              case measure => omega
            · have z2 : (k == 2) = false := by simp [hk2]
              clear hk0 hk1 hk2
              go_wp2_with fail
              refine (HK.out.clone p F D _ hS.s).mono ?_; rintro e w3 ⟨p', F', rfl, x3, T3, n3⟩
              have S3 := hS.ext HK.out x3
              have n3' : Above w F' := n3.of hS.x
              have nB : ¬ F' B := fun hF => by have := n3 _ hF; have := heap_lt hS.b; omega
              have apart : ∀ q, F' q → ¬ F q := fun q hF hq => by have := n3 _ hF; have := HK.out.lt hS.s _ hq; omega
              go_wp2_with fail
              refine (HK.out.count p F D 0 w3 S3.s (by decide)).mono ?_; rintro e w4 ⟨G, rfl, k4, T4, g4⟩
              obtain ⟨-, -, -, x4, b4⟩ := S3.turn k4 T4 g4
              have S4 : Dg18 DS w w4 B p' F' D := ⟨HK.out.keep T3 k4 apart, nB, n3', x4, b4, S3.l⟩
              clear S3 T3 n3 n3' nB apart k4 T4 g4 x4 b4 hS x3 d0 d1 d2
              have bb := S4.b
              go_wp2_with (first
                | (refine wpList_load_row rfl 29 (.tmp 4) rfl (B) rfl 29 _ (0, 0) _ bb Try.underlying29 rfl (by kernel_rfl) ?_))
              refine (like18_v HK.out _ _ _ _ S4.s).mono ?_; rintro e wl ⟨rfl, xl⟩
              have SL := S4.ext HK.out xl
              clear bb
              go_wp2
              go_roundg h
              case rel => exact ⟨i + 1, _, _, _, by have := HI.out; omega, by go_num, rfl, SL⟩
              case measure => omega
end Go.Proofs.Ytchdgodmncckcaa
