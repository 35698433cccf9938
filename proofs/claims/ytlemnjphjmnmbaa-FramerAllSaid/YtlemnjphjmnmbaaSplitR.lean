/-
  CONTRACTS: bilgeref09.one: a segment with a byte more.
-/
import Derived.Test.YtlemnjphjmnmbaaSegsR
import Derived.Test.YtlemnjphjmnmbaaAppend
import Derived.Test.YtlemnjphjmnmbaaStructs
import Derived.Test.YtlemnjphjmnmbaaKeep
import Derived.Deep.RegionLaw
import Derived.Deep.DeepMust
import Derived.Deep.DeepCutAuto
import Derived.Laws.CopyOwn
namespace Go.Proofs.Ytlemnjphjmnmbaa
open Go.RowKit
set_option linter.unusedVariables false

section
variable {P : Program} {w : World}
/-- append onto a row of the call's own, of whatever slice of one-cell values, as a step of a region that draws. -/
theorem step_append_holds {α : Type} {mk : α → Value} {ops : Array Oper} {o : Oper} {a : Act} {K : Act → World → Prop} {Q : Exit → Act → World → Prop} {E : Prop} (hgd : o.guard = none) (s x : Operand) (t : TypeId)
    (ho : o.op = .call { callee := .builtin .append, args := #[s, x], argTypes := #[t, t] })
    (base : Nat) (e : TypeId) (i : TypeInfo) (z : Value) (bytes : Nat) (ht : P.underlying t = some (.slice e)) (hi : P.info? e = some i) (hz : i.zero = some z)
    (hsize : i.size = 1) (hby : i.bytes = bytes) (hzs : z.cells.size = 1)
    (v : Value) (n : Nat) (xs : List Value) (hs : a.eval s = v) (hown : w.ownsRow base e 1 v n xs)
    (A : Option Addr) (m c : Nat) (f : Nat → α) (hx : a.eval x = .slice A m c) (hh : HoldsG mk w A m f) (h1 : ∀ u, (mk u).oneCell' = true)
    (h63 : n + m ≤ maxLen) (hbytes : (n + m) * bytes ≤ 140737488355328) (hbase : base ≤ w.heap.size)
    (h : ∀ v' w', w'.ownsRow base e 1 v' (n + m) (xs ++ lstG mk f m) → w.grownBy w' v.ownBlock → Below base w w' → K (a.put o.dst v') w') :
    if Region.wanted o (yielded ops a.tmps) = true then Oper.wp P o a w K Q else E := by
  by_cases hm : m = 0
  · subst hm
    have hw : Region.wanted o (yielded ops a.tmps) = true := by simp [Region.wanted, hgd]
    rw [if_pos hw]
    have hrun := run_append_zero (P := P) (w := w) base t o.type e i 1 ht hi v n xs hown A c
    have hK := h v w (by simpa [lstG] using hown) (World.grownBy.refl w _) (Below.refl _ _)
    unfold Oper.wp
    simp [execOp, ho, resolve, invoke, builtin, hs, hx, hrun, Result.andThen]
    exact hK
  · obtain ⟨b, off, rfl, hlt, hc⟩ := hh.resolve_left hm
    refine step_append_lies w hgd s x t ho base e i z 1 bytes ht hi hz hsize hby hzs (by omega) v n xs hs hown ⟨b, off, none⟩ m c (lstG mk f m) hx (by rw [lstG_length]; omega) ?_ ?_ (by omega) h63 hbytes hbase w.heap.size rfl ?_
    · intro j u hu
      have hj : j < m := by
        rcases Nat.lt_or_ge j m with h | h
        · exact h
        · rw [List.getElem?_eq_none (by rw [lstG_length]; omega)] at hu; cases hu
      rw [lstG_get _ _ _ _ hj] at hu
      have e1 : (⟨b, off, none⟩ : Addr).add j = ⟨b, off + j, none⟩ := by unfold Addr.add; split <;> simp_all
      rw [e1, hc j hj]; exact hu
    · intro u hu
      simp only [lstG, List.mem_map] at hu
      obtain ⟨k, _, rfl⟩ := hu
      exact h1 _
    · intro g cap w' h2 h3 _ _
      exact h _ _ h2 h3 ((Below.refl base w).grown h3 hbase (fun q hq => (hown.lt q hq).1))
end
theorem Try.info8s : (Try.prog.info? 5).map (fun i => (i.zero, i.size, i.bytes)) = some (some (.int .u8 0), 1, 1) := by kernel_rfl
/-- A segment with a byte more. -/
def oneS (s : Seg) (b : Int × Int × Bool) : Seg :=
  ⟨if s.n < 256 then s.n + 1 else s.n, if s.n < 256 then upd s.f s.n b.2.1 else s.f, if s.count = 0 then b.1 else s.first, b.1, s.count + 1, s.gap, s.bad || b.2.2⟩
theorem own_empty {w : World} {g base : Nat} {e : TypeId} (h : w.heap[g]? = some (.cells #[] e (0, 0))) (hb : base ≤ g) : w.ownsRow base e 1 (.slice (some ⟨g, 0, none⟩) 0 0) 0 [] :=
  ⟨rfl, .inr ⟨g, 0, #[], rfl, hb, h, Nat.le_refl _, by unfold maxLen; omega, rfl, rfl⟩⟩
theorem heap_new_at (w : World) (o : Obj) {i : Nat} (h : i = w.heap.size) : (w.alloc o).heap[i]? = some o := by rw [h]; exact heap_alloc_new w o
theorem cell_of_heap {w : World} {g j : Nat} {cs : Array Value} {t : TypeId} {fr : Nat × Nat} {v : Value} (hg : w.heap[g]? = some (.cells cs t fr)) (hv : cs[j]? = some v) : w.cell? ⟨g, j, none⟩ = some v := by rw [cell_of_row _ _ _ _ _ _ hg]; exact hv
theorem heap_lt {w : World} {g : Nat} {o : Obj} (h : w.heap[g]? = some o) : g < w.heap.size := by
  rcases Nat.lt_or_ge g w.heap.size with hlt | hge
  · exact hlt
  · rw [Array.getElem?_eq_none hge] at h; cases h
theorem lst_snoc (k : IntKind) (f : Nat → Int) (n : Nat) (y : Int) : lstG (Value.int k) f n ++ lstG (Value.int k) (fun _ => y) 1 = lst k (upd f n y) (n + 1) := by
  rw [← lst_succ]
  congr 1
  · exact List.map_congr_left fun i hi => by rw [upd_other _ _ _ _ (by have := List.mem_range.1 hi; omega)]
  · simp [lstG, upd_same]
theorem one_held {k : IntKind} {w : World} {g : Nat} {y : Int} (h : w.cell? ⟨g, 0, none⟩ = some (.int k y)) : Holds k w (some ⟨g, 0, none⟩) 1 (fun _ => y) :=
  .inr ⟨g, 0, rfl, World.block_lt_of_cell? w _ h, fun i hi => by
    obtain rfl : i = 0 := by omega
    exact h⟩
theorem ext_drew {w W : World} (x : Ext w W) : Ext w W.drew := x.trans (Ext.drew _)
theorem hid_row {w : World} {g : Nat} {cs : Array Value} {t : TypeId} (h : w.heap[g]? = some (.cells cs t (0, 0))) {w' : World} (x : Ext w w') : w'.heap[g]? = some (.cells cs t (0, 0)) := x.block h
theorem Holds.blocks {k : IntKind} {w w' : World} {a : Option Addr} {n : Nat} {f : Nat → Int} (h : Holds k w a n f) (e : ∀ q o, a = some ⟨q, o, none⟩ → n ≠ 0 → q < w.heap.size → w'.heap[q]? = w.heap[q]?) : Holds k w' a n f := by
  rcases h with h | ⟨b, off, ha, hlt, hc⟩
  · exact .inl h
  · by_cases hn : n = 0
    · exact .inl hn
    · have hb := e b off ha hn hlt
      refine .inr ⟨b, off, ha, ?_, fun i hi => ?_⟩
      · rw [Array.getElem?_eq_getElem hlt] at hb
        exact heap_lt hb
      · rw [← hc i hi]; unfold World.cell?; simp only [hb]
set_option maxRecDepth 100000 in
set_option maxHeartbeats 4000000 in
theorem rone_any (A : Option Addr) (c : Nat) (s : Seg) (b : Int × Int × Bool) (w : World) (ha : Holds .u8 w A s.n s.f) (hc : s.n ≤ c) (hcm : c ≤ maxLen) (hn : s.n ≤ 256) (hk : 0 ≤ s.count) (hk1 : s.count ≤ 1000000) :
    Calls Try.prog 54 #[.agg (segC A c s), .agg (byt b).toArray] w fun e w' => ∃ A' c', e = .returned (.agg (segC A' c' (oneS s b))) ∧ Ext w w' ∧ Holds .u8 w' A' (oneS s b).n (oneS s b).f ∧ (oneS s b).n ≤ c' ∧ c' ≤ maxLen ∧ (A' = A ∧ (oneS s b).n = s.n ∨ Fresh w A') := by
  obtain ⟨i8, hi8, hz80, hz81, hz82⟩ := info_parts Try.info8s
  obtain ⟨r, hr⟩ : ∃ r, r = oneS s b := ⟨_, rfl⟩
  rw [← hr]
  obtain ⟨n, f, t0, t1, k, g, d⟩ := s
  obtain ⟨at0, y, sp⟩ := b
  unfold oneS at hr
  have hsg : segC A c ⟨n, f, t0, t1, k, g, d⟩ = #[.slice A n c, .int .i64 t0, .int .i64 t1, .int .i64 k, .bool g, .bool d] := rfl
  have hby : (byt (at0, y, sp)).toArray = #[.int .i64 at0, .int .u8 y, .bool sp] := rfl
  rw [hsg, hby]
  clear hsg hby
  simp only at ha hc hn hk hk1 hr ⊢
  have HR := Lib.hid hr
  clear hr
  obtain ⟨S, hS⟩ : ∃ S, S = w.heap.size := ⟨_, rfl⟩
  obtain ⟨W3, hW3⟩ : ∃ W, W = ((w.alloc (.cells #[.slice A n c, .int .i64 t0, .int .i64 t1, .int .i64 k, .bool g, .bool d] 48)).alloc (.cells #[.int .i64 at0, .int .u8 y, .bool sp] 46)).alloc (.cells #[.slice none 0 0, .int .i64 0, .int .i64 0, .int .i64 0, .bool false, .bool false] 48) := ⟨_, rfl⟩
  have x3 : Ext w W3 := by rw [hW3]; exact ((Ext.alloc _ _).alloc' _).alloc' _
  have s3 : W3.heap.size = S + 3 := by rw [hW3, hS]; simp
  have g0 : W3.heap[S]? = some (.cells #[.slice A n c, .int .i64 t0, .int .i64 t1, .int .i64 k, .bool g, .bool d] 48 (0, 0)) := by
    rw [hW3, hS, heap_alloc_old _ _ (by simp; omega), heap_alloc_old _ _ (by simp)]; exact heap_alloc_new _ _
  have g1 : W3.heap[S + 1]? = some (.cells #[.int .i64 at0, .int .u8 y, .bool sp] 46 (0, 0)) := by
    rw [hW3, hS, heap_alloc_old _ _ (by simp)]; exact heap_new_at _ _ (by simp)
  have g2 : W3.heap[S + 1 + 1]? = some (.cells #[.slice none 0 0, .int .i64 0, .int .i64 0, .int .i64 0, .bool false, .bool false] 48 (0, 0)) := by
    rw [hW3, hS]; exact heap_new_at _ _ (by simp)
  have HA := Lib.hid ha
  have HC := Lib.hid hc
  have HN := Lib.hid hn
  have HS := Lib.hid hS
  have HX3 := Lib.hid x3
  clear hc hn ha x3
  go_enter Try.func54, Try.ntmps54
  go_upto_if 7 with fail
  rw [← hW3, ← hS]
  clear hW3 hS
  go_cut [] (fun wx => Ext w wx ∧ wx.heap.size = S + 3 ∧ wx.heap[S]? = some (.cells #[.slice A n c, .int .i64 (if k = 0 then at0 else t0), .int .i64 t1, .int .i64 k, .bool g, .bool d] 48 (0, 0)) ∧
    wx.heap[S + 1]? = some (.cells #[.int .i64 at0, .int .u8 y, .bool sp] 46 (0, 0)) ∧ wx.heap[S + 1 + 1]? = some (.cells #[.slice none 0 0, .int .i64 0, .int .i64 0, .int .i64 0, .bool false, .bool false] 48 (0, 0)))
  case first =>
    have c1 := cell_of_heap (j := 0) g1 rfl
    have c2 := cell_of_heap (j := 1) g0 rfl
    have f2 := frozen_of_row _ _ 1 _ _ g0
    have hx := HX3.out
    by_cases hk0 : k = 0
    · subst hk0
      have hend : Ext w (W3.setCell ⟨S, 1, none⟩ (.int .i64 at0)) ∧ (W3.setCell ⟨S, 1, none⟩ (.int .i64 at0)).heap.size = S + 3 ∧
          (W3.setCell ⟨S, 1, none⟩ (.int .i64 at0)).heap[S]? = some (.cells #[.slice A n c, .int .i64 at0, .int .i64 t1, .int .i64 0, .bool g, .bool d] 48 (0, 0)) ∧
          (W3.setCell ⟨S, 1, none⟩ (.int .i64 at0)).heap[S + 1]? = some (.cells #[.int .i64 at0, .int .u8 y, .bool sp] 46 (0, 0)) ∧ (W3.setCell ⟨S, 1, none⟩ (.int .i64 at0)).heap[S + 1 + 1]? = some (.cells #[.slice none 0 0, .int .i64 0, .int .i64 0, .int .i64 0, .bool false, .bool false] 48 (0, 0)) :=
        ⟨Below.set hx (by rw [HS.out]; exact Nat.le_refl _) _, by rw [← s3]; simp [World.setCell], (heap_setCell_same _ _ _ _ _ _ g0).trans rfl, (heap_setCell_other _ _ _ _ (by simp)).trans g1, (heap_setCell_other _ _ _ _ (by simp; omega)).trans g2⟩
      have HEnd := Lib.hid hend
      clear hend g0 g1 g2 hx
      go_wp2_with fail
      go_meet
      exact HEnd.out
    · have hend := And.intro hx (And.intro s3 (And.intro g0 (And.intro g1 g2)))
      have HEnd := Lib.hid hend
      clear hend g0 g1 g2 hx
      go_wp2_with fail
      go_meet
      rw [if_neg hk0]
      exact HEnd.out
  case rest =>
    obtain ⟨x4, s4, g0, g1, g2⟩ := hcut
    clear s3 HX3
    obtain ⟨t0', ht0'⟩ : ∃ t, t = (if k = 0 then at0 else t0) := ⟨_, rfl⟩
    rw [← ht0'] at g0
    have HT0 := Lib.hid ht0'
    clear ht0'
    have n0 : (0 : Int) ≤ n := by omega
    have a0 := cell_of_heap (j := 0) g0 rfl
    go_upto_if 14 with fail
    obtain ⟨W, hW⟩ : ∃ W, W = wc := ⟨_, rfl⟩
    rw [← hW] at x4 s4 g0 g1 g2 a0 ⊢
    clear hW
    go_cut [] (fun wx => ∃ A' c' n' f', Ext w wx ∧ wx.heap[S]? = some (.cells #[.slice A' n' c', .int .i64 t0', .int .i64 t1, .int .i64 k, .bool g, .bool d] 48 (0, 0)) ∧
      wx.heap[S + 1]? = some (.cells #[.int .i64 at0, .int .u8 y, .bool sp] 46 (0, 0)) ∧ wx.heap[S + 1 + 1]? = some (.cells #[.slice none 0 0, .int .i64 0, .int .i64 0, .int .i64 0, .bool false, .bool false] 48 (0, 0)) ∧
      n' = (if n < 256 then n + 1 else n) ∧ f' = (if n < 256 then upd f n y else f) ∧ Holds .u8 wx A' n' f' ∧ n' ≤ c' ∧ c' ≤ maxLen ∧ (A' = A ∧ n' = n ∧ f' = f ∨ ∀ p, A' = some p → S + 3 ≤ p.block))
    case first =>
      by_cases hlt : n < 256
      · have hlt' : decide ((n : Int) < 256) = true := by rw [decide_eq_true_iff]; omega
        have b1 := cell_of_heap (j := 1) g1 rfl
        have f0 := frozen_of_row _ _ 0 _ _ g0
        have hsz : S + 3 ≤ W.heap.size := by omega
        have hSW : S < W.heap.size := by omega
        have hS1W : S + 1 < W.heap.size := by omega
        have HX4 := Lib.hid x4
        have G0 := Lib.hid g0
        have G1 := Lib.hid g1
        have G2 := Lib.hid g2
        have HLt := Lib.hid hlt
        clear x4 g0 g1 g2 hlt s4 n0
        rw [hlt']
        clear hlt'
        go_wp2_with fail
        go_region_law
          (first
            | (refine step_append_holds rfl (.tmp 15) (.tmp 17) 42 rfl (S + 3) 5 i8 (.int .u8 0) 1 Try.underlying42 hi8 hz80 hz81 hz82 rfl _ 0 [] (by rfl)
                (own_empty (by first | exact heap_new_at _ _ (by simp) | exact (heap_alloc_old _ _ (by simp)).trans (heap_new_at _ _ (by simp))) (by omega)) A n c f (by rfl)
                (HA.out.ext (by first | exact ext_drew (HX4.out.alloc' _) | exact ext_drew ((HX4.out.alloc' _).alloc' _))) (fun _ => rfl) (by unfold maxLen; have := HLt.out; omega) (by have := HLt.out; omega) (by first | omega | (simp; omega)) ?_
               intro v18 w18 hown18 hgr18 hb18
               have hbW : Below (S + 3) W w18 := Below.trans (Below.mono (by first | exact ext_drew (Ext.alloc _ _) | exact ext_drew ((Ext.alloc _ _).alloc' _)) hsz) hb18
               have a18 := (hbW.cell (p := ⟨S, 0, none⟩) (by simp)).trans a0
               have b18 := (hbW.cell (p := ⟨S + 1, 1, none⟩) (by simp)).trans b1
               have f18 := frozen_of_row _ _ 0 _ _ ((hbW.block S (by omega)).trans G0.out)
               have l18 : S + 3 ≤ w18.heap.size := Nat.le_trans hsz hbW.size
               have l18' : S < w18.heap.size := by omega
               have l18'' : S + 1 < w18.heap.size := by omega
               first
                 | (have h21 := one_held (hgr18.cell (a := ⟨W.heap.size + 1, 0, none⟩) (v := .int .u8 y) (cell_of_heap (j := 0) (heap_new_at _ _ (by simp)) rfl) (by simp [Value.ownBlock])))
                 | (have h21 := one_held (hgr18.cell (a := ⟨W.heap.size, 0, none⟩) (v := .int .u8 y) (cell_of_heap (j := 0) ((heap_alloc_old _ _ (by simp)).trans (heap_new_at _ _ (by simp))) rfl) (by simp [Value.ownBlock])))
                 | skip
               clear hgr18 hb18)
            | (refine step_append_holds rfl (.tmp 18) (.tmp 21) 42 rfl (S + 3) 5 i8 (.int .u8 0) 1 Try.underlying42 hi8 hz80 hz81 hz82 rfl _ (0 + n) ([] ++ lstG (Value.int .u8) f n) (by rfl)
                (by first | exact hown18 | exact own_ext hown18 (Ext.alloc _ _)) _ 1 1 (fun _ => y) (by rfl) (by first | exact h21 | exact Holds.new (k := .u8) _ #[.int .u8 y] _ 1 (fun _ => y) (fun i hi => (by
                  have hi0 : i = 0 := by omega
                  rw [hi0]; rfl))) (fun _ => rfl) (by unfold maxLen; have := HLt.out; omega) (by have := HLt.out; omega) (by first | omega | (simp; omega)) ?_
               intro v22 w22 hown22 hgr22 hb22
               have hbW2 : Below (S + 3) W w22 := Below.trans hbW (Below.trans (Below.mono (by first | exact Ext.alloc _ _ | exact Ext.refl _) l18) hb22)
               have a22 := (hbW2.cell (p := ⟨S, 0, none⟩) (by simp)).trans a0
               have b22 := (hbW2.cell (p := ⟨S + 1, 1, none⟩) (by simp)).trans b1
               have f22 := frozen_of_row _ _ 0 _ _ ((hbW2.block S (by omega)).trans G0.out)
               have hown23 : w22.ownsRow (S + 3) 5 1 v22 (n + 1) (lst .u8 (upd f n y) (n + 1)) := (by rw [← lst_snoc]; simpa using hown22)
               obtain ⟨A2, c2, hv2, l2, m2, h2, q2⟩ := Holds.of_own_at hown23
               clear hown22 hown23 hown18 hgr22 hb22 hbW a18 b18 f18 l18 l18' l18''
               subst hv2))
        all_goals
         have hend : ∃ A' c' n' f', Ext w (w22.setCell ⟨S, 0, none⟩ (.slice A2 (n + 1) c2)) ∧ (w22.setCell ⟨S, 0, none⟩ (.slice A2 (n + 1) c2)).heap[S]? = some (.cells #[.slice A' n' c', .int .i64 t0', .int .i64 t1, .int .i64 k, .bool g, .bool d] 48 (0, 0)) ∧
             (w22.setCell ⟨S, 0, none⟩ (.slice A2 (n + 1) c2)).heap[S + 1]? = some (.cells #[.int .i64 at0, .int .u8 y, .bool sp] 46 (0, 0)) ∧ (w22.setCell ⟨S, 0, none⟩ (.slice A2 (n + 1) c2)).heap[S + 1 + 1]? = some (.cells #[.slice none 0 0, .int .i64 0, .int .i64 0, .int .i64 0, .bool false, .bool false] 48 (0, 0)) ∧
             n' = (if n < 256 then n + 1 else n) ∧ f' = (if n < 256 then upd f n y else f) ∧ Holds .u8 (w22.setCell ⟨S, 0, none⟩ (.slice A2 (n + 1) c2)) A' n' f' ∧ n' ≤ c' ∧ c' ≤ maxLen ∧ (A' = A ∧ n' = n ∧ f' = f ∨ ∀ p, A' = some p → S + 3 ≤ p.block) := by
           refine ⟨A2, c2, n + 1, upd f n y, ?_, ?_, ?_, ?_, (if_pos HLt.out).symm, (if_pos HLt.out).symm, ?_, l2, m2, .inr fun p hp => ?_⟩
           · exact Below.set (Below.trans HX4.out (Below.mono hbW2 (by rw [← HS.out]; omega))) (by rw [HS.out]; exact Nat.le_refl _) _
           · exact (heap_setCell_same _ _ _ _ _ _ ((hbW2.block S (by omega)).trans G0.out)).trans rfl
           · rw [heap_setCell_other _ _ _ _ (by simp)]; exact (hbW2.block _ (by omega)).trans G1.out
           · rw [heap_setCell_other _ _ _ _ (by simp; omega)]; exact (hbW2.block _ (by omega)).trans G2.out
           · rcases h2 with e | ⟨q, o, hq, hqlt, hc⟩
             · exact .inl e
             · have := q2 _ hq
               refine .inr ⟨q, o, hq, by simpa [World.setCell] using hqlt, fun i hi => ?_⟩
               rw [← hc i hi]
               exact cell_far (by simp at this; omega) _ _ _ _
           · exact q2 p hp
         have HEnd := Lib.hid hend
         clear hend hbW2 a22 b22 f22 l2 m2 h2 q2
         go_wp2_with fail
         go_meet
         exact HEnd.out
      · have hlt' : decide ((n : Int) < 256) = false := by rw [decide_eq_false_iff_not]; omega
        rw [hlt']
        clear hlt'
        go_wp2_with fail
        go_meet
        exact ⟨A, c, n, f, x4, g0, g1, g2, (if_neg hlt).symm, (if_neg hlt).symm, HA.out.ext x4, HC.out, hcm, .inl ⟨rfl, rfl, rfl⟩⟩
    case rest =>
      obtain ⟨A', c', n', f', y4, g0, g1, g2, e1, e2, hh, hl, hm, hfr⟩ := hcut
      clear x4 s4 a0 n0
      obtain ⟨z, hz⟩ : ∃ z, z = (d || sp) := ⟨_, rfl⟩
      have k1 : IntKind.i64.wrap (k + 1) = k + 1 := IntWalk.i64_in _ (by omega)
      have b0 := cell_of_heap (j := 0) g1 rfl
      have b2 := cell_of_heap (j := 2) g1 rfl
      have a2 := cell_of_heap (j := 2) g0 rfl
      have a3 := cell_of_heap (j := 3) g0 rfl
      have a5 := cell_of_heap (j := 5) g0 rfl
      have f2 := frozen_of_row _ _ 2 _ _ g0
      have f3 := frozen_of_row _ _ 3 _ _ g0
      have f5 := frozen_of_row _ _ 5 _ _ g0
      have h5 : (wc.setCell ⟨S, 2, none⟩ (.int .i64 at0)).heap[S]? = some (.cells #[.slice A' n' c', .int .i64 t0', .int .i64 at0, .int .i64 k, .bool g, .bool d] 48 (0, 0)) := (heap_setCell_same _ _ _ _ _ _ g0).trans rfl
      have h6 : ((wc.setCell ⟨S, 2, none⟩ (.int .i64 at0)).setCell ⟨S, 3, none⟩ (.int .i64 (k + 1))).heap[S]? = some (.cells #[.slice A' n' c', .int .i64 t0', .int .i64 at0, .int .i64 (k + 1), .bool g, .bool d] 48 (0, 0)) := (heap_setCell_same _ _ _ _ _ _ h5).trans rfl
      have h7 : (((wc.setCell ⟨S, 2, none⟩ (.int .i64 at0)).setCell ⟨S, 3, none⟩ (.int .i64 (k + 1))).setCell ⟨S, 5, none⟩ (.bool z)).heap[S]? = some (.cells #[.slice A' n' c', .int .i64 t0', .int .i64 at0, .int .i64 (k + 1), .bool g, .bool z] 48 (0, 0)) := (heap_setCell_same _ _ _ _ _ _ h6).trans rfl
      have r7 : (((wc.setCell ⟨S, 2, none⟩ (.int .i64 at0)).setCell ⟨S, 3, none⟩ (.int .i64 (k + 1))).setCell ⟨S, 5, none⟩ (.bool z)).heap[S + 1 + 1]? = some (.cells #[.slice none 0 0, .int .i64 0, .int .i64 0, .int .i64 0, .bool false, .bool false] 48 (0, 0)) := by
        rw [heap_setCell_other _ _ _ _ (by simp; omega), heap_setCell_other _ _ _ _ (by simp; omega), heap_setCell_other _ _ _ _ (by simp; omega)]; exact g2
      have x7 : Ext w (((wc.setCell ⟨S, 2, none⟩ (.int .i64 at0)).setCell ⟨S, 3, none⟩ (.int .i64 (k + 1))).setCell ⟨S, 5, none⟩ (.bool z)) :=
        Below.set (Below.set (Below.set y4 (by rw [HS.out]; exact Nat.le_refl _) _) (by rw [HS.out]; exact Nat.le_refl _) _) (by rw [HS.out]; exact Nat.le_refl _) _
      have hends : ∀ w8, Ext w w8 → (∀ q, q ≠ S → q ≠ S + 1 + 1 → w8.heap[q]? = wc.heap[q]?) → Holds .u8 w8 A' n' f' ∧ (A' = A ∧ n' = n ∨ Fresh w A') := fun w8 x8 hw8 => by
        rcases hfr with ⟨e, e3, e4⟩ | e
        · subst e; subst e3; subst e4; exact ⟨HA.out.ext x8, .inl ⟨rfl, rfl⟩⟩
        · refine ⟨hh.blocks fun q o hq hn0 hlt => ?_, .inr fun p hp => ?_⟩
          · have := e _ hq
            exact hw8 q (by simp at this; omega) (by simp at this; omega)
          · have := e _ hp
            have := HS.out
            omega
      obtain ⟨W7, hW7⟩ : ∃ W, W = (((wc.setCell ⟨S, 2, none⟩ (.int .i64 at0)).setCell ⟨S, 3, none⟩ (.int .i64 (k + 1))).setCell ⟨S, 5, none⟩ (.bool z)) := ⟨_, rfl⟩
      rw [← hW7] at h7 r7 x7
      have hblk : ∀ q, q ≠ S → W7.heap[q]? = wc.heap[q]? := fun q hq => by
        rw [hW7, heap_setCell_other _ _ _ _ (by simpa using hq), heap_setCell_other _ _ _ _ (by simpa using hq), heap_setCell_other _ _ _ _ (by simpa using hq)]
      have hend : Ext w (W7.setRow (S + 1 + 1) #[.slice A' n' c', .int .i64 t0', .int .i64 at0, .int .i64 (k + 1), .bool g, .bool z]) ∧ Holds .u8 (W7.setRow (S + 1 + 1) #[.slice A' n' c', .int .i64 t0', .int .i64 at0, .int .i64 (k + 1), .bool g, .bool z]) A' n' f' ∧ (A' = A ∧ n' = n ∨ Fresh w A') := by
        have x8 : Ext w (W7.setRow (S + 1 + 1) #[.slice A' n' c', .int .i64 t0', .int .i64 at0, .int .i64 (k + 1), .bool g, .bool z]) := below_setRow x7 (by rw [HS.out]; omega) _
        exact ⟨x8, hends _ x8 fun q h1 h2 => (setRow_other _ _ _ _ h2).trans (hblk q h1)⟩
      have HEnd := Lib.hid hend
      have HW7 := Lib.hid hW7
      have He1 := Lib.hid e1
      have He2 := Lib.hid e2
      have Hl := Lib.hid hl
      clear hend hW7 e1 e2 hl hfr hends hblk x7 y4 hh h5 h6 g0 g1 g2 HC HN HA hk hk1
      cases d
      all_goals
        simp only [Bool.false_or, Bool.true_or] at hz HR
        subst hz
        go_wp2_with (first
          | (rw [← HW7.out]; refine wpList_load_row rfl 48 (.tmp 2) rfl S rfl 48 _ (0, 0) _ h7 Try.underlying48 rfl (by kernel_rfl) ?_)
          | (refine wpList_store_row rfl 48 (.tmp 4) (.tmp 38) rfl (S + 1 + 1) _ rfl rfl 48 _ r7 (by kernel_rfl) (by rfl) (by simp [Value.oneCell']) ?_))
        refine bodyPost_ret (results_cell_row rfl _ _ (S + 1 + 1) 48 _ (0, 0) _ rfl (setRow_heap _ _ _ _ _ _ r7) Try.underlying48 rfl (by kernel_rfl)) rfl ?_
        have hR := HR.out
        rw [← HT0.out, ← He1.out, ← He2.out] at hR
        subst hR
        exact ⟨A', c', rfl, HEnd.out.1, HEnd.out.2.1, Hl.out, hm, HEnd.out.2.2⟩
end Go.Proofs.Ytlemnjphjmnmbaa
