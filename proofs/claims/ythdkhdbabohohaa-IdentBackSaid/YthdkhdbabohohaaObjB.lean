/-
  CONTRACTS: package object (layer 20): how many are taken (count); what lies still while a block that is no cells turns.
-/
import Derived.Test.YthdkhdbabohohaaObjA
import Derived.Test.YthdkhdbabohohaaMidArr
import Derived.Test.YthdkhdbabohohaaBytesEq
namespace Go.Proofs.Ythdkhdbabohohaa
open Go.RowKit
set_option linter.unusedVariables false
set_option maxRecDepth 100000
attribute [local go_sem] Oper.semAt_some

theorem ext_turn {w W : World} {l : Nat} (o' : Obj) (x : Ext w W) (hl : w.heap.size ≤ l) : Ext w (W.putObj l o') :=
  ⟨x.os, x.tape, x.output, by rw [World.putObj_size]; exact x.size, fun q hq => (World.putObj_heap_other (by omega)).trans (Below.block x q hq)⟩
theorem keep_turn {F : Nat → Prop} {w W : World} {l : Nat} (o' : Obj) (x : Keep F w W) (hl : w.heap.size ≤ l) : Keep F w (W.putObj l o') :=
  ⟨x.os, x.tape, x.output, by rw [World.putObj_size]; exact x.size, fun q hq hF => (World.putObj_heap_other (by omega)).trans (x.block q hq hF)⟩
theorem row_turn {W : World} {G l : Nat} {cs : Array Value} {t : TypeId} {fr : Nat × Nat} {o : Obj} (o' : Obj) (h : W.heap[G]? = some (.cells cs t fr)) (ho : W.heap[l]? = some o) (hc : o.isCells = false) : (W.putObj l o').heap[G]? = some (.cells cs t fr) :=
  (World.putObj_heap_other (fun e => by subst e; rw [h] at ho; cases ho; cases hc)).trans h
theorem cell_turn {W : World} {l : Nat} {a : Addr} {v : Value} {o : Obj} (o' : Obj) (h : W.cell? a = some v) (ho : W.heap[l]? = some o) (hc : o.isCells = false) : (W.putObj l o').cell? a = some v :=
  cell_kept h (grownBy_putObj' W l o') (fun r e => by cases e; exact ⟨o, ho, hc⟩)
theorem ObjAt.turn {W : World} {l : Nat} {z : Ob} {o : Obj} (o' : Obj) (h : ObjAt W z) (ho : W.heap[l]? = some o) (hc : o.isCells = false) : ObjAt (W.putObj l o') z := by
  refine ⟨?_, h.l, h.m, h.s, h.b, h.wi⟩
  rcases h.h with e | ⟨b, off, ha, hlt, hce⟩
  · exact .inl e
  · exact .inr ⟨b, off, ha, by rw [World.putObj_size]; exact hlt, fun i hi => cell_turn o' (hce i hi) ho hc⟩
/-- What is held while the iterator is at work and one box G of the call's own is written. -/
structure ItM (w W0 W : World) (bL bT G : Nat) (a : Option Addr) (n c : Nat) (v : Value) (L : List Ob) (P : Ob → Bool) : Prop where
  x0 : Ext w W0
  k : Keep (· = G) W0 W
  gw : w.heap.size ≤ G
  it : IterO W0 bL bT a n c v L
  ob : ObjsAt w a n c L
  tk : ∀ W, Keep (· = G) W0 W → TakesAt W v P
  nL : bL ≠ G
  nT : bT ≠ G
section
variable {w W0 W W' : World} {bL bT G : Nat} {a : Option Addr} {n c : Nat} {v : Value} {L : List Ob} {P : Ob → Bool}
theorem ItM.x (h : ItM w W0 W bL bT G a n c v L P) : Ext w W := h.x0.keep h.k (fun i hi => by have hi : i = G := hi; have := h.gw; omega)
theorem ItM.ext (h : ItM w W0 W bL bT G a n c v L P) (y : Ext W W') : ItM w W0 W' bL bT G a n c v L P := ⟨h.x0, h.k.trans_ext y, h.gw, h.it, h.ob, h.tk, h.nL, h.nT⟩
theorem ItM.turn (h : ItM w W0 W bL bT G a n c v L P) {l : Nat} (o' : Obj) (hl : W0.heap.size ≤ l) : ItM w W0 (W.putObj l o') bL bT G a n c v L P := ⟨h.x0, keep_turn o' h.k hl, h.gw, h.it, h.ob, h.tk, h.nL, h.nT⟩
theorem ItM.set (h : ItM w W0 W bL bT G a n c v L P) (i : Nat) (u : Value) : ItM w W0 (W.setCell ⟨G, i, none⟩ u) bL bT G a n c v L P := ⟨h.x0, h.k.trans (keepCellM W G i u) (fun j hj => .inl hj), h.gw, h.it, h.ob, h.tk, h.nL, h.nT⟩
theorem ItM.mem (h : ItM w W0 W bL bT G a n c v L P) : IterO W bL bT a n c v L ∧ TakesAt W v P :=
  ⟨⟨h.k.cell (fun e => h.nL e) h.it.list, h.k.cell (fun e => h.nT e) h.it.takes, h.ob.ext h.x⟩, h.tk _ h.k⟩
end
set_option maxHeartbeats 4000000 in
theorem count_any (a : Option Addr) (n c : Nat) (L : List Ob) (v : Value) (P : Ob → Bool) (w : World) (h : ObjsAt w a n c L) (hn : n ≤ 1000000) (t : TakesAt w v P) :
    Calls Try.prog 43 #[.slice a n c, v] w fun e w' => e = .returned (.int .i64 ((L.filter P).length : Int)) ∧ Ext w w' := by
  have HH := Lib.hid h
  have HT := Lib.hid t
  have HN := Lib.hid hn
  have HK : Hid ((L.filter P).length ≤ 1000000) := Lib.hid (Nat.le_trans (List.length_filter_le _ _) (by rw [h.len]; exact hn))
  have HE := Lib.hid (fun W (x : Ext w W) => each_any a n c L v P W (h.ext x) (t.ext x))
  clear h t hn
  refine calls_of_marks Try.func43 rfl ?_
  simp only [Try.ntmps43, List.size_toArray, List.length_cons, List.length_nil, Nat.reduceAdd, Nat.reduceSub, Array.replicate_succ, Array.replicate_zero, List.push_toArray, List.append_toArray, List.nil_append, List.cons_append]
  go_wp2_with fail
  refine (HE.out _ (Ext.alloc w _)).mono ?_; rintro e w3 ⟨bL, bT, rfl, hI, hT, x3, lL, lT⟩
  unfold eachV
  have g3 := x3.block (heap_alloc_new w (.cells #[.int .i64 0] 3))
  rw [World.size_alloc] at lL lT
  obtain ⟨G, hG⟩ : ∃ G, G = w.heap.size := ⟨_, rfl⟩
  have hit : ItM w w3 w3 bL bT G a n c v L P := ⟨(Ext.alloc w _).trans x3, Keep.refl _ _, by omega, hI, HH.out, (fun W k => HT.out.ext (((Ext.alloc w _).trans x3).keep k (fun i hi => by have hi : i = G := hi; omega))), by omega, by omega⟩
  have gl := heap_lt g3
  clear hI hT x3 lL lT
  go_wp2_with fail
  rw [← hG] at g3 gl ⊢
  clear hG
  refine wp_rangeFunc_ret (gf := 53) (lb := #[.pointer (some ⟨bL, 0, none⟩), .pointer (some ⟨bT, 0, none⟩)]) rfl (Go.Proofs.enters_of Try.func53 (by kernel_rfl) rfl)
    (fun x : Ob => .agg (obC x)) (fun k x W0 W1 => (L.filter P)[k]? = some x) (L.filter P).length (fun k W => W.heap[G]? = some (.cells #[.int .i64 (k : Int)] 3 (0, 0)) ∧ ItM w w3 W bL bT G a n c v L P)
    ?ext ?turn (fun _ => False) (fun _ _ _ _ h _ _ _ => h) ⟨g3, hit⟩ ?seq
    (fun k x a' W2 => a' = { tmps := #[.slice a n c, v, undef, undef, .int .i64 0, .pointer (some ⟨G, 0, none⟩), .slice a n c, v, .func (.func 53) #[] #[.pointer (some ⟨bL, 0, none⟩), .pointer (some ⟨bT, 0, none⟩)], .agg (obC x), undef, undef, undef], defers := [] })
    ?assign ?body ?done ?stop
  case ext => rintro k W W' ⟨g, hm⟩ x; exact ⟨x.block g, hm.ext x⟩
  case turn => rintro k W l o o' ⟨g, hm⟩ hl ho hc; exact ⟨row_turn o' g ho hc, hm.turn o' hl⟩
  case seq =>
    intro l J Jx W x hJI hJx hY hJ0
    exact each1_any l bL bT a n c L v P J Jx W HN.out (fun k W hJ => (hJI k W hJ).2.mem) hJx hY hJ0
  case assign =>
    intro l k x W0 W1 K hI x01 hX hK
    gi_wp2_with fail
    exact hK _ _ (Ext.refl _) (by simp)
  case body =>
    rintro l o' k x a' W0 W1 W2 ⟨g, hm⟩ x01 hX x12 rfl hwl hlW ⟨r, hlr⟩ hkN
    have gW := row_turn o' ((x01.trans x12).block g) hlr rfl
    have hm3 := (hm.ext (x01.trans x12)).turn o' hwl
    obtain ⟨W3, hW3⟩ : ∃ W3, W3 = W2.putObj l o' := ⟨_, rfl⟩
    rw [← hW3] at gW hm3 ⊢
    have c0 := cell_of_heap (j := 0) gW rfl
    have hk1 : (k : Int) ≤ 1000000 := by have := HK.out; omega
    have e1 : IntKind.i64.wrap ((k : Int) + 1) = k + 1 := IntWalk.i64_in _ (by omega)
    have f0 := frozen_of_row _ _ 0 _ _ gW
    clear hm x01 hX x12 hlr hW3 hlW
    gi_wp2_with fail
    exact ⟨fun b o _ ho hc => (KeepsOthers.setCell W3 _ _).same b o ho hc, heap_setCell_same _ _ _ _ _ _ gW, hm3.set _ _⟩
  case stop => intro D W hD h hK; exact h.elim
  case done =>
    rintro D W hD ⟨g, hm⟩ hK
    have c0 := cell_of_heap (j := 0) g rfl
    have HX := Lib.hid (ext_turn (.deferred none) hm.x (show w.heap.size ≤ D by have := hm.x0.size; omega))
    clear hm
    go_wp2_with fail
    refine ⟨by simp, .inl ⟨_, _, rfl, run_takeDeferred hK, ?_⟩⟩
    exact ⟨_, results_tmp rfl _ _ _, rfl, HX.out⟩
end Go.Proofs.Ythdkhdbabohohaa
