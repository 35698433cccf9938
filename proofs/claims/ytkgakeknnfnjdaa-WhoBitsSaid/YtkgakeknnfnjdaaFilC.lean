/-
  LAYER 14: what package file's calls tell, as premises; an operation of the laws (bilgelaw14.Op), plain.
-/
import Derived.Test.YtkgakeknnfnjdaaFil
namespace Go.Proofs.Ytkgakeknnfnjdaa
open Go.RowKit
set_option linter.unusedVariables false

/-- Tables of no more than a million cells. -/
structure Small (F : Fil) : Prop where
  s1 : F.nC ≤ 1000000
  s2 : F.nI ≤ 1000000
  s3 : F.nH ≤ 1000000
  s4 : F.nR ≤ 1000000
theorem Small.all {F : Fil} (h : Small F) : F.nC ≤ 1000000 ∧ F.nI ≤ 1000000 ∧ F.nH ≤ 1000000 ∧ F.nR ≤ 1000000 := ⟨h.s1, h.s2, h.s3, h.s4⟩
theorem Small.of_right {F : Fil} (h : rightB F = true) : Small F := ⟨(right_small h).1, (right_small h).2.1, (right_small h).2.2.1, (right_small h).2.2.2⟩
theorem small_zero : Small zeroF := ⟨Nat.zero_le _, Nat.zero_le _, Nat.zero_le _, Nat.zero_le _⟩
theorem small_sb {F : Fil} (h : Small F) (x : Int) (m : Nat) (v : Nat → Bool) : Small (sbF F x m v) := by unfold sbF; split; exact ⟨h.1, h.2, h.3, h.4⟩; exact small_zero
theorem small_sw {F : Fil} (h : Small F) (x : Int) (m : Nat) (v : Nat → Int) : Small (swF F x m v) := by unfold swF; split; exact ⟨h.1, h.2, h.3, h.4⟩; exact small_zero
theorem small_se {F : Fil} (h : Small F) (i : Bool) (x v : Int) : Small (seF F i x v) := by unfold seF; split; split; exact ⟨h.1, h.2, h.3, h.4⟩; exact ⟨h.1, h.2, h.3, h.4⟩; exact small_zero
theorem small_new {F : Fil} (h : bankB F = true) : Small (newF F) := by
  have := bank_small h
  exact ⟨show F.cc.toNat ≤ _ by omega, show F.jc.toNat ≤ _ by omega, show F.hc.toNat ≤ _ by omega, show F.rc.toNat ≤ _ by omega⟩
theorem eqW_same (f c : Int) : eqW f c f c = true := decide_eq_true ⟨rfl, rfl⟩
theorem sameF_self (F : Fil) : sameF F F = true := by
  unfold sameF sbankB
  rw [eqW_same, eqW_same, eqW_same, eqW_same, eqW_same, eqG_true rfl (fun _ _ => rfl), eqG_true rfl (fun _ _ => rfl), eqB_true rfl (fun _ _ => rfl), eqB_true rfl (fun _ _ => rfl)]
  rfl
def FNewC (Fn : FuncId) : Prop := ∀ (F : Fil) (w : World), Calls Try.prog Fn #[.agg (bnkC F)] w (FP (if bankB F = true then 0 else 11) (if bankB F = true then newF F else zeroF) zeroV zeroF w)
def FRightC (Fn : FuncId) : Prop := ∀ (V : FilV) (F : Fil) (w : World), FilAt w V F → Calls Try.prog Fn #[.agg (filC V F)] w fun e w' => e = .returned (.bool (rightB F)) ∧ Ext w w'
def FBitsC (Fn : FuncId) : Prop := ∀ (V : FilV) (F : Fil) (i : Bool) (x k : Int) (w : World), FilAt w V F → (Lit.int .i64 x).wf = true → (Lit.int .i64 k).wf = true → Calls Try.prog Fn #[.agg (filC V F), .bool i, .int .i64 x, .int .i64 k] w (SlP Value.bool (bitE F i x k) (bitN F i x k) (bitL F i x) w)
def FWordsC (Fn : FuncId) : Prop := ∀ (V : FilV) (F : Fil) (i : Bool) (x k : Int) (w : World), FilAt w V F → (Lit.int .i64 x).wf = true → (Lit.int .i64 k).wf = true → Calls Try.prog Fn #[.agg (filC V F), .bool i, .int .i64 x, .int .i64 k] w (SlP (Value.int .u16) (wrdE F i x k) (wrdN F i x k) (wrdL F i x) w)
def FSetBitsC (Fn : FuncId) : Prop := ∀ (V : FilV) (F : Fil) (x : Int) (b : Option Addr) (m e : Nat) (v : Nat → Bool) (w : World), FilAt w V F → HoldsG Value.bool w b m v → m ≤ e → e ≤ maxLen → m ≤ 1000000 → (Lit.int .i64 x).wf = true →
  Calls Try.prog Fn #[.agg (filC V F), .int .i64 x, .slice b m e] w (FP (sbE F x m) (sbF F x m v) V F w)
def FSetWordsC (Fn : FuncId) : Prop := ∀ (V : FilV) (F : Fil) (x : Int) (b : Option Addr) (m e : Nat) (v : Nat → Int) (w : World), FilAt w V F → HoldsG (Value.int .u16) w b m v → m ≤ e → e ≤ maxLen → m ≤ 1000000 → (Lit.int .i64 x).wf = true →
  Calls Try.prog Fn #[.agg (filC V F), .int .i64 x, .slice b m e] w (FP (swE F x m) (swF F x m v) V F w)
def FSenseC (Fn : FuncId) : Prop := ∀ (V : FilV) (F : Fil) (i : Bool) (x y : Int) (w : World), FilAt w V F → (Lit.int .i64 x).wf = true → (Lit.int .i64 y).wf = true →
  Calls Try.prog Fn #[.agg (filC V F), .bool i, .int .i64 x, .int .i64 y] w (FP (seE F i x) (seF F i x y) V F w)
def FSameC (Fn : FuncId) : Prop := ∀ (V : FilV) (F : Fil) (U : FilV) (G : Fil) (w : World), FilAt w V F → FilAt w U G → Small F → Small G → Calls Try.prog Fn #[.agg (filC V F), .agg (filC U G)] w fun e w' => e = .returned (.bool (sameF F G)) ∧ Ext w w'
def FCopyC (Fn : FuncId) : Prop := ∀ (V : FilV) (F : Fil) (w : World), FilAt w V F → Small F → Calls Try.prog Fn #[.agg (filC V F)] w fun e w' => ∃ U, e = .returned (.agg (filC U F)) ∧ FilAt w' U F ∧ Ext w w' ∧ From w V F U F

/-- An operation: its numbers, its bits and words. -/
structure Ope where
  k : Int
  x : Int
  c : Int
  v : Int
  nb : Nat
  B : Nat → Bool
  nr : Nat
  R : Nat → Int
structure OpeV where
  a1 : Option Addr
  d1 : Nat
  a2 : Option Addr
  d2 : Nat
def opeC (U : OpeV) (o : Ope) : Array Value := #[.int .i64 o.k, .int .i64 o.x, .int .i64 o.c, .int .i64 o.v, .slice U.a1 o.nb U.d1, .slice U.a2 o.nr U.d2]
structure OpeAt (w : World) (U : OpeV) (o : Ope) : Prop where
  h1 : HoldsG Value.bool w U.a1 o.nb o.B
  l1 : o.nb ≤ U.d1
  m1 : U.d1 ≤ maxLen
  h2 : HoldsG (Value.int .u16) w U.a2 o.nr o.R
  l2 : o.nr ≤ U.d2
  m2 : U.d2 ≤ maxLen
structure OpeW (o : Ope) : Prop where
  wk : (Lit.int .i64 o.k).wf = true
  wx : (Lit.int .i64 o.x).wf = true
  wc : (Lit.int .i64 o.c).wf = true
  wv : (Lit.int .i64 o.v).wf = true
theorem OpeAt.ext {w w' : World} {U : OpeV} {o : Ope} (h : OpeAt w U o) (x : Ext w w') : OpeAt w' U o := ⟨h.h1.ext x, h.l1, h.m1, h.h2.ext x, h.l2, h.m2⟩
structure OpeOff (Φ : Nat → Prop) (U : OpeV) (o : Ope) : Prop where
  o1 : OffN Φ U.a1 o.nb
  o2 : OffN Φ U.a2 o.nr
theorem OpeAt.keep {Φ : Nat → Prop} {w w' : World} {U : OpeV} {o : Ope} (h : OpeAt w U o) (x : Keep Φ w w') (k : OpeOff Φ U o) : OpeAt w' U o := ⟨h.h1.keepN x k.o1, h.l1, h.m1, h.h2.keepN x k.o2, h.l2, h.m2⟩
theorem OpeAt.off {Φ : Nat → Prop} {v w : World} {U : OpeV} {o : Ope} (h : OpeAt v U o) (k : Above w Φ) (x : v.heap.size ≤ w.heap.size) : OpeOff Φ U o := ⟨h.h1.offN k x, h.h2.offN k x⟩
/-- What an operation tells, and the error; the file by which it goes on. -/
def opX (F : Fil) (o : Ope) : Fil := if o.k = 0 then sbF F o.x o.nb o.B else if o.k = 1 then swF F o.x o.nr o.R else if o.k = 2 then seF F false o.x o.v else if o.k = 3 then seF F true o.x o.v else F
def opE (F : Fil) (o : Ope) : Int := if o.k = 0 then sbE F o.x o.nb else if o.k = 1 then swE F o.x o.nr else if o.k = 2 then seE F false o.x else if o.k = 3 then seE F true o.x else 0
def opF (F : Fil) (o : Ope) : Fil := if opE F o = 0 then opX F o else F
theorem small_opX {F : Fil} (h : Small F) (o : Ope) : Small (opX F o) := by
  unfold opX; split; exact small_sb h _ _ _; split; exact small_sw h _ _ _; split; exact small_se h _ _ _; split; exact small_se h _ _ _; exact h
theorem small_opF {F : Fil} (h : Small F) (o : Ope) : Small (opF F o) := by unfold opF; split; exact small_opX h o; exact h
section
variable {w wr wr' : World} {V : FilV} {F : Fil} {U : OpeV} {o : Ope} {VA : FilV} {A : Fil} {VB : FilV} {B : Fil}
theorem keep_in {w wr : World} {g : Nat} (cs : Array Value) (h1 : w.heap.size ≤ g) (h2 : g < w.heap.size + 5) : Keep (fun i => w.heap.size ≤ i ∧ i < w.heap.size + 5) wr (wr.setRow g cs) :=
  (keepRow wr g cs).mono fun i hi => by rw [hi]; exact ⟨h1, h2⟩
end
/-- A box of the call's own, laid. -/
theorem boxed_row (w : World) (z cs : Array Value) (t : TypeId) : Ext w ((w.alloc (.cells z t)).setRow w.heap.size cs) ∧ ((w.alloc (.cells z t)).setRow w.heap.size cs).heap[w.heap.size]? = some (.cells cs t (0, 0)) :=
  ⟨below_setRow (Ext.alloc w _) (Nat.le_refl _) cs, setRow_heap _ _ _ _ _ _ (heap_alloc_new w _)⟩
end Go.Proofs.Ytkgakeknnfnjdaa
