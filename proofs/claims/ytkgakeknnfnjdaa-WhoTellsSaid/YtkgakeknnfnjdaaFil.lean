/-
  LAYER 14, PLAIN: a file (api.File), its fourteen cells, what the calls tell.
-/
import Derived.Test.YtkgakeknnfnjdaaCellsR
import Derived.Test.YtkgakeknnfnjdaaKeep
import Derived.Laws.CopyOwn
import Derived.Laws.Rows
namespace Go.Proofs.Ytkgakeknnfnjdaa
open Go.RowKit
set_option linter.unusedVariables false

/-- A file: five windows (coils, inputs, holding, regs, broken), four tables. -/
structure Fil where
  cf : Int
  cc : Int
  jf : Int
  jc : Int
  hf : Int
  hc : Int
  rf : Int
  rc : Int
  bf : Int
  bc : Int
  nC : Nat
  C : Nat → Bool
  nI : Nat
  I : Nat → Bool
  nH : Nat
  H : Nat → Int
  nR : Nat
  R : Nat → Int
/-- Where the tables lie. -/
structure FilV where
  a1 : Option Addr
  d1 : Nat
  a2 : Option Addr
  d2 : Nat
  a3 : Option Addr
  d3 : Nat
  a4 : Option Addr
  d4 : Nat
/-- A bank's ten cells. -/
def bnkC (F : Fil) : Array Value := #[.int .i64 F.cf, .int .i64 F.cc, .int .i64 F.jf, .int .i64 F.jc, .int .i64 F.hf, .int .i64 F.hc, .int .i64 F.rf, .int .i64 F.rc, .int .i64 F.bf, .int .i64 F.bc]
/-- A file's fourteen cells. -/
def filC (V : FilV) (F : Fil) : Array Value := #[.int .i64 F.cf, .int .i64 F.cc, .int .i64 F.jf, .int .i64 F.jc, .int .i64 F.hf, .int .i64 F.hc, .int .i64 F.rf, .int .i64 F.rc, .int .i64 F.bf, .int .i64 F.bc, .slice V.a1 F.nC V.d1, .slice V.a2 F.nI V.d2, .slice V.a3 F.nH V.d3, .slice V.a4 F.nR V.d4]
/-- The tables' cells lie there. -/
structure FilAt (w : World) (V : FilV) (F : Fil) : Prop where
  h1 : HoldsG Value.bool w V.a1 F.nC F.C
  l1 : F.nC ≤ V.d1
  m1 : V.d1 ≤ maxLen
  h2 : HoldsG Value.bool w V.a2 F.nI F.I
  l2 : F.nI ≤ V.d2
  m2 : V.d2 ≤ maxLen
  h3 : HoldsG (Value.int .u16) w V.a3 F.nH F.H
  l3 : F.nH ≤ V.d3
  m3 : V.d3 ≤ maxLen
  h4 : HoldsG (Value.int .u16) w V.a4 F.nR F.R
  l4 : F.nR ≤ V.d4
  m4 : V.d4 ≤ maxLen
theorem FilAt.ext {w w' : World} {V : FilV} {F : Fil} (h : FilAt w V F) (x : Ext w w') : FilAt w' V F :=
  ⟨h.h1.ext x, h.l1, h.m1, h.h2.ext x, h.l2, h.m2, h.h3.ext x, h.l3, h.m3, h.h4.ext x, h.l4, h.m4⟩
/-- May the bank be? -/
def bankB (F : Fil) : Bool := rgtB F.cf F.cc && rgtB F.jf F.jc && rgtB F.hf F.hc && rgtB F.rf F.rc && rgtB F.bf F.bc
/-- May the file be? -/
def rightB (F : Fil) : Bool := bankB F && decide ((F.nC : Int) = F.cc) && decide ((F.nI : Int) = F.jc) && decide ((F.nH : Int) = F.hc) && decide ((F.nR : Int) = F.rc)
/-- Have two the same banks? -/
def sbankB (F G : Fil) : Bool := eqW F.cf F.cc G.cf G.cc && eqW F.jf F.jc G.jf G.jc && eqW F.hf F.hc G.hf G.hc && eqW F.rf F.rc G.rf G.rc && eqW F.bf F.bc G.bf G.bc
/-- Are two the same? -/
def sameF (F G : Fil) : Bool := sbankB F G && eqG F.nC G.nC F.C G.C && eqG F.nI G.nI F.I G.I && eqB F.nH G.nH F.H G.H && eqB F.nR G.nR F.R G.R
/-- No file. -/
def zeroF : Fil := ⟨0, 0, 0, 0, 0, 0, 0, 0, 0, 0, 0, fun _ => false, 0, fun _ => false, 0, fun _ => 0, 0, fun _ => 0⟩
def zeroV : FilV := ⟨none, 0, none, 0, none, 0, none, 0⟩
theorem zero_at (w : World) : FilAt w zeroV zeroF := ⟨.inl rfl, Nat.le_refl _, Nat.zero_le _, .inl rfl, Nat.le_refl _, Nat.zero_le _, .inl rfl, Nat.le_refl _, Nat.zero_le _, .inl rfl, Nat.le_refl _, Nat.zero_le _⟩
/-- A new file of a bank. -/
def newF (F : Fil) : Fil := { F with nC := F.cc.toNat, C := fun _ => false, nI := F.jc.toNat, I := fun _ => false, nH := F.hc.toNat, H := fun _ => 0, nR := F.rc.toNat, R := fun _ => 0 }

/-- Reading bits: the error; how many; which. -/
def bitE (F : Fil) (i : Bool) (x k : Int) : Int := if rightB F = true then (if i = true then rdE F.jf F.jc F.nI x k else rdE F.cf F.cc F.nC x k) else 11
def bitN (F : Fil) (i : Bool) (x k : Int) : Nat := if bitE F i x k = 0 then k.toNat else 0
def bitL (F : Fil) (i : Bool) (x : Int) : Nat → Bool := if i = true then rdF F.I F.jf x else rdF F.C F.cf x
/-- Reading words. -/
def brkE (F : Fil) (e x k : Int) : Int := if e = 0 ∧ meetB F.bf F.bc x k = true then 4 else e
def wrdE (F : Fil) (i : Bool) (x k : Int) : Int := if rightB F = true then (if i = true then rdE F.rf F.rc F.nR x k else brkE F (rdE F.hf F.hc F.nH x k) x k) else 11
def wrdN (F : Fil) (i : Bool) (x k : Int) : Nat := if wrdE F i x k = 0 then k.toNat else 0
def wrdL (F : Fil) (i : Bool) (x : Int) : Nat → Int := if i = true then rdF F.R F.rf x else rdF F.H F.hf x
/-- Writing. -/
def sbE (F : Fil) (x : Int) (m : Nat) : Int := if rightB F = true then rdE F.cf F.cc F.nC x m else 11
def sbF (F : Fil) (x : Int) (m : Nat) (v : Nat → Bool) : Fil := if sbE F x m = 0 then { F with C := wrF F.C v F.cf x m } else zeroF
def swE (F : Fil) (x : Int) (m : Nat) : Int := if rightB F = true then brkE F (rdE F.hf F.hc F.nH x m) x m else 11
def swF (F : Fil) (x : Int) (m : Nat) (v : Nat → Int) : Fil := if swE F x m = 0 then { F with H := wrF F.H v F.hf x m } else zeroF
/-- Measuring. -/
def seE (F : Fil) (i : Bool) (x : Int) : Int := if rightB F = true then (if i = true then rdE F.rf F.rc F.nR x 1 else rdE F.jf F.jc F.nI x 1) else 11
def seF (F : Fil) (i : Bool) (x v : Int) : Fil := if seE F i x = 0 then (if i = true then { F with R := wrF F.R (fun _ => v % 65536) F.rf x 1 } else { F with I := wrF F.I (fun _ => decide (v ≠ 0)) F.jf x 1 }) else zeroF
/-- What a call tells that tells cells and an error: the cells are new. -/
def SlP {α : Type} (mk : α → Value) (E : Int) (N : Nat) (l : Nat → α) (w : World) (e : Ending) (w' : World) : Prop :=
  ∃ b q, e = .returned (.tuple #[.slice b N q, .int .i64 E]) ∧ N ≤ q ∧ q ≤ maxLen ∧ HoldsG mk w' b N l ∧ Ext w w' ∧ Fresh w b
theorem RdPostF.sl {α : Type} {mk : α → Value} {f c x k : Int} {n : Nat} {l : Nat → α} {w : World} {e : Ending} {w' : World} (h : RdPostF mk f c x k n l w e w') : SlP mk (rdE f c n x k) (rdN f c n x k k.toNat) (rdF l f x) w e w' := h
theorem WrPostF.sl {α : Type} {mk : α → Value} {f c x : Int} {n : Nat} {l : Nat → α} {m : Nat} {v : Nat → α} {w : World} {e : Ending} {w' : World} (h : WrPostF mk f c x n l m v w e w') : SlP mk (rdE f c n x m) (rdN f c n x m n) (wrF l v f x m) w e w' := h
/-- Each table of a file lies where one of another file does, or is new. -/
structure From (w : World) (V0 : FilV) (F : Fil) (V : FilV) (G : Fil) : Prop where
  f1 : (V.a1 = V0.a1 ∧ G.nC = F.nC) ∨ Fresh w V.a1
  f2 : (V.a2 = V0.a2 ∧ G.nI = F.nI) ∨ Fresh w V.a2
  f3 : (V.a3 = V0.a3 ∧ G.nH = F.nH) ∨ Fresh w V.a3
  f4 : (V.a4 = V0.a4 ∧ G.nR = F.nR) ∨ Fresh w V.a4
/-- What a call tells that tells a file and an error. -/
def FP (E : Int) (G : Fil) (V0 : FilV) (F : Fil) (w : World) (e : Ending) (w' : World) : Prop :=
  ∃ V, e = .returned (.tuple #[.agg (filC V G), .int .i64 E]) ∧ FilAt w' V G ∧ Ext w w' ∧ From w V0 F V G
theorem From.refl (w : World) (V : FilV) (F : Fil) : From w V F V F := ⟨.inl ⟨rfl, rfl⟩, .inl ⟨rfl, rfl⟩, .inl ⟨rfl, rfl⟩, .inl ⟨rfl, rfl⟩⟩
theorem From.zero (w : World) (V : FilV) (F : Fil) : From w V F zeroV zeroF := ⟨.inr (Fresh.nil w), .inr (Fresh.nil w), .inr (Fresh.nil w), .inr (Fresh.nil w)⟩
theorem Fresh.back {w a : World} {x : Option Addr} (h : Fresh a x) (e : Ext w a) : Fresh w x := fun p hp => Nat.le_trans e.size (h p hp)
theorem From.trans {w a : World} {V0 V1 V2 : FilV} {F0 F1 F2 : Fil} (h : From w V0 F0 V1 F1) (k : From a V1 F1 V2 F2) (e : Ext w a) : From w V0 F0 V2 F2 := by
  refine ⟨?_, ?_, ?_, ?_⟩
  · rcases k.f1 with ⟨k1, k2⟩ | k1
    · rcases h.f1 with ⟨h1, h2⟩ | h1
      · exact .inl ⟨k1.trans h1, k2.trans h2⟩
      · exact .inr (by rw [k1]; exact h1)
    · exact .inr (k1.back e)
  · rcases k.f2 with ⟨k1, k2⟩ | k1
    · rcases h.f2 with ⟨h1, h2⟩ | h1
      · exact .inl ⟨k1.trans h1, k2.trans h2⟩
      · exact .inr (by rw [k1]; exact h1)
    · exact .inr (k1.back e)
  · rcases k.f3 with ⟨k1, k2⟩ | k1
    · rcases h.f3 with ⟨h1, h2⟩ | h1
      · exact .inl ⟨k1.trans h1, k2.trans h2⟩
      · exact .inr (by rw [k1]; exact h1)
    · exact .inr (k1.back e)
  · rcases k.f4 with ⟨k1, k2⟩ | k1
    · rcases h.f4 with ⟨h1, h2⟩ | h1
      · exact .inl ⟨k1.trans h1, k2.trans h2⟩
      · exact .inr (by rw [k1]; exact h1)
    · exact .inr (k1.back e)
/-- None of the tables lies in the blocks of Φ. -/
structure FilOff (Φ : Nat → Prop) (V : FilV) (F : Fil) : Prop where
  o1 : OffN Φ V.a1 F.nC
  o2 : OffN Φ V.a2 F.nI
  o3 : OffN Φ V.a3 F.nH
  o4 : OffN Φ V.a4 F.nR
theorem HoldsG.keepN {α : Type} {mk : α → Value} {Φ : Nat → Prop} {w w' : World} {a : Option Addr} {n : Nat} {f : Nat → α} (h : HoldsG mk w a n f) (x : Keep Φ w w') (ho : OffN Φ a n) : HoldsG mk w' a n f := by
  rcases ho with e | e
  · exact .inl e
  · exact h.keep x e
theorem HoldsG.offN {α : Type} {mk : α → Value} {Φ : Nat → Prop} {v w : World} {a : Option Addr} {n : Nat} {f : Nat → α} (hh : HoldsG mk v a n f) (h : Above w Φ) (x : v.heap.size ≤ w.heap.size) : OffN Φ a n := by
  rcases hh with e | ⟨b, off, ha, hlt, _⟩
  · exact .inl e
  · exact .inr (h.off fun p hp => by rw [ha] at hp; cases hp; exact Nat.lt_of_lt_of_le hlt x)
theorem FilAt.keep {Φ : Nat → Prop} {w w' : World} {V : FilV} {F : Fil} (h : FilAt w V F) (x : Keep Φ w w') (o : FilOff Φ V F) : FilAt w' V F :=
  ⟨h.h1.keepN x o.o1, h.l1, h.m1, h.h2.keepN x o.o2, h.l2, h.m2, h.h3.keepN x o.o3, h.l3, h.m3, h.h4.keepN x o.o4, h.l4, h.m4⟩
theorem FilAt.off {Φ : Nat → Prop} {v w : World} {V : FilV} {F : Fil} (h : FilAt v V F) (k : Above w Φ) (x : v.heap.size ≤ w.heap.size) : FilOff Φ V F :=
  ⟨h.h1.offN k x, h.h2.offN k x, h.h3.offN k x, h.h4.offN k x⟩
theorem Fresh.offN {Φ : Nat → Prop} {w : World} {a : Option Addr} {n : Nat} (h : Fresh w a) (hF : ∀ i, Φ i → i < w.heap.size) : OffN Φ a n := .inr (h.off hF)
theorem From.off {Φ : Nat → Prop} {w : World} {V0 V : FilV} {F G : Fil} (h : From w V0 F V G) (o : FilOff Φ V0 F) (hF : ∀ i, Φ i → i < w.heap.size) : FilOff Φ V G := by
  refine ⟨?_, ?_, ?_, ?_⟩
  · rcases h.f1 with ⟨h1, h2⟩ | h1
    · rw [h1, h2]; exact o.o1
    · exact h1.offN hF
  · rcases h.f2 with ⟨h1, h2⟩ | h1
    · rw [h1, h2]; exact o.o2
    · exact h1.offN hF
  · rcases h.f3 with ⟨h1, h2⟩ | h1
    · rw [h1, h2]; exact o.o3
    · exact h1.offN hF
  · rcases h.f4 with ⟨h1, h2⟩ | h1
    · rw [h1, h2]; exact o.o4
    · exact h1.offN hF
theorem zero_off (Φ : Nat → Prop) : FilOff Φ zeroV zeroF := ⟨.inl rfl, .inl rfl, .inl rfl, .inl rfl⟩
theorem rightB_iff (F : Fil) : rightB F = true ↔ bankB F = true ∧ (F.nC : Int) = F.cc ∧ (F.nI : Int) = F.jc ∧ (F.nH : Int) = F.hc ∧ (F.nR : Int) = F.rc := by
  unfold rightB; simp only [Bool.and_eq_true, decide_eq_true_eq]; constructor
  · rintro ⟨⟨⟨⟨h1, h2⟩, h3⟩, h4⟩, h5⟩; exact ⟨h1, h2, h3, h4, h5⟩
  · rintro ⟨h1, h2, h3, h4, h5⟩; exact ⟨⟨⟨⟨h1, h2⟩, h3⟩, h4⟩, h5⟩
theorem bankB_iff (F : Fil) : bankB F = true ↔ rgtB F.cf F.cc = true ∧ rgtB F.jf F.jc = true ∧ rgtB F.hf F.hc = true ∧ rgtB F.rf F.rc = true ∧ rgtB F.bf F.bc = true := by
  unfold bankB; simp only [Bool.and_eq_true]; constructor
  · rintro ⟨⟨⟨⟨h1, h2⟩, h3⟩, h4⟩, h5⟩; exact ⟨h1, h2, h3, h4, h5⟩
  · rintro ⟨h1, h2, h3, h4, h5⟩; exact ⟨⟨⟨⟨h1, h2⟩, h3⟩, h4⟩, h5⟩
/-- How many cells the tables of a file that may be have. -/
theorem bank_small {F : Fil} (h : bankB F = true) : 0 ≤ F.cc ∧ F.cc ≤ 65536 ∧ 0 ≤ F.jc ∧ F.jc ≤ 65536 ∧ 0 ≤ F.hc ∧ F.hc ≤ 65536 ∧ 0 ≤ F.rc ∧ F.rc ≤ 65536 := by
  obtain ⟨h1, h2, h3, h4, _⟩ := (bankB_iff F).1 h
  have := (rgtB_iff _ _).1 h1; have := (rgtB_iff _ _).1 h2; have := (rgtB_iff _ _).1 h3; have := (rgtB_iff _ _).1 h4
  omega
theorem right_small {F : Fil} (h : rightB F = true) : F.nC ≤ 1000000 ∧ F.nI ≤ 1000000 ∧ F.nH ≤ 1000000 ∧ F.nR ≤ 1000000 := by
  obtain ⟨hb, h1, h2, h3, h4⟩ := (rightB_iff F).1 h
  have := bank_small hb
  omega
section
variable {F : Fil} {x k v : Int} {m : Nat}
theorem bitE_no (i : Bool) (h : rightB F = false) : bitE F i x k = 11 ∧ bitN F i x k = 0 := by
  have hE : bitE F i x k = 11 := by unfold bitE; rw [if_neg (by rw [h]; decide)]
  exact ⟨hE, by unfold bitN; rw [if_neg (by rw [hE]; decide)]⟩
theorem bitE_in (h : rightB F = true) : bitE F true x k = rdE F.jf F.jc F.nI x k ∧ bitN F true x k = rdN F.jf F.jc F.nI x k k.toNat := by
  have hE : bitE F true x k = rdE F.jf F.jc F.nI x k := by unfold bitE; rw [if_pos h, if_pos rfl]
  exact ⟨hE, by unfold bitN rdN; rw [hE]⟩
theorem bitE_out (h : rightB F = true) : bitE F false x k = rdE F.cf F.cc F.nC x k ∧ bitN F false x k = rdN F.cf F.cc F.nC x k k.toNat := by
  have hE : bitE F false x k = rdE F.cf F.cc F.nC x k := by unfold bitE; rw [if_pos h, if_neg (by decide)]
  exact ⟨hE, by unfold bitN rdN; rw [hE]⟩
theorem wrdE_no (i : Bool) (h : rightB F = false) : wrdE F i x k = 11 ∧ wrdN F i x k = 0 := by
  have hE : wrdE F i x k = 11 := by unfold wrdE; rw [if_neg (by rw [h]; decide)]
  exact ⟨hE, by unfold wrdN; rw [if_neg (by rw [hE]; decide)]⟩
theorem wrdE_in (h : rightB F = true) : wrdE F true x k = rdE F.rf F.rc F.nR x k ∧ wrdN F true x k = rdN F.rf F.rc F.nR x k k.toNat := by
  have hE : wrdE F true x k = rdE F.rf F.rc F.nR x k := by unfold wrdE; rw [if_pos h, if_pos rfl]
  exact ⟨hE, by unfold wrdN rdN; rw [hE]⟩
theorem wrdE_out (h : rightB F = true) : wrdE F false x k = brkE F (rdE F.hf F.hc F.nH x k) x k ∧ wrdN F false x k = if brkE F (rdE F.hf F.hc F.nH x k) x k = 0 then k.toNat else 0 := by
  have hE : wrdE F false x k = brkE F (rdE F.hf F.hc F.nH x k) x k := by unfold wrdE; rw [if_pos h, if_neg (by decide)]
  exact ⟨hE, by unfold wrdN; rw [hE]⟩
end
theorem keepRow (w : World) (g : Nat) (cs : Array Value) : Keep (fun i => i = g) w (w.setRow g cs) := ⟨rfl, rfl, rfl, by simp, fun k _ hn => setRow_other w g k cs hn⟩
theorem keepCell (w : World) (g o : Nat) (v : Value) : Keep (fun i => i = g) w (w.setCell ⟨g, o, none⟩ v) := ⟨rfl, rfl, rfl, by simp, fun k _ hn => Below.heap_setCell w ⟨g, o, none⟩ v k hn⟩
theorem frozen_of {w : World} {B j : Nat} {cs : Array Value} {t : TypeId} (h : w.heap[B]? = some (.cells cs t (0, 0))) : w.frozen? ⟨B, j, none⟩ = false := by simp [World.frozen?, h]
/-- A file's box and the box of what is told, one behind the other. -/
theorem two_boxes (w : World) (a b : Array Value) (t u : TypeId) : ((w.alloc (.cells a t)).alloc (.cells b u)).heap[w.heap.size]? = some (.cells a t (0, 0)) ∧ ((w.alloc (.cells a t)).alloc (.cells b u)).heap[w.heap.size + 1]? = some (.cells b u (0, 0)) :=
  ⟨(heap_alloc_old _ _ (by simp)).trans (heap_alloc_new w _), heap_new_at _ _ (by simp)⟩
end Go.Proofs.Ytkgakeknnfnjdaa
