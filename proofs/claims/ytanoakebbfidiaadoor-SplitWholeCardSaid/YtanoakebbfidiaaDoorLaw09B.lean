/-
  THE LAWS OF LAYER 9: SplitCuts ('sure' as a premise).
-/
import Derived.Test.YtanoakebbfidiaaDoorSplitC
import Derived.Test.YtanoakebbfidiaaDoorCutA
import Derived.Deep.RegionHeld3
namespace Go.Proofs.YtanoakebbfidiaaDoor
open Go.RowKit
set_option linter.unusedVariables false

theorem eqB_self (n : Nat) (f : Nat → Int) : eqB n n f f = true := eqB_true rfl fun _ _ => rfl
theorem sameB_self (s : Seg) : sameB s s = true := by unfold sameB; simp [eqB_self]
theorem alikeB_of_map : ∀ {L M : List SegP}, L.map Prod.snd = M.map Prod.snd → alikeB L M = true
  | [], [], _ => rfl
  | [], _ :: _, h => by simp at h
  | _ :: _, [], h => by simp at h
  | x :: L, y :: M, h => by
    simp only [List.map_cons, List.cons.injEq] at h
    unfold alikeB
    rw [h.1, sameB_self, alikeB_of_map h.2]; rfl
theorem cutG_len : ∀ (s l : Int) (b : Bool) (f : Int) (g : Seg) (L : List Byt), (cutG s l b f g L).length ≤ L.length + 1
  | _, _, b, _, g, [] => by rw [cutG_nil]; split <;> simp
  | s, l, true, f, g, b :: L => by rw [cutG_first]; have := cutG_len s l false b.1 (oneS (gapS g (decide (b.1 - f < l))) b) L; simp only [List.length_cons]; omega
  | s, l, false, f, g, b :: L => by
    by_cases h : l ≤ b.1 - f
    · rw [cutG_cut h]; have := cutG_len s l false b.1 (oneS zeroS b) L; simp only [List.length_cons]; omega
    · by_cases k : s < b.1 - f
      · rw [cutG_gap h k]; have := cutG_len s l false b.1 (oneS (gapS g true) b) L; simp only [List.length_cons]; omega
      · rw [cutG_on h k]; have := cutG_len s l false b.1 (oneS g b) L; simp only [List.length_cons]; omega
theorem allS_len (c s l u f : Int) (L : List Byt) : (allS c s l u f L).length ≤ L.length + 1 := by
  unfold allS
  split
  · exact cutG_len _ _ _ _ _ _
  · simp
theorem WfB.byte {L : List Byt} (h : WfB L) : ∀ x ∈ L, 0 ≤ x.2.1 ∧ x.2.1 < 256 := fun x hx => by have := bounds_u8 (h x hx).2; omega
set_option maxRecDepth 100000 in
set_option maxHeartbeats 8000000 in
theorem splitCuts.any (a : Option Addr) (n cp : Nat) (L : List Byt) (c s l u f : Int) (w : World) (hr : Rd w) (ha : HoldsL 3 byt w a L) (hL : L.length = n) (hcp : n ≤ cp) (hcm : cp ≤ maxLen) (h700 : n ≤ 700) (hw : WfB L)
    (hc : (Lit.int .i64 c).wf = true) (hs : (Lit.int .i64 s).wf = true) (hl : (Lit.int .i64 l).wf = true) (hu : (Lit.int .i64 u).wf = true) (hf : (Lit.int .i64 f).wf = true)
    (sure : ∀ w, Rd w → Calls Tryd.prog 8 #[] w fun e w' => e = .returned (.bool true) ∧ Ext w w') :
    Calls Tryd.prog 3 #[.slice a n cp, timesC c s l u, .int .i64 f] w fun e w' => e = .returned (.bool true) ∧ Ext w w' := by
  obtain ⟨w0, hw0⟩ : ∃ w0, w0 = w.alloc (.cells #[.int .i64 c, .int .i64 s, .int .i64 l, .int .i64 u] 24) := ⟨_, rfl⟩
  have x0 : Ext w w0 := by rw [hw0]; exact Ext.alloc _ _
  have hT : ∀ w', Ext w0 w' → w'.cell? ⟨w.heap.size, 0, none⟩ = some (.int .i64 c) ∧ w'.cell? ⟨w.heap.size, 1, none⟩ = some (.int .i64 s) ∧ w'.cell? ⟨w.heap.size, 2, none⟩ = some (.int .i64 l) ∧ w'.cell? ⟨w.heap.size, 3, none⟩ = some (.int .i64 u) := fun w' x => by
    rw [hw0] at x
    exact ⟨x.made 0 _ rfl, x.made 1 _ rfl, x.made 2 _ rfl, x.made 3 _ rfl⟩
  have f1 := fun w' (x : Ext w0 w') => sright_any a n cp L f w' (ha.ext (x0.trans x)) hL (by omega) hw hf
  have f2 := fun w' (x : Ext w0 w') => r9right_any a n cp L f w' (ha.ext (x0.trans x)) hL (by omega)
  have f3 := fun w' (x : Ext w0 w') => sall_any a n cp L c s l u f w' (hr.ext (x0.trans x)) (ha.ext (x0.trans x)) hL hcp hcm (by omega) hw hc hs hl hu hf
  have f4 := fun w' (x : Ext w0 w') => rall_any a n cp L c s l u f w' (ha.ext (x0.trans x)) hL (by omega) hw.byte
  have f5 := fun w' (x : Ext w0 w') => sure w' (hr.ext (x0.trans x))
  have hlen := allS_len c s l u f L
  rw [hL] at hlen
  generalize rightI L f = B at f1 f2
  generalize allS c s l u f L = R at f3 f4 hlen
  have HT := Lib.hid hT
  have F1 := Lib.hid f1; have F2 := Lib.hid f2; have F3 := Lib.hid f3; have F4 := Lib.hid f4; have F5 := Lib.hid f5
  have HLen := Lib.hid hlen
  have HN := Lib.hid h700
  have X0 := Lib.hid x0
  have h7 : ¬ ((700 : Int) < n) := by omega
  obtain ⟨q0, q1, q2, q3⟩ := hT w0.drew (Ext.drew _)
  have y0 : Ext w0 w0.drew := Ext.drew _
  unfold timesC at F3 F4 ⊢
  clear hr ha hL hcp hcm h700 hw hc hs hl hu hf sure f1 f2 f3 f4 f5 hT hlen x0
  go_enter Tryd.func3, Tryd.ntmps3
  go_wp2_with fail
  rw [← hw0]
  clear hw0
  go_region_held3 (fun w' => w'.cell? ⟨w.heap.size, 0, none⟩ = some (.int .i64 c) ∧ w'.cell? ⟨w.heap.size, 1, none⟩ = some (.int .i64 s) ∧ w'.cell? ⟨w.heap.size, 2, none⟩ = some (.int .i64 l) ∧ w'.cell? ⟨w.heap.size, 3, none⟩ = some (.int .i64 u) ∧ Ext w0 w')
    ((refine ⟨?_, ?_, ?_, ?_, ?_⟩ <;> assumption))
    (first
      | (go_at_call 9; refine (F1.out _ (by assumption)).mono ?_; rintro e w1 ⟨rfl, x1⟩; have y1 := Ext.trans (by assumption) x1; obtain ⟨a0, a1, a2, a3⟩ := HT.out _ y1)
      | (go_at_call 10; refine (F2.out _ (by assumption)).mono ?_; rintro e w2 ⟨rfl, rfl⟩)
      | (go_at_call 12; refine (F3.out _ (by assumption)).mono ?_; rintro e w3 ⟨z3, u3, L3, rfl, x3, s3, r3⟩; have y3 := Ext.trans (by assumption) x3; obtain ⟨b0, b1, b2, b3⟩ := HT.out _ y3)
      | (go_at_call 13; refine (F4.out _ (by assumption)).mono ?_; rintro e w4 ⟨z4, u4', L4, rfl, x4, s4, r4⟩; have y4 := Ext.trans y3 x4; obtain ⟨c0, c1, c2, c3⟩ := HT.out _ y4)
      | (go_at_call 11; refine (ralike_any z3 z4 _ _ _ _ L3 L4 _ (s3.segs.ext x4) s4.segs rfl rfl (by have := HLen.out; rw [← r3, List.length_map] at this; have := HN.out; omega) (by have := HLen.out; rw [← r4, List.length_map] at this; have := HN.out; omega) (fun x hx => by have := (s3.each x hx).2.2.2.2; omega) (fun x hx => by have := (s4.each x hx).2.2.2.2; omega)).mono ?_; rintro e w5 ⟨rfl, x5⟩; have y5 := Ext.trans y4 x5; obtain ⟨d0, d1, d2, d3⟩ := HT.out _ y5; rw [alikeB_of_map (r3.trans r4.symm)])
      | (go_at_call 8; refine (F5.out _ (by assumption)).mono ?_; rintro e w6 ⟨rfl, x6⟩; have y6 := Ext.trans y5 x6; obtain ⟨e0, e1, e2, e3⟩ := HT.out _ y6))
  clear q0 q1 q2 q3 a0 a1 a2 a3 b0 b1 b2 b3 c0 c1 c2 c3 d0 d1 d2 d3 e0 e1 e2 e3
  go_wp2
  go_ret
  exact ⟨rfl, X0.out.trans y6⟩
end Go.Proofs.YtanoakebbfidiaaDoor
