/-
  LAYER 25: package send's contracts as one structure; the law 'sure'.
-/
import Derived.Test.YtebhalehgpigoaaSendM
import Derived.Test.YtebhalehgpigoaaRef01
import Derived.Test.YtebhalehgpigoaaWholeP
namespace Go.Proofs.Ytebhalehgpigoaa
open Go.RowKit
set_option linter.unusedVariables false
set_option maxRecDepth 100000

def WfO (L : List (Int × Int)) : Prop := ∀ x ∈ L, (Lit.int .i64 x.1).wf = true ∧ (0 ≤ x.2 ∧ x.2 < 256)
def sndF (L : List (Int × Int)) : Nat → Int := fun i => (L.getD i (0, 0)).2
theorem wf_time {z : Int} (h0 : 0 ≤ z) (h1 : z ≤ 1099511627776) : (Lit.int .i64 z).wf = true := by
  simp [Lit.wf, IntKind.min, IntKind.max, IntKind.signed, IntKind.bits]; omega
theorem wf_add (a d : Int) : (Lit.int .i64 (addI a d)).wf = true := wf_time (addI_lo _ _) (addI_hi _ _)
theorem planL_wf {T c u : Int} {f : Nat → Int} {n : Nat} (hf : ∀ i, i < n → 0 ≤ f i ∧ f i < 256) : WfO (planL T c u f n) := by
  intro x hx
  obtain ⟨k, hk, rfl⟩ := List.mem_map.1 hx
  exact ⟨wf_add _ _, hf k (List.mem_range.1 hk)⟩
theorem planO_wf {c s l u T : Int} {f : Nat → Int} {n : Nat} (hf : ∀ i, i < n → 0 ≤ f i ∧ f i < 256) : WfO (planO c s l u T f n) := by
  unfold planO
  split
  · exact planL_wf hf
  · intro x hx; cases hx
theorem planL_snd {T c u : Int} {f : Nat → Int} {n : Nat} : ∀ i, i < n → sndF (planL T c u f n) i = f i := by
  intro i hi
  unfold sndF
  rw [List.getD_eq_getElem?_getD, List.getElem?_eq_getElem (by rw [planL_length]; exact hi)]
  unfold planL
  simp only [List.getElem_map, List.getElem_range, Option.getD_some]
theorem planO_some {c s l u T : Int} {f : Nat → Int} {n : Nat} (h : 0 < (planO c s l u T f n).length) : (planO c s l u T f n).length = n ∧ ∀ i, i < n → sndF (planO c s l u T f n) i = f i := by
  unfold planO at h ⊢
  split
  · exact ⟨planL_length _ _ _ _ _, planL_snd⟩
  · rename_i h2; rw [if_neg h2] at h; exact absurd h (Nat.lt_irrefl _)
/-- PACKAGE send's CONTRACTS. -/
structure SendC : Prop where
  plan : ∀ (a : Option Addr) (n cp : Nat) (f : Nat → Int) (T c s l u : Int) (w : World), Holds .u8 w a n f → n ≤ 1000000 → n ≤ cp → cp ≤ maxLen → (∀ i, i < n → 0 ≤ f i ∧ f i < 256) → (Lit.int .i64 T).wf = true → (Lit.int .i64 c).wf = true → (Lit.int .i64 s).wf = true → (Lit.int .i64 l).wf = true → (Lit.int .i64 u).wf = true →
    Calls Try.prog 6 #[.slice a n cp, .int .i64 T, timesC c s l u] w (OutP (planO c s l u T f n) w)
  hear : ∀ (a : Option Addr) (n cp : Nat) (L : List (Int × Int)) (c s l u : Int) (w : World), HoldsL 2 outC w a L → L.length = n → n ≤ 1000000 → n ≤ cp → cp ≤ maxLen → WfO L → (Lit.int .i64 c).wf = true → (Lit.int .i64 s).wf = true → (Lit.int .i64 l).wf = true → (Lit.int .i64 u).wf = true →
    Calls Try.prog 8 #[.slice a n cp, timesC c s l u] w (BytP (hearO c s l u L) w)
  end_ : ∀ (a : Option Addr) (n cp : Nat) (L : List (Int × Int)) (c s l u : Int) (w : World), HoldsL 2 outC w a L → L.length = n → n ≤ 1000000 → n ≤ cp → cp ≤ maxLen → WfO L → (Lit.int .i64 c).wf = true → (Lit.int .i64 s).wf = true → (Lit.int .i64 l).wf = true → (Lit.int .i64 u).wf = true →
    Calls Try.prog 11 #[.slice a n cp, timesC c s l u] w fun e w' => e = .returned (.int .i64 (endO c s l u L)) ∧ Ext w w'
  bytes : ∀ (a : Option Addr) (n cp : Nat) (L : List (Int × Int)) (w : World), HoldsL 2 outC w a L → L.length = n → n ≤ 1000000 → n ≤ cp → cp ≤ maxLen → WfO L →
    Calls Try.prog 14 #[.slice a n cp] w fun e w' => ∃ z x, e = .returned (.slice z n x) ∧ n ≤ x ∧ x ≤ maxLen ∧ Holds .u8 w' z n (sndF L) ∧ Ext w w'
theorem BytP.few {c s l u : Int} {L : List (Int × Int)} : (hearO c s l u L).length ≤ L.length := by
  unfold hearO
  split
  · rw [hearL_length]; exact Nat.le_refl _
  · exact Nat.zero_le _
theorem s25_1 : planO 1 2 4 3 10 (ofL [7, 8]) 2 = [(13, 7), (14, 8)] := by decide
theorem s25_2 : hearO 1 2 4 3 [(13, 7), (14, 8)] = [(14, 7, false), (15, 8, false)] := by decide
theorem s25_3 : endO 1 2 4 3 [(13, 7), (14, 8)] = 15 := by decide
theorem s25_4 : planO 1 2 4 3 (-1) (ofL [7]) 1 = [] := by decide
theorem s25_5 : ∀ i, i < 2 → sndF [(13, 7), (14, 8)] i = ofL [7, 8] i := below_of 2 (by decide)
theorem s25_6 : WfO [(13, 7), (14, 8)] := by
  intro x hx
  simp only [List.mem_cons, List.not_mem_nil, or_false] at hx
  rcases hx with rfl | rfl <;> exact ⟨by decide, by decide⟩
theorem byts_is (a b : Option Addr) (n c d : Nat) (f g : Nat → Int) (w : World) (ha : Holds .u8 w a n f) (hb : Holds .u8 w b n g) (hn : n ≤ 1000000) (e : ∀ i, i < n → f i = g i) :
    Calls Try.prog 13 #[.slice a n c, .slice b n d] w fun e w' => e = .returned (.bool true) ∧ Ext w w' :=
  (bytes_any a b n n c d f g w ha hb hn hn).mono fun _ _ h => ⟨by rw [h.1, eqB_true rfl e], Ext.of_drewN h.2⟩
theorem out_lit (w : World) : HoldsL 2 outC (w.alloc (.cells #[.int .i64 13, .int .u8 7, .int .i64 14, .int .u8 8] 39)) (some ⟨w.heap.size, 0, none⟩) [(13, 7), (14, 8)] := by
  refine .inr ⟨w.heap.size, 0, rfl, by simp, ?_⟩
  intro i x hx j v hv
  have h := fun k v h => (Ext.refl (w.alloc (.cells #[.int .i64 13, .int .u8 7, .int .i64 14, .int .u8 8] 39))).made k v h
  match i, j, hx, hv with
  | 0, 0, hx, hv => cases hx; cases hv; exact h 0 _ rfl
  | 0, 1, hx, hv => cases hx; cases hv; exact h 1 _ rfl
  | 0, (j + 2), hx, hv => cases hx; cases hv
  | 1, 0, hx, hv => cases hx; cases hv; exact h 2 _ rfl
  | 1, 1, hx, hv => cases hx; cases hv; exact h 3 _ rfl
  | 1, (j + 2), hx, hv => cases hx; cases hv
  | (i + 2), _, hx, hv => cases hx
/-- The times that a call holds in a block of its own. -/
structure TimAt (w : World) (b : Nat) (c s l u : Int) : Prop where
  c0 : w.cell? ⟨b, 0, none⟩ = some (.int .i64 c)
  c1 : w.cell? ⟨b, 1, none⟩ = some (.int .i64 s)
  c2 : w.cell? ⟨b, 2, none⟩ = some (.int .i64 l)
  c3 : w.cell? ⟨b, 3, none⟩ = some (.int .i64 u)
theorem TimAt.ext {w w' : World} {b : Nat} {c s l u : Int} (h : TimAt w b c s l u) (x : Ext w w') : TimAt w' b c s l u :=
  ⟨x.cell (World.block_lt_of_cell? _ _ h.c0) h.c0, x.cell (World.block_lt_of_cell? _ _ h.c1) h.c1, x.cell (World.block_lt_of_cell? _ _ h.c2) h.c2, x.cell (World.block_lt_of_cell? _ _ h.c3) h.c3⟩
theorem TimAt.made (w : World) (c s l u : Int) : TimAt (w.alloc (.cells #[.int .i64 c, .int .i64 s, .int .i64 l, .int .i64 u] 24)) w.heap.size c s l u :=
  ⟨(Ext.refl _).made 0 _ rfl, (Ext.refl _).made 1 _ rfl, (Ext.refl _).made 2 _ rfl, (Ext.refl _).made 3 _ rfl⟩
theorem one_b {i : Nat} {f : Nat → Int} (hi : i < 1) (h : 0 ≤ f 0 ∧ f 0 < 256) : 0 ≤ f i ∧ f i < 256 := by
  obtain rfl : i = 0 := by omega
  exact h
set_option maxHeartbeats 8000000 in
theorem sure25 (K : SendC) (w : World) : Calls Try.prog 5 #[] w fun e w' => e = .returned (.bool true) ∧ Ext w w' := by
  have HK := Lib.hid K
  have H1 := Lib.hid s25_1
  have H2 := Lib.hid s25_2
  have H3 := Lib.hid s25_3
  have H4 := Lib.hid s25_4
  have T0 := TimAt.made w 1 2 4 3
  have x0 := Ext.alloc w (.cells #[.int .i64 1, .int .i64 2, .int .i64 4, .int .i64 3] 24)
  clear K
  go_enter Try.func5, Try.ntmps5
  go_upto_region 2 with fail
  obtain ⟨w0, hw0⟩ : ∃ w0, w0 = w.alloc (.cells #[.int .i64 1, .int .i64 2, .int .i64 4, .int .i64 3] 24) := ⟨_, rfl⟩
  rw [← hw0] at T0 x0 ⊢
  have HT := Lib.hid (fun w' (x : Ext w0 w') => T0.ext x)
  clear hw0 T0
  have A1 := HK.out.plan (some ⟨w0.heap.size, 0, none⟩) 2 2 (ofL [7, 8]) 10 1 2 4 3 (w0.alloc (.cells #[.int .u8 7, .int .u8 8] 5)) (Holds.lit w0 [7, 8] 5 _ rfl 2 rfl) (by omega) (Nat.le_refl _) (by unfold maxLen; omega) (below_of 2 (by decide)) (by decide) (by decide) (by decide) (by decide) (by decide)
  rw [H1.out] at A1
  obtain ⟨t0, t1, t2, t3⟩ := HT.out _ (Ext.alloc w0 (.cells #[.int .u8 7, .int .u8 8] 5))
  have HA1 := Lib.hid A1
  clear A1
  unfold timesC at HA1
  go_wp2_with fail
  refine HA1.out.mono ?_; rintro e w1 ⟨z, q, rfl, l1, m1, h1, x1⟩
  clear t0 t1 t2 t3 HA1
  have y1 : Ext w0 w1 := (Ext.alloc w0 _).trans x1
  simp only [List.length_cons, List.length_nil, Nat.zero_add, Nat.reduceAdd] at l1 ⊢
  obtain ⟨t0, t1, t2, t3⟩ := HT.out _ y1
  have A2 := HK.out.hear z 2 q [(13, 7), (14, 8)] 1 2 4 3 w1 h1 rfl (by omega) l1 m1 s25_6 (by decide) (by decide) (by decide) (by decide)
  rw [H2.out] at A2
  have HA2 := Lib.hid A2
  have HL := Lib.hid (And.intro h1 (And.intro l1 m1))
  clear A2 x1 h1 l1 m1
  unfold timesC at HA2
  go_wp2_with fail
  refine HA2.out.mono ?_; rintro e w2 ⟨z2, q2, rfl, l2, m2, h2, x2⟩
  clear t0 t1 t2 t3 HA2
  simp only [List.length_cons, List.length_nil, Nat.zero_add, Nat.reduceAdd] at l2 ⊢
  have y2 : Ext w0 w2 := y1.trans x2
  have HZ2 := Lib.hid (fun w' (x : Ext w2 w') => h2.ext x)
  have HZ1 := Lib.hid (fun w' (x : Ext w2 w') => HL.out.1.ext (x2.trans x))
  have A3 := rsame25_yes z (some ⟨w2.heap.size, 0, none⟩) 2 q 2 [(13, 7), (14, 8)] (w2.alloc (.cells #[.int .i64 13, .int .u8 7, .int .i64 14, .int .u8 8] 39)) (HZ1.out _ (Ext.alloc _ _)) (out_lit w2) rfl (by omega)
  have HA3 := Lib.hid A3
  have d1 : (q2 : Int) ≤ 9223372036854775807 := by unfold maxLen at m2; omega
  have d2 : (2 : Int) ≤ q2 := by omega
  clear A3 h2 l2 m2 x2
  go_wp2_with fail
  refine HA3.out.mono ?_; rintro e w3 ⟨rfl, x3⟩
  have y3 : Ext w2 w3 := (Ext.alloc w2 _).trans x3
  obtain ⟨t0, t1, t2, t3⟩ := HT.out _ (y2.trans y3)
  have A4 := HK.out.end_ z 2 q [(13, 7), (14, 8)] 1 2 4 3 w3 (HZ1.out _ y3) rfl (by omega) HL.out.2.1 HL.out.2.2 s25_6 (by decide) (by decide) (by decide) (by decide)
  rw [H3.out] at A4
  have HA4 := Lib.hid A4
  clear A4 x3 HA3
  unfold timesC at HA4
  go_wp2_with fail
  refine HA4.out.mono ?_; rintro e w4 ⟨rfl, x4⟩
  clear t0 t1 t2 t3 HA4
  have y4 : Ext w2 w4 := y3.trans x4
  have hz := HZ2.out _ y4
  obtain ⟨b5, o5, rfl, hp5, -⟩ := hz.resolve_left (by simp)
  obtain ⟨e0, -, -⟩ := hz.byt_at 1 (by simp)
  have HB := HK.out.bytes z 2 q [(13, 7), (14, 8)] w4 (HZ1.out _ y4) rfl (by omega) HL.out.2.1 HL.out.2.2 s25_6
  have HA5 := Lib.hid HB
  clear HB hz x4
  simp only [List.getElem_cons_succ, List.getElem_cons_zero] at e0
  go_wp2_with fail
  refine HA5.out.mono ?_; rintro e w5 ⟨z5, q5, rfl, l5, m5, h5, x5⟩
  have A6 := byts_is z5 (some ⟨w5.heap.size, 0, none⟩) 2 q5 2 _ (ofL [7, 8]) (w5.alloc (.cells #[.int .u8 7, .int .u8 8] 5)) (h5.ext (Ext.alloc _ _)) (Holds.lit w5 [7, 8] 5 _ rfl 2 rfl) (by omega) s25_5
  have HA6 := Lib.hid A6
  have y5 : Ext w2 w5 := y4.trans x5
  clear A6 HA5 h5 x5 l5 m5 e0
  go_wp2_with fail
  refine HA6.out.mono ?_; rintro e w6 ⟨rfl, x6⟩
  have y6 : Ext w2 w6 := y5.trans ((Ext.alloc w5 _).trans x6)
  have A7 := HK.out.plan (some ⟨w6.heap.size, 0, none⟩) 1 1 (ofL [7]) (-1) 1 2 4 3 (w6.alloc (.cells #[.int .u8 7] 5)) (Holds.lit w6 [7] 5 _ rfl 1 rfl) (by omega) (Nat.le_refl _) (by unfold maxLen; omega) (below_of 1 (by decide)) (by decide) (by decide) (by decide) (by decide) (by decide)
  rw [H4.out] at A7
  obtain ⟨t0, t1, t2, t3⟩ := HT.out _ ((y2.trans y6).trans (Ext.alloc w6 (.cells #[.int .u8 7] 5)))
  have HA7 := Lib.hid A7
  clear A7 x6 HA6
  unfold timesC at HA7
  go_wp2_with fail
  refine HA7.out.mono ?_; rintro e w7 ⟨z7, q7, rfl, -, -, -, x7⟩
  have y7 : Ext w w7 := x0.trans (y2.trans (y6.trans ((Ext.alloc w6 _).trans x7)))
  clear t0 t1 t2 t3
  go_wp2
  go_ret
  exact ⟨rfl, y7⟩
end Go.Proofs.Ytebhalehgpigoaa
