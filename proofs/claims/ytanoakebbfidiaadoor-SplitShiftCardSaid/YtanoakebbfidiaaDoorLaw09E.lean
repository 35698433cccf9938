/-
  THE LAWS OF LAYER 9: SplitShift ('sure' as a premise).
-/
import Derived.Test.YtanoakebbfidiaaDoorLaw09D
namespace Go.Proofs.YtanoakebbfidiaaDoor
open Go.RowKit
set_option linter.unusedVariables false

def shiftB (d : Int) (b : Byt) : Byt := (b.1 + d, b.2.1, b.2.2)
def shiftS (d : Int) (s : Seg) : Seg := { s with first := s.first + d, last := s.last + d }
theorem one_shift {d : Int} {s : Seg} (b : Byt) (h : s.count ≠ 0) : oneS (shiftS d s) (shiftB d b) = shiftS d (oneS s b) := by
  unfold oneS shiftS shiftB
  simp [h]
theorem one_shift0 {d : Int} {s : Seg} (b : Byt) (h : s.count = 0) : oneS s (shiftB d b) = shiftS d (oneS s b) := by
  unfold oneS shiftS shiftB
  simp [h]
theorem gap_shift (d : Int) (s : Seg) (g : Bool) : gapS (shiftS d s) g = shiftS d (gapS s g) := rfl
theorem cutG_shift (s l d : Int) : ∀ (L : List Byt) (f : Int) (g : Seg), 0 < g.count → cutG s l false (f + d) (shiftS d g) (L.map (shiftB d)) = (cutG s l false f g L).map (shiftS d)
  | [], f, g, h => by
    rw [List.map_nil, cutG_nil, cutG_nil, if_pos h, if_pos (show 0 < (shiftS d g).count from h)]; rfl
  | b :: L, f, g, h => by
    have e : (shiftB d b).1 - (f + d) = b.1 - f := by show b.1 + d - (f + d) = b.1 - f; omega
    have hz : ∀ (x : Byt), oneS zeroS (shiftB d x) = shiftS d (oneS zeroS x) := fun x => one_shift0 x rfl
    rw [List.map_cons]
    by_cases h1 : l ≤ b.1 - f
    · rw [cutG_cut (by rw [e]; exact h1), cutG_cut h1, hz]
      show _ :: cutG s l false (b.1 + d) _ _ = _
      rw [cutG_shift s l d L b.1 _ (by rw [oneS_count]; decide)]; rfl
    · by_cases h2 : s < b.1 - f
      · rw [cutG_gap (by rw [e]; exact h1) (by rw [e]; exact h2), cutG_gap h1 h2, gap_shift, one_shift b (show (gapS g true).count ≠ 0 by show g.count ≠ 0; omega)]
        exact cutG_shift s l d L b.1 _ (by rw [oneS_count]; show 0 < g.count + 1; omega)
      · rw [cutG_on (by rw [e]; exact h1) (by rw [e]; exact h2), cutG_on h1 h2, one_shift b (by omega)]
        exact cutG_shift s l d L b.1 _ (by rw [oneS_count]; omega)
theorem rising_shift {d : Int} (h0 : 0 ≤ d) : ∀ {L : List Byt} {f : Int}, risingI f L = true → lastT f L + d ≤ 1099511627776 → f ≤ lastT f L ∧ risingI (f + d) (L.map (shiftB d)) = true
  | [], f, _, _ => ⟨Int.le_refl _, rfl⟩
  | b :: L, f, h, k => by
    obtain ⟨h1, h2, h3⟩ := rising_drop h
    rw [lastT_cons] at k ⊢
    obtain ⟨k1, k2⟩ := rising_shift h0 h3 k
    refine ⟨by omega, ?_⟩
    show (decide (f + d ≤ b.1 + d ∧ b.1 + d ≤ 1099511627776) && risingI (b.1 + d) (L.map (shiftB d))) = true
    rw [decide_eq_true (by omega), k2]; rfl
theorem allS_shift {c s l u d : Int} {L : List Byt} (hr : rightB c s l u = true) (hL : rightI L 0 = true) (h0 : 0 ≤ d) (hd : lastT 0 L + d ≤ 1099511627776) (hd2 : d ≤ 1099511627776) :
    allS c s l u d (L.map (shiftB d)) = (allS c s l u 0 L).map (shiftS d) := by
  have hA : rightI (L.map (shiftB d)) d = true := by
    refine right_rising.2 ⟨⟨h0, hd2⟩, ?_⟩
    have := (rising_shift h0 (right_rising.1 hL).2 hd).2
    rwa [Int.zero_add] at this
  unfold allS
  rw [if_pos ⟨hr, hA⟩, if_pos ⟨hr, hL⟩]
  cases L with
  | nil => rfl
  | cons b L =>
    rw [List.map_cons, cutG_first, cutG_first]
    have e : (shiftB d b).1 - d = b.1 - 0 := by show b.1 + d - d = b.1 - 0; omega
    rw [e, one_shift0 b rfl]
    exact cutG_shift s l d L b.1 _ (by rw [oneS_count]; show (0 : Int) < 0 + 1; decide)
theorem fault_shift (d : Int) (s : Seg) : faultI (shiftS d s) = faultI s := rfl
theorem errs_shift (d : Int) (s : Seg) : errsB (shiftS d s) = errsB s := rfl
theorem same_shift (d : Int) (s : Seg) : sameB s ⟨s.n, s.f, s.first + d - d, s.last + d - d, s.count, s.gap, s.bad⟩ = true := by
  rw [show s.first + d - d = s.first by omega, show s.last + d - d = s.last by omega]; exact sameB_self s
/-- Times of segments are times of bytes. -/
def InT (s : Seg) : Prop := 0 ≤ s.first ∧ s.first ≤ 1099511627776 ∧ 0 ≤ s.last ∧ s.last ≤ 1099511627776
theorem InT.one {s : Seg} {b : Byt} (h : InT s) (h0 : 0 ≤ b.1) (h1 : b.1 ≤ 1099511627776) : InT (oneS s b) := by
  obtain ⟨a, b', c, d⟩ := h
  unfold InT oneS
  simp only
  split <;> omega
theorem InT.gap {s : Seg} (h : InT s) (g : Bool) : InT (gapS s g) := h
theorem InT.zero : InT zeroS := ⟨by decide, by decide, by decide, by decide⟩
theorem cutG_times (s l : Int) : ∀ (L : List Byt) (b : Bool) (f : Int) (g : Seg), (∀ x ∈ L, 0 ≤ x.1 ∧ x.1 ≤ 1099511627776) → InT g → ∀ y ∈ cutG s l b f g L, InT y
  | [], b, f, g, _, hg, y, hy => by
    rw [cutG_nil] at hy
    split at hy
    · rw [List.mem_singleton.1 hy]; exact hg
    · simp at hy
  | x :: L, true, f, g, hL, hg, y, hy => by
    obtain ⟨h0, h1⟩ := hL x (by simp)
    rw [cutG_first] at hy
    exact cutG_times s l L _ _ _ (fun z hz => hL z (by simp [hz])) ((hg.gap _).one h0 h1) y hy
  | x :: L, false, f, g, hL, hg, y, hy => by
    obtain ⟨h0, h1⟩ := hL x (by simp)
    have hL' : ∀ z ∈ L, 0 ≤ z.1 ∧ z.1 ≤ 1099511627776 := fun z hz => hL z (by simp [hz])
    by_cases k1 : l ≤ x.1 - f
    · rw [cutG_cut k1] at hy
      rcases List.mem_cons.1 hy with rfl | hy
      · exact hg
      · exact cutG_times s l L _ _ _ hL' (InT.zero.one h0 h1) y hy
    · by_cases k2 : s < x.1 - f
      · rw [cutG_gap k1 k2] at hy
        exact cutG_times s l L _ _ _ hL' ((hg.gap _).one h0 h1) y hy
      · rw [cutG_on k1 k2] at hy
        exact cutG_times s l L _ _ _ hL' (hg.one h0 h1) y hy
theorem allS_times {c s l u f : Int} {L : List Byt} (h : ∀ x ∈ L, 0 ≤ x.1 ∧ x.1 ≤ 1099511627776) : ∀ y ∈ allS c s l u f L, InT y := by
  unfold allS
  split
  · exact cutG_times s l L _ _ _ h InT.zero
  · intro y hy; simp at hy
/-- The block of a list that a call owns. -/
theorem SegsO.block {B : Nat} {w' : World} {z : Option Addr} {u : Nat} {Ls : List SegP} (h : SegsO B w' z u Ls) (hn : 0 < Ls.length) : ∃ g cur, z = some ⟨g, 0, none⟩ ∧ B ≤ g ∧ w'.heap[g]? = some (.cells cur 33 (0, 0)) ∧
    ∀ i x, Ls[i]? = some x → ∀ j v, (segL x)[j]? = some v → cur[i * 6 + j]? = some v := by
  obtain ⟨h1, h2⟩ := h.own
  rcases h2 with ⟨hv, h0⟩ | ⟨g, cap, cur, hv, hg, hh, _, _, hs, ht⟩
  · omega
  · injection hv with e1 e2 e3
    refine ⟨g, cur, e1, hg, hh, fun i x hx j v hjv => ?_⟩
    have hf := flat_get segL_length Ls i x hx j v hjv
    rw [← ht, List.getElem?_take] at hf
    split at hf
    · simpa using hf
    · cases hf
set_option maxRecDepth 100000 in
set_option maxHeartbeats 8000000 in
theorem splitShift.most (a : Option Addr) (n cp : Nat) (L : List Byt) (c s l u d : Int) (w : World) (hr : Rd w) (ha : HoldsL 3 byt w a L) (hL : L.length = n) (hcp : n ≤ cp) (hcpm : cp ≤ maxLen) (h500 : n ≤ 500) (hw : WfB L)
    (hc : (Lit.int .i64 c).wf = true) (hs : (Lit.int .i64 s).wf = true) (hl : (Lit.int .i64 l).wf = true) (hu : (Lit.int .i64 u).wf = true) (hd0 : 0 ≤ d) (hd1 : d < 65536)
    (h1 : rightB c s l u = true) (h2 : rightI L 0 = true) (h3 : lastT 0 L ≤ 549755813888)
    (sure : ∀ w, Rd w → Calls Tryd.prog 8 #[] w fun e w' => e = .returned (.bool true) ∧ Ext w w') :
    Calls Tryd.prog 7 #[.slice a n cp, timesC c s l u, .int .u16 d] w fun e w' => e = .returned (.bool true) ∧ Ext w w' := by
  obtain ⟨iB, hiB, hzB0, hzB1, hzB2⟩ := info_parts Tryd.infoByte
  have hr0 := fun w => rright_any c s l u w
  rw [h1] at hr0
  have f1 := fun w' (x : Ext w w') => sright_any a n cp L 0 w' (ha.ext x) hL (by omega) hw rfl
  rw [h2] at f1
  have hdwf : (Lit.int .i64 d).wf = true := by simp [Lit.wf, IntKind.min, IntKind.max, IntKind.signed, IntKind.bits]; omega
  have f5 := fun w' (x : Ext w w') => sure w' (hr.ext x)
  have A1 := fun w' (x : Ext w w') => sall_any a n cp L c s l u 0 w' (hr.ext x) (ha.ext x) hL hcp hcpm (by omega) hw hc hs hl hu rfl
  have hwd : WfB (L.map (shiftB d)) := by
    intro x hx
    obtain ⟨y, hy, rfl⟩ := List.mem_map.1 hx
    have hb := (right_rising.1 h2).2
    have : ∀ (L : List Byt) (f : Int), 0 ≤ f → risingI f L = true → ∀ y ∈ L, 0 ≤ y.1 ∧ y.1 ≤ 1099511627776 := by
      intro L
      induction L with
      | nil => intro f h0 h y hy; simp at hy
      | cons x L ih =>
        intro f h0 h y hy
        obtain ⟨k1, k2, k3⟩ := rising_drop h
        rcases List.mem_cons.1 hy with rfl | hy
        · omega
        · exact ih x.1 (by omega) k3 y hy
    have := this L 0 (by omega) hb y hy
    refine ⟨?_, (hw y hy).2⟩
    show (Lit.int .i64 (y.1 + d)).wf = true
    simp [Lit.wf, IntKind.min, IntKind.max, IntKind.signed, IntKind.bits]; omega
  have A2 := fun (z : Option Addr) (x : Nat) w' (e : Ext w w') (hh : HoldsL 3 byt w' z (L.map (shiftB d))) (hx : n ≤ x) (hxm : x ≤ maxLen) => sall_any z n x (L.map (shiftB d)) c s l u d w' (hr.ext e) hh (by rw [List.length_map, hL]) hx hxm (by omega) hwd hc hs hl hu hdwf
  have hS := allS_shift h1 h2 hd0 (by omega) (by omega)
  have hats : ∀ x ∈ L, 0 ≤ x.1 ∧ x.1 ≤ 1099511627776 := by
    have hb := (right_rising.1 h2).2
    have : ∀ (L : List Byt) (f : Int), 0 ≤ f → risingI f L = true → ∀ y ∈ L, 0 ≤ y.1 ∧ y.1 ≤ 1099511627776 := by
      intro L
      induction L with
      | nil => intro f h0 h y hy; simp at hy
      | cons x L ih =>
        intro f h0 h y hy
        obtain ⟨k1, k2, k3⟩ := rising_drop h
        rcases List.mem_cons.1 hy with rfl | hy
        · omega
        · exact ih x.1 (by omega) k3 y hy
    exact this L 0 (by omega) hb
  have h7 : ¬ (500 : Int) < (n : Int) := by omega
  have HA := Lib.hid ha; have HL := Lib.hid hL; have HN := Lib.hid h500; have H3 := Lib.hid h3; have HAts := Lib.hid hats
  have F1 := Lib.hid f1; have F5 := Lib.hid f5; have HA1 := Lib.hid A1; have HA2 := Lib.hid A2; have HSh := Lib.hid hS; have HR0 := Lib.hid hr0; have HRd := Lib.hid (fun w' (x : Ext w w') => hr.ext x)
  have HD := Lib.hid (And.intro hd0 hd1)
  have wd : IntKind.i64.wrap d = d := IntWalk.i64_in _ (by omega)
  unfold timesC at HA1 HA2 ⊢
  clear hr ha hL hcp hcpm h500 hw hc hs hl hu h1 h2 h3 sure f1 f5 A1 A2 hwd hdwf hS hats hr0 hd0 hd1
  go_enter Tryd.func7, Tryd.ntmps7
  obtain ⟨w0, hw0⟩ : ∃ w0, w0 = w.alloc (.cells #[.int .i64 c, .int .i64 s, .int .i64 l, .int .i64 u] 24) := ⟨_, rfl⟩
  have x0 : Ext w w0 := by rw [hw0]; exact Ext.alloc _ _
  have T0 : w0.cell? ⟨w.heap.size, 0, none⟩ = some (.int .i64 c) := by rw [hw0]; exact (Ext.refl _).made 0 _ rfl
  have T1 : w0.cell? ⟨w.heap.size, 1, none⟩ = some (.int .i64 s) := by rw [hw0]; exact (Ext.refl _).made 1 _ rfl
  have T2 : w0.cell? ⟨w.heap.size, 2, none⟩ = some (.int .i64 l) := by rw [hw0]; exact (Ext.refl _).made 2 _ rfl
  have T3 : w0.cell? ⟨w.heap.size, 3, none⟩ = some (.int .i64 u) := by rw [hw0]; exact (Ext.refl _).made 3 _ rfl
  go_upto_region 1 with fail
  rw [← hw0]
  clear hw0
  go_cut [40] (fun v wx => v = .bool false ∧ Ext w0 wx)
  case first =>
    by_cases hn : 0 < n
    · have hn' : (0 : Int) < n := by omega
      have hL0 : 0 < L.length := by rw [HL.out]; exact hn
      obtain ⟨p, o, rfl, hp, -⟩ := HA.out.resolve_left (by intro e; rw [e] at hL0; simp at hL0)
      obtain ⟨c0, -, -⟩ := HA.out.byt_at (n - 1) (by rw [HL.out]; omega)
      have hT := H3.out
      rw [lastT_get hL0] at hT
      have e : (L[n - 1]'(by rw [HL.out]; omega)).1 = (L[L.length - 1]).1 := by congr 2; rw [HL.out]
      rw [← e] at hT
      generalize (L[n - 1]'(by rw [HL.out]; omega)).1 = X at c0 hT e
      have HC := Lib.hid (fun w' (x : Ext w w') => x.cell hp c0)
      have w1 : IntKind.i64.wrap ((n : Int) - 1) = ((n - 1 : Nat) : Int) := by rw [IntWalk.i64_in _ (by have := HN.out; omega)]; omega
      have hlt : ((n - 1 : Nat) : Int) < n := by omega
      have hXX : ¬ (549755813888 : Int) < X := by omega
      obtain ⟨k, hk⟩ : ∃ k, k = n - 1 := ⟨_, rfl⟩
      rw [← hk] at w1 HC hlt
      clear hk e c0 hL0 hn hT
      go_wp2_with fail
      refine (HR0.out _).mono ?_; rintro e w1' ⟨rfl, x1⟩
      have x2 := x0.trans x1
      have y1 := Lib.hid x1
      clear x1 T0 T1 T2 T3
      go_wp2_with fail
      refine (F1.out _ x2).mono ?_; rintro e w2' ⟨rfl, x3⟩
      have c1 := HC.out _ (x2.trans x3)
      go_wp2_with fail
      go_meet
      exact ⟨congrArg Value.bool (decide_eq_false (by omega)), y1.out.trans x3⟩
    · have hn' : ¬ (0 : Int) < n := by omega
      clear hn
      go_wp2_with fail
      refine (HR0.out _).mono ?_; rintro e w1' ⟨rfl, x1⟩
      have x2 := x0.trans x1
      have y1 := Lib.hid x1
      clear x1 T0 T1 T2 T3
      go_wp2_with fail
      refine (F1.out _ x2).mono ?_; rintro e w2' ⟨rfl, x3⟩
      go_wp2_with fail
      go_meet
      exact ⟨rfl, y1.out.trans x3⟩
  case rest =>
    obtain ⟨rfl, xc⟩ := hcut
    have y2 := x0.trans xc
    have HT := Lib.hid (fun w' (x : Ext wc w') => And.intro ((xc.trans x).cell (World.block_lt_of_cell? _ _ T0) T0) (And.intro ((xc.trans x).cell (World.block_lt_of_cell? _ _ T1) T1) (And.intro ((xc.trans x).cell (World.block_lt_of_cell? _ _ T2) T2) (And.intro ((xc.trans x).cell (World.block_lt_of_cell? _ _ T3) T3) x))))
    clear T0 T1 T2 T3 xc x0 h7
    go_wp2_with fail
    obtain ⟨B, hB⟩ : ∃ B, B = wc.heap.size := ⟨_, rfl⟩
    have HB := Lib.hid hB
    have hown0 : wc.ownsRow B 39 3 (.slice none 0 0) 0 (((L.take 0).map (shiftB d)).flatMap byt) := World.ownsRow_nil _ _ _ _
    clear hB
    have HY2 := Lib.hid y2
    have xr0 : Ext wc wc := Ext.refl _
    clear y2
    go_loopw [7, 8] (fun vv iv wr => ∃ k : Nat, k ≤ n ∧ iv = .int .i64 k ∧ wr.ownsRow B 39 3 vv k (((L.take k).map (shiftB d)).flatMap byt) ∧ Ext wc wr) (fun _ iv _ => n - (intOf iv).toNat)
    case atStart => exact ⟨0, Nat.zero_le _, rfl, hown0, xr0⟩
    case round =>
      clear hown0 xr0
      obtain ⟨k, hk, rfl, hown, xr⟩ := hrel
      by_cases hlt : k < n
      · have hkL : k < L.length := by rw [HL.out]; exact hlt
        obtain ⟨p, o, rfl, hp, -⟩ := HA.out.resolve_left (by intro e; rw [e] at hkL; simp at hkL)
        obtain ⟨c0, c1, c2⟩ := HA.out.byt_at k hkL
        obtain ⟨⟨X, Y, Z⟩, hx⟩ : ∃ b, b = L[k] := ⟨_, rfl⟩
        have hat := HAts.out L[k] (List.getElem_mem _)
        rw [← hx] at c0 c1 c2 hat
        simp only at c0 c1 c2 hat
        have e0 := (HY2.out.trans xr).cell hp c0
        have e1 := (HY2.out.trans xr).cell hp c1
        have e2 := (HY2.out.trans xr).cell hp c2
        have hd := HD.out
        have w0 : IntKind.i64.wrap (X + d) = X + d := IntWalk.i64_in _ (by omega)
        have wk : IntKind.i64.wrap ((k : Int) + 1) = (k : Int) + 1 := IntWalk.i64_in _ (by have := HN.out; omega)
        have hlt' : (k : Int) < n := by omega
        have htk : (L.take (k + 1)).map (shiftB d) = (L.take k).map (shiftB d) ++ [(X + d, Y, Z)] := by
          rw [List.take_succ_eq_append_getElem hkL, List.map_append, ← hx]; rfl
        have HTk := Lib.hid htk
        have HLt := Lib.hid hlt
        have HXr := Lib.hid xr
        clear hx hat c0 c1 c2 hd htk xr
        have hBs : B ≤ wr.heap.size := by rw [HB.out]; exact HXr.out.size
        go_wp2_with (
           at_builtin
           refine wpList_append_el rfl (.tmp 58) (.tmp 60) _ rfl B 39 iB _ 16 Tryd.underlying22 hiB hzB0 hzB1 hzB2 rfl (by decide) u7 k ((L.take k).map (shiftB d)) rfl (own_ext hown ((Ext.alloc _ _).alloc' _)) (wr.heap.size + 1) #[.int .i64 (X + d), .int .u8 Y, .bool Z] 39 (0, 0) (X + d, Y, Z) rfl (heap_alloc2_new _ _ _) rfl rfl (byt_one _) (by unfold maxLen; have := HN.out; omega) (by have := HN.out; omega) (by simp; omega) ?_
           intro v5 w5 hown5 hb5
           have x5 : Ext wc w5 := Below.trans (HXr.out.trans ((Ext.alloc wr _).alloc' _)) (by rw [← HB.out]; exact hb5)
           clear hb5)
        rw [← HTk.out] at hown5
        go_roundw
        case rel => exact ⟨k + 1, by have := HLt.out; omega, by go_num, hown5, x5⟩
        case measure => have := HLt.out; simp [intOf]; omega
      · have hkn : k = n := by omega
        have hlt' : ¬ ((k : Int) < n) := by omega
        have htk : (L.take k).map (shiftB d) = L.map (shiftB d) := by rw [List.take_of_length_le (by rw [HL.out]; omega)]
        rw [htk] at hown
        obtain ⟨zm, cm, hv, lm, mm, hm, -⟩ := HoldsL.of_own byt_length hown (by rw [List.length_map, HL.out, hkn])
        subst hkn
        subst hv
        have B1 := Lib.hid (fun w' (x : Ext wr w') => HA1.out w' (HY2.out.trans (xr.trans x)))
        have B2 := Lib.hid (fun w' (x : Ext wr w') => HA2.out zm cm w' (HY2.out.trans (xr.trans x)) (hm.ext x) lm mm)
        have HS := Lib.hid (fun w' (x : Ext wr w') => And.intro (HT.out w' (xr.trans x)).1 (And.intro (HT.out w' (xr.trans x)).2.1 (And.intro (HT.out w' (xr.trans x)).2.2.1 (And.intro (HT.out w' (xr.trans x)).2.2.2.1 x))))
        have F5' := Lib.hid (fun w' (x : Ext wr w') => F5.out w' (HY2.out.trans (xr.trans x)))
        have HXr := Lib.hid (HY2.out.trans xr)
        obtain ⟨r0, r1, r2, r3, -⟩ := HS.out wr.drew (Ext.drew _)
        have z9 : Ext wr wr.drew := Ext.drew _
        clear hown htk hm lm mm xr HT HA1 HA2 hk hlt
        go_wp2_with fail
        go_region_held3 (fun w' => w'.cell? ⟨w.heap.size, 0, none⟩ = some (.int .i64 c) ∧ w'.cell? ⟨w.heap.size, 1, none⟩ = some (.int .i64 s) ∧ w'.cell? ⟨w.heap.size, 2, none⟩ = some (.int .i64 l) ∧ w'.cell? ⟨w.heap.size, 3, none⟩ = some (.int .i64 u) ∧ Ext wr w')
          ((exact HS.out _ (by assumption)))
          (first
            | (go_at_call_of 12 cp; refine (B1.out _ (by assumption)).mono ?_; rintro e wa ⟨za, ua, La, rfl, xa, sa, ra⟩; have ya := Ext.trans z9 xa)
            | (go_at_call 12; refine (B2.out _ (by assumption)).mono ?_; rintro e wb ⟨zb, ub, Lb, rfl, xb, sb, rb⟩; have yb := Ext.trans ya xb))
        clear r0 r1 r2 r3 HS B1 B2
        have hmm : Lb.map Prod.snd = (La.map Prod.snd).map (shiftS d) := by rw [rb, ra]; exact HSh.out
        have hlen : Lb.length = La.length := by
          have := congrArg List.length hmm
          simpa using this
        have hla : La.length ≤ 501 := by
          have := allS_len c s l u 0 L
          rw [← ra, List.length_map, HL.out] at this; have := HN.out; omega
        have hne : ((La.length : Int) != (Lb.length : Int)) = false := by rw [hlen]; simp
        have hIn : ∀ y ∈ La, InT y.2 := fun y hy => allS_times HAts.out y.2 (by rw [← ra]; exact List.mem_map_of_mem hy)
        have hblk : ∃ gy cur0, wa.heap.size ≤ gy ∧ (0 < La.length → zb = some ⟨gy, 0, none⟩ ∧ wb.heap[gy]? = some (.cells cur0 33 (0, 0)) ∧ ∀ i x, Lb[i]? = some x → ∀ j v, (segL x)[j]? = some v → cur0[i * 6 + j]? = some v) := by
          by_cases h : 0 < La.length
          · obtain ⟨g, cur, h1, h2, h3, h4⟩ := sb.block (by omega)
            exact ⟨g, cur, h2, fun _ => ⟨h1, h3, h4⟩⟩
          · exact ⟨wa.heap.size, #[], Nat.le_refl _, fun h' => absurd h' h⟩
        obtain ⟨gy, cur0, hga, hblk⟩ := hblk
        have HExt := Lib.hid (fun w' (kk : Keep (fun i => i = gy) wb w') => Ext.keep (HXr.out.trans yb) kk (fun i hi => by rw [hi]; exact Nat.le_trans (HXr.out.trans ya).size hga))
        have HGa := Lib.hid hga
        have HBlk := Lib.hid hblk; have HIn := Lib.hid hIn; have HMm := Lib.hid hmm; have HLa := Lib.hid hla; have HLen := Lib.hid hlen
        have HSa := Lib.hid sa; have HSb := Lib.hid sb; have HYb := Lib.hid yb; have HXb := Lib.hid xb
        have k0 : Keep (fun i => i = gy) wb wb := Keep.refl _ _
        have c0 : 0 < La.length → ∃ cur, wb.heap[gy]? = some (.cells cur 33 (0, 0)) ∧ ∀ i x, 0 ≤ i → Lb[i]? = some x → ∀ j v, (segL x)[j]? = some v → cur[i * 6 + j]? = some v :=
          fun h => ⟨cur0, (hblk h).2.1, fun i x _ hx => (hblk h).2.2 i x hx⟩
        rw [hlen] at hne ⊢
        obtain ⟨N, hN⟩ : ∃ N, N = La.length := ⟨_, rfl⟩
        rw [← hN] at hne c0 ⊢
        have HNn := Lib.hid hN
        clear hblk hIn hmm hla hlen sa sb ra rb xa xb ya yb hN z9 hga
        go_wp2_with fail
        go_loopw [12] (fun iv wr => ∃ k : Nat, k ≤ N ∧ iv = .int .i64 k ∧ Keep (fun i => i = gy) wb wr ∧ Hid (0 < N → ∃ cur, wr.heap[gy]? = some (.cells cur 33 (0, 0)) ∧ ∀ i x, k ≤ i → Lb[i]? = some x → ∀ j v, (segL x)[j]? = some v → cur[i * 6 + j]? = some v)) (fun iv _ => N - (intOf iv).toNat)
        case atStart => exact ⟨0, Nat.zero_le _, rfl, k0, Lib.hid c0⟩
        case round =>
          clear k0 c0
          obtain ⟨q, hq, rfl, hk, HC⟩ := hrel
          have xw := HExt.out wr hk
          by_cases hqN : q < N
          · have hqA : q < La.length := by rw [← HNn.out]; exact hqN
            have hqB : q < Lb.length := by rw [HLen.out]; exact hqA
            obtain ⟨rfl, -, -⟩ := HBlk.out (by omega)
            obtain ⟨cur, hcur, hcells⟩ := HC.out (by omega)
            have hsh : (Lb[q]).2 = shiftS d (La[q]).2 := by
              have := congrArg (fun l => l[q]?) HMm.out
              simp only [List.getElem?_map, List.getElem?_eq_getElem hqA, List.getElem?_eq_getElem hqB, Option.map_some, Option.some.injEq] at this
              exact this
            have hxl := HSa.out.segs.holds
            have hoff : Off (fun i => i = gy) za := fun pz hz e => by
              obtain ⟨bz, oz, hz2, hlt2, -⟩ := hxl.resolve_left (fun e2 => by rw [e2] at hqA; simp at hqA)
              rw [hz] at hz2; cases hz2
              have := HGa.out
              simp only at e
              omega
            have hxr := (hxl.ext HXb.out).keep hk hoff
            obtain ⟨px, ox, rfl, hpx, -⟩ := hxr.resolve_left (fun e2 => by rw [e2] at hqA; simp at hqA)
            obtain ⟨a0, a1, a2, a3, a4, a5⟩ := hxr.seg_at q hqA
            have hgx : px ≠ gy := fun e => hoff _ rfl e
            have hyc : ∀ j v, (segL Lb[q])[j]? = some v → wr.cell? ⟨gy, q * 6 + j, none⟩ = some v := fun j v hv => cell_of_heap hcur (hcells q Lb[q] (Nat.le_refl _) (by simp) j v hv)
            obtain ⟨ea, la, ma, ba, na⟩ := HSa.out.each La[q] (List.getElem_mem _)
            obtain ⟨eb, lb, mb, bb, nb⟩ := HSb.out.each Lb[q] (List.getElem_mem _)
            have ob := HSb.out.off Lb[q] (List.getElem_mem _)
            have hin := HIn.out La[q] (List.getElem_mem _)
            have hea : Holds .u8 wr (La[q]).1.1 (La[q]).2.n (La[q]).2.f := (ea.ext HXb.out).blocks fun g o hg hn hlt => hk.block g hlt (fun e => by
              have h1 := ea.lt hn hg
              have h2 := HGa.out
              simp only at h1
              omega)
            have heb : Holds .u8 wr (Lb[q]).1.1 (Lb[q]).2.n (Lb[q]).2.f := eb.blocks fun g o hg hn hlt => hk.block g hlt (fun e => (ob hn _ hg).2 _ rfl e)
            have hna : ∀ g o, (La[q]).1.1 = some ⟨g, o, none⟩ → (La[q]).2.n ≠ 0 → g ≠ gy := fun g o hg hn e => by
              have h1 := ea.lt hn hg
              have h2 := HGa.out
              simp only at h1
              omega
            have hnb : ∀ g o, (Lb[q]).1.1 = some ⟨g, o, none⟩ → (Lb[q]).2.n ≠ 0 → g ≠ gy := fun g o hg hn e => (ob hn _ hg).2 _ rfl e
            rw [hsh] at heb lb bb nb hnb
            generalize La[q] = x at a0 a1 a2 a3 a4 a5 hsh hea heb la ma ba na lb bb nb hin hna hnb
            obtain ⟨⟨A, ca⟩, sg⟩ := x
            have hy0 := hyc 0 _ rfl; have hy1 := hyc 1 _ rfl; have hy2 := hyc 2 _ rfl; have hy3 := hyc 3 _ rfl; have hy4 := hyc 4 _ rfl; have hy5 := hyc 5 _ rfl
            rw [hsh] at hy0 hy1 hy2 hy3 hy4 hy5
            generalize (Lb[q]).1.1 = A2 at hy0 heb hnb
            generalize (Lb[q]).1.2 = cb at hy0 lb mb
            obtain ⟨n1, f1, t0, t1, k1, g1, b1⟩ := sg
            unfold shiftS at hy0 hy1 hy2 hy3 hy4 hy5 heb lb bb nb hnb
            unfold InT at hin
            simp only at a0 a1 a2 a3 a4 a5 hy0 hy1 hy2 hy3 hy4 hy5 hea heb la ma na lb nb hin hna hnb
            have HNA := Lib.hid hna; have HNB := Lib.hid hnb
            clear hna hnb
            have hr1 := HRd.out wr xw
            have Fa := Lib.hid (fun w' (x : Ext wr w') => sfault_any A ca ⟨n1, f1, t0, t1, k1, g1, b1⟩ w' (hr1.ext x) (hea.ext x) la ma (by simp only; omega) ba)
            have Fb := Lib.hid (fun w' (x : Ext wr w') => sfault_any A2 cb ⟨n1, f1, t0 + d, t1 + d, k1, g1, b1⟩ w' (hr1.ext x) (heb.ext x) lb mb (by simp only; omega) bb)
            have Ea := Lib.hid (fun w' (x : Ext wr w') => serrs_any A ca ⟨n1, f1, t0, t1, k1, g1, b1⟩ w' (hr1.ext x) (hea.ext x) la ma (by simp only; omega) ba)
            have Eb := Lib.hid (fun w' (x : Ext wr w') => serrs_any A2 cb ⟨n1, f1, t0 + d, t1 + d, k1, g1, b1⟩ w' (hr1.ext x) (heb.ext x) lb mb (by simp only; omega) bb)
            have Ss := Lib.hid (fun w' (x : Holds .u8 w' A n1 f1) (y : Holds .u8 w' A2 n1 f1) => ssame_any A A2 ca cb ⟨n1, f1, t0, t1, k1, g1, b1⟩ ⟨n1, f1, t0, t1, k1, g1, b1⟩ w' x y ba ba)
            rw [sameB_self] at Ss
            rw [show faultI ⟨n1, f1, t0 + d, t1 + d, k1, g1, b1⟩ = faultI ⟨n1, f1, t0, t1, k1, g1, b1⟩ from rfl] at Fb
            rw [show errsB ⟨n1, f1, t0 + d, t1 + d, k1, g1, b1⟩ = errsB ⟨n1, f1, t0, t1, k1, g1, b1⟩ from rfl] at Eb
            generalize faultI ⟨n1, f1, t0, t1, k1, g1, b1⟩ = z1 at Fa Fb
            generalize errsB ⟨n1, f1, t0, t1, k1, g1, b1⟩ = z2 at Ea Eb
            unfold segC at Fa Fb Ea Eb Ss
            simp only at Fa Fb Ea Eb Ss
            have hqN' : (q : Int) < N := by omega
            have wq : IntKind.i64.wrap ((q : Int) + 1) = (q : Int) + 1 := IntWalk.i64_in _ (by have := HLa.out; have := HNn.out; omega)
            have wt0 : IntKind.i64.wrap (t0 + d - d) = t0 := by rw [show t0 + d - d = t0 by omega]; exact IntWalk.i64_in _ (by omega)
            have wt1 : IntKind.i64.wrap (t1 + d - d) = t1 := by rw [show t1 + d - d = t1 by omega]; exact IntWalk.i64_in _ (by omega)
            have wt0' : IntKind.i64.wrap t0 = t0 := IntWalk.i64_in _ (by omega)
            have wt1' : IntKind.i64.wrap t1 = t1 := IntWalk.i64_in _ (by omega)
            have P0 := Later.cell a0; have P1 := Later.cell a1; have P2 := Later.cell a2; have P3 := Later.cell a3; have P4 := Later.cell a4; have P5 := Later.cell a5
            have Q0 := Later.cell hy0; have Q1 := Later.cell hy1; have Q2 := Later.cell hy2; have Q3 := Later.cell hy3; have Q4 := Later.cell hy4; have Q5 := Later.cell hy5
            rw [Nat.add_zero] at Q0
            have HHea := Lib.hid hea; have HHeb := Lib.hid heb; have HCur := Lib.hid hcur; have HCells := Lib.hid hcells; have HKk := Lib.hid hk; have HXw := Lib.hid xw
            have HQN := Lib.hid hqN
            have HXc := Lib.hid (And.intro a0 (And.intro a1 (And.intro a2 (And.intro a3 (And.intro a4 a5)))))
            have HYc := Lib.hid (And.intro hy0 (And.intro hy1 (And.intro hy2 (And.intro hy3 (And.intro hy4 hy5)))))
            have hgz : gy < wr.heap.size := heap_lt hcur
            clear hr1 hea heb la ma ba na lb mb bb nb ob hsh hyc hcells hcur hin ea eb hxl hxr hoff hk xw a0 a1 a2 a3 a4 a5 hy0 hy1 hy2 hy3 hy4 hy5 hqA hqB hqN
            go_wp2_with fail
            refine wp_region_later (by kernel_rfl) (by kernel_rfl) ?_
            repeat (go_big_quiet_step (first
              | (go_at_call_of 14 A2; exact later_of (Fb.out _ (Later.ext _)))
              | (go_at_call 14; exact later_of (Fa.out _ (Later.ext _)))
              | (go_at_call_of 16 A2; exact later_of (Eb.out _ (Later.ext _)))
              | (go_at_call 16; exact later_of (Ea.out _ (Later.ext _)))))
            refine wpQuiet_nil ?_
            intro _ hw'
            obtain ⟨x, rfl⟩ := hw'
            have x9 := x.ext
            generalize x.at = w9 at x9 ⊢
            clear P0 P1 P2 P3 P4 P5 Q0 Q1 Q2 Q3 Q4 Q5
            obtain ⟨a0, a1, a2, a3, a4, a5⟩ := HXc.out
            obtain ⟨y0, y1, y2, y3, y4, y5⟩ := HYc.out
            have hcur9 := x9.block HCur.out
            have e1 := x9.cell hgz y1
            have e2 := x9.cell hgz y2
            have fr1 := frozen_of_row _ _ (q * 6 + 1) _ _ hcur9
            have hpx9 : px < wr.heap.size := World.block_lt_of_cell? _ _ a0
            obtain ⟨W10, hW10⟩ : ∃ W, W = w9.setCell ⟨gy, q * 6 + 1, none⟩ (.int .i64 t0) := ⟨_, rfl⟩
            have hcur10 : W10.heap[gy]? = some (.cells (cur.setIfInBounds (q * 6 + 1) (.int .i64 t0)) 33 (0, 0)) := by rw [hW10]; exact heap_setCell_same _ _ _ _ _ _ hcur9
            have e2' : W10.cell? ⟨gy, q * 6 + 2, none⟩ = some (.int .i64 (t1 + d)) := by
              rw [hW10, World.cell?_setCell_other _ _ _ _ (fun e => by simp at e)]; exact e2
            have fr2 := frozen_of_row _ _ (q * 6 + 2) _ _ hcur10
            obtain ⟨W11, hW11⟩ : ∃ W, W = W10.setCell ⟨gy, q * 6 + 2, none⟩ (.int .i64 t1) := ⟨_, rfl⟩
            have hcur11 : W11.heap[gy]? = some (.cells ((cur.setIfInBounds (q * 6 + 1) (.int .i64 t0)).setIfInBounds (q * 6 + 2) (.int .i64 t1)) 33 (0, 0)) := by rw [hW11]; exact heap_setCell_same _ _ _ _ _ _ hcur10
            have hblk11 : ∀ g, g ≠ gy → W11.heap[g]? = w9.heap[g]? := fun g hg => by rw [hW11, heap_setCell_other _ _ _ _ hg, hW10, heap_setCell_other _ _ _ _ hg]
            have hsz11 : W11.heap.size = w9.heap.size := by rw [hW11, hW10]; simp [World.setCell]
            have hx11 : ∀ o v, wr.cell? ⟨px, o, none⟩ = some v → W11.cell? ⟨px, o, none⟩ = some v := fun o v h => by
              rw [← x9.cell hpx9 h]
              exact World.cell?_of_block (a := ⟨px, o, none⟩) (hblk11 px hgx)
            have hother : ∀ o v, o ≠ q * 6 + 1 → o ≠ q * 6 + 2 → wr.cell? ⟨gy, o, none⟩ = some v → W11.cell? ⟨gy, o, none⟩ = some v := fun o v h1 h2 h => by
              rw [hW11, World.cell?_setCell_other _ _ _ _ (fun e => h2 (by cases e; rfl)), hW10, World.cell?_setCell_other _ _ _ _ (fun e => h1 (by cases e; rfl))]
              exact x9.cell hgz h
            have hlen6 : q * 6 + 2 < cur.size ∧ q * 6 + 1 < cur.size := by
              have h := y5
              rw [cell_of_row _ _ _ _ _ _ HCur.out] at h
              have := (Array.getElem?_eq_some_iff.1 h).1
              omega
            have P0 := Later.cell (hx11 _ _ a0); have P1 := Later.cell (hx11 _ _ a1); have P2 := Later.cell (hx11 _ _ a2); have P3 := Later.cell (hx11 _ _ a3); have P4 := Later.cell (hx11 _ _ a4); have P5 := Later.cell (hx11 _ _ a5)
            have Q0 := Later.cell (hother (q * 6 + 0) _ (by omega) (by omega) y0)
            rw [Nat.add_zero] at Q0
            have Q1 : ∀ x : Later W11, x.at.cell? ⟨gy, q * 6 + 1, none⟩ = some (.int .i64 t0) := Later.cell (by
              rw [hW11, World.cell?_setCell_other _ _ _ _ (fun e => by simp at e), cell_of_row _ _ _ _ _ _ hcur10, Array.getElem?_setIfInBounds_self, if_pos hlen6.2])
            have Q2 : ∀ x : Later W11, x.at.cell? ⟨gy, q * 6 + 2, none⟩ = some (.int .i64 t1) := Later.cell (by
              rw [cell_of_row _ _ _ _ _ _ hcur11, Array.getElem?_setIfInBounds_self, if_pos (by simpa using hlen6.1)])
            have Q3 := Later.cell (hother _ _ (by omega) (by omega) y3); have Q4 := Later.cell (hother _ _ (by omega) (by omega) y4); have Q5 := Later.cell (hother _ _ (by omega) (by omega) y5)
            have hkeep : Keep (fun i => i = gy) wb W11 := by
              refine (HKk.out.trans_ext x9).trans (G := fun i => i = gy) ⟨by rw [hW11, hW10]; rfl, by rw [hW11, hW10]; rfl, by rw [hW11, hW10]; rfl, by rw [hsz11]; exact Nat.le_refl _, fun g _ hg => hblk11 g hg⟩ (fun i hi => .inl hi)
            have hnext : ∀ i x, q + 1 ≤ i → Lb[i]? = some x → ∀ j v, (segL x)[j]? = some v → ((cur.setIfInBounds (q * 6 + 1) (.int .i64 t0)).setIfInBounds (q * 6 + 2) (.int .i64 t1))[i * 6 + j]? = some v := fun i x hi hx j v hv => by
              rw [Array.getElem?_setIfInBounds_ne (by omega), Array.getElem?_setIfInBounds_ne (by omega)]
              exact HCells.out i x (by omega) hx j v hv
            have Sx := Lib.hid (fun w' (x : Ext W11 w') => Ss.out w' (((HHea.out.ext x9).blocks (w' := W11) fun g o hg hn hlt => hblk11 g (HNA.out g o hg hn)).ext x) (((HHeb.out.ext x9).blocks (w' := W11) fun g o hg hn hlt => hblk11 g (HNB.out g o hg hn)).ext x))
            have HKeep := Lib.hid hkeep; have HNext := Lib.hid hnext; have HCur11 := Lib.hid hcur11
            have HW10 := Lib.hid hW10; have HW11 := Lib.hid hW11
            rw [hW10] at e2' fr2
            clear a0 a1 a2 a3 a4 a5 y0 y1 y2 y3 y4 y5 hcur9 hcur10 hcur11 hblk11 hsz11 hx11 hother hlen6 hkeep hnext hW10 hW11 Fa Fb Ea Eb Ss HHea HHeb HXc HYc hpx9
            go_wp2_with fail
            rw [← HW10.out, ← HW11.out]
            clear e1 e2 e2' fr1 fr2 HW10 HW11
            refine wp_region_later (by kernel_rfl) (by kernel_rfl) ?_
            repeat (go_big_quiet_step ((go_at_call 18; exact later_of (Sx.out _ (Later.ext _)))))
            refine wpQuiet_nil ?_
            intro _ hw'
            obtain ⟨x, rfl⟩ := hw'
            have xz := x.ext
            generalize x.at = wz at xz ⊢
            clear P0 P1 P2 P3 P4 P5 Q0 Q1 Q2 Q3 Q4 Q5 Sx
            go_wp2
            go_roundw
            case rel => exact ⟨q + 1, by have := HQN.out; omega, by go_num, HKeep.out.trans_ext xz, Lib.hid fun _ => ⟨_, xz.block HCur11.out, HNext.out⟩⟩
            case measure => have := HQN.out; simp [intOf]; omega
          · have hqe : q = N := by omega
            have hlt' : ¬ ((q : Int) < N) := by omega
            clear hk HC
            go_wp2_with fail
            refine (F5.out _ xw).mono ?_; rintro e wf ⟨rfl, xf⟩
            go_wp2
            go_ret
            exact ⟨rfl, xw.trans xf⟩
end Go.Proofs.YtanoakebbfidiaaDoor
