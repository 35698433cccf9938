/-
  CONTRACTS: package send (layer 25): over, End, Bytes, Heard.
-/
import Derived.Test.YtebhalehgpigoaaSendA
namespace Go.Proofs.Ytebhalehgpigoaa
open Go.RowKit
set_option linter.unusedVariables false
set_option maxRecDepth 100000

/-- A row of structs of the call's own, each as the sz cells that mk tells. -/
def RowL {α : Type} (sz : Nat) (mk : α → List Value) (t : TypeId) (w : World) (B m : Nat) (f : Nat → α) : Prop :=
  ∃ cs : Array Value, w.heap[B]? = some (.cells cs t (0, 0)) ∧ cs.size = m * sz ∧ ∀ i, i < m → ∀ j v, (mk (f i))[j]? = some v → cs[i * sz + j]? = some v
theorem putRow_size : ∀ (vs : List Value) (o : Nat) (cs : Array Value), (putRow cs o vs).size = cs.size
  | [], _, _ => rfl
  | v :: r, o, cs => (putRow_size r (o + 1) _).trans (by simp)
theorem putRow_low : ∀ (vs : List Value) (o : Nat) (cs : Array Value) (q : Nat), q < o → (putRow cs o vs)[q]? = cs[q]?
  | [], _, _, _, _ => rfl
  | v :: r, o, cs, q, h => (putRow_low r (o + 1) _ q (by omega)).trans (Array.getElem?_setIfInBounds_ne (by omega))
theorem putRow_high : ∀ (vs : List Value) (o : Nat) (cs : Array Value) (q : Nat), o + vs.length ≤ q → (putRow cs o vs)[q]? = cs[q]?
  | [], _, _, _, _ => rfl
  | v :: r, o, cs, q, h => (putRow_high r (o + 1) _ q (by simp at h; omega)).trans (Array.getElem?_setIfInBounds_ne (by simp at h; omega))
theorem putRow_at : ∀ (vs : List Value) (o : Nat) (cs : Array Value) (j : Nat) (v : Value), o + vs.length ≤ cs.size → vs[j]? = some v → (putRow cs o vs)[o + j]? = some v
  | [], _, _, j, v, _, h => by simp at h
  | u :: r, o, cs, 0, v, hs, h => by
    simp only [List.getElem?_cons_zero, Option.some.injEq] at h
    subst h
    exact (putRow_low r (o + 1) _ o (by omega)).trans (Array.getElem?_setIfInBounds_self_of_lt (by simp at hs; omega))
  | u :: r, o, cs, j + 1, v, hs, h => by
    have := putRow_at r (o + 1) (cs.setIfInBounds o u) j v (by simp at hs ⊢; omega) (by simpa using h)
    rw [show o + (j + 1) = o + 1 + j by omega]; exact this
section
variable {α : Type} {sz : Nat} {mk : α → List Value} {t : TypeId} {w w' : World} {B m : Nat} {f : Nat → α}
theorem RowL.lt (h : RowL sz mk t w B m f) : B < w.heap.size := by obtain ⟨cs, h1, _⟩ := h; exact heap_lt h1
theorem RowL.ext (h : RowL sz mk t w B m f) (x : Ext w w') : RowL sz mk t w' B m f := by
  obtain ⟨cs, h1, h2⟩ := h
  exact ⟨cs, x.block h1, h2⟩
theorem RowL.set (hs : ∀ x, (mk x).length = sz) (h : RowL sz mk t w B m f) (i : Nat) (hi : i < m) (x : α) : RowL sz mk t (w.setCells B (i * sz) (mk x)) B m (upd f i x) := by
  obtain ⟨cs, h1, h2, h3⟩ := h
  have hb : i * sz + sz ≤ m * sz := by
    have := Nat.mul_le_mul_right sz (show i + 1 ≤ m by omega)
    rw [Nat.add_mul, Nat.one_mul] at this; exact this
  refine ⟨putRow cs (i * sz) (mk x), heap_setCells _ _ _ _ _ _ h1, (putRow_size _ _ _).trans h2, fun k hk j v hv => ?_⟩
  have hj : j < sz := by
    rcases Nat.lt_or_ge j sz with h | h
    · exact h
    · rw [List.getElem?_eq_none (by rw [hs]; exact h)] at hv; cases hv
  by_cases e : k = i
  · subst e
    rw [upd_same] at hv
    exact putRow_at _ _ _ _ _ (by rw [hs]; omega) hv
  · rw [upd_other _ _ _ _ e] at hv
    rcases Nat.lt_or_gt_of_ne e with e | e
    · have := Nat.mul_le_mul_right sz (show k + 1 ≤ i by omega)
      rw [Nat.add_mul, Nat.one_mul] at this
      exact (putRow_low _ _ _ _ (by omega)).trans (h3 k hk j v hv)
    · have := Nat.mul_le_mul_right sz (show i + 1 ≤ k by omega)
      rw [Nat.add_mul, Nat.one_mul] at this
      exact (putRow_high _ _ _ _ (by rw [hs]; omega)).trans (h3 k hk j v hv)
theorem RowL.there (h : RowL sz mk t w B m f) (i : Nat) (hi : i < m) : w.there B (i * sz) sz := by
  obtain ⟨cs, h1, h2, h3⟩ := h
  refine there_of h1 ?_
  have := Nat.mul_le_mul_right sz (show i + 1 ≤ m by omega)
  rw [Nat.add_mul, Nat.one_mul] at this; omega
theorem RowL.list (h : RowL sz mk t w B m f) (L : List α) (hL : L.length ≤ m) (e : ∀ i x, L[i]? = some x → f i = x) : HoldsL sz mk w (some ⟨B, 0, none⟩) L := by
  have hl := h.lt
  obtain ⟨cs, h1, h2, h3⟩ := h
  refine .inr ⟨B, 0, rfl, hl, fun i x hx j v hv => ?_⟩
  have hi : i < L.length := by
    rcases Nat.lt_or_ge i L.length with h | h
    · exact h
    · rw [List.getElem?_eq_none h] at hx; cases hx
  rw [Nat.zero_add]
  exact cell_of_heap h1 (h3 i (by omega) j v (by rw [e i x hx]; exact hv))
theorem RowL.congr {g : Nat → α} (h : RowL sz mk t w B m f) (e : ∀ i, i < m → f i = g i) : RowL sz mk t w B m g := by
  obtain ⟨cs, h1, h2, h3⟩ := h
  exact ⟨cs, h1, h2, fun i hi j v hv => h3 i hi j v (by rw [e i hi]; exact hv)⟩
end
theorem RowL.made3 {w : World} {t : TypeId} {B m base : Nat} (h : w.ownsRow base t 3 (.slice (some ⟨B, 0, none⟩) m m) m (madeCells #[.int .i64 0, .int .u8 0, .bool false] (m * 3)).toList) : RowL 3 byt t w B m (fun _ => (0, 0, false)) := by
  obtain ⟨h1, h2⟩ := h
  rcases h2 with ⟨hv, _⟩ | ⟨g, cap, cur, hv, hg, hh, hn, hm, hs, ht⟩
  · cases hv
  · injection hv with e1 e2 e3
    injection e1 with e1
    injection e1 with e1
    subst e1; subst e3
    refine ⟨cur, hh, hs, fun i hi j v hj => ?_⟩
    have hj3 : j < 3 := by
      rcases Nat.lt_or_ge j 3 with h | h
      · exact h
      · rw [List.getElem?_eq_none (by rw [byt_length]; exact h)] at hj; cases hj
    have e : (cur.toList.take (m * 3))[i * 3 + j]? = some v := by
      rw [ht]
      have hlt : i * 3 + j < m * 3 := by omega
      simp only [madeCells, Array.toList_map, Array.toList_range, List.getElem?_map, List.getElem?_range hlt, Option.map_some, List.size_toArray, List.length_cons, List.length_nil, Nat.zero_add, Nat.reduceAdd]
      rw [show (i * 3 + j) % 3 = j by omega]
      unfold byt at hj
      match j, hj3, hj with
      | 0, _, hj => simpa using hj
      | 1, _, hj => simpa using hj
      | 2, _, hj => simpa using hj
    rw [List.getElem?_take, if_pos (by omega), Array.getElem?_toList] at e
    exact e
theorem RowL.three {w : World} {t : TypeId} {B m : Nat} {f : Nat → Byt} (h : RowL 3 byt t w B m f) (k : Nat) (hk : k < m) : w.cell? ⟨B, k * 3, none⟩ = some (.int .i64 (f k).1) ∧ w.cell? ⟨B, k * 3 + 1, none⟩ = some (.int .u8 (f k).2.1) ∧ w.cell? ⟨B, k * 3 + 2, none⟩ = some (.bool (f k).2.2) ∧ w.frozen? ⟨B, k * 3, none⟩ = false ∧ w.frozen? ⟨B, k * 3 + 1, none⟩ = false ∧ w.frozen? ⟨B, k * 3 + 2, none⟩ = false := by
  have h0 := h
  obtain ⟨cs, h1, h2, h3⟩ := h
  have q := h0.there k hk
  exact ⟨cell_of_heap h1 (h3 k hk 0 _ rfl), cell_of_heap h1 (h3 k hk 1 _ rfl), cell_of_heap h1 (h3 k hk 2 _ rfl), (q 0 (by omega)).2, (q 1 (by omega)).2, (q 2 (by omega)).2⟩
theorem over_any (X Y c s l u : Int) (w : World) (hX : (Lit.int .i64 X).wf = true) (hc : (Lit.int .i64 c).wf = true) :
    Calls Try.prog 24 #[.agg #[.int .i64 X, .int .u8 Y], .agg #[.int .i64 c, .int .i64 s, .int .i64 l, .int .i64 u]] w fun e w' => e = .returned (.int .i64 (addI X c)) ∧ Ext w w' := by
  have HA := Lib.hid (fun w => kadd_any X c w hX hc)
  clear hX hc
  go_enter Try.func24, Try.ntmps24
  go_wp2_with fail
  refine (HA.out _).mono ?_; rintro e w1 ⟨rfl, x1⟩
  go_wp2
  go_ret
  exact ⟨rfl, ((Ext.alloc _ _).alloc' _).trans x1⟩
set_option maxHeartbeats 4000000 in
theorem send_end (a : Option Addr) (n cp : Nat) (L : List (Int × Int)) (c s l u : Int) (w : World) (ha : HoldsL 2 outC w a L) (hL : L.length = n) (hn : n ≤ 1000000) (hW : WfO L) (hc : (Lit.int .i64 c).wf = true) :
    Calls Try.prog 11 #[.slice a n cp, timesC c s l u] w fun e w' => e = .returned (.int .i64 (endO c s l u L)) ∧ Ext w w' := by
  have hr := fun w => kright0 c s l u w
  unfold timesC
  by_cases hn0 : n = 0
  · subst hn0
    have hE : endO c s l u L = 0 := by unfold endO; rw [if_pos (.inl hL)]
    rw [hE]
    clear hE ha hL hr
    go_enter Try.func11, Try.ntmps11
    go_wp2
    go_ret
    exact ⟨rfl, Ext.alloc _ _⟩
  · obtain ⟨m, hm⟩ : ∃ m, m = n - 1 := ⟨_, rfl⟩
    have hm2 : ((n : Int) == 0) = false := by simp; omega
    cases h1 : rightB c s l u
    · rw [h1] at hr
      have hE : endO c s l u L = 0 := by unfold endO; rw [if_pos (.inr h1)]
      rw [hE]
      clear hE h1 ha hL hm hn0 hn
      go_enter Try.func11, Try.ntmps11
      go_wp2_with fail
      refine (hr _).mono ?_; rintro e w1 ⟨rfl, x1⟩
      go_wp2
      go_ret
      exact ⟨rfl, (Ext.alloc _ _).trans x1⟩
    · rw [h1] at hr
      have hE : endO c s l u L = addI (L[m]'(by omega)).1 c := by unfold endO; rw [if_neg (by rw [h1]; rintro (h | h); omega; cases h), lastO_at (k := m) (by omega)]
      rw [hE]
      obtain ⟨p, o, rfl, hp, -⟩ := ha.resolve_left (by intro e; rw [e] at hL; simp at hL; omega)
      obtain ⟨c0, c1⟩ := ha.out_at m (by omega)
      have hx := (hW (L[m]'(by omega)) (List.getElem_mem _)).1
      generalize (L[m]'(by omega)).1 = X at c0 hx ⊢
      generalize (L[m]'(by omega)).2 = Y at c1
      have HC := Lib.hid (fun w' (x : Ext w w') => And.intro (x.cell hp c0) (x.cell hp c1))
      have HR := Lib.hid (fun w => over_any X Y c s l u w hx hc)
      have w1' : IntKind.i64.wrap ((n : Int) - 1) = (m : Int) := by rw [IntWalk.i64_in _ (by omega)]; omega
      have hlt : (m : Int) < (n : Int) := by omega
      clear hE h1 ha hL c0 c1 hp hm hn0 hn hW hx
      go_enter Try.func11, Try.ntmps11
      go_wp2_with fail
      refine (hr _).mono ?_; rintro e w1 ⟨rfl, x1⟩
      have T0 := TimAt.made w c s l u
      have T1 := Lib.hid (fun w' (x : Ext w1 w') => T0.ext (x1.trans x))
      have x2 := (Ext.alloc _ _).trans x1
      obtain ⟨c0, c1⟩ := HC.out _ x2
      clear hr x1 HC T0
      go_wp2_with fail
      have HS := Lib.hid (fun w' (x : Ext w1 w') => And.intro (T1.out w' x).c0 (And.intro (T1.out w' x).c1 (And.intro (T1.out w' x).c2 (And.intro (T1.out w' x).c3 (And.intro (x.cell (World.block_lt_of_cell? _ _ c0) c0) (And.intro (x.cell (World.block_lt_of_cell? _ _ c1) c1) x))))))
      have z9 : Ext w1 w1.drew := Ext.drew _
      obtain ⟨r0, r1, r2, r3, r4, r5, -⟩ := HS.out w1.drew z9
      clear c0 c1 T1
      go_region_held3 (fun w' => w'.cell? ⟨w.heap.size, 0, none⟩ = some (.int .i64 c) ∧ w'.cell? ⟨w.heap.size, 1, none⟩ = some (.int .i64 s) ∧ w'.cell? ⟨w.heap.size, 2, none⟩ = some (.int .i64 l) ∧ w'.cell? ⟨w.heap.size, 3, none⟩ = some (.int .i64 u) ∧ w'.cell? ⟨p, o + m * 2, none⟩ = some (.int .i64 X) ∧ w'.cell? ⟨p, o + m * 2 + 1, none⟩ = some (.int .u8 Y) ∧ Ext w1 w')
        ((first | exact HS.out _ (by assumption) | exact HS.out _ (z9.trans (by assumption))))
        ((go_at_call 24; refine (HR.out _).mono ?_; rintro e wa ⟨rfl, xa⟩))
      go_wp2
      go_ret
      exact ⟨rfl, x2.trans (z9.trans xa)⟩
theorem Try.info8x : (Try.prog.info? 5).map (fun i => (i.zero, i.size, i.bytes)) = some (some (.int .u8 0), 1, 1) := by kernel_rfl
theorem sndF_at {L : List (Int × Int)} {k : Nat} (h : k < L.length) : sndF L k = L[k].2 := by
  unfold sndF; rw [List.getD_eq_getElem?_getD, List.getElem?_eq_getElem h]; rfl
theorem hearF_at {c : Int} {L : List (Int × Int)} {k : Nat} (h : k < L.length) : (hearL c L).getD k (0, 0, false) = (addI L[k].1 c, L[k].2, false) := by
  unfold hearL; rw [List.getD_eq_getElem?_getD, List.getElem?_map, List.getElem?_eq_getElem h]; rfl
set_option maxHeartbeats 4000000 in
theorem send_bytes (a : Option Addr) (n cp : Nat) (L : List (Int × Int)) (w : World) (ha : HoldsL 2 outC w a L) (hL : L.length = n) (hn : n ≤ 1000000) :
    Calls Try.prog 14 #[.slice a n cp] w fun e w' => ∃ z x, e = .returned (.slice z n x) ∧ n ≤ x ∧ x ≤ maxLen ∧ Holds .u8 w' z n (sndF L) ∧ Ext w w' := by
  obtain ⟨i8, hi8, hz80, hz81, hz82⟩ := info_parts Try.info8x
  have HA := Lib.hid ha
  have HL := Lib.hid hL
  clear ha hL
  go_enter Try.func14, Try.ntmps14
  go_wp2_with (at_make; refine wpList_make_full _ rfl _ _ 22 rfl w.heap.size 5 i8 (.int .u8 0) 1 Try.underlying22 hi8 hz80 hz81 .i64 .i64 n n n rfl rfl rfl rfl (by rw [hz82]; omega) (by unfold maxLen; omega) (Nat.le_refl _) ?_; intro w1 hown1 hgrow1)
  have hb1 : Ext w w1 := (Below.refl _ _).grown hgrow1 (Nat.le_refl _) (fun k hk => by cases hk)
  have hr1 : Row (.int .u8) 5 w1 w.heap.size n (fun _ => 0) := Row.made hown1
  obtain ⟨B, hB⟩ : ∃ B, B = w.heap.size := ⟨_, rfl⟩
  rw [← hB] at hr1 ⊢
  have HB := Lib.hid hB
  clear hB hown1 hgrow1
  go_wp2_with fail
  go_loopw [11] (fun iv wr => ∃ k : Nat, k ≤ n ∧ iv = .int .i64 k ∧ (∃ g, Row (.int .u8) 5 wr B n g ∧ ∀ j, j < k → g j = sndF L j) ∧ Ext w wr) (fun iv _ => n - (intOf iv).toNat)
  case atStart => exact ⟨0, Nat.zero_le _, rfl, ⟨_, hr1, fun j hj => absurd hj (Nat.not_lt_zero _)⟩, hb1⟩
  case round =>
    clear hr1 hb1
    obtain ⟨k, hk, rfl, ⟨g, hr, hg⟩, xr⟩ := hrel
    by_cases hlt : k < n
    · have hkL : k < L.length := by rw [HL.out]; exact hlt
      obtain ⟨p, o, rfl, hp, -⟩ := HA.out.resolve_left (by intro e; rw [e] at hkL; simp at hkL)
      obtain ⟨c0, c1⟩ := (HA.out.ext xr).out_at k hkL
      have HF := Lib.hid (sndF_at hkL)
      generalize (L[k]).1 = X at c0
      generalize (L[k]).2 = Y at c1 HF
      have wk : IntKind.i64.wrap ((k : Int) + 1) = (k : Int) + 1 := IntWalk.i64_in _ (by omega)
      have hlt' : (k : Int) < n := by omega
      have x2 := Ext.alloc wr (.cells #[.int .i64 X, .int .u8 Y] 39)
      have hr2 := hr.ext x2
      have f0 := hr2.frozen k
      have d0 := hr2.cell k hlt
      have HR := Lib.hid (And.intro hr2 (And.intro hg (xr.trans x2)))
      have HLt := Lib.hid hlt
      clear hr hr2 hg xr hkL hlt x2
      go_wp2_with fail
      go_roundw
      case rel =>
        have hlt := HLt.out
        refine ⟨k + 1, by omega, by go_num, ⟨_, HR.out.1.set k Y, fun j hj => ?_⟩, Below.setCell HR.out.2.2 (by simp [HB.out]) _⟩
        by_cases e : j = k
        · subst e; rw [upd_same, HF.out]
        · rw [upd_other _ _ _ _ e]; exact HR.out.2.1 j (by omega)
      case measure => have := HLt.out; simp [intOf]; omega
    · have hkn : k = n := by omega
      subst hkn
      have HF := Lib.hid (And.intro ((hr.congr hg).holds) xr)
      clear hr hg xr
      go_wp2
      go_ret
      exact ⟨_, k, rfl, Nat.le_refl _, by unfold maxLen; omega, HF.out.1, HF.out.2⟩
set_option maxHeartbeats 4000000 in
theorem send_hear (a : Option Addr) (n cp : Nat) (L : List (Int × Int)) (c s l u : Int) (w : World) (ha : HoldsL 2 outC w a L) (hL : L.length = n) (hn : n ≤ 1000000) (hW : WfO L) (hc : (Lit.int .i64 c).wf = true) :
    Calls Try.prog 8 #[.slice a n cp, timesC c s l u] w (BytP (hearO c s l u L) w) := by
  obtain ⟨iB, hiB, hzB0, hzB1, hzB2⟩ := info_parts Try.infoByte25
  have hr := fun w => kright0 c s l u w
  unfold timesC
  cases h1 : rightB c s l u
  · rw [h1] at hr
    have hE : hearO c s l u L = [] := by unfold hearO; rw [h1]; rfl
    rw [hE]
    clear hE h1 ha hL
    go_enter Try.func8, Try.ntmps8
    go_wp2_with fail
    refine (hr _).mono ?_; rintro e w1 ⟨rfl, x1⟩
    go_wp2
    go_ret
    exact BytP.zero ((Ext.alloc _ _).trans x1)
  · rw [h1] at hr
    have hE : hearO c s l u L = hearL c L := by unfold hearO; rw [h1]; rfl
    rw [hE]
    have HA := Lib.hid ha
    have HL := Lib.hid hL
    have HN := Lib.hid hn
    have HR := Lib.hid (fun k (hk : k < L.length) w => over_any L[k].1 L[k].2 c s l u w (hW _ (List.getElem_mem hk)).1 hc)
    clear hE h1 ha hL hW hc
    go_enter Try.func8, Try.ntmps8
    go_wp2_with fail
    refine (hr _).mono ?_; rintro e w1 ⟨rfl, x1⟩
    have T0 := TimAt.made w c s l u
    have T1 := Lib.hid (T0.ext x1)
    have HX := Lib.hid ((Ext.alloc w (.cells #[.int .i64 c, .int .i64 s, .int .i64 l, .int .i64 u] 24)).trans x1)
    clear hr x1 T0
    go_wp2_with (at_make; refine wpList_make_full _ rfl _ _ 28 rfl w1.heap.size 35 iB _ 3 Try.underlying28 hiB hzB0 hzB1 .i64 .i64 n n n rfl rfl rfl rfl (by rw [hzB2]; omega) (by unfold maxLen; omega) (Nat.le_refl _) ?_; intro w2 hown2 hgrow2)
    have hb1 : Ext w1 w2 := (Below.refl _ _).grown hgrow2 (Nat.le_refl _) (fun k hk => by cases hk)
    have hr1 : RowL 3 byt 35 w2 w1.heap.size n (fun _ => (0, 0, false)) := RowL.made3 hown2
    obtain ⟨B, hB⟩ : ∃ B, B = w1.heap.size := ⟨_, rfl⟩
    rw [← hB] at hr1 ⊢
    have HB := Lib.hid hB
    clear hB hown2 hgrow2
    go_wp2_with fail
    go_loopw [16] (fun iv wr => ∃ k : Nat, k ≤ n ∧ iv = .int .i64 k ∧ (∃ g, RowL 3 byt 35 wr B n g ∧ ∀ j, j < k → g j = (hearL c L).getD j (0, 0, false)) ∧ Ext w1 wr) (fun iv _ => n - (intOf iv).toNat)
    case atStart => exact ⟨0, Nat.zero_le _, rfl, ⟨_, hr1, fun j hj => absurd hj (Nat.not_lt_zero _)⟩, hb1⟩
    case round =>
      clear hr1 hb1
      obtain ⟨k, hk, rfl, ⟨g, hr, hg⟩, xr⟩ := hrel
      by_cases hlt : k < n
      · have hkL : k < L.length := by rw [HL.out]; exact hlt
        obtain ⟨p, o, rfl, hp, -⟩ := HA.out.resolve_left (by intro e; rw [e] at hkL; simp at hkL)
        obtain ⟨c0, c1⟩ := (HA.out.ext (HX.out.trans xr)).out_at k hkL
        have HF := Lib.hid (hearF_at (c := c) hkL)
        have HC := Lib.hid (HR.out k hkL)
        generalize (L[k]).1 = X at c0 HF HC
        generalize (L[k]).2 = Y at c1 HF HC
        have wk : IntKind.i64.wrap ((k : Int) + 1) = (k : Int) + 1 := IntWalk.i64_in _ (by omega)
        have hlt' : (k : Int) < n := by omega
        have HLt := Lib.hid hlt
        have HRw := Lib.hid (And.intro hr (And.intro hg xr))
        clear hr hg xr hkL hlt
        go_upto_region 7 with fail
        obtain ⟨wq, hwq⟩ : ∃ wq, wq = wr.alloc (.cells #[.int .i64 X, .int .u8 Y] 39) := ⟨_, rfl⟩
        have g7 : wq.heap[wr.heap.size]? = some (.cells #[.int .i64 X, .int .u8 Y] 39 (0, 0)) := by rw [hwq]; exact heap_alloc_new _ _
        have xq : Ext wr wq := by rw [hwq]; exact Ext.alloc _ _
        rw [← hwq]
        have HT3 := Lib.hid (fun w' (x : Ext wq w') => (HRw.out.1.ext (xq.trans x)).three k HLt.out)
        generalize (g k).1 = G1 at HT3
        generalize (g k).2.1 = G2 at HT3
        generalize (g k).2.2 = G3 at HT3
        have HBn : Hid (wr.heap.size ≠ B) := Lib.hid (fun e => by have := HRw.out.1.lt; omega)
        have HS := Lib.hid (fun w' (x : Ext wq w') =>
          have y := HRw.out.2.2.trans (xq.trans x)
          have T := T1.out.ext y
          And.intro T.c0 (And.intro T.c1 (And.intro T.c2 (And.intro T.c3 (And.intro (cell_of_heap (j := 0) (x.block g7) rfl) (And.intro (cell_of_heap (j := 1) (x.block g7) rfl) y))))))
        have HS2 := Lib.hid (fun w' (x : Ext wq w') v0 v1 v2 =>
          have y : Ext w1 (((w'.setCell ⟨B, k * 3, none⟩ v0).setCell ⟨B, k * 3 + 1, none⟩ v1).setCell ⟨B, k * 3 + 2, none⟩ v2) := below_setCells (g := B) (by rw [HB.out]; exact Nat.le_refl _) [v0, v1, v2] (k * 3) w' (HRw.out.2.2.trans (xq.trans x))
          have g := (heap_setCells_other B wr.heap.size HBn.out [v0, v1, v2] (k * 3) w').trans (x.block g7)
          have T := T1.out.ext y
          And.intro T.c0 (And.intro T.c1 (And.intro T.c2 (And.intro T.c3 (And.intro (cell_of_heap (j := 0) g rfl) (And.intro (cell_of_heap (j := 1) g rfl) y))))))
        have z9 : Ext wq wq.drew := Ext.drew _
        obtain ⟨r0, r1, r2, r3, r4, r5, -⟩ := HS.out wq.drew z9
        have HXq := Lib.hid xq
        clear hwq c0 c1
        go_region_held3 (fun w' => w'.cell? ⟨w.heap.size, 0, none⟩ = some (.int .i64 c) ∧ w'.cell? ⟨w.heap.size, 1, none⟩ = some (.int .i64 s) ∧ w'.cell? ⟨w.heap.size, 2, none⟩ = some (.int .i64 l) ∧ w'.cell? ⟨w.heap.size, 3, none⟩ = some (.int .i64 u) ∧ w'.cell? ⟨wr.heap.size, 0, none⟩ = some (.int .i64 X) ∧ w'.cell? ⟨wr.heap.size, 1, none⟩ = some (.int .u8 Y) ∧ Ext w1 w')
          ((first | exact HS.out _ (by assumption) | exact HS.out _ (z9.trans (by assumption)) | exact HS2.out _ (z9.trans (by assumption)) _ _ _))
          ((go_at_call 24; refine (HC.out _).mono ?_; rintro e wa ⟨rfl, xa⟩; obtain ⟨s0, s1, s2, s3, s4, s5⟩ := HT3.out _ (z9.trans xa)))
        go_wp2_with fail
        go_roundw
        case rel =>
          have hlt := HLt.out
          have xz := HXq.out.trans (z9.trans xa)
          refine ⟨k + 1, by omega, by go_num, ⟨_, (HRw.out.1.ext xz).set byt_length k hlt (addI X c, Y, false), fun j hj => ?_⟩, below_setCells (g := B) (by rw [HB.out]; exact Nat.le_refl _) (byt (addI X c, Y, false)) (k * 3) wa (HRw.out.2.2.trans xz)⟩
          by_cases e : j = k
          · subst e; rw [upd_same, HF.out]
          · rw [upd_other _ _ _ _ e]; exact HRw.out.2.1 j (by omega)
        case measure => have := HLt.out; simp [intOf]; omega
      · have hkn : k = n := by omega
        subst hkn
        have HF := Lib.hid (And.intro (hr.list (hearL c L) (by rw [hearL_length, HL.out]; exact Nat.le_refl _) (fun i x hx => by
          have hi : i < (hearL c L).length := by
            rcases Nat.lt_or_ge i (hearL c L).length with h | h
            · exact h
            · rw [List.getElem?_eq_none h] at hx; cases hx
          rw [hg i (by rw [hearL_length, HL.out] at hi; exact hi), List.getD_eq_getElem?_getD, hx]; rfl)) (HX.out.trans xr))
        clear hr hg xr
        go_wp2
        go_ret
        exact ⟨_, k, by rw [hearL_length, HL.out]; rfl, by rw [hearL_length, HL.out]; exact Nat.le_refl _, by unfold maxLen; omega, HF.out.1, HF.out.2⟩
end Go.Proofs.Ytebhalehgpigoaa
