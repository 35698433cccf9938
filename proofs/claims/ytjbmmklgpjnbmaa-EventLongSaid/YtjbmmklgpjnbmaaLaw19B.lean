/-
  THE LAWS OF LAYER 19: the walk of EventDoes (package event's contracts as premises).
-/
import Derived.Test.YtjbmmklgpjnbmaaLaw19A
import Derived.Test.YtjbmmklgpjnbmaaEveIn
import Derived.Deep.LoopGhost
import Derived.Deep.DeepCutAuto
import Derived.Deep.CutBlock
namespace Go.Proofs.Ytjbmmklgpjnbmaa
open Go.RowKit
set_option linter.unusedVariables false
set_option maxRecDepth 100000
variable {ES : World → Nat → (Nat → Prop) → Eve → Prop}

/-- A log that stands as E', and the document's in its box, that stands as E. -/
structure Eg19 (ES : World → Nat → (Nat → Prop) → Eve → Prop) (w wr : World) (B p : Nat) (F : Nat → Prop) (z : Option Addr) (d : Nat) (E E' : Eve) : Prop where
  s : ES wr p F E'
  n : ¬ F B
  a : Above w F
  x : Ext w wr
  b : wr.heap[B]? = some (.cells (eveC z d E) 29 (0, 0))
  l : w.heap.size ≤ B
  v : EveAt wr z d E
  o : OffN F z E.L.length
theorem Eg19.ext (K : EventC ES) {w wr wr' : World} {B p d : Nat} {F : Nat → Prop} {z : Option Addr} {E E' : Eve} (h : Eg19 ES w wr B p F z d E E') (x : Ext wr wr') : Eg19 ES w wr' B p F z d E E' := ⟨K.ext h.s x, h.n, h.a, h.x.trans x, x.block h.b, h.l, h.v.ext x, h.o⟩
theorem OffN.grows19 {F G : Nat → Prop} {w : World} {a : Option Addr} {n : Nat} {f : Nat → Int} (h : OffN F a n) (k : Grows F G w) (hh : Holds .u8 w a n f) : OffN G a n := by
  rcases h with e | e
  · exact .inl e
  · rcases hh with e2 | ⟨b, off, ha, hlt, _⟩
    · exact .inl e2
    · exact .inr (e.grows k fun p hp => by rw [ha] at hp; cases hp; exact hlt)
theorem keepO19 {F : Nat → Prop} {w w' : World} {a : Option Addr} {n : Nat} {f : Nat → Int} (h : Holds .u8 w a n f) (x : Keep F w w') (ho : OffN F a n) : Holds .u8 w' a n f := by
  rcases ho with e | e
  · exact .inl e
  · exact h.keep x e
/-- The log changes (it, or another takes its place). -/
theorem Eg19.turn {w wr wr' : World} {B p p' d : Nat} {F G : Nat → Prop} {z : Option Addr} {E E1 E2 : Eve} (h : Eg19 ES w wr B p F z d E E1) (k : Keep F wr wr') (s : ES wr' p' G E2) (g : Grows F G wr) : Eg19 ES w wr' B p' G z d E E2 :=
  ⟨s, fun hG => (g B hG).elim h.n (fun e => absurd (heap_lt h.b) (by omega)), h.a.grows g h.x, h.x.keep k h.a, (k.block B (heap_lt h.b) h.n).trans h.b, h.l, ⟨keepO19 h.v.h k h.o, h.v.l, h.v.m⟩, h.o.grows19 g h.v.h⟩
/-- The document's log is stored into its box. -/
theorem Eg19.put (K : EventC ES) {w wr W : World} {B p d d2 : Nat} {F : Nat → Prop} {z z2 : Option Addr} {E E1 E2 : Eve} (h : Eg19 ES w wr B p F z d E E1) (x : Ext wr W) (v : EveAt W z2 d2 E2) (f : Fresh wr z2) : Eg19 ES w (W.setRow B (eveC z2 d2 E2)) B p F z2 d2 E2 E1 :=
  ⟨K.keep (K.ext h.s x) (keepRow19 W B _) (fun q hq e => h.n ((show q = B from e) ▸ hq)), h.n, h.a, below_setRow (h.x.trans x) h.l _, setRow_heap _ _ _ _ _ _ (x.block h.b), h.l, ⟨byte_keep (x.block h.b) v.h (keepRow19 W B _), v.l, v.m⟩, .inr (f.off (K.lt h.s))⟩
/-- Done, at the document's box. -/
theorem Eg19.one (K : EventC ES) {w wr : World} {B p d : Nat} {F : Nat → Prop} {z : Option Addr} {E E1 : Eve} (h : Eg19 ES w wr B p F z d E E1) : Eg19 ES w (wr.setCell ⟨B, 1, none⟩ (.int .u16 ((E.n + 1) % 65536))) B p F z d (doneE E) E1 :=
  ⟨K.keep h.s (keepCellM wr B 1 _) (fun q hq e => h.n ((show q = B from e) ▸ hq)), h.n, h.a, Below.setCell h.x h.l _, heap_setCell_same _ _ 1 _ _ _ h.b, h.l, ⟨byte_keep h.b h.v.h (keepCellM wr B 1 _), h.v.l, h.v.m⟩, h.o⟩
set_option maxHeartbeats 16000000 in
theorem eventDoes.small (K : EventC ES) (a : Option Addr) (n c : Nat) (L : List Eop) (m : Int) (w : World) (ha : HoldsL 6 eopL w a L) (hL : L.length = n) (hn : n ≤ 300) (hz : ∀ z ∈ L, EopW z) (m0 : 0 ≤ m) (m1 : m < 65536) :
    Calls Try.prog 3 #[.slice a n c, .int .u16 m] w fun e w' => e = .returned (.bool true) ∧ Ext w w' := by
  have HK := Lib.hid K
  have HL := Lib.hid hL
  have HZ := Lib.hid hz
  have HA := Lib.hid ha
  have HM := Lib.hid (And.intro m0 m1)
  have hnI : ¬ (300 : Int) < n := by omega
  have HN := Lib.hid hn
  clear K hL hz ha hn m0 m1
  go_enter Try.func3, Try.ntmps3
  go_wp2_with fail
  refine (HK.out.new _).mono ?_; rintro e w1 ⟨p, F, rfl, x1, T1, n1⟩
  obtain ⟨W2, hW2, x2, g2⟩ : ∃ W, W = w1.alloc (.cells #[.slice none 0 0, .int .u16 0] 29) ∧ Ext w1 W ∧ W.heap[w1.heap.size]? = some (.cells (eveC none 0 newE) 29 (0, 0)) := ⟨_, rfl, Ext.alloc w1 _, heap_alloc_new w1 _⟩
  go_upto_region 7 with fail
  rw [← hW2]
  clear hW2
  have hS : Eg19 ES w W2 w1.heap.size p F none 0 newE newE := ⟨HK.out.ext T1 x2, fun h => absurd (HK.out.lt T1 _ h) (Nat.lt_irrefl _), n1, x1.trans x2, g2, x1.size, ⟨.inl rfl, Nat.le_refl 0, Nat.zero_le _⟩, .inl rfl⟩
  clear T1 n1 x1 x2 g2
  generalize w1.heap.size = B at hS ⊢
  clear hnI
  go_wp2_with fail
  go_loopg [5, 7] n (fun h pv iv wr => ∃ (i : Nat) (p : Nat) (F : Nat → Prop) (z : Option Addr) (d : Nat) (E : Eve), i + h = n ∧ iv = .int .i64 i ∧ pv = .pointer (some ⟨p, 0, none⟩) ∧ Eg19 ES w wr B p F z d E E)
  case atStart => exact ⟨0, p, F, none, 0, newE, by omega, rfl, rfl, hS⟩
  case round =>
    clear hS
    obtain ⟨i, p, F, z, d, E, hi, rfl, rfl, hS⟩ := hrel
    cases gk with
    | zero =>
      have hi1 : ¬ ((i : Int) < n) := by omega
      have HS := Lib.hid hS.x
      clear hS
      go_wp2_with fail
      refine (sure19 HK.out _).mono ?_; rintro e w3 ⟨rfl, x3⟩
      go_wp2
      go_ret
      exact ⟨rfl, HS.out.trans x3⟩
    | succ h =>
      have hiO : i < L.length := by rw [HL.out]; omega
      obtain ⟨b, off, rfl, hb, hc⟩ := HA.out.resolve_left (by intro e; rw [e] at hiO; simp at hiO)
      have hZ := HZ.out L[i] (List.getElem_mem _)
      have hc0 : ∀ j v, (eopL L[i])[j]? = some v → w.cell? ⟨b, off + i * 6 + j, none⟩ = some v := fun j v hj => hc i L[i] (List.getElem?_eq_getElem hiO) j v hj
      generalize L[i] = y at hZ hc0
      obtain ⟨k, x, f0, f1, f2, f3⟩ := y
      have hr := Lib.hid (show wr.rangeAt b (off + i * 6) #[.int .i64 k, .int .i64 x, .bool f0, .bool f1, .bool f2, .bool f3].toList from fun j v hj => hS.x.cell hb (hc0 j v hj))
      have hi1 : (i : Int) < n := by omega
      have hi300 : (i : Int) ≤ 300 := by have := HN.out; omega
      have HI := Lib.hid hi
      have HZZ := Lib.hid hZ
      clear hc hc0 hiO hi hZ hb
      obtain ⟨W3, hW3, x3, g3⟩ : ∃ W, W = ((wr.alloc (.cells #[.int .i64 0, .int .i64 0, .bool false, .bool false, .bool false, .bool false] 32)).setRow wr.heap.size #[.int .i64 k, .int .i64 x, .bool f0, .bool f1, .bool f2, .bool f3]) ∧ Ext wr W ∧ W.heap[wr.heap.size]? = some (.cells #[.int .i64 k, .int .i64 x, .bool f0, .bool f1, .bool f2, .bool f3] 32 (0, 0)) := ⟨_, rfl, below_setRow (Ext.alloc wr _) (Nat.le_refl _) _, setRow_heap _ _ _ _ _ _ (heap_alloc_new wr _)⟩
      go_upto_region 11 with (first
        | (refine wpList_load_arr rfl 32 (.tmp 25) rfl b (off + i * 6) (by go_simp) #[.int .i64 k, .int .i64 x, .bool f0, .bool f1, .bool f2, .bool f3] _ hr.out Try.underlying32 rfl (by kernel_rfl) ?_)
        | (refine wpList_store_row rfl 32 (.tmp 8) (.tmp 26) rfl _ _ rfl rfl 32 _ (heap_new_at _ _ (by first | rfl | simp)) (by kernel_rfl) rfl (by simp [Value.oneCell']) ?_))
      rw [← hW3]
      clear hW3
      have hgF : ¬ F wr.heap.size := fun h => Nat.lt_irrefl _ (HK.out.lt hS.s _ h)
      have S3 := hS.ext HK.out x3
      clear hS hr x3
      generalize wr.heap.size = g at hgF g3 ⊢
      have c0 : W3.cell? ⟨g, 0, none⟩ = some (.int .i64 k) := cell_of_heap g3 rfl
      go_upto_block 2 with fail
      go_cut [5, 9] from 28 to 107 (fun pv u wx => ∃ (p : Nat) (F : Nat → Prop) (z : Option Addr) (d : Nat) (E : Eve), pv = .pointer (some ⟨p, 0, none⟩) ∧ Eg19 ES w wx B p F z d E E)
      case first =>
        by_cases hk0 : k = 0
        · subst hk0
          have c1 : W3.cell? ⟨g, 1, none⟩ = some (.int .i64 x) := cell_of_heap g3 rfl
          have c2 : W3.cell? ⟨g, 2, none⟩ = some (.bool f0) := cell_of_heap g3 rfl
          have c3 : W3.cell? ⟨g, 3, none⟩ = some (.bool f1) := cell_of_heap g3 rfl
          have c4 : W3.cell? ⟨g, 4, none⟩ = some (.bool f2) := cell_of_heap g3 rfl
          have c5 : W3.cell? ⟨g, 5, none⟩ = some (.bool f3) := cell_of_heap g3 rfl
          have KL := Lib.hid (HK.out.heard p F E f0 f1 f2 f3 W3 S3.s)
          have hbd := Lib.hid (HK.out.bd S3.s)
          go_upto_region 18 with (first
            | (go_at_call 7; refine (KL.out).mono ?_; rintro e w4 ⟨G, rfl, k4, T4, g4⟩))
          have g5 := (k4.block g (heap_lt g3) hgF).trans g3
          have S4 := S3.turn k4 T4 g4
          clear S3 k4 T4 g4 g3 c0 c1 c2 c3 c4 c5 KL hgF
          have d1 : w4.cell? ⟨g, 1, none⟩ = some (.int .i64 x) := cell_of_heap g5 rfl
          have d2 : w4.cell? ⟨g, 2, none⟩ = some (.bool f0) := cell_of_heap g5 rfl
          have d3 : w4.cell? ⟨g, 3, none⟩ = some (.bool f1) := cell_of_heap g5 rfl
          have d4 : w4.cell? ⟨g, 4, none⟩ = some (.bool f2) := cell_of_heap g5 rfl
          have d5 : w4.cell? ⟨g, 5, none⟩ = some (.bool f3) := cell_of_heap g5 rfl
          have KR := Lib.hid (rheard19_v z d E f0 f1 f2 f3 w4 S4.v hbd.out)
          have b4 := S4.b
          unfold REv at KR
          go_wp2_with (first
            | (refine wpList_load_row rfl 29 (.tmp 6) rfl (B) rfl 29 _ (0, 0) _ b4 Try.underlying29 rfl (by kernel_rfl) ?_)
            | (go_at_call 8; refine (KR.out).mono ?_; rintro e w5 ⟨z2, d2', rfl, hv, x5, fz⟩; have b5 := x5.block b4; have hv := Lib.hid hv; have fz := Lib.hid fz)
            | (refine wpList_store_row rfl 29 (.tmp 6) (.tmp 65) rfl (B) _ rfl rfl 29 _ b5 (by kernel_rfl) rfl (by simp [eveC, Value.oneCell']) ?_))
          go_meet
          exact ⟨_, _, _, _, _, rfl, S4.put HK.out x5 hv.out fz.out⟩
        · have z0 : (k == 0) = false := by simp [hk0]
          clear hk0
          by_cases hk1 : k = 1
          · subst hk1
            have c1 : W3.cell? ⟨g, 1, none⟩ = some (.int .i64 x) := cell_of_heap g3 rfl
            have c2 : W3.cell? ⟨g, 2, none⟩ = some (.bool f0) := cell_of_heap g3 rfl
            have c3 : W3.cell? ⟨g, 3, none⟩ = some (.bool f1) := cell_of_heap g3 rfl
            have c4 : W3.cell? ⟨g, 4, none⟩ = some (.bool f2) := cell_of_heap g3 rfl
            have c5 : W3.cell? ⟨g, 5, none⟩ = some (.bool f3) := cell_of_heap g3 rfl
            have KL := Lib.hid (HK.out.said p F E x f0 W3 S3.s HZZ.out.wx)
            have hbd := Lib.hid (HK.out.bd S3.s)
            go_upto_region 21 with (first
              | (go_at_call 9; refine (KL.out).mono ?_; rintro e w4 ⟨G, rfl, k4, T4, g4⟩))
            have g5 := (k4.block g (heap_lt g3) hgF).trans g3
            have S4 := S3.turn k4 T4 g4
            clear S3 k4 T4 g4 g3 c0 c1 c2 c3 c4 c5 KL hgF
            have d1 : w4.cell? ⟨g, 1, none⟩ = some (.int .i64 x) := cell_of_heap g5 rfl
            have d2 : w4.cell? ⟨g, 2, none⟩ = some (.bool f0) := cell_of_heap g5 rfl
            have d3 : w4.cell? ⟨g, 3, none⟩ = some (.bool f1) := cell_of_heap g5 rfl
            have d4 : w4.cell? ⟨g, 4, none⟩ = some (.bool f2) := cell_of_heap g5 rfl
            have d5 : w4.cell? ⟨g, 5, none⟩ = some (.bool f3) := cell_of_heap g5 rfl
            have KR := Lib.hid (rsaid19_v z d E x f0 w4 S4.v hbd.out)
            have b4 := S4.b
            unfold REv at KR
            go_wp2_with (first
              | (refine wpList_load_row rfl 29 (.tmp 6) rfl (B) rfl 29 _ (0, 0) _ b4 Try.underlying29 rfl (by kernel_rfl) ?_)
              | (go_at_call 10; refine (KR.out).mono ?_; rintro e w5 ⟨z2, d2', rfl, hv, x5, fz⟩; have b5 := x5.block b4; have hv := Lib.hid hv; have fz := Lib.hid fz)
              | (refine wpList_store_row rfl 29 (.tmp 6) (.tmp 81) rfl (B) _ rfl rfl 29 _ b5 (by kernel_rfl) rfl (by simp [eveC, Value.oneCell']) ?_))
            go_meet
            exact ⟨_, _, _, _, _, rfl, S4.put HK.out x5 hv.out fz.out⟩
          · have z1 : (k == 1) = false := by simp [hk1]
            clear hk1
            by_cases hk2 : k = 2
            · subst hk2
              have c1 : W3.cell? ⟨g, 1, none⟩ = some (.int .i64 x) := cell_of_heap g3 rfl
              have c2 : W3.cell? ⟨g, 2, none⟩ = some (.bool f0) := cell_of_heap g3 rfl
              have c3 : W3.cell? ⟨g, 3, none⟩ = some (.bool f1) := cell_of_heap g3 rfl
              have c4 : W3.cell? ⟨g, 4, none⟩ = some (.bool f2) := cell_of_heap g3 rfl
              have c5 : W3.cell? ⟨g, 5, none⟩ = some (.bool f3) := cell_of_heap g3 rfl
              have KL := Lib.hid (HK.out.entered p F E  W3 S3.s)
              have hbd := Lib.hid (HK.out.bd S3.s)
              go_upto_region 24 with (first
                | (go_at_call 11; refine (KL.out).mono ?_; rintro e w4 ⟨G, rfl, k4, T4, g4⟩))
              have g5 := (k4.block g (heap_lt g3) hgF).trans g3
              have S4 := S3.turn k4 T4 g4
              clear S3 k4 T4 g4 g3 c0 c1 c2 c3 c4 c5 KL hgF
              have d1 : w4.cell? ⟨g, 1, none⟩ = some (.int .i64 x) := cell_of_heap g5 rfl
              have d2 : w4.cell? ⟨g, 2, none⟩ = some (.bool f0) := cell_of_heap g5 rfl
              have d3 : w4.cell? ⟨g, 3, none⟩ = some (.bool f1) := cell_of_heap g5 rfl
              have d4 : w4.cell? ⟨g, 4, none⟩ = some (.bool f2) := cell_of_heap g5 rfl
              have d5 : w4.cell? ⟨g, 5, none⟩ = some (.bool f3) := cell_of_heap g5 rfl
              have KR := Lib.hid (rentered19_v z d E  w4 S4.v hbd.out)
              have b4 := S4.b
              unfold REv at KR
              go_wp2_with (first
                | (refine wpList_load_row rfl 29 (.tmp 6) rfl (B) rfl 29 _ (0, 0) _ b4 Try.underlying29 rfl (by kernel_rfl) ?_)
                | (go_at_call 12; refine (KR.out).mono ?_; rintro e w5 ⟨z2, d2', rfl, hv, x5, fz⟩; have b5 := x5.block b4; have hv := Lib.hid hv; have fz := Lib.hid fz)
                | (refine wpList_store_row rfl 29 (.tmp 6) (.tmp 87) rfl (B) _ rfl rfl 29 _ b5 (by kernel_rfl) rfl (by simp [eveC, Value.oneCell']) ?_))
              go_meet
              exact ⟨_, _, _, _, _, rfl, S4.put HK.out x5 hv.out fz.out⟩
            · have z2 : (k == 2) = false := by simp [hk2]
              clear hk2
              by_cases hk3 : k = 3
              · subst hk3
                have c1 : W3.cell? ⟨g, 1, none⟩ = some (.int .i64 x) := cell_of_heap g3 rfl
                have c2 : W3.cell? ⟨g, 2, none⟩ = some (.bool f0) := cell_of_heap g3 rfl
                have c3 : W3.cell? ⟨g, 3, none⟩ = some (.bool f1) := cell_of_heap g3 rfl
                have c4 : W3.cell? ⟨g, 4, none⟩ = some (.bool f2) := cell_of_heap g3 rfl
                have c5 : W3.cell? ⟨g, 5, none⟩ = some (.bool f3) := cell_of_heap g3 rfl
                have KL := Lib.hid (HK.out.restarted p F E f0 W3 S3.s)
                have hbd := Lib.hid (HK.out.bd S3.s)
                go_upto_region 27 with (first
                  | (go_at_call 13; refine (KL.out).mono ?_; rintro e w4 ⟨G, rfl, k4, T4, g4⟩))
                have g5 := (k4.block g (heap_lt g3) hgF).trans g3
                have S4 := S3.turn k4 T4 g4
                clear S3 k4 T4 g4 g3 c0 c1 c2 c3 c4 c5 KL hgF
                have d1 : w4.cell? ⟨g, 1, none⟩ = some (.int .i64 x) := cell_of_heap g5 rfl
                have d2 : w4.cell? ⟨g, 2, none⟩ = some (.bool f0) := cell_of_heap g5 rfl
                have d3 : w4.cell? ⟨g, 3, none⟩ = some (.bool f1) := cell_of_heap g5 rfl
                have d4 : w4.cell? ⟨g, 4, none⟩ = some (.bool f2) := cell_of_heap g5 rfl
                have d5 : w4.cell? ⟨g, 5, none⟩ = some (.bool f3) := cell_of_heap g5 rfl
                have KR := Lib.hid (rrest19_v z d E f0 w4 S4.v hbd.out)
                have b4 := S4.b
                unfold REv at KR
                go_wp2_with (first
                  | (refine wpList_load_row rfl 29 (.tmp 6) rfl (B) rfl 29 _ (0, 0) _ b4 Try.underlying29 rfl (by kernel_rfl) ?_)
                  | (go_at_call 14; refine (KR.out).mono ?_; rintro e w5 ⟨z2, d2', rfl, hv, x5, fz⟩; have b5 := x5.block b4; have hv := Lib.hid hv; have fz := Lib.hid fz)
                  | (refine wpList_store_row rfl 29 (.tmp 6) (.tmp 99) rfl (B) _ rfl rfl 29 _ b5 (by kernel_rfl) rfl (by simp [eveC, Value.oneCell']) ?_))
                go_meet
                exact ⟨_, _, _, _, _, rfl, S4.put HK.out x5 hv.out fz.out⟩
              · have z3 : (k == 3) = false := by simp [hk3]
                clear hk3
                by_cases hk4 : k = 4
                · subst hk4
                  have KL := Lib.hid (HK.out.done p F E W3 S3.s)
                  go_upto_region 30 with (first
                    | (go_at_call 15; refine (KL.out).mono ?_; rintro e w4 ⟨G, rfl, k4, T4, g4⟩))
                  have S4 := S3.turn k4 T4 g4
                  clear S3 k4 T4 g4 g3 c0 KL hgF
                  have b1 : w4.cell? ⟨B, 1, none⟩ = some (.int .u16 E.n) := cell_of_heap S4.b rfl
                  have b2 := frozen19 (j := 1) S4.b
                  have hw : IntKind.u16.wrap (E.n + 1) = (E.n + 1) % 65536 := by rw [IntKind.wrap_u16]
                  go_wp2_with fail
                  go_meet
                  exact ⟨_, _, _, _, _, rfl, S4.one HK.out⟩
                · have z4 : (k == 4) = false := by simp [hk4]
                  clear hk4
                  have HS3 := Lib.hid S3
                  go_wp2_with fail
                  refine (HK.out.clone p F E W3 HS3.out.s).mono ?_; rintro e w4 ⟨p', F', rfl, x4, T4, n4⟩
                  have S4 := HS3.out.ext HK.out x4
                  have nB : ¬ F' B := fun hF => by have := n4 _ hF; have := heap_lt HS3.out.b; omega
                  have apart : ∀ q, F' q → ¬ F q := fun q hF hq => by have := n4 _ hF; have := HK.out.lt HS3.out.s _ hq; omega
                  have n4' : Above w F' := n4.of HS3.out.x
                  have hoz : OffN F' z E.L.length := by
                    rcases HS3.out.v.h with e | ⟨b', o', e, hlt, -⟩
                    · exact .inl e
                    · exact .inr fun q hq hF => by have e : z = _ := e; rw [e] at hq; cases hq; have := n4 _ hF; have hlt : b' < W3.heap.size := hlt; have : W3.heap.size ≤ b' := this; omega
                  have HA4 := Lib.hid (And.intro nB (And.intro apart (And.intro n4' hoz)))
                  have HS4 := Lib.hid S4
                  have HT4 := Lib.hid T4
                  clear S3 g3 c0 hgF S4 nB apart n4' hoz n4 T4 x4 HS3
                  go_wp2_with fail
                  refine (HK.out.done p F E w4 HS4.out.s).mono ?_; rintro e w5 ⟨G, rfl, k5, T5, g5⟩
                  go_wp2_with fail
                  refine (HK.out.entered p G _ w5 T5).mono ?_; rintro e w6 ⟨G2, rfl, k6, T6, g6⟩
                  have S5 := HS4.out.turn k5 T5 g5
                  have S6 := S5.turn k6 T6 g6
                  have T5' := HK.out.keep HT4.out k5 HA4.out.2.1
                  have T6' := HK.out.keep T5' k6 (fun q hq hG => (g5 q hG).elim (HA4.out.2.1 q hq) (fun e => by have := HK.out.lt HT4.out _ hq; omega))
                  go_wp2_with fail
                  go_meet
                  exact ⟨_, F', _, _, E, rfl, ⟨T6', HA4.out.1, HA4.out.2.2.1, S6.x, S6.b, S6.l, S6.v, HA4.out.2.2.2⟩⟩
      case rest =>
      obtain ⟨p2, F2, z2, d2, E2, rfl, S4⟩ := hcut
      clear S3 g3 c0 hgF hi1
      have hbd := HK.out.bd S4.s
      have KC := Lib.hid (fun W (x : Ext wc W) => HK.out.count p2 F2 E2 W (HK.out.ext S4.s x))
      have KLi := Lib.hid (fun W (x : Ext wc W) => HK.out.list p2 F2 E2 W (HK.out.ext S4.s x))
      have KSh := Lib.hid (fun W (x : Ext wc W) => HK.out.short p2 F2 E2 W (HK.out.ext S4.s x))
      have KLo := Lib.hid (fun W (x : Ext wc W) => HK.out.long p2 F2 E2 m W (HK.out.ext S4.s x) HM.out.1 HM.out.2)
      have KRs := Lib.hid (fun W (x : Ext wc W) => rshort19_v z2 d2 E2 W (S4.v.ext x) hbd)
      have KRl := Lib.hid (fun W (x : Ext wc W) => rlong19_v z2 d2 E2 m W (S4.v.ext x) hbd HM.out.1 HM.out.2)
      have HV := Lib.hid (fun W (x : Ext wc W) => S4.v.ext x)
      have HB := Lib.hid (fun W (x : Ext wc W) => And.intro (x.block S4.b) (And.intro (cell_of_heap (j := 0) (v := .slice z2 E2.L.length d2) (x.block S4.b) rfl) (cell_of_heap (j := 1) (v := .int .u16 E2.n) (x.block S4.b) rfl)))
      have hN : E2.L.length ≤ 1000000 := by have := hbd.l; omega
      have hlg : lgN E2 ≤ 1000000 := by have := hbd.l; unfold lgN; omega
      have HS4 := Lib.hid S4
      have hEE : (E2.n != E2.n) = false := by simp
      clear S4 hbd
      go_upto_region 31 with fail
      have hd : Ext wc wc.drew := Ext.drew wc
      have hs := hd
      refine wp_region_held_drew (S := fun W => Ext wc W) (by kernel_rfl) hs (fun _ => ?_)
      refine wpAnyH_takeD (i := 0) (d := 108) (v := .pointer (some ⟨p2, 0, none⟩)) rfl rfl (by kernel_rfl) (by kernel_rfl) (by kernel_rfl) (fun _ _ _ h => h) (Or.inl ⟨by rfl, fun W hW => by go_simp⟩) hs ?_
      simp only [Act.put, List.setIfInBounds_toArray, List.set_cons_succ, List.set_cons_zero]
      refine wpAnyH_takeD (i := 1) (d := 109) (v := .bool false) rfl rfl (by kernel_rfl) (by kernel_rfl) (by kernel_rfl) (fun _ _ _ h => h) (Or.inl ⟨by rfl, fun W hW => by go_simp⟩) hs ?_
      simp only [Act.put, List.setIfInBounds_toArray, List.set_cons_succ, List.set_cons_zero]
      refine wpAnyH_takeD (i := 2) (d := 110) (v := .bool false) rfl rfl (by kernel_rfl) (by kernel_rfl) (by kernel_rfl) (fun _ _ _ h => h) (Or.inl ⟨by rfl, fun W hW => by go_simp⟩) hs ?_
      simp only [Act.put, List.setIfInBounds_toArray, List.set_cons_succ, List.set_cons_zero]
      refine wpAnyH_takeD (i := 3) (d := 111) (v := .pointer (some ⟨p2, 0, none⟩)) rfl rfl (by kernel_rfl) (by kernel_rfl) (by kernel_rfl) (fun _ _ _ h => h) (Or.inl ⟨by rfl, fun W hW => by go_simp⟩) hs ?_
      simp only [Act.put, List.setIfInBounds_toArray, List.set_cons_succ, List.set_cons_zero]
      refine wpAnyH_takeD (i := 5) (d := 113) (v := .pointer (some ⟨B, 1, none⟩)) rfl rfl (by kernel_rfl) (by kernel_rfl) (by kernel_rfl) (fun _ _ _ h => h) (Or.inl ⟨by rfl, fun W hW => by go_simp⟩) hs ?_
      simp only [Act.put, List.setIfInBounds_toArray, List.set_cons_succ, List.set_cons_zero]
      refine wpAnyH_takeD (i := 6) (d := 114) (v := .int .u16 E2.n) rfl rfl (by kernel_rfl) (by kernel_rfl) (by kernel_rfl) (fun _ _ _ h => h) (Or.inl ⟨by rfl, fun W hW => by obtain ⟨k0, k1⟩ := (HB.out W hW).2; go_simp⟩) hs ?_
      simp only [Act.put, List.setIfInBounds_toArray, List.set_cons_succ, List.set_cons_zero]
      refine wpAnyH_ready (rs := [4]) (by kernel_rfl) (by simp) (AllReadyH.cons rfl (fun K hK => ?_) AllReadyH.nil)
      go_simp
      refine (KC.out _ hs).mono ?_; rintro e w6 ⟨rfl, x6⟩
      go_wp2_with fail
      have y6 := hs.trans x6
      refine hK.out _ _ y6 (fun hs => ?_)
      clear hK K
      clear x6
      refine wpAnyH_takeD (i := 7) (d := 115) (v := .bool false) rfl rfl (by kernel_rfl) (by kernel_rfl) (by kernel_rfl) (fun _ _ _ h => h) (Or.inl ⟨by rfl, fun W hW => by go_simp⟩) hs ?_
      simp only [Act.put, List.setIfInBounds_toArray, List.set_cons_succ, List.set_cons_zero]
      refine wpAnyH_takeD (i := 8) (d := 116) (v := .bool false) rfl rfl (by kernel_rfl) (by kernel_rfl) (by kernel_rfl) (fun _ _ _ h => h) (Or.inl ⟨by rfl, fun W hW => by go_simp⟩) hs ?_
      simp only [Act.put, List.setIfInBounds_toArray, List.set_cons_succ, List.set_cons_zero]
      refine wpAnyH_takeD (i := 9) (d := 117) (v := .bool false) rfl rfl (by kernel_rfl) (by kernel_rfl) (by kernel_rfl) (fun _ _ _ h => h) (Or.inl ⟨by rfl, fun W hW => by go_simp⟩) hs ?_
      simp only [Act.put, List.setIfInBounds_toArray, List.set_cons_succ, List.set_cons_zero]
      refine wpAnyH_takeD (i := 10) (d := 118) (v := .pointer (some ⟨p2, 0, none⟩)) rfl rfl (by kernel_rfl) (by kernel_rfl) (by kernel_rfl) (fun _ _ _ h => h) (Or.inl ⟨by rfl, fun W hW => by go_simp⟩) hs ?_
      simp only [Act.put, List.setIfInBounds_toArray, List.set_cons_succ, List.set_cons_zero]
      refine wpAnyH_takeD (i := 12) (d := 120) (v := .pointer (some ⟨B, 0, none⟩)) rfl rfl (by kernel_rfl) (by kernel_rfl) (by kernel_rfl) (fun _ _ _ h => h) (Or.inl ⟨by rfl, fun W hW => by go_simp⟩) hs ?_
      simp only [Act.put, List.setIfInBounds_toArray, List.set_cons_succ, List.set_cons_zero]
      refine wpAnyH_takeD (i := 13) (d := 121) (v := .slice z2 E2.L.length d2) rfl rfl (by kernel_rfl) (by kernel_rfl) (by kernel_rfl) (fun _ _ _ h => h) (Or.inl ⟨by rfl, fun W hW => by obtain ⟨k0, k1⟩ := (HB.out W hW).2; go_simp⟩) hs ?_
      simp only [Act.put, List.setIfInBounds_toArray, List.set_cons_succ, List.set_cons_zero]
      refine wpAnyH_ready (rs := [11]) (by kernel_rfl) (by simp) (AllReadyH.cons rfl (fun K hK => ?_) AllReadyH.nil)
      go_simp
      refine (KLi.out _ hs).mono ?_; rintro e w7 ⟨lb, lq, rfl, hl, -, -, x7⟩
      go_wp2_with fail
      have y7 := hs.trans x7
      refine hK.out _ _ y7 (fun hs => ?_)
      clear hK K
      clear x7
      refine wpAnyH_ready (rs := [14]) (by kernel_rfl) (by simp) (AllReadyH.cons rfl (fun K hK => ?_) AllReadyH.nil)
      go_simp
      refine (bytes_eq lb z2 _ _ lq d2 _ _ _ hl (HV.out _ hs).h hN ⟨rfl, fun _ _ => rfl⟩).mono ?_; rintro e w8 ⟨rfl, x8⟩
      go_wp2_with fail
      have y8 := hs.trans x8
      refine hK.out _ _ y8 (fun hs => ?_)
      clear hK K
      clear x8 hl
      refine wpAnyH_takeD (i := 15) (d := 123) (v := .bool false) rfl rfl (by kernel_rfl) (by kernel_rfl) (by kernel_rfl) (fun _ _ _ h => h) (Or.inl ⟨by rfl, fun W hW => by go_simp⟩) hs ?_
      simp only [Act.put, List.setIfInBounds_toArray, List.set_cons_succ, List.set_cons_zero]
      refine wpAnyH_takeD (i := 16) (d := 124) (v := .bool false) rfl rfl (by kernel_rfl) (by kernel_rfl) (by kernel_rfl) (fun _ _ _ h => h) (Or.inl ⟨by rfl, fun W hW => by go_simp⟩) hs ?_
      simp only [Act.put, List.setIfInBounds_toArray, List.set_cons_succ, List.set_cons_zero]
      refine wpAnyH_takeD (i := 17) (d := 125) (v := .bool false) rfl rfl (by kernel_rfl) (by kernel_rfl) (by kernel_rfl) (fun _ _ _ h => h) (Or.inl ⟨by rfl, fun W hW => by go_simp⟩) hs ?_
      simp only [Act.put, List.setIfInBounds_toArray, List.set_cons_succ, List.set_cons_zero]
      refine wpAnyH_takeD (i := 18) (d := 126) (v := .pointer (some ⟨p2, 0, none⟩)) rfl rfl (by kernel_rfl) (by kernel_rfl) (by kernel_rfl) (fun _ _ _ h => h) (Or.inl ⟨by rfl, fun W hW => by go_simp⟩) hs ?_
      simp only [Act.put, List.setIfInBounds_toArray, List.set_cons_succ, List.set_cons_zero]
      refine wpAnyH_takeD (i := 20) (d := 128) rfl rfl (by kernel_rfl) (by kernel_rfl) (by kernel_rfl) (fun _ _ _ h => h) (yieldsIf_load_row (by rfl) 29 (.tmp 6) rfl (B) rfl 29 _ (0, 0) _ (fun w' hw' => (HB.out _ hw').1) Try.underlying29 rfl (by kernel_rfl)) hs ?_
      simp only [Act.put, List.setIfInBounds_toArray, List.set_cons_succ, List.set_cons_zero]
      refine wpAnyH_ready (rs := [19]) (by kernel_rfl) (by simp) (AllReadyH.cons rfl (fun K hK => ?_) AllReadyH.nil)
      go_simp
      refine (KSh.out _ hs).mono ?_; rintro e w9 ⟨sb, sq, rfl, h1, -, -, x9⟩
      go_wp2_with fail
      have y9 := hs.trans x9
      refine hK.out _ _ y9 (fun hs => ?_)
      clear hK K
      clear x9
      refine wpAnyH_ready (rs := [21]) (by kernel_rfl) (by simp) (AllReadyH.cons rfl (fun K hK => ?_) AllReadyH.nil)
      go_simp
      refine (KRs.out _ hs).mono ?_; rintro e w10 ⟨rb, rq, rfl, h2, x10⟩
      go_wp2_with fail
      have y10 := hs.trans x10
      refine hK.out _ _ y10 (fun hs => ?_)
      clear hK K
      have h1 := HoldsG.ext h1 x10
      clear x10
      refine wpAnyH_ready (rs := [22]) (by kernel_rfl) (by simp) (AllReadyH.cons rfl (fun K hK => ?_) AllReadyH.nil)
      go_simp
      refine (bytes_eq sb rb 4 4 sq rq _ _ _ h1 h2 (by decide) ⟨rfl, fun _ _ => rfl⟩).mono ?_; rintro e w11 ⟨rfl, x11⟩
      go_wp2_with fail
      have y11 := hs.trans x11
      refine hK.out _ _ y11 (fun hs => ?_)
      clear hK K
      clear x11 h1 h2
      refine wpAnyH_takeD (i := 23) (d := 131) (v := .bool false) rfl rfl (by kernel_rfl) (by kernel_rfl) (by kernel_rfl) (fun _ _ _ h => h) (Or.inl ⟨by rfl, fun W hW => by go_simp⟩) hs ?_
      simp only [Act.put, List.setIfInBounds_toArray, List.set_cons_succ, List.set_cons_zero]
      refine wpAnyH_takeD (i := 24) (d := 132) (v := .bool false) rfl rfl (by kernel_rfl) (by kernel_rfl) (by kernel_rfl) (fun _ _ _ h => h) (Or.inl ⟨by rfl, fun W hW => by go_simp⟩) hs ?_
      simp only [Act.put, List.setIfInBounds_toArray, List.set_cons_succ, List.set_cons_zero]
      refine wpAnyH_takeD (i := 25) (d := 133) (v := .bool false) rfl rfl (by kernel_rfl) (by kernel_rfl) (by kernel_rfl) (fun _ _ _ h => h) (Or.inl ⟨by rfl, fun W hW => by go_simp⟩) hs ?_
      simp only [Act.put, List.setIfInBounds_toArray, List.set_cons_succ, List.set_cons_zero]
      refine wpAnyH_takeD (i := 26) (d := 134) (v := .pointer (some ⟨p2, 0, none⟩)) rfl rfl (by kernel_rfl) (by kernel_rfl) (by kernel_rfl) (fun _ _ _ h => h) (Or.inl ⟨by rfl, fun W hW => by go_simp⟩) hs ?_
      simp only [Act.put, List.setIfInBounds_toArray, List.set_cons_succ, List.set_cons_zero]
      refine wpAnyH_takeD (i := 27) (d := 135) (v := .int .u16 m) rfl rfl (by kernel_rfl) (by kernel_rfl) (by kernel_rfl) (fun _ _ _ h => h) (Or.inl ⟨by rfl, fun W hW => by go_simp⟩) hs ?_
      simp only [Act.put, List.setIfInBounds_toArray, List.set_cons_succ, List.set_cons_zero]
      refine wpAnyH_takeD (i := 29) (d := 137) rfl rfl (by kernel_rfl) (by kernel_rfl) (by kernel_rfl) (fun _ _ _ h => h) (yieldsIf_load_row (by rfl) 29 (.tmp 6) rfl (B) rfl 29 _ (0, 0) _ (fun w' hw' => (HB.out _ hw').1) Try.underlying29 rfl (by kernel_rfl)) hs ?_
      simp only [Act.put, List.setIfInBounds_toArray, List.set_cons_succ, List.set_cons_zero]
      refine wpAnyH_takeD (i := 30) (d := 138) (v := .int .u16 m) rfl rfl (by kernel_rfl) (by kernel_rfl) (by kernel_rfl) (fun _ _ _ h => h) (Or.inl ⟨by rfl, fun W hW => by go_simp⟩) hs ?_
      simp only [Act.put, List.setIfInBounds_toArray, List.set_cons_succ, List.set_cons_zero]
      refine wpAnyH_ready (rs := [28]) (by kernel_rfl) (by simp) (AllReadyH.cons rfl (fun K hK => ?_) AllReadyH.nil)
      go_simp
      refine (KLo.out _ hs).mono ?_; rintro e w12 ⟨ob, oq, rfl, h3, -, -, x12⟩
      go_wp2_with fail
      have y12 := hs.trans x12
      refine hK.out _ _ y12 (fun hs => ?_)
      clear hK K
      clear x12
      refine wpAnyH_ready (rs := [31]) (by kernel_rfl) (by simp) (AllReadyH.cons rfl (fun K hK => ?_) AllReadyH.nil)
      go_simp
      refine (KRl.out _ hs).mono ?_; rintro e w13 ⟨pb, pq, rfl, h4, x13⟩
      go_wp2_with fail
      have y13 := hs.trans x13
      refine hK.out _ _ y13 (fun hs => ?_)
      clear hK K
      have h3 := HoldsG.ext h3 x13
      clear x13
      refine wpAnyH_ready (rs := [32]) (by kernel_rfl) (by simp) (AllReadyH.cons rfl (fun K hK => ?_) AllReadyH.nil)
      go_simp
      refine (bytes_eq ob pb _ _ oq pq _ _ _ h3 h4 hlg ⟨rfl, fun _ _ => rfl⟩).mono ?_; rintro e w14 ⟨rfl, x14⟩
      go_wp2_with fail
      have y14 := hs.trans x14
      refine hK.out _ _ y14 (fun hs => ?_)
      clear hK K
      clear x14 h3 h4
      refine wpAnyH_takeD (i := 33) (d := 141) (v := .bool false) rfl rfl (by kernel_rfl) (by kernel_rfl) (by kernel_rfl) (fun _ _ _ h => h) (Or.inl ⟨by rfl, fun W hW => by go_simp⟩) hs ?_
      simp only [Act.put, List.setIfInBounds_toArray, List.set_cons_succ, List.set_cons_zero]
      refine wpAnyH_takeD (i := 34) (d := 142) (v := .bool false) rfl rfl (by kernel_rfl) (by kernel_rfl) (by kernel_rfl) (fun _ _ _ h => h) (Or.inl ⟨by rfl, fun W hW => by go_simp⟩) hs ?_
      simp only [Act.put, List.setIfInBounds_toArray, List.set_cons_succ, List.set_cons_zero]
      refine wpAnyH_done (by kernel_rfl) ?_ _
      have S5 := HS4.out.ext HK.out y14
      clear hs y6 y7 y8 y9 y10 y11 y12 y13 y14 hd KC KLi KSh KLo KRs KRl HV HB HS4
      go_wp2_with fail
      go_roundg h
      case rel => exact ⟨i + 1, _, _, _, _, _, by have := HI.out; omega, by go_num, rfl, S5⟩
      case measure => omega
end Go.Proofs.Ytjbmmklgpjnbmaa
