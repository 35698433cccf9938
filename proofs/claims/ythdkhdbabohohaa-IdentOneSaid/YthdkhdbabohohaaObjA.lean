/-
  CONTRACTS: package object (layer 20): which objects are taken (within, ofSort), the iterator over them (each), how many (count).
-/
import Derived.Test.YthdkhdbabohohaaObjC
import Derived.Test.YthdkhdbabohohaaRangeR
import Derived.Deep.LoopGhost
import Derived.Deep.DeepCutAuto
namespace Go.Proofs.Ythdkhdbabohohaa
open Go.RowKit
set_option linter.unusedVariables false
set_option maxRecDepth 100000

def witV (b1 b2 : Nat) : Value := .func (.func 55) #[] #[.pointer (some ⟨b1, 0, none⟩), .pointer (some ⟨b2, 0, none⟩)]
def nonV : Value := .func (.func 54) #[] #[]
def eachV (bL bT : Nat) : Value := .func (.func 53) #[] #[.pointer (some ⟨bL, 0, none⟩), .pointer (some ⟨bT, 0, none⟩)]
/-- What a function of within's takes. -/
def TakesW (w : World) (b1 b2 : Nat) (P : Ob → Bool) : Prop :=
  ∃ lo hi : Int, w.cell? ⟨b1, 0, none⟩ = some (.int .i64 lo) ∧ w.cell? ⟨b2, 0, none⟩ = some (.int .i64 hi) ∧ ∀ z : Ob, (Lit.int .i64 z.id).wf = true → P z = decide (lo ≤ z.id ∧ z.id ≤ hi)
theorem TakesW.ext {w w' : World} {b1 b2 : Nat} {P : Ob → Bool} (h : TakesW w b1 b2 P) (x : Ext w w') : TakesW w' b1 b2 P := by
  obtain ⟨lo, hi, h1, h2, h3⟩ := h
  exact ⟨lo, hi, x.cell (World.block_lt_of_cell? _ _ h1) h1, x.cell (World.block_lt_of_cell? _ _ h2) h2, h3⟩
theorem TakesW.keep {w w' : World} {b1 b2 B G : Nat} {P : Ob → Bool} (h : TakesW w b1 b2 P) (h1 : B ≤ b1) (h2 : B ≤ b2) (hG : G < B) (k : Keep (· = G) w w') : TakesW w' b1 b2 P := by
  obtain ⟨lo, hi, c1, c2, h3⟩ := h
  exact ⟨lo, hi, k.cell (fun e => by have e : b1 = G := e; omega) c1, k.cell (fun e => by have e : b2 = G := e; omega) c2, h3⟩
theorem wit_any (b1 b2 : Nat) (P : Ob → Bool) (z : Ob) (w : World) (h : TakesW w b1 b2 P) (hz : (Lit.int .i64 z.id).wf = true) :
    Calls Try.prog 55 #[.agg (obC z), .pointer (some ⟨b1, 0, none⟩), .pointer (some ⟨b2, 0, none⟩)] w fun e w' => e = .returned (.bool (P z)) ∧ Ext w w' := by
  obtain ⟨lo, hi, c1, c2, h3⟩ := h
  rw [h3 z hz]
  unfold obC
  obtain ⟨zi, za, zn, zc, zf⟩ := z
  simp only at hz ⊢
  have l1 := World.block_lt_of_cell? _ _ c1
  have l2 := World.block_lt_of_cell? _ _ c2
  clear h3 hz
  by_cases h0 : lo ≤ zi
  · rw [show decide (lo ≤ zi ∧ zi ≤ hi) = decide (zi ≤ hi) by simp [h0]]
    go_enter Try.func55, Try.ntmps55
    go_wp2
    go_ret
    exact ⟨rfl, Ext.alloc _ _⟩
  · rw [show decide (lo ≤ zi ∧ zi ≤ hi) = false by simp [h0]]
    go_enter Try.func55, Try.ntmps55
    go_wp2
    go_ret
    exact ⟨rfl, Ext.alloc _ _⟩
theorem within_new (lo hi : Int) (P : Ob → Bool) (w : World) (hP : ∀ z : Ob, (Lit.int .i64 z.id).wf = true → P z = decide (lo ≤ z.id ∧ z.id ≤ hi)) :
    Calls Try.prog 44 #[.int .i64 lo, .int .i64 hi] w fun e w' => ∃ b1 b2, e = .returned (witV b1 b2) ∧ TakesW w' b1 b2 P ∧ Ext w w' ∧ w.heap.size ≤ b1 ∧ w.heap.size ≤ b2 := by
  have HP := Lib.hid hP
  clear hP
  go_enter Try.func44, Try.ntmps44
  go_wp2
  go_ret
  refine ⟨w.heap.size, w.heap.size + 1, rfl, ⟨lo, hi, ?_, ?_, HP.out⟩, (Ext.alloc _ _).alloc' _, Nat.le_refl _, by omega⟩
  · exact cell_of_heap (j := 0) ((heap_alloc_old _ _ (by simp)).trans (heap_alloc_new w _)) rfl
  · exact cell_of_heap (j := 0) (heap_new_at _ _ (by simp)) rfl
theorem within_any (lo hi : Int) (P : Ob → Bool) (w : World) (hP : ∀ z : Ob, (Lit.int .i64 z.id).wf = true → P z = decide (lo ≤ z.id ∧ z.id ≤ hi)) :
    Calls Try.prog 44 #[.int .i64 lo, .int .i64 hi] w fun e w' => ∃ b1 b2, e = .returned (witV b1 b2) ∧ TakesW w' b1 b2 P ∧ Ext w w' :=
  (within_new lo hi P w hP).mono fun e w' ⟨b1, b2, h1, h2, h3, _⟩ => ⟨b1, b2, h1, h2, h3⟩
theorem non_any (z : Ob) (w : World) : Calls Try.prog 54 #[.agg (obC z)] w fun e w' => e = .returned (.bool false) ∧ Ext w w' := by
  unfold obC
  go_enter Try.func54, Try.ntmps54
  go_wp2
  go_ret
  exact ⟨rfl, Ext.alloc _ _⟩
theorem sort_new (s : Int) (w : World) (h1 : 1 ≤ s) (h3 : s ≤ 3) : Calls Try.prog 41 #[.int .i64 s] w fun e w' => ∃ b1 b2, e = .returned (witV b1 b2) ∧ TakesW w' b1 b2 (fun z => ofI s z.id) ∧ Ext w w' ∧ w.heap.size ≤ b1 ∧ w.heap.size ≤ b2 := by
  rcases (show s = 1 ∨ s = 2 ∨ s = 3 by omega) with rfl | rfl | rfl
  · have HC := Lib.hid (within_new 0 2 (fun z => ofI 1 z.id) w (fun z hz => rfl))
    unfold witV at HC ⊢
    clear h1 h3
    go_enter Try.func41, Try.ntmps41
    go_wp2_with fail
    refine HC.out.mono ?_; rintro e w1 ⟨b1, b2, rfl, t, x⟩
    go_wp2
    go_ret
    exact ⟨b1, b2, rfl, t, x⟩
  · have HC := Lib.hid (within_new 0 6 (fun z => ofI 2 z.id) w (fun z hz => rfl))
    unfold witV at HC ⊢
    clear h1 h3
    go_enter Try.func41, Try.ntmps41
    go_wp2_with fail
    refine HC.out.mono ?_; rintro e w1 ⟨b1, b2, rfl, t, x⟩
    go_wp2
    go_ret
    exact ⟨b1, b2, rfl, t, x⟩
  · have HC := Lib.hid (within_new (-9223372036854775808) 9223372036854775807 (fun z => ofI 3 z.id) w (fun z hz => by
      simp [Lit.wf, IntKind.min, IntKind.max, IntKind.signed, IntKind.bits] at hz
      rw [show ofI 3 z.id = true from rfl]; exact (decide_eq_true (by omega)).symm))
    unfold witV at HC ⊢
    clear h1 h3
    go_enter Try.func41, Try.ntmps41
    go_wp2_with fail
    refine HC.out.mono ?_; rintro e w1 ⟨b1, b2, rfl, t, x⟩
    go_wp2
    go_ret
    exact ⟨b1, b2, rfl, t, x⟩
theorem sort_yes (s : Int) (w : World) (h1 : 1 ≤ s) (h3 : s ≤ 3) : Calls Try.prog 41 #[.int .i64 s] w fun e w' => ∃ b1 b2, e = .returned (witV b1 b2) ∧ TakesW w' b1 b2 (fun z => ofI s z.id) ∧ Ext w w' :=
  (sort_new s w h1 h3).mono fun e w' ⟨b1, b2, h1, h2, h3, _⟩ => ⟨b1, b2, h1, h2, h3⟩
theorem sort_no (s : Int) (w : World) (h : ¬ (1 ≤ s ∧ s ≤ 3)) : Calls Try.prog 41 #[.int .i64 s] w fun e w' => e = .returned nonV ∧ w' = w := by
  have b1 : (s == 1) = false := by simp; omega
  have b2 : (s == 2) = false := by simp; omega
  have b3 : (s == 3) = false := by simp; omega
  unfold nonV
  clear h
  go_enter Try.func41, Try.ntmps41
  go_wp2
  go_ret
  exact ⟨rfl, rfl⟩
/-- The memory that the iterator reads. -/
structure IterO (w : World) (bL bT : Nat) (a : Option Addr) (n c : Nat) (v : Value) (L : List Ob) : Prop where
  list : w.cell? ⟨bL, 0, none⟩ = some (.slice a n c)
  takes : w.cell? ⟨bT, 0, none⟩ = some v
  objs : ObjsAt w a n c L
theorem IterO.ext {w w' : World} {bL bT : Nat} {a : Option Addr} {n c : Nat} {v : Value} {L : List Ob} (h : IterO w bL bT a n c v L) (x : Ext w w') : IterO w' bL bT a n c v L :=
  ⟨x.cell (World.block_lt_of_cell? _ _ h.list) h.list, x.cell (World.block_lt_of_cell? _ _ h.takes) h.takes, h.objs.ext x⟩
theorem each_wit (a : Option Addr) (n c : Nat) (L : List Ob) (b1 b2 : Nat) (w : World) (h : ObjsAt w a n c L) :
    Calls Try.prog 40 #[.slice a n c, witV b1 b2] w fun e w' => ∃ bL bT, e = .returned (eachV bL bT) ∧ IterO w' bL bT a n c (witV b1 b2) L ∧ Ext w w' ∧ w.heap.size ≤ bL ∧ w.heap.size ≤ bT := by
  have HA := Lib.hid h
  clear h
  unfold witV eachV
  go_enter Try.func40, Try.ntmps40
  go_wp2
  go_ret
  refine ⟨w.heap.size, w.heap.size + 1, rfl, ⟨?_, ?_, HA.out.ext ((Ext.alloc _ _).alloc' _)⟩, (Ext.alloc _ _).alloc' _, Nat.le_refl _, by omega⟩
  · exact cell_of_heap (j := 0) ((heap_alloc_old _ _ (by simp)).trans (heap_alloc_new w _)) rfl
  · exact cell_of_heap (j := 0) (heap_new_at _ _ (by simp)) rfl
theorem each_non (a : Option Addr) (n c : Nat) (L : List Ob) (w : World) (h : ObjsAt w a n c L) :
    Calls Try.prog 40 #[.slice a n c, nonV] w fun e w' => ∃ bL bT, e = .returned (eachV bL bT) ∧ IterO w' bL bT a n c nonV L ∧ Ext w w' ∧ w.heap.size ≤ bL ∧ w.heap.size ≤ bT := by
  have HA := Lib.hid h
  clear h
  unfold nonV eachV
  go_enter Try.func40, Try.ntmps40
  go_wp2
  go_ret
  refine ⟨w.heap.size, w.heap.size + 1, rfl, ⟨?_, ?_, HA.out.ext ((Ext.alloc _ _).alloc' _)⟩, (Ext.alloc _ _).alloc' _, Nat.le_refl _, by omega⟩
  · exact cell_of_heap (j := 0) ((heap_alloc_old _ _ (by simp)).trans (heap_alloc_new w _)) rfl
  · exact cell_of_heap (j := 0) (heap_new_at _ _ (by simp)) rfl
theorem fil_step {P : Ob → Bool} {L : List Ob} {i : Nat} {z : Ob} (hi : i < L.length) (e : L[i] = z) : (L.take (i + 1)).filter P = (L.take i).filter P ++ (if P z = true then [z] else []) := by
  rw [List.take_succ_eq_append_getElem hi, e, List.filter_append, List.filter_cons]
  split <;> simp
theorem fil_at {P : Ob → Bool} {L : List Ob} {i : Nat} {z : Ob} (hi : i < L.length) (e : L[i] = z) (hp : P z = true) : (L.filter P)[((L.take i).filter P).length]? = some z := by
  have h := List.take_append_drop i L
  have h2 : L.filter P = (L.take i).filter P ++ (L.drop i).filter P := by rw [← List.filter_append, h]
  rw [h2, List.getElem?_append_right (Nat.le_refl _), Nat.sub_self, List.drop_eq_getElem_cons hi, e, List.filter_cons, if_pos hp]; rfl
set_option maxHeartbeats 4000000 in
theorem each1_wit (l₀ bL bT b1 b2 : Nat) (a : Option Addr) (n c : Nat) (L : List Ob) (P : Ob → Bool) (J : Nat → World → Prop) (Jx : World → Prop) (W : World) (hn : n ≤ 1000000)
    (hMem : ∀ k W, J k W → IterO W bL bT a n c (witV b1 b2) L ∧ TakesW W b1 b2 P) (hJx : ∀ k W W', J k W → Ext W W' → J k W')
    (hY : ∀ k x W0 W1, J k W0 → Ext W0 W1 → (L.filter P)[k]? = some x → k < (L.filter P).length → YieldAt Fence.wide 0 Try.prog l₀ #[.agg (obC x)] W1 fun e W' => (e = .returned (.bool true) ∧ J (k + 1) W') ∨ (e = .returned (.bool false) ∧ Jx W'))
    (h0 : J 0 W) :
    Calls Try.prog 53 #[.func (.yield l₀) #[] #[], .pointer (some ⟨bL, 0, none⟩), .pointer (some ⟨bT, 0, none⟩)] W fun e W' => (∃ v, e = .returned v) ∧ (J (L.filter P).length W' ∨ Jx W') := by
  have hM0 := (hMem 0 W h0).1
  have c1 := hM0.list
  have HL := Lib.hid hM0.objs.len
  have HMem := Lib.hid hMem; have HJx := Lib.hid hJx; have HY := Lib.hid hY; have H0 := Lib.hid h0; have HN := Lib.hid hn
  clear hM0 hMem hJx hY h0
  go_enter Try.func53, Try.ntmps53
  go_wp2
  go_loopw [8] (fun iv wr => ∃ i : Nat, i ≤ n ∧ iv = .int .i64 i ∧ J ((L.take i).filter P).length wr) (fun iv _ => n - (intOf iv).toNat)
  case atStart => exact ⟨0, Nat.zero_le _, rfl, H0.out⟩
  case round =>
    clear c1
    obtain ⟨i, hi, rfl, hJ⟩ := hrel
    by_cases hlt : i < n
    · have hiL : i < L.length := by rw [HL.out]; exact hlt
      obtain ⟨hit, htk⟩ := HMem.out _ _ hJ
      obtain ⟨b, o, rfl, hb, -⟩ := hit.objs.h.resolve_left (by intro e; rw [e] at hiL; simp at hiL)
      obtain ⟨a0, a1⟩ := hit.objs.h.ob_at i hiL
      have c2 := hit.takes
      have hob := hit.objs.each _ (List.getElem_mem hiL)
      obtain ⟨z, hz⟩ : ∃ z, L[i] = z := ⟨_, rfl⟩
      rw [hz] at a0 a1 hob
      have HS := Lib.hid (fil_step (P := P) hiL hz)
      have HT := Lib.hid (fil_at (P := P) hiL hz)
      have hlt' : (i : Int) < n := by omega
      have x2 := Ext.alloc wr (.cells (obC z) 49)
      have HC := Lib.hid (fun W' (x : Ext wr W') => wit_any b1 b2 P z W' (htk.ext x) hob.wi)
      have l2 := World.block_lt_of_cell? _ _ c2
      have HJ := Lib.hid hJ
      have HOb := Lib.hid hob
      unfold witV at c2
      clear hz hJ hit htk hob hiL
      cases hp : P z with
      | false =>
        have HE : Hid (((L.take (i + 1)).filter P).length = ((L.take i).filter P).length) := Lib.hid (by rw [HS.out, hp]; simp)
        rw [hp] at HC
        obtain ⟨zi, za, zn, zc, zf⟩ := z
        unfold obC at HC x2
        simp only at a0 a1 HC x2
        clear hp HT HS
        go_wp2_with fail
        refine (HC.out _ x2).mono ?_; rintro e w1 ⟨rfl, x1⟩
        go_wp2
        go_roundw
        case rel => exact ⟨i + 1, by omega, by go_num, by rw [HE.out]; exact HJx.out _ _ _ HJ.out (x2.trans x1)⟩
        case measure => simp [intOf]; omega
      | true =>
        have HE : Hid (((L.take (i + 1)).filter P).length = ((L.take i).filter P).length + 1) := Lib.hid (by rw [HS.out, hp]; simp)
        have HK := Lib.hid (HT.out hp)
        rw [hp] at HC
        have HYz := Lib.hid (fun W1 (x : Ext wr W1) => HY.out _ z wr W1 HJ.out x HK.out (by
          rcases Nat.lt_or_ge ((L.take i).filter P).length (L.filter P).length with h | h
          · exact h
          · have := HK.out; rw [List.getElem?_eq_none h] at this; cases this))
        obtain ⟨zi, za, zn, zc, zf⟩ := z
        unfold obC at HC x2 HYz
        simp only at a0 a1 HC x2 HYz
        clear hp HT HS
        go_upto_region 3 with fail
        refine (wpIn_wide (n := 0)).1 ?_
        gi_wp2_with fail
        refine ⟨trivial, rfl, callsIn_wide.2 ((HC.out _ x2).mono ?_)⟩; rintro e w1 ⟨rfl, x1⟩
        have gB := x1.block (heap_alloc_new wr (.cells #[.int .i64 zi, .slice za zn zc] 49))
        have d0 := cell_of_heap (j := 0) gB rfl; have d1 := cell_of_heap (j := 1) gB rfl
        obtain ⟨fn, tmps, assign, body, hy, hR⟩ := HYz.out w1 (x2.trans x1)
        clear gB
        gi_wp2_with fail
        refine ⟨rfl, hR.mono ?_⟩
        rintro e W3 (⟨rfl, hJ3⟩ | ⟨rfl, hX3⟩)
        · clear hR hy d0 d1
          gi_wp2_with fail
          go_wp2_with fail
          go_roundw
          case rel => exact ⟨i + 1, by omega, by go_num, by rw [HE.out]; exact hJ3⟩
          case measure => simp [intOf]; omega
        · clear hR hy d0 d1
          gi_wp2_with fail
          go_wp2_with fail
          refine bodyPost_ret (results_none rfl _ _ _) rfl ?_
          exact ⟨⟨_, rfl⟩, .inr hX3⟩
    · have hin : i = n := by omega
      have HE : Hid ((L.take i).filter P = L.filter P) := Lib.hid (by rw [List.take_of_length_le (by rw [HL.out]; omega)])
      have HJ := Lib.hid hJ
      rw [HE.out] at HJ
      clear hJ
      go_wp2
      first
        | (refine bodyPost_ret (results_none rfl _ _ _) rfl ?_)
        | go_end0
      exact ⟨⟨_, rfl⟩, .inl HJ.out⟩
set_option maxHeartbeats 4000000 in
theorem each1_non (l₀ bL bT : Nat) (a : Option Addr) (n c : Nat) (L : List Ob) (P : Ob → Bool) (hP : ∀ z, P z = false) (J : Nat → World → Prop) (Jx : World → Prop) (W : World) (hn : n ≤ 1000000)
    (hMem : ∀ k W, J k W → IterO W bL bT a n c nonV L) (hJx : ∀ k W W', J k W → Ext W W' → J k W')
    (h0 : J 0 W) :
    Calls Try.prog 53 #[.func (.yield l₀) #[] #[], .pointer (some ⟨bL, 0, none⟩), .pointer (some ⟨bT, 0, none⟩)] W fun e W' => (∃ v, e = .returned v) ∧ (J (L.filter P).length W' ∨ Jx W') := by
  have hM0 := hMem 0 W h0
  have c1 := hM0.list
  have HL := Lib.hid hM0.objs.len
  have HMem := Lib.hid hMem; have HJx := Lib.hid hJx; have H0 := Lib.hid h0; have HN := Lib.hid hn
  have HP := Lib.hid hP
  clear hM0 hMem hJx h0 hP
  go_enter Try.func53, Try.ntmps53
  go_wp2
  go_loopw [8] (fun iv wr => ∃ i : Nat, i ≤ n ∧ iv = .int .i64 i ∧ J ((L.take i).filter P).length wr) (fun iv _ => n - (intOf iv).toNat)
  case atStart => exact ⟨0, Nat.zero_le _, rfl, H0.out⟩
  case round =>
    clear c1
    obtain ⟨i, hi, rfl, hJ⟩ := hrel
    by_cases hlt : i < n
    · have hiL : i < L.length := by rw [HL.out]; exact hlt
      have hit := HMem.out _ _ hJ
      obtain ⟨b, o, rfl, hb, -⟩ := hit.objs.h.resolve_left (by intro e; rw [e] at hiL; simp at hiL)
      obtain ⟨a0, a1⟩ := hit.objs.h.ob_at i hiL
      have c2 := hit.takes
      have hob := hit.objs.each _ (List.getElem_mem hiL)
      obtain ⟨z, hz⟩ : ∃ z, L[i] = z := ⟨_, rfl⟩
      rw [hz] at a0 a1 hob
      have HS := Lib.hid (fil_step (P := P) hiL hz)
      have hlt' : (i : Int) < n := by omega
      have x2 := Ext.alloc wr (.cells (obC z) 49)
      have HC := Lib.hid (fun W' (x : Ext wr W') => non_any z W')
      have l2 := World.block_lt_of_cell? _ _ c2
      have HJ := Lib.hid hJ
      have HOb := Lib.hid hob
      unfold nonV at c2
      clear hz hJ hit hob hiL
      have HE : Hid (((L.take (i + 1)).filter P).length = ((L.take i).filter P).length) := Lib.hid (by rw [HS.out, HP.out]; simp)
      obtain ⟨zi, za, zn, zc, zf⟩ := z
      unfold obC at HC x2
      simp only at a0 a1 HC x2
      clear HS
      go_wp2_with fail
      refine (HC.out _ x2).mono ?_; rintro e w1 ⟨rfl, x1⟩
      go_wp2
      go_roundw
      case rel => exact ⟨i + 1, by omega, by go_num, by rw [HE.out]; exact HJx.out _ _ _ HJ.out (x2.trans x1)⟩
      case measure => simp [intOf]; omega
    · have hin : i = n := by omega
      have HE : Hid ((L.take i).filter P = L.filter P) := Lib.hid (by rw [List.take_of_length_le (by rw [HL.out]; omega)])
      have HJ := Lib.hid hJ
      rw [HE.out] at HJ
      clear hJ
      go_wp2
      first
        | (refine bodyPost_ret (results_none rfl _ _ _) rfl ?_)
        | go_end0
      exact ⟨⟨_, rfl⟩, .inl HJ.out⟩
/-- What a function takes. -/
def TakesAt (w : World) (v : Value) (P : Ob → Bool) : Prop := (∃ b1 b2, v = witV b1 b2 ∧ TakesW w b1 b2 P) ∨ (v = nonV ∧ ∀ z, P z = false)
theorem TakesAt.ext {w w' : World} {v : Value} {P : Ob → Bool} (h : TakesAt w v P) (x : Ext w w') : TakesAt w' v P := by
  rcases h with ⟨b1, b2, e, t⟩ | h
  · exact .inl ⟨b1, b2, e, t.ext x⟩
  · exact .inr h
theorem TakesW.at {w : World} {b1 b2 : Nat} {P : Ob → Bool} (h : TakesW w b1 b2 P) : TakesAt w (witV b1 b2) P := .inl ⟨b1, b2, rfl, h⟩
/-- It is taken still when a box that lay ahead was written. -/
def TakesK (B : Nat) (w : World) (v : Value) (P : Ob → Bool) : Prop := ∀ G W, G < B → Keep (· = G) w W → TakesAt W v P
theorem TakesW.k {w : World} {b1 b2 B : Nat} {P : Ob → Bool} (h : TakesW w b1 b2 P) (h1 : B ≤ b1) (h2 : B ≤ b2) : TakesK B w (witV b1 b2) P := fun G W hG k => (h.keep h1 h2 hG k).at
theorem TakesK.ext {w w' : World} {v : Value} {B : Nat} {P : Ob → Bool} (h : TakesK B w v P) (x : Ext w w') : TakesK B w' v P := fun G W hG k => h G W hG ((Keep.of_ext x).trans k (fun i hi => .inl hi))
theorem TakesK.at {w : World} {v : Value} {B : Nat} {P : Ob → Bool} (h : TakesK B w v P) (hB : 0 < B) : TakesAt w v P := h 0 w hB (Keep.refl _ _)
theorem sort_any (s : Int) (w : World) : Calls Try.prog 41 #[.int .i64 s] w fun e w' => ∃ v, e = .returned v ∧ TakesAt w' v (fun z => ofI s z.id) ∧ TakesK w.heap.size w' v (fun z => ofI s z.id) ∧ Ext w w' := by
  by_cases h : 1 ≤ s ∧ s ≤ 3
  · exact (sort_new s w h.1 h.2).mono fun e w' ⟨b1, b2, he, t, x, l1, l2⟩ => ⟨_, he, t.at, t.k l1 l2, x⟩
  · refine (sort_no s w h).mono ?_
    rintro e w' ⟨rfl, rfl⟩
    have hP : ∀ z : Ob, ofI s z.id = false := fun z => by
      unfold ofI
      rw [if_neg (by omega), if_neg (by omega)]
      exact decide_eq_false (by omega)
    exact ⟨_, rfl, .inr ⟨rfl, hP⟩, fun _ _ _ _ => .inr ⟨rfl, hP⟩, Ext.refl _⟩
theorem each_any (a : Option Addr) (n c : Nat) (L : List Ob) (v : Value) (P : Ob → Bool) (w : World) (h : ObjsAt w a n c L) (t : TakesAt w v P) :
    Calls Try.prog 40 #[.slice a n c, v] w fun e w' => ∃ bL bT, e = .returned (eachV bL bT) ∧ IterO w' bL bT a n c v L ∧ TakesAt w' v P ∧ Ext w w' ∧ w.heap.size ≤ bL ∧ w.heap.size ≤ bT := by
  rcases id t with ⟨b1, b2, rfl, _⟩ | ⟨rfl, _⟩
  · exact (each_wit a n c L b1 b2 w h).mono fun e w' ⟨bL, bT, he, i, x, l⟩ => ⟨bL, bT, he, i, t.ext x, x, l⟩
  · exact (each_non a n c L w h).mono fun e w' ⟨bL, bT, he, i, x, l⟩ => ⟨bL, bT, he, i, t.ext x, x, l⟩
theorem each1_any (l₀ bL bT : Nat) (a : Option Addr) (n c : Nat) (L : List Ob) (v : Value) (P : Ob → Bool) (J : Nat → World → Prop) (Jx : World → Prop) (W : World) (hn : n ≤ 1000000)
    (hMem : ∀ k W, J k W → IterO W bL bT a n c v L ∧ TakesAt W v P) (hJx : ∀ k W W', J k W → Ext W W' → J k W')
    (hY : ∀ k x W0 W1, J k W0 → Ext W0 W1 → (L.filter P)[k]? = some x → k < (L.filter P).length → YieldAt Fence.wide 0 Try.prog l₀ #[.agg (obC x)] W1 fun e W' => (e = .returned (.bool true) ∧ J (k + 1) W') ∨ (e = .returned (.bool false) ∧ Jx W'))
    (h0 : J 0 W) :
    Calls Try.prog 53 #[.func (.yield l₀) #[] #[], .pointer (some ⟨bL, 0, none⟩), .pointer (some ⟨bT, 0, none⟩)] W fun e W' => (∃ v, e = .returned v) ∧ (J (L.filter P).length W' ∨ Jx W') := by
  rcases (hMem 0 W h0).2 with ⟨b1, b2, rfl, _⟩ | ⟨rfl, hP⟩
  · refine each1_wit l₀ bL bT b1 b2 a n c L P J Jx W hn (fun k W hJ => ⟨(hMem k W hJ).1, ?_⟩) hJx hY h0
    rcases (hMem k W hJ).2 with ⟨c1, c2, e, t⟩ | ⟨e, _⟩
    · unfold witV at e
      simp only [Value.func.injEq, true_and, Array.mk.injEq, List.cons.injEq, Value.pointer.injEq, Option.some.injEq, Addr.mk.injEq, and_true] at e
      rw [e.1, e.2]; exact t
    · unfold witV nonV at e; simp at e
  · exact each1_non l₀ bL bT a n c L P hP J Jx W hn (fun k W hJ => (hMem k W hJ).1) hJx h0
end Go.Proofs.Ythdkhdbabohohaa
