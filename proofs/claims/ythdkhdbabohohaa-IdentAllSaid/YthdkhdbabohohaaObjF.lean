/-
  CONTRACTS: package object (layer 20): Right, Level, Find: ranges over the iterator whose bodies return.
-/
import Derived.Test.YthdkhdbabohohaaObjE
namespace Go.Proofs.Ythdkhdbabohohaa
open Go.RowKit
set_option linter.unusedVariables false
set_option maxRecDepth 100000
attribute [local go_sem] Oper.semAt_some

theorem run_loadVar_one {P : Program} {w : World} {a : Addr} {ty : TypeId} {v : Value} {d : TypeDesc} (hu : P.underlying ty = some d) (hd : (match d with | .struct _ | .array _ _ => true | _ => false) = false) (hc : w.cell? a = some v) : (loadVar ty a).run P w = .ok v w := by
  have hagg : (isAgg ty).run P w = .ok false w := by
    unfold isAgg
    rw [Sem.run_bind, run_underlying hu w]
    cases d <;> simp_all
  simp [loadVar, Sem.run_bind, hagg, go_sem, hc]
theorem results_one {P : Program} {fn : Func} {p : Tmp} {ty : TypeId} (h : fn.results = #[.cell p ty]) (tmps : Array Value) (w : World) (g : Nat) (v : Value) (d : TypeDesc)
    (hp : tmps.getD p undef = .pointer (some ⟨g, 0, none⟩)) (hc : w.cell? ⟨g, 0, none⟩ = some v) (hu : P.underlying ty = some d) (hd : (match d with | .struct _ | .array _ _ => true | _ => false) = false) : (results fn tmps).run P w = .ok v w := by
  have hp' : tmps[p]?.getD undef = .pointer (some ⟨g, 0, none⟩) := by simpa using hp
  simp [results, h, hp', asAddr, run_loadVar_one hu hd hc]
theorem results_row_one {P : Program} {fn : Func} {p q : Tmp} {ty tz : TypeId} (hr : fn.results = #[.cell p ty, .cell q tz]) (tmps : Array Value) (w : World) (g h : Nat) (t : TypeId) (cs : Array Value) (fr : Nat × Nat) (d e : TypeDesc) (v : Value)
    (hp : tmps.getD p undef = .pointer (some ⟨g, 0, none⟩)) (hg : w.heap[g]? = some (.cells cs t fr)) (hu : P.underlying ty = some d) (hd : (match d with | .struct _ | .array _ _ => true | _ => false) = true) (hi : (P.info? ty).map (·.size) = some cs.size)
    (hq : tmps.getD q undef = .pointer (some ⟨h, 0, none⟩)) (hc : w.cell? ⟨h, 0, none⟩ = some v) (hv : P.underlying tz = some e) (he : (match e with | .struct _ | .array _ _ => true | _ => false) = false) : (results fn tmps).run P w = .ok (.tuple #[.agg cs, v]) w := by
  have hp' : tmps[p]?.getD undef = .pointer (some ⟨g, 0, none⟩) := by simpa using hp
  have hq' : tmps[q]?.getD undef = .pointer (some ⟨h, 0, none⟩) := by simpa using hq
  simp [results, hr, hp', hq', asAddr, Sem.run_bind, Result.andThen, run_loadVar_row w g t ty cs fr d hg hu hd hi, run_loadVar_one hv he hc]

/-! ### Three of the basic sort -/
def cntO (L : List Ob) : Nat := (L.filter (fun z => ofI 1 z.id)).length
theorem ofI1 {id : Int} : ofI 1 id = decide (0 ≤ id ∧ id ≤ 2) := rfl
theorem cntO_cons (z : Ob) (L : List Ob) : cntO (z :: L) = (if 0 ≤ z.id ∧ z.id ≤ 2 then 1 else 0) + cntO L := by
  unfold cntO
  rw [List.filter_cons, ofI1]
  by_cases h : 0 ≤ z.id ∧ z.id ≤ 2
  · rw [if_pos (decide_eq_true h), if_pos h, List.length_cons]; omega
  · rw [if_neg (by simpa using h), if_neg h]; omega
theorem cntO_le : ∀ {L : List Ob} {p : Int}, risO p L = true → -1 ≤ p → (p ≤ 2 → (cntO L : Int) ≤ 2 - p) ∧ (2 ≤ p → cntO L = 0)
  | [], p, _, _ => ⟨fun h => by show (0 : Int) ≤ 2 - p; omega, fun _ => rfl⟩
  | z :: L, p, h, hp => by
    obtain ⟨h1, h2, h3⟩ := risO_cons.1 h
    obtain ⟨i1, i2⟩ := cntO_le h3 (by omega)
    rw [cntO_cons]
    have := (okO_iff.1 h1).1
    by_cases hz : 0 ≤ z.id ∧ z.id ≤ 2
    · rw [if_pos hz]
      have := i1 hz.2
      exact ⟨fun _ => by omega, fun _ => by omega⟩
    · rw [if_neg hz]
      have := i2 (by omega)
      exact ⟨fun _ => by omega, fun _ => by omega⟩
theorem cntO_head {L : List Ob} {p : Int} (h : risO p L = true) (hp : -1 ≤ p) (hp1 : p ≤ 1) (hc : (cntO L : Int) = 2 - p) : ∃ z M, L = z :: M ∧ z.id = p + 1 ∧ risO z.id M = true ∧ (cntO M : Int) = 2 - z.id := by
  cases L with
  | nil => have e : cntO [] = 0 := rfl; rw [e] at hc; omega
  | cons z M =>
    obtain ⟨h1, h2, h3⟩ := risO_cons.1 h
    obtain ⟨i1, i2⟩ := cntO_le h3 (by omega)
    have := (okO_iff.1 h1).1
    rw [cntO_cons] at hc
    by_cases hz : 0 ≤ z.id ∧ z.id ≤ 2
    · rw [if_pos hz] at hc
      have := i1 hz.2
      exact ⟨z, M, rfl, by omega, h3, by omega⟩
    · rw [if_neg hz] at hc
      have := i2 (by omega)
      omega
theorem cntO_fir {L : List Ob} (h : risO (-1) L = true) : ((cntO L : Int) == 3) = firO L := by
  by_cases hc : (cntO L : Int) = 3
  · rw [show ((cntO L : Int) == 3) = true by simpa using hc]
    obtain ⟨x, M, rfl, hx, h3, hc⟩ := cntO_head h (by omega) (by omega) (by omega)
    obtain ⟨y, M, rfl, hy, h3, hc⟩ := cntO_head h3 (by omega) (by omega) (by omega)
    obtain ⟨z, M, rfl, hz, h3, hc⟩ := cntO_head h3 (by omega) (by omega) (by omega)
    exact (decide_eq_true ⟨by omega, by omega, by omega⟩).symm
  · rw [show ((cntO L : Int) == 3) = false by simpa using hc]
    have hle := (cntO_le h (by omega)).1 (by omega)
    match L, hc, hle with
    | [], _, _ => rfl
    | [_], _, _ => rfl
    | [_, _], _, _ => rfl
    | x :: y :: z :: M, hc, hle =>
      refine (decide_eq_false ?_).symm
      rintro ⟨e0, e1, e2⟩
      rw [cntO_cons, cntO_cons, cntO_cons, if_pos (by omega), if_pos (by omega), if_pos (by omega)] at hc hle
      omega
set_option maxHeartbeats 4000000 in
theorem right_any (a : Option Addr) (n c : Nat) (L : List Ob) (w : World) (h : ObjsAt w a n c L) (hF : ObjF L) :
    Calls Try.prog 19 #[.slice a n c] w fun e w' => e = .returned (.bool (rightO L)) ∧ Ext w w' := by
  have HH := Lib.hid h
  have hn : n ≤ 100000 := by rw [← h.len]; exact hF.n
  have HN := Lib.hid hn
  have HF := Lib.hid hF
  have hfil : L.filter (fun z => ofI 3 z.id) = L := List.filter_eq_self.2 (fun z _ => rfl)
  have HFil := Lib.hid hfil
  have HS := Lib.hid (fun W => sort_new 3 W (by decide) (by decide))
  have HS1 := Lib.hid (fun W => sort_yes 1 W (by decide) (by decide))
  have HE := Lib.hid (fun b1 b2 W (x : Ext w W) (t : TakesW W b1 b2 (fun z => ofI 3 z.id)) => each_any a n c L (witV b1 b2) _ W (h.ext x) t.at)
  have HC := Lib.hid (fun b1 b2 W (x : Ext w W) (t : TakesW W b1 b2 (fun z => ofI 1 z.id)) => count_any a n c L (witV b1 b2) _ W (h.ext x) (by omega) t.at)
  clear h hn hF hfil
  refine calls_of_marks Try.func19 rfl ?_
  simp only [Try.ntmps19, List.size_toArray, List.length_cons, List.length_nil, Nat.reduceAdd, Nat.reduceSub, Array.replicate_succ, Array.replicate_zero, List.push_toArray, List.append_toArray, List.nil_append, List.cons_append]
  go_wp2_with fail
  refine (HS.out _).mono ?_; rintro e w2 ⟨b1, b2, rfl, ht, x2, k1, k2⟩
  have x02 := ((Ext.alloc w (.cells #[.bool false] 4)).alloc' (.cells #[.int .i64 (-1)] 3)).trans x2
  have g2 := x2.block ((heap_alloc_old _ (.cells #[.int .i64 (-1)] 3) (by simp)).trans (heap_alloc_new w (.cells #[.bool false] 4)))
  have g3 := x2.block (heap_new_at (w.alloc (.cells #[.bool false] 4)) (.cells #[.int .i64 (-1)] 3) (i := w.heap.size + 1) (by simp))
  go_wp2_with fail
  refine (HE.out _ _ _ x02 ht).mono ?_; rintro e w3 ⟨bL, bT, rfl, hI, hT, x3, lL, lT⟩
  replace g2 := x3.block g2
  replace g3 := x3.block g3
  have htk := (ht.k k1 k2).ext x3
  simp only [World.size_alloc] at htk
  have hsz := x2.size
  simp only [World.size_alloc] at hsz
  obtain ⟨G, hG⟩ : ∃ G, G = w.heap.size := ⟨_, rfl⟩
  have hit : ItM w w3 w3 bL bT (G + 1) a n c (witV b1 b2) L (fun z => ofI 3 z.id) := ⟨x02.trans x3, Keep.refl _ _, by omega, hI, HH.out, (fun W k => htk _ _ (by omega) k), by omega, by omega⟩
  have gl2 := heap_lt g2
  have gl3 := heap_lt g3
  clear hI hT x3 lL lT htk ht x2 x02 k1 k2 hsz
  go_wp2_with fail
  have HGw := Lib.hid hG
  rw [← hG] at g2 g3 gl2 gl3 ⊢
  clear hG
  unfold witV eachV
  refine wp_rangeFunc_ret (gf := 53) (lb := #[.pointer (some ⟨bL, 0, none⟩), .pointer (some ⟨bT, 0, none⟩)]) rfl (Go.Proofs.enters_of Try.func53 (by kernel_rfl) rfl)
    (fun x : Ob => .agg (obC x)) (fun k x W0 W1 => L[k]? = some x) L.length (fun k W => W.heap[G]? = some (.cells #[.bool false] 4 (0, 0)) ∧ (∃ p, W.heap[G + 1]? = some (.cells #[.int .i64 p] 3 (0, 0)) ∧ risO (-1) L = risO p (L.drop k)) ∧ ItM w w3 W bL bT (G + 1) a n c (witV b1 b2) L (fun z => ofI 3 z.id))
    ?ext ?turn (fun W => W.heap[G]? = some (.cells #[.bool false] 4 (0, 0)) ∧ risO (-1) L = false ∧ Ext w W) ?xturn ⟨g2, ⟨-1, g3, rfl⟩, hit⟩ ?seq
    (fun k x a' W2 => ∃ q, a' = { tmps := #[.slice a n c, undef, .pointer (some ⟨G, 0, none⟩), .pointer (some ⟨G + 1, 0, none⟩), .pointer (some ⟨q, 0, none⟩), .slice a n c, .func (.func 55) #[] #[.pointer (some ⟨b1, 0, none⟩), .pointer (some ⟨b2, 0, none⟩)], .func (.func 53) #[] #[.pointer (some ⟨bL, 0, none⟩), .pointer (some ⟨bT, 0, none⟩)], .agg (obC x), undef, undef, undef, undef, undef, undef, undef, undef, undef, undef, undef, undef, undef, undef, undef], defers := [] } ∧ W2.heap[q]? = some (.cells (obC x) 49 (0, 0)))
    ?assign ?body ?done ?stop
  case ext => rintro k W W' ⟨g, ⟨p, g', e⟩, hm⟩ x; exact ⟨x.block g, ⟨p, x.block g', e⟩, hm.ext x⟩
  case turn => rintro k W l o o' ⟨g, ⟨p, g', e⟩, hm⟩ hl ho hc; exact ⟨row_turn o' g ho hc, ⟨p, row_turn o' g' ho hc, e⟩, hm.turn o' hl⟩
  case xturn => rintro W l o o' ⟨g, e, x⟩ hl ho hc; exact ⟨row_turn o' g ho hc, e, ext_turn o' x (by have := hit.x0.size; omega)⟩
  case seq =>
    intro l J Jx W x hJI hJx hY hJ0
    have h1 := each1_any l bL bT a n c L (witV b1 b2) (fun z => ofI 3 z.id) J Jx W (by have := HN.out; omega) (fun k W hJ => (hJI k W hJ).2.2.mem) hJx
    rw [HFil.out] at h1
    exact h1 hY hJ0
  case assign =>
    rintro l k ⟨xi, xa, xn, xc, xf⟩ W0 W1 K hI x01 hX hK
    unfold obC at hK ⊢
    gi_wp2_with fail
    exact hK _ _ (Ext.alloc _ _) ⟨_, rfl, heap_alloc_new _ _⟩
  case body =>
    rintro l o' k x a' W0 W1 W2 ⟨g, ⟨p, g', e⟩, hm⟩ x01 hX x12 ⟨q, rfl, hq⟩ hwl hlW ⟨r, hlr⟩ hkN
    have hkL : k < L.length := hkN
    have hxm := List.mem_of_getElem? hX
    have hob := HH.out.each x hxm
    have HM := Lib.hid (fun W' (y : Ext w W') => maybe_any x W' (hob.ext y) (HF.out.e x hxm))
    have hxk : L[k] = x := by rw [List.getElem?_eq_getElem hkL] at hX; exact Option.some.inj hX
    rw [List.drop_eq_getElem_cons hkL, hxk] at e
    have HE2 := Lib.hid (e.trans (show risO p (x :: L.drop (k + 1)) = (okO x && decide (p < x.id) && risO x.id (L.drop (k + 1))) from rfl))
    have gW := row_turn o' ((x01.trans x12).block g) hlr rfl
    have gP := row_turn o' ((x01.trans x12).block g') hlr rfl
    have gQ := row_turn o' hq hlr rfl
    have hm3 := (hm.ext (x01.trans x12)).turn o' hwl
    obtain ⟨W3, hW3⟩ : ∃ W3, W3 = W2.putObj l o' := ⟨_, rfl⟩
    rw [← hW3] at gW gP gQ hm3 ⊢
    have x3 := hm3.x
    have HM3 := Lib.hid (And.intro hm3 (And.intro gW (And.intro gP gQ)))
    obtain ⟨xi, xa, xn, xc, xf⟩ := x
    unfold obC at gQ HM ⊢
    simp only at HM gQ HE2
    have c0 := cell_of_heap (j := 0) gP rfl
    have d0 := cell_of_heap (j := 0) gQ rfl
    have d1 := cell_of_heap (j := 1) gQ rfl
    have f0 := frozen_of_row _ _ 0 _ _ gP
    have f1 := frozen_of_row _ _ 0 _ _ gW
    have hGw : w.heap.size ≤ G := by rw [HGw.out]; exact Nat.le_refl _
    have l1 := heap_lt gW; have l2 := heap_lt gP; have l3 := heap_lt gQ
    have m0 := cell_of_heap (j := 0) gW rfl
    clear hm x01 hX x12 hlr hW3 hlW hxm hob hxk e gW gP gQ g g' hq hm3
    by_cases hle : xi ≤ p
    · have HR : Hid (risO (-1) L = false) := Lib.hid (by rw [HE2.out, decide_eq_false (by omega)]; simp)
      gi_wp2_with fail
      refine ⟨trivial, ?_⟩
      gi_wp2_with fail
      exact ⟨fun b o _ ho hc => (KeepsOthers.setCell W3 _ _).same b o ho hc, heap_setCell_same _ _ _ _ _ _ HM3.out.2.1, HR.out, Below.set x3 hGw _⟩
    · cases hok : okO ⟨xi, xa, xn, xc, xf⟩ with
      | false =>
        have HR : Hid (risO (-1) L = false) := Lib.hid (by rw [HE2.out, hok]; rfl)
        rw [hok] at HM
        clear hok
        gi_wp2_with fail
        refine ⟨trivial, rfl, CallsIn.inRound l (callsIn_wide.2 ((HM.out _ x3).mono ?_))⟩; rintro e w5 ⟨rfl, x5⟩
        have gW := x5.block HM3.out.2.1
        have f1 := frozen_of_row _ _ 0 _ _ gW
        have l1 := heap_lt gW
        have m0 := cell_of_heap (j := 0) gW rfl
        gi_wp2_with fail
        exact ⟨fun b o _ ho hc => (KeepsOthers.setCell w5 _ _).same b o (x5.block ho) hc, heap_setCell_same _ _ _ _ _ _ gW, HR.out, Below.set (x3.trans x5) hGw _⟩
      | true =>
        have HR : Hid (risO (-1) L = risO xi (L.drop (k + 1))) := Lib.hid (by rw [HE2.out, hok, decide_eq_true (by omega)]; simp)
        rw [hok] at HM
        clear hok
        gi_wp2_with fail
        refine ⟨trivial, rfl, CallsIn.inRound l (callsIn_wide.2 ((HM.out _ x3).mono ?_))⟩; rintro e w5 ⟨rfl, x5⟩
        have gW := x5.block HM3.out.2.1
        have gP := x5.block HM3.out.2.2.1
        have gQ := x5.block HM3.out.2.2.2
        unfold obC at gQ
        have f0 := frozen_of_row _ _ 0 _ _ gP
        have d0 := cell_of_heap (j := 0) gQ rfl
        have l2 := heap_lt gP
        have c0 := cell_of_heap (j := 0) gP rfl
        gi_wp2_with fail
        exact ⟨fun b o _ ho hc => (KeepsOthers.setCell w5 _ _).same b o (x5.block ho) hc, (heap_setCell_other _ _ _ _ (by simp)).trans gW, ⟨xi, heap_setCell_same _ _ _ _ _ _ gP, HR.out⟩, (HM3.out.1.ext x5).set _ _⟩
  case stop =>
    rintro D W hD ⟨g, e, x⟩ hK
    have HE2 : Hid (rightO L = false) := Lib.hid (by unfold rightO; rw [e]; rfl)
    have HX := Lib.hid (ext_turn (.deferred none) x (show w.heap.size ≤ D by have := hit.x0.size; omega))
    have HG2 := Lib.hid (row_turn (.deferred none) g hK rfl)
    refine ⟨by simp, .inl ⟨_, _, rfl, run_takeDeferred hK, ?_⟩⟩
    exact ⟨_, results_one rfl _ _ G _ _ rfl (cell_of_heap (j := 0) HG2.out rfl) Try.underlying4 rfl, by rw [HE2.out]; rfl, HX.out⟩
  case done =>
    rintro D W hD ⟨g, ⟨p, g', e⟩, hm⟩ hK
    rw [List.drop_length] at e
    have HE2 : Hid (rightO L = ((cntO L : Int) == 3)) := Lib.hid (by rw [cntO_fir (by rw [e]; rfl)]; unfold rightO; rw [e]; rfl)
    have x3 := hm.x
    have HC2 : Hid (∀ (b1 b2 : Nat) (W : World), Ext w W → TakesW W b1 b2 (fun z => ofI 1 z.id) → Calls Try.prog 43 #[.slice a n c, witV b1 b2] W fun e w' => e = .returned (.int .i64 (cntO L : Int)) ∧ Ext W w') := Lib.hid HC.out
    generalize (cntO L : Int) = N at HC2 HE2
    have hGw : w.heap.size ≤ G := by rw [HGw.out]; exact Nat.le_refl _
    clear HC hit hm g' e
    go_wp2_with fail
    refine (HS1.out _).mono ?_; rintro e w5 ⟨c1, c2, rfl, t5, x5⟩
    replace g := x5.block g
    replace hK := x5.block hK
    replace x3 := x3.trans x5
    go_wp2_with fail
    refine (HC2.out _ _ _ x3 t5).mono ?_; rintro e w6 ⟨rfl, x6⟩
    replace g := x6.block g
    replace hK := x6.block hK
    replace x3 := x3.trans x6
    have f1 := frozen_of_row _ _ 0 _ _ g
    have k1 := cell_of_heap (j := 0) g rfl
    go_wp2_with fail
    have hK2 := (KeepsOthers.setCell w6 ⟨G, 0, none⟩ (.bool (N == 3))).same D _ hK rfl
    have HG2 := Lib.hid (row_turn (.deferred none) (heap_setCell_same _ _ _ _ _ (.bool (N == 3)) g) hK2 rfl)
    have HX := Lib.hid (ext_turn (.deferred none) (Below.set x3 hGw (.bool (N == 3)) (p := ⟨G, 0, none⟩)) (show w.heap.size ≤ D by omega))
    refine ⟨by simp, .inl ⟨_, _, rfl, run_takeDeferred hK2, ?_⟩⟩
    exact ⟨_, results_one rfl _ _ G _ _ rfl (cell_of_heap (j := 0) HG2.out rfl) Try.underlying4 rfl, by rw [HE2.out]; rfl, HX.out⟩
theorem level_any (a : Option Addr) (n c : Nat) (L : List Ob) (w : World) (h : ObjsAt w a n c L) (hF : ObjF L) :
    Calls Try.prog 20 #[.slice a n c] w fun e w' => e = .returned (.int .i64 (levelO L)) ∧ Ext w w' := by
  have HR := Lib.hid (right_any a n c L w h hF)
  have hn : n ≤ 100000 := by rw [← h.len]; exact hF.n
  cases hr : rightO L with
  | false =>
    have HE : Hid (levelO L = 0) := Lib.hid (by unfold levelO; rw [hr]; rfl)
    rw [hr] at HR
    clear h hF hn hr
    go_enter Try.func20, Try.ntmps20
    go_wp2_with fail
    refine HR.out.mono ?_; rintro e w1 ⟨rfl, x1⟩
    go_wp2
    go_ret
    exact ⟨by rw [HE.out]; rfl, x1⟩
  | true =>
    obtain ⟨l1, l3⟩ := level_bd hr
    have HAll := Lib.hid (fun s (a : s ≤ 3) (b : levelO L ≤ s) => of_all hr a b)
    have HLess := Lib.hid (fun s (a : 1 ≤ s) (b : s < levelO L) => of_less hr a b)
    rw [hr] at HR
    have HL := Lib.hid h.len
    have HS := Lib.hid (fun s W (a : 1 ≤ s) (b : s ≤ 3) => sort_yes s W a b)
    have HC := Lib.hid (fun s b1 b2 W (x : Ext w W) (t : TakesW W b1 b2 (fun z => ofI s z.id)) => count_any a n c L (witV b1 b2) _ W (h.ext x) (by omega) t.at)
    generalize levelO L = V at l1 l3 HAll HLess ⊢
    clear h hF hr
    go_enter Try.func20, Try.ntmps20
    go_wp2_with fail
    refine HR.out.mono ?_; rintro e w1 ⟨rfl, x1⟩
    go_wp2_with fail
    go_loopw [3] (fun sv wr => ∃ s : Int, sv = .int .i64 s ∧ 1 ≤ s ∧ s ≤ V ∧ Ext w wr) (fun sv _ => (4 - intOf sv).toNat)
    case atStart => exact ⟨1, rfl, by omega, l1, x1⟩
    case round =>
      obtain ⟨s, rfl, s1, sV, xr⟩ := hrel
      have hc := fun b1 b2 W (x : Ext wr W) t => HC.out s b1 b2 W (xr.trans x) t
      by_cases hs : s < V
      · have hlt : (((L.filter (fun z => ofI s z.id)).length : Nat) : Int) < n := by have h1 := HLess.out s s1 hs; rw [HL.out] at h1; show ((ofO s L).length : Int) < n; omega
        generalize (((L.filter (fun z => ofI s z.id)).length : Nat) : Int) = N at hc hlt
        have HC2 := Lib.hid hc
        have e1 : IntKind.i64.wrap (s + 1) = s + 1 := IntWalk.i64_in _ (by omega)
        clear hc
        go_wp2_with fail
        refine (HS.out s _ s1 (by omega)).mono ?_; rintro e w2 ⟨b1, b2, rfl, t2, x2⟩
        go_wp2_with fail
        refine (HC2.out _ _ _ x2 t2).mono ?_; rintro e w3 ⟨rfl, x3⟩
        go_wp2_with fail
        go_roundw
        case rel => exact ⟨s + 1, rfl, by omega, by omega, (xr.trans x2).trans x3⟩
        case measure => simp [intOf]; omega
      · have hsV : s = V := by omega
        have hlt : ¬ (((L.filter (fun z => ofI s z.id)).length : Nat) : Int) < n := by have h1 := HAll.out s (by omega) (by omega); show ¬ ((ofO s L).length : Int) < n; rw [h1, HL.out]; omega
        generalize (((L.filter (fun z => ofI s z.id)).length : Nat) : Int) = N at hc hlt
        have HC2 := Lib.hid hc
        have HV := Lib.hid hsV
        have hs3 : s ≤ 3 := by omega
        clear hc hsV hs sV
        go_wp2_with fail
        refine (HS.out s _ s1 hs3).mono ?_; rintro e w2 ⟨b1, b2, rfl, t2, x2⟩
        go_wp2_with fail
        refine (HC2.out _ _ _ x2 t2).mono ?_; rintro e w3 ⟨rfl, x3⟩
        go_wp2_with fail
        go_ret
        exact ⟨by rw [HV.out]; rfl, (xr.trans x2).trans x3⟩
theorem find_fil (id : Int) : ∀ L : List Ob, findO id L = (L.filter (fun z => decide (z.id = id)))[0]?
  | [] => rfl
  | z :: L => by
    unfold findO
    rw [List.filter_cons]
    by_cases h : z.id = id
    · rw [if_pos h, if_pos (decide_eq_true h)]; rfl
    · rw [if_neg h, if_neg (by simpa using h)]; exact find_fil id L
theorem ObjAt.set {W : World} {y : Ob} {a : Addr} {v : Value} (h : ObjAt W y) (hn : ∀ p, y.a = some p → p.block ≠ a.block) : ObjAt (W.setCell a v) y :=
  ⟨Holds.blocksO h.h fun q o hq _ _ => heap_setCell_other _ _ _ _ (hn _ hq), h.l, h.m, h.s, h.b, h.wi⟩
theorem rows_set {W : World} {G : Nat} {t u : TypeId} {o0 o1 o2 : Value} (v0 v1 v2 : Value) (g : W.heap[G]? = some (.cells #[o0, o1] t (0, 0))) (g' : W.heap[G + 1]? = some (.cells #[o2] u (0, 0))) :
    (((W.setCell ⟨G, 0, none⟩ v0).setCell ⟨G, 1, none⟩ v1).setCell ⟨G + 1, 0, none⟩ v2).heap[G]? = some (.cells #[v0, v1] t (0, 0)) ∧ (((W.setCell ⟨G, 0, none⟩ v0).setCell ⟨G, 1, none⟩ v1).setCell ⟨G + 1, 0, none⟩ v2).heap[G + 1]? = some (.cells #[v2] u (0, 0)) ∧
      (∀ (b : Nat) (o : Obj), W.heap[b]? = some o → o.isCells = false → (((W.setCell ⟨G, 0, none⟩ v0).setCell ⟨G, 1, none⟩ v1).setCell ⟨G + 1, 0, none⟩ v2).heap[b]? = some o) ∧
      (∀ w : World, Ext w W → w.heap.size ≤ G → Ext w (((W.setCell ⟨G, 0, none⟩ v0).setCell ⟨G, 1, none⟩ v1).setCell ⟨G + 1, 0, none⟩ v2)) := by
  refine ⟨(heap_setCell_other _ _ _ _ (by simp)).trans (row2_set _ _ g), ?_, fun b o ho hc => ?_, fun w x hw => Below.set (row2_ext _ _ x hw) (by show w.heap.size ≤ G + 1; omega) _⟩
  · have h := heap_setCell_same _ (G + 1) 0 _ u v2 ((row2_other v0 v1 (show G + 1 ≠ G by omega)).trans g')
    exact h
  · exact (KeepsOthers.setCell _ _ _).same b o ((KeepsOthers.setCell _ _ _).same b o ((KeepsOthers.setCell _ _ _).same b o ho hc) hc) hc
set_option maxHeartbeats 4000000 in
theorem find_any (a : Option Addr) (n c : Nat) (L : List Ob) (id : Int) (w : World) (h : ObjsAt w a n c L) (hF : ObjF L) :
    Calls Try.prog 21 #[.slice a n c, .int .i64 id] w fun e w' => ∃ z, e = .returned (.tuple #[.agg (obC z), .bool (findO id L).isSome]) ∧ ObjAt w' z ∧ sameZ z ((findO id L).getD zeroOb) = true ∧ Ext w w' := by
  have HH := Lib.hid h
  have hn : n ≤ 100000 := by rw [← h.len]; exact hF.n
  have HN := Lib.hid hn
  have HF := Lib.hid hF
  have HS := Lib.hid (fun W => within_new id id (fun z : Ob => decide (z.id = id)) W (fun z hz => decide_eq_decide.2 ⟨fun h => by omega, fun h => by omega⟩))
  have HE := Lib.hid (fun b1 b2 W (x : Ext w W) (t : TakesW W b1 b2 (fun z => decide (z.id = id))) => each_any a n c L (witV b1 b2) _ W (h.ext x) t.at)
  obtain ⟨M, hM⟩ : ∃ M, M = L.filter (fun z => decide (z.id = id)) := ⟨_, rfl⟩
  have HM := Lib.hid hM
  have hfind := find_fil id L
  rw [← hM] at hfind
  have HFd := Lib.hid hfind
  clear h hn hF hM hfind
  refine calls_of_marks Try.func21 rfl ?_
  simp only [Try.ntmps21, List.size_toArray, List.length_cons, List.length_nil, Nat.reduceAdd, Nat.reduceSub, Array.replicate_succ, Array.replicate_zero, List.push_toArray, List.append_toArray, List.nil_append, List.cons_append]
  go_wp2_with fail
  refine (HS.out _).mono ?_; rintro e w2 ⟨b1, b2, rfl, ht, x2, k1, k2⟩
  have x02 := ((Ext.alloc w (.cells #[.int .i64 0, .slice none 0 0] 49)).alloc' (.cells #[.bool false] 4)).trans x2
  have g4 := x2.block ((heap_alloc_old _ (.cells #[.bool false] 4) (by simp)).trans (heap_alloc_new w (.cells #[.int .i64 0, .slice none 0 0] 49)))
  have g5 := x2.block (heap_new_at (w.alloc (.cells #[.int .i64 0, .slice none 0 0] 49)) (.cells #[.bool false] 4) (i := w.heap.size + 1) (by simp))
  go_wp2_with fail
  refine (HE.out _ _ _ x02 ht).mono ?_; rintro e w3 ⟨bL, bT, rfl, hI, hT, x3, lL, lT⟩
  replace g4 := x3.block g4
  replace g5 := x3.block g5
  have htk := (ht.k k1 k2).ext x3
  simp only [World.size_alloc] at htk
  have hsz := x2.size
  simp only [World.size_alloc] at hsz
  obtain ⟨G, hG⟩ : ∃ G, G = w.heap.size := ⟨_, rfl⟩
  have hit : ItM w w3 w3 bL bT (G + 1) a n c (witV b1 b2) L (fun z => decide (z.id = id)) := ⟨x02.trans x3, Keep.refl _ _, by omega, hI, HH.out, (fun W k => htk _ _ (by omega) k), by omega, by omega⟩
  have gl4 := heap_lt g4
  have gl5 := heap_lt g5
  clear hI hT x3 lL lT htk ht x2 x02 k1 k2 hsz
  go_wp2_with fail
  have HGw := Lib.hid hG
  rw [← hG] at g4 g5 gl4 gl5 ⊢
  clear hG
  unfold witV eachV
  refine wp_rangeFunc_ret (gf := 53) (lb := #[.pointer (some ⟨bL, 0, none⟩), .pointer (some ⟨bT, 0, none⟩)]) rfl (Go.Proofs.enters_of Try.func53 (by kernel_rfl) rfl)
    (fun x : Ob => .agg (obC x)) (fun k x W0 W1 => M[k]? = some x) M.length (fun k W => k = 0 ∧ W.heap[G]? = some (.cells #[.int .i64 0, .slice none 0 0] 49 (0, 0)) ∧ W.heap[G + 1]? = some (.cells #[.bool false] 4 (0, 0)) ∧ ItM w w3 W bL bT (G + 1) a n c (witV b1 b2) L (fun z => decide (z.id = id)))
    ?ext ?turn (fun W => ∃ y, W.heap[G]? = some (.cells (obC y) 49 (0, 0)) ∧ W.heap[G + 1]? = some (.cells #[.bool true] 4 (0, 0)) ∧ ObjAt W y ∧ sameZ y ((findO id L).getD zeroOb) = true ∧ (findO id L).isSome = true ∧ Ext w W) ?xturn ⟨rfl, g4, g5, hit⟩ ?seq
    (fun k x a' W2 => ∃ q, a' = { tmps := #[.slice a n c, .int .i64 id, undef, undef, .pointer (some ⟨G, 0, none⟩), .pointer (some ⟨G + 1, 0, none⟩), .pointer (some ⟨q, 0, none⟩), .slice a n c, .int .i64 id, .int .i64 id, .func (.func 55) #[] #[.pointer (some ⟨b1, 0, none⟩), .pointer (some ⟨b2, 0, none⟩)], .func (.func 53) #[] #[.pointer (some ⟨bL, 0, none⟩), .pointer (some ⟨bT, 0, none⟩)], .agg (obC x), undef, undef, undef], defers := [] } ∧ W2.heap[q]? = some (.cells (obC x) 49 (0, 0)))
    ?assign ?body ?done ?stop
  case ext => rintro k W W' ⟨e, g, g', hm⟩ x; exact ⟨e, x.block g, x.block g', hm.ext x⟩
  case turn => rintro k W l o o' ⟨e, g, g', hm⟩ hl ho hc; exact ⟨e, row_turn o' g ho hc, row_turn o' g' ho hc, hm.turn o' hl⟩
  case xturn => rintro W l o o' ⟨y, g, g', hy, e, e2, x⟩ hl ho hc; exact ⟨y, row_turn o' g ho hc, row_turn o' g' ho hc, hy.turn o' ho hc, e, e2, ext_turn o' x (by have := hit.x0.size; omega)⟩
  case seq =>
    intro l J Jx W x hJI hJx hY hJ0
    have h1 := each1_any l bL bT a n c L (witV b1 b2) (fun z => decide (z.id = id)) J Jx W (by have := HN.out; omega) (fun k W hJ => (hJI k W hJ).2.2.2.mem) hJx
    rw [← HM.out] at h1
    exact h1 hY hJ0
  case assign =>
    rintro l k ⟨xi, xa, xn, xc, xf⟩ W0 W1 K hI x01 hX hK
    unfold obC at hK ⊢
    gi_wp2_with fail
    exact hK _ _ (Ext.alloc _ _) ⟨_, rfl, heap_alloc_new _ _⟩
  case body =>
    rintro l o' k x a' W0 W1 W2 ⟨rfl, g, g', hm⟩ x01 hX x12 ⟨q, rfl, hq⟩ hwl hlW ⟨r, hlr⟩ hkN
    have hxm : x ∈ L := by have := List.mem_of_getElem? hX; rw [HM.out] at this; exact (List.mem_filter.1 this).1
    have hob := HH.out.each x hxm
    have HA := Lib.hid (fun W' (y : Ext w W') => apart_any x W' (hob.ext y) (HF.out.e x hxm))
    have HFx : Hid (findO id L = some x) := Lib.hid (by rw [HFd.out]; exact hX)
    have gW := row_turn o' ((x01.trans x12).block g) hlr rfl
    have gP := row_turn o' ((x01.trans x12).block g') hlr rfl
    have gQ := row_turn o' hq hlr rfl
    have hm3 := (hm.ext (x01.trans x12)).turn o' hwl
    obtain ⟨W3, hW3⟩ : ∃ W3, W3 = W2.putObj l o' := ⟨_, rfl⟩
    rw [← hW3] at gW gP gQ hm3 ⊢
    have x3 := hm3.x
    have HM3 := Lib.hid (And.intro gW (And.intro gP gQ))
    obtain ⟨xi, xa, xn, xc, xf⟩ := x
    rw [show obC ⟨xi, xa, xn, xc, xf⟩ = #[.int .i64 xi, .slice xa xn xc] from rfl] at gQ HA ⊢
    have d0 := cell_of_heap (j := 0) gQ rfl
    have d1 := cell_of_heap (j := 1) gQ rfl
    have hGw : w.heap.size ≤ G := by rw [HGw.out]; exact Nat.le_refl _
    have l1 := heap_lt gW; have l2 := heap_lt gP; have l3 := heap_lt gQ
    clear hm x01 hX x12 hlr hW3 hlW hxm hob gW gP gQ g g' hq hm3
    gi_wp2_with fail
    refine ⟨trivial, rfl, CallsIn.inRound l (callsIn_wide.2 ((HA.out _ x3).mono ?_))⟩; rintro e w5 ⟨y, rfl, hy, hs, -, hf, x5⟩
    have gW := x5.block HM3.out.1
    have gP := x5.block HM3.out.2.1
    have gQ := x5.block HM3.out.2.2
    have m0 := cell_of_heap (j := 0) gW rfl; have m1 := cell_of_heap (j := 1) gW rfl
    have n0 := frozen_of_row _ _ 0 _ _ gW; have n1 := frozen_of_row _ _ 1 _ _ gW
    have p0 := cell_of_heap (j := 0) gP rfl
    have q0 := frozen_of_row _ _ 0 _ _ gP
    have l1 := heap_lt gW; have l2 := heap_lt gP
    have HY := Lib.hid (And.intro hy (And.intro hs hf))
    have HG := Lib.hid (And.intro gW gP)
    unfold obC
    clear gW gP gQ hy hs hf
    gi_wp2_with fail
    obtain ⟨r1, r2, r3, r4⟩ := rows_set (.int .i64 y.id) (.slice y.a y.n y.c) (.bool true) HG.out.1 HG.out.2
    refine ⟨fun b o _ ho hc => r3 b o (x5.block ho) hc, y, r1, r2, ?_, by rw [HFx.out]; exact HY.out.2.1, by rw [HFx.out]; rfl, r4 w (x3.trans x5) hGw⟩
    have hb : ∀ p, y.a = some p → G + 1 < p.block := fun p hp => by have := HY.out.2.2 p hp; omega
    exact ((HY.out.1.set (fun p hp => by have := hb p hp; simp; omega)).set (fun p hp => by have := hb p hp; simp; omega)).set (fun p hp => by have := hb p hp; simp; omega)
  case stop =>
    rintro D W hD ⟨y, g, g', hy, e, e2, x⟩ hK
    have HX := Lib.hid (ext_turn (.deferred none) x (show w.heap.size ≤ D by have := hit.x0.size; omega))
    have HG1 := Lib.hid (row_turn (.deferred none) g hK rfl)
    have HG2 := Lib.hid (row_turn (.deferred none) g' hK rfl)
    have HY := Lib.hid (hy.turn (.deferred none) hK rfl)
    refine ⟨by simp, .inl ⟨_, _, rfl, run_takeDeferred hK, ?_⟩⟩
    exact ⟨_, results_row_one rfl _ _ G (G + 1) 49 _ (0, 0) _ _ _ rfl HG1.out Try.underlying49 rfl (by kernel_rfl) rfl (cell_of_heap (j := 0) HG2.out rfl) Try.underlying4 rfl, y, by rw [e2]; rfl, HY.out, e, HX.out⟩
  case done =>
    rintro D W hD ⟨e, g, g', hm⟩ hK
    have HFx : Hid (findO id L = none) := Lib.hid (by rw [HFd.out, List.eq_nil_of_length_eq_zero e]; rfl)
    have x3 := hm.x
    have m0 := cell_of_heap (j := 0) g rfl; have m1 := cell_of_heap (j := 1) g rfl
    have n0 := frozen_of_row _ _ 0 _ _ g; have n1 := frozen_of_row _ _ 1 _ _ g
    have p0 := cell_of_heap (j := 0) g' rfl
    have q0 := frozen_of_row _ _ 0 _ _ g'
    have l1 := heap_lt g; have l2 := heap_lt g'
    have hGw : w.heap.size ≤ G := by rw [HGw.out]; exact Nat.le_refl _
    have HG := Lib.hid (And.intro g g')
    have HK := Lib.hid hK
    clear hm hit e g g' hK
    go_wp2_with fail
    obtain ⟨r1, r2, r3, r4⟩ := rows_set (.int .i64 0) (.slice none 0 0) (.bool false) HG.out.1 HG.out.2
    have hK2 := r3 D _ HK.out rfl
    have gF := row_turn (.deferred none) r1 hK2 rfl
    have gF2 := row_turn (.deferred none) r2 hK2 rfl
    have xF := ext_turn (.deferred none) (r4 w x3 hGw) (show w.heap.size ≤ D by omega)
    refine ⟨by simp, .inl ⟨_, _, rfl, run_takeDeferred hK2, ?_⟩⟩
    exact ⟨_, results_row_one rfl _ _ G (G + 1) 49 _ (0, 0) _ _ _ rfl gF Try.underlying49 rfl (by kernel_rfl) rfl (cell_of_heap (j := 0) gF2 rfl) Try.underlying4 rfl, zeroOb, by rw [HFx.out]; rfl, zeroOb_at _, by rw [HFx.out]; exact sameZ_refl _, xF⟩
end Go.Proofs.Ythdkhdbabohohaa
