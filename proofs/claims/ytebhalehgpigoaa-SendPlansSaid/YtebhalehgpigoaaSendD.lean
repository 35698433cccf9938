/-
  CONTRACTS: package send (layer 25): Plan; 'sendC : SendC': package send whole.
-/
import Derived.Test.YtebhalehgpigoaaSendB
namespace Go.Proofs.Ytebhalehgpigoaa
open Go.RowKit
set_option linter.unusedVariables false
set_option maxRecDepth 100000
attribute [local go_sem] Oper.semAt_some

set_option maxHeartbeats 4000000 in
theorem plan_no (a : Option Addr) (n cp : Nat) (f : Nat → Int) (T c s l u : Int) (w : World) (hn : n ≤ 1000000) (h : ¬ PlanOk c s l u T n) :
    Calls Try.prog 6 #[.slice a n cp, .int .i64 T, timesC c s l u] w fun e w' => e = .returned (.slice none 0 0) ∧ Ext w w' := by
  have hr := fun w => kright0 c s l u w
  have hm := fun w => kmay T w
  unfold timesC
  have H := plan_not h
  clear h
  rcases H with h1 | ⟨h1, h2⟩ | ⟨h1, h2, h3⟩ | ⟨h1, h2, h3, h4⟩
  · rw [h1] at hr
    clear h1
    go_enter Try.func6, Try.ntmps6
    go_wp2_with fail
    refine (hr _).mono ?_; rintro e w1 ⟨rfl, x1⟩
    go_wp2
    go_ret
    exact ⟨rfl, (Ext.alloc _ _).trans x1⟩
  · rw [h1] at hr
    rw [show (clampI T == T) = false by rw [clampI_neg h2]; simp; omega] at hm
    clear h1 h2
    go_enter Try.func6, Try.ntmps6
    go_wp2_with fail
    refine (hr _).mono ?_; rintro e w1 ⟨rfl, x1⟩
    go_wp2_with fail
    refine (hm _).mono ?_; rintro e w2 ⟨rfl, rfl⟩
    go_wp2
    go_ret
    exact ⟨rfl, (Ext.alloc _ _).trans x1⟩
  · rw [h1] at hr
    rw [show (clampI T == T) = false by have := clampI_hi T; simp; omega] at hm
    clear h1 h2 h3
    go_enter Try.func6, Try.ntmps6
    go_wp2_with fail
    refine (hr _).mono ?_; rintro e w1 ⟨rfl, x1⟩
    go_wp2_with fail
    refine (hm _).mono ?_; rintro e w2 ⟨rfl, rfl⟩
    go_wp2
    go_ret
    exact ⟨rfl, (Ext.alloc _ _).trans x1⟩
  · rw [h1] at hr
    rw [show (clampI T == T) = true by rw [clampI_in (by omega) (by omega)]; simp] at hm
    have h5 : (256 : Int) < (n : Int) := by omega
    clear h1 h2 h3 h4
    go_enter Try.func6, Try.ntmps6
    go_wp2_with fail
    refine (hr _).mono ?_; rintro e w1 ⟨rfl, x1⟩
    go_wp2_with fail
    refine (hm _).mono ?_; rintro e w2 ⟨rfl, rfl⟩
    go_wp2
    go_ret
    exact ⟨rfl, (Ext.alloc _ _).trans x1⟩
theorem plan_step {T c s l u : Int} {n k : Nat} (h : PlanOk c s l u T n) (hk : k < n) : addI (addI T (u + k * c)) c = addI T (u + (k + 1 : Nat) * c) := by
  have hp := (rightB_iff c s l u).1 h.1
  have h2 := h.2.1; have h3 := h.2.2
  have h0 : 0 ≤ (k : Int) * c ∧ (k : Int) * c ≤ 256 * 16777216 := ⟨Int.mul_nonneg (by omega) (by omega), Int.mul_le_mul (by omega) (by omega) (by omega) (by omega)⟩
  have h1 : ((k + 1 : Nat) : Int) * c = (k : Int) * c + c := by rw [Int.natCast_add, Int.add_mul]; simp
  rw [addI_min (addI T (u + k * c)) c, clamp_add, addI_min, addI_min, clampI_in h2.1 h2.2, h1]
  generalize (k : Int) * c = K at h0 ⊢
  rw [clampI_in (z := u + K) (by omega) (by omega), clampI_in (z := u + (K + c)) (by omega) (by omega), clampI_in (z := c) (by omega) (by omega)]
  omega
theorem ext_turn25 {w W : World} {l : Nat} (o' : Obj) (x : Ext w W) (hl : w.heap.size ≤ l) : Ext w (W.putObj l o') :=
  ⟨x.os, x.tape, x.output, by rw [World.putObj_size]; exact x.size, fun q hq => (World.putObj_heap_other (by omega)).trans (Below.block x q hq)⟩
/-- What is held while the range goes on: the row so far in its box, the next time. -/
structure PlI (w0 W : World) (R B7 G n : Nat) (T c u : Int) (f : Nat → Int) (k j : Nat) : Prop where
  own : W.ownsRow R 39 2 (.slice (some ⟨R, 0, none⟩) k n) k ((planL T c u f k).flatMap outC)
  box : W.heap[B7]? = some (.cells #[.slice (some ⟨R, 0, none⟩) k n] 26 (0, 0))
  at_ : W.heap[G]? = some (.cells #[.int .i64 (addI T (u + j * c))] 3 (0, 0))
  keep : Keep (fun i => i = G ∨ i = B7 ∨ i = R) w0 W
section
variable {w0 W W' : World} {R B7 G n k j : Nat} {T c u : Int} {f : Nat → Int}
theorem PlI.ext (h : PlI w0 W R B7 G n T c u f k j) (x : Ext W W') : PlI w0 W' R B7 G n T c u f k j := ⟨own_ext h.own x, x.block h.box, x.block h.at_, h.keep.trans_ext x⟩
theorem PlI.turn (h : PlI w0 W R B7 G n T c u f k j) (hR : R < w0.heap.size) (hB : B7 < w0.heap.size) (hG : G < w0.heap.size) {l : Nat} (o' : Obj) (hl : w0.heap.size ≤ l) : PlI w0 (W.putObj l o') R B7 G n T c u f k j :=
  ⟨own_same h.own fun g hg => World.putObj_heap_other (by have e : R = g := (by simpa [Value.ownBlock] using hg); omega), (World.putObj_heap_other (by omega)).trans h.box, (World.putObj_heap_other (by omega)).trans h.at_,
    ⟨h.keep.os, h.keep.tape, h.keep.output, by rw [World.putObj_size]; exact h.keep.size, fun q hq hn => (World.putObj_heap_other (by omega)).trans (h.keep.block q hq hn)⟩⟩
theorem PlI.next (h : PlI w0 W R B7 G n T c u f k j) (hR : R ≠ G) (hB : B7 ≠ G) (x : Keep (· = G) W W') (hg : W'.heap[G]? = some (.cells #[.int .i64 (addI T (u + (j + 1 : Nat) * c))] 3 (0, 0))) : PlI w0 W' R B7 G n T c u f k (j + 1) :=
  ⟨own_same h.own fun g hgo => x.block g (h.own.lt g hgo).2 (fun e => by have e2 : R = g := (by simpa [Value.ownBlock] using hgo); have e : g = G := e; omega), (x.block B7 (heap_lt h.box) (fun e => hB e)).trans h.box, hg, h.keep.trans x (fun i hi => .inl (.inl hi))⟩
theorem lies_keep {G : Nat} {cs : Array Value} {t : TypeId} {fr : Nat × Nat} (x : Keep (· = G) W W') (hg : W.heap[G]? = some (.cells cs t fr)) : Lies W W' := fun b o hb ho => (x.block b (heap_lt hb) (fun e => by have e : b = G := e; subst e; rw [hg] at hb; cases hb; cases ho)).trans hb
theorem PlI.emit {w5 : World} {e : Int × Int} (h : PlI w0 W R B7 G n T c u f k (k + 1)) (he : (addI T (u + k * c), f k) = e) (hRB : R ≠ B7) (hRG : R ≠ G) (hBG : B7 ≠ G)
    (hown : w5.ownsRow R 39 2 (.slice (some ⟨R, 0, none⟩) (k + 1) n) (k + 1) ((planL T c u f k).flatMap outC ++ outC e)) (hgr : W.grownBy w5 (some R)) :
    PlI w0 (w5.setCell ⟨B7, 0, none⟩ (.slice (some ⟨R, 0, none⟩) (k + 1) n)) R B7 G n T c u f (k + 1) (k + 1) ∧ (∀ (b : Nat) (o : Obj), W.heap[b]? = some o → o.isCells = false → (w5.setCell ⟨B7, 0, none⟩ (.slice (some ⟨R, 0, none⟩) (k + 1) n)).heap[b]? = some o) := by
  have hset : ∀ q, q ≠ B7 → (w5.setCell ⟨B7, 0, none⟩ (.slice (some ⟨R, 0, none⟩) (k + 1) n)).heap[q]? = w5.heap[q]? := fun q hq => heap_setCell_other _ _ _ _ (by simpa using hq)
  have hk : Keep (fun i => i = R) W w5 := ⟨hgr.os, hgr.tape, hgr.output, hgr.size, fun q hq hn => hgr.block q hq (fun e => hn (Option.some.inj e))⟩
  have hRW : ∃ cs, W.heap[R]? = some (.cells cs 39 (0, 0)) := by
    rcases h.own.2 with ⟨hv, _⟩ | ⟨g, cap, cur, hv, hg, hh, _⟩
    · cases hv
    · injection hv with e1 _ _; injection e1 with e1; injection e1 with e1; subst e1; exact ⟨cur, hh⟩
  refine ⟨⟨?_, heap_setCell_same _ _ _ _ _ _ ((hk.block B7 (heap_lt h.box) (fun e => hRB e.symm)).trans h.box), ?_, ?_⟩, fun b o ho hc => ?_⟩
  · have e1 : (planL T c u f (k + 1)).flatMap outC = (planL T c u f k).flatMap outC ++ outC e := by rw [planL_succ, List.flatMap_append, he]; simp
    rw [e1]
    exact own_same hown fun g hg => hset g (by have e' : R = g := (by simpa [Value.ownBlock] using hg); omega)
  · exact (hset G (fun e => hBG e.symm)).trans ((hk.block G (heap_lt h.at_) (fun e => hRG e.symm)).trans h.at_)
  · exact (h.keep.trans hk (fun i hi => .inl (.inr (.inr hi)))).trans (keepCellM w5 B7 0 _) (fun i hi => .inl (.inr (.inl hi)))
  · have h1 : b ≠ B7 := fun e => by subst e; rw [h.box] at ho; cases ho; cases hc
    have h2 : b ≠ R := fun e => by subst e; obtain ⟨cs, hR⟩ := hRW; rw [hR] at ho; cases ho; cases hc
    exact (hset b h1).trans ((hk.block b (heap_lt ho) h2).trans ho)
end
set_option maxHeartbeats 8000000 in
theorem plan_yes (a : Option Addr) (n cp : Nat) (f : Nat → Int) (T c s l u : Int) (w : World) (ha : Holds .u8 w a n f) (h : PlanOk c s l u T n) (hc : (Lit.int .i64 c).wf = true) (hT : (Lit.int .i64 T).wf = true) (hu : (Lit.int .i64 u).wf = true) :
    Calls Try.prog 6 #[.slice a n cp, .int .i64 T, timesC c s l u] w (OutP (planL T c u f n) w) := by
  obtain ⟨iO, hiO, hzO0, hzO1, hzO2⟩ := info_parts Try.infoOut
  have hr := fun w => kright0 c s l u w
  rw [h.1] at hr
  have hm := fun w => kmay T w
  have h2 := h.2.1
  have h3 := h.2.2
  rw [show (clampI T == T) = true by rw [clampI_in (by omega) (by omega)]; simp] at hm
  have m4 : ¬ (256 : Int) < (n : Int) := by omega
  have HA := Lib.hid ha
  have HN := Lib.hid h3
  have HS := Lib.hid (fun k (hk : k < n) => plan_step h hk)
  have HAd := Lib.hid (fun w => kadd_any T u w hT hu)
  have HGo := Lib.hid (fun w => going_new (addI T u) c w)
  have HSe := Lib.hid (fun G S w => sent_new a n cp G S w)
  have HC := Lib.hid hc
  unfold timesC
  unfold goV at HGo
  unfold goV sentV at HSe
  clear ha h h2 h3 hc hT hu
  refine calls_of_marks Try.func6 rfl ?_
  simp only [Try.ntmps6, List.size_toArray, List.length_cons, List.length_nil, Nat.reduceAdd, Nat.reduceSub, Array.replicate_succ, Array.replicate_zero, List.push_toArray, List.append_toArray, List.nil_append, List.cons_append]
  go_wp2_with fail
  refine (hr _).mono ?_; rintro e w1 ⟨rfl, x1⟩
  have T0 := Lib.hid (fun w' (x : Ext w1 w') => (TimAt.made w c s l u).ext (x1.trans x))
  have HX := Lib.hid ((Ext.alloc w (.cells #[.int .i64 c, .int .i64 s, .int .i64 l, .int .i64 u] 24)).trans x1)
  clear hr x1
  go_wp2_with fail
  refine (hm _).mono ?_; rintro e w2 ⟨rfl, rfl⟩
  clear hm
  go_wp2_with (at_make; refine wpList_make_own _ rfl _ _ 26 rfl w1.heap.size 39 iO _ 2 Try.underlying26 hiO hzO0 hzO1 .i64 .i64 n n rfl rfl rfl (by rw [hzO2]; have := HN.out; omega) (by unfold maxLen; have := HN.out; omega) (Nat.le_refl _) ?_; intro w2 hown2 hgrow2)
  have x12 : Ext w1 w2 := (Below.refl _ _).grown hgrow2 (Nat.le_refl _) (fun k hk => by cases hk)
  obtain ⟨wq, hwq⟩ : ∃ wq, wq = w2.alloc (.cells #[.slice (some ⟨w1.heap.size, 0, none⟩) 0 n] 26) := ⟨_, rfl⟩
  have g7 : wq.heap[w2.heap.size]? = some (.cells #[.slice (some ⟨w1.heap.size, 0, none⟩) 0 n] 26 (0, 0)) := by rw [hwq]; exact heap_alloc_new _ _
  have xq : Ext w2 wq := by rw [hwq]; exact Ext.alloc _ _
  have hR : w1.heap.size < w2.heap.size := (hown2.lt _ rfl).2
  rw [← hwq]
  have HQ := Lib.hid (And.intro hown2 (And.intro x12 (And.intro xq g7)))
  have HS4 := Lib.hid (fun w' (x : Ext wq w') =>
    have t := T0.out w' (x12.trans (xq.trans x))
    And.intro t.c0 (And.intro t.c1 (And.intro t.c2 (And.intro t.c3 x))))
  have z9 : Ext wq wq.drew := Ext.drew _
  obtain ⟨r0, r1, r2, r3, -⟩ := HS4.out wq.drew z9
  have HR := Lib.hid hR
  clear hwq g7 hown2 hgrow2 hR
  go_region_held3 (fun w' => w'.cell? ⟨w.heap.size, 0, none⟩ = some (.int .i64 c) ∧ w'.cell? ⟨w.heap.size, 1, none⟩ = some (.int .i64 s) ∧ w'.cell? ⟨w.heap.size, 2, none⟩ = some (.int .i64 l) ∧ w'.cell? ⟨w.heap.size, 3, none⟩ = some (.int .i64 u) ∧ Ext wq w')
    ((first | exact HS4.out _ z9 | exact HS4.out _ (z9.trans xa) | exact HS4.out _ (z9.trans (xa.trans xb)) | exact HS4.out _ (z9.trans (xa.trans (xb.trans xc)))))
    (first
      | (go_at_call 22; refine (HAd.out _).mono ?_; rintro e wa ⟨rfl, xa⟩)
      | (go_at_call 21; refine (HGo.out _).mono ?_; rintro e wb ⟨G, S, rfl, gG, gS, hGS, lG, lS, xb⟩)
      | (go_at_call 20; refine (HSe.out _ _ _).mono ?_; rintro e wc ⟨bL, bN, rfl, cL, cN, lL, lN, xc⟩))
  rename_i hHeld
  clear hHeld r0 r1 r2 r3
  have hx : Ext wq wc := z9.trans (xa.trans (xb.trans xc))
  have lq := hx.size
  have h7 := heap_lt HQ.out.2.2.2
  have sa := xa.size; have sb := xb.size; have sd : wq.drew.heap.size = wq.heap.size := rfl
  have lw := HX.out.size; have l12 := x12.size; have l2q := xq.size
  have p1 := heap_lt gG; have p2 := heap_lt gS
  have p3 := World.block_lt_of_cell? _ _ cL; have p4 := World.block_lt_of_cell? _ _ cN
  have hw : Hid (Ext w wc) := Lib.hid (HX.out.trans (x12.trans (xq.trans hx)))
  obtain ⟨R, hR⟩ : ∃ R, R = w1.heap.size := ⟨_, rfl⟩
  obtain ⟨B7, hB7⟩ : ∃ B7, B7 = w2.heap.size := ⟨_, rfl⟩
  have hRlt : R < B7 := by rw [hR, hB7]; exact HR.out
  have hst : PlI wc wc R B7 G n T c u f 0 0 := by
    refine ⟨?_, ?_, ?_, Keep.refl _ _⟩
    · rw [hR]; exact own_ext HQ.out.1 (xq.trans hx)
    · rw [hR, hB7]; exact hx.block HQ.out.2.2.2
    · have e : u + ((0 : Nat) : Int) * c = u := by simp
      rw [e]; exact xc.block gG
  have cS := cell_of_heap (j := 0) (xc.block gS) rfl
  have nu : R ≠ G ∧ B7 ≠ G ∧ R ≠ B7 ∧ w.heap.size ≤ R ∧ w.heap.size ≤ G ∧ w.heap.size ≤ B7 ∧ R < wc.heap.size ∧ B7 < wc.heap.size ∧ G < wc.heap.size ∧ S ≠ B7 ∧ S ≠ R ∧ bL ≠ G ∧ bL ≠ B7 ∧ bL ≠ R ∧ bN ≠ G ∧ bN ≠ B7 ∧ bN ≠ R := by
    have := xc.size
    refine ⟨?_, ?_, ?_, ?_, ?_, ?_, ?_, ?_, ?_, ?_, ?_, ?_, ?_, ?_, ?_, ?_, ?_⟩ <;> omega
  have HNu := Lib.hid nu
  rw [← hR, ← hB7]
  have HG := Lib.hid hGS
  have HL := Lib.hid (And.intro cL (And.intro cN cS))
  clear gG gS lG lS lL lN sa sb sd lw l12 l2q p1 p2 p3 p4 lq h7 nu hRlt cL cN cS hx xa xb xc hR hB7 hGS x12 xq z9
  go_wp2_with fail
  refine wp_rangeFunc_at (gf := 29) (lb := #[.pointer (some ⟨bL, 0, none⟩), .pointer (some ⟨bN, 0, none⟩)]) rfl (Go.Proofs.enters_of Try.func29 (by kernel_rfl) rfl)
    (fun x : Int × Int => #[.int .i64 x.1, .int .u8 x.2]) (fun _ => rfl) (fun k x W => x = (addI T (u + (k : Nat) * c), f k) ∧ PlI wc W R B7 G n T c u f k (k + 1)) n (fun k W => PlI wc W R B7 G n T c u f k k)
    ?ext ?turn hst ?seq
    (fun k x a' W2 => a' = { tmps := #[.slice a n cp, .int .i64 T, .agg #[.int .i64 c, .int .i64 s, .int .i64 l, .int .i64 u], undef, undef, .pointer (some ⟨w.heap.size, 0, none⟩), .slice none 0 0,
          .pointer (some ⟨B7, 0, none⟩), .int .i64 x.1, .int .u8 x.2, .agg #[.int .i64 c, .int .i64 s, .int .i64 l, .int .i64 u],
          .bool true, .bool false, .bool false, .int .i64 T, .bool true,
          .bool false, .bool false, .bool false, .slice a n cp, .int .i64 n,
          .bool (decide ((256 : Int) < (n : Int))), .bool (decide ((256 : Int) < (n : Int))), .slice a n cp, .int .i64 n,
          .slice (some ⟨R, 0, none⟩) 0 n, .slice a n cp, .int .i64 T,
          .pointer (some ⟨w.heap.size, 3, none⟩), .int .i64 u,
          .int .i64 (addI T u), .pointer (some ⟨w.heap.size, 0, none⟩),
          .int .i64 c, .func (.func 30) #[] #[.pointer (some ⟨G, 0, none⟩), .pointer (some ⟨S, 0, none⟩)],
          .func (.func 29) #[] #[.pointer (some ⟨bL, 0, none⟩), .pointer (some ⟨bN, 0, none⟩)],
          .int .i64 x.1, .int .u8 x.2, undef, undef, undef, undef, undef, undef, undef], defers := [] })
    ?assign ?body ?done
  case ext => exact fun k W W' h x => h.ext x
  case turn => exact fun k W l o o' h hl ho hc => h.turn HNu.out.2.2.2.2.2.2.1 HNu.out.2.2.2.2.2.2.2.1 HNu.out.2.2.2.2.2.2.2.2.1 o' hl
  case seq =>
    intro l0 J W x hJI hJx hY hJ0
    refine sent1_any l0 bL bN G S a n cp f (fun k => addI T (u + (k : Nat) * c)) c HG.out (by have := HN.out; omega) (fun k => wf_add _ _) HC.out HS.out J W (fun k W hJ => ?_) (fun k W0 W1 hJ kp hg hk => ?_) hJ0
    · have hi := hJI k W hJ
      obtain ⟨n1, n2, n3, n4, n5, n6, n7, n8, n9, n10, n11, n12, n13, n14, n15, n16, n17⟩ := HNu.out
      have hS := HG.out
      exact ⟨hi.keep.cell (by omega) HL.out.1, hi.keep.cell (by omega) HL.out.2.1, hi.keep.cell (by omega) HL.out.2.2, hi.at_, HA.out.ext (hw.out.keep hi.keep (fun i hi => by omega))⟩
    · have hi := hJI k W0 hJ
      exact hY k (_, f k) W0 W1 hJ (lies_keep kp hi.at_) ⟨rfl, hi.next HNu.out.1 HNu.out.2.1 kp hg⟩ hk
  case assign =>
    rintro l0 k ⟨x1, x2⟩ W1 K hM hK
    gi_wp2_with fail
    exact hK _ _ (Ext.refl _) (by simp)
  case body =>
    rintro l0 o' k ⟨x1, x2⟩ a' W1 W2 ⟨hx, hm⟩ x12 rfl hwl hlW hlr hkN
    have hm3 := (hm.ext x12).turn HNu.out.2.2.2.2.2.2.1 HNu.out.2.2.2.2.2.2.2.1 HNu.out.2.2.2.2.2.2.2.2.1 o' hwl
    obtain ⟨W3, hW3⟩ : ∃ W3, W3 = W2.putObj l0 o' := ⟨_, rfl⟩
    rw [← hW3] at hm3 ⊢
    have xl := Ext.alloc W3 (.cells #[.int .i64 x1, .int .u8 x2] 39)
    have hm4 := Lib.hid (hm3.ext xl)
    have c0 := cell_of_heap (j := 0) hm3.box rfl
    have l7 := heap_lt hm3.box
    have HX1 := Lib.hid hx
    have HX3 := Lib.hid xl
    clear hm hm3 x12 hlr hlW hW3 hx xl
    gi_wp2_with (gi_at_builtin; refine wpListIn_append_fits _ rfl _ _ 26 rfl R 39 iO 2 Try.underlying26 hiO hzO1 R k n _ rfl hm4.out.own ⟨W3.heap.size, 0, none⟩ 1 1 (outC (x1, x2)) rfl rfl (fun j v hv => ?_) (outC_one _) (by omega) ?_)
    · rw [Addr.add_lit, Nat.zero_add]
      unfold outC at hv
      match j, hv with
      | 0, hv => cases hv; exact cell_of_heap (j := 0) (heap_alloc_new W3 _) rfl
      | 1, hv => cases hv; exact cell_of_heap (j := 1) (heap_alloc_new W3 _) rfl
      | (j + 2), hv => cases hv
    · intro w5 hown5 hgr5
      have e5 := hm4.out.emit (Prod.ext (by have := congrArg Prod.fst HX1.out; exact this.symm) (by have := congrArg Prod.snd HX1.out; exact this.symm)) HNu.out.2.2.1 HNu.out.1 HNu.out.2.1 hown5 hgr5
      have k5 : Keep (fun i => i = R) (W3.alloc (.cells #[.int .i64 x1, .int .u8 x2] 39)) w5 := ⟨hgr5.os, hgr5.tape, hgr5.output, hgr5.size, fun q hq hn => hgr5.block q hq (fun e => hn (Option.some.inj e))⟩
      have g5 := (k5.block B7 (heap_lt hm4.out.box) (fun e => HNu.out.2.2.1 e.symm)).trans hm4.out.box
      have d0 := cell_of_heap (j := 0) g5 rfl
      have f0 := frozen_of_row _ _ 0 _ _ g5
      have HE := Lib.hid e5
      have HKx := Lib.hid (Lies.of_ext HX3.out)
      clear e5 k5 g5 hown5 hgr5 c0
      gi_wp2_with fail
      exact ⟨fun b o _ ho hc => HE.out.2 b o (HKx.out b o ho hc) hc, HE.out.1⟩
  case done =>
    rintro D W hD hi hK
    have c0 := cell_of_heap (j := 0) hi.box rfl
    have HF := Lib.hid (And.intro (HoldsL.of_own outC_length (hi.turn HNu.out.2.2.2.2.2.2.1 HNu.out.2.2.2.2.2.2.2.1 HNu.out.2.2.2.2.2.2.2.2.1 (.deferred none) hD).own (planL_length _ _ _ _ _).symm) (ext_turn25 (.deferred none) (hw.out.keep hi.keep (fun i hi => by have := HNu.out; omega)) (show w.heap.size ≤ D by have := hw.out.size; omega)))
    clear hi
    go_wp2_with fail
    refine ⟨by simp, .inl ⟨_, _, rfl, run_takeDeferred hK, ?_⟩⟩
    obtain ⟨⟨z, x, hv, q1, q2, q3, -⟩, q4⟩ := HF.out
    refine ⟨_, results_tmp rfl _ _ _, z, x, ?_, ?_, ?_, ?_, ?_⟩
    · rw [planL_length, ← hv]; rfl
    · rw [planL_length]; exact q1
    · exact q2
    · exact q3
    · exact q4
theorem plan_any (a : Option Addr) (n cp : Nat) (f : Nat → Int) (T c s l u : Int) (w : World) (ha : Holds .u8 w a n f) (hn : n ≤ 1000000) (hT : (Lit.int .i64 T).wf = true) (hc : (Lit.int .i64 c).wf = true) (hu : (Lit.int .i64 u).wf = true) :
    Calls Try.prog 6 #[.slice a n cp, .int .i64 T, timesC c s l u] w (OutP (planO c s l u T f n) w) := by
  unfold planO
  by_cases h : PlanOk c s l u T n
  · rw [if_pos h]; exact plan_yes a n cp f T c s l u w ha h hc hT hu
  · rw [if_neg h]; exact (plan_no a n cp f T c s l u w hn h).mono fun e w' ⟨he, x⟩ => he ▸ OutP.zero x
/-- PACKAGE send, whole. -/
theorem sendC : SendC where
  plan a n cp f T c s l u w ha hn _ _ _ hT hc _ _ hu := plan_any a n cp f T c s l u w ha hn hT hc hu
  hear a n cp L c s l u w ha hL hn _ _ hW hc _ _ _ := send_hear a n cp L c s l u w ha hL hn hW hc
  end_ a n cp L c s l u w ha hL hn _ _ hW hc _ _ _ := send_end a n cp L c s l u w ha hL hn hW hc
  bytes a n cp L w ha hL hn _ _ _ := send_bytes a n cp L w ha hL hn
end Go.Proofs.Ytebhalehgpigoaa
