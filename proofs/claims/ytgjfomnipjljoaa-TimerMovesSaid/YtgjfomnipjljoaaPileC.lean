/-
  PILES: Push, Pop.
-/
import Derived.Test.YtgjfomnipjljoaaPileA
import Derived.Deep.RegionLaw
import Derived.Deep.AppendLies
import Derived.RegionCalls
namespace Go.Proofs.Ytgjfomnipjljoaa
open Go.RowKit Go.MapKept
open Go.ChangeMaps (setBlock)

theorem setBlock_far {w : World} {M k : Nat} (o : Obj) (h : k ≠ M) : (setBlock w M o).heap[k]? = w.heap[k]? := Array.getElem?_setIfInBounds_ne (Ne.symm h)
theorem setBlock_at {w : World} {M : Nat} (o : Obj) (h : M < w.heap.size) : (setBlock w M o).heap[M]? = some o := Array.getElem?_setIfInBounds_self_of_lt h
theorem Try.infoDue : (Try.prog.info? 64).map (fun i => (i.zero, i.size, i.bytes)) = some (some (.agg #[.int .i64 0, .int .i64 0]), 2, 16) := by kernel_rfl
theorem assert_due (w : World) (v : Value) : (Instr.typeAssert (.iface 64 v) 20 64 false).run Try.prog w = .ok v w := by
  simp [Instr.typeAssert, run_underlying Try.underlying64, go_sem, Result.andThen]
/-- 'delete(m, k)' at a step of a region that draws. -/
theorem step_delete {P : Program} {ops : Array Oper} {o : Oper} {a : Act} {w w' : World} {K : Act → World → Prop} {Q : Exit → Act → World → Prop} {E : Prop} (hgd : o.guard = none) (m x : Operand) (t k : TypeId)
    (ho : o.op = .call { callee := .builtin .delete, args := #[m, x], argTypes := #[t, k] }) {u v : Value} (hm : a.eval m = u) (hx : a.eval x = v)
    (hrun : (Builtin.delete_ #[t, k] o.type #[u, v]).run P w = .ok (.tuple #[]) w') (hK : K (a.put o.dst (.tuple #[])) w') :
    if Region.wanted o (yielded ops a.tmps) = true then Oper.wp P o a w K Q else E := by
  have hw : Region.wanted o (yielded ops a.tmps) = true := by simp [Region.wanted, hgd]
  rw [if_pos hw]
  unfold Oper.wp
  simp [execOp, ho, resolve, invoke, builtin, hm, hx, hrun, Result.andThen]
  exact hK
theorem once_upd {a : Nat → Int × Int} {n : Nat} {x : Int × Int} (o : Once a n) (h : ∀ k, k < n → (a k).1 ≠ x.1) : Once (upd a n x) (n + 1) := by
  intro i j hi hj e
  by_cases e1 : i = n
  · by_cases e2 : j = n
    · omega
    · rw [e1, upd_same, upd_other _ _ _ _ e2] at e; exact absurd e.symm (h j (by omega))
  · by_cases e2 : j = n
    · rw [e2, upd_same, upd_other _ _ _ _ e1] at e; exact absurd e (h i (by omega))
    · rw [upd_other _ _ _ _ e1, upd_other _ _ _ _ e2] at e; exact o i j (by omega) (by omega) e
theorem plc_upd {a : Nat → Int × Int} {n : Nat} {x : Int × Int} (o : Once a n) (h : ∀ k, k < n → (a k).1 ≠ x.1) (q : Int) : updO (plc a n) x.1 (some (n : Int)) q = plc (upd a n x) (n + 1) q := by
  have o2 := once_upd o h
  by_cases e : q = x.1
  · rw [e, updO_same]; exact (plc_some o2 (Nat.lt_succ_self n) (by rw [upd_same])).symm
  · rw [updO_other _ _ e]
    rcases plc_cases a n q o with ⟨h1, hno⟩ | ⟨k, hk, h1, hp⟩
    · rw [h1]
      refine (plc_none fun k hk e2 => ?_).symm
      by_cases e3 : k = n
      · rw [e3, upd_same] at e2; exact e e2.symm
      · rw [upd_other _ _ _ _ e3] at e2; exact hno k (by omega) e2
    · rw [hp]; exact (plc_some o2 (by omega) (by rw [upd_other _ _ _ _ (by omega)]; exact h1)).symm
theorem plc_less {a : Nat → Int × Int} {n : Nat} (o : Once a (n + 1)) (q : Int) : updO (plc a (n + 1)) (a n).1 none q = plc a n q := by
  have o2 : Once a n := fun i j hi hj => o i j (by omega) (by omega)
  by_cases e : q = (a n).1
  · rw [e, updO_same]
    exact (plc_none fun k hk e2 => by have := o k n (by omega) (by omega) e2; omega).symm
  · rw [updO_other _ _ e]
    rcases plc_cases a (n + 1) q o with ⟨h1, hno⟩ | ⟨k, hk, h1, hp⟩
    · rw [h1]; exact (plc_none fun k hk => hno k (by omega)).symm
    · rw [hp]
      have : k ≠ n := fun e2 => e (by rw [← h1, e2])
      exact (plc_some o2 (by omega) h1).symm
set_option maxHeartbeats 4000000 in
theorem ppush_any (p pb : Nat) (F : Nat → Prop) (w : World) (a : Nat → Int × Int) (n : Nat) (x : Int × Int) (h : Pile p pb F w a n) (hn : n < 256) (hx : WfP x) (hno : ∀ k, k < n → (a k).1 ≠ x.1) :
    Calls Try.prog 53 #[.pointer (some ⟨pb, 0, none⟩), enc2 x] w fun e w' => e = .returned (.tuple #[]) ∧ ∃ G b, Keep F w w' ∧ Grows F G w ∧ Pile p pb G w' b (n + 1) ∧ (∀ k, k < n → b k = a k) ∧ b n = x := by
  obtain ⟨v, M, h⟩ := h
  obtain ⟨A, c0, hv, _, _⟩ := h.form0
  obtain ⟨i0, hi0, hz0, hz1, hz2⟩ := info_parts Try.infoDue
  -- behind the first statement
  obtain ⟨T, hT⟩ : ∃ T, T = w.heap.size := ⟨_, rfl⟩
  obtain ⟨w1, hw1⟩ : ∃ w1, w1 = w.alloc (.cells #[.int .i64 x.1, .int .i64 x.2] 64) := ⟨_, rfl⟩
  have x1 : Ext w w1 := by rw [hw1]; exact Ext.alloc _ _
  have t1 : w1.heap[T]? = some (.cells #[.int .i64 x.1, .int .i64 x.2] 64 (0, 0)) := by rw [hw1, hT]; exact heap_alloc_new _ _
  have h1 := h.ext x1
  -- behind the store into the map
  obtain ⟨o, hput, htab⟩ := (h1.tab.of_block (w' := w1.drew) rfl).put Try.underlying52 Try.underlying3 (plc_none hno) n
  obtain ⟨w2, hw2⟩ : ∃ w2, w2 = setBlock w1.drew M o := ⟨_, rfl⟩
  rw [← hw2] at hput
  have hMT : T ≠ M := fun e => by obtain ⟨es, c, h3, _⟩ := h1.tab; rw [← e, t1] at h3; simp at h3
  have hb2 : ∀ k, k ≠ M → w2.heap[k]? = w1.heap[k]? := fun k hk => by rw [hw2]; exact setBlock_far _ hk
  have hs2 : w2.heap.size = w1.heap.size := by rw [hw2]; simp [setBlock]
  have ht2 : Tab w2 M (n + 1) (plc (upd a n x) (n + 1)) := (htab w2 (by rw [hw2]; exact setBlock_at _ h1.tab.lt)).congr (plc_upd h.once hno)
  have t2 := (hb2 T hMT).trans t1
  have p2 := (hb2 pb h1.pM).trans h1.pile
  have q2 := (hb2 p h1.qM).trans h1.queue
  have own2 : w2.ownsRow 0 64 2 v n ((lstT a n).flatMap two) := own_kept h1.own (fun g hg => hb2 g (h1.gM hg))
  have r2 : w2.os = w.os ∧ w2.tape = w.tape ∧ w2.output = w.output := by rw [hw2, hw1]; exact ⟨rfl, rfl, rfl⟩
  have c1 := h1.cell0
  have c1' := h1.cell1
  have d0 : w1.cell? ⟨T, 0, none⟩ = some (.int .i64 x.1) := by rw [cell_of_row w1 T 0 _ _ _ t1]; rfl
  have e0 : w2.cell? ⟨pb, 0, none⟩ = some v := by rw [cell_of_row w2 pb 0 _ _ _ p2]; rfl
  have ef : w2.frozen? ⟨pb, 0, none⟩ = false := by simp [World.frozen?, p2]
  have g0 : w2.cell? ⟨T, 0, none⟩ = some (.int .i64 x.1) := by rw [cell_of_row w2 T 0 _ _ _ t2]; rfl
  have g1 : w2.cell? ⟨T, 1, none⟩ = some (.int .i64 x.2) := by rw [cell_of_row w2 T 1 _ _ _ t2]; rfl
  have hpbT : pb ≠ T := fun e => by have h3 := h1.pile; rw [e] at h3; rw [t1] at h3; simp at h3
  have hta := fun w => assert_due w (.agg #[.int .i64 x.1, .int .i64 x.2])
  have hpblt : pb < w2.heap.size := (Array.getElem?_eq_some_iff.1 p2).1
  -- behind the append
  have hend : ∀ (w5 w6 : World) (g cap : Nat), w5.heap.size ≥ w2.heap.size → (∀ k, k < w2.heap.size → w5.heap[k]? = w2.heap[k]?) → (w5.os = w2.os ∧ w5.tape = w2.tape ∧ w5.output = w2.output) →
      w6.ownsRow 0 64 2 (.slice (some ⟨g, 0, none⟩) (n + 1) cap) (n + 1) ((lstT a n).flatMap two ++ two x) → w5.grownBy w6 v.ownBlock → (v.ownBlock = some g ∨ g = w5.heap.size) → g < w6.heap.size →
      ∃ G b, Keep F w (w6.setCell ⟨pb, 0, none⟩ (.slice (some ⟨g, 0, none⟩) (n + 1) cap)) ∧ Grows F G w ∧ Pile p pb G (w6.setCell ⟨pb, 0, none⟩ (.slice (some ⟨g, 0, none⟩) (n + 1) cap)) b (n + 1) ∧ (∀ k, k < n → b k = a k) ∧ b n = x := by
    intro w5 w6 g cap hs5 hb5 hr5 hown6 hgr hat hg
    have hplt : p < w2.heap.size := (Array.getElem?_eq_some_iff.1 q2).1
    have hMlt := ht2.lt
    have g1 : g ≠ pb := by
      rcases hat with h3 | h3
      · exact h1.gp h3
      · omega
    have g2 : g ≠ p := by
      rcases hat with h3 | h3
      · exact h1.gq h3
      · omega
    have g3 : g ≠ M := by
      rcases hat with h3 | h3
      · exact h1.gM h3
      · omega
    have hold : ∀ k, k < w2.heap.size → k ≠ pb → v.ownBlock ≠ some k → (w6.setCell ⟨pb, 0, none⟩ (.slice (some ⟨g, 0, none⟩) (n + 1) cap)).heap[k]? = w2.heap[k]? := fun k hk hk1 hk2 => by
      rw [Below.heap_setCell _ _ _ k hk1, hgr.block k (by omega) (fun e => hk2 e.symm), hb5 k hk]
    have hp6 : w6.heap[pb]? = some (.cells #[v, .map (some M)] 55 (0, 0)) := by
      rw [hgr.block pb (by omega) (fun e => h1.gp e.symm rfl), hb5 pb hpblt]; exact p2
    have hwsz : w.heap.size ≤ w2.heap.size := by rw [hs2]; exact x1.size
    refine ⟨fun i => i = p ∨ i = pb ∨ i = M ∨ i = g, upd a n x, ⟨?_, ?_, ?_, ?_, fun k hk hF => ?_⟩, fun i hi => ?_, ⟨.slice (some ⟨g, 0, none⟩) (n + 1) cap, M, fun i => ?_, ?_, ?_, ?_, ?_, once_upd h.once hno, fun i hi => ?_, by omega⟩, fun k hk => upd_other _ _ _ _ (by omega), upd_same _ _ _⟩
    · exact (hgr.os.trans hr5.1).trans r2.1
    · exact (hgr.tape.trans hr5.2.1).trans r2.2.1
    · exact (hgr.output.trans hr5.2.2).trans r2.2.2
    · have := hgr.size; simp only [World.setCell, Array.size_modify]; omega
    · rw [hold k (by omega) (fun e => hF ((h.foot k).2 (.inr (.inl e)))) (fun e => hF ((h.foot k).2 (.inr (.inr (.inr e))))), hb2 k (fun e => hF ((h.foot k).2 (.inr (.inr (.inl e)))))]
      exact Below.block x1 k hk
    · rcases hi with e | e | e | e
      · exact .inl ((h.foot i).2 (.inl e))
      · exact .inl ((h.foot i).2 (.inr (.inl e)))
      · exact .inl ((h.foot i).2 (.inr (.inr (.inl e))))
      · rcases hat with h3 | h3
        · exact .inl ((h.foot i).2 (.inr (.inr (.inr (by rw [e]; exact h3)))))
        · exact .inr (by omega)
    · simp only [Value.ownBlock, Option.some.injEq]
      constructor
      · rintro (e | e | e | e)
        · exact .inl e
        · exact .inr (.inl e)
        · exact .inr (.inr (.inl e))
        · exact .inr (.inr (.inr e.symm))
      · rintro (e | e | e | e)
        · exact .inl e
        · exact .inr (.inl e)
        · exact .inr (.inr (.inl e))
        · exact .inr (.inr (.inr e.symm))
    · exact (hold p hplt h.pq (fun e => h1.gq e rfl)).trans q2
    · simp [World.setCell, Array.getElem?_modify, hp6]
    · have e : (lstT (upd a n x) (n + 1)).flatMap two = (lstT a n).flatMap two ++ two x := by
        rw [lstT_succ, upd_same, lstT_congr (b := a) fun i hi => upd_other _ _ _ _ (by omega)]; simp
      rw [e]
      exact own_kept hown6 (fun g' hg' => by cases hg'; exact Below.heap_setCell _ _ _ g g1)
    · exact ht2.of_block (hold M hMlt (Ne.symm h1.pM) (fun e => h1.gM e rfl))
    · by_cases e : i = n
      · rw [e, upd_same]; exact hx
      · rw [upd_other _ _ _ _ e]; exact h.may i (by omega)
  have HEnd := Lib.hid hend
  have HP := Lib.hid hpbT
  have hTlt1 : T < w1.heap.size := (Array.getElem?_eq_some_iff.1 t1).1
  have hst : (w.alloc (.cells #[.int .i64 0, .int .i64 0] 64)) = (w.alloc (.cells #[.int .i64 0, .int .i64 0] 64)) := rfl
  have hgp1 := fun e => h1.gp (g := pb) e rfl
  have HGP := Lib.hid hgp1
  subst hv
  clear hgp1 hend h h1 htab hw2 hMT hb2 hs2 ht2 q2 r2 t1 hno hpbT hst
  rw [hT] at d0 g0 g1 hTlt1 t2
  unfold enc2
  go_enter Try.func53, Try.ntmps53
  go_wp2
  rw [← hw1]
  clear hw1
  go_region
  clear hput c1 c1' d0 hta
  go_wp2
  go_region_law (refine step_append_lies _ rfl (.tmp 22) (.tmp 24) _ rfl 0 64 i0 _ 2 16 Try.underlying53 hi0 hz0 hz1 hz2 rfl (by decide) (.slice A n c0) n _ rfl (own_kept own2 (fun g hg => heap_alloc_old _ _ ((own2.lt g hg).2))) ⟨w2.heap.size, 0, none⟩ 1 1 (two x) rfl rfl (World.news_of_block (heap_alloc_new _ _)) (by simp [two, Value.oneCell']) (by omega) (by unfold maxLen; omega) (by omega) (Nat.zero_le _) _ rfl ?_; intro g cap w6 hown6 hgr6 hat6 hlt6; have hb6 := (hgr6.block pb (Nat.lt_of_lt_of_le hpblt (Ext.alloc w2 _).size) (fun e => HGP.out e.symm)).trans ((heap_alloc_old _ _ hpblt).trans p2); have e6 : w6.cell? ⟨pb, 0, none⟩ = some (.slice A n c0) := (by simp [World.cell?, hb6]); have f6 : w6.frozen? ⟨pb, 0, none⟩ = false := (by simp [World.frozen?, hb6]))
  all_goals
    go_end0
    have HE := HEnd.out (w2.alloc (.cells #[.int .i64 x.1, .int .i64 x.2] 64)).drew w6 g cap (Ext.alloc w2 (.cells #[.int .i64 x.1, .int .i64 x.2] 64)).size (fun k hk => heap_alloc_old w2 _ hk) ⟨rfl, rfl, rfl⟩ hown6 hgr6 hat6 hlt6
    exact ⟨rfl, HE⟩
set_option maxHeartbeats 4000000 in
theorem ppop_any (p pb : Nat) (F : Nat → Prop) (w : World) (b : Nat → Int × Int) (m : Nat) (h : Pile p pb F w b (m + 1)) :
    Calls Try.prog 52 #[.pointer (some ⟨pb, 0, none⟩)] w fun e w' => e = .returned (enc2 (b m)) ∧ ∃ G c, Keep F w w' ∧ Grows F G w ∧ Pile p pb G w' c m ∧ ∀ k, k < m → c k = b k := by
  obtain ⟨v, M, h⟩ := h
  obtain ⟨g, cap, rfl, hnc, hcm, hc, _⟩ := h.form (by omega)
  obtain ⟨cm0, cm1⟩ := hc m (by omega)
  have hfew := h.few
  have hcm' : cap ≤ 9223372036854775807 := hcm
  obtain ⟨T, hT⟩ : ∃ T, T = w.heap.size := ⟨_, rfl⟩
  obtain ⟨w1, hw1⟩ : ∃ w1, w1 = w.alloc (.cells #[.int .i64 (b m).1, .int .i64 (b m).2] 64) := ⟨_, rfl⟩
  have x1 : Ext w w1 := by rw [hw1]; exact Ext.alloc _ _
  have t1 : w1.heap[T]? = some (.cells #[.int .i64 (b m).1, .int .i64 (b m).2] 64 (0, 0)) := by rw [hw1, hT]; exact heap_alloc_new _ _
  have h1 := h.ext x1
  have hTpb : T ≠ pb := fun e => by have h3 := h1.pile; rw [← e] at h3; rw [t1] at h3; simp at h3
  have hTM : T ≠ M := fun e => by obtain ⟨es, c, h3, _⟩ := h1.tab; rw [← e, t1] at h3; simp at h3
  -- the list is cut
  obtain ⟨w2, hw2⟩ : ∃ w2, w2 = w1.setCell ⟨pb, 0, none⟩ (.slice (some ⟨g, 0, none⟩) m cap) := ⟨_, rfl⟩
  have hb2 : ∀ k, k ≠ pb → w2.heap[k]? = w1.heap[k]? := fun k hk => by rw [hw2]; exact Below.heap_setCell _ _ _ k hk
  have p2 : w2.heap[pb]? = some (.cells #[.slice (some ⟨g, 0, none⟩) m cap, .map (some M)] 55 (0, 0)) := by
    rw [hw2]; simp [World.setCell, Array.getElem?_modify, h1.pile]
  have t2 := (hb2 T hTpb).trans t1
  have tab2 : Tab w2.drew M (m + 1) (plc b (m + 1)) := h1.tab.of_block (hb2 M (Ne.symm h1.pM))
  obtain ⟨o, hdel, htab⟩ := tab2.del Try.underlying52 Try.underlying3 (plc_some h.once (Nat.lt_succ_self m) rfl) 0
  obtain ⟨w3, hw3⟩ : ∃ w3, w3 = setBlock w2.drew M o := ⟨_, rfl⟩
  have hb3 : ∀ k, k ≠ M → w3.heap[k]? = w2.heap[k]? := fun k hk => by rw [hw3]; exact setBlock_far _ hk
  rw [← hw3] at hdel
  have tab3 := (htab w3 (by rw [hw3]; exact setBlock_at _ tab2.lt)).congr (plc_less h.once)
  have t3 := (hb3 T hTM).trans t2
  have own1 := h1.own
  have hgp := h1.gp rfl
  have hgM := h1.gM rfl
  have hEnd : ∃ G c, Keep F w w3 ∧ Grows F G w ∧ Pile p pb G w3 c m ∧ ∀ k, k < m → c k = b k := by
    refine ⟨F, b, ⟨?_, ?_, ?_, ?_, fun k hk hF => ?_⟩, Grows.refl _ _, ⟨.slice (some ⟨g, 0, none⟩) m cap, M, ?_, ?_, ?_, ?_, tab3, fun i j hi hj => h.once i j (by omega) (by omega), fun i hi => h.may i (by omega), by omega⟩, fun _ _ => rfl⟩
    · rw [hw3, hw2, hw1]; rfl
    · rw [hw3, hw2, hw1]; rfl
    · rw [hw3, hw2, hw1]; rfl
    · rw [hw3, hw2]; simp only [setBlock, World.setCell, World.drew, Array.size_setIfInBounds, Array.size_modify]; exact x1.size
    · rw [hb3 k (fun e => hF ((h.foot k).2 (.inr (.inr (.inl e))))), hb2 k (fun e => hF ((h.foot k).2 (.inr (.inl e))))]
      exact Below.block x1 k hk
    · exact h.foot
    · exact ((hb3 p h1.qM).trans (hb2 p h1.pq)).trans h1.queue
    · exact (hb3 pb h1.pM).trans p2
    · have own2 : w1.ownsRow 0 64 2 (.slice (some ⟨g, 0, none⟩) m cap) m ((lstT b m).flatMap two) := by
        obtain ⟨k1, k2⟩ := own1
        refine ⟨by rw [flat_length two_length, lstT_length], .inr ?_⟩
        rcases k2 with ⟨hv, _⟩ | ⟨g', cap', cur, hv, hb, hg, hnc, hc, hs, ht⟩
        · cases hv
        · injection hv with e1 e2 e3
          injection e1 with e1
          injection e1 with e1
          subst e1; subst e3
          refine ⟨g, cap, cur, rfl, hb, hg, by omega, hc, hs, ?_⟩
          rw [lstT_succ, List.flatMap_append] at ht
          have h4 := congrArg (List.take (m * 2)) ht
          rw [List.take_take, Nat.min_eq_left (by omega), List.take_left' (by rw [flat_length two_length, lstT_length])] at h4
          exact h4
      exact own_kept own2 (fun g' hg' => by cases hg'; rw [hb3 g hgM, hb2 g hgp])
  have HEnd := Lib.hid hEnd
  have c0 := h.cell0
  have e0 := h1.cell0
  have ef := h1.frozen 0
  have k1 : w2.cell? ⟨pb, 1, none⟩ = some (.map (some M)) := by simp [World.cell?, p2]
  have d0 : w2.cell? ⟨T, 0, none⟩ = some (.int .i64 (b m).1) := by simp [World.cell?, t2]
  have d3 : w3.cell? ⟨T, 0, none⟩ = some (.int .i64 (b m).1) := by simp [World.cell?, t3]
  have d4 : w3.cell? ⟨T, 1, none⟩ = some (.int .i64 (b m).2) := by simp [World.cell?, t3]
  have hm0 : (m : Int) < ((m + 1 : Nat) : Int) := by omega
  have hm1 : ((m + 1 : Nat) : Int) - 1 = m := by omega
  clear h h1 hc hTpb hTM hb2 p2 t2 tab2 htab hw3 hb3 tab3 t3 own1 hgp hgM hEnd t1 x1
  generalize b m = x at *
  obtain ⟨x0, x1⟩ := x
  simp only at *
  unfold enc2
  rw [hT] at d0 d3 d4
  subst hw1
  go_enter Try.func52, Try.ntmps52
  go_wp2
  rw [← hw2]
  clear c0 e0 ef cm0 cm1 hw2
  go_region_law (refine step_delete rfl (.tmp 30) (.tmp 32) _ _ rfl rfl rfl hdel ?_)
  all_goals
    go_wp2
    go_ret
    exact ⟨rfl, HEnd.out⟩
end Go.Proofs.Ytgjfomnipjljoaa
