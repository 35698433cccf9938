/-
  CONTRACTS: package timer: 'TQ w p F L': the queue at block p holds just what the sorted list L says; F: the blocks that it may change.
-/
import Derived.Test.YtgjfomnipjljoaaTimerP
namespace Go.Proofs.Ytgjfomnipjljoaa
open Go.RowKit
set_option linter.unusedVariables false

def TQ (w : World) (p : Nat) (F : Nat → Prop) (L : List (Int × Int)) : Prop :=
  Sorted L ∧ ∃ pb a, Pile p pb F w a L.length ∧ Heap beforeB a L.length ∧ (lstT a L.length).Perm L
theorem TQ.keep {G F : Nat → Prop} {w w' : World} {p : Nat} {L : List (Int × Int)} (h : TQ w p F L) (k : Keep G w w') (hG : ∀ i, F i → ¬ G i) : TQ w' p F L := by
  obtain ⟨s, pb, a, ⟨v, M, h⟩, hh, hp⟩ := h
  exact ⟨s, pb, a, ⟨v, M, h.kept fun i hi => k.block i (h.lt i hi) (hG i hi)⟩, hh, hp⟩
theorem TQ.lt {F : Nat → Prop} {w : World} {p : Nat} {L : List (Int × Int)} (h : TQ w p F L) : ∀ i, F i → i < w.heap.size := by
  obtain ⟨_, pb, a, ⟨v, M, h⟩, _, _⟩ := h
  exact h.lt
theorem TQ.sorted {F : Nat → Prop} {w : World} {p : Nat} {L : List (Int × Int)} (h : TQ w p F L) : Sorted L := h.1

/-! ### container/heap over piles -/
section
variable {p pb : Nat}
theorem pile_len : LenDoes (Pile p pb) (.pointer (some ⟨pb, 0, none⟩)) := fun F w a n h =>
  (plen_any p pb F w a n h).mono fun e w' ⟨he, hw⟩ => ⟨he, hw ▸ Keep.refl _ _, hw ▸ h⟩
theorem pile_few {F : Nat → Prop} {w : World} {a : Nat → Int × Int} {n : Nat} (h : Pile p pb F w a n) : n ≤ 256 := by obtain ⟨v, M, h⟩ := h; exact h.few
theorem pile_less (F : Nat → Prop) : LessDoes beforeB (Pile p pb F) F (.pointer (some ⟨pb, 0, none⟩)) := fun w a n i j h hi hj =>
  (pless_any p pb F w a n i j h hi hj (by have := pile_few h; omega)).mono fun e w' ⟨he, hw⟩ => ⟨he, Keep.of_ext hw, h.ext hw⟩
theorem pile_swap (F : Nat → Prop) : SwapDoes (Pile p pb F) F (.pointer (some ⟨pb, 0, none⟩)) := fun w a n i j h hi hj =>
  pswap_any p pb F w a n i j h hi hj (by have := pile_few h; omega)
theorem pile_pop : PopDoes (Pile p pb) (.pointer (some ⟨pb, 0, none⟩)) enc2 := fun F w b m h => ppop_any p pb F w b m h
end

/-! ### New, nil queues -/
theorem heap_alloc_eq (w : World) (o : Obj) {i : Nat} (h : i = w.heap.size) : (w.alloc o).heap[i]? = some o := by rw [h]; exact heap_alloc_new w o
theorem knew_any (w : World) : Calls Try.prog 7 #[] w fun e w' => ∃ p F, e = .returned (.pointer (some ⟨p, 0, none⟩)) ∧ Ext w w' ∧ TQ w' p F [] ∧ Above w F := by
  have hmm := @run_makeMap Try.prog
  go_enter Try.func7, Try.ntmps7
  go_wp2
  go_ret
  refine ⟨w.heap.size + 2, fun i => i = w.heap.size + 2 ∨ i = w.heap.size + 1 ∨ i = w.heap.size ∨ (Value.slice none 0 0).ownBlock = some i, rfl, ((Ext.alloc _ _).alloc' _).alloc' _, ⟨Sorted.nil, w.heap.size + 1, fun _ => (0, 0), ⟨.slice none 0 0, w.heap.size, ⟨fun i => Iff.rfl, ?_, ?_, World.ownsRow_nil _ _ _ _, ?_, fun i j hi => absurd hi (Nat.not_lt_zero _), fun i hi => absurd hi (Nat.not_lt_zero _), by simp⟩⟩, fun k _ hk => absurd hk (Nat.not_lt_zero _), .refl _⟩, fun i hi => ?_⟩
  · exact heap_alloc_eq _ _ (by simp)
  · exact (heap_alloc_old _ _ (by simp)).trans (heap_alloc_eq _ _ (by simp))
  · exact (Tab.made w).of_block ((heap_alloc_old _ _ (by simp; omega)).trans (heap_alloc_old _ _ (by simp)))
  · rcases hi with e | e | e | e
    · omega
    · omega
    · omega
    · cases e
theorem kmade_nil (w : World) : Calls Try.prog 21 #[.pointer none] w fun e w' => e = .returned (.bool false) ∧ w = w' := by
  go_enter Try.func21, Try.ntmps21
  go_wp2
  go_ret
  exact ⟨rfl, rfl⟩
theorem kmade_any (p pb : Nat) (w : World) (h : w.cell? ⟨p, 0, none⟩ = some (.pointer (some ⟨pb, 0, none⟩))) : Calls Try.prog 21 #[.pointer (some ⟨p, 0, none⟩)] w fun e w' => e = .returned (.bool true) ∧ w = w' := by
  go_enter Try.func21, Try.ntmps21
  go_wp2
  go_ret
  exact ⟨rfl, rfl⟩
theorem kplace_nil (q : Int) (w : World) : Calls Try.prog 23 #[.pointer none, .int .i64 q] w fun e w' => e = .returned (.tuple #[.int .i64 0, .bool false]) ∧ w = w' := by
  go_enter Try.func23, Try.ntmps23
  go_wp2_with fail
  refine (kmade_nil _).mono ?_; rintro e w1 ⟨rfl, rfl⟩
  go_wp2
  go_ret2
  exact ⟨rfl, rfl⟩
theorem kplace_any (p pb : Nat) (F : Nat → Prop) (w : World) (a : Nat → Int × Int) (n : Nat) (q : Int) (h : Pile p pb F w a n) :
    Calls Try.prog 23 #[.pointer (some ⟨p, 0, none⟩), .int .i64 q] w fun e w' => e = .returned (.tuple #[.int .i64 ((plc a n q).getD 0), .bool (plc a n q).isSome]) ∧ w = w' := by
  obtain ⟨v, M, h⟩ := h
  have hlook := h.tab.look Try.underlying52 Try.underlying3 (Try.zeroInt w) q
  have hm := kmade_any p pb w h.cellQ
  have c := h.cellQ
  have c1 := h.cell1
  generalize plc a n q = r at *
  generalize r.getD 0 = x at *
  generalize r.isSome = y at *
  clear h
  go_enter Try.func23, Try.ntmps23
  go_wp2_with fail
  refine hm.mono ?_; rintro e w1 ⟨rfl, rfl⟩
  go_wp2
  go_ret2
  exact ⟨rfl, rfl⟩
theorem kset_nil (q t : Int) (w : World) (hq : (Lit.int .i64 q).wf = true) (ht : (Lit.int .i64 t).wf = true) : Calls Try.prog 13 #[.pointer none, .int .i64 q, .int .i64 t] w fun e w' => e = .returned (.int .i64 11) ∧ Ext w w' := by
  go_enter Try.func13, Try.ntmps13
  go_wp2_with fail
  refine (kmade_nil _).mono ?_; rintro e w1 ⟨rfl, rfl⟩
  go_wp2
  go_ret
  exact ⟨rfl, Ext.refl _⟩
theorem kdrop_nil (q : Int) (w : World) (hq : (Lit.int .i64 q).wf = true) : Calls Try.prog 16 #[.pointer none, .int .i64 q] w fun e w' => e = .returned (.bool false) ∧ Ext w w' := by
  go_enter Try.func16, Try.ntmps16
  go_wp2_with fail
  refine (kplace_nil _ _).mono ?_; rintro e w1 ⟨rfl, rfl⟩
  go_wp2
  go_ret
  exact ⟨rfl, Ext.refl _⟩
theorem klen_nil (w : World) : Calls Try.prog 9 #[.pointer none] w fun e w' => e = .returned (.int .i64 0) ∧ Ext w w' := by
  go_enter Try.func9, Try.ntmps9
  go_wp2_with fail
  refine (kmade_nil _).mono ?_; rintro e w1 ⟨rfl, rfl⟩
  go_wp2
  go_ret
  exact ⟨rfl, Ext.refl _⟩
theorem klen_same (p : Nat) (F : Nat → Prop) (L : List (Int × Int)) (w : World) (h : TQ w p F L) :
    Calls Try.prog 9 #[.pointer (some ⟨p, 0, none⟩)] w fun e w' => e = .returned (.int .i64 (L.length : Int)) ∧ w = w' := by
  obtain ⟨_, pb, a, h, _, _⟩ := h
  have hl := plen_any p pb F w a L.length h
  obtain ⟨v, M, h⟩ := h
  have hm := kmade_any p pb w h.cellQ
  have c := h.cellQ
  generalize L.length = n at *
  clear h
  go_enter Try.func9, Try.ntmps9
  go_wp2_with fail
  refine hm.mono ?_; rintro e w1 ⟨rfl, rfl⟩
  go_wp2_with fail
  refine hl.mono ?_; rintro e w1 ⟨rfl, rfl⟩
  go_wp2
  go_ret
  exact ⟨rfl, rfl⟩
theorem klen_any (p : Nat) (F : Nat → Prop) (L : List (Int × Int)) (w : World) (h : TQ w p F L) :
    Calls Try.prog 9 #[.pointer (some ⟨p, 0, none⟩)] w fun e w' => e = .returned (.int .i64 (L.length : Int)) ∧ Ext w w' :=
  (klen_same p F L w h).mono fun _ _ ⟨he, hw⟩ => ⟨he, Ext.of_eq hw⟩
set_option maxHeartbeats 1000000 in
theorem kwhen_any (p : Nat) (F : Nat → Prop) (L : List (Int × Int)) (q : Int) (w : World) (h : TQ w p F L) (hq : (Lit.int .i64 q).wf = true) :
    Calls Try.prog 12 #[.pointer (some ⟨p, 0, none⟩), .int .i64 q] w fun e w' => e = .returned (.tuple #[.int .i64 (whenI L q).1, .bool (whenI L q).2]) ∧ Ext w w' := by
  obtain ⟨s, pb, a, h, hh, hp⟩ := h
  have hpl := kplace_any p pb F w a L.length q h
  obtain ⟨v, M, h⟩ := h
  rcases due_at h.once hp q with ⟨e1, _, e2, _, _⟩ | ⟨k, hk, e1, _, e3, e2⟩
  · rw [e1] at hpl
    rw [e2]
    simp only [Option.getD_none, Option.isSome_none] at hpl
    clear s h hh hp e1 e2
    go_enter Try.func12, Try.ntmps12
    go_wp2_with fail
    refine hpl.mono ?_; rintro e w1 ⟨rfl, rfl⟩
    go_wp2
    go_ret2
    exact ⟨rfl, Ext.refl _⟩
  · rw [e1] at hpl
    rw [e2]
    simp only [Option.getD_some, Option.isSome_some] at hpl
    obtain ⟨g, cap, rfl, _, _, hc, _⟩ := h.form (by omega)
    have c := h.cellQ
    have c0 := h.cell0
    have ck := (hc k hk).2
    have hk' : (k : Int) < L.length := by omega
    generalize L.length = n at *
    generalize (a k).2 = x at *
    clear s h hh hp e1 e2 e3 hc
    go_enter Try.func12, Try.ntmps12
    go_wp2_with fail
    refine hpl.mono ?_; rintro e w1 ⟨rfl, rfl⟩
    go_wp2
    go_ret2
    exact ⟨rfl, Ext.refl _⟩
set_option maxHeartbeats 1000000 in
theorem kfirst_any (p : Nat) (F : Nat → Prop) (L : List (Int × Int)) (w : World) (h : TQ w p F L) :
    Calls Try.prog 10 #[.pointer (some ⟨p, 0, none⟩)] w fun e w' => e = .returned (.tuple #[.int .i64 (firstI L).1, .int .i64 (firstI L).2.1, .bool (firstI L).2.2]) ∧ Ext w w' := by
  have hl := klen_same p F L w h
  obtain ⟨s, pb, a, ⟨v, M, h⟩, hh, hp⟩ := h
  cases L with
  | nil =>
    simp only [List.length_nil, Int.natCast_zero, firstI] at hl ⊢
    clear s h hh hp
    go_enter Try.func10, Try.ntmps10
    go_wp2_with fail
    refine hl.mono ?_; rintro e w1 ⟨rfl, rfl⟩
    go_wp2
    go_ret3
    exact ⟨rfl, Ext.refl _⟩
  | cons x L =>
    have h0 := root_first s hh hp
    obtain ⟨g, cap, rfl, _, _, hc, _⟩ := h.form (by simp)
    have c := h.cellQ
    have c0 := h.cell0
    obtain ⟨d0, d1⟩ := hc 0 (by simp)
    rw [h0] at d0 d1
    simp only [Nat.zero_mul, Nat.zero_add] at d0 d1
    have hne : (((x :: L).length : Int) == 0) = false := by simp only [List.length_cons, beq_eq_false_iff_ne, ne_eq]; omega
    have hpos : (0 : Int) < ((x :: L).length : Int) := by simp only [List.length_cons]; omega
    simp only [firstI]
    generalize (x :: L).length = n at *
    obtain ⟨x0, x1⟩ := x
    simp only at d0 d1 ⊢
    clear s h hh hp h0 hc
    go_enter Try.func10, Try.ntmps10
    go_wp2_with fail
    refine hl.mono ?_; rintro e w1 ⟨rfl, rfl⟩
    go_wp2
    go_quiet (fail)
    go_wp2
    go_ret3
    exact ⟨rfl, (Ext.alloc _ _).trans (Ext.drewN _ _)⟩
theorem drop_none2 {L : List (Int × Int)} {q : Int} (h : ∀ x ∈ L, x.1 ≠ q) : dropI L q = L := by
  unfold dropI; rw [List.filter_eq_self]; intro x hx; simpa using h x hx
/-! ### Set, Drop -/
theorem setCell_is {w : World} {g k : Nat} {v : Value} {cs : Array Value} {t : TypeId} (hg : w.heap[g]? = some (.cells cs t (0, 0))) (hv : w.cell? ⟨g, k, none⟩ = some v) : w.setCell ⟨g, k, none⟩ v = w := by
  have hc : cs[k]? = some v := by rw [← cell_of_row w g k cs t (0, 0) hg]; exact hv
  have e : w.heap.modify g (fun | .cells c elem frozen => .cells (c.setIfInBounds k v) elem frozen | o => o) = w.heap := by
    apply Array.ext_getElem?
    intro i
    rw [Array.getElem?_modify]
    split
    · next e1 =>
      subst e1
      rw [hg]
      have : cs.setIfInBounds k v = cs := by
        apply Array.ext_getElem?
        intro j
        by_cases e2 : j = k
        · subst e2; rw [hc]; have := (Array.getElem?_eq_some_iff.1 hc).1; simp [this]
        · rw [Array.getElem?_setIfInBounds_ne (Ne.symm e2)]
      simp [this]
    · rfl
  have e3 : w.setCell ⟨g, k, none⟩ v = { w with heap := w.heap.modify g (fun | .cells c elem frozen => .cells (c.setIfInBounds k v) elem frozen | o => o) } := rfl
  rw [e3, e]
theorem plc_same {a : Nat → Int × Int} {n k : Nat} (x : Int × Int) (h : (a k).1 = x.1) : plc (upd a k x) n = plc a n := by
  have e : ∀ i, (upd a k x i).1 = (a i).1 := fun i => by
    by_cases e : i = k
    · rw [e, upd_same, h]
    · rw [upd_other _ _ _ _ e]
  unfold plc
  funext q
  simp only [e]
theorem set_yes {L : List (Int × Int)} {q t : Int} (h : ¬ (q < 0 ∨ t < 0 ∨ 1099511627776 < t)) (h2 : ¬ (placeI L q < 0 ∧ 256 ≤ L.length)) : setI L q t = (insI (q, t) (dropI L q), 0) := by
  unfold setI; rw [if_neg h, if_neg h2]
theorem drop_length_yes {a : Nat → Int × Int} {L : List (Int × Int)} (o : Once a L.length) (hp : (lstT a L.length).Perm L) {k : Nat} (hk : k < L.length) : (dropI L (a k).1).length + 1 = L.length := by
  obtain ⟨R, h1, _⟩ := upd_perm (a := a) hk (0, 0)
  have h2 := (drop_perm hp (a k).1).length_eq
  have h3 := (once_list o h1).length_eq
  have h4 := h1.length_eq
  rw [lstT_length, List.length_cons] at h4
  omega
set_option maxHeartbeats 1000000 in
theorem kset_any (p : Nat) (F : Nat → Prop) (L : List (Int × Int)) (q t : Int) (w : World) (h : TQ w p F L) (hq : (Lit.int .i64 q).wf = true) (ht : (Lit.int .i64 t).wf = true) :
    Calls Try.prog 13 #[.pointer (some ⟨p, 0, none⟩), .int .i64 q, .int .i64 t] w fun e w' => ∃ G, e = .returned (.int .i64 (setI L q t).2) ∧ Keep F w w' ∧ TQ w' p G (setI L q t).1 ∧ Grows F G w := by
  have hT := h
  have hl := klen_same p F L w h
  obtain ⟨s, pb, a, h, hh, hp⟩ := h
  have hpl := kplace_any p pb F w a L.length q h
  obtain ⟨v, M, h⟩ := h
  have hm := kmade_any p pb w h.cellQ
  have c := h.cellQ
  by_cases hb : q < 0 ∨ t < 0 ∨ 1099511627776 < t
  · have e : setI L q t = (L, 11) := by unfold setI; rw [if_pos hb]
    rw [e]
    have HT := Lib.hid hT
    clear s hh hp h hT hl hpl e
    rcases (show q < 0 ∨ (¬ q < 0 ∧ t < 0) ∨ (¬ q < 0 ∧ ¬ t < 0 ∧ 1099511627776 < t) by omega) with h1 | ⟨h1, h2⟩ | ⟨h1, h2, h3⟩
    all_goals
      clear hb
      go_enter Try.func13, Try.ntmps13
      go_wp2_with fail
      refine hm.mono ?_; rintro e w1 ⟨rfl, rfl⟩
      go_wp2
      go_ret
      exact ⟨F, rfl, Keep.refl _ _, HT.out, Grows.refl _ _⟩
  · have b1 : ¬ q < 0 := by omega
    have b2 : ¬ t < 0 := by omega
    have b3 : ¬ 1099511627776 < t := by omega
    rcases due_at h.once hp q with ⟨e1, e0, _, hno, hnoa⟩ | ⟨k, hk, e1, e0, e3, _⟩
    · rw [e1] at hpl
      simp only [Option.getD_none, Option.isSome_none] at hpl
      by_cases hf : 256 ≤ L.length
      · have e : setI L q t = (L, 17) := by unfold setI; rw [if_neg hb, if_pos ⟨e0, hf⟩]
        rw [e]
        have HT := Lib.hid hT
        have hf' : (256 : Int) ≤ (L.length : Int) := by omega
        generalize L.length = n at *
        clear s hh hp h hT e e0 hno hnoa e1 hb hf
        go_enter Try.func13, Try.ntmps13
        go_wp2_with fail
        refine hm.mono ?_; rintro e w1 ⟨rfl, rfl⟩
        go_wp2_with fail
        refine hpl.mono ?_; rintro e w1 ⟨rfl, rfl⟩
        go_wp2_with fail
        refine hl.mono ?_; rintro e w1 ⟨rfl, rfl⟩
        go_wp2
        go_ret
        exact ⟨F, rfl, Keep.refl _ _, HT.out, Grows.refl _ _⟩
      · have e := set_yes hb (fun x => hf x.2)
        have s2 := s.set q t
        rw [e] at s2 ⊢
        rw [drop_none2 hno] at s2 ⊢
        have hpush := hpush_any pile_len pile_less pile_swap before_order F w a L.length (enc2 (q, t)) (q, t) (by omega) hh (ppush_any p pb F w a L.length (q, t) ⟨v, M, h⟩ (by omega) ⟨hq, ht⟩ hnoa)
        have HS := Lib.hid s2
        have HP := Lib.hid hp
        have hf' : decide ((256 : Int) ≤ (L.length : Int)) = false := by rw [decide_eq_false_iff_not]; omega
        unfold enc2 at hpush
        have HPush := Lib.hid hpush
        clear s hh hp h hT e e0 hno hnoa e1 hb s2 hf hpush
        generalize hN : L.length = n at *
        have HN := Lib.hid hN
        clear hN
        go_enter Try.func13, Try.ntmps13
        go_wp2_with fail
        refine hm.mono ?_; rintro e w1 ⟨rfl, rfl⟩
        go_wp2_with fail
        refine hpl.mono ?_; rintro e w1 ⟨rfl, rfl⟩
        go_wp2_with fail
        refine hl.mono ?_; rintro e w1 ⟨rfl, rfl⟩
        go_wp2_with fail
        refine HPush.out.mono ?_; rintro e w1 ⟨rfl, G, b, k1, g1, h1, hh1, hp1⟩
        go_wp2
        go_ret
        have hlen := insI_length (q, t) L
        rw [HN.out] at hlen
        have HP := HP.out
        refine ⟨G, rfl, k1, ⟨HS.out, pb, b, by rw [hlen]; exact h1, by rw [hlen]; exact hh1, ?_⟩, g1⟩
        rw [hlen]
        refine hp1.trans (((List.Perm.append_right _ HP).trans ?_).trans (insI_perm (q, t) L).symm)
        exact List.perm_append_comm
    · rw [e1] at hpl
      simp only [Option.getD_some, Option.isSome_some] at hpl
      have e := set_yes hb (fun x => e0 x.1)
      have s2 := s.set q t
      rw [e] at s2 ⊢
      have hfew := h.few
      have hlen : (insI (q, t) (dropI L q)).length = L.length := by rw [insI_length, ← e3]; exact drop_length_yes h.once hp hk
      obtain ⟨g, cap, rfl, _, _, hc, hfz⟩ := h.form (by omega)
      have c0 := h.cell0
      obtain ⟨ck0, ck1⟩ := hc k hk
      have fk := hfz (k * 2 + 1)
      have hk' : (k : Int) < L.length := by omega
      obtain ⟨w2, hw2⟩ : ∃ w2, w2 = w.setCell ⟨g, k * 2 + 1, none⟩ (.int .i64 t) := ⟨_, rfl⟩
      obtain ⟨cs, hcs⟩ := own_block h.own (g := g) rfl
      have hb2 : ∀ i, i ≠ g → w2.heap[i]? = w.heap[i]? := fun i hi => by rw [hw2]; exact Below.heap_setCell _ _ _ i hi
      have own2 : w2.ownsRow 0 64 2 (.slice (some ⟨g, 0, none⟩) L.length cap) L.length ((lstT (upd a k (q, t)) L.length).flatMap two) := by
        have := own_set2 (i := k) h.own (q, t)
        rw [setCell_is hcs (by rw [ck0, e3])] at this
        rw [hw2]; exact this
      have P2 : Pile p pb F w2 (upd a k (q, t)) L.length := by
        refine ⟨_, M, h.foot, (hb2 p (fun e => h.gq rfl e.symm)).trans h.queue, (hb2 pb (fun e => h.gp rfl e.symm)).trans h.pile, own2, ?_, ?_, fun i hi => ?_, hfew⟩
        · rw [plc_same (q, t) e3]; exact h.tab.of_block (hb2 M (fun e => h.gM rfl e.symm))
        · intro i j hi hj he
          have hu : ∀ i, (upd a k (q, t) i).1 = (a i).1 := fun i => by
            by_cases e : i = k
            · rw [e, upd_same, e3]
            · rw [upd_other _ _ _ _ e]
          rw [hu, hu] at he; exact h.once i j hi hj he
        · by_cases e : i = k
          · rw [e, upd_same]; exact ⟨hq, ht⟩
          · rw [upd_other _ _ _ _ e]; exact h.may i hi
      have K2 : Keep F w w2 := ⟨by rw [hw2]; rfl, by rw [hw2]; rfl, by rw [hw2]; rfl, by rw [hw2]; simp [World.setCell], fun i _ hi => hb2 i (fun e => hi ((h.foot i).2 (.inr (.inr (.inr (by rw [e]; rfl))))))⟩
      obtain ⟨R, r1, r2⟩ := upd_perm (a := a) hk (q, t)
      have r3 := once_list h.once r1
      rw [e3] at r3
      have r4 : (dropI L q).Perm R := (drop_perm hp.symm q).trans r3
      have hfix := hfix_any pile_len pile_less pile_swap before_order before_irr F w2 (upd a k (q, t)) L.length k P2 hk (by omega) (fix_inv hh (q, t))
      have HFix := Lib.hid hfix
      have HS := Lib.hid s2
      have HK := Lib.hid K2
      have HL := Lib.hid hlen
      have HR := Lib.hid ((r2.trans (r4.symm.cons (q, t))).trans (insI_perm (q, t) (dropI L q)).symm)
      clear s hh hp h hT e e0 e1 e3 hb s2 hl hc hfz hcs hb2 own2 P2 K2 r1 r2 r3 r4 hfix hlen hk ck0 hfew
      generalize hN : L.length = n at *
      have HN := Lib.hid hN
      clear hN
      go_enter Try.func13, Try.ntmps13
      go_wp2_with fail
      refine hm.mono ?_; rintro e w1 ⟨rfl, rfl⟩
      go_wp2_with fail
      refine hpl.mono ?_; rintro e w1 ⟨rfl, rfl⟩
      go_wp2_with fail
      rw [← hw2]
      clear hm hpl c c0 ck1 fk hw2
      refine HFix.out.mono ?_; rintro e w3 ⟨rfl, k3, b, h3, hh3, hp3⟩
      go_wp2
      go_ret
      have HL := HL.out
      refine ⟨F, rfl, HK.out.trans k3 (fun _ x => .inl x), ⟨HS.out, pb, b, by rw [HL]; exact h3, by rw [HL]; exact hh3, ?_⟩, Grows.refl _ _⟩
      rw [HL]
      exact hp3.trans HR.out
set_option maxHeartbeats 1000000 in
theorem kdrop_any (p : Nat) (F : Nat → Prop) (L : List (Int × Int)) (q : Int) (w : World) (h : TQ w p F L) (hq : (Lit.int .i64 q).wf = true) :
    Calls Try.prog 16 #[.pointer (some ⟨p, 0, none⟩), .int .i64 q] w fun e w' => ∃ G, e = .returned (.bool (decide (0 ≤ placeI L q))) ∧ Keep F w w' ∧ TQ w' p G (dropI L q) ∧ Grows F G w := by
  have hT := h
  obtain ⟨s, pb, a, h, hh, hp⟩ := h
  have hpl := kplace_any p pb F w a L.length q h
  obtain ⟨v, M, h⟩ := h
  rcases due_at h.once hp q with ⟨e1, e0, _, hno, _⟩ | ⟨k, hk, e1, e0, e3, _⟩
  · rw [e1] at hpl
    simp only [Option.getD_none, Option.isSome_none] at hpl
    rw [drop_none2 hno, decide_eq_false (by omega)]
    have HT := Lib.hid hT
    clear s hh hp h hT hno e1 e0
    go_enter Try.func16, Try.ntmps16
    go_wp2_with fail
    refine hpl.mono ?_; rintro e w1 ⟨rfl, rfl⟩
    go_wp2
    go_ret
    exact ⟨F, rfl, Keep.refl _ _, HT.out, Grows.refl _ _⟩
  · rw [e1] at hpl
    simp only [Option.getD_some, Option.isSome_some] at hpl
    rw [decide_eq_true (show 0 ≤ placeI L q by omega)]
    have s2 := s.drop q
    have hlen := drop_length_yes h.once hp hk
    rw [e3] at hlen
    obtain ⟨m, hm⟩ : ∃ m, m = (dropI L q).length := ⟨_, rfl⟩
    rw [← hm] at hlen
    have hfew := h.few
    have c := h.cellQ
    have hrem := hremove_any pile_len pile_less pile_swap pile_pop before_order before_irr F w a m k (by rw [hlen]; exact ⟨v, M, h⟩) (by omega) (by omega) (by rw [hlen]; exact hh)
    have ho : Once a (m + 1) := by rw [hlen]; exact h.once
    have hp2 : (lstT a (m + 1)).Perm L := by rw [hlen]; exact hp
    have hend : ∀ d : Nat → Int × Int, ((List.range (m + 1)).map a).Perm (a k :: (List.range m).map d) → (lstT d (dropI L q).length).Perm (dropI L q) := fun d hd => by
      have h1 := once_list ho hd
      rw [e3] at h1
      rw [← hm]
      exact h1.symm.trans (drop_perm hp2 q)
    have HE := Lib.hid hend
    have HS := Lib.hid s2
    have HM := Lib.hid hm
    have HRem := Lib.hid hrem
    clear s hh hp h hT e0 e1 e3 s2 hend hrem hm hlen hk hfew ho hp2
    go_enter Try.func16, Try.ntmps16
    go_wp2_with fail
    refine hpl.mono ?_; rintro e w1 ⟨rfl, rfl⟩
    go_wp2_with fail
    refine HRem.out.mono ?_; rintro e w3 ⟨rfl, G, d, k3, g3, h3, hh3, hp3⟩
    go_wp2
    go_ret
    have HM := HM.out
    exact ⟨G, rfl, k3, ⟨HS.out, pb, d, by rw [← HM]; exact h3, by rw [← HM]; exact hh3, HE.out d hp3⟩, g3⟩
end Go.Proofs.Ytgjfomnipjljoaa
