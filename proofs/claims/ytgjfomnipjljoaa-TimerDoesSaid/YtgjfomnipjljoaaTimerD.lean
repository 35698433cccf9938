/-
  CONTRACTS: package timer: Due, Clone.
-/
import Derived.Test.YtgjfomnipjljoaaTimerC
namespace Go.Proofs.Ytgjfomnipjljoaa
open Go.RowKit
set_option linter.unusedVariables false

theorem field_due (w : World) (a b : Int) : (Instr.field 64 (.agg #[.int .i64 a, .int .i64 b]) 0).run Try.prog w = .ok (.int .i64 a) w := by kernel_rfl
/-- heap.Pop of a queue's pile. -/
theorem kpop_any (p : Nat) (F : Nat → Prop) (x : Int × Int) (L : List (Int × Int)) (w : World) (h : TQ w p F (x :: L)) : ∃ pb, w.cell? ⟨p, 0, none⟩ = some (.pointer (some ⟨pb, 0, none⟩)) ∧
    Calls Try.prog 26 #[.iface 51 (.pointer (some ⟨pb, 0, none⟩))] w fun e w' => e = .returned (.iface 64 (.agg #[.int .i64 x.1, .int .i64 x.2])) ∧ ∃ G, Keep F w w' ∧ Grows F G w ∧ TQ w' p G L := by
  obtain ⟨s, pb, a, h, hh, hp⟩ := h
  have hfew := pile_few h
  have h0 := root_first s hh hp
  refine ⟨pb, by obtain ⟨v, M, h⟩ := h; exact h.cellQ, (hpop_any pile_len pile_less pile_swap pile_pop before_order before_irr F w a L.length h (by simp only [List.length_cons] at hfew; omega) hh).mono fun e w' ⟨he, G, c, k1, g1, h1, hh1, hp1⟩ => ⟨by rw [he, h0]; rfl, G, k1, g1, s.rest 1, pb, c, h1, hh1, ?_⟩⟩
  rw [h0] at hp1
  exact ((hp1.symm.trans hp).cons_inv)
theorem TQ.grown {F : Nat → Prop} {w w' : World} {p : Nat} {L : List (Int × Int)} {v : Value} (h : TQ w p F L) (hg : w.grownBy w' v.ownBlock) (ho : ∀ g, v.ownBlock = some g → ¬ F g) : TQ w' p F L :=
  h.keep (G := fun i => v.ownBlock = some i) ⟨hg.os, hg.tape, hg.output, hg.size, fun k hk hn => hg.block k hk (fun e => hn e.symm)⟩ fun i hi e => ho i e hi
set_option maxHeartbeats 4000000 in
theorem kdue_any (p : Nat) (F : Nat → Prop) (L : List (Int × Int)) (t : Int) (w : World) (h : TQ w p F L) (ht : (Lit.int .i64 t).wf = true) :
    Calls Try.prog 14 #[.pointer (some ⟨p, 0, none⟩), .int .i64 t] w fun e w' => ∃ G z u, e = .returned (.slice z (dueN L t) u) ∧ dueN L t ≤ u ∧ u ≤ maxLen ∧ Holds .i64 w' z (dueN L t) (dueF L) ∧ Keep F w w' ∧ TQ w' p G (L.drop (dueN L t)) ∧ Grows F G w ∧ Fresh w z ∧ Off G z := by
  obtain ⟨i0, hi0, hz0, hz1, hz2⟩ := info_parts Try.infoI
  obtain ⟨B, hB⟩ : ∃ B, B = w.heap.size := ⟨_, rfl⟩
  have HB := Lib.hid hB
  have hlen : L.length ≤ 256 := h.sorted.few
  obtain ⟨n, hn⟩ : ∃ n, n = L.length := ⟨_, rfl⟩
  have HN := Lib.hid hn
  have hn256 : n ≤ 256 := by omega
  have H0 := Lib.hid h
  have hBs : B ≤ w.heap.size := by omega
  have HBs := Lib.hid hBs
  clear hB hn hlen h hBs
  go_enter Try.func14, Try.ntmps14
  go_wp2
  go_loopg [5] n (fun g v wr => ∃ (k : Nat) (G : Nat → Prop), k + g = n ∧ wr.ownsRow B 3 1 v k (lst .i64 (dueF L) k) ∧ TQ wr p G (L.drop k) ∧ Keep F w wr ∧ Grows F G w ∧ (∀ q, v.ownBlock = some q → ¬ G q) ∧ B ≤ wr.heap.size ∧ (∀ j, (h : j < L.length) → j < k → (L[j]).2 ≤ t))
  case atStart => exact ⟨0, F, by omega, World.ownsRow_nil _ _ _ _, H0.out, Keep.refl _ _, Grows.refl _ _, fun q hq => (by cases hq), HBs.out, fun j _ hj => absurd hj (Nat.not_lt_zero _)⟩
  case round =>
    obtain ⟨k, G, hk, hown, hq, hK, hG, hoff, hBw, hle⟩ := hrel
    have hfirst := kfirst_any p G (L.drop k) wr hq
    have HQ := Lib.hid hq
    have HK := Lib.hid hK
    have HG := Lib.hid hG
    have HO := Lib.hid hoff
    have HL := Lib.hid hle
    clear hq hK hG hoff hle
    obtain ⟨z, u, rfl, hu1, hu2, hz, hzb⟩ := Holds.of_own_at hown
    have hend : ∀ w2 : World, Ext wr w2 → k ≤ L.length → (∀ hh : k < L.length, ¬ (L[k]).2 ≤ t) → ∃ G z' u', Ending.returned (.slice z k u) = .returned (.slice z' (dueN L t) u') ∧ dueN L t ≤ u' ∧ u' ≤ maxLen ∧ Holds .i64 w2 z' (dueN L t) (dueF L) ∧ Keep F w w2 ∧ TQ w2 p G (L.drop (dueN L t)) ∧ Grows F G w ∧ Fresh w z' ∧ Off G z' := fun w2 x2 hkl hno => by
      rw [dueN_at L t k HL.out hkl hno]
      exact ⟨G, z, u, rfl, hu1, hu2, hz.ext x2, HK.out.trans_ext x2, HQ.out.keep (Keep.of_ext (F := fun _ => False) x2) (fun _ _ x => x), HG.out, fun q hq => by rw [← HB.out]; exact hzb q hq, fun q hq => HO.out _ (by rw [hq]; rfl)⟩
    have HE := Lib.hid hend
    clear hend
    cases hL : L.drop k with
    | nil =>
      rw [hL] at hfirst
      simp only [firstI] at hfirst
      have hkl : L.length ≤ k := List.drop_eq_nil_iff.1 hL
      have hkn := HN.out
      have HE2 := Lib.hid (fun w2 x2 => HE.out w2 x2 (by omega) (fun hh => absurd hh (by omega)))
      clear hL hkl HE hkn hown
      go_wp2_with fail
      refine hfirst.mono ?_; rintro e w1 ⟨rfl, x1⟩
      go_wp2
      go_ret
      exact HE2.out w1 x1
    | cons x M =>
      rw [hL] at hfirst
      have hkl : k < L.length := by
        rcases Nat.lt_or_ge k L.length with h | h
        · exact h
        · rw [List.drop_of_length_le h] at hL; cases hL
      have hx : L[k] = x := by
        have := congrArg List.head? hL
        rw [List.head?_drop] at this
        simpa [hkl] using this
      have hM : L.drop (k + 1) = M := by
        have := congrArg List.tail hL
        rw [List.tail_drop] at this
        exact this
      obtain ⟨x0, x1⟩ := x
      simp only [firstI] at hfirst
      by_cases hlt : t < x1
      · have HE2 := Lib.hid (fun w2 x2 => HE.out w2 x2 (by omega) (fun _ => by rw [hx]; exact Int.not_le.2 hlt))
        clear hL hkl HE hx hM hown
        go_wp2_with fail
        refine hfirst.mono ?_; rintro e w1 ⟨rfl, x1⟩
        go_wp2
        go_ret
        exact HE2.out w1 x1
      · have hq1 := HQ.out
        rw [hL] at hq1
        have HX := Lib.hid (show ∃ h : k < L.length, L[k] = (x0, x1) from ⟨hkl, hx⟩)
        have HM := Lib.hid hM
        have hkn : k < n := by rw [HN.out]; exact hkl
        have HKN := Lib.hid hkn
        have HLt := Lib.hid hlt
        clear hL hkl hx hM HE HQ hkn
        go_wp2_with fail
        refine hfirst.mono ?_; rintro e w1 ⟨rfl, y1⟩
        obtain ⟨pb, c, hpop⟩ := kpop_any p G (x0, x1) M w1 (hq1.keep (Keep.of_ext (F := fun _ => False) y1) (fun _ _ x => x))
        simp only at hpop
        have hown1 := own_ext hown y1
        have hk1 := HK.out.trans_ext y1
        have hBw1 : B ≤ w1.heap.size := Nat.le_trans hBw y1.size
        have HK1 := Lib.hid hk1
        have hoff1 : ∀ q, (Value.slice z k u).ownBlock = some q → ¬ G q := HO.out
        clear hfirst hown hq1 HK hk1 hBw y1 hz
        have hta := fun w => assert_due w (.agg #[.int .i64 x0, .int .i64 x1])
        have hfd := fun w => field_due w x0 x1
        go_wp2_with fail
        refine hpop.mono ?_; rintro e w2 ⟨rfl, G2, k2, g2, hq2⟩
        have hbase : ∀ q, (Value.slice z k u).ownBlock = some q → B ≤ q ∧ q < w1.heap.size := fun q hq => hown1.lt q hq
        have hown2 : w2.ownsRow B 3 1 (.slice z k u) k (lst .i64 (dueF L) k) := own_kept hown1 (fun q hq => k2.block q (hbase q hq).2 (hoff1 q hq))
        have hoff2 : ∀ q, (Value.slice z k u).ownBlock = some q → ¬ G2 q := fun q hq hg => (g2 q hg).elim (hoff1 q hq) (fun h => absurd h (by have := (hbase q hq).2; omega))
        have HBase := Lib.hid hbase
        have HOff2 := Lib.hid hoff2
        have HK2 := Lib.hid (HK1.out.trans k2 (fun i hi => by
          rcases HG.out i hi with h | h
          · exact .inl h
          · exact .inr h))
        have HG2 := Lib.hid (HG.out.trans g2 (by have := HK1.out.size; exact this))
        have hBw2 : B ≤ w2.heap.size := Nat.le_trans hBw1 k2.size
        have HQ2 := Lib.hid hq2
        clear hpop hown1 HK1 hoff1 HO HG k2 g2 hbase hoff2 hq2 hBw1 c hzb
        go_wp2_with (at_builtin; refine wpList_append_lies _ rfl (.tmp 23) (.tmp 32) _ rfl B 3 i0 _ 1 8 Try.underlying45 hi0 hz0 hz1 hz2 rfl (by omega) (.slice z k u) k _ rfl (own_ext hown2 (Ext.alloc _ _)) ⟨w2.heap.size, 0, none⟩ 1 1 [.int .i64 x0] rfl rfl (World.news_of_block (heap_alloc_new _ _)) (by simp [Value.oneCell']) (by omega) (by unfold maxLen; omega) (by omega) (by simp; omega) (w2.heap.size + 1) (by simp) ?_; intro q cap w3 hown3 hgr3 hat3 hlt3)
        have hq3 : TQ w3 p G2 M := ((HQ2.out.keep (Keep.of_ext (F := fun _ => False) (Ext.alloc _ _)) (fun _ _ x => x)).grown hgr3 HOff2.out)
        have hG2lt := HQ2.out.lt
        have hoff3 : ¬ G2 q := by
          rcases hat3 with h | h
          · exact HOff2.out q h
          · intro hg; have := hG2lt q hg; omega
        have hK3 : Keep F w w3 := ((HK2.out.trans_ext (Ext.alloc _ _)).trans (G := fun i => (Value.slice z k u).ownBlock = some i) ⟨hgr3.os, hgr3.tape, hgr3.output, hgr3.size, fun j hj hn => hgr3.block j hj (fun e => hn e.symm)⟩ (fun i hi => .inr (by rw [← HB.out]; exact (HBase.out i hi).1)))
        have hBw3 : B ≤ w3.heap.size := by have := hgr3.size; simp at this; omega
        have hl3 : lst .i64 (dueF L) k ++ [.int .i64 x0] = lst .i64 (dueF L) (k + 1) := by
          obtain ⟨hkl, hx⟩ := HX.out
          rw [← lst_succ]
          have : dueF L k = x0 := by unfold dueF; rw [List.getD_eq_getElem?_getD, List.getElem?_eq_getElem hkl, hx]; rfl
          rw [this]
        rw [hl3] at hown3
        clear hown2 hgr3 hat3 hlt3 HBase HOff2 HK2 HQ2 hG2lt hl3
        go_wp2
        go_roundg (n - (k + 1))
        case measure => have := HKN.out; omega
        case rel =>
          have hkn := HKN.out
          refine ⟨k + 1, G2, by omega, hown3, by rw [HM.out]; exact hq3, hK3, HG2.out, fun q' hq' => by cases hq'; exact hoff3, hBw3, fun j hj hjk => ?_⟩
          by_cases e : j = k
          · subst e
            obtain ⟨hkl, hx⟩ := HX.out
            rw [hx]; exact HLt.out
          · exact HL.out j hj (by omega)
end Go.Proofs.Ytgjfomnipjljoaa
