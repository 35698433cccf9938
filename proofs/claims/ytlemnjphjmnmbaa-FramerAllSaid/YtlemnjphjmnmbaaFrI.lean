/-
  CONTRACTS: package framer: Due, Held, Clone.
-/
import Derived.Test.YtlemnjphjmnmbaaFrH
import Derived.Test.YtlemnjphjmnmbaaSlNil
namespace Go.Proofs.Ytlemnjphjmnmbaa
open Go.RowKit
set_option linter.unusedVariables false

theorem kadd_same (a d : Int) (w : World) : Calls Try.prog 26 #[.int .i64 a, .int .i64 d] w fun e w' => e = .returned (.int .i64 (addI a d)) ∧ w = w' := by
  go_enter Try.func26, Try.ntmps26
  go_wp2_with fail
  refine (kadd_in a d _).mono ?_; rintro e w' ⟨rfl, rfl⟩
  go_wp2
  go_ret
  exact ⟨rfl, rfl⟩
theorem fheld_nil (w : World) : Calls Try.prog 11 #[.pointer none] w fun e w' => e = .returned (.int .i64 0) ∧ w = w' := by
  go_enter Try.func11, Try.ntmps11
  go_wp2_with fail
  refine (fopen_nil _).mono ?_; rintro e w' ⟨rfl, rfl⟩
  go_wp2
  go_ret
  exact ⟨rfl, rfl⟩
theorem fheld_any (p : Nat) (F : Nat → Prop) (x : Fr) (w : World) (h : FR w p F x) :
    Calls Try.prog 11 #[.pointer (some ⟨p, 0, none⟩)] w fun e w' => e = .returned (.int .i64 (x.sg.n : Int)) ∧ w = w' := by
  obtain ⟨ok, A, cp, hm, hF⟩ := h
  have hop := fopen_any p A cp x w hm.row
  have c6 : w.cell? ⟨p, 6, none⟩ = some (.slice A x.sg.n cp) := cell_of_heap (j := 6) hm.row rfl
  have hn : ¬ 0 < x.sg.count → x.sg.n = 0 := fun h => by rw [ok.none (by have := ok.count; omega)]; rfl
  generalize x.sg.n = n at c6 hn ⊢
  by_cases hk : 0 < x.sg.count
  · rw [decide_eq_true hk] at hop
    clear ok hm hF hn hk
    go_enter Try.func11, Try.ntmps11
    go_wp2_with fail
    refine hop.mono ?_; rintro e w' ⟨rfl, rfl⟩
    go_wp2
    go_ret
    exact ⟨rfl, rfl⟩
  · rw [decide_eq_false hk] at hop
    obtain rfl := hn hk
    clear ok hm hF hn hk
    go_enter Try.func11, Try.ntmps11
    go_wp2_with fail
    refine hop.mono ?_; rintro e w' ⟨rfl, rfl⟩
    go_wp2
    go_ret
    exact ⟨rfl, rfl⟩
/-- When the open segment is over. -/
def dueI (x : Fr) : Int := if 0 < x.sg.count then addI x.sg.last x.l else 0
set_option maxHeartbeats 1000000 in
theorem fdue_any (p : Nat) (F : Nat → Prop) (x : Fr) (w : World) (h : FR w p F x) :
    Calls Try.prog 9 #[.pointer (some ⟨p, 0, none⟩)] w fun e w' => e = .returned (.tuple #[.int .i64 (dueI x), .bool (decide (0 < x.sg.count))]) ∧ Ext w w' := by
  obtain ⟨ok, A, cp, hm, hF⟩ := h
  have hop := fopen_any p A cp x w hm.row
  have c8 : w.cell? ⟨p, 8, none⟩ = some (.int .i64 x.sg.last) := cell_of_heap (j := 8) hm.row rfl
  have c2 : w.cell? ⟨p, 2, none⟩ = some (.int .i64 x.l) := cell_of_heap (j := 2) hm.row rfl
  unfold dueI
  have HA := Lib.hid (fun w => kadd_same x.sg.last x.l w)
  by_cases hk : 0 < x.sg.count
  · rw [decide_eq_true hk] at hop ⊢
    rw [if_pos hk]
    generalize addI x.sg.last x.l = v at HA ⊢
    clear ok hm hF hk
    go_enter Try.func9, Try.ntmps9
    go_wp2_with fail
    refine hop.mono ?_; rintro e w' ⟨rfl, rfl⟩
    go_wp2_with fail
    go_quiet ((go_at_call 26; exact Calls.quiet_of_same ((HA.out _).mono fun e w' h => ⟨h.1, h.2.symm⟩)))
    go_wp2
    go_ret2
    exact ⟨rfl, Ext.drewN _ _⟩
  · rw [decide_eq_false hk] at hop ⊢
    rw [if_neg hk]
    clear ok hm hF hk HA
    go_enter Try.func9, Try.ntmps9
    go_wp2_with fail
    refine hop.mono ?_; rintro e w' ⟨rfl, rfl⟩
    go_wp2
    go_ret2
    exact ⟨rfl, Ext.refl _⟩
theorem sclone8_any (A : Option Addr) (n cp : Nat) (f : Nat → Int) (w : World) (h : w.ownsRow 0 5 1 (.slice A n cp) n (lst .u8 f n)) (hn : n ≤ 256) :
    Calls Try.prog 39 #[.slice A n cp] w fun e w' => ∃ A' c', e = .returned (.slice A' n c') ∧ w'.ownsRow w.heap.size 5 1 (.slice A' n c') n (lst .u8 f n) ∧ Ext w w' := by
  obtain ⟨i8, hi8, hz80, hz81, hz82⟩ := info_parts Try.info8e
  have hq := run_eql_slice_nil (P := Try.prog) w 42 _ A n cp Try.underlying42
  obtain ⟨A2, c2, hv, h1, h2, hh, h3⟩ := Holds.of_own_at h
  injection hv with e1 e2 e3
  subst e1; subst e3
  cases A with
  | none =>
    have hn0 : n = 0 := by
      rcases h.2 with ⟨_, e⟩ | ⟨g, cap, cur, hv, _⟩
      · exact e
      · cases hv
    subst hn0
    clear h hh h3
    go_enter Try.func39, Try.ntmps39
    go_wp2
    go_ret
    exact ⟨none, 0, rfl, by rw [lst_zero]; exact World.ownsRow_nil _ _ _ _, Ext.refl _⟩
  | some a =>
    have HH := Lib.hid hh
    clear h hh h3
    go_enter Try.func39, Try.ntmps39
    go_wp2_with (at_builtin; refine wpList_append_holds (mk := Value.int .u8) rfl (.tmp 5) (.tmp 6) _ rfl w.heap.size 5 i8 (.int .u8 0) 1 Try.underlying42 hi8 hz80 hz81 hz82 rfl _ 0 [] rfl (World.ownsRow_lit w #[] 0 (Nat.le_refl _) (by unfold maxLen; omega) rfl) (some a) n cp f rfl (Holds.ext HH.out (Ext.alloc _ _)) (fun _ => rfl) (by unfold maxLen; omega) (by omega) (by simp) ?_; intro v2 w2 hown2 hgr2 hb2; have x2 : Ext w w2 := ((Below.refl _ _).alloc (Nat.le_refl _) _).trans hb2)
    have hown3 : w2.ownsRow w.heap.size 5 1 v2 n (lst .u8 f n) := by simpa [lst, lstG] using hown2
    obtain ⟨A', c', hv', -, -, -, -⟩ := Holds.of_own_at hown3
    subst hv'
    go_ret
    exact ⟨A', c', rfl, hown3, x2⟩
set_option maxRecDepth 100000 in
set_option maxHeartbeats 4000000 in
/-- Another one. -/
theorem fclone_any (p : Nat) (F : Nat → Prop) (x : Fr) (w : World) (h : FR w p F x) :
    Calls Try.prog 24 #[.pointer (some ⟨p, 0, none⟩)] w fun e w' => ∃ q G, e = .returned (.pointer (some ⟨q, 0, none⟩)) ∧ Ext w w' ∧ FR w' q G x ∧ Above w G := by
  obtain ⟨ok, A, cp, hm, hF⟩ := h
  obtain ⟨W, hW⟩ : ∃ W, W = w.alloc (.cells (frC A cp x) 58) := ⟨_, rfl⟩
  obtain ⟨C, hC⟩ : ∃ C, C = w.heap.size := ⟨_, rfl⟩
  have xW : Ext w W := by rw [hW]; exact Ext.alloc _ _
  have gC : W.heap[C]? = some (.cells (frC A cp x) 58 (0, 0)) := by rw [hW, hC]; exact heap_alloc_new _ _
  have hrow := hm.row
  have hcl := sclone8_any A x.sg.n cp x.sg.f W (own_ext hm.own xW) ok.few
  have c6 : w.cell? ⟨p, 6, none⟩ = some (.slice A x.sg.n cp) := cell_of_heap (j := 6) hm.row rfl
  have d6 := xW.cell hm.row.lt c6
  have hpC : p < w.heap.size := hm.row.lt
  have HOk := Lib.hid ok
  have HX := Lib.hid xW
  have HC := Lib.hid hC
  have HG := Lib.hid gC
  have HW := Lib.hid hW
  clear ok hm hF hW hC xW gC
  obtain ⟨c, s, l, u, f, t, ⟨n, g, t0, t1, k, gp, bd⟩⟩ := x
  unfold FrRow at hrow
  unfold frC at hrow HG HW
  simp only at hrow HG HW hcl c6 d6
  have hfin : ∀ w2 A' c', w2.ownsRow W.heap.size 5 1 (.slice A' n c') n (lst .u8 g n) → Ext W w2 →
      (w2.frozen? ⟨C, 6, none⟩ = false ∧ w2.cell? ⟨C, 6, none⟩ = some (.slice A n cp)) ∧ Ext w (w2.setCell ⟨C, 6, none⟩ (.slice A' n c')) ∧ FR (w2.setCell ⟨C, 6, none⟩ (.slice A' n c')) C (FrF C A' n c') ⟨c, s, l, u, f, t, ⟨n, g, t0, t1, k, gp, bd⟩⟩ ∧ Above w (FrF C A' n c') := by
    intro w2 A' c' ho x2
    have g2 := x2.block HG.out
    have hne : ∀ q, (Value.slice A' n c').ownBlock = some q → q ≠ C := fun q hq => by
      have := (ho.lt q hq).1; have := heap_lt HG.out; omega
    refine ⟨⟨frozen_of_row _ _ 6 _ _ g2, cell_of_heap (j := 6) g2 rfl⟩, Below.set (HX.out.trans x2) (Nat.le_of_eq HC.out.symm) _, ⟨HOk.out, A', c', ⟨(heap_setCell_same _ _ 6 _ _ (.slice A' n c') g2).trans rfl, ?_, fun e => hne C e rfl⟩, fun i => Iff.rfl⟩, ?_⟩
    · exact own_same (own_base ho (Nat.zero_le _)) fun q hq => heap_setCell_other _ _ _ _ (by have := hne q hq; simpa using this)
    · rintro i (e | e)
      · rw [e]; exact Nat.le_of_eq HC.out.symm
      · have := (ho.lt i e).1; have := HX.out.size; omega
  have HFin := Lib.hid hfin
  clear hfin HOk HX HG
  go_enter Try.func24, Try.ntmps24
  go_wp2_with (refine wpList_load_row rfl 58 (.tmp 7) rfl p rfl 58 _ (0, 0) _ hrow Try.underlying58 rfl (by kernel_rfl) ?_)
  rw [← HW.out, ← HC.out]
  clear HW c6 hrow
  refine hcl.mono ?_; rintro e w2 ⟨A', c', rfl, o2, x2⟩
  obtain ⟨⟨f2, c2⟩, hend⟩ := HFin.out w2 A' c' o2 x2
  have HEnd := Lib.hid hend
  clear HFin hcl d6 hpC o2 x2 hend
  go_wp2
  go_ret
  exact ⟨C, _, rfl, HEnd.out⟩
end Go.Proofs.Ytlemnjphjmnmbaa
