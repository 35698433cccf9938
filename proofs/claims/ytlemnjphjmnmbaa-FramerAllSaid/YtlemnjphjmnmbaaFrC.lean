/-
  CONTRACTS: package framer: 'FrRow w p A cp x': the framer at block p is x, its open segment's bytes lying from A on.
-/
import Derived.Test.YtlemnjphjmnmbaaFrP
import Derived.Test.YtlemnjphjmnmbaaSplitE
import Derived.Deep.MidRow
namespace Go.Proofs.Ytlemnjphjmnmbaa
open Go.RowKit
set_option linter.unusedVariables false

/-- A framer's cells. -/
def frC (A : Option Addr) (cp : Nat) (x : Fr) : Array Value :=
  #[.int .i64 x.c, .int .i64 x.s, .int .i64 x.l, .int .i64 x.u, .int .i64 x.since, .int .i64 x.now, .slice A x.sg.n cp, .int .i64 x.sg.first, .int .i64 x.sg.last, .int .i64 x.sg.count, .bool x.sg.gap, .bool x.sg.bad]
def FrRow (w : World) (p : Nat) (A : Option Addr) (cp : Nat) (x : Fr) : Prop := w.heap[p]? = some (.cells (frC A cp x) 58 (0, 0))
theorem FrRow.ext {w w' : World} {p : Nat} {A : Option Addr} {cp : Nat} {x : Fr} (h : FrRow w p A cp x) (k : Ext w w') : FrRow w' p A cp x := k.block h
theorem FrRow.lt {w : World} {p : Nat} {A : Option Addr} {cp : Nat} {x : Fr} (h : FrRow w p A cp x) : p < w.heap.size := heap_lt h
/-- One block has changed. -/
theorem Keep.one {w w' : World} {p : Nat} (h1 : w'.os = w.os) (h2 : w'.tape = w.tape) (h3 : w'.output = w.output) (h4 : w.heap.size ≤ w'.heap.size) (h : ∀ q, q ≠ p → w'.heap[q]? = w.heap[q]?) : Keep (fun i => i = p) w w' :=
  ⟨h1, h2, h3, h4, fun k _ hk => h k hk⟩
theorem Keep.set (w : World) (p k : Nat) (v : Value) : Keep (fun i => i = p) w (w.setCell ⟨p, k, none⟩ v) :=
  .one rfl rfl rfl (by simp [World.setCell]) fun q hq => heap_setCell_other _ _ _ _ hq
theorem Keep.row (w : World) (p : Nat) (cs : Array Value) : Keep (fun i => i = p) w (w.setRow p cs) :=
  .one rfl rfl rfl (by simp [World.setRow]) fun q hq => setRow_other _ _ _ _ hq
theorem Keep.same {F : Nat → Prop} {a b c : World} (h : Keep F a b) (k : Keep F b c) : Keep F a c := h.trans k fun _ x => .inl x

theorem fmade_nil (w : World) : Calls Try.prog 36 #[.pointer none] w fun e w' => e = .returned (.bool false) ∧ w = w' := by
  go_enter Try.func36, Try.ntmps36
  go_wp2
  go_ret
  exact ⟨rfl, rfl⟩
theorem fmade_any (p : Nat) (A : Option Addr) (cp : Nat) (x : Fr) (w : World) (h : FrRow w p A cp x) :
    Calls Try.prog 36 #[.pointer (some ⟨p, 0, none⟩)] w fun e w' => e = .returned (.bool (rightB x.c x.s x.l x.u)) ∧ Ext w w' := by
  obtain ⟨c, s, l, u, f, t, ⟨n, g, t0, t1, k, gp, bd⟩⟩ := x
  have hr := kright0 c s l u w
  unfold FrRow frC at h
  simp only at h ⊢
  have c0 := cell_of_heap (j := 0) h rfl
  have c1 := cell_of_heap (j := 1) h rfl
  have c2 := cell_of_heap (j := 2) h rfl
  have c3 := cell_of_heap (j := 3) h rfl
  clear h
  go_enter Try.func36, Try.ntmps36
  go_wp2_with fail
  refine hr.mono ?_; rintro e w1 ⟨rfl, x1⟩
  go_wp2
  go_ret
  exact ⟨rfl, x1⟩
theorem fopen_nil (w : World) : Calls Try.prog 25 #[.pointer none] w fun e w' => e = .returned (.bool false) ∧ w = w' := by
  go_enter Try.func25, Try.ntmps25
  go_wp2
  go_ret
  exact ⟨rfl, rfl⟩
theorem fopen_any (p : Nat) (A : Option Addr) (cp : Nat) (x : Fr) (w : World) (h : FrRow w p A cp x) :
    Calls Try.prog 25 #[.pointer (some ⟨p, 0, none⟩)] w fun e w' => e = .returned (.bool (decide (0 < x.sg.count))) ∧ w = w' := by
  obtain ⟨c, s, l, u, f, t, ⟨n, g, t0, t1, k, gp, bd⟩⟩ := x
  unfold FrRow frC at h
  simp only at h ⊢
  have c9 := cell_of_heap (j := 9) h rfl
  clear h
  by_cases hk : 0 < k
  · go_enter Try.func25, Try.ntmps25
    go_wp2
    go_ret
    exact ⟨by simp [hk], rfl⟩
  · go_enter Try.func25, Try.ntmps25
    go_wp2
    go_ret
    exact ⟨by simp [hk], rfl⟩
set_option maxHeartbeats 1000000 in
theorem fover_any (p : Nat) (A : Option Addr) (cp : Nat) (x : Fr) (w : World) (h : FrRow w p A cp x) (hx : FrOk x) :
    Calls Try.prog 31 #[.pointer (some ⟨p, 0, none⟩)] w fun e w' => e = .returned (.bool (overB x x.now)) ∧ Ext w w' := by
  have hop := fun w (h : FrRow w p A cp x) => fopen_any p A cp x w h
  have hl := hx.last
  have h0 := hx.since0
  have h1 := hx.now1
  obtain ⟨c, s, l, u, f, t, ⟨n, g, t0, t1, k, gp, bd⟩⟩ := x
  unfold overB
  have hrow := h
  unfold FrRow frC at h
  simp only at h hop hl h0 h1 ⊢
  have c2 := cell_of_heap (j := 2) h rfl
  have c5 := cell_of_heap (j := 5) h rfl
  have c8 := cell_of_heap (j := 8) h rfl
  have HOp := Lib.hid (fun w' (x : Ext w w') => hop w' (hrow.ext x))
  clear hop h hrow
  by_cases hk : 0 < k
  · obtain ⟨l0, l1⟩ := hl hk
    obtain ⟨D, hD⟩ : ∃ D, t - t1 = D := ⟨_, rfl⟩
    have HS := Lib.hid (fun w => since_v (a := t1) (d := t) w (by omega) (by omega) (by omega) hD)
    have e : decide (0 < k ∧ l ≤ t - t1) = decide (l ≤ D) := by rw [← hD]; simp [hk]
    rw [e]
    rw [decide_eq_true hk] at HOp
    clear e hD l0 l1 hl h0 h1 hx
    go_enter Try.func31, Try.ntmps31
    go_wp2_with fail
    go_quiet ((first
      | (go_at_call 25; exact Calls.quiet_of_same ((HOp.out _ (Ext.drewN _ _)).mono fun e w' h => ⟨h.1, h.2.symm⟩))
      | (go_at_call 44; exact Calls.quiet_of_same ((HS.out _).mono fun e w' h => ⟨h.1, h.2.symm⟩))))
    go_wp2
    go_ret
    exact ⟨rfl, Ext.drewN _ _⟩
  · have e : decide (0 < k ∧ l ≤ t - t1) = false := by simp [hk]
    rw [e]
    rw [decide_eq_false hk] at HOp
    clear e hl h0 h1 hx
    go_enter Try.func31, Try.ntmps31
    go_wp2_with fail
    go_quiet ((first
      | (go_at_call 25; exact Calls.quiet_of_same ((HOp.out _ (Ext.drewN _ _)).mono fun e w' h => ⟨h.1, h.2.symm⟩))))
    go_wp2
    go_ret
    exact ⟨rfl, Ext.drewN _ _⟩
/-- Time goes on. -/
theorem fwait_any (p : Nat) (A : Option Addr) (cp : Nat) (x : Fr) (v : Int) (w : World) (h : FrRow w p A cp x) :
    Calls Try.prog 30 #[.pointer (some ⟨p, 0, none⟩), .int .i64 v] w fun e w' => e = .returned (.tuple #[]) ∧ Keep (fun i => i = p) w w' ∧ FrRow w' p A cp { x with now := v } := by
  obtain ⟨c, s, l, u, f, t, ⟨n, g, t0, t1, k, gp, bd⟩⟩ := x
  unfold FrRow frC at h ⊢
  simp only at h ⊢
  have f5 := frozen_of_row _ _ 5 _ _ h
  have c5 := cell_of_heap (j := 5) h rfl
  have hend := And.intro (Keep.set w p 5 (.int .i64 v)) ((heap_setCell_same _ _ 5 _ _ (.int .i64 v) h).trans rfl)
  have HEnd := Lib.hid hend
  clear hend h
  go_enter Try.func30, Try.ntmps30
  go_wp2
  go_end0
  exact ⟨rfl, HEnd.out⟩
/-- The line is silent, and nothing came. -/
theorem fstart_any (p : Nat) (A : Option Addr) (cp : Nat) (x : Fr) (v : Int) (w : World) (h : FrRow w p A cp x) :
    Calls Try.prog 20 #[.pointer (some ⟨p, 0, none⟩), .int .i64 v] w fun e w' => e = .returned (.tuple #[]) ∧ Keep (fun i => i = p) w w' ∧ FrRow w' p none 0 (newF x.c x.s x.l x.u v) := by
  obtain ⟨c, s, l, u, f, t, ⟨n, g, t0, t1, k, gp, bd⟩⟩ := x
  have hend := And.intro (Keep.row w p (frC none 0 (newF c s l u v))) (setRow_heap _ _ _ (frC none 0 (newF c s l u v)) _ _ h)
  have HEnd := Lib.hid hend
  unfold FrRow frC at h
  simp only at h ⊢
  have c0 := cell_of_heap (j := 0) h rfl
  have c1 := cell_of_heap (j := 1) h rfl
  have c2 := cell_of_heap (j := 2) h rfl
  have c3 := cell_of_heap (j := 3) h rfl
  clear hend
  go_enter Try.func20, Try.ntmps20
  go_wp2_with (refine wpList_store_row rfl 58 (.tmp 12) (.tmp 11) rfl p _ rfl rfl 58 _ h (by kernel_rfl) (by rfl) (by simp [Value.oneCell']) ?_)
  go_end0
  exact ⟨rfl, HEnd.out⟩
theorem fgo_nil (v : Int) (q : Value) (w : World) : Calls Try.prog 19 #[.pointer none, .int .i64 v, q] w fun e w' => e = .returned (.int .i64 11) ∧ w = w' := by
  go_enter Try.func19, Try.ntmps19
  go_wp2_with fail
  refine (fmade_nil _).mono ?_; rintro e w1 ⟨rfl, rfl⟩
  go_wp2
  go_ret
  exact ⟨rfl, rfl⟩
theorem clamp_ne {v : Int} (h : ¬ (0 ≤ v ∧ v ≤ 1099511627776)) : (clampI v != v) = true := by
  have := clampI_lo v; have := clampI_hi v
  simp; omega
theorem fgo_no (p : Nat) (A : Option Addr) (cp : Nat) (x : Fr) (v : Int) (q : Value) (w : World) (h : FrRow w p A cp x)
    (hno : rightB x.c x.s x.l x.u = false ∨ ¬ (0 ≤ v ∧ v ≤ 1099511627776) ∨ v < x.now) :
    Calls Try.prog 19 #[.pointer (some ⟨p, 0, none⟩), .int .i64 v, q] w fun e w' => e = .returned (.int .i64 11) ∧ Ext w w' := by
  have hm := fmade_any p A cp x w h
  have hc := fun w => kclamp_in v w
  have c5 : ∀ w', Ext w w' → w'.cell? ⟨p, 5, none⟩ = some (.int .i64 x.now) := fun w' k => cell_of_heap (j := 5) (h.ext k) rfl
  cases hr : rightB x.c x.s x.l x.u
  · rw [hr] at hm
    clear h hno hr hc c5
    go_enter Try.func19, Try.ntmps19
    go_wp2_with fail
    refine hm.mono ?_; rintro e w1 ⟨rfl, x1⟩
    go_wp2
    go_ret
    exact ⟨rfl, x1⟩
  · rw [hr] at hm hno
    by_cases hv : 0 ≤ v ∧ v ≤ 1099511627776
    · have hlt : v < x.now := by rcases hno with e | e | e; cases e; exact absurd hv e; exact e
      rw [clampI_in hv.1 hv.2] at hc
      have C5 := Lib.hid c5
      clear h hno hr hv c5
      go_enter Try.func19, Try.ntmps19
      go_wp2_with fail
      refine hm.mono ?_; rintro e w1 ⟨rfl, x1⟩
      have c5 := C5.out _ x1
      clear C5 hm
      go_wp2_with fail
      refine (hc _).mono ?_; rintro e w2 ⟨rfl, rfl⟩
      clear hc
      go_wp2
      go_ret
      exact ⟨rfl, x1⟩
    · have hne := clamp_ne hv
      generalize clampI v = Z at hc hne
      clear h hno hr hv c5
      go_enter Try.func19, Try.ntmps19
      go_wp2_with fail
      refine hm.mono ?_; rintro e w1 ⟨rfl, x1⟩
      clear hm
      go_wp2_with fail
      refine (hc _).mono ?_; rintro e w2 ⟨rfl, rfl⟩
      clear hc
      go_wp2
      go_ret
      exact ⟨rfl, x1⟩
theorem fgo_start (p : Nat) (A : Option Addr) (cp : Nat) (x : Fr) (v : Int) (w : World) (h : FrRow w p A cp x) (hr : rightB x.c x.s x.l x.u = true) (hv : 0 ≤ v ∧ v ≤ 1099511627776) (hlt : x.now ≤ v) :
    Calls Try.prog 19 #[.pointer (some ⟨p, 0, none⟩), .int .i64 v, .func (.func 20) #[.pointer (some ⟨p, 0, none⟩)] #[]] w
      fun e w' => e = .returned (.int .i64 0) ∧ Keep (fun i => i = p) w w' ∧ FrRow w' p none 0 (newF x.c x.s x.l x.u v) := by
  have hm := fmade_any p A cp x w h
  have hc := fun w => kclamp_in v w
  have hs := fun w' (k : Ext w w') => fstart_any p A cp x v w' (h.ext k)
  have c5 : ∀ w', Ext w w' → w'.cell? ⟨p, 5, none⟩ = some (.int .i64 x.now) := fun w' k => cell_of_heap (j := 5) (h.ext k) rfl
  have hlt' : ¬ v < x.now := by omega
  rw [hr] at hm
  rw [clampI_in hv.1 hv.2] at hc
  have C5 := Lib.hid c5
  have HS := Lib.hid hs
  clear h hr hv c5 hs hlt
  go_enter Try.func19, Try.ntmps19
  go_wp2_with fail
  refine hm.mono ?_; rintro e w1 ⟨rfl, x1⟩
  have c5 := C5.out _ x1
  clear C5 hm
  go_wp2_with fail
  refine (hc _).mono ?_; rintro e w2 ⟨rfl, rfl⟩
  clear hc
  go_wp2_with fail
  refine (HS.out _ x1).mono ?_; rintro e w3 ⟨rfl, k3, r3⟩
  clear HS c5
  go_wp2
  go_ret
  exact ⟨rfl, (Keep.of_ext x1).same k3, r3⟩
theorem fgo_wait (p : Nat) (A : Option Addr) (cp : Nat) (x : Fr) (v : Int) (w : World) (h : FrRow w p A cp x) (hr : rightB x.c x.s x.l x.u = true) (hv : 0 ≤ v ∧ v ≤ 1099511627776) (hlt : x.now ≤ v) :
    Calls Try.prog 19 #[.pointer (some ⟨p, 0, none⟩), .int .i64 v, .func (.func 30) #[.pointer (some ⟨p, 0, none⟩)] #[]] w
      fun e w' => e = .returned (.int .i64 0) ∧ Keep (fun i => i = p) w w' ∧ FrRow w' p A cp { x with now := v } := by
  have hm := fmade_any p A cp x w h
  have hc := fun w => kclamp_in v w
  have hs := fun w' (k : Ext w w') => fwait_any p A cp x v w' (h.ext k)
  have c5 : ∀ w', Ext w w' → w'.cell? ⟨p, 5, none⟩ = some (.int .i64 x.now) := fun w' k => cell_of_heap (j := 5) (h.ext k) rfl
  have hlt' : ¬ v < x.now := by omega
  rw [hr] at hm
  rw [clampI_in hv.1 hv.2] at hc
  have C5 := Lib.hid c5
  have HS := Lib.hid hs
  clear h hr hv c5 hs hlt
  go_enter Try.func19, Try.ntmps19
  go_wp2_with fail
  refine hm.mono ?_; rintro e w1 ⟨rfl, x1⟩
  have c5 := C5.out _ x1
  clear C5 hm
  go_wp2_with fail
  refine (hc _).mono ?_; rintro e w2 ⟨rfl, rfl⟩
  clear hc
  go_wp2_with fail
  refine (HS.out _ x1).mono ?_; rintro e w3 ⟨rfl, k3, r3⟩
  clear HS c5
  go_wp2
  go_ret
  exact ⟨rfl, (Keep.of_ext x1).same k3, r3⟩
end Go.Proofs.Ytlemnjphjmnmbaa
