/-
  CONTRACTS: package framer: 'FR w p F x': the framer at block p is x; F: the blocks that it may change. New, Reset, Idle.
-/
import Derived.Test.YtlemnjphjmnmbaaFrE
namespace Go.Proofs.Ytlemnjphjmnmbaa
open Go.RowKit
set_option linter.unusedVariables false

def FR (w : World) (p : Nat) (F : Nat → Prop) (x : Fr) : Prop := FrOk x ∧ ∃ A cp, FrM w p A cp x ∧ ∀ i, F i ↔ FrF p A x.sg.n cp i
theorem FR.keep {G F : Nat → Prop} {w w' : World} {p : Nat} {x : Fr} (h : FR w p F x) (k : Keep G w w') (hG : ∀ i, F i → ¬ G i) : FR w' p F x := by
  obtain ⟨ok, A, cp, h, hF⟩ := h
  exact ⟨ok, A, cp, h.keep k fun i hi => hG i ((hF i).2 hi), hF⟩
theorem FR.ext {F : Nat → Prop} {w w' : World} {p : Nat} {x : Fr} (h : FR w p F x) (k : Ext w w') : FR w' p F x := h.keep (G := fun _ => False) (.of_ext k) (fun _ _ e => e)
theorem FR.lt {F : Nat → Prop} {w : World} {p : Nat} {x : Fr} (h : FR w p F x) : ∀ i, F i → i < w.heap.size := by
  obtain ⟨ok, A, cp, h, hF⟩ := h
  exact fun i hi => h.lt i ((hF i).1 hi)
theorem FR.ok {F : Nat → Prop} {w : World} {p : Nat} {x : Fr} (h : FR w p F x) : FrOk x := h.1
/-- A segment that was told: its bytes, off what may still change. -/
structure SegT (w : World) (G : Nat → Prop) (A : Option Addr) (c : Nat) (s : Seg) : Prop where
  holds : Holds .u8 w A s.n s.f
  le : s.n ≤ c
  max : c ≤ maxLen
  small : SegB s
  few : s.n ≤ 256
  off : Off G A
theorem SegT.nil (w : World) (G : Nat → Prop) : SegT w G none 0 zeroS := ⟨.inl rfl, Nat.le_refl _, Nat.zero_le _, zeroS_small, Nat.zero_le _, Off.nil _⟩
/-- Answers: a struct out of its cell, and two values more. -/
theorem results_row_tmp2 {P : Program} {fn : Func} {p u v : Tmp} {ty : TypeId} (h : fn.results = #[.cell p ty, .tmp u, .tmp v]) (tmps : Array Value) (w : World) (g : Nat) (t : TypeId) (cs : Array Value) (fr : Nat × Nat) (d : TypeDesc)
    (hp : tmps.getD p undef = .pointer (some ⟨g, 0, none⟩)) (hg : w.heap[g]? = some (.cells cs t fr))
    (hu : P.underlying ty = some d) (hd : (match d with | .struct _ | .array _ _ => true | _ => false) = true) (hi : (P.info? ty).map (·.size) = some cs.size) :
    (results fn tmps).run P w = .ok (.tuple #[.agg cs, tmps.getD u undef, tmps.getD v undef]) w := by
  have hp' : tmps[p]?.getD undef = .pointer (some ⟨g, 0, none⟩) := by simpa using hp
  simp [results, h, hp', asAddr, run_loadVar_row w g t ty cs fr d hg hu hd hi]

/-! ### New, Reset -/
theorem fnew_no (c s l u f : Int) (w : World) (h : rightB c s l u = false ∨ ¬ (0 ≤ f ∧ f ≤ 1099511627776)) :
    Calls Try.prog 6 #[timesC c s l u, .int .i64 f] w fun e w' => e = .returned (.pointer none) ∧ Ext w w' := by
  unfold timesC
  have hg := fun w' p (h' : FrRow w' p none 0 (newF c s l u 0)) => fgo_no p none 0 (newF c s l u 0) f (.func (.func 20) #[.pointer (some ⟨p, 0, none⟩)] #[]) w' h' (h.elim .inl (fun k => .inr (.inl k)))
  have HG := Lib.hid hg
  clear hg h
  go_enter Try.func6, Try.ntmps6
  go_wp2_with fail
  refine (HG.out _ _ (heap_new_at _ _ (by simp))).mono ?_; rintro e w1 ⟨rfl, x1⟩
  go_wp2
  go_ret
  exact ⟨rfl, ((Ext.alloc _ _).alloc' _).trans x1⟩
theorem fnew_yes (c s l u f : Int) (w : World) (h : rightB c s l u = true) (h0 : 0 ≤ f) (h1 : f ≤ 1099511627776) :
    Calls Try.prog 6 #[timesC c s l u, .int .i64 f] w fun e w' => ∃ p F, e = .returned (.pointer (some ⟨p, 0, none⟩)) ∧ Ext w w' ∧ FR w' p F (newF c s l u f) ∧ Above w F := by
  unfold timesC
  have hg := fun w' p (h' : FrRow w' p none 0 (newF c s l u 0)) => fgo_start p none 0 (newF c s l u 0) f w' h' h ⟨h0, h1⟩ h0
  have HG := Lib.hid hg
  have HOk := Lib.hid (newF_ok h h0 h1)
  clear hg h h0 h1
  go_enter Try.func6, Try.ntmps6
  go_wp2_with fail
  refine (HG.out _ _ (heap_new_at _ _ (by simp))).mono ?_; rintro e w1 ⟨rfl, k1, r1⟩
  have x1 : Ext w w1 := Ext.keep ((Ext.alloc _ _).alloc' _) k1 (fun i hi => by rw [hi]; simp)
  clear HG k1
  go_wp2
  go_ret
  refine ⟨_, fun i => FrF (w.heap.size + 1) none 0 0 i, rfl, x1, ⟨HOk.out, none, 0, ⟨r1, own_nil8 _, by simp [Value.ownBlock]⟩, fun i => Iff.rfl⟩, ?_⟩
  rintro i (e | e)
  · rw [e]; omega
  · cases e
theorem freset_nil (v : Int) (w : World) : Calls Try.prog 18 #[.pointer none, .int .i64 v] w fun e w' => e = .returned (.int .i64 11) ∧ Ext w w' := by
  go_enter Try.func18, Try.ntmps18
  go_wp2_with fail
  refine (fgo_nil _ _ _).mono ?_; rintro e w1 ⟨rfl, rfl⟩
  go_wp2
  go_ret
  exact ⟨rfl, Ext.refl _⟩
def resetF (x : Fr) (v : Int) : Fr := if errB x v = true then x else newF x.c x.s x.l x.u v
theorem err_no {x : Fr} {v : Int} (hx : FrOk x) (h : errB x v = true) : rightB x.c x.s x.l x.u = false ∨ ¬ (0 ≤ v ∧ v ≤ 1099511627776) ∨ v < x.now := by
  unfold errB at h; simp at h; omega
theorem err_yes {x : Fr} {v : Int} (hx : FrOk x) (h : errB x v = false) : (0 ≤ v ∧ v ≤ 1099511627776) ∧ x.now ≤ v := by
  unfold errB at h; simp at h; have := hx.since0; have := hx.since1; omega
theorem freset_any (p : Nat) (F : Nat → Prop) (x : Fr) (v : Int) (w : World) (h : FR w p F x) :
    Calls Try.prog 18 #[.pointer (some ⟨p, 0, none⟩), .int .i64 v] w fun e w' => ∃ G, e = .returned (.int .i64 (idleN x v)) ∧ Keep F w w' ∧ FR w' p G (resetF x v) ∧ Grows F G w := by
  have hh := h
  obtain ⟨ok, A, cp, hm, hF⟩ := h
  cases he : errB x v
  · obtain ⟨hv, hle⟩ := err_yes ok he
    have hg := fgo_start p A cp x v w hm.row ok.right hv hle
    have e1 : idleN x v = 0 := by unfold idleN; rw [he]; rfl
    have e2 : resetF x v = newF x.c x.s x.l x.u v := by unfold resetF; rw [he]; rfl
    rw [e1, e2]
    have HOk := Lib.hid (newF_ok ok.right hv.1 hv.2)
    have HFp := Lib.hid ((hF p).2 (.inl rfl))
    clear hh hm hF he hv hle ok e1 e2
    go_enter Try.func18, Try.ntmps18
    go_wp2_with fail
    refine hg.mono ?_; rintro e w1 ⟨rfl, k1, r1⟩
    clear hg
    go_wp2
    go_ret
    refine ⟨FrF p none 0 0, rfl, k1.mono fun i hi => by rw [hi]; exact HFp.out, ⟨HOk.out, none, 0, ⟨r1, own_nil8 _, by simp [Value.ownBlock]⟩, fun i => Iff.rfl⟩, ?_⟩
    rintro i (e | e)
    · rw [e]; exact .inl HFp.out
    · cases e
  · have hg := fgo_no p A cp x v (.func (.func 20) #[.pointer (some ⟨p, 0, none⟩)] #[]) w hm.row (err_no ok he)
    have e1 : idleN x v = 11 := by unfold idleN; rw [he]; rfl
    have e2 : resetF x v = x := by unfold resetF; rw [he]; rfl
    rw [e1, e2]
    have HH := Lib.hid hh
    clear hh hm hF he ok e1 e2
    go_enter Try.func18, Try.ntmps18
    go_wp2_with fail
    refine hg.mono ?_; rintro e w1 ⟨rfl, x1⟩
    clear hg
    go_wp2
    go_ret
    exact ⟨F, rfl, .of_ext x1, HH.out.ext x1, Grows.refl _ _⟩
end Go.Proofs.Ytlemnjphjmnmbaa
