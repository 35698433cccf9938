/-
  CONTRACTS: package diag (layer 18): what each subfunction does; which one a number has; whether the words fit.
-/
import Derived.Test.YtchdgodmncckcaaDiaA
import Derived.Test.YtchdgodmncckcaaWordN
namespace Go.Proofs.Ytchdgodmncckcaa
open Go.RowKit
set_option linter.unusedVariables false
set_option maxRecDepth 100000

def ExP (D : Dia) (u : Nat → Int) (m : Nat) (p : Nat) (F : Nat → Prop) (w : World) (e : Ending) (w' : World) : Prop :=
  ∃ x q G, e = .returned (.tuple #[.slice x (exM (u 0) m) q, .int .i64 (exW u)]) ∧ Holds .u16 w' x (exM (u 0) m) (exU D u) ∧ Keep F w w' ∧ DS w' p G (exD D u) ∧ Grows F G w
/-- A subfunction that was told: it is entered when it is called, and does what the number asks for. -/
structure ExC (M : FuncId) (k : Int) : Prop where
  enters : ∀ (args : Array Value) (w : World), (callFunc M args).run Try.prog w = .ok (.enter M args) w
  does : ∀ (p : Nat) (F : Nat → Prop) (D : Dia) (b : Option Addr) (m d : Nat) (u : Nat → Int) (w : World), DS w p F D → Holds .u16 w b m u → Off F b → 2 ≤ m → m ≤ d → m ≤ 126 → (∀ i, i < m → 0 ≤ u i ∧ u i < 65536) → u 0 = k → (k = 0 ∨ m = 2) → (k = 1 → u 1 = 0 ∨ u 1 = 65280) → (k = 3 → u 1 % 256 = 0) →
    Calls Try.prog M #[.pointer (some ⟨p, 0, none⟩), .slice b m d] w (ExP D u m p F w)
theorem call_enters18 {P : Program} {f : FuncId} {fn : Func} {c : Code} (hf : P.funcs[f]? = some fn) (hname : (fn.name == "runtime.NumGoroutine") = false) (hb : fn.body = some c) (args : Array Value) (w : World) :
    (callFunc f args).run P w = .ok (.enter f args) w := by
  have h1 : fn.name ≠ "runtime.NumGoroutine" := by simpa using hname
  simp [callFunc, hf, h1, hb]
theorem ex_0 {D : Dia} {u : Nat → Int} {m : Nat} (h : u 0 = 0) : exM (u 0) m = m ∧ exW u = 0 ∧ exD D u = D ∧ exU D u = u := by
  refine ⟨by unfold exM; simp [h], by unfold exW; simp [h], by unfold exD; simp [h], ?_⟩
  funext i; unfold exU; simp [h]
theorem ex_1 {D : Dia} {u : Nat → Int} {m : Nat} (h : u 0 = 1) : exM (u 0) m = m ∧ exW u = (if u 1 = 0 then 1 else 2) ∧ exD D u = { D with C := fun _ => 0, li := false } ∧ exU D u = u := by
  refine ⟨by unfold exM; simp [h], by unfold exW; simp [h], by unfold exD; simp [h], ?_⟩
  funext i; unfold exU; simp [h]
theorem ex_2 {D : Dia} {u : Nat → Int} {m : Nat} (h : u 0 = 2) : exM (u 0) m = m ∧ exW u = 0 ∧ exD D u = D ∧ exU D u 0 = 2 ∧ exU D u 1 = D.reg := by
  refine ⟨by unfold exM; simp [h], by unfold exW; simp [h], by unfold exD; simp [h], by unfold exU; simp [h], by unfold exU; simp [h]⟩
theorem ex_3 {D : Dia} {u : Nat → Int} {m : Nat} (h : u 0 = 3) : exM (u 0) m = m ∧ exW u = 0 ∧ exD D u = { D with de := u 1 / 256 } ∧ exU D u = u := by
  refine ⟨by unfold exM; simp [h], by unfold exW; simp [h], by unfold exD; simp [h], ?_⟩
  funext i; unfold exU; simp [h]
theorem ex_4 {D : Dia} {u : Nat → Int} {m : Nat} (h : u 0 = 4) : exM (u 0) m = 0 ∧ exW u = 3 ∧ exD D u = { D with li := true } := by
  refine ⟨by unfold exM; simp [h], by unfold exW; simp [h], by unfold exD; simp [h]⟩
theorem ex_10 {D : Dia} {u : Nat → Int} {m : Nat} (h : u 0 = 10) : exM (u 0) m = m ∧ exW u = 0 ∧ exD D u = { D with C := fun _ => 0, reg := 0 } ∧ exU D u = u := by
  refine ⟨by unfold exM; simp [h], by unfold exW; simp [h], by unfold exD; simp [h], ?_⟩
  funext i; unfold exU; simp [h]
theorem ex_11 {D : Dia} {u : Nat → Int} {m j : Nat} (hj : j < 8) (h : u 0 = 11 + (j : Int)) : exM (u 0) m = m ∧ exW u = 0 ∧ exD D u = D ∧ exU D u 0 = 11 + (j : Int) ∧ exU D u 1 = D.C j := by
  have e1 : ¬ u 0 = 4 := by omega
  have e2 : ¬ u 0 = 1 := by omega
  have e3 : ¬ u 0 = 3 := by omega
  have e4 : ¬ u 0 = 10 := by omega
  have e5 : ¬ u 0 = 20 := by omega
  have e6 : ¬ u 0 = 2 := by omega
  refine ⟨by unfold exM; rw [if_neg e1], by unfold exW; rw [if_neg e2, if_neg e1], by unfold exD; rw [if_neg e2, if_neg e3, if_neg e1, if_neg e4, if_neg e5], by unfold exU; rw [if_neg (by omega), h], ?_⟩
  unfold exU
  rw [if_pos ⟨.inr (by omega), Nat.le_refl 1⟩, if_neg e6, show (u 0 - 11).toNat = j by omega]
theorem ex_20 {D : Dia} {u : Nat → Int} {m : Nat} (h : u 0 = 20) : exM (u 0) m = m ∧ exW u = 0 ∧ exD D u = { D with C := upd D.C 7 0 } ∧ exU D u = u := by
  refine ⟨by unfold exM; simp [h], by unfold exW; simp [h], by unfold exD; simp [h], ?_⟩
  funext i; unfold exU; simp [h]
theorem tget_same (p : Nat) (F : Nat → Prop) (f : Nat → Int) (k : Nat) (w : World) (h : TY w p F f) (hk : k < 8) :
    Calls Try.prog 49 #[.pointer (some ⟨p, 0, none⟩), .int .i64 k] w fun e w' => e = .returned (.tuple #[.int .u16 (f k), .bool true]) ∧ w' = w := by
  have hh := thas_raw p k w h.cmade
  rw [show decide (0 ≤ (k : Int) ∧ (k : Int) < 8) = true by simp; omega] at hh
  have c0 := h.cell k hk
  have k1 : (k : Int) < 8 := by omega
  generalize f k = v at *
  clear h hk
  go_enter Try.func49, Try.ntmps49
  go_wp2_with fail
  refine hh.mono ?_; rintro e w' ⟨rfl, rfl⟩
  go_wp2
  go_returns
  exact ⟨rfl, rfl⟩

theorem drepeat_x (p : Nat) (F : Nat → Prop) (D : Dia) (b : Option Addr) (m d : Nat) (u : Nat → Int) (w : World) (h : DS w p F D) (hh : Holds .u16 w b m u) (h0 : u 0 = 0) :
    Calls Try.prog 35 #[.pointer (some ⟨p, 0, none⟩), .slice b m d] w (ExP D u m p F w) := by
  have HE := Lib.hid (ex_0 (D := D) (m := m) h0)
  clear h0
  go_enter Try.func35, Try.ntmps35
  go_wp2
  go_ret2
  unfold ExP
  obtain ⟨e1, e2, e3, e4⟩ := HE.out
  rw [e1, e2, e3, e4]
  exact ⟨_, _, F, rfl, hh, Keep.refl _ _, h, Grows.refl _ _⟩
theorem dtell_x (p : Nat) (F : Nat → Prop) (D : Dia) (b : Option Addr) (d : Nat) (u : Nat → Int) (w : World) (h : DS w p F D) (hh : Holds .u16 w b 2 u) (h0 : u 0 = 2) :
    Calls Try.prog 37 #[.pointer (some ⟨p, 0, none⟩), .slice b 2 d] w (ExP D u 2 p F w) := by
  have HE := Lib.hid (ex_2 (D := D) (m := 2) h0)
  obtain ⟨g, o, rfl, hg, hc⟩ := hh.resolve_left (by decide)
  have c0 : w.drew.cell? ⟨g, o, none⟩ = some (.int .u16 2) := Ext.cell (Ext.drew w) hg (by rw [← h0]; exact hc 0 (by decide))
  obtain ⟨t, Ft, h1, h2, h3, h4, h5⟩ := id h
  have c1 : w.drew.cell? ⟨p, 1, none⟩ = some (.int .u16 D.reg) := Ext.cell (Ext.drew w) (lt_of_heapD h3) (cell_of_heap h3 rfl)
  have HD := Lib.hid h
  clear h0 hh hc h1 h2 h3 h4 h5 h
  go_enter Try.func37, Try.ntmps37
  go_wp2_with fail
  go_region
  all_goals go_wp2
  all_goals go_ret2
  all_goals
    unfold ExP
    obtain ⟨e1, e2, e3, e4, e5⟩ := HE.out
    rw [e1, e2, e3]
    refine ⟨_, _, F, rfl, (Holds.lit _ [2, D.reg] 26 _ rfl 2 rfl).congr (fun i hi => ?_), .of_ext ((Ext.drew w).trans (Ext.alloc _ _)), HD.out.ext ((Ext.drew w).trans (Ext.alloc _ _)), Grows.refl _ _⟩
    rcases (show i = 0 ∨ i = 1 by omega) with rfl | rfl
    · rw [e4]; rfl
    · rw [e5]; rfl
theorem dlisten_x (p : Nat) (F : Nat → Prop) (D : Dia) (b : Option Addr) (d : Nat) (u : Nat → Int) (w : World) (h : DS w p F D) (h0 : u 0 = 4) :
    Calls Try.prog 39 #[.pointer (some ⟨p, 0, none⟩), .slice b 2 d] w (ExP D u 2 p F w) := by
  have HE := Lib.hid (ex_4 (D := D) (m := 2) h0)
  obtain ⟨t, Ft, h1, h2, h3, h4, h5⟩ := h
  have c1 : w.cell? ⟨p, 2, none⟩ = some (.bool D.li) := cell_of_heap h3 rfl
  have f1 := frozenD (j := 2) h3
  have HZ := Lib.hid (DS.cell_put (o := 2) (v := .bool true) (D' := { D with li := true }) h2 h3 h4 ⟨h5.c, h5.r, h5.d⟩ rfl)
  clear h0 h2 h3 h4 h5
  go_enter Try.func39, Try.ntmps39
  go_wp2
  go_ret2
  unfold ExP
  obtain ⟨e1, e2, e3⟩ := HE.out
  rw [e1, e2, e3]
  exact ⟨_, _, _, rfl, .inl rfl, HZ.out.2.mono (fun i e => (h1 i).2 (.inl e)), HZ.out.1, fun i hi => .inl ((h1 i).2 hi)⟩
theorem ddelim_x (p : Nat) (F : Nat → Prop) (D : Dia) (b : Option Addr) (d : Nat) (u : Nat → Int) (w : World) (h : DS w p F D) (hh : Holds .u16 w b 2 u) (hO : Off F b) (hu : ∀ i, i < 2 → 0 ≤ u i ∧ u i < 65536) (h0 : u 0 = 3) :
    Calls Try.prog 38 #[.pointer (some ⟨p, 0, none⟩), .slice b 2 d] w (ExP D u 2 p F w) := by
  have HE := Lib.hid (ex_3 (D := D) (m := 2) h0)
  obtain ⟨b0, b1⟩ := hu 1 (by decide)
  have HH := Lib.hid (And.intro hh hO)
  obtain ⟨g, o, rfl, hg, hc⟩ := hh.resolve_left (by decide)
  obtain ⟨t, Ft, h1, h2, h3, h4, h5⟩ := h
  have HZ := Lib.hid (DS.cell_put (o := 3) (v := .int .u8 (u 1 / 256)) (D' := { D with de := u 1 / 256 }) h2 h3 h4 ⟨h5.c, h5.r, ⟨by show 0 ≤ u 1 / 256; omega, by show u 1 / 256 < 256; omega⟩⟩ rfl)
  have c0 : w.cell? ⟨g, o + 1, none⟩ = some (.int .u16 (u 1)) := hc 1 (by decide)
  have c1 : w.cell? ⟨p, 3, none⟩ = some (.int .u8 D.de) := cell_of_heap h3 rfl
  have f1 := frozenD (j := 3) h3
  obtain ⟨v, hv⟩ : ∃ v, u 1 = v := ⟨_, rfl⟩
  rw [hv] at b0 b1 HZ c0 HE
  have q0 : IntKind.u8.wrap (v / 256) = v / 256 := by rw [IntKind.wrap_u8]; omega
  clear h0 hh hc h2 h3 h4 h5 hu hv hO
  go_enter Try.func38, Try.ntmps38
  go_wp2
  go_ret2
  unfold ExP
  obtain ⟨e1, e2, e3, e4⟩ := HE.out
  rw [e1, e2, e3, e4]
  exact ⟨_, _, _, rfl, HH.out.1.keep (HZ.out.2.mono (fun i e => (h1 i).2 (.inl e))) HH.out.2, HZ.out.2.mono (fun i e => (h1 i).2 (.inl e)), HZ.out.1, fun i hi => .inl ((h1 i).2 hi)⟩
theorem ddrop_x (p : Nat) (F : Nat → Prop) (D : Dia) (b : Option Addr) (d : Nat) (u : Nat → Int) (w : World) (h : DS w p F D) (hh : Holds .u16 w b 2 u) (hO : Off F b) (h0 : u 0 = 20) :
    Calls Try.prog 42 #[.pointer (some ⟨p, 0, none⟩), .slice b 2 d] w (ExP D u 2 p F w) := by
  have HE := Lib.hid (ex_20 (D := D) (m := 2) h0)
  obtain ⟨t, Ft, h1, h2, h3, h4, h5⟩ := h
  have c1 : w.cell? ⟨p, 0, none⟩ = some (.pointer (some ⟨t, 0, none⟩)) := cell_of_heap h3 rfl
  have HC := Lib.hid (show Calls Try.prog 50 #[.pointer (some ⟨t, 0, none⟩), .int .i64 7] w _ from tdrop_ok t Ft D.C 7 w h4 (by decide))
  have HH := Lib.hid (And.intro hh hO)
  have HF := Lib.hid (fun i (hi : Ft i) => (h1 i).2 (.inr hi))
  clear h0 h4 hh hO
  go_enter Try.func42, Try.ntmps42
  go_wp2_with fail
  refine HC.out.mono ?_; rintro e w2 ⟨G, rfl, k2, y2, g2⟩
  go_wp2
  go_ret2
  unfold ExP
  obtain ⟨e1, e2, e3, e4⟩ := HE.out
  rw [e1, e2, e3, e4]
  obtain ⟨z1, z2, z3⟩ := DS.counters h2 h3 h5 k2 y2 g2
  refine ⟨_, _, _, rfl, HH.out.1.keep (k2.mono HF.out) HH.out.2, k2.mono HF.out, z1, ?_⟩
  rintro j (rfl | hj)
  · exact .inl ((h1 _).2 (.inl rfl))
  · exact (g2 j hj).imp (HF.out j) id
theorem dcounter_x (p : Nat) (F : Nat → Prop) (D : Dia) (b : Option Addr) (d : Nat) (u : Nat → Int) (w : World) (j : Nat) (hj : j < 8) (h : DS w p F D) (hh : Holds .u16 w b 2 u) (h0 : u 0 = 11 + (j : Int)) :
    Calls Try.prog 41 #[.pointer (some ⟨p, 0, none⟩), .slice b 2 d] w (ExP D u 2 p F w) := by
  have HE := Lib.hid (ex_11 (D := D) (m := 2) hj h0)
  obtain ⟨g, o, rfl, hg, hc⟩ := hh.resolve_left (by decide)
  have c0 : w.cell? ⟨g, o, none⟩ = some (.int .u16 (u 0)) := hc 0 (by decide)
  obtain ⟨t, Ft, h1, h2, h3, h4, h5⟩ := id h
  have c1 : w.cell? ⟨p, 0, none⟩ = some (.pointer (some ⟨t, 0, none⟩)) := cell_of_heap h3 rfl
  have HC := Lib.hid (fun q => tget_same t Ft D.C j (w.drewN q) (h4.ext0 (below_drewN (Below.refl _ _) q)) hj)
  obtain ⟨v, hv⟩ : ∃ v, u 0 = v := ⟨_, rfl⟩
  rw [hv] at c0 h0
  have q0 : IntKind.i64.wrap v = v := IntWalk.i64_in _ (by omega)
  have q1 : IntKind.i64.wrap (v - 11) = (j : Int) := by rw [show v - 11 = (j : Int) by omega]; exact IntWalk.i64_in _ (by omega)
  have HD := Lib.hid h
  have HV := Lib.hid h0
  have HG := Lib.hid hg
  clear h0 hh hc h1 h2 h3 h4 h5 h hv hj
  go_enter Try.func41, Try.ntmps41
  go_wp2_with fail
  go_quiet ((go_at_call 49; exact Calls.quiet_of_same (HC.out _)))
  have c2 : (w.drewN nq).cell? ⟨g, o, none⟩ = some (.int .u16 v) := Ext.cell (below_drewN (Below.refl _ _) nq) HG.out c0
  go_wp2
  go_ret2
  unfold ExP
  obtain ⟨e1, e2, e3, e4, e5⟩ := HE.out
  rw [e1, e2, e3]
  have xx : Ext w ((w.drewN nq).alloc (.cells #[.int .u16 v, .int .u16 (D.C j)] 26)) := Ext.trans (below_drewN (Below.refl _ _) nq) (Ext.alloc _ _)
  refine ⟨_, _, F, rfl, (Holds.lit _ [v, D.C j] 26 _ rfl 2 rfl).congr (fun i hi => ?_), .of_ext xx, HD.out.ext xx, Grows.refl _ _⟩
  rcases (show i = 0 ∨ i = 1 by omega) with rfl | rfl
  · rw [e4, ← HV.out]; rfl
  · rw [e5]; rfl
theorem dclear_x (p : Nat) (F : Nat → Prop) (D : Dia) (b : Option Addr) (d : Nat) (u : Nat → Int) (w : World) (h : DS w p F D) (hh : Holds .u16 w b 2 u) (hO : Off F b) (h0 : u 0 = 10) :
    Calls Try.prog 40 #[.pointer (some ⟨p, 0, none⟩), .slice b 2 d] w (ExP D u 2 p F w) := by
  have HE := Lib.hid (ex_10 (D := D) (m := 2) h0)
  obtain ⟨t, Ft, h1, h2, h3, h4, h5⟩ := h
  have c1 : w.cell? ⟨p, 0, none⟩ = some (.pointer (some ⟨t, 0, none⟩)) := cell_of_heap h3 rfl
  have HC := Lib.hid (tclear_any t Ft D.C w h4)
  have HH := Lib.hid (And.intro hh hO)
  have HF := Lib.hid (fun i (hi : Ft i) => (h1 i).2 (.inr hi))
  clear h0 h4 hh hO
  go_enter Try.func40, Try.ntmps40
  go_wp2_with fail
  refine HC.out.mono ?_; rintro e w2 ⟨G, rfl, k2, y2, g2⟩
  obtain ⟨z1, z2, z3⟩ := DS.counters h2 h3 h5 k2 y2 g2
  have c2 : w2.cell? ⟨p, 1, none⟩ = some (.int .u16 D.reg) := cell_of_heap z3 rfl
  have f2 := frozenD (j := 1) z3
  have HZ := Lib.hid (DS.cell_put (o := 1) (v := .int .u16 0) (D := D) (D' := { D with C := fun _ => 0, reg := 0 }) z2 z3 y2 ⟨y2.small, ⟨Int.le_refl 0, by show (0 : Int) < 65536; decide⟩, h5.d⟩ rfl)
  have HG := Lib.hid g2
  have HK := Lib.hid k2
  clear z1 z2 z3 y2 g2 k2 h2 h3 h5
  go_wp2
  go_ret2
  unfold ExP
  obtain ⟨e1, e2, e3, e4⟩ := HE.out
  rw [e1, e2, e3, e4]
  have kk : Keep F w (w2.setCell ⟨p, 1, none⟩ (.int .u16 0)) := (HK.out.mono HF.out).trans HZ.out.2 (fun i e => .inl ((h1 i).2 (.inl e)))
  refine ⟨_, _, _, rfl, HH.out.1.keep kk HH.out.2, kk, HZ.out.1, ?_⟩
  rintro j (rfl | hj)
  · exact .inl ((h1 _).2 (.inl rfl))
  · exact (HG.out j hj).imp (HF.out j) id
theorem drestart_x (p : Nat) (F : Nat → Prop) (D : Dia) (b : Option Addr) (d : Nat) (u : Nat → Int) (w : World) (h : DS w p F D) (hh : Holds .u16 w b 2 u) (hO : Off F b) (h0 : u 0 = 1) (hw : u 1 = 0 ∨ u 1 = 65280) :
    Calls Try.prog 36 #[.pointer (some ⟨p, 0, none⟩), .slice b 2 d] w (ExP D u 2 p F w) := by
  have HE := Lib.hid (ex_1 (D := D) (m := 2) h0)
  obtain ⟨t, Ft, h1, h2, h3, h4, h5⟩ := h
  have c1 : w.cell? ⟨p, 0, none⟩ = some (.pointer (some ⟨t, 0, none⟩)) := cell_of_heap h3 rfl
  have HC := Lib.hid (tclear_any t Ft D.C w h4)
  have HH := Lib.hid (And.intro hh hO)
  obtain ⟨g, o, rfl, hg, hc⟩ := hh.resolve_left (by decide)
  have cu : w.cell? ⟨g, o + 1, none⟩ = some (.int .u16 (u 1)) := hc 1 (by decide)
  have HF := Lib.hid (fun i (hi : Ft i) => (h1 i).2 (.inr hi))
  have HN : Hid (¬ F g) := Lib.hid (hO _ rfl)
  clear h0 h4 hh hO hc
  obtain ⟨v, hv⟩ : ∃ v, u 1 = v := ⟨_, rfl⟩
  rw [hv] at hw cu HE
  clear hv
  rcases hw with rfl | rfl
  all_goals
    go_enter Try.func36, Try.ntmps36
    go_wp2_with fail
    refine HC.out.mono ?_; rintro e w2 ⟨G, rfl, k2, y2, g2⟩
    obtain ⟨z1, z2, z3⟩ := DS.counters h2 h3 h5 k2 y2 g2
    have c2 : w2.cell? ⟨p, 2, none⟩ = some (.bool D.li) := cell_of_heap z3 rfl
    have f2 := frozenD (j := 2) z3
    have HZ := Lib.hid (DS.cell_put (o := 2) (v := .bool false) (D := D) (D' := { D with C := fun _ => 0, li := false }) z2 z3 y2 ⟨y2.small, h5.r, h5.d⟩ rfl)
    have kk : Keep F w (w2.setCell ⟨p, 2, none⟩ (.bool false)) := (k2.mono HF.out).trans HZ.out.2 (fun i e => .inl ((h1 i).2 (.inl e)))
    have HG := Lib.hid g2
    have cv := kk.cell HN.out cu
    obtain ⟨w3, hw3⟩ : ∃ w3, w3 = w2.setCell ⟨p, 2, none⟩ (.bool false) := ⟨_, rfl⟩
    rw [← hw3] at HZ kk cv
    have HK := Lib.hid kk
    clear z1 z2 z3 y2 g2 k2 h2 h3 h5 kk
    go_upto_region 3 with fail
    rw [← hw3]
    clear hw3 c2 f2
    go_wp2
    go_ret2
    unfold ExP
    obtain ⟨e1, e2, e3, e4⟩ := HE.out
    rw [e1, e2, e3, e4]
    refine ⟨_, _, _, rfl, HH.out.1.keep HK.out HH.out.2, HK.out, HZ.out.1, ?_⟩
    rintro j (rfl | hj)
    · exact .inl ((h1 _).2 (.inl rfl))
    · exact (HG.out j hj).imp (HF.out j) id
end Go.Proofs.Ytchdgodmncckcaa
