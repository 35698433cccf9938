/-
  LAYER 25: when bytes are sent, plain; the contracts of bilgeref25.
-/
import Derived.Test.YtebhalehgpigoaaCutR
import Derived.Test.YtebhalehgpigoaaClock
import Derived.Test.YtebhalehgpigoaaStepAppend
import Derived.Test.YtebhalehgpigoaaLater
import Derived.StillTailTactics
import Derived.Deep.LoopGhost
namespace Go.Proofs.Ytebhalehgpigoaa
open Go.RowKit
set_option linter.unusedVariables false
set_option maxRecDepth 100000

theorem byt_ones (x : Byt) : ∀ u ∈ byt x, u.oneCell' = true := by
  intro u hu
  unfold byt at hu
  simp only [List.mem_cons, List.not_mem_nil, or_false] at hu
  rcases hu with rfl | rfl | rfl <;> rfl
/-- A byte that is sent: when it begins, which. -/
def outC (x : Int × Int) : List Value := [.int .i64 x.1, .int .u8 x.2]
theorem outC_length (x : Int × Int) : (outC x).length = 2 := rfl
theorem outC_one (x : Int × Int) : ∀ u ∈ outC x, u.oneCell' = true := by
  intro u hu
  unfold outC at hu
  simp only [List.mem_cons, List.not_mem_nil, or_false] at hu
  rcases hu with rfl | rfl <;> rfl
theorem HoldsL.out_at {w : World} {b off : Nat} {L : List (Int × Int)} (h : HoldsL 2 outC w (some ⟨b, off, none⟩) L) (i : Nat) (hi : i < L.length) :
    w.cell? ⟨b, off + i * 2, none⟩ = some (.int .i64 (L[i]).1) ∧ w.cell? ⟨b, off + i * 2 + 1, none⟩ = some (.int .u8 (L[i]).2) := by
  rcases h with h | ⟨b', off', ha, hlt, hc⟩
  · subst h; simp at hi
  · cases ha
    exact ⟨hc i L[i] (by simp [hi]) 0 _ rfl, hc i L[i] (by simp [hi]) 1 _ rfl⟩
/-- What is planned, plain. -/
def planL (T c u : Int) (f : Nat → Int) (n : Nat) : List (Int × Int) := (List.range n).map fun (k : Nat) => (addI T (u + k * c), f k)
def PlanOk (c s l u T : Int) (n : Nat) : Prop := rightB c s l u = true ∧ (0 ≤ T ∧ T ≤ 1099511627776) ∧ n ≤ 256
instance (c s l u T : Int) (n : Nat) : Decidable (PlanOk c s l u T n) := by unfold PlanOk; infer_instance
def planO (c s l u T : Int) (f : Nat → Int) (n : Nat) : List (Int × Int) := if PlanOk c s l u T n then planL T c u f n else []
def hearL (c : Int) (L : List (Int × Int)) : List Byt := L.map fun x => (addI x.1 c, x.2, false)
def hearO (c s l u : Int) (L : List (Int × Int)) : List Byt := if rightB c s l u = true then hearL c L else []
def lastO (L : List (Int × Int)) : Int := (L.getD (L.length - 1) (0, 0)).1
def endO (c s l u : Int) (L : List (Int × Int)) : Int := if L.length = 0 ∨ rightB c s l u = false then 0 else addI (lastO L) c
theorem planL_length (T c u : Int) (f : Nat → Int) (n : Nat) : (planL T c u f n).length = n := by unfold planL; simp
theorem planL_succ (T c u : Int) (f : Nat → Int) (k : Nat) : planL T c u f (k + 1) = planL T c u f k ++ [(addI T (u + k * c), f k)] := by
  unfold planL; rw [List.range_succ, List.map_append]; rfl
theorem planO_le (c s l u T : Int) (f : Nat → Int) (n : Nat) : (planO c s l u T f n).length ≤ 256 ∧ (planO c s l u T f n).length ≤ n := by
  unfold planO
  split
  · rename_i h; rw [planL_length]; exact ⟨h.2.2, Nat.le_refl _⟩
  · exact ⟨Nat.zero_le _, Nat.zero_le _⟩
theorem hearL_length (c : Int) (L : List (Int × Int)) : (hearL c L).length = L.length := by unfold hearL; simp
theorem hearL_take {c : Int} {L : List (Int × Int)} {k : Nat} (h : k < L.length) : hearL c (L.take (k + 1)) = hearL c (L.take k) ++ [(addI L[k].1 c, L[k].2, false)] := by
  unfold hearL; rw [List.take_succ_eq_append_getElem h, List.map_append]; rfl
theorem lastO_at {L : List (Int × Int)} {k : Nat} (h : L.length = k + 1) : lastO L = (L[k]'(by omega)).1 := by
  unfold lastO
  rw [List.getD_eq_getElem?_getD, show L.length - 1 = k by omega, List.getElem?_eq_getElem (by omega)]; rfl
theorem plan_not {c s l u T : Int} {n : Nat} (h : ¬ PlanOk c s l u T n) : rightB c s l u = false ∨ (rightB c s l u = true ∧ T < 0) ∨ (rightB c s l u = true ∧ ¬ T < 0 ∧ 1099511627776 < T) ∨ (rightB c s l u = true ∧ ¬ T < 0 ∧ ¬ 1099511627776 < T ∧ 256 < n) := by
  unfold PlanOk at h
  cases hb : rightB c s l u
  · exact .inl rfl
  · rw [hb] at h
    by_cases h1 : T < 0
    · exact .inr (.inl ⟨rfl, h1⟩)
    · by_cases h2 : (1099511627776 : Int) < T
      · exact .inr (.inr (.inl ⟨rfl, h1, h2⟩))
      · exact .inr (.inr (.inr ⟨rfl, h1, h2, by
          rcases Nat.lt_or_ge 256 n with h3 | h3
          · exact h3
          · exact absurd ⟨rfl, ⟨by omega, by omega⟩, h3⟩ h⟩))
/-- A list of bytes that are sent, told. -/
def OutP (L : List (Int × Int)) (w : World) (e : Ending) (w' : World) : Prop := ∃ z x, e = .returned (.slice z L.length x) ∧ L.length ≤ x ∧ x ≤ maxLen ∧ HoldsL 2 outC w' z L ∧ Ext w w'
/-- A list of bytes that came, told. -/
def BytP (L : List Byt) (w : World) (e : Ending) (w' : World) : Prop := ∃ z x, e = .returned (.slice z L.length x) ∧ L.length ≤ x ∧ x ≤ maxLen ∧ HoldsL 3 byt w' z L ∧ Ext w w'
theorem OutP.zero {w w' : World} (x : Ext w w') : OutP [] w (.returned (.slice none 0 0)) w' := ⟨none, 0, rfl, Nat.zero_le _, Nat.zero_le _, .inl rfl, x⟩
theorem BytP.zero {w w' : World} (x : Ext w w') : BytP [] w (.returned (.slice none 0 0)) w' := ⟨none, 0, rfl, Nat.zero_le _, Nat.zero_le _, .inl rfl, x⟩
theorem OutP.turn {L : List (Int × Int)} {w w0 w' : World} {e : Ending} (h : OutP L w0 e w') (x : Ext w w0) : OutP L w e w' := by
  obtain ⟨z, q, h1, h2, h3, h4, h5⟩ := h; exact ⟨z, q, h1, h2, h3, h4, x.trans h5⟩
theorem BytP.turn {L : List Byt} {w w0 w' : World} {e : Ending} (h : BytP L w0 e w') (x : Ext w w0) : BytP L w e w' := by
  obtain ⟨z, q, h1, h2, h3, h4, h5⟩ := h; exact ⟨z, q, h1, h2, h3, h4, x.trans h5⟩
/-- append of one element out of a block that was made just ahead, as a step of a region that draws. -/
theorem step_append_one {P : Program} {w : World} {α : Type} {sz : Nat} {mk : α → List Value} {ops : Array Oper} {o : Oper} {a : Act} {K : Act → World → Prop} {Q : Exit → Act → World → Prop} {E : Prop} (hgd : o.guard = none) (s x : Operand) (t : TypeId)
    (ho : o.op = .call { callee := .builtin .append, args := #[s, x], argTypes := #[t, t] })
    (base : Nat) (e : TypeId) (i : TypeInfo) (z : Value) (bytes : Nat) (ht : P.underlying t = some (.slice e)) (hi : P.info? e = some i) (hz : i.zero = some z)
    (hsize : i.size = sz) (hby : i.bytes = bytes) (hzs : z.cells.size = sz) (hsz : 0 < sz)
    (v : Value) (n : Nat) (L : List α) (hs : a.eval s = v) (hown : w.ownsRow base e sz v n (L.flatMap mk))
    (b : Nat) (cs : Array Value) (t' : TypeId) (fr : Nat × Nat) (y : α) (hx : a.eval x = .slice (some ⟨b, 0, none⟩) 1 1) (hb : w.heap[b]? = some (.cells cs t' fr)) (hcs : cs.toList = mk y) (hl : (mk y).length = sz) (h1 : ∀ u ∈ mk y, u.oneCell' = true)
    (h63 : n + 1 ≤ maxLen) (hbytes : (n + 1) * bytes ≤ 140737488355328) (hbase : base ≤ w.heap.size)
    (h : ∀ v' w', w'.ownsRow base e sz v' (n + 1) ((L ++ [y]).flatMap mk) → Below base w w' → K (a.put o.dst v') w') :
    if Region.wanted o (yielded ops a.tmps) = true then Oper.wp P o a w K Q else E := by
  refine step_append_lies w hgd s x t ho base e i z sz bytes ht hi hz hsize hby hzs hsz v n (L.flatMap mk) hs hown ⟨b, 0, none⟩ 1 1 (mk y) hx (by omega) ?_ h1 (by omega) h63 hbytes hbase w.heap.size rfl ?_
  · intro j u hu
    have e1 : (⟨b, 0, none⟩ : Addr).add j = ⟨b, j, none⟩ := by unfold Addr.add; split <;> simp_all
    rw [e1, cell_of_row w b j cs t' fr hb, ← Array.getElem?_toList, hcs]; exact hu
  · intro g cap w' h2 h3 _ _
    exact h _ _ (by simpa using h2) ((Below.refl base w).grown h3 hbase (fun q hq => (hown.lt q hq).1))

theorem Try.infoOut : (Try.prog.info? 39).map (fun i => (i.zero, i.size, i.bytes)) = some (some (.agg #[.int .i64 0, .int .u8 0]), 2, 16) := by kernel_rfl
theorem Try.infoByte25 : (Try.prog.info? 35).map (fun i => (i.zero, i.size, i.bytes)) = some (some (.agg #[.int .i64 0, .int .u8 0, .bool false]), 3, 16) := by kernel_rfl
set_option maxHeartbeats 4000000 in
theorem rplan25_no (a : Option Addr) (n cp : Nat) (f : Nat → Int) (T c s l u : Int) (w : World) (hn : n ≤ 1000000) (h : ¬ PlanOk c s l u T n) :
    Calls Try.prog 7 #[.slice a n cp, .int .i64 T, timesC c s l u] w fun e w' => e = .returned (.slice none 0 0) ∧ Ext w w' := by
  have hr := fun w => rright_any c s l u w
  unfold timesC
  have H := plan_not h
  clear h
  rcases H with h1 | ⟨h1, h2⟩ | ⟨h1, h2, h3⟩ | ⟨h1, h2, h3, h4⟩
  all_goals
    rw [h1] at hr
    clear h1
  case inr.inr.inr =>
    have h5 : (256 : Int) < (n : Int) := by omega
    clear h4
    go_enter Try.func7, Try.ntmps7
    go_wp2_with fail
    refine (hr _).mono ?_; rintro e w1 ⟨rfl, x1⟩
    go_wp2
    go_ret
    exact ⟨rfl, (Ext.alloc _ _).trans x1⟩
  all_goals
    go_enter Try.func7, Try.ntmps7
    go_wp2_with fail
    refine (hr _).mono ?_; rintro e w1 ⟨rfl, x1⟩
    go_wp2
    go_ret
    exact ⟨rfl, (Ext.alloc _ _).trans x1⟩
set_option maxHeartbeats 8000000 in
theorem rplan25_yes (a : Option Addr) (n cp : Nat) (f : Nat → Int) (T c s l u : Int) (w : World) (ha : Holds .u8 w a n f) (h : PlanOk c s l u T n) :
    Calls Try.prog 7 #[.slice a n cp, .int .i64 T, timesC c s l u] w (OutP (planL T c u f n) w) := by
  obtain ⟨iO, hiO, hzO0, hzO1, hzO2⟩ := info_parts Try.infoOut
  have hr := fun w => rright_any c s l u w
  rw [h.1] at hr
  have hc := (rightB_iff c s l u).1 h.1
  have h2 := h.2.1
  have h3 := h.2.2
  have m2 : ¬ T < 0 := by omega
  have m3 : ¬ (1099511627776 : Int) < T := by omega
  have m4 : ¬ (256 : Int) < (n : Int) := by omega
  have HA := Lib.hid ha
  have HC := Lib.hid hc
  have HN := Lib.hid h3
  unfold timesC
  clear ha hc h h2 h3
  go_enter Try.func7, Try.ntmps7
  go_wp2_with fail
  refine (hr _).mono ?_; rintro e w1 ⟨rfl, x1⟩
  have T0 : w1.cell? ⟨w.heap.size, 0, none⟩ = some (.int .i64 c) := x1.made 0 _ rfl
  have T3 : w1.cell? ⟨w.heap.size, 3, none⟩ = some (.int .i64 u) := x1.made 3 _ rfl
  have x2 := (Ext.alloc _ _).trans x1
  have HX := Lib.hid x2
  obtain ⟨B, hB⟩ : ∃ B, B = w1.heap.size := ⟨_, rfl⟩
  have HB := Lib.hid hB
  have HT := Lib.hid (fun w' (x : Ext w1 w') => And.intro (x.cell (World.block_lt_of_cell? _ _ T0) T0) (And.intro (x.cell (World.block_lt_of_cell? _ _ T3) T3) x))
  have hown0 : w1.ownsRow B 39 2 (.slice none 0 0) 0 ((planL T c u f 0).flatMap outC) := World.ownsRow_nil _ _ _ _
  have xr0 : Ext w1 w1 := Ext.refl _
  clear hr x1 T0 T3 x2 hB
  go_wp2_with fail
  go_loopw [7, 8] (fun vv iv wr => ∃ k : Nat, k ≤ n ∧ iv = .int .i64 k ∧ wr.ownsRow B 39 2 vv k ((planL T c u f k).flatMap outC) ∧ Ext w1 wr) (fun _ iv _ => n - (intOf iv).toNat)
  case atStart => exact ⟨0, Nat.zero_le _, rfl, hown0, xr0⟩
  case round =>
    clear hown0 xr0
    obtain ⟨k, hk, rfl, hown, xr⟩ := hrel
    by_cases hlt : k < n
    · obtain ⟨p, o, rfl, hp, hcf⟩ := HA.out.resolve_left (by omega)
      have c0 := (HX.out.trans xr).cell hp (hcf k hlt)
      have hkc : 0 ≤ (k : Int) * c ∧ (k : Int) * c ≤ 256 * 16777216 := by
        have := HC.out; have := HN.out
        exact ⟨Int.mul_nonneg (by omega) (by omega), Int.mul_le_mul (by omega) (by omega) (by omega) (by omega)⟩
      have w0 : IntKind.i64.wrap ((k : Int) * c) = (k : Int) * c := IntWalk.i64_in _ (by omega)
      have w2 : IntKind.i64.wrap (u + (k : Int) * c) = u + (k : Int) * c := IntWalk.i64_in _ (by have := HC.out; omega)
      have wk : IntKind.i64.wrap ((k : Int) + 1) = (k : Int) + 1 := IntWalk.i64_in _ (by have := HN.out; omega)
      have hlt' : (k : Int) < n := by omega
      have hBs : B ≤ wr.heap.size := by rw [HB.out]; exact xr.size
      have HS := Lib.hid (fun w' (x : Ext w1 w') => And.intro (HT.out w' x).1 (And.intro (HT.out w' x).2.1 (And.intro ((HX.out.trans x).cell hp (hcf k hlt)) x)))
      have HLt := Lib.hid hlt
      have HXr := Lib.hid xr
      have HO := Lib.hid (fun w' (x : Ext wr w') => own_ext hown x)
      obtain ⟨r0, r1, r2, -⟩ := HS.out wr.drew (xr.trans (Ext.drew _))
      clear hkc c0 hcf xr hlt HA HT
      go_wp2_with fail
      have z9 : Ext wr wr.drew := Ext.drew _
      have z8 : Ext w1 wr.drew := HXr.out.trans z9
      go_region_held3 (fun w' => w'.cell? ⟨w.heap.size, 0, none⟩ = some (.int .i64 c) ∧ w'.cell? ⟨w.heap.size, 3, none⟩ = some (.int .i64 u) ∧ w'.cell? ⟨p, o + k, none⟩ = some (.int .u8 (f k)) ∧ Ext w1 w')
        ((first | exact HS.out _ (by assumption) | exact HS.out _ (z8.trans (Ext.alloc _ _))))
        (first
          | (go_at_call 23; refine (radd_any _ _ _).mono ?_; rintro e wa ⟨rfl, rfl⟩)
          | (refine step_append_one rfl (.tmp 31) (.tmp 46) 26 rfl B 39 iO _ 16 Try.underlying26 hiO hzO0 hzO1 hzO2 rfl (by decide) _ k (planL T c u f k) (by rfl) (HO.out _ (z9.trans (Ext.alloc _ _))) wr.drew.heap.size #[.int .i64 (addI T (u + (k : Int) * c)), .int .u8 (f k)] 39 (0, 0) (addI T (u + (k : Int) * c), f k) (by rfl) (heap_alloc_new _ _) rfl rfl (outC_one _) (by unfold maxLen; have := HN.out; omega) (by have := HN.out; omega) (by simp; omega) ?_
             intro v5 w5 hown5 hb5
             have x5 : Ext w1 w5 := Below.trans (z8.trans (Ext.alloc _ _)) (by rw [← HB.out]; exact hb5)
             clear hb5))
      rw [← planL_succ] at hown5
      clear r0 r1 r2 hown HO HS
      go_wp2_with fail
      go_roundw
      case rel => exact ⟨k + 1, by have := HLt.out; omega, by go_num, hown5, x5⟩
      case measure => have := HLt.out; simp [intOf]; omega
    · have hkn : k = n := by omega
      subst hkn
      obtain ⟨z, x, hv, h1, h2, h3, -⟩ := HoldsL.of_own outC_length hown (planL_length _ _ _ _ _).symm
      subst hv
      have HF := Lib.hid (And.intro h1 (And.intro h2 (And.intro h3 (HX.out.trans xr))))
      clear h1 h2 h3 hown xr HA HT
      go_wp2
      go_ret
      exact ⟨z, x, by rw [planL_length]; rfl, by rw [planL_length]; exact HF.out.1, HF.out.2.1, HF.out.2.2.1, HF.out.2.2.2⟩
theorem rplan25_any (a : Option Addr) (n cp : Nat) (f : Nat → Int) (T c s l u : Int) (w : World) (ha : Holds .u8 w a n f) (hn : n ≤ 1000000) :
    Calls Try.prog 7 #[.slice a n cp, .int .i64 T, timesC c s l u] w (OutP (planO c s l u T f n) w) := by
  unfold planO
  by_cases h : PlanOk c s l u T n
  · rw [if_pos h]; exact rplan25_yes a n cp f T c s l u w ha h
  · rw [if_neg h]; exact (rplan25_no a n cp f T c s l u w hn h).mono fun e w' ⟨he, x⟩ => he ▸ OutP.zero x
set_option maxHeartbeats 4000000 in
theorem rhear25_any (a : Option Addr) (n cp : Nat) (L : List (Int × Int)) (c s l u : Int) (w : World) (ha : HoldsL 2 outC w a L) (hL : L.length = n) (hn : n ≤ 1000000) :
    Calls Try.prog 9 #[.slice a n cp, timesC c s l u] w (BytP (hearO c s l u L) w) := by
  obtain ⟨iB, hiB, hzB0, hzB1, hzB2⟩ := info_parts Try.infoByte25
  have hr := fun w => rright_any c s l u w
  unfold timesC
  cases h1 : rightB c s l u
  · rw [h1] at hr
    have hE : hearO c s l u L = [] := by unfold hearO; rw [h1]; rfl
    rw [hE]
    clear hE h1 ha hL
    go_enter Try.func9, Try.ntmps9
    go_wp2_with fail
    refine (hr _).mono ?_; rintro e w1 ⟨rfl, x1⟩
    go_wp2
    go_ret
    exact BytP.zero ((Ext.alloc _ _).trans x1)
  · rw [h1] at hr
    have hE : hearO c s l u L = hearL c L := by unfold hearO; rw [h1]; rfl
    rw [hE]
    have HA := Lib.hid ha
    have HL := Lib.hid hL
    have HN := Lib.hid hn
    clear hE h1 ha hL hn
    go_enter Try.func9, Try.ntmps9
    go_wp2_with fail
    refine (hr _).mono ?_; rintro e w1 ⟨rfl, x1⟩
    have T0 : w1.cell? ⟨w.heap.size, 0, none⟩ = some (.int .i64 c) := x1.made 0 _ rfl
    have x2 := (Ext.alloc _ _).trans x1
    have HX := Lib.hid x2
    obtain ⟨B, hB⟩ : ∃ B, B = w1.heap.size := ⟨_, rfl⟩
    have HB := Lib.hid hB
    have HT := Lib.hid (fun w' (x : Ext w1 w') => x.cell (World.block_lt_of_cell? _ _ T0) T0)
    have hown0 : w1.ownsRow B 35 3 (.slice none 0 0) 0 ((hearL c (L.take 0)).flatMap byt) := World.ownsRow_nil _ _ _ _
    have xr0 : Ext w1 w1 := Ext.refl _
    clear hr x1 T0 x2 hB
    go_wp2_with fail
    go_loopw [5, 6] (fun vv iv wr => ∃ k : Nat, k ≤ n ∧ iv = .int .i64 k ∧ wr.ownsRow B 35 3 vv k ((hearL c (L.take k)).flatMap byt) ∧ Ext w1 wr) (fun _ iv _ => n - (intOf iv).toNat)
    case atStart => exact ⟨0, Nat.zero_le _, rfl, hown0, xr0⟩
    case round =>
      clear hown0 xr0
      obtain ⟨k, hk, rfl, hown, xr⟩ := hrel
      by_cases hlt : k < n
      · have hkL : k < L.length := by rw [HL.out]; exact hlt
        obtain ⟨p, o, rfl, hp, -⟩ := HA.out.resolve_left (by intro e; rw [e] at hkL; simp at hkL)
        obtain ⟨c0, c1⟩ := HA.out.out_at k hkL
        have HTk := Lib.hid (hearL_take (c := c) hkL)
        generalize (L[k]).1 = X at c0 HTk
        generalize (L[k]).2 = Y at c1 HTk
        have wk : IntKind.i64.wrap ((k : Int) + 1) = (k : Int) + 1 := IntWalk.i64_in _ (by have := HN.out; omega)
        have hlt' : (k : Int) < n := by omega
        have hBs : B ≤ wr.heap.size := by rw [HB.out]; exact xr.size
        have HS := Lib.hid (fun w' (x : Ext w1 w') => And.intro (HT.out w' x) (And.intro ((HX.out.trans x).cell hp c0) (And.intro ((HX.out.trans x).cell hp c1) x)))
        have HLt := Lib.hid hlt
        have HXr := Lib.hid xr
        have HO := Lib.hid (fun w' (x : Ext wr w') => own_ext hown x)
        obtain ⟨r0, r1, r2, -⟩ := HS.out wr.drew (xr.trans (Ext.drew _))
        clear c0 c1 xr hlt HA HT hkL
        go_wp2_with fail
        have z9 : Ext wr wr.drew := Ext.drew _
        have z8 : Ext w1 wr.drew := HXr.out.trans z9
        go_region_held3 (fun w' => w'.cell? ⟨w.heap.size, 0, none⟩ = some (.int .i64 c) ∧ w'.cell? ⟨p, o + k * 2, none⟩ = some (.int .i64 X) ∧ w'.cell? ⟨p, o + k * 2 + 1, none⟩ = some (.int .u8 Y) ∧ Ext w1 w')
          ((first | exact HS.out _ (by assumption) | exact HS.out _ (z8.trans (Ext.alloc _ _))))
          (first
            | (go_at_call 23; refine (radd_any _ _ _).mono ?_; rintro e wa ⟨rfl, rfl⟩)
            | (refine step_append_one rfl (.tmp 16) (.tmp 31) 28 rfl B 35 iB _ 16 Try.underlying28 hiB hzB0 hzB1 hzB2 rfl (by decide) _ k (hearL c (L.take k)) (by rfl) (HO.out _ (z9.trans (Ext.alloc _ _))) wr.drew.heap.size #[.int .i64 (addI X c), .int .u8 Y, .bool false] 35 (0, 0) (addI X c, Y, false) (by rfl) (heap_alloc_new _ _) rfl rfl (byt_ones _) (by unfold maxLen; have := HN.out; omega) (by have := HN.out; omega) (by simp; omega) ?_
               intro v5 w5 hown5 hb5
               have x5 : Ext w1 w5 := Below.trans (z8.trans (Ext.alloc _ _)) (by rw [← HB.out]; exact hb5)
               clear hb5))
        rw [← HTk.out] at hown5
        clear r0 r1 r2 hown HO HS
        go_wp2_with fail
        go_roundw
        case rel => exact ⟨k + 1, by have := HLt.out; omega, by go_num, hown5, x5⟩
        case measure => have := HLt.out; simp [intOf]; omega
      · have hkn : k = n := by omega
        subst hkn
        rw [List.take_of_length_le (by rw [HL.out]; omega)] at hown
        obtain ⟨z, x, hv, h1, h2, h3, -⟩ := HoldsL.of_own byt_length hown (by rw [hearL_length, HL.out])
        subst hv
        have HF := Lib.hid (And.intro h1 (And.intro h2 (And.intro h3 (HX.out.trans xr))))
        clear h1 h2 h3 hown xr HA HT
        go_wp2
        go_ret
        exact ⟨z, x, by rw [hearL_length, HL.out]; rfl, by rw [hearL_length, HL.out]; exact HF.out.1, HF.out.2.1, HF.out.2.2.1, HF.out.2.2.2⟩
set_option maxHeartbeats 4000000 in
theorem rend25_any (a : Option Addr) (n cp : Nat) (L : List (Int × Int)) (c s l u : Int) (w : World) (ha : HoldsL 2 outC w a L) (hL : L.length = n) (hn : n ≤ 1000000) :
    Calls Try.prog 12 #[.slice a n cp, timesC c s l u] w fun e w' => e = .returned (.int .i64 (endO c s l u L)) ∧ Ext w w' := by
  have hr := fun w => rright_any c s l u w
  unfold timesC
  by_cases hn0 : n = 0
  · subst hn0
    have hE : endO c s l u L = 0 := by unfold endO; rw [if_pos (.inl hL)]
    rw [hE]
    clear hE ha hL hr
    go_enter Try.func12, Try.ntmps12
    go_wp2
    go_ret
    exact ⟨rfl, Ext.alloc _ _⟩
  · obtain ⟨m, hm⟩ : ∃ m, m = n - 1 := ⟨_, rfl⟩
    have hm2 : ((n : Int) == 0) = false := by simp; omega
    cases h1 : rightB c s l u
    · rw [h1] at hr
      have hE : endO c s l u L = 0 := by unfold endO; rw [if_pos (.inr h1)]
      rw [hE]
      clear hE h1 ha hL hm hn0 hn
      go_enter Try.func12, Try.ntmps12
      go_wp2_with fail
      refine (hr _).mono ?_; rintro e w1 ⟨rfl, x1⟩
      go_wp2
      go_ret
      exact ⟨rfl, (Ext.alloc _ _).trans x1⟩
    · rw [h1] at hr
      have hE : endO c s l u L = addI (L[m]'(by omega)).1 c := by unfold endO; rw [if_neg (by rw [h1]; rintro (h | h); omega; cases h), lastO_at (k := m) (by omega)]
      rw [hE]
      obtain ⟨p, o, rfl, hp, -⟩ := ha.resolve_left (by intro e; rw [e] at hL; simp at hL; omega)
      obtain ⟨c0, -⟩ := ha.out_at m (by omega)
      generalize (L[m]'(by omega)).1 = X at c0 ⊢
      have HC := Lib.hid (fun w' (x : Ext w w') => x.cell hp c0)
      have w1' : IntKind.i64.wrap ((n : Int) - 1) = (m : Int) := by rw [IntWalk.i64_in _ (by omega)]; omega
      have hlt : (m : Int) < (n : Int) := by omega
      clear hE h1 ha hL c0 hp hm hn0 hn
      go_enter Try.func12, Try.ntmps12
      go_wp2_with fail
      refine (hr _).mono ?_; rintro e w1 ⟨rfl, x1⟩
      have T0 : w1.cell? ⟨w.heap.size, 0, none⟩ = some (.int .i64 c) := x1.made 0 _ rfl
      have x2 := (Ext.alloc _ _).trans x1
      have c0 := HC.out _ x2
      have R := fun w => radd_any X c w
      clear hr x1 HC
      go_wp2_with fail
      have HS := Lib.hid (fun w' (x : Ext w1 w') => And.intro (x.cell (World.block_lt_of_cell? _ _ T0) T0) (And.intro (x.cell (World.block_lt_of_cell? _ _ c0) c0) x))
      have z9 : Ext w1 w1.drew := Ext.drew _
      obtain ⟨r0, r1, -⟩ := HS.out w1.drew z9
      clear T0 c0
      go_region_held3 (fun w' => w'.cell? ⟨w.heap.size, 0, none⟩ = some (.int .i64 c) ∧ w'.cell? ⟨p, o + m * 2, none⟩ = some (.int .i64 X) ∧ Ext w1 w')
        ((exact HS.out _ (by assumption)))
        ((go_at_call 23; refine (R _).mono ?_; rintro e wa ⟨rfl, rfl⟩))
      go_wp2
      go_ret
      exact ⟨rfl, x2.trans z9⟩
theorem outq (op : BinOp) (x y : Operand) (xs ys : Array Value) (w : World) : (eqGuard op 39 x y (.agg xs) (.agg ys)).run Try.prog w = .ok () w :=
  run_eqGuard_agg w op _ x y xs ys (by kernel_rfl)
theorem oneq (X Y : Int) (w : World) : (binOp .neq 39 (.agg #[.int .i64 X, .int .u8 Y]) (.agg #[.int .i64 X, .int .u8 Y])).run Try.prog w = .ok (.bool false) w := by
  rw [run_neq_struct, run_equalIn_struct w 9999 _ _ _ (by kernel_rfl) (by kernel_rfl)]
  have hi := Try.underlying3
  have h8 := Try.underlying5
  simp [Program.fieldsOf, Try.underlying39, Op.eqFields, go_sem, hi, h8]
theorem bytq (op : BinOp) (x y : Operand) (xs ys : Array Value) (w : World) : (eqGuard op 35 x y (.agg xs) (.agg ys)).run Try.prog w = .ok () w :=
  run_eqGuard_agg w op _ x y xs ys (by kernel_rfl)
theorem bneq (X Y : Int) (Z : Bool) (w : World) : (binOp .neq 35 (.agg #[.int .i64 X, .int .u8 Y, .bool Z]) (.agg #[.int .i64 X, .int .u8 Y, .bool Z])).run Try.prog w = .ok (.bool false) w := by
  rw [run_neq_struct, run_equalIn_struct w 9999 _ _ _ (by kernel_rfl) (by kernel_rfl)]
  have hi := Try.underlying3
  have h8 := Try.underlying5
  have hb := Try.underlying4
  simp [Program.fieldsOf, Try.underlying35, Op.eqFields, go_sem, hi, h8, hb]
set_option maxHeartbeats 4000000 in
/-- Bytes that are sent held against their like. -/
theorem rsame25_yes (a b : Option Addr) (n cp cq : Nat) (L : List (Int × Int)) (w : World) (ha : HoldsL 2 outC w a L) (hb : HoldsL 2 outC w b L) (hL : L.length = n) (hn : n ≤ 1000000) :
    Calls Try.prog 10 #[.slice a n cp, .slice b n cq] w fun e w' => e = .returned (.bool true) ∧ Ext w w' := by
  have hg := fun x y xs ys w => outq .neq x y xs ys w
  have hq := fun X Y w => oneq X Y w
  have HA := Lib.hid ha
  have HB := Lib.hid hb
  have HL := Lib.hid hL
  have HN := Lib.hid hn
  have x0 : Ext w w := Ext.refl _
  clear ha hb hL hn
  go_enter Try.func10, Try.ntmps10
  go_wp2_with fail
  go_loopw [5] (fun iv wr => ∃ k : Nat, k ≤ n ∧ iv = .int .i64 k ∧ Ext w wr) (fun iv _ => n - (intOf iv).toNat)
  case atStart => exact ⟨0, Nat.zero_le _, rfl, x0⟩
  case round =>
    clear x0
    obtain ⟨k, hk, rfl, xr⟩ := hrel
    by_cases hlt : k < n
    · have hkL : k < L.length := by rw [HL.out]; exact hlt
      obtain ⟨p, o, rfl, hp, -⟩ := HA.out.resolve_left (by intro e; rw [e] at hkL; simp at hkL)
      obtain ⟨q, s, rfl, hp2, -⟩ := HB.out.resolve_left (by intro e; rw [e] at hkL; simp at hkL)
      obtain ⟨c0, c1⟩ := HA.out.out_at k hkL
      obtain ⟨d0, d1⟩ := HB.out.out_at k hkL
      generalize (L[k]).1 = X at c0 d0
      generalize (L[k]).2 = Y at c1 d1
      have y := xr.trans (Ext.drew _)
      have c0' := y.cell hp c0
      have c1' := y.cell hp c1
      have d0' := y.cell hp2 d0
      have d1' := y.cell hp2 d1
      have HY := Lib.hid y
      have wk : IntKind.i64.wrap ((k : Int) + 1) = (k : Int) + 1 := IntWalk.i64_in _ (by have := HN.out; omega)
      have hlt' : (k : Int) < n := by omega
      have HLt := Lib.hid hlt
      clear c0 c1 d0 d1 hlt hkL xr y
      go_wp2_with fail
      go_region
      go_wp2_with fail
      go_roundw
      case rel => exact ⟨k + 1, by have := HLt.out; omega, by go_num, HY.out⟩
      case measure => have := HLt.out; simp [intOf]; omega
    · have hkn : k = n := by omega
      subst hkn
      go_wp2
      go_ret
      exact ⟨rfl, xr⟩
end Go.Proofs.Ytebhalehgpigoaa
