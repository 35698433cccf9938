/-
  THE LAWS OF LAYER 12: the walk of WindowCuts.
-/
import Derived.Test.YtpolopggaolodaaLaw12B
import Derived.Test.YtpolopggaolodaaWinG
import Derived.Test.YtpolopggaolodaaStepAppend
import Derived.Deep.DeepCutAuto
namespace Go.Proofs.Ytpolopggaolodaa
open Go.RowKit
set_option linter.unusedVariables false

/-- A window lies in a block that holds nothing else. -/
def WinIn (w : World) (A : Nat) (f c : Int) : Prop := w.heap[A]? = some (.cells #[.int .i64 f, .int .i64 c] 23 (0, 0))
theorem WinIn.ext {w w' : World} {A : Nat} {f c : Int} (h : WinIn w A f c) (x : Ext w w') : WinIn w' A f c := x.block h
theorem WinIn.at_ {w : World} {A : Nat} {f c : Int} (h : WinIn w A f c) : WinAt w A f c := ⟨cell_of_row w A 0 _ _ _ h, cell_of_row w A 1 _ _ _ h⟩
/-- What lies where, behind the entry: three windows. -/
theorem cuts_box (f c g d h k : Int) (w : World) :
    Ext w (((w.alloc (.cells #[.int .i64 f, .int .i64 c] 23)).alloc (.cells #[.int .i64 g, .int .i64 d] 23)).alloc (.cells #[.int .i64 h, .int .i64 k] 23)) ∧
    WinIn (((w.alloc (.cells #[.int .i64 f, .int .i64 c] 23)).alloc (.cells #[.int .i64 g, .int .i64 d] 23)).alloc (.cells #[.int .i64 h, .int .i64 k] 23)) w.heap.size f c ∧
    WinIn (((w.alloc (.cells #[.int .i64 f, .int .i64 c] 23)).alloc (.cells #[.int .i64 g, .int .i64 d] 23)).alloc (.cells #[.int .i64 h, .int .i64 k] 23)) (w.heap.size + 1) g d ∧
    WinIn (((w.alloc (.cells #[.int .i64 f, .int .i64 c] 23)).alloc (.cells #[.int .i64 g, .int .i64 d] 23)).alloc (.cells #[.int .i64 h, .int .i64 k] 23)) (w.heap.size + 1 + 1) h k := by
  have xa := Ext.alloc (w.alloc (.cells #[.int .i64 f, .int .i64 c] 23)) (.cells #[.int .i64 g, .int .i64 d] 23)
  have xb := Ext.alloc ((w.alloc (.cells #[.int .i64 f, .int .i64 c] 23)).alloc (.cells #[.int .i64 g, .int .i64 d] 23)) (.cells #[.int .i64 h, .int .i64 k] 23)
  exact ⟨(Ext.alloc w _).trans (xa.trans xb), (xa.trans xb).block (heap_new_at _ _ rfl), xb.block (heap_new_at _ _ (by simp)), heap_new_at _ _ (by simp)⟩
theorem set_row2 {w w' : World} {B : Nat} {o : Array Value} (v : Array Value) (hb : w.heap.size ≤ B) (x : Ext w w') (h : w'.heap[B]? = some (.cells o 23 (0, 0))) :
    Ext w (w'.setRow B v) ∧ (w'.setRow B v).heap[B]? = some (.cells v 23 (0, 0)) := ⟨below_setRow x hb _, setRow_heap _ _ _ _ _ _ h⟩

theorem field_win (w : World) (a b : Int) : (Instr.field 23 (.agg #[.int .i64 a, .int .i64 b]) 1).run Try.prog w = .ok (.int .i64 b) w := by kernel_rfl
set_option maxRecDepth 100000 in
set_option maxHeartbeats 6400000 in
theorem windowCuts.walk (f c g d h k : Int) (w : World) (hf : (Lit.int .i64 f).wf = true) (hc : (Lit.int .i64 c).wf = true) (hg : (Lit.int .i64 g).wf = true) (hd : (Lit.int .i64 d).wf = true) (hh : (Lit.int .i64 h).wf = true) (hk : (Lit.int .i64 k).wf = true) :
    Calls Try.prog 5 #[.agg #[.int .i64 f, .int .i64 c], .agg #[.int .i64 g, .int .i64 d], .agg #[.int .i64 h, .int .i64 k]] w fun e w' => e = .returned (.bool true) ∧ Ext w w' := by
  have BD := Lib.hid (wf_bd hd hg)
  have HX := Lib.hid (And.intro (cut_assoc f c g d h k) (cut_comm h k (cutF f c g d) (cutC f c g d)))
  have HMost := Lib.hid (cut_most f c g d h k)
  obtain ⟨w0, hw0⟩ : ∃ w0, w0 = (((w.alloc (.cells #[.int .i64 f, .int .i64 c] 23)).alloc (.cells #[.int .i64 g, .int .i64 d] 23)).alloc (.cells #[.int .i64 h, .int .i64 k] 23)) := ⟨_, rfl⟩
  obtain ⟨e0, T0, U0, V0⟩ := cuts_box f c g d h k w
  rw [← hw0] at e0 T0 U0 V0
  have HT := Lib.hid T0; have HU := Lib.hid U0; have HV := Lib.hid V0; have HE := Lib.hid e0
  clear e0 hf hc hg hd hh hk T0 U0 V0
  obtain ⟨X, hX⟩ : ∃ X, cutF (cutF f c g d) (cutC f c g d) h k = X := ⟨_, rfl⟩
  obtain ⟨Y, hY⟩ : ∃ Y, cutC (cutF f c g d) (cutC f c g d) h k = Y := ⟨_, rfl⟩
  have HXY := Lib.hid (And.intro hX hY)
  clear hX hY
  go_enter Try.func5, Try.ntmps5
  go_upto_region 1 with fail
  rw [← hw0]
  clear hw0
  go_cut [7] (fun pv wx => ∃ B : Nat, pv = .pointer (some ⟨B, 0, none⟩) ∧ Ext w0 wx ∧ WinIn wx B X Y)
  case first =>
    refine wp_region_held_drew (S := fun w' => Ext w0 w') (by kernel_rfl) (Ext.drew _) (fun _ => ?_)
    have hs0 : Ext w0 w0.drew := Ext.drew _
    refine wpAnyH_takeD (i := 0) (d := 8) rfl rfl (by kernel_rfl) (by kernel_rfl) (by kernel_rfl) (fun _ _ _ h => h) (yieldsIf_load_row (by rfl) 23 (.tmp 3) rfl w.heap.size rfl 23 _ (0, 0) _ (fun w' hw' => HT.out.ext hw') Try.underlying23 rfl (by kernel_rfl)) hs0 ?_
    simp only [Act.put, List.setIfInBounds_toArray, List.set_cons_succ, List.set_cons_zero]
    refine wpAnyH_takeD (i := 1) (d := 9) rfl rfl (by kernel_rfl) (by kernel_rfl) (by kernel_rfl) (fun _ _ _ h => h) (yieldsIf_load_row (by rfl) 23 (.tmp 4) rfl (w.heap.size + 1) rfl 23 _ (0, 0) _ (fun w' hw' => HU.out.ext hw') Try.underlying23 rfl (by kernel_rfl)) hs0 ?_
    simp only [Act.put, List.setIfInBounds_toArray, List.set_cons_succ, List.set_cons_zero]
    refine wpAnyH_takeD (i := 3) (d := 11) rfl rfl (by kernel_rfl) (by kernel_rfl) (by kernel_rfl) (fun _ _ _ h => h) (yieldsIf_load_row (by rfl) 23 (.tmp 5) rfl (w.heap.size + 1 + 1) rfl 23 _ (0, 0) _ (fun w' hw' => HV.out.ext hw') Try.underlying23 rfl (by kernel_rfl)) hs0 ?_
    simp only [Act.put, List.setIfInBounds_toArray, List.set_cons_succ, List.set_cons_zero]
    refine wpAnyH_ready (rs := [2, 5]) (by kernel_rfl) (by simp) (AllReadyH.cons rfl (fun K hK => ?_) (AllReadyH.cons rfl (fun K hK => ?_) AllReadyH.nil))
    · go_simp
      go_at_call 15
      refine (wcut_any f c g d _).mono ?_; rintro e w3 ⟨rfl, x3⟩
      go_wp2_with fail
      refine hK.out _ _ (Ext.trans hs0 x3) (fun hs1 => ?_)
      clear hK K
      refine wpAnyH_ready (rs := [4, 5]) (by kernel_rfl) (by simp) (AllReadyH.cons rfl (fun K hK => ?_) (AllReadyH.cons rfl (fun K hK => ?_) AllReadyH.nil))
      · go_simp
        go_at_call 15
        refine (wcut_v HXY.out.1 HXY.out.2 _).mono ?_; rintro e w4 ⟨rfl, x4⟩
        go_wp2_with fail
        refine hK.out _ _ (Ext.trans hs1 x4) (fun hs2 => ?_)
        clear hK K
        refine wpAnyH_ready (rs := [5]) (by kernel_rfl) (by simp) (AllReadyH.cons rfl (fun K hK => ?_) AllReadyH.nil)
        go_simp
        refine hK.out _ _ (Ext.alloc' hs2 _) (fun hs3 => ?_)
        clear hK K
        refine wpAnyH_ready (rs := [6]) (by kernel_rfl) (by simp) (AllReadyH.cons rfl (fun K hK => ?_) AllReadyH.nil)
        have gB := heap_alloc_new w4 (.cells #[.int .i64 0, .int .i64 0] 23)
        have gR := set_row2 #[.int .i64 X, .int .i64 Y] (Ext.size hs2) hs3 gB
        refine wp_store_row 23 (.tmp 7) (.tmp 12) rfl w4.heap.size _ rfl rfl 23 _ gB (by kernel_rfl) rfl (by simp [Value.oneCell']) ?_
        refine hK.out _ _ gR.1 (fun hs4 => ?_)
        clear hK K
        refine wpAnyH_done (by kernel_rfl) ?_ _
        go_wp2_with fail
        go_meet
        exact ⟨_, rfl, gR.1, gR.2⟩
      · go_simp
        refine hK.out _ _ (Ext.alloc' hs1 _) (fun hs2 => ?_)
        clear hK K
        have gA := heap_alloc_new w3 (.cells #[.int .i64 0, .int .i64 0] 23)
        refine wpAnyH_ready (rs := [4]) (by kernel_rfl) (by simp) (AllReadyH.cons rfl (fun K hK => ?_) AllReadyH.nil)
        go_simp
        go_at_call 15
        refine (wcut_v HXY.out.1 HXY.out.2 _).mono ?_; rintro e w4 ⟨rfl, x4⟩
        go_wp2_with fail
        have gB := x4.block gA
        refine hK.out _ _ (Ext.trans hs2 x4) (fun hs3 => ?_)
        clear hK K
        refine wpAnyH_ready (rs := [6]) (by kernel_rfl) (by simp) (AllReadyH.cons rfl (fun K hK => ?_) AllReadyH.nil)
        have gR := set_row2 #[.int .i64 X, .int .i64 Y] (Ext.size hs1) hs3 gB
        refine wp_store_row 23 (.tmp 7) (.tmp 12) rfl w3.heap.size _ rfl rfl 23 _ gB (by kernel_rfl) rfl (by simp [Value.oneCell']) ?_
        refine hK.out _ _ gR.1 (fun hs4 => ?_)
        clear hK K
        refine wpAnyH_done (by kernel_rfl) ?_ _
        go_wp2_with fail
        go_meet
        exact ⟨_, rfl, gR.1, gR.2⟩
    · go_simp
      refine hK.out _ _ (Ext.alloc' hs0 _) (fun hs1 => ?_)
      clear hK K
      have gA := heap_alloc_new w0.drew (.cells #[.int .i64 0, .int .i64 0] 23)
      refine wpAnyH_ready (rs := [2]) (by kernel_rfl) (by simp) (AllReadyH.cons rfl (fun K hK => ?_) AllReadyH.nil)
      go_simp
      go_at_call 15
      refine (wcut_any f c g d _).mono ?_; rintro e w3 ⟨rfl, x3⟩
      go_wp2_with fail
      refine hK.out _ _ (Ext.trans hs1 x3) (fun hs2 => ?_)
      clear hK K
      refine wpAnyH_ready (rs := [4]) (by kernel_rfl) (by simp) (AllReadyH.cons rfl (fun K hK => ?_) AllReadyH.nil)
      go_simp
      go_at_call 15
      refine (wcut_v HXY.out.1 HXY.out.2 _).mono ?_; rintro e w4 ⟨rfl, x4⟩
      go_wp2_with fail
      have gB := x4.block (x3.block gA)
      refine hK.out _ _ (Ext.trans hs2 x4) (fun hs3 => ?_)
      clear hK K
      refine wpAnyH_ready (rs := [6]) (by kernel_rfl) (by simp) (AllReadyH.cons rfl (fun K hK => ?_) AllReadyH.nil)
      have gR := set_row2 #[.int .i64 X, .int .i64 Y] (Nat.le_refl w0.heap.size) hs3 gB
      refine wp_store_row 23 (.tmp 7) (.tmp 12) rfl w0.heap.size _ rfl rfl 23 _ gB (by kernel_rfl) rfl (by simp [Value.oneCell']) ?_
      refine hK.out _ _ gR.1 (fun hs4 => ?_)
      clear hK K
      refine wpAnyH_done (by kernel_rfl) ?_ _
      go_wp2_with fail
      go_meet
      exact ⟨_, rfl, gR.1, gR.2⟩
  case rest =>
    obtain ⟨B, rfl, xc, TB⟩ := hcut
    obtain ⟨hX, hY⟩ := HXY.out
    obtain ⟨⟨hX1, hY1⟩, hX2, hY2⟩ := HX.out
    rw [hX] at hX1 hX2
    rw [hY] at hY1 hY2
    have hm := HMost.out
    rw [hY] at hm
    have hq1 := fun w => wneq_v (f := X) (c := Y) (g := X) (d := Y) (B := false) (by rw [eqW_self]; rfl) w
    have hg := fun x y xs ys w => weqg .neq x y xs ys w
    have t0 := (HT.out.ext xc).at_; have u0 := (HU.out.ext xc).at_; have v0 := (HV.out.ext xc).at_; have z0 := TB.at_
    have t1 := t0.c0; have t2 := t0.c1; have u1 := u0.c0; have u2 := u0.c1; have v1 := v0.c0; have v2 := v0.c1; have z1 := z0.c0; have z2 := z0.c1
    have A0 := Later.cell t1; have A1 := Later.cell t2; have B0 := Later.cell u1; have B1 := Later.cell u2; have C0 := Later.cell v1; have C1 := Later.cell v2; have D0 := Later.cell z1; have D1 := Later.cell z2
    have HMo := Lib.hid hm
    have HA := Lib.hid (fun w => wcut_v hX1 hY1 w)
    have HB := Lib.hid (fun w => wcut_v hX2.symm hY2.symm w)
    clear t0 u0 v0 z0 t1 t2 u1 u2 v1 v2 z1 z2 hX hY hX1 hY1 hX2 hY2 HXY HX HMost hm
    go_upto_region 2 with fail
    go_cut [40] (fun v wx => v = .bool false ∧ Ext wc wx)
    case first =>
      refine wp_region_later (by kernel_rfl) (by kernel_rfl) ?_
      repeat (go_big_quiet_step (first
        | (go_at_call_of 15 (cutF g d h k); exact later_of (HA.out _))
        | (go_at_call_of 15 (cutF f c g d); exact later_of (HB.out _))
        | (go_at_call 15; exact later_of (wcut_any _ _ _ _ _))))
      refine wpQuiet_nil ?_
      intro _ hw'
      obtain ⟨y, rfl⟩ := hw'
      have ey := y.ext
      generalize y.at = w9 at ey ⊢
      go_wp2_with fail
      all_goals go_meet
      all_goals exact ⟨congrArg Value.bool (decide_eq_false (by have := HMo.out; omega)), ey⟩
    case rest =>
      obtain ⟨rfl, x2⟩ := hcut
      have y2 := xc.trans x2
      clear A0 A1 B0 B1 C0 C1 D0 D1 HA HB TB x2 xc hq1
      have t0 := (HT.out.ext y2).at_; have u0 := (HU.out.ext y2).at_
      have t1 := t0.c0; have t2 := t0.c1; have u1 := u0.c0; have u2 := u0.c1
      have A0 := Later.cell t1; have A1 := Later.cell t2; have B0 := Later.cell u1; have B1 := Later.cell u2
      clear t0 u0 t1 t2 u1 u2
      go_upto_region 4 with fail
      go_cut [54] (fun v wx => v = .bool false ∧ Ext wc wx)
      case first =>
        cases hr : rgtB f c with
        | false =>
          have HR := Lib.hid hr
          clear hr
          refine wp_region_later (by kernel_rfl) (by kernel_rfl) ?_
          repeat (go_big_quiet_step (first
            | (go_at_call 8; exact later_of (wright_v HR.out _))))
          refine wpQuiet_nil ?_
          intro _ hw'
          obtain ⟨y, rfl⟩ := hw'
          have ey := y.ext
          generalize y.at = w9 at ey ⊢
          go_wp2_with fail
          go_meet
          exact ⟨rfl, ey⟩
        | true =>
          have HR := Lib.hid hr
          by_cases hp : 0 < c
          · have hd : decide (0 < c) = true := decide_eq_true hp
            have HC := Lib.hid (cut_self hr hp)
            have hq := fun w => wneq_v (f := f) (c := c) (g := f) (d := c) (B := false) (by rw [eqW_self]; rfl) w
            clear hr hp
            refine wp_region_later (by kernel_rfl) (by kernel_rfl) ?_
            repeat (go_big_quiet_step (first
              | (go_at_call 8; exact later_of (wright_v HR.out _))
              | (go_at_call 15; exact later_of (wcut_v HC.out.1 HC.out.2 _))))
            refine wpQuiet_nil ?_
            intro _ hw'
            obtain ⟨y, rfl⟩ := hw'
            have ey := y.ext
            generalize y.at = w9 at ey ⊢
            go_wp2_with fail
            go_meet
            exact ⟨rfl, ey⟩
          · have hd : decide (0 < c) = false := decide_eq_false hp
            clear hr hp
            refine wp_region_later (by kernel_rfl) (by kernel_rfl) ?_
            repeat (go_big_quiet_step (first
              | (go_at_call 8; exact later_of (wright_v HR.out _))))
            refine wpQuiet_nil ?_
            intro _ hw'
            obtain ⟨y, rfl⟩ := hw'
            have ey := y.ext
            generalize y.at = w9 at ey ⊢
            go_wp2_with fail
            go_meet
            exact ⟨rfl, ey⟩
      case rest =>
        obtain ⟨rfl, x3⟩ := hcut
        have y3 := y2.trans x3
        clear A0 A1 B0 B1 x3 y2
        have y2 := y3
        clear y3
        have t0 := (HT.out.ext y2).at_; have u0 := (HU.out.ext y2).at_
        have t1 := t0.c0; have t2 := t0.c1; have u1 := u0.c0; have u2 := u0.c1
        have A0 := Later.cell t1; have A1 := Later.cell t2; have B0 := Later.cell u1; have B1 := Later.cell u2
        clear t0 u0 t1 t2 u1 u2
        go_upto_region 6 with fail
        go_cut [71] (fun v wx => v = .bool false ∧ Ext wc wx)
        case first =>
          cases hr : rgtB g d with
          | false =>
            have HR := Lib.hid hr
            clear hr
            refine wp_region_later (by kernel_rfl) (by kernel_rfl) ?_
            repeat (go_big_quiet_step (first
              | (go_at_call 8; exact later_of (wright_v HR.out _))))
            refine wpQuiet_nil ?_
            intro _ hw'
            obtain ⟨y, rfl⟩ := hw'
            have ey := y.ext
            generalize y.at = w9 at ey ⊢
            go_wp2_with fail
            go_meet
            exact ⟨rfl, ey⟩
          | true =>
            have HR := Lib.hid hr
            cases hp : holdB f c g d with
            | true =>
              have HC := Lib.hid (cut_held hp hr)
              have HP := Lib.hid hp
              have hq := fun w => wneq_v (f := g) (c := d) (g := g) (d := d) (B := false) (by rw [eqW_self]; rfl) w
              clear hr hp
              refine wp_region_later (by kernel_rfl) (by kernel_rfl) ?_
              repeat (go_big_quiet_step (first
                | (go_at_call 8; exact later_of (wright_v HR.out _))
                | (go_at_call 11; exact later_of (wholds_v HP.out _))
                | (go_at_call 15; exact later_of (wcut_v HC.out.1 HC.out.2 _))))
              refine wpQuiet_nil ?_
              intro _ hw'
              obtain ⟨y, rfl⟩ := hw'
              have ey := y.ext
              generalize y.at = w9 at ey ⊢
              go_wp2_with fail
              go_meet
              exact ⟨rfl, ey⟩
            | false =>
              have HP := Lib.hid hp
              clear hr hp
              refine wp_region_later (by kernel_rfl) (by kernel_rfl) ?_
              repeat (go_big_quiet_step (first
                | (go_at_call 8; exact later_of (wright_v HR.out _))
                | (go_at_call 11; exact later_of (wholds_v HP.out _))))
              refine wpQuiet_nil ?_
              intro _ hw'
              obtain ⟨y, rfl⟩ := hw'
              have ey := y.ext
              generalize y.at = w9 at ey ⊢
              go_wp2_with fail
              go_meet
              exact ⟨rfl, ey⟩
        case rest =>
          obtain ⟨rfl, x3⟩ := hcut
          have y3 := y2.trans x3
          clear A0 A1 B0 B1 x3 y2
          have y2 := y3
          clear y3
          have t0 := (HT.out.ext y2).at_; have u0 := (HU.out.ext y2).at_
          have t1 := t0.c0; have t2 := t0.c1; have u1 := u0.c0; have u2 := u0.c1
          have A0 := Later.cell t1; have A1 := Later.cell t2; have B0 := Later.cell u1; have B1 := Later.cell u2
          clear t0 u0 t1 t2 u1 u2
          go_upto_region 8 with fail
          cases hr : rgtB g d with
          | false =>
            have HR := Lib.hid hr
            clear hr
            refine wp_region_later (by kernel_rfl) (by kernel_rfl) ?_
            repeat (go_big_quiet_step (first
              | (go_at_call 8; exact later_of (wright_v HR.out _))
              | (go_at_call 17; exact later_of (sure12_any _))))
            refine wpQuiet_nil ?_
            intro _ hw'
            obtain ⟨y, rfl⟩ := hw'
            have ey := y.ext
            generalize y.at = w9 at ey ⊢
            go_wp2
            go_ret
            exact ⟨rfl, HE.out.trans (y2.trans ey)⟩
          | true =>
            have HR := Lib.hid hr
            have hm := meet_some (f := f) (c := c) hr
            obtain ⟨F, hF⟩ : ∃ F, cutF f c g d = F := ⟨_, rfl⟩
            obtain ⟨D, hD⟩ : ∃ D, cutC f c g d = D := ⟨_, rfl⟩
            obtain ⟨M, hM⟩ : ∃ M, meetB f c g d = M := ⟨_, rfl⟩
            rw [hD, hM] at hm
            have hmd : decide (0 < D) = M := hm.symm
            have HF := Lib.hid hF; have HD := Lib.hid hD; have HM := Lib.hid hM
            have hfd := fun w => field_win w F D
            clear hr hm hF hD hM
            refine wp_region_later (by kernel_rfl) (by kernel_rfl) ?_
            repeat (go_big_quiet_step (first
              | (go_at_call 8; exact later_of (wright_v HR.out _))
              | (go_at_call 13; exact later_of (wmeets_v HM.out BD.out _))
              | (go_at_call 15; exact later_of (wcut_v HF.out HD.out _))
              | (go_at_call 17; exact later_of (sure12_any _))))
            refine wpQuiet_nil ?_
            intro _ hw'
            obtain ⟨y, rfl⟩ := hw'
            have ey := y.ext
            generalize y.at = w9 at ey ⊢
            go_wp2
            go_ret
            exact ⟨rfl, HE.out.trans (y2.trans ey)⟩
end Go.Proofs.Ytpolopggaolodaa
