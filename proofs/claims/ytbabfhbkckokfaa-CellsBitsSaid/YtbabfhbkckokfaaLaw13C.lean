/-
  THE LAWS OF LAYER 13: the walk of CellsBack (package cells' contracts and 'sure' as premises).
-/
import Derived.Test.YtbabfhbkckokfaaLaw13B
import Derived.Deep.DeepCutAuto
namespace Go.Proofs.Ytbabfhbkckokfaa
open Go.RowKit
set_option linter.unusedVariables false

theorem rd_wr {α : Type} (l v : Nat → α) (f x : Int) (m : Nat) : ∀ i, i < m → rdF (wrF l v f x m) f x i = v i := by
  intro i hi
  unfold rdF wrF
  rw [if_neg (by omega), if_pos (by omega), show (x - f).toNat + i - (x - f).toNat = i by omega]
theorem wr_out {α : Type} (l v : Nat → α) (f x : Int) (m k : Nat) (h : k < (x - f).toNat ∨ (x - f).toNat + m ≤ k) : wrF l v f x m k = l k := by
  unfold wrF
  by_cases h1 : k < (x - f).toNat
  · rw [if_pos h1]
  · rw [if_neg h1, if_neg (by omega)]
theorem wr_back {α : Type} (l v : Nat → α) (f x : Int) (m : Nat) (i : Nat) : wrF (wrF l v f x m) (rdF l f x) f x m i = l i := by
  unfold wrF rdF
  by_cases h1 : i < (x - f).toNat
  · rw [if_pos h1, if_pos h1]
  · by_cases h2 : i < (x - f).toNat + m
    · rw [if_neg h1, if_pos h2, show (x - f).toNat + (i - (x - f).toNat) = i by omega]
    · rw [if_neg h1, if_neg h2, if_neg h1, if_neg h2]
theorem rdE_zero {f c x : Int} {n m : Nat} (h : rdE f c n x m = 0) : 0 ≤ f ∧ f ≤ 65535 ∧ 0 ≤ c ∧ c ≤ 65536 ∧ f + c ≤ 65536 ∧ 1 ≤ m ∧ f ≤ x ∧ x + m ≤ f + c ∧ (n : Int) = c := by
  unfold rdE at h
  by_cases h1 : rgtB f c = true ∧ (n : Int) = c ∧ 1 ≤ (m : Int)
  · rw [if_pos h1] at h
    by_cases h2 : holdB f c x m = true
    · have := (holdB_iff f c x m).1 h2; omega
    · rw [if_neg h2] at h; omega
  · rw [if_neg h1] at h; omega
/-- Six cells in the first of two boxes. -/
theorem box_first {w w' : World} {v0 v1 v2 v3 v4 v5 : Value} {t : TypeId} {o : Obj} (x : Ext ((w.alloc (.cells #[v0, v1, v2, v3, v4, v5] t)).alloc o) w') :
    w'.cell? ⟨w.heap.size, 0, none⟩ = some v0 ∧ w'.cell? ⟨w.heap.size, 1, none⟩ = some v1 ∧ w'.cell? ⟨w.heap.size, 2, none⟩ = some v2 ∧ w'.cell? ⟨w.heap.size, 3, none⟩ = some v3 ∧ w'.cell? ⟨w.heap.size, 4, none⟩ = some v4 ∧ w'.cell? ⟨w.heap.size, 5, none⟩ = some v5 :=
  box_cells (Ext.trans (Ext.alloc _ o) x)
/-- Six cells in the second of two boxes. -/
theorem box_second {w w' : World} {v0 v1 v2 v3 v4 v5 : Value} {t : TypeId} {o : Obj} (x : Ext ((w.alloc o).alloc (.cells #[v0, v1, v2, v3, v4, v5] t)) w') :
    w'.cell? ⟨w.heap.size + 1, 0, none⟩ = some v0 ∧ w'.cell? ⟨w.heap.size + 1, 1, none⟩ = some v1 ∧ w'.cell? ⟨w.heap.size + 1, 2, none⟩ = some v2 ∧ w'.cell? ⟨w.heap.size + 1, 3, none⟩ = some v3 ∧ w'.cell? ⟨w.heap.size + 1, 4, none⟩ = some v4 ∧ w'.cell? ⟨w.heap.size + 1, 5, none⟩ = some v5 := by
  have s : (w.alloc o).heap.size = w.heap.size + 1 := by simp
  have h := box_cells x
  rw [s] at h
  exact h

set_option maxRecDepth 100000 in
set_option maxHeartbeats 6400000 in
theorem cellsBack.walk0 (f c x k : Int) (a : Option Addr) (n ca : Nat) (l : Nat → Int) (b : Option Addr) (m cb : Nat) (u : Nat → Int)
    (f' c' x' k' : Int) (a' : Option Addr) (n' ca' : Nat) (l' : Nat → Bool) (b' : Option Addr) (m' cb' : Nat) (u' : Nat → Bool) (w : World)
    (ha : HoldsG (Value.int .u16) w a n l) (hna : n ≤ ca) (hca : ca ≤ 140737488351232) (hb : HoldsG (Value.int .u16) w b m u) (hmb : m ≤ cb) (hcb : cb ≤ 140737488351232) (wx : (Lit.int .i64 x).wf = true)
    (ha' : HoldsG Value.bool w a' n' l') (hna' : n' ≤ ca') (hca' : ca' ≤ 140737488351232) (hb' : HoldsG Value.bool w b' m' u') (hmb' : m' ≤ cb') (hcb' : cb' ≤ 140737488351232) (wx' : (Lit.int .i64 x').wf = true)
    (rd : RdC (Value.int .u16) 13) (wr : WrC (Value.int .u16) 15) (rd' : RdC Value.bool 8) (wr' : WrC Value.bool 10)
    (sure : ∀ w, Calls Try.prog 7 #[] w fun e w' => e = .returned (.bool true) ∧ Ext w w') :
    Calls Try.prog 5 #[.agg #[.int .i64 f, .int .i64 c, .slice a n ca, .slice b m cb, .int .i64 x, .int .i64 k], .agg #[.int .i64 f', .int .i64 c', .slice a' n' ca', .slice b' m' cb', .int .i64 x', .int .i64 k']] w fun e w' => e = .returned (.bool true) ∧ Ext w w' := by
  have e0 : Ext w ((w.alloc (.cells #[.int .i64 f, .int .i64 c, .slice a n ca, .slice b m cb, .int .i64 x, .int .i64 k] 39)).alloc (.cells #[.int .i64 f', .int .i64 c', .slice a' n' ca', .slice b' m' cb', .int .i64 x', .int .i64 k'] 26)) := (Ext.alloc _ _).alloc' _
  have HS := Lib.hid sure
  have hn9 : (n : Int) ≤ 140737488351232 := by omega
  have hm9 : (m : Int) ≤ 140737488351232 := by omega
  have hn9' : (n' : Int) ≤ 140737488351232 := by omega
  have hm9' : (m' : Int) ≤ 140737488351232 := by omega
  by_cases hbig : 2000 < n + m + n' + m'
  · have hbi : (2000 : Int) < (n : Int) + (m : Int) + (n' : Int) + (m' : Int) := by omega
    clear rd wr rd' wr' ha hb ha' hb' sure hbig
    go_enter Try.func5, Try.ntmps5
    go_wp2_with fail
    refine (HS.out _).mono ?_; rintro e w1 ⟨rfl, x1⟩
    go_wp2
    go_ret
    exact ⟨rfl, e0.trans x1⟩
  · have hbi : ¬ (2000 : Int) < (n : Int) + (m : Int) + (n' : Int) + (m' : Int) := by omega
    have hcam : ca ≤ maxLen := by unfold maxLen; omega
    have hcbm : cb ≤ maxLen := by unfold maxLen; omega
    have hcam' : ca' ≤ maxLen := by unfold maxLen; omega
    have hcbm' : cb' ≤ maxLen := by unfold maxLen; omega
    obtain ⟨W2, hW2⟩ : ∃ W2, W2 = ((w.alloc (.cells #[.int .i64 f, .int .i64 c, .slice a n ca, .slice b m cb, .int .i64 x, .int .i64 k] 39)).alloc (.cells #[.int .i64 f', .int .i64 c', .slice a' n' ca', .slice b' m' cb', .int .i64 x', .int .i64 k'] 26)) := ⟨_, rfl⟩
    have hX := fun w' (hx : Ext ((w.alloc (.cells #[.int .i64 f, .int .i64 c, .slice a n ca, .slice b m cb, .int .i64 x, .int .i64 k] 39)).alloc (.cells #[.int .i64 f', .int .i64 c', .slice a' n' ca', .slice b' m' cb', .int .i64 x', .int .i64 k'] 26)) w') => box_first hx
    have hY := fun w' (hx : Ext ((w.alloc (.cells #[.int .i64 f, .int .i64 c, .slice a n ca, .slice b m cb, .int .i64 x, .int .i64 k] 39)).alloc (.cells #[.int .i64 f', .int .i64 c', .slice a' n' ca', .slice b' m' cb', .int .i64 x', .int .i64 k'] 26)) w') => box_second hx
    rw [← hW2] at e0 hX hY
    have HX := Lib.hid hX; have HY := Lib.hid hY; have He0 := Lib.hid e0
    have HW := Lib.hid (fun w' (hx : Ext w w') => And.intro (ha.ext hx) (hb.ext hx))
    have HW' := Lib.hid (fun w' (hx : Ext w w') => And.intro (ha'.ext hx) (hb'.ext hx))
    have K1 := Lib.hid (fun w' (hx : Ext w w') => wr f c x a n ca l b m cb u w' (ha.ext hx) hna hcam (by omega) (hb.ext hx) hmb hcbm (by omega) wx)
    have K2 := Lib.hid (fun y d w' (hx : HoldsG (Value.int .u16) w' y n (wrF l u f x m)) (h1 : n ≤ d) (h2 : d ≤ maxLen) => rd f c x (m : Int) y n d (wrF l u f x m) w' hx h1 h2 (by omega) wx (by simp [Lit.wf, IntKind.min, IntKind.max, IntKind.signed, IntKind.bits]; omega))
    have K3 := Lib.hid (fun w' (hx : Ext w w') => wr' f' c' x' a' n' ca' l' b' m' cb' u' w' (ha'.ext hx) hna' hcam' (by omega) (hb'.ext hx) hmb' hcbm' (by omega) wx')
    have K4 := Lib.hid (fun y d w' (hx : HoldsG Value.bool w' y n' (wrF l' u' f' x' m')) (h1 : n' ≤ d) (h2 : d ≤ maxLen) => rd' f' c' x' (m' : Int) y n' d (wrF l' u' f' x' m') w' hx h1 h2 (by omega) wx' (by simp [Lit.wf, IntKind.min, IntKind.max, IntKind.signed, IntKind.bits]; omega))
    have K5 := Lib.hid (fun w' (hx : Ext w w') => rd' f' c' x' (m' : Int) a' n' ca' l' w' (ha'.ext hx) hna' hcam' (by omega) wx' (by simp [Lit.wf, IntKind.min, IntKind.max, IntKind.signed, IntKind.bits]; omega))
    have K6 := Lib.hid (fun y d z e w' (hx : HoldsG Value.bool w' y n' (wrF l' u' f' x' m')) (h1 : n' ≤ d) (h2 : d ≤ maxLen) (hz : HoldsG Value.bool w' z m' (rdF l' f' x')) (h3 : m' ≤ e) (h4 : e ≤ maxLen) => wr' f' c' x' y n' d (wrF l' u' f' x' m') z m' e (rdF l' f' x') w' hx h1 h2 (by omega) hz h3 h4 (by omega) wx')
    unfold RdPost at K2 K4 K5
    unfold WrPost at K1 K3 K6
    have HSm := Lib.hid (show n + m + n' + m' ≤ 2000 by omega)
    have hnL : (n : Int) ≤ 2000 := by omega
    have hmL : (m : Int) ≤ 2000 := by omega
    clear rd wr rd' wr' ha hb ha' hb' sure hbig hcam hcbm hcam' hcbm' wx wx' e0 hX hY hna hca hmb hcb hna' hca' hmb' hcb'
    go_enter Try.func5, Try.ntmps5
    go_wp2_with fail
    rw [← hW2]
    clear hW2
    refine (K1.out _ He0.out).mono ?_; rintro e w1 ⟨b1, q1, rfl, l1, m1, h1, x1⟩
    obtain ⟨c0, c1, c2, c3, c4, c5⟩ := HX.out _ x1
    have X1 := Lib.hid x1
    clear x1 K1 hbi
    go_upto_if 49 with fail
    obtain ⟨E, hEE⟩ : ∃ E, rdE f c n x m = E := ⟨_, rfl⟩
    obtain ⟨N, hNN⟩ : ∃ N, rdN f c n x m n = N := ⟨_, rfl⟩
    rw [hNN] at l1 h1
    rw [hEE, hNN]
    have HEE := Lib.hid hEE
    have HNN := Lib.hid hNN
    clear hEE hNN
    go_cut [] (fun wx => Ext W2 wx)
    case first =>
      by_cases hE0 : E = 0
      · subst hE0
        have hE := HEE.out
        have hz := rdE_zero hE
        obtain rfl : n = N := by rw [← HNN.out]; exact (rdN_ok hE).symm
        obtain ⟨z1, z2, z3, z4, z5, z6, z7, z8, z9⟩ := hz
        have hN2 : rdN f c n x (m : Int) ((m : Int)).toNat = m := by rw [rdN_ok hE]; simp
        have HE := Lib.hid (And.intro hE hN2)
        clear hE hN2
        go_wp2_with fail
        refine (K2.out _ _ _ h1 l1 m1).mono ?_; rintro e w2 ⟨b2, q2, rfl, l2, m2, h2, x2⟩
        rw [HE.out.1, HE.out.2]
        rw [HE.out.2] at h2
        have y2 := X1.out.trans x2
        have g2 := h1.ext x2
        clear c0 c1 c2 c3 c4 c5
        obtain ⟨c0, c1, c2, c3, c4, c5⟩ := HX.out _ y2
        clear x2 h1 K2
        go_wp2_with fail
        refine (words_eq b2 b m m q2 cb _ u _ h2 (HW.out _ (He0.out.trans y2)).2 (by have := HSm.out; omega) ⟨rfl, rd_wr l u f x m⟩).mono ?_; rintro e w3 ⟨rfl, x3⟩
        have y3 := y2.trans x3
        have g3 := g2.ext x3
        clear c0 c1 c2 c3 c4 c5 x3 g2 y2 h2
        obtain ⟨c0, c1, c2, c3, c4, c5⟩ := HX.out _ y3
        go_wp2_with fail
        have Y3 := Lib.hid y3
        have G3 := Lib.hid g3
        clear y3 g3
        go_loopw [9] (fun iv wr => ∃ q : Nat, q ≤ n ∧ iv = .int .i64 q ∧ Ext w3 wr) (fun iv _ => n - (intOf iv).toNat)
        case atStart => exact ⟨0, Nat.zero_le _, rfl, Ext.refl _⟩
        case round =>
          clear c0 c1 c2 c3 c4 c5
          obtain ⟨q, hq, rfl, xr⟩ := hrel
          obtain ⟨c0, c1, c2, c3, c4, c5⟩ := HX.out _ (Y3.out.trans xr)
          by_cases hlt : q < n
          · have hlt' : (q : Int) < n := by omega
            obtain ⟨p1, o1, rfl, hp1, hc1⟩ := (G3.out.ext xr).resolve_left (by omega)
            obtain ⟨p2, o2, rfl, hp2, hc2⟩ := (HW.out _ (He0.out.trans (Y3.out.trans xr))).1.resolve_left (by omega)
            have d1 := hc1 q hlt
            have d2 := hc2 q hlt
            clear hc1 hc2
            have C0 := Later.cell c0; have C2 := Later.cell c2; have C3 := Later.cell c3; have C4 := Later.cell c4; have D1 := Later.cell d1; have D2 := Later.cell d2
            obtain ⟨z, hz⟩ : ∃ z, f + (q : Int) = z := ⟨_, rfl⟩
            obtain ⟨t, ht⟩ : ∃ t, x + (m : Int) = t := ⟨_, rfl⟩
            have HZ := Lib.hid hz
            have HT := Lib.hid ht
            have wz : IntKind.i64.wrap (x + (m : Int)) = t := by rw [← ht]; exact IntWalk.i64_in _ (by omega)
            go_upto_region 12 with fail
            go_cut [115] from 79 to 115 (fun v wx => v = .bool false ∧ Ext wr wx)
            case first =>
              clear hz ht
              obtain ⟨Y, hY⟩ : ∃ Y, l q = Y := ⟨_, rfl⟩
              rw [hY] at D2
              have HYY := Lib.hid hY
              clear hY
              by_cases hd1 : z < x
              · have hw : wrF l u f x m q = Y := by rw [wr_out l u f x m q (.inl (by have := HZ.out; omega)), HYY.out]
                rw [hw] at D1
                have hd : decide (z < x) = true := decide_eq_true hd1
                clear hw hd1 d1 d2
                refine wp_region_later (by kernel_rfl) (by kernel_rfl) ?_
                repeat (go_big_quiet_step (fail))
                refine wpQuiet_nil ?_
                intro _ hw'
                obtain ⟨y, rfl⟩ := hw'
                have ey := y.ext
                generalize y.at = w9 at ey ⊢
                go_wp2_with fail
                go_meet
                exact ⟨rfl, ey⟩
              · have hd : decide (z < x) = false := decide_eq_false hd1
                by_cases hd2 : t ≤ z
                · have hw : wrF l u f x m q = Y := by rw [wr_out l u f x m q (.inr (by have := HZ.out; have := HT.out; omega)), HYY.out]
                  rw [hw] at D1
                  have hdd : decide (t ≤ z) = true := decide_eq_true hd2
                  clear hw hd1 hd2 d1 d2
                  refine wp_region_later (by kernel_rfl) (by kernel_rfl) ?_
                  repeat (go_big_quiet_step (fail))
                  refine wpQuiet_nil ?_
                  intro _ hw'
                  obtain ⟨y, rfl⟩ := hw'
                  have ey := y.ext
                  generalize y.at = w9 at ey ⊢
                  go_wp2_with fail
                  go_meet
                  exact ⟨rfl, ey⟩
                · have hdd : decide (t ≤ z) = false := decide_eq_false hd2
                  clear hd1 hd2 d1 d2
                  refine wp_region_later (by kernel_rfl) (by kernel_rfl) ?_
                  repeat (go_big_quiet_step (fail))
                  refine wpQuiet_nil ?_
                  intro _ hw'
                  obtain ⟨y, rfl⟩ := hw'
                  have ey := y.ext
                  generalize y.at = w9 at ey ⊢
                  go_wp2_with fail
                  go_meet
                  exact ⟨rfl, ey⟩
            case rest =>
              obtain ⟨rfl, xc⟩ := hcut
              have y5 := xr.trans xc
              clear C0 C2 C3 C4 D1 D2 wz hz ht c0 c1 c2 c3 c4 c5 d1 d2 xc xr
              go_wp2_with fail
              go_roundw
              case rel => exact ⟨q + 1, by omega, by go_num, y5⟩
              case measure => simp [intOf]; omega
          · obtain rfl : n = q := by omega
            go_wp2_with fail
            go_meet
            exact Y3.out.trans xr
      · have hz : (E == 0) = false := by simpa using hE0
        clear hE0
        go_wp2_with fail
        go_meet
        exact X1.out
    case rest =>
      clear c0 c1 c2 c3 c4 c5 HEE HNN h1 l1 m1 X1
      obtain ⟨d0, d1, d2, d3, d4, d5⟩ := HY.out _ hcut
      go_wp2_with fail
      refine (K3.out _ (He0.out.trans hcut)).mono ?_; rintro e w6 ⟨b6, q6, rfl, l6, m6, h6, x6⟩
      have y6 := hcut.trans x6
      clear d0 d1 d2 d3 d4 d5 hcut x6 K2
      obtain ⟨E', hEE⟩ : ∃ E, rdE f' c' n' x' m' = E := ⟨_, rfl⟩
      obtain ⟨N', hNN⟩ : ∃ N, rdN f' c' n' x' m' n' = N := ⟨_, rfl⟩
      rw [hNN] at l6 h6
      rw [hEE, hNN]
      by_cases hE0 : E' = 0
      · subst hE0
        have hz := rdE_zero hEE
        obtain rfl : n' = N' := by rw [← hNN]; exact (rdN_ok hEE).symm
        have hN2 : rdN f' c' n' x' (m' : Int) ((m' : Int)).toNat = m' := by rw [rdN_ok hEE]; simp
        have HE := Lib.hid (And.intro hEE (And.intro hN2 hNN))
        clear hEE hN2 hNN hz
        obtain ⟨d0, d1, d2, d3, d4, d5⟩ := HY.out _ y6
        go_wp2_with fail
        refine (K4.out _ _ _ h6 l6 m6).mono ?_; rintro e w7 ⟨b7, q7, rfl, l7, m7, h7, x7⟩
        rw [HE.out.2.1] at l7 h7
        rw [HE.out.1, HE.out.2.1]
        have y7 := y6.trans x7
        have g7 := h6.ext x7
        clear d0 d1 d2 d3 d4 d5 y6 h6 x7 K4
        obtain ⟨d0, d1, d2, d3, d4, d5⟩ := HY.out _ y7
        go_wp2_with fail
        refine (K5.out _ (He0.out.trans y7)).mono ?_; rintro e w8 ⟨b8, q8, rfl, l8, m8, h8, x8⟩
        rw [HE.out.2.1] at l8 h8
        rw [HE.out.1, HE.out.2.1]
        have y8 := y7.trans x8
        have g8 := g7.ext x8
        have h78 := h7.ext x8
        clear d0 d1 d2 d3 d4 d5 y7 g7 h7 x8 K5
        obtain ⟨d0, d1, d2, d3, d4, d5⟩ := HY.out _ y8
        go_wp2_with fail
        refine (K6.out _ _ _ _ _ g8 l6 m6 h8 l8 m8).mono ?_; rintro e w9 ⟨b9, q9, rfl, l9, m9, h9, x9⟩
        rw [HE.out.2.2] at l9 h9
        rw [HE.out.1, HE.out.2.2]
        have y9 := y8.trans x9
        have h79 := h78.ext x9
        clear d0 d1 d2 d3 d4 d5 y8 g8 h8 h78 x9 K6
        obtain ⟨d0, d1, d2, d3, d4, d5⟩ := HY.out _ y9
        go_wp2_with fail
        refine (same_eq b7 b' m' m' q7 cb' _ u' _ h79 (HW'.out _ (He0.out.trans y9)).2 (by have := HSm.out; omega) ⟨rfl, rd_wr l' u' f' x' m'⟩).mono ?_; rintro e w10 ⟨rfl, x10⟩
        have y10 := y9.trans x10
        have h910 := h9.ext x10
        clear d0 d1 d2 d3 d4 d5 y9 h79 h9 x10
        obtain ⟨d0, d1, d2, d3, d4, d5⟩ := HY.out _ y10
        go_wp2_with fail
        refine (same_eq b9 a' n' n' q9 ca' _ l' _ h910 (HW'.out _ (He0.out.trans y10)).1 (by have := HSm.out; omega) ⟨rfl, fun i _ => wr_back l' u' f' x' m' i⟩).mono ?_; rintro e w11 ⟨rfl, x11⟩
        have y11 := y10.trans x11
        clear d0 d1 d2 d3 d4 d5 y10 h910 x11
        go_wp2_with fail
        refine (HS.out _).mono ?_; rintro e w12 ⟨rfl, x12⟩
        go_wp2
        go_ret
        exact ⟨rfl, He0.out.trans (y11.trans x12)⟩
      · have hz : (E' == 0) = false := by simpa using hE0
        have hz2 : (E' != 0) = true := by simpa using hE0
        obtain rfl : N' = 0 := by rw [← hNN]; exact rdN_no hEE hE0
        clear hE0 hEE hNN h6 l6 m6
        go_wp2_with fail
        refine (HS.out _).mono ?_; rintro e w12 ⟨rfl, x12⟩
        go_wp2
        go_ret
        exact ⟨rfl, He0.out.trans (y6.trans x12)⟩
end Go.Proofs.Ytbabfhbkckokfaa
