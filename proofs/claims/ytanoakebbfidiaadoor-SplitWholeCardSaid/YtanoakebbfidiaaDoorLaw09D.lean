/-
  THE LAWS OF LAYER 9: SplitParts ('sure' as a premise).
-/
import Derived.Test.YtanoakebbfidiaaDoorLaw09B
import Derived.Test.YtanoakebbfidiaaDoorAppendL
namespace Go.Proofs.YtanoakebbfidiaaDoor
open Go.RowKit
set_option linter.unusedVariables false

/-- When the last one came; f, if there is none. -/
def lastT (f : Int) (L : List Byt) : Int := (L.getLast?.map (·.1)).getD f
theorem lastT_cons (f : Int) (b : Byt) (L : List Byt) : lastT f (b :: L) = lastT b.1 L := by
  unfold lastT
  cases L with
  | nil => rfl
  | cons x L => rw [List.getLast?_cons_cons]; cases h : (x :: L).getLast? with
    | none => simp at h
    | some y => rfl
theorem rising_append : ∀ {L M : List Byt} {f : Int}, risingI f L = true → risingI (lastT f L) M = true → risingI f (L ++ M) = true
  | [], M, f, _, h => h
  | b :: L, M, f, h, k => by
    obtain ⟨h1, h2, h3⟩ := rising_drop h
    rw [lastT_cons] at k
    show (decide (f ≤ b.1 ∧ b.1 ≤ 1099511627776) && risingI b.1 (L ++ M)) = true
    rw [decide_eq_true ⟨h1, h2⟩, rising_append h3 k]; rfl
theorem oneS_count (s : Seg) (b : Byt) : (oneS s b).count = s.count + 1 := rfl
theorem cutG_append (s l : Int) (b : Byt) (M : List Byt) : ∀ (L : List Byt) (f : Int) (g : Seg), 0 < g.count → l ≤ b.1 - lastT f L → cutG s l false f g (L ++ b :: M) = cutG s l false f g L ++ cutG s l false b.1 (oneS zeroS b) M
  | [], f, g, hg, h => by
    rw [List.nil_append, cutG_cut (by exact h), cutG_nil, if_pos hg]; rfl
  | x :: L, f, g, hg, h => by
    rw [lastT_cons] at h
    rw [List.cons_append]
    by_cases h1 : l ≤ x.1 - f
    · rw [cutG_cut h1, cutG_cut h1, cutG_append s l b M L _ _ (by rw [oneS_count]; decide) h]; rfl
    · by_cases h2 : s < x.1 - f
      · rw [cutG_gap h1 h2, cutG_gap h1 h2, cutG_append s l b M L _ _ (by rw [oneS_count]; show 0 < g.count + 1; omega) h]
      · rw [cutG_on h1 h2, cutG_on h1 h2, cutG_append s l b M L _ _ (by rw [oneS_count]; omega) h]
theorem cutG_zero {s l f : Int} {b : Byt} {M : List Byt} (h : l ≤ b.1 - f) : cutG s l true f zeroS (b :: M) = cutG s l false b.1 (oneS zeroS b) M := by
  rw [cutG_first, decide_eq_false (by omega)]; rfl
theorem right_rising {L : List Byt} {f : Int} : rightI L f = true ↔ (0 ≤ f ∧ f ≤ 1099511627776) ∧ risingI f L = true := by
  unfold rightI; simp only [Bool.and_eq_true, decide_eq_true_eq]
theorem allS_append {c s l u : Int} {L M : List Byt} {b : Byt} (hr : rightB c s l u = true) (hL : rightI L 0 = true) (hM : rightI (b :: M) (lastT 0 L) = true) (h : l ≤ b.1 - lastT 0 L) :
    allS c s l u 0 (L ++ b :: M) = allS c s l u 0 L ++ allS c s l u (lastT 0 L) (b :: M) := by
  have hA : rightI (L ++ b :: M) 0 = true := right_rising.2 ⟨by omega, rising_append (right_rising.1 hL).2 (right_rising.1 hM).2⟩
  unfold allS
  rw [if_pos ⟨hr, hA⟩, if_pos ⟨hr, hL⟩, if_pos ⟨hr, hM⟩, cutG_zero h]
  cases L with
  | nil =>
    rw [List.nil_append, cutG_nil]
    exact cutG_zero h
  | cons x L =>
    rw [List.cons_append, cutG_first, cutG_first]
    rw [lastT_cons] at h
    exact cutG_append s l b M L _ _ (by rw [oneS_count]; show (0 : Int) < 0 + 1; decide) h
theorem Tryd.infoByte : (Tryd.prog.info? 39).map (fun i => (i.zero, i.size, i.bytes)) = some (some (.agg #[.int .i64 0, .int .u8 0, .bool false]), 3, 16) := by kernel_rfl
theorem byt_one (x : Byt) : ∀ v ∈ byt x, v.oneCell' = true := by intro v hv; simp only [byt, List.mem_cons, List.not_mem_nil, or_false] at hv; rcases hv with rfl | rfl | rfl <;> rfl
theorem segL_one (x : SegP) : ∀ v ∈ segL x, v.oneCell' = true := by intro v hv; simp only [segL, List.mem_cons, List.not_mem_nil, or_false] at hv; rcases hv with rfl | rfl | rfl | rfl | rfl | rfl <;> rfl
theorem alikeB_app {L M : List SegP} (h : L.map Prod.snd = M.map Prod.snd) : alikeB L M = true := alikeB_of_map h
/-- Where nothing is asked: 'sure' alone. -/
theorem splitParts.out (a b : Option Addr) (n m cp cq : Nat) (L M : List Byt) (c s l u : Int) (w : World) (hr : Rd w) (ha : HoldsL 3 byt w a L) (hL : L.length = n) (hM : M.length = m) (h700 : n + m ≤ 700) (hw : WfB L)
    (hout : rightB c s l u = false ∨ rightI L 0 = false)
    (sure : ∀ w, Rd w → Calls Tryd.prog 8 #[] w fun e w' => e = .returned (.bool true) ∧ Ext w w') :
    Calls Tryd.prog 6 #[.slice a n cp, .slice b m cq, timesC c s l u] w fun e w' => e = .returned (.bool true) ∧ Ext w w' := by
  have hr0 := fun w => rright_any c s l u w
  have f1 := fun w' (x : Ext w w') => sright_any a n cp L 0 w' (ha.ext x) hL (by omega) hw rfl
  have f5 := fun w' (x : Ext w w') => sure w' (hr.ext x)
  have h7 : ¬ (700 : Int) < (n : Int) + (m : Int) := by omega
  have hw7 : IntKind.i64.wrap ((n : Int) + (m : Int)) = (n : Int) + (m : Int) := by rw [IntKind.wrap_i64]; omega
  have F1 := Lib.hid f1; have F5 := Lib.hid f5
  unfold timesC
  cases h1 : rightB c s l u
  · rw [h1] at hr0
    clear hr ha hL hM h700 hw hout sure f1 f5 h1 F1
    go_enter Tryd.func6, Tryd.ntmps6
    go_wp2_with fail
    refine (hr0 _).mono ?_; rintro e w1 ⟨rfl, x1⟩
    have x2 := (Ext.alloc _ _).trans x1
    clear hr0 x1
    go_wp2_with fail
    refine (F5.out _ x2).mono ?_; rintro e w3 ⟨rfl, x3⟩
    go_wp2
    go_ret
    exact ⟨rfl, x2.trans x3⟩
  · rw [h1] at hr0 hout
    have h2 : rightI L 0 = false := by simpa using hout
    rw [h2] at F1
    clear hr ha hL hM h700 hw hout sure f1 f5 h1 h2
    go_enter Tryd.func6, Tryd.ntmps6
    go_wp2_with fail
    refine (hr0 _).mono ?_; rintro e w1 ⟨rfl, x1⟩
    have x2 := (Ext.alloc _ _).trans x1
    clear hr0 x1
    go_wp2_with fail
    refine (F1.out _ x2).mono ?_; rintro e w2 ⟨rfl, x3⟩
    have x4 := x2.trans x3
    clear x2 x3
    go_wp2_with fail
    refine (F5.out _ x4).mono ?_; rintro e w3 ⟨rfl, x5⟩
    go_wp2
    go_ret
    exact ⟨rfl, x4.trans x5⟩
theorem lastT_get {L : List Byt} (h : 0 < L.length) (f : Int) : lastT f L = (L[L.length - 1]).1 := by
  unfold lastT
  rw [List.getLast?_eq_getElem?, List.getElem?_eq_getElem (by omega)]; rfl
set_option maxRecDepth 100000 in
set_option maxHeartbeats 8000000 in
theorem splitParts.most (a b : Option Addr) (n m cp cq : Nat) (L M : List Byt) (c s l u : Int) (w : World) (hr : Rd w) (ha : HoldsL 3 byt w a L) (hb : HoldsL 3 byt w b M) (hL : L.length = n) (hM : M.length = m) (hcp : n ≤ cp) (hcpm : cp ≤ maxLen) (hcq : m ≤ cq) (hcqm : cq ≤ maxLen) (h700 : n + m ≤ 700) (hw : WfB L) (hwM : WfB M)
    (hc : (Lit.int .i64 c).wf = true) (hs : (Lit.int .i64 s).wf = true) (hl : (Lit.int .i64 l).wf = true) (hu : (Lit.int .i64 u).wf = true)
    (h1 : rightB c s l u = true) (h2 : rightI L 0 = true)
    (sure : ∀ w, Rd w → Calls Tryd.prog 8 #[] w fun e w' => e = .returned (.bool true) ∧ Ext w w') :
    Calls Tryd.prog 6 #[.slice a n cp, .slice b m cq, timesC c s l u] w fun e w' => e = .returned (.bool true) ∧ Ext w w' := by
  obtain ⟨iB, hiB, hzB0, hzB1, hzB2⟩ := info_parts Tryd.infoByte
  obtain ⟨iS, hiS, hzS0, hzS1, hzS2⟩ := info_parts Tryd.infoSeg
  have hr0 := fun w => rright_any c s l u w
  rw [h1] at hr0
  have f1 := fun w' (x : Ext w w') => sright_any a n cp L 0 w' (ha.ext x) hL (by omega) hw rfl
  rw [h2] at f1
  have hcl := (rightB_iff c s l u).1 h1
  have h0 := right_rising.1 h2
  have hlast : 0 ≤ lastT 0 L ∧ lastT 0 L ≤ 1099511627776 := by
    have : ∀ (L : List Byt) (f : Int), 0 ≤ f → f ≤ 1099511627776 → risingI f L = true → 0 ≤ lastT f L ∧ lastT f L ≤ 1099511627776 := by
      intro L
      induction L with
      | nil => intro f h k _; exact ⟨h, k⟩
      | cons x L ih =>
        intro f h k hr
        obtain ⟨k1, k2, k3⟩ := rising_drop hr
        rw [lastT_cons]; exact ih x.1 (by omega) k2 k3
    exact this L 0 (by omega) (by omega) h0.2
  obtain ⟨T, hT⟩ : ∃ T, T = lastT 0 L := ⟨_, rfl⟩
  have hTwf : (Lit.int .i64 T).wf = true := by rw [hT]; simp [Lit.wf, IntKind.min, IntKind.max, IntKind.signed, IntKind.bits]; omega
  have g1 := fun w' (x : Ext w w') => sright_any b m cq M T w' (hb.ext x) hM (by omega) hwM hTwf
  have f5 := fun w' (x : Ext w w') => sure w' (hr.ext x)
  have A1 := fun w' (x : Ext w w') => sall_any a n cp L c s l u 0 w' (hr.ext x) (ha.ext x) hL hcp hcpm (by omega) hw hc hs hl hu rfl
  have A2 := fun w' (x : Ext w w') => sall_any b m cq M c s l u T w' (hr.ext x) (hb.ext x) hM hcq hcqm (by omega) hwM hc hs hl hu hTwf
  have A3 := fun (z : Option Addr) (x : Nat) w' (e : Ext w w') (hh : HoldsL 3 byt w' z (L ++ M)) (hx : n + m ≤ x) (hxm : x ≤ maxLen) => sall_any z (n + m) x (L ++ M) c s l u 0 w' (hr.ext e) hh (by rw [List.length_append, hL, hM]) hx hxm (by omega) (fun y hy => (List.mem_append.1 hy).elim (hw y) (hwM y)) hc hs hl hu rfl
  have h7 : ¬ (700 : Int) < (n : Int) + (m : Int) := by omega
  have hw7 : IntKind.i64.wrap ((n : Int) + (m : Int)) = (n : Int) + (m : Int) := by rw [IntKind.wrap_i64]; omega
  have HA := Lib.hid ha; have HB := Lib.hid hb; have HL := Lib.hid hL; have HM := Lib.hid hM; have HN := Lib.hid h700
  have F1 := Lib.hid f1; have G1 := Lib.hid g1; have F5 := Lib.hid f5; have HA1 := Lib.hid A1; have HA2 := Lib.hid A2; have HA3 := Lib.hid A3
  have HT := Lib.hid hT; have HLast := Lib.hid hlast; have HCl := Lib.hid hcl; have H0 := Lib.hid h2; have H1 := Lib.hid h1
  have HWM := Lib.hid hwM
  unfold timesC at HA1 HA2 HA3 ⊢
  clear hr ha hb hL hM hcp hcpm hcq hcqm h700 hw hwM hc hs hl hu h1 h2 sure f1 g1 f5 A1 A2 A3 hcl h0 hlast hT hTwf
  go_enter Tryd.func6, Tryd.ntmps6
  go_wp2_with fail
  refine (hr0 _).mono ?_; rintro e w1 ⟨rfl, x1⟩
  have x2 := (Ext.alloc _ _).trans x1
  have t0 := x1.made 0 _ rfl
  have t1 := x1.made 1 _ rfl
  have t2 := x1.made 2 _ rfl
  have t3 := x1.made 3 _ rfl
  clear hr0 x1
  go_wp2_with fail
  refine (F1.out _ x2).mono ?_; rintro e w2 ⟨rfl, x3⟩
  have y2 := x2.trans x3
  have p0 := x3.cell (World.block_lt_of_cell? _ _ t0) t0
  have p1 := x3.cell (World.block_lt_of_cell? _ _ t1) t1
  have p2 := x3.cell (World.block_lt_of_cell? _ _ t2) t2
  have p3 := x3.cell (World.block_lt_of_cell? _ _ t3) t3
  clear x2 x3 t0 t1 t2 t3 F1 h7 hw7
  go_upto_if 30 with fail
  go_cut [7] (fun v wx => v = .int .i64 T ∧ wx = w2)
  case first =>
    by_cases hn : 0 < n
    · have hn' : (0 : Int) < n := by omega
      have hL0 : 0 < L.length := by rw [HL.out]; exact hn
      obtain ⟨p, o, rfl, hp, -⟩ := HA.out.resolve_left (by intro e; rw [e] at hL0; simp at hL0)
      obtain ⟨c0, -, -⟩ := HA.out.byt_at (n - 1) (by rw [HL.out]; omega)
      have hT := HT.out
      rw [lastT_get hL0] at hT
      have e : (L[n - 1]'(by rw [HL.out]; omega)).1 = T := by rw [hT]; congr 2; rw [HL.out]
      rw [e] at c0
      have c1 := y2.cell hp c0
      have w0 : IntKind.i64.wrap ((n : Int) - 1) = ((n - 1 : Nat) : Int) := by rw [IntWalk.i64_in _ (by have := HN.out; omega)]; omega
      have hlt : ((n - 1 : Nat) : Int) < n := by omega
      obtain ⟨k, hk⟩ : ∃ k, k = n - 1 := ⟨_, rfl⟩
      rw [← hk] at w0 c1 hlt
      clear hk e hT c0 hL0 hn
      go_wp2_with fail
      go_meet
      exact ⟨rfl, rfl⟩
    · have hn' : ¬ (0 : Int) < n := by omega
      have hT : T = 0 := by
        rw [HT.out, List.eq_nil_of_length_eq_zero (l := L) (by rw [HL.out]; omega)]; rfl
      have HT0 := Lib.hid hT
      clear hT hn
      go_wp2_with fail
      go_meet
      exact ⟨by rw [HT0.out], rfl⟩
  case rest =>
    obtain ⟨rfl, e⟩ := hcut
    subst e
    have hlt : w.heap.size < wc.heap.size := World.block_lt_of_cell? _ _ p0
    have HS := Lib.hid (fun w' (x : Ext wc w') => And.intro (x.cell hlt p0) (And.intro (x.cell hlt p1) (And.intro (x.cell hlt p2) (And.intro (x.cell hlt p3) x))))
    have P2 := Later.cell p2
    have HMr : Hid (rightI M T = rightI M T) := Lib.hid rfl
    have G1' := Lib.hid (fun w' (x : Ext wc w') => G1.out w' (y2.trans x))
    have F5' := Lib.hid (fun w' (x : Ext wc w') => F5.out w' (y2.trans x))
    have Y2 := Lib.hid y2
    clear G1 F5 y2 p0 p1 p2 p3
    by_cases hout : rightI M T = false ∨ m = 0
    · have hfin : ∀ R, rightI M T = R → (R = false ∨ m = 0) → True := fun _ _ _ => trivial
      generalize rightI M T = R at G1' hout
      clear HA1 HA2 HA3 HMr hfin
      cases R
      · clear hout
        go_wp2_with fail
        refine wp_region_later (by kernel_rfl) (by kernel_rfl) ?_
        repeat (go_big_quiet_step ((go_at_call 9; exact later_of (G1'.out _ (Later.ext _)))))
        refine wpQuiet_nil ?_
        intro _ hw'
        obtain ⟨x, rfl⟩ := hw'
        have x9 := x.ext
        generalize x.at = w9 at x9 ⊢
        clear P2 G1'
        go_wp2_with fail
        refine (F5'.out _ x9).mono ?_; rintro e w6 ⟨rfl, x6⟩
        go_wp2
        go_ret
        exact ⟨rfl, Y2.out.trans (x9.trans x6)⟩
      · have hm0 : m = 0 := by simpa using hout
        subst hm0
        clear hout
        go_wp2_with fail
        refine wp_region_later (by kernel_rfl) (by kernel_rfl) ?_
        repeat (go_big_quiet_step ((go_at_call 9; exact later_of (G1'.out _ (Later.ext _)))))
        refine wpQuiet_nil ?_
        intro _ hw'
        obtain ⟨x, rfl⟩ := hw'
        have x9 := x.ext
        generalize x.at = w9 at x9 ⊢
        clear P2 G1'
        go_wp2_with fail
        refine (F5'.out _ x9).mono ?_; rintro e w6 ⟨rfl, x6⟩
        go_wp2
        go_ret
        exact ⟨rfl, Y2.out.trans (x9.trans x6)⟩
    · have hR : rightI M T = true := by
        cases h : rightI M T
        · exact absurd (.inl h) hout
        · rfl
      have hm0 : 0 < m := by
        rcases Nat.eq_zero_or_pos m with h | h
        · exact absurd (.inr h) hout
        · exact h
      have hM0 : 0 < M.length := by rw [HM.out]; exact hm0
      obtain ⟨p, o, rfl, hp, -⟩ := HB.out.resolve_left (by intro e; rw [e] at hM0; simp at hM0)
      obtain ⟨c0, -, -⟩ := HB.out.byt_at 0 hM0
      obtain ⟨⟨X, Y, Z⟩, M', hMM⟩ : ∃ y M', M = y :: M' := by
        cases hM : M with
        | nil => rw [hM] at hM0; simp at hM0
        | cons y M' => exact ⟨y, M', rfl⟩
      have e0 : (M[0]).1 = X := by subst hMM; rfl
      rw [e0] at c0
      have PX := Later.cell (Y2.out.cell hp (by simpa using c0))
      have hri := right_rising.1 hR
      rw [hMM] at hri
      obtain ⟨k1, k2, k3⟩ := rising_drop hri.2
      have hX : T ≤ X ∧ X ≤ 1099511627776 ∧ 0 ≤ T := ⟨k1, k2, hri.1.1⟩
      have w0 : IntKind.i64.wrap (X - T) = X - T := IntWalk.i64_in _ (by omega)
      have hmz : ((m : Int) == 0) = false := by simp; omega
      have hm1 : (0 : Int) < m := by omega
      have HMM := Lib.hid hMM
      have HR := Lib.hid hR
      rw [hR] at G1'
      clear hout hR hM0 c0 hMM e0 hri k1 k2 k3 HMr hm0 hX
      by_cases hcut : X - T < l
      · clear HA1 HA2 HA3
        go_wp2_with fail
        refine wp_region_later (by kernel_rfl) (by kernel_rfl) ?_
        repeat (go_big_quiet_step ((go_at_call 9; exact later_of (G1'.out _ (Later.ext _)))))
        refine wpQuiet_nil ?_
        intro _ hw'
        obtain ⟨x, rfl⟩ := hw'
        have x9 := x.ext
        generalize x.at = w9 at x9 ⊢
        clear P2 G1' PX
        go_wp2_with fail
        refine (F5'.out _ x9).mono ?_; rintro e w6 ⟨rfl, x6⟩
        go_wp2
        go_ret
        exact ⟨rfl, Y2.out.trans (x9.trans x6)⟩
      · go_wp2_with fail
        refine wp_region_later (by kernel_rfl) (by kernel_rfl) ?_
        repeat (go_big_quiet_step ((go_at_call 9; exact later_of (G1'.out _ (Later.ext _)))))
        refine wpQuiet_nil ?_
        intro _ hw'
        obtain ⟨x, rfl⟩ := hw'
        have x9 := x.ext
        generalize x.at = w9 at x9 ⊢
        clear P2 G1' PX
        obtain ⟨r0, r1, r2, r3, -⟩ := HS.out w9.drew (ext_drew x9)
        have z9 : Ext wc w9.drew := ext_drew x9
        have B1 := Lib.hid (fun w' (x : Ext wc w') => HA1.out w' (Y2.out.trans x))
        have B2 := Lib.hid (fun w' (x : Ext wc w') => HA2.out w' (Y2.out.trans x))
        have B3 := Lib.hid (fun z x w' (e : Ext wc w') => HA3.out z x w' (Y2.out.trans e))
        clear HA1 HA2 HA3 w0 hmz hm1
        go_wp2_with fail
        go_region_held3 (fun w' => w'.cell? ⟨w.heap.size, 0, none⟩ = some (.int .i64 c) ∧ w'.cell? ⟨w.heap.size, 1, none⟩ = some (.int .i64 s) ∧ w'.cell? ⟨w.heap.size, 2, none⟩ = some (.int .i64 l) ∧ w'.cell? ⟨w.heap.size, 3, none⟩ = some (.int .i64 u) ∧ Ext wc w')
          ((exact HS.out _ (by assumption)))
          (first
            | (go_at_call_of 12 cp; refine (B1.out _ (by assumption)).mono ?_; rintro e wa ⟨za, ua, La, rfl, xa, sa, ra⟩; have ya := Ext.trans z9 xa)
            | (go_at_call_of 12 cq; refine (B2.out _ (by assumption)).mono ?_; rintro e wb ⟨zb, ub, Lb, rfl, xb, sb, rb⟩; have yb := Ext.trans ya xb))
        clear r0 r1 r2 r3
        obtain ⟨r0, r1, r2, r3, -⟩ := HS.out wb.drew (ext_drew yb)
        have zb9 : Ext wc wb.drew := ext_drew yb
        go_wp2_with fail
        have hlen : L.length + M.length ≤ 700 := by rw [HL.out, HM.out]; exact HN.out
        have HLen := Lib.hid hlen
        clear hlen
        go_region_held3 (fun w' => w'.cell? ⟨w.heap.size, 0, none⟩ = some (.int .i64 c) ∧ w'.cell? ⟨w.heap.size, 1, none⟩ = some (.int .i64 s) ∧ w'.cell? ⟨w.heap.size, 2, none⟩ = some (.int .i64 l) ∧ w'.cell? ⟨w.heap.size, 3, none⟩ = some (.int .i64 u) ∧ Ext wc w')
          ((first | exact HS.out _ (by assumption) | exact HS.out _ (ext_drew (yb.trans (Ext.alloc _ _))) | exact HS.out _ ((ext_drew yb).trans (Ext.alloc _ _))))
          (first
            | (refine step_append_list rfl (.tmp 66) (.tmp 67) 22 rfl wb.heap.size 39 iB _ 16 Tryd.underlying22 hiB hzB0 hzB1 hzB2 rfl (by decide) byt_length byt_one _ 0 [] (by rfl)
                (own_empty_sz (heap_alloc_new wb _) (Nat.le_refl _)) a cp L n HL.out (by rfl) (HA.out.ext (((Y2.out.trans yb).trans (ext_drew (Ext.alloc _ _))))) (by unfold maxLen; have := HN.out; omega) (by have := HN.out; omega) (by simp) ?_
               intro v68 w68 hown68 hb68
               have x68 : Ext wb w68 := Below.trans (ext_drew (Ext.alloc _ _)) hb68
               have y68 : Ext wc w68 := yb.trans x68
               clear hb68)
            | (refine step_append_list rfl (.tmp 68) (.tmp 69) 22 rfl wb.heap.size 39 iB _ 16 Tryd.underlying22 hiB hzB0 hzB1 hzB2 rfl (by decide) byt_length byt_one _ (0 + n) ([] ++ L) (by rfl)
                hown68 (some ⟨p, o, none⟩) cq M m HM.out (by rfl) (HB.out.ext (Y2.out.trans y68)) (by unfold maxLen; have := HN.out; omega) (by have := HN.out; omega) x68.size ?_
               intro v70 w70 hown70 hb70
               have x70 : Ext wb w70 := Below.trans x68 hb70
               have y70 : Ext wc w70 := yb.trans x70
               rw [show 0 + n + m = n + m by omega] at hown70
               obtain ⟨z70, c70, hv70, l70, m70, h70, -⟩ := HoldsL.of_own byt_length hown70 (by rw [List.nil_append, List.length_append, HL.out, HM.out])
               rw [List.nil_append] at h70
               clear hown70 hown68 hb70
               subst hv70)
            | (go_at_call 12; refine (B3.out z70 c70 _ (by assumption) h70 l70 m70).mono ?_; rintro e wd ⟨zd, ud, Ld, rfl, xd, sd, rd⟩; have yd := Ext.trans y70 xd))
        have xbd := x70.trans xd
        have hla : La.length ≤ 701 := by
          have := allS_len c s l u 0 L
          rw [← ra, List.length_map, HL.out] at this; have := HN.out; omega
        have hlb : Lb.length ≤ 701 := by
          have := allS_len c s l u T M
          rw [← rb, List.length_map, HM.out] at this; have := HN.out; omega
        have hld : Ld.length ≤ 1401 := by
          have := allS_len c s l u 0 (L ++ M)
          rw [← rd, List.length_map, List.length_append, HL.out, HM.out] at this; have := HN.out; omega
        have hall : alikeB (La ++ Lb) Ld = true := by
          refine alikeB_of_map ?_
          rw [List.map_append, ra, rb, rd]
          have hM := HMM.out
          rw [hM, HT.out]
          refine (allS_append H1.out H0.out ?_ ?_).symm
          · rw [← hM, ← HT.out]; exact HR.out
          · rw [← HT.out]; show l ≤ X - T; omega
        have hsa := sa.segs.ext (xb.trans xbd)
        have hsb := sb.segs.ext xbd
        have hea : ∀ y ∈ La ++ Lb, y.2.n ≤ 1000000 := fun y hy => (List.mem_append.1 hy).elim (fun h => by have := (sa.each y h).2.2.2.2; omega) (fun h => by have := (sb.each y h).2.2.2.2; omega)
        have hed : ∀ y ∈ Ld, y.2.n ≤ 1000000 := fun y h => by have := (sd.each y h).2.2.2.2; omega
        have hsd := sd.segs
        have F5d := Lib.hid (fun w' (x : Ext wd w') => F5'.out w' (yd.trans x))
        have Yd := Lib.hid (Y2.out.trans yd)
        have HAll := Lib.hid hall; have HSa := Lib.hid hsa; have HSb := Lib.hid hsb; have HSd := Lib.hid hsd; have HEa := Lib.hid hea; have HEd := Lib.hid hed
        have HNa := Lib.hid hla; have HNb := Lib.hid hlb; have HNd := Lib.hid hld
        clear r0 r1 r2 r3 sa sb sd ra rb rd xa xb xd ya yb yd zb9 z9 x9 x68 y68 x70 y70 xbd hla hlb hld hall hsa hsb hea hed hsd l70 m70 h70 B1 B2 B3 F5' HA HB
        go_wp2_with (first
          | (at_builtin; refine wpList_append_list rfl (.tmp 73) (.tmp 74) 28 rfl wd.heap.size 33 iS _ 56 Tryd.underlying28 hiS hzS0 hzS1 hzS2 rfl (by decide) segL_length segL_one _ 0 [] rfl (own_empty_sz (heap_alloc_new wd _) (Nat.le_refl _)) za ua La La.length rfl rfl (HSa.out.holds.ext (Ext.alloc _ _)) (by unfold maxLen; have := HNa.out; omega) (by have := HNa.out; omega) (by simp) ?_
             intro v75 w75 hown75 hb75
             have x75 : Ext wd w75 := Below.trans (Ext.alloc _ _) hb75
             clear hb75)
          | (at_builtin; refine wpList_append_list rfl (.tmp 75) (.tmp 76) 28 rfl wd.heap.size 33 iS _ 56 Tryd.underlying28 hiS hzS0 hzS1 hzS2 rfl (by decide) segL_length segL_one v75 (0 + La.length) ([] ++ La) rfl hown75 zb ub Lb Lb.length rfl rfl (HSb.out.holds.ext x75) (by unfold maxLen; have := HNa.out; have := HNb.out; omega) (by have := HNa.out; have := HNb.out; omega) x75.size ?_
             intro v77 w77 hown77 hb77
             have x77 : Ext wd w77 := Below.trans x75 hb77
             rw [show 0 + La.length + Lb.length = (La ++ Lb).length by rw [List.length_append]; omega, List.nil_append] at hown77
             obtain ⟨z77, c77, hv77, l77, m77, h77, -⟩ := HoldsL.of_own segL_length hown77 rfl
             clear hown77 hown75 hb77 x75
             subst hv77))
        refine (ralike_any z77 zd (La.length + Lb.length) Ld.length c77 ud (La ++ Lb) Ld _ ⟨h77, fun y hy => (List.mem_append.1 hy).elim ((HSa.out.ext x77).each y) ((HSb.out.ext x77).each y)⟩ (HSd.out.ext x77) (by rw [List.length_append]) rfl (by have := HNa.out; have := HNb.out; omega) (by have := HNd.out; omega) HEa.out HEd.out).mono ?_; rintro e we ⟨rfl, xe⟩
        rw [HAll.out]
        go_wp2_with fail
        refine (F5d.out _ (x77.trans xe)).mono ?_; rintro e wf ⟨rfl, xf⟩
        go_wp2
        go_ret
        exact ⟨rfl, Yd.out.trans ((x77.trans xe).trans xf)⟩
end Go.Proofs.YtanoakebbfidiaaDoor
