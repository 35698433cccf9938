/-
  THE LAWS OF LAYER 18: the walk of DiagEchoes (package diag's contracts as premises).
-/
import Derived.Test.YtchdgodmncckcaaLaw18B
namespace Go.Proofs.Ytchdgodmncckcaa
open Go.RowKit
set_option linter.unusedVariables false
set_option maxRecDepth 100000
variable {DS : World → Nat → (Nat → Prop) → Dia → Prop}

/-- A question that may be asked: its number is its second byte. -/
theorem dg_good {n : Nat} {f : Nat → Int} (hf : ∀ i, i < n → 0 ≤ f i ∧ f i < 256) (h : dgE n f = 0) : 4 ≤ n ∧ f 0 = 0 ∧ dgN f = f 1 ∧ (f 1 = 0 ∨ f 1 = 1 ∨ f 1 = 2 ∨ f 1 = 3 ∨ f 1 = 4 ∨ f 1 = 10 ∨ f 1 = 20 ∨ (11 ≤ f 1 ∧ f 1 ≤ 18)) := by
  rcases dg_ways n f with e | e | e | e
  · rw [e.1] at h; cases h
  · rw [e.1] at h; cases h
  · rw [e.1] at h; cases h
  · obtain ⟨-, h2, hk, hr⟩ := e
    have g0 := hf 0 (by omega)
    have g1 := hf 1 (by omega)
    have hz : dgN f = f 0 * 256 + f 1 := rfl
    have hw := known_ways (by omega) hk
    refine ⟨?_, by omega, by omega, by omega⟩
    unfold dgR at hr
    split at hr
    · exact (of_decide_eq_true hr).1
    · have := (of_decide_eq_true hr).1; omega
/-- What is told, and what it comes to, by the number. -/
theorem dg_tells {D : Dia} {n : Nat} {f : Nat → Int} (hf : ∀ i, i < n → 0 ≤ f i ∧ f i < 256) (h : dgE n f = 0) (h4 : f 1 ≠ 4) : dgM n f = n ∧ dgB D f 0 = f 0 ∧ dgB D f 1 = f 1 := by
  obtain ⟨-, -, hz, -⟩ := dg_good hf h
  refine ⟨?_, ?_, ?_⟩
  · unfold dgM; rw [if_neg (by rw [h, hz]; omega)]
  · unfold dgB; rw [if_neg (by omega)]
  · unfold dgB; rw [if_neg (by omega)]
theorem dg_still {D : Dia} {n : Nat} {f : Nat → Int} (hf : ∀ i, i < n → 0 ≤ f i ∧ f i < 256) (h : dgE n f = 0) (hk : f 1 = 0 ∨ f 1 = 2 ∨ (11 ≤ f 1 ∧ f 1 ≤ 18)) : dgD D n f = D ∧ dgW n f = 0 := by
  obtain ⟨-, -, hz, -⟩ := dg_good hf h
  have hne : ¬ dgE n f ≠ 0 := fun e => e h
  constructor
  · unfold dgD; rw [if_neg hne, if_neg (by omega), if_neg (by omega), if_neg (by omega), if_neg (by omega), if_neg (by omega)]
  · unfold dgW; rw [if_neg hne, if_neg (by omega), if_neg (by omega)]
theorem dg_turns {D : Dia} {n : Nat} {f : Nat → Int} (hf : ∀ i, i < n → 0 ≤ f i ∧ f i < 256) (h : dgE n f = 0) (hk : f 1 = 1 ∨ f 1 = 3 ∨ f 1 = 10 ∨ f 1 = 20) : (∀ i, dgB D f i = f i) ∧ (f 1 = 1 → (dgW n f = 1 ∨ dgW n f = 2) ∧ (dgD D n f).li = false) ∧ (f 1 ≠ 1 → dgW n f = 0) := by
  obtain ⟨-, -, hz, -⟩ := dg_good hf h
  have hne : ¬ dgE n f ≠ 0 := fun e => e h
  refine ⟨fun i => ?_, fun h1 => ⟨?_, ?_⟩, fun h1 => ?_⟩
  · unfold dgB; rw [if_neg (by omega)]
  · unfold dgW; rw [if_neg hne, if_pos (by omega)]; split; exact .inl rfl; exact .inr rfl
  · unfold dgD; rw [if_neg hne, if_pos (by omega)]
  · unfold dgW; rw [if_neg hne, if_neg (by omega), if_neg (by omega)]
theorem dg_listens {D : Dia} {n : Nat} {f : Nat → Int} (hf : ∀ i, i < n → 0 ≤ f i ∧ f i < 256) (h : dgE n f = 0) (hk : f 1 = 4) : dgM n f = 0 ∧ dgW n f = 3 ∧ (dgD D n f).li = true := by
  obtain ⟨-, -, hz, -⟩ := dg_good hf h
  have hne : ¬ dgE n f ≠ 0 := fun e => e h
  refine ⟨?_, ?_, ?_⟩
  · unfold dgM; rw [if_pos (.inr (by omega))]
  · unfold dgW; rw [if_neg hne, if_neg (by omega), if_pos (by omega)]
  · unfold dgD; rw [if_neg hne, if_neg (by omega), if_neg (by omega), if_pos (by omega)]
set_option maxHeartbeats 16000000 in
theorem diagEchoes.small (K : DiagC DS) (a : Option Addr) (n c : Nat) (L : List Dop) (da : Option Addr) (dn dc : Nat) (f : Nat → Int) (w : World) (ha : HoldsL 3 dopL w a L) (hL : L.length = n) (hn : n ≤ 120) (hz : ∀ z ∈ L, DopAt w z) (hd : Holds .u8 w da dn f) (hdn : dn ≤ 600) (hdc : dn ≤ dc) (hdm : dc ≤ maxLen) (hf : ∀ i, i < dn → 0 ≤ f i ∧ f i < 256) :
    Calls Try.prog 4 #[.slice a n c, .slice da dn dc] w fun e w' => e = .returned (.bool true) ∧ Ext w w' := by
  have HK := Lib.hid K
  have HL := Lib.hid hL
  have HZ := Lib.hid hz
  have HA := Lib.hid ha
  have HN := Lib.hid hn
  have HD := Lib.hid hd
  have HDN := Lib.hid (And.intro hdn (And.intro hdc (And.intro hdm hf)))
  have hnI : ¬ (120 : Int) < n := by omega
  have hdI : ¬ (600 : Int) < dn := by omega
  clear K hL hz ha hn hd hdn hdc hdm hf
  go_enter Try.func4, Try.ntmps4
  go_wp2_with fail
  refine (HK.out.new _).mono ?_; rintro e w1 ⟨p, F, rfl, x1, T1, n1⟩
  go_wp2_with fail
  clear hnI hdI
  go_loopg [6] n (fun h iv wr => ∃ (i : Nat) (F : Nat → Prop) (D : Dia), i + h = n ∧ iv = .int .i64 i ∧ DS wr p F D ∧ Above w F ∧ Ext w wr)
  case atStart => exact ⟨0, F, newD, by omega, rfl, T1, n1, x1⟩
  case round =>
    clear T1 n1 x1
    obtain ⟨i, F, D, hi, rfl, hS, hF, hx⟩ := hrel
    cases gk with
    | zero =>
      have hi1 : ¬ ((i : Int) < n) := by omega
      go_upto_region 15 with (first
        | (go_at_call 13; refine (HK.out.clone p F D _ hS).mono ?_; rintro e w3 ⟨p', F', rfl, x3, T3, n3⟩))
      have hoff : OffN F' da dn := by
        rcases HD.out with e | ⟨b', o', e, hlt, -⟩
        · exact .inl e
        · exact .inr fun q hq hF' => by rw [e] at hq; cases hq; have h1 : wr.heap.size ≤ b' := n3 _ hF'; have h2 := hx.size; have hlt : b' < w.heap.size := hlt; omega
      have S3 := HK.out.ext hS x3
      have apart : ∀ q, F q → ¬ F' q := fun q hq hF' => by have := n3 _ hF'; have := HK.out.lt hS _ hq; omega
      have n3w : Above w F' := n3.of hx
      have x3w := hx.trans x3
      have KD := Lib.hid (HK.out.does p' F' D da dn dc f w3 T3 (HD.out.ext x3w) hoff HDN.out.1 HDN.out.2.1 HDN.out.2.2.1 HDN.out.2.2.2)
      have hFE : dgE dn f ≠ 0 → dgD D dn f = D ∧ dgW dn f = 0 ∧ dgM dn f = 0 ∧ (dgE dn f = 1 ∨ dgE dn f = 3) := fun h => ⟨(dg_err h).1, (dg_err (D := D) h).2.1, (dg_err (D := D) h).2.2, by
        rcases dg_ways dn f with e | e | e | e
        · exact .inr e.1
        · exact .inl e.1
        · exact .inr e.1
        · exact absurd e.1 h⟩
      have hFG : dgE dn f = 0 → (4 ≤ dn ∧ (f 1 = 0 ∨ f 1 = 1 ∨ f 1 = 2 ∨ f 1 = 3 ∨ f 1 = 4 ∨ f 1 = 10 ∨ f 1 = 20 ∨ (11 ≤ f 1 ∧ f 1 ≤ 18))) ∧ (f 1 ≠ 4 → dgM dn f = dn ∧ dgB D f 0 = f 0 ∧ dgB D f 1 = f 1) ∧ (f 1 = 4 → dgM dn f = 0 ∧ dgW dn f = 3 ∧ (dgD D dn f).li = true) ∧ (f 1 = 0 ∨ f 1 = 2 ∨ (11 ≤ f 1 ∧ f 1 ≤ 18) → dgD D dn f = D ∧ dgW dn f = 0) ∧ (f 1 = 1 ∨ f 1 = 3 ∨ f 1 = 10 ∨ f 1 = 20 → (∀ i, dgB D f i = f i) ∧ (f 1 = 1 → (dgW dn f = 1 ∨ dgW dn f = 2) ∧ (dgD D dn f).li = false) ∧ (f 1 ≠ 1 → dgW dn f = 0)) := fun h =>
        ⟨⟨(dg_good HDN.out.2.2.2 h).1, (dg_good HDN.out.2.2.2 h).2.2.2⟩, dg_tells HDN.out.2.2.2 h, dg_listens HDN.out.2.2.2 h, dg_still HDN.out.2.2.2 h, dg_turns HDN.out.2.2.2 h⟩
      have HFE := Lib.hid hFE
      have HFG := Lib.hid hFG
      clear hFE hFG hoff hS hF hx hi1
      generalize dgM dn f = M at *
      generalize dgW dn f = Wh at *
      generalize dgE dn f = Er at *
      generalize dgD D dn f = D' at *
      go_upto_region 16 with (first
        | (go_at_call 8; refine (KD.out).mono ?_; rintro e w4 ⟨b, q, G, rfl, hb, ob, k4, T4, g4⟩))
      have S4 := HK.out.keep S3 k4 apart
      have x4 := x3w.keep k4 n3w
      have KA' := Lib.hid (fun W (x : Ext w4 W) => HK.out.all p' G D' W (HK.out.ext T4 x))
      have KA := Lib.hid (fun W (x : Ext w4 W) => HK.out.all p F D W (HK.out.ext S4 x))
      have KL' := Lib.hid (fun W (x : Ext w4 W) => HK.out.listening p' G D' W (HK.out.ext T4 x))
      have KL := Lib.hid (fun W (x : Ext w4 W) => HK.out.listening p F D W (HK.out.ext S4 x))
      have KG' := Lib.hid (fun W (x : Ext w4 W) => HK.out.register p' G D' W (HK.out.ext T4 x))
      have KG := Lib.hid (fun W (x : Ext w4 W) => HK.out.register p F D W (HK.out.ext S4 x))
      have KE' := Lib.hid (fun W (x : Ext w4 W) => HK.out.delim p' G D' W (HK.out.ext T4 x))
      have KE := Lib.hid (fun W (x : Ext w4 W) => HK.out.delim p F D W (HK.out.ext S4 x))
      have HB := Lib.hid hb
      have X4 := Lib.hid x4
      clear S3 apart n3w x3w KD k4 T4 g4 S4 x4 hb ob T3 n3 x3
      go_cut [11] (fun v wx => ∃ SB : Bool, v = .bool SB ∧ (D' = D → SB = true) ∧ Ext w4 wx)
      case first => as_aux_lemma =>
        go_wp2_with fail
        refine (KA'.out _ (Ext.refl _)).mono ?_; rintro e w5 ⟨a5, q5, rfl, h5, x5⟩
        go_wp2_with fail
        refine (KA.out _ x5).mono ?_; rintro e w6 ⟨a6, q6, rfl, h6, x6⟩
        have y6 := x5.trans x6
        go_wp2_with fail
        refine (words_any a5 a6 8 8 q5 q6 D'.C D.C w6 (HoldsG.ext h5 x6) h6 (by decide) (by decide)).mono ?_; rintro e w7 ⟨rfl, r7⟩
        have y7 := y6.trans (Ext.of_drewN r7)
        obtain ⟨B1, hB1⟩ : ∃ B1, eqB 8 8 D'.C D.C = B1 := ⟨_, rfl⟩
        rw [hB1]
        have HB1 := Lib.hid hB1
        clear hB1 h5 h6 x5 x6 y6 r7
        cases B1 with
        | false =>
          go_wp2
          go_meet
          exact ⟨false, rfl, fun e => (by have h := HB1.out; rw [e, eqB_true rfl (fun _ _ => rfl)] at h; cases h), y7⟩
        | true =>
          go_wp2_with fail
          refine (KL'.out _ y7).mono ?_; rintro e w8 ⟨rfl, x8⟩
          have y8 := y7.trans x8
          go_wp2_with fail
          refine (KL.out _ y8).mono ?_; rintro e w9 ⟨rfl, x9⟩
          have y9 := y8.trans x9
          obtain ⟨B2, hB2⟩ : ∃ B2, (D'.li == D.li) = B2 := ⟨_, rfl⟩
          have HB2 := Lib.hid hB2
          clear y7 y8 x8 x9
          cases B2 with
          | false =>
            go_wp2
            go_meet
            exact ⟨false, rfl, fun e => (by have h := HB2.out; rw [e] at h; simp at h), y9⟩
          | true =>
            go_wp2_with fail
            refine (KG'.out _ y9).mono ?_; rintro e wa ⟨rfl, xa⟩
            have ya := y9.trans xa
            go_wp2_with fail
            refine (KG.out _ ya).mono ?_; rintro e wb ⟨rfl, xb⟩
            have yb := ya.trans xb
            obtain ⟨B3, hB3⟩ : ∃ B3, (D'.reg == D.reg) = B3 := ⟨_, rfl⟩
            have HB3 := Lib.hid hB3
            clear y9 ya xa xb hB2
            cases B3 with
            | false =>
              go_wp2
              go_meet
              exact ⟨false, rfl, fun e => (by have h := HB3.out; rw [e] at h; simp at h), yb⟩
            | true =>
              go_wp2_with fail
              refine (KE'.out _ yb).mono ?_; rintro e wd ⟨rfl, xd⟩
              have yd := yb.trans xd
              go_wp2_with fail
              refine (KE.out _ yd).mono ?_; rintro e we ⟨rfl, xe⟩
              have ye := yd.trans xe
              obtain ⟨B4, hB4⟩ : ∃ B4, (D'.de == D.de) = B4 := ⟨_, rfl⟩
              have HB4 := Lib.hid hB4
              clear yb yd xd xe hB3
              cases B4 with
              | false =>
                go_wp2
                go_meet
                exact ⟨false, rfl, fun e => (by have h := HB4.out; rw [e] at h; simp at h), ye⟩
              | true =>
                go_wp2
                go_meet
                exact ⟨true, rfl, fun _ => rfl, ye⟩
      case rest =>
      obtain ⟨SB, rfl, hSB, x5⟩ := hcut
      obtain ⟨w5, hw5⟩ : ∃ W, W = wc := ⟨_, rfl⟩
      rw [← hw5] at x5 ⊢
      have x5w := X4.out.trans x5
      have HSB := Lib.hid hSB
      have KL5 := Lib.hid (fun W (x : Ext w5 W) => KL'.out W (x5.trans x))
      have HB5 := Lib.hid (HoldsG.ext HB.out x5)
      have HD5 := Lib.hid (HD.out.ext x5w)
      clear hw5 hSB KA' KA KL' KL KG' KG KE' KE HB x5
      by_cases hE : Er = 0
      · subst hE
        obtain ⟨⟨hg1, hg2⟩, ht, hl, hst, htu⟩ := HFG.out rfl
        have hg4 : (4 : Int) ≤ dn := by omega
        have hd1 : (1 : Int) < dn := by omega
        have hd0 : (0 : Int) < dn := by omega
        obtain ⟨db, doff, rfl, hdb, hdc⟩ := HD5.out.resolve_left (by omega)
        have cd0 := hdc 0 (by omega)
        have cd1 := hdc 1 (by omega)
        rw [Nat.add_zero] at cd0
        clear hdc HFE HFG
        by_cases h4 : f 1 = 4
        · obtain ⟨m1, m2, m3⟩ := hl h4
          subst m1 m2
          rw [h4] at cd1
          rw [m3] at KL5
          clear ht hl hst htu hg2 m3 h4
          go_wp2_with fail
          refine (KL5.out _ (Ext.refl _)).mono ?_; rintro e w6 ⟨rfl, x6⟩
          have x6w := x5w.trans x6
          clear cd0 cd1
          go_wp2_with fail
          refine (sure18 HK.out _).mono ?_; rintro e ws ⟨rfl, xs⟩
          go_wp2
          go_ret
          exact ⟨rfl, x6w.trans xs⟩
        · obtain ⟨m1, t0, t1⟩ := ht h4
          subst m1
          obtain ⟨bb, boff, rfl, hbb, hbc⟩ := HB5.out.resolve_left (by omega)
          have cb0 := hbc 0 (by omega)
          have cb1 := hbc 1 (by omega)
          rw [Nat.add_zero, t0] at cb0
          rw [t1] at cb1
          have z4 : (f 1 == 4) = false := by simp [h4]
          have HT := Lib.hid (And.intro hst htu)
          obtain ⟨y, hy⟩ : ∃ y, f 1 = y := ⟨_, rfl⟩
          have HY := Lib.hid hy
          obtain ⟨u, hu⟩ : ∃ u, f 0 = u := ⟨_, rfl⟩
          rw [hy] at cd1 cb1 z4 hg2 h4
          rw [hu] at cd0 cb0
          have e0 : (u != u) = false := by simp
          have e1 : (y != y) = false := by simp
          have H4 := Lib.hid h4
          have HG2 := Lib.hid hg2
          clear ht hl hst htu t0 t1 hbc hy hu h4 hg2
          go_wp2_with fail
          go_quiet (fail)
          clear cd0 cb0 cb1 cd1 e0 e1 z4
          have hdd : Ext w5 (w5.drewN nq) := Ext.drewN _ _
          have x6w := x5w.trans hdd
          have KL6 := Lib.hid (fun W (x : Ext (w5.drewN nq) W) => KL5.out W (hdd.trans x))
          have HB6 := Lib.hid (HoldsG.ext HB5.out hdd)
          have HD6 := Lib.hid (Holds.ext HD5.out hdd)
          clear hdd x5w HB5 HD5 KL5 hdb hbb
          generalize w5.drewN nq = w6 at *
          rcases HG2.out with e | e | e | e | e | e | e | e
          · obtain ⟨s1, s2⟩ := HT.out.1 (.inl (HY.out.trans e))
            subst e s2
            have hs := HSB.out s1
            subst hs
            clear HT HG2 HSB KL6 HB6 HD6 HY H4 s1
            go_wp2_with fail
            refine (sure18 HK.out _).mono ?_; rintro e ws ⟨rfl, xs⟩
            go_wp2
            go_ret
            exact ⟨rfl, x6w.trans xs⟩
          · obtain ⟨s1, s2, s3⟩ := HT.out.2 (.inl (HY.out.trans e))
            have HBE := Lib.hid s1
            obtain ⟨s4, s5⟩ := s2 (HY.out.trans e)
            rw [s5] at KL6
            subst e
            clear HT HG2 HSB H4 s1 s2 s3
            go_wp2_with fail
            refine (bytes_eq _ _ M M q dc (dgB D f) f w6 HB6.out HD6.out (by have := HDN.out.1; omega) ⟨rfl, fun i _ => HBE.out i⟩).mono ?_; rintro e w7 ⟨rfl, x7⟩
            have x7w := x6w.trans x7
            have KL7 := Lib.hid (fun W (x : Ext w7 W) => KL6.out W (x7.trans x))
            clear HB6 HD6 HY HBE KL6 x7 x6w
            rcases s4 with rfl | rfl
            · go_wp2_with fail
              refine (KL7.out _ (Ext.refl _)).mono ?_; rintro e w8 ⟨rfl, x8⟩
              have x8w := x7w.trans x8
              go_wp2_with fail
              refine (sure18 HK.out _).mono ?_; rintro e ws ⟨rfl, xs⟩
              go_wp2
              go_ret
              exact ⟨rfl, x8w.trans xs⟩
            · go_wp2_with fail
              refine (KL7.out _ (Ext.refl _)).mono ?_; rintro e w8 ⟨rfl, x8⟩
              have x8w := x7w.trans x8
              go_wp2_with fail
              refine (sure18 HK.out _).mono ?_; rintro e ws ⟨rfl, xs⟩
              go_wp2
              go_ret
              exact ⟨rfl, x8w.trans xs⟩
          · obtain ⟨s1, s2⟩ := HT.out.1 (.inr (.inl (HY.out.trans e)))
            subst e s2
            have hs := HSB.out s1
            subst hs
            clear HT HG2 HSB KL6 HB6 HD6 HY H4 s1
            go_wp2_with fail
            refine (sure18 HK.out _).mono ?_; rintro e ws ⟨rfl, xs⟩
            go_wp2
            go_ret
            exact ⟨rfl, x6w.trans xs⟩
          · obtain ⟨s1, s2, s3⟩ := HT.out.2 (.inr (.inl (HY.out.trans e)))
            have HBE := Lib.hid s1
            have s4 := s3 (by rw [HY.out, e]; decide)
            subst e
            clear HT HG2 HSB H4 s1 s2 s3
            subst s4
            go_wp2_with fail
            refine (bytes_eq _ _ M M q dc (dgB D f) f w6 HB6.out HD6.out (by have := HDN.out.1; omega) ⟨rfl, fun i _ => HBE.out i⟩).mono ?_; rintro e w7 ⟨rfl, x7⟩
            have x7w := x6w.trans x7
            clear HB6 HD6 HY HBE KL6 x7 x6w
            go_wp2_with fail
            refine (sure18 HK.out _).mono ?_; rintro e ws ⟨rfl, xs⟩
            go_wp2
            go_ret
            exact ⟨rfl, x7w.trans xs⟩
          · exact absurd e H4.out
          · obtain ⟨s1, s2, s3⟩ := HT.out.2 (.inr (.inr (.inl (HY.out.trans e))))
            have HBE := Lib.hid s1
            have s4 := s3 (by rw [HY.out, e]; decide)
            subst e
            clear HT HG2 HSB H4 s1 s2 s3
            subst s4
            go_wp2_with fail
            refine (bytes_eq _ _ M M q dc (dgB D f) f w6 HB6.out HD6.out (by have := HDN.out.1; omega) ⟨rfl, fun i _ => HBE.out i⟩).mono ?_; rintro e w7 ⟨rfl, x7⟩
            have x7w := x6w.trans x7
            clear HB6 HD6 HY HBE KL6 x7 x6w
            go_wp2_with fail
            refine (sure18 HK.out _).mono ?_; rintro e ws ⟨rfl, xs⟩
            go_wp2
            go_ret
            exact ⟨rfl, x7w.trans xs⟩
          · obtain ⟨s1, s2, s3⟩ := HT.out.2 (.inr (.inr (.inr (HY.out.trans e))))
            have HBE := Lib.hid s1
            have s4 := s3 (by rw [HY.out, e]; decide)
            subst e
            clear HT HG2 HSB H4 s1 s2 s3
            subst s4
            go_wp2_with fail
            refine (bytes_eq _ _ M M q dc (dgB D f) f w6 HB6.out HD6.out (by have := HDN.out.1; omega) ⟨rfl, fun i _ => HBE.out i⟩).mono ?_; rintro e w7 ⟨rfl, x7⟩
            have x7w := x6w.trans x7
            clear HB6 HD6 HY HBE KL6 x7 x6w
            go_wp2_with fail
            refine (sure18 HK.out _).mono ?_; rintro e ws ⟨rfl, xs⟩
            go_wp2
            go_ret
            exact ⟨rfl, x7w.trans xs⟩
          · obtain ⟨s1, s2⟩ := HT.out.1 (.inr (.inr (by rw [HY.out]; exact e)))
            subst s2
            have hs := HSB.out s1
            subst hs
            have y0 : (y == 0) = false := by simp; omega
            have y2 : (y == 2) = false := by simp; omega
            have y11 : decide (11 ≤ y) = true := decide_eq_true e.1
            have y18 : decide (y ≤ 18) = true := decide_eq_true e.2
            clear HT HG2 HSB KL6 HB6 HD6 HY H4 s1 e
            go_wp2_with fail
            refine (sure18 HK.out _).mono ?_; rintro e ws ⟨rfl, xs⟩
            go_wp2
            go_ret
            exact ⟨rfl, x6w.trans xs⟩
      · obtain ⟨f1, f2, f3, f4⟩ := HFE.out hE
        obtain rfl := f1
        have hs := HSB.out rfl
        subst hs f2 f3
        clear HFE HFG HSB KL5 HB5 HD5
        rcases f4 with rfl | rfl
        · clear hE
          go_wp2_with fail
          refine (sure18 HK.out _).mono ?_; rintro e ws ⟨rfl, xs⟩
          go_wp2
          go_ret
          exact ⟨rfl, x5w.trans xs⟩
        · clear hE
          go_wp2_with fail
          refine (sure18 HK.out _).mono ?_; rintro e ws ⟨rfl, xs⟩
          go_wp2
          go_ret
          exact ⟨rfl, x5w.trans xs⟩
    | succ h =>
      have hiO : i < L.length := by rw [HL.out]; omega
      obtain ⟨b, off, rfl, hb, hc⟩ := HA.out.resolve_left (by intro e; rw [e] at hiO; simp at hiO)
      have hZ := HZ.out L[i] (List.getElem_mem _)
      have c0 : w.cell? ⟨b, off + i * 3, none⟩ = some (.int .i64 (L[i]).k) := hc i L[i] (List.getElem?_eq_getElem hiO) 0 _ rfl
      have c1 := hc i L[i] (List.getElem?_eq_getElem hiO) 1 _ rfl
      have c2 := hc i L[i] (List.getElem?_eq_getElem hiO) 2 _ rfl
      generalize L[i] = z at hZ c0 c1 c2
      obtain ⟨k, x, za, zm, zd, zf⟩ := z
      have hi1 : (i : Int) < n := by omega
      have hi120 : (i : Int) ≤ 120 := by have := HN.out; omega
      have d0 := hx.cell hb c0
      have d1 := hx.cell hb c1
      have d2 := hx.cell hb c2
      have HI := Lib.hid hi
      have HZZ := Lib.hid hZ
      have KC := Lib.hid (HK.out.count p F D x wr hS hZ.wx)
      have HX := Lib.hid hx
      have HF := Lib.hid hF
      have HS := Lib.hid hS
      clear hc c0 c1 c2 hiO hi hZ hb hx hF hS
      simp only at d0 d1 d2 HZZ KC
      by_cases hk0 : k = 0
      · subst hk0
        by_cases hbig : zm ≤ 600
        · have hm : (zm : Int) ≤ 600 := by omega
          have hz := HZZ.out
          have hoff : OffN F za zm := by
            rcases hz.h with e | ⟨b', o', e, hlt, -⟩
            · exact .inl e
            · exact .inr fun q hq hF => by have e : za = _ := e; rw [e] at hq; cases hq; have : w.heap.size ≤ b' := HF.out _ hF; have hlt : b' < w.heap.size := hlt; omega
          have KD := Lib.hid (HK.out.does p F D za zm zd zf wr HS.out (hz.h.ext HX.out) hoff hbig hz.l hz.m hz.b)
          clear hz hoff hbig
          go_wp2_with fail
          refine (KD.out).mono ?_; rintro e w2 ⟨b6, q6, G, rfl, -, -, k2, T2, g2⟩
          have x2 := HX.out.keep k2 HF.out
          have n2 := HF.out.grows g2 HX.out
          clear d0 d1 d2 hm
          go_wp2
          go_roundg h
          case rel => exact ⟨i + 1, _, _, by have := HI.out; omega, by go_num, T2, n2, x2⟩
          case measure => omega
        · have hm : ¬ (zm : Int) ≤ 600 := by omega
          clear hbig
          go_wp2_with fail
          refine (KC.out).mono ?_; rintro e w2 ⟨G, rfl, k2, T2, g2⟩
          have x2 := HX.out.keep k2 HF.out
          have n2 := HF.out.grows g2 HX.out
          clear d0 d1 d2
          go_wp2
          go_roundg h
          case rel => exact ⟨i + 1, _, _, by have := HI.out; omega, by go_num, T2, n2, x2⟩
          case measure => omega
      · have z0 : (k == 0) = false := by simp [hk0]
        clear hk0
        go_wp2_with fail
        refine (KC.out).mono ?_; rintro e w2 ⟨G, rfl, k2, T2, g2⟩
        have x2 := HX.out.keep k2 HF.out
        have n2 := HF.out.grows g2 HX.out
        clear d0 d1 d2
        go_wp2
        go_roundg h
        case rel => exact ⟨i + 1, _, _, by have := HI.out; omega, by go_num, T2, n2, x2⟩
        case measure => omega
end Go.Proofs.Ytchdgodmncckcaa
