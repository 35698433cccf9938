/-
  THE LAWS OF LAYER 4: the walk of CrcOdd.
-/
import Derived.Test.YtgemdnmcklpbkaaDoorLaw04G
namespace Go.Proofs.YtgemdnmcklpbkaaDoor
open Go.RowKit

theorem crcOdd.great (a : Option Addr) (n c : Nat) (b : Option Addr) (m d : Nat) (w : World) (ht : Tabs w) (hn : n ≤ 140737488351232) (hm : m ≤ 140737488351232) (h : 400 < n ∨ 60 < m) :
    Calls Tryd.prog 5 #[.slice a n c, .slice b m d] w fun e w' => e = .returned (.bool true) ∧ Ext w w' := by
  by_cases h1 : 400 < n
  · have k1 : (400 : Int) < n := by omega
    clear h h1
    go_enter Tryd.func5, Tryd.ntmps5
    go_wp2_with fail
    refine (sure4_any _ ht).mono ?_; rintro e w8 ⟨rfl, x8⟩
    go_wp2
    go_ret
    exact ⟨rfl, x8⟩
  · have k1 : (n : Int) ≤ 400 := by omega
    have k2 : (60 : Int) < m := by omega
    clear h h1
    go_enter Tryd.func5, Tryd.ntmps5
    go_wp2_with fail
    refine (sure4_any _ ht).mono ?_; rintro e w8 ⟨rfl, x8⟩
    go_wp2
    go_ret
    exact ⟨rfl, x8⟩

theorem Tryd.infoB : (Tryd.prog.info? 4).map (fun i => (i.zero, i.size, i.bytes)) = some (some (.bool false), 1, 1) := by kernel_rfl
/-- Where the round stands. -/
def Odd (f : Nat → Int) (n L N B : Nat) (wr : World) (S : Nat → Bool) (yb : Option Addr) (yd : Nat) (g : Nat → Int) : Prop :=
  L ≤ yd ∧ yd ≤ maxLen ∧ Holds .u8 wr yb L g ∧ Far B yb ∧ (∀ i, i < L → 0 ≤ g i ∧ g i < 256) ∧ (∀ i, i < L → ∀ j, j < 8 → bB (g i) j = (bB (andTwo f n (vI (sumV f n)) i) j ^^ S (8 * i + j))) ∧ Row Value.bool 4 wr B N S
set_option maxRecDepth 100000 in
set_option maxHeartbeats 3200000 in
theorem crcOdd.small (a : Option Addr) (n c : Nat) (f : Nat → Int) (b : Option Addr) (m d : Nat) (v : Nat → Int) (w : World) (ht : Tabs w) (ha : Holds .u8 w a n f) (hf : ∀ i, i < n → 0 ≤ f i ∧ f i < 256)
    (hb : Holds .u16 w b m v) (hv : ∀ i, i < m → 0 ≤ v i ∧ v i < 65536) (hn : n ≤ 400) (hm : m ≤ 60) :
    Calls Tryd.prog 5 #[.slice a n c, .slice b m d] w fun e w' => e = .returned (.bool true) ∧ Ext w w' := by
  obtain ⟨iB, hiB, hzB0, hzB1, hzB2⟩ := info_parts Tryd.infoB
  have k1 : (n : Int) ≤ 400 := by omega
  have k2 : (m : Int) ≤ 60 := by omega
  obtain ⟨L, hL⟩ : ∃ L, L = n + 2 := ⟨_, rfl⟩
  obtain ⟨N, hN⟩ : ∃ N, N = 8 * L := ⟨_, rfl⟩
  have k3 : (n : Int) + 2 = (L : Int) := by omega
  have k4 : 8 * (L : Int) = (N : Int) := by omega
  have k5 : (N : Int) ≤ 4000 := by omega
  have k6 : 0 < (N : Int) := by omega
  have hap := append_any a n c f w ht ha (by omega) hf
  rw [← hL] at hap
  have HL := Lib.hid hL
  have HN := Lib.hid hN
  clear hL hN ha
  go_enter Tryd.func5, Tryd.ntmps5
  go_wp2_with fail
  refine hap.mono ?_; rintro e w1 ⟨b1, d1, rfl, c1, m1, h1, x1⟩
  have t1 := ht.ext x1
  have b1' := hb.ext x1
  clear ht hb hap
  go_wp2_with (at_make; refine wpList_make_full _ rfl _ _ 37 rfl w1.heap.size 4 iB (.bool false) 1 Tryd.underlying37 hiB hzB0 hzB1 .i64 .i64 N N N rfl rfl rfl rfl (by rw [hzB2]; omega) (by unfold maxLen; omega) (Nat.le_refl _) ?_; intro w2 hown2 hgrow2)
  have hr2 : Row Value.bool 4 w2 w1.heap.size N (fun _ => false) := Row.made hown2
  have x2 : Ext w1 w2 := (Below.refl _ _).grown hgrow2 (Nat.le_refl _) (fun k hk => by cases hk)
  have far1 : Far w1.heap.size b1 := h1.far (by omega)
  have hg1 := andTwo_bd f n (vI (sumV f n)) hf (vI_lo _) (vI_hi _)
  have h1' := h1.ext x2
  obtain ⟨B, hB⟩ : ∃ B, B = w1.heap.size := ⟨_, rfl⟩
  rw [← hB] at hr2 far1 ⊢
  have HB := Lib.hid hB
  clear hB hown2 hgrow2 h1 hf
  go_loopw [6, 7, 9] (fun y cnt i wr => ∃ (j M : Nat) (S : Nat → Bool) (yb : Option Addr) (yd : Nat) (g : Nat → Int), j ≤ m ∧ i = .int .i64 j ∧ cnt = .int .i64 M ∧ many S N = M ∧ M ≤ j ∧ y = .slice yb L yd ∧ Odd f n L N B wr S yb yd g ∧ Ext w1 wr) (fun _ _ i _ => m - (intOf i).toNat)
  case atStart => exact ⟨0, 0, fun _ => false, b1, d1, _, Nat.zero_le _, rfl, rfl, many_no _, Nat.le_refl _, rfl, ⟨c1, m1, h1', far1, fun i _ => hg1 i, fun i _ j _ => by rw [Bool.xor_false], hr2⟩, x2⟩
  case round =>
    obtain ⟨j, M, S, yb, yd, g, hj, rfl, rfl, hM, hMj, rfl, ⟨hyd, hym, hy, hfar, hg, hbits, hrow⟩, hx⟩ := hrel
    have HM := Lib.hid hM
    have HBits := Lib.hid hbits
    clear hM hbits hr2 far1 h1' x2 hg1
    by_cases hlt : j < m
    · obtain ⟨p, o, rfl, hp, hcell⟩ := (b1'.ext hx).resolve_left (by omega)
      have c0 := hcell j hlt
      obtain ⟨v0, v1⟩ := hv j hlt
      have hlt' : (j : Int) < m := by omega
      obtain ⟨k, hk⟩ : ∃ k : Nat, v j % (N : Int) = (k : Int) := ⟨(v j % (N : Int)).toNat, by have := Int.emod_nonneg (v j) (show (N : Int) ≠ 0 by omega); omega⟩
      have hkN' : v j % (N : Int) < N := Int.emod_lt_of_pos _ k6
      have hkN : k < N := by omega
      have hki : (k : Int) < N := by omega
      have r0 := hrow.cell k hkN
      have r1 := hrow.frozen k
      have hBlt := hrow.lt
      clear hcell hv b1' t1 hkN'
      cases hS : S k
      · rw [hS] at r0
        have hset := hrow.set k true
        have hyB := hy.setFar hfar k (.bool true)
        have HS := Lib.hid hS
        clear hS hrow
        go_wp2_with fail
        refine (flip_any yb L yd k g _ hyB (by omega) (by omega) hg).mono ?_; rintro e w5 ⟨b5, d5, rfl, c5, m5, h5, x5, new5⟩
        have row5 := hset.ext x5
        have x6 : Ext w1 w5 := Ext.trans (hx.setCell (by rw [HB.out]; exact Nat.le_refl _) _) x5
        clear hset hyB hx x5
        go_wp2
        go_roundw
        case rel => exact ⟨j + 1, M + 1, upd S k true, b5, d5, _, by omega, by go_num, by go_num, by rw [many_upd S k HS.out N hkN, HM.out], by omega, rfl, ⟨c5, m5, h5, fun q hq => by have := new5 q hq; simp at this; omega, flipF_bd g k L hg, more_bit HS.out HBits.out, row5⟩, x6⟩
        case measure => simp [intOf]; omega
      · rw [hS] at r0
        clear hS
        go_wp2
        go_roundw
        case rel => exact ⟨j + 1, M, S, yb, yd, g, by omega, by go_num, rfl, HM.out, by omega, rfl, ⟨hyd, hym, hy, hfar, hg, HBits.out, hrow⟩, hx⟩
        case measure => simp [intOf]; omega
    · obtain rfl : j = m := by omega
      have t2 := t1.ext hx
      have hM60 : (M : Int) ≤ 60 := by omega
      have hgL : ∀ i, i < n + 2 → 0 ≤ g i ∧ g i < 256 := by rw [← HL.out]; exact hg
      have hiff := hurt f g n S hgL (by rw [← HL.out]; exact HBits.out)
      rw [← HL.out, ← HN.out] at hiff
      have HI := Lib.hid hiff
      have hN33 : N ≤ 3300 := by have := HL.out; have := HN.out; omega
      clear hv b1' t1 hrow hfar hlt hj hiff hgL
      by_cases hodd : M % 2 = 1
      · have e1 : (M : Int) % 2 = 1 := by omega
        have hno := bool_of_iff HI.out (odd_left S N (by rw [HM.out]; exact hodd))
        clear hodd
        go_wp2_with fail
        refine (check_v yb L yd g false _ t2 hy hyd hym (by omega) hg hno).mono ?_; rintro e w6 ⟨rfl, x6⟩
        have t3 := t2.ext x6
        have x7 := (x1.trans hx).trans x6
        clear hg hno hy t2
        go_wp2_with fail
        refine (sure4_any _ t3).mono ?_; rintro e w8 ⟨rfl, x8⟩
        go_wp2
        go_ret
        exact ⟨rfl, x7.trans x8⟩
      · by_cases htwo : M = 2
        · have hno := bool_of_iff HI.out (two_left S N hN33 (by rw [HM.out]; exact htwo))
          have e1 : (M : Int) = 2 := by omega
          rw [e1]
          clear hodd htwo e1 hM60
          go_wp2_with fail
          refine (check_v yb L yd g false _ t2 hy hyd hym (by omega) hg hno).mono ?_; rintro e w6 ⟨rfl, x6⟩
          have t3 := t2.ext x6
          have x7 := (x1.trans hx).trans x6
          clear hg hno hy t2
          go_wp2_with fail
          refine (sure4_any _ t3).mono ?_; rintro e w8 ⟨rfl, x8⟩
          go_wp2
          go_ret
          exact ⟨rfl, x7.trans x8⟩
        · by_cases h0 : M = 0
          · have hall := many_none N (by rw [HM.out]; exact h0)
            have hyes := HI.out.2 (stepsV_none S N hall)
            have e1 : (M : Int) = 0 := by omega
            rw [e1]
            clear hodd htwo e1 hM60 hall
            go_wp2_with fail
            refine (check_v yb L yd g true _ t2 hy hyd hym (by omega) hg hyes).mono ?_; rintro e w6 ⟨rfl, x6⟩
            have t3 := t2.ext x6
            have x7 := (x1.trans hx).trans x6
            clear hg hyes hy t2
            go_wp2_with fail
            refine (sure4_any _ t3).mono ?_; rintro e w8 ⟨rfl, x8⟩
            go_wp2
            go_ret
            exact ⟨rfl, x7.trans x8⟩
          · have e1 : (M : Int) % 2 = 0 := by omega
            have e2 : ¬ (M : Int) = 2 := by omega
            have e3 : 0 < (M : Int) := by omega
            have x7 := x1.trans hx
            clear hodd htwo h0 hg hy
            go_wp2_with fail
            refine (sure4_any _ t2).mono ?_; rintro e w8 ⟨rfl, x8⟩
            go_wp2
            go_ret
            exact ⟨rfl, x7.trans x8⟩

theorem crcOdd.walk (a : Option Addr) (n c : Nat) (f : Nat → Int) (b : Option Addr) (m d : Nat) (v : Nat → Int) (w : World) (ht : Tabs w)
    (ha : Holds .u8 w a n f) (hc : n ≤ c) (hcm : c * 1 ≤ 140737488351232) (hf : ∀ i, i < n → (Lit.int .u8 (f i)).wf = true)
    (hb : Holds .u16 w b m v) (hd : m ≤ d) (hdm : d * 2 ≤ 140737488351232) (hv : ∀ i, i < m → (Lit.int .u16 (v i)).wf = true) :
    Calls Tryd.prog 5 #[.slice a n c, .slice b m d] w fun e w' => e = .returned (.bool true) ∧ Ext w w' := by
  by_cases h : 400 < n ∨ 60 < m
  · exact crcOdd.great a n c b m d w ht (by omega) (by omega) h
  · exact crcOdd.small a n c f b m d v w ht ha (fun i hi => wf8 (hf i hi)) hb (fun i hi => by have := bounds_u16 (hv i hi); omega) (by omega) (by omega)
end Go.Proofs.YtgemdnmcklpbkaaDoor
