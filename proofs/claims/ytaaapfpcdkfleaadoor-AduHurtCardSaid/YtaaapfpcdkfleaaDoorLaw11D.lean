/-
  THE LAWS OF LAYER 11: the walk of AduHurt.
-/
import Derived.Test.YtaaapfpcdkfleaaDoorLaw11B
import Derived.Test.YtaaapfpcdkfleaaDoorLaw04E
namespace Go.Proofs.YtaaapfpcdkfleaaDoor
open Go.RowKit

/-- The bytes are F with the bits of S turned. -/
def Turned (F g : Nat → Int) (L : Nat) (S : Nat → Bool) : Prop := ∀ i, i < L → ∀ j, j < 8 → bB (g i) j = (bB (F i) j ^^ S (8 * i + j))
theorem Turned.nil (F : Nat → Int) (L : Nat) : Turned F F L (fun _ => false) := fun _ _ _ _ => by rw [Bool.xor_false]
theorem Turned.flip {F g : Nat → Int} {L : Nat} {S : Nat → Bool} (h : Turned F g L S) (k : Nat) : Turned F (flipF g k) L (fun t => S t ^^ decide (t = k)) := by
  intro i hi j hj
  rw [flipF_bit g k i j hj, h i hi j hj, Bool.xor_assoc]
/-- A frame that is turned still ends with its sum just if nothing is left. -/
theorem Turned.ends {s : Int} {f g : Nat → Int} {n L N : Nat} {S : Nat → Bool} (hL : L = n + 3) (hN : N = 8 * L) (hg : ∀ i, i < L → 0 ≤ g i ∧ g i < 256) (h : Turned (frm s f n) g L S) : endsB g L = true ↔ stepsV 0#16 S N = 0#16 := by
  subst hL; subst hN
  exact hurt (consF s f) g (n + 1) S hg h
/-- .. which it does just if it is the frame, where what is left of S tells whether S is empty. -/
theorem Turned.same {s : Int} {f g : Nat → Int} {n L N : Nat} {S : Nat → Bool} (hL : L = n + 3) (hN : N = 8 * L) (hF : ∀ i, 0 ≤ frm s f n i ∧ frm s f n i < 256) (hg : ∀ i, i < L → 0 ≤ g i ∧ g i < 256) (h : Turned (frm s f n) g L S)
    (h0 : stepsV 0#16 S N = 0#16 → ∀ t, t < N → S t = false) : eqB L L g (frm s f n) = endsB g L := by
  rw [Bool.eq_iff_iff, h.ends hL hN hg, eqB_iff]
  constructor
  · rintro ⟨_, hall⟩
    refine stepsV_none _ N fun t htN => ?_
    have := h (t / 8) (by omega) (t % 8) (by omega)
    rw [hall (t / 8) (by omega), show 8 * (t / 8) + t % 8 = t from by omega] at this
    revert this
    cases bB (frm s f n (t / 8)) (t % 8) <;> cases S t <;> simp
  · intro hz
    refine ⟨rfl, fun i hi => byte_bits (hg i hi) (hF i) fun t ht => ?_⟩
    rw [h i hi t ht, h0 hz _ (by omega), Bool.xor_false]
theorem one_many {k N : Nat} (hk : k < N) : many (fun t => false ^^ decide (t = k)) N = 1 := by
  have e : (fun t => false ^^ decide (t = k)) = upd (fun _ => false) k true := by
    funext t; unfold upd; by_cases h : t = k <;> simp [h]
  rw [e, many_upd _ k rfl N hk, many_no]
theorem two_zero {k l N : Nat} (hk : k < N) (hl : l < N) (hN : N ≤ 3300) (h : stepsV 0#16 (fun t => (false ^^ decide (t = k)) ^^ decide (t = l)) N = 0#16) : ∀ t, t < N → ((false ^^ decide (t = k)) ^^ decide (t = l)) = false := by
  by_cases e : k = l
  · subst e; intro t _; simp
  · exfalso
    have e2 : (fun t => (false ^^ decide (t = k)) ^^ decide (t = l)) = upd (upd (fun _ => false) k true) l true := by
      funext t; unfold upd
      by_cases h1 : t = l
      · subst h1; simp [Ne.symm e]
      · by_cases h2 : t = k
        · subst h2; simp [h1]
        · simp [h1, h2]
    rw [e2] at h
    refine two_left _ N hN ?_ h
    rw [many_upd _ l (by rw [upd_other _ _ _ _ (Ne.symm e)]) N hl, many_upd _ k rfl N hk, many_no]
theorem burst_zero {k T N : Nat} (h : stepsV 0#16 (burst k T 16) N = 0#16) : ∀ t, t < N → burst k T 16 t = false :=
  near_left (burst k T 16) k N (fun t ht => by unfold burst; rw [decide_eq_false (by omega)]; rfl) (fun t ht => by unfold burst; rw [decide_eq_false (show ¬ t < k + 16 by omega)]; simp) h
/-- What Open tells of bytes as many as a frame's: the error. -/
theorem openE_bit {g : Nat → Int} {L : Nat} {z : Bool} (h4 : 4 ≤ L) (h5 : L ≤ 256) (hz : endsB g L = z) : ∃ E, openE g L = E ∧ (E == 14) = !z := by
  refine ⟨_, rfl, ?_⟩
  rw [openE_sum h4 h5, hz]
  cases z <;> rfl
theorem bytes_v (a b : Option Addr) (n m c d : Nat) (f g : Nat → Int) (v : Bool) (w : World) (ha : Holds .u8 w a n f) (hb : Holds .u8 w b m g) (hn : n ≤ 1000000) (hm : m ≤ 1000000) (hv : eqB n m f g = v) :
    Calls Tryd.prog 11 #[.slice a n c, .slice b m d] w fun e w' => e = .returned (.bool v) ∧ Ext w w' := by
  subst hv
  refine (bytes_any a b n m c d f g w ha hb hn hm).mono ?_
  rintro e w' ⟨rfl, q, rfl⟩
  exact ⟨rfl, Ext.drewN _ _⟩

theorem aduHurt.no (s : Int) (a : Option Addr) (n c : Nat) (x y z : Int) (w : World) (ht : Tabs w) (s0 : 0 ≤ s) (s1 : s < 256) (hn : n ≤ 140737488351232) (h : n = 0 ∨ 253 < n) :
    Calls Tryd.prog 5 #[.int .u8 s, .slice a n c, .agg #[.int .u16 x, .int .u16 y, .int .u16 z]] w fun e w' => e = .returned (.bool true) ∧ Ext w w' := by
  have xa := Ext.alloc w (.cells #[.int .u16 x, .int .u16 y, .int .u16 z] 37)
  rcases h with h | h
  · subst h
    go_enter Tryd.func5, Tryd.ntmps5
    go_wp2_with fail
    refine (wrap_short s a 0 c _ s0 s1 rfl).mono ?_; rintro e w1 ⟨rfl, rfl⟩
    go_wp2_with fail
    refine (sure11_any _ (ht.ext xa)).mono ?_; rintro e w2 ⟨rfl, x2⟩
    go_wp2
    go_ret
    exact ⟨rfl, Ext.trans xa x2⟩
  · have k1 : (253 : Int) < n := by omega
    have k2 : ((n : Int) == 0) = false := beq_eq_false_iff_ne.2 (by omega)
    go_enter Tryd.func5, Tryd.ntmps5
    go_wp2_with fail
    refine (wrap_long s a n c _ s0 s1 h).mono ?_; rintro e w1 ⟨rfl, rfl⟩
    go_wp2_with fail
    refine (sure11_any _ (ht.ext xa)).mono ?_; rintro e w2 ⟨rfl, x2⟩
    go_wp2
    go_ret
    exact ⟨rfl, Ext.trans xa x2⟩

set_option maxRecDepth 100000 in
set_option maxHeartbeats 6400000 in
theorem aduHurt.yes (s : Int) (a : Option Addr) (n c : Nat) (f : Nat → Int) (x y z : Int) (T : Nat) (w : World) (ht : Tabs w) (s0 : 0 ≤ s) (s1 : s < 256) (ha : Holds .u8 w a n f) (hf : ∀ i, i < n → 0 ≤ f i ∧ f i < 256) (n1 : 1 ≤ n) (n2 : n ≤ 253)
    (x0 : 0 ≤ x) (x1 : x < 65536) (y0 : 0 ≤ y) (y1 : y < 65536) (z1 : z < 65536) (hT : z = (T : Int)) :
    Calls Tryd.prog 5 #[.int .u8 s, .slice a n c, .agg #[.int .u16 x, .int .u16 y, .int .u16 z]] w fun e w' => e = .returned (.bool true) ∧ Ext w w' := by
  obtain ⟨L, hL⟩ : ∃ L, L = n + 3 := ⟨_, rfl⟩
  obtain ⟨N, hN⟩ : ∃ N, N = 8 * L := ⟨_, rfl⟩
  obtain ⟨F, hF⟩ : ∃ F, F = frm s f n := ⟨_, rfl⟩
  have k1 : (n : Int) ≤ 253 := by omega
  have k4 : 8 * (L : Int) = (N : Int) := by omega
  have k5 : (N : Int) ≤ 2048 := by omega
  have k6 : 0 < (N : Int) := by omega
  have k7 : (4 : Int) ≤ L := by omega
  have k8 : (L : Int) ≤ 256 := by omega
  obtain ⟨k, hk⟩ : ∃ k : Nat, x % (N : Int) = (k : Int) := ⟨(x % (N : Int)).toNat, by have := Int.emod_nonneg x (show (N : Int) ≠ 0 by omega); omega⟩
  have hkN : k < N := by have := Int.emod_lt_of_pos x k6; omega
  obtain ⟨l, hl⟩ : ∃ l : Nat, y % (N : Int) = (l : Int) := ⟨(y % (N : Int)).toNat, by have := Int.emod_nonneg y (show (N : Int) ≠ 0 by omega); omega⟩
  have hlN : l < N := by have := Int.emod_lt_of_pos y k6; omega
  have hki : (k : Int) ≤ 4000 := by omega
  have hli : (l : Int) ≤ 4000 := by omega
  have z0 : 0 ≤ z := by omega
  have we : wrapE s n = 0 := wrapE_ok s0 s1 n1 n2
  have wn : wrapN s n = L := by rw [wrapN_ok we, hL]
  have A1 := Lib.hid (fun w' (e : Ext w w') => wrap_v s a n c f 0 L w' (ht.ext e) (ha.ext e) (by omega) hf we wn)
  rw [← hF] at A1
  have hFb : ∀ i, 0 ≤ F i ∧ F i < 256 := by rw [hF]; exact fun i => frm_bd s0 s1 hf i
  have same : ∀ g S, (∀ i, i < L → 0 ≤ g i ∧ g i < 256) → Turned F g L S → (stepsV 0#16 S N = 0#16 → ∀ t, t < N → S t = false) → eqB L L g F = endsB g L := by
    intro g S hg h h0; subst hF; exact Turned.same hL hN hFb hg h h0
  have ends : ∀ g S, (∀ i, i < L → 0 ≤ g i ∧ g i < 256) → Turned F g L S → (endsB g L = true ↔ stepsV 0#16 S N = 0#16) := by
    intro g S hg h; subst hF; exact Turned.ends hL hN hg h
  have SAME := Lib.hid same
  have ENDS := Lib.hid ends
  have HT := Lib.hid hT
  have HTB := Lib.hid (fun w' (e : Ext w w') => ht.ext e)
  have HFB := Lib.hid hFb
  have HN := Lib.hid (show N ≤ 3300 ∧ 4 ≤ L ∧ L ≤ 256 from ⟨by omega, by omega, by omega⟩)
  have hL6 : L ≤ 1000000 := by omega
  clear hL hN hF ha ht hT same ends hFb we wn hf
  go_enter Tryd.func5, Tryd.ntmps5
  go_wp2_with fail
  obtain ⟨B, hB⟩ : ∃ B, B = w.heap.size := ⟨_, rfl⟩
  obtain ⟨wa, hwa⟩ : ∃ wa, wa = w.alloc (.cells #[.int .u16 x, .int .u16 y, .int .u16 z] 37) := ⟨_, rfl⟩
  have gB : wa.heap[B]? = some (.cells #[.int .u16 x, .int .u16 y, .int .u16 z] 37 (0, 0)) := by rw [hwa, hB]; exact heap_alloc_new w _
  have xa : Ext w wa := by rw [hwa]; exact Ext.alloc w _
  rw [← hwa, ← hB]
  clear hwa hB
  have hrw : ∀ w', Ext wa w' → w'.heap[B]? = some (.cells #[.int .u16 x, .int .u16 y, .int .u16 z] 37 (0, 0)) := fun w' e => (Below.block e B (heap_lt gB)).trans gB
  have HC := Lib.hid (fun w' (e : Ext wa w') => (show w'.cell? ⟨B, 0, none⟩ = some (.int .u16 x) ∧ w'.cell? ⟨B, 1, none⟩ = some (.int .u16 y) ∧ w'.cell? ⟨B, 2, none⟩ = some (.int .u16 z) from
    ⟨cell_of_heap (j := 0) (hrw w' e) rfl, cell_of_heap (j := 1) (hrw w' e) rfl, cell_of_heap (j := 2) (hrw w' e) rfl⟩))
  clear gB hrw
  refine (A1.out _ xa).mono ?_; rintro e w1 ⟨b1, d1, rfl, c1, m1, h1, e1⟩
  have X1 := Lib.hid (fun w' (e : Ext w1 w') => xa.trans (e1.trans e))
  have H1 := Lib.hid (fun w' (e : Ext w1 w') => h1.ext e)
  obtain ⟨r0, r1, r2⟩ := HC.out w1 e1
  have HC1 := Lib.hid (fun w' (e : Ext w1 w') => HC.out w' (e1.trans e))
  clear A1 HC xa
  go_wp2_with fail
  refine (flip_any b1 L d1 k F _ h1 hL6 (by omega) (fun i _ => HFB.out i)).mono ?_; rintro e w2 ⟨b2, d2, rfl, c2, m2, h2, e2, -⟩
  clear r0 r1 r2
  obtain ⟨r0, r1, r2⟩ := HC1.out w2 e2
  have hf2 := flipF_bd F k L (fun i _ => HFB.out i)
  have HF2 := Lib.hid hf2
  have T2 : Hid (Turned F (flipF F k) L (fun t => false ^^ decide (t = k))) := Lib.hid ((Turned.nil F L).flip k)
  go_wp2_with fail
  refine (flip_any b2 L d2 l _ _ h2 hL6 (by omega) hf2).mono ?_; rintro e w3 ⟨b3, d3, rfl, c3, m3, h3, e3, -⟩
  clear r0 r1 r2
  have e13 := e2.trans e3
  obtain ⟨r0, r1, r2⟩ := HC1.out w3 e13
  have T3 : Hid (Turned F (flipF (flipF F k) l) L (fun t => (false ^^ decide (t = k)) ^^ decide (t = l))) := Lib.hid (T2.out.flip l)
  have HF3 := Lib.hid (flipF_bd (flipF F k) l L hf2)
  have H2 := Lib.hid (fun w' (e : Ext w3 w') => h2.ext (e3.trans e))
  have H3 := Lib.hid (fun w' (e : Ext w3 w') => h3.ext e)
  have E3 := Lib.hid (fun w' (e : Ext w3 w') => e13.trans e)
  clear hf2 h1 h2 h3 e1 e2 e3 r1 r2 r0
  go_wp2_with fail
  have HK := Lib.hid hk
  clear hk hl
  go_loopw [12, 13] (fun y i wr => ∃ (j : Nat) (yb : Option Addr) (yd : Nat) (g : Nat → Int), j ≤ 16 ∧ i = .int .i64 j ∧ y = .slice yb L yd ∧ L ≤ yd ∧ yd ≤ maxLen ∧ Holds .u8 wr yb L g ∧ (∀ i, i < L → 0 ≤ g i ∧ g i < 256) ∧ Hid (Turned F g L (burst k T j)) ∧ Ext w3 wr) (fun _ i _ => 16 - (intOf i).toNat)
  case atStart => exact ⟨0, b1, d1, F, Nat.zero_le _, rfl, rfl, c1, m1, H1.out _ e13, fun i _ => HFB.out i, Lib.hid (fun i _ t _ => by rw [burst_no, Bool.xor_false]), Ext.refl _⟩
  case round =>
    obtain ⟨j, yb, yd, g, hj, rfl, rfl, hyd, hym, hy, hg, HBits, hx⟩ := hrel
    obtain ⟨r0, -, r2⟩ := HC1.out wr (e13.trans hx)
    by_cases hlt : j < 16
    · have hlt' : (j : Int) < 16 := by omega
      have hbit := bit_rem T j
      rw [← HT.out] at hbit
      clear hj hlt e13
      cases hTb : T.testBit j
      · rw [hTb] at hbit
        have HTb := Lib.hid hTb
        clear hTb
        go_wp2
        go_roundw
        case rel => exact ⟨j + 1, yb, yd, g, by omega, by go_num, rfl, hyd, hym, hy, hg, Lib.hid (by rw [burst_skip HTb.out]; exact HBits.out), hx⟩
        case measure => simp [intOf]; omega
      · rw [hTb] at hbit
        have HTb := Lib.hid hTb
        clear hTb
        obtain ⟨q, hq⟩ : ∃ q : Nat, (k : Int) + (j : Int) = (q : Int) := ⟨k + j, by omega⟩
        have HQ : Hid (q = k + j) := Lib.hid (by omega)
        have hq2 : (q : Int) ≤ 5000 := by omega
        have hk := HK.out
        go_wp2_with fail
        refine (flip_any yb L yd q g _ hy hL6 (by omega) hg).mono ?_; rintro e w5 ⟨b5, d5, rfl, c5, m5, h5, e5, _⟩
        have e6 := hx.trans e5
        clear hy hx e5 r0 r2 hk
        go_wp2
        go_roundw
        case rel => exact ⟨j + 1, b5, d5, _, by omega, by go_num, rfl, c5, m5, h5, flipF_bd g q L hg, Lib.hid (by rw [burst_set HTb.out, HQ.out]; exact more_bit burst_at HBits.out), e6⟩
        case measure => simp [intOf]; omega
    · obtain rfl : j = 16 := by omega
      clear hj r0 r2 hlt
      obtain ⟨hN33, hL4, hL5⟩ := HN.out
      have z1f : endsB (flipF F k) L = false := bool_of_iff (ENDS.out _ _ HF2.out T2.out) (odd_left _ N (by rw [one_many hkN]))
      have hE1 := openE_form hL4 hL5 z1f
      obtain ⟨z2, hz2⟩ : ∃ z2, endsB (flipF (flipF F k) l) L = z2 := ⟨_, rfl⟩
      have sm2 := (SAME.out _ _ HF3.out T3.out (two_zero hkN hlN hN33)).trans hz2
      obtain ⟨E2, hE2, hb2⟩ := openE_bit hL4 hL5 hz2
      obtain ⟨z3, hz3⟩ : ∃ z3, endsB g L = z3 := ⟨_, rfl⟩
      have sm3 := (SAME.out _ _ hg HBits.out burst_zero).trans hz3
      obtain ⟨E3', hE3, hb3⟩ := openE_bit hL4 hL5 hz3
      have C1 := open_v b2 L d2 (flipF F k) _ 14 _ wr (HTB.out _ (X1.out _ (E3.out _ hx))) (H2.out _ hx) c2 m2 hL6 HF2.out rfl hE1 rfl
      have C2 := Lib.hid (fun w' (e : Ext w3 w') => open_v b3 L d3 (flipF (flipF F k) l) _ E2 _ w' (HTB.out _ (X1.out _ (E3.out _ e))) (H3.out _ e) c3 m3 hL6 HF3.out rfl hE2 rfl)
      have Y3 := Lib.hid (fun w' (e : Ext wr w') => hy.ext e)
      have C3 := Lib.hid (fun w' (e : Ext w3 w') (x : Ext wr w') => open_v yb L yd g _ E3' _ w' (HTB.out _ (X1.out _ (E3.out _ e))) (hy.ext x) hyd hym hL6 hg rfl hE3 rfl)
      have D2 := Lib.hid (fun w' (e : Ext w3 w') => bytes_v b3 b1 L L d3 d1 (flipF (flipF F k) l) F z2 w' (H3.out _ e) (H1.out _ (E3.out _ e)) hL6 hL6 sm2)
      have D3 := Lib.hid (fun w' (e : Ext w3 w') (x : Ext wr w') => bytes_v yb b1 L L yd d1 g F z3 w' (hy.ext x) (H1.out _ (E3.out _ e)) hL6 hL6 sm3)
      have SU := Lib.hid (fun w' (e : Ext w3 w') => sure11_any w' (HTB.out _ (X1.out _ (E3.out _ e))))
      have XX := Lib.hid (fun w' (e : Ext w3 w') => X1.out _ (E3.out _ e))
      clear z1f hE1 hz2 sm2 hE2 hz3 sm3 hE3 hy hyd hym hg HBits H1 H2 H3 E3 HF2 HF3 T2 T3 HC1 X1 SAME ENDS hkN hlN hN33 hL4 hL5 hki hli e13 c1 m1 c2 m2 c3 m3 HTB HK HFB HT
      generalize openS (flipF F k) L = V1 at C1
      generalize openN (flipF F k) L = O1 at C1
      go_wp2_with fail
      refine C1.mono ?_; rintro e w6 ⟨b6, d6, rfl, -, -, -, e6⟩
      have y6 := hx.trans e6
      clear C1 hx
      go_wp2_with fail
      refine (C2.out _ y6).mono ?_; rintro e w7 ⟨b7, d7, rfl, -, -, -, e7⟩
      have y7 := y6.trans e7
      have q7 := e6.trans e7
      clear C2 y6 e6 e7
      go_wp2_with fail
      refine (C3.out _ y7 q7).mono ?_; rintro e w8 ⟨b8, d8, rfl, -, -, -, e8⟩
      have y8 := y7.trans e8
      have q8 := q7.trans e8
      clear C3 y7 q7 e8
      go_wp2_with fail
      refine (D2.out _ y8).mono ?_; rintro e w9 ⟨rfl, e9⟩
      have y9 := y8.trans e9
      have q9 := q8.trans e9
      clear D2 y8 q8 e9
      go_wp2_with fail
      refine (D3.out _ y9 q9).mono ?_; rintro e w10 ⟨rfl, e10⟩
      have y10 := y9.trans e10
      clear D3 y9 q9 e10
      go_wp2_with fail
      refine (SU.out _ y10).mono ?_; rintro e w11 ⟨rfl, e11⟩
      have y11 := y10.trans e11
      have XT := XX.out _ y11
      clear SU y10 e11 XX
      go_wp2
      go_ret
      exact ⟨rfl, XT⟩

theorem aduHurt.walk (s : Int) (a : Option Addr) (n c : Nat) (f : Nat → Int) (x y z : Int) (w : World) (ht : Tabs w) (hs : (Lit.int .u8 s).wf = true)
    (ha : Holds .u8 w a n f) (hc : n ≤ c) (hcm : c * 1 ≤ 140737488351232) (hf : ∀ i, i < n → (Lit.int .u8 (f i)).wf = true) (hx : (Lit.int .u16 x).wf = true) (hy : (Lit.int .u16 y).wf = true) (hz : (Lit.int .u16 z).wf = true) :
    Calls Tryd.prog 5 #[.int .u8 s, .slice a n c, .agg #[.int .u16 x, .int .u16 y, .int .u16 z]] w fun e w' => e = .returned (.bool true) ∧ Ext w w' := by
  obtain ⟨s0, s1⟩ := wf8 hs
  by_cases h : n = 0 ∨ 253 < n
  · exact aduHurt.no s a n c x y z w ht s0 s1 (by omega) h
  · have hx' := bounds_u16 hx
    have hy' := bounds_u16 hy
    have hz' := bounds_u16 hz
    obtain ⟨T, hT⟩ := Int.eq_ofNat_of_zero_le (show 0 ≤ z by omega)
    exact aduHurt.yes s a n c f x y z T w ht s0 s1 ha (fun i hi => wf8 (hf i hi)) (by omega) (by omega) (by omega) (by omega) (by omega) (by omega) (by omega) hT
end Go.Proofs.YtaaapfpcdkfleaaDoor
