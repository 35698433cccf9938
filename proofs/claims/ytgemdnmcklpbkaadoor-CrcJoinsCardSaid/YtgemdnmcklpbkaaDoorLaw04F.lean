/-
  THE LAWS OF LAYER 4: the walk of CrcJoins.
-/
import Derived.Test.YtgemdnmcklpbkaaDoorLaw04G
import Derived.Test.YtgemdnmcklpbkaaDoorAppendG
namespace Go.Proofs.YtgemdnmcklpbkaaDoor
open Go.RowKit

theorem ext2 (w : World) (o o' : Obj) : Ext w ((w.alloc o).alloc o').drew := (((Ext.alloc w o).trans (Ext.alloc _ o')).trans (Ext.drew _))
theorem Holds.at0 {k : IntKind} {w : World} {B n : Nat} {f : Nat → Int} (h : Holds k w (some ⟨B, 0, none⟩) n f) (i : Nat) (hi : i < n) : w.cell? ⟨B, i, none⟩ = some (.int k (f i)) := by
  obtain ⟨b, off, ha, hlt, hc⟩ := h.resolve_left (by omega)
  cases ha
  have := hc i hi
  rwa [Nat.zero_add] at this
theorem lst_join {α : Type} (mk : α → Value) (f g : Nat → α) (n m : Nat) : lstG mk f n ++ lstG mk g m = lstG mk (fun i => if i < n then f i else g (i - n)) (n + m) := lstG_append mk f g n m

set_option maxHeartbeats 800000 in
theorem crcJoins.great (a : Option Addr) (n c : Nat) (b : Option Addr) (m d : Nat) (p q r : Int) (w : World) (ht : Tabs w) (hn : n ≤ 140737488351232) (hm : m ≤ 140737488351232) (h : 600 < n + m) :
    Calls Tryd.prog 7 #[.agg #[.slice a n c, .slice b m d], .agg #[.int .u16 p, .int .u16 q], .int .i64 r] w fun e w' => e = .returned (.bool true) ∧ Ext w w' := by
  have k1 : (600 : Int) < n + m := by omega
  clear h
  go_enter Tryd.func7, Tryd.ntmps7
  go_wp2_with fail
  go_region
  go_wp2_with fail
  refine (sure4_any _ (ht.ext (ext2 _ _ _))).mono ?_; rintro e w8 ⟨rfl, x8⟩
  go_wp2
  go_ret
  exact ⟨rfl, (ext2 _ _ _).trans x8⟩

set_option maxRecDepth 100000 in
set_option maxHeartbeats 3200000 in
theorem crcJoins.small (a : Option Addr) (n c : Nat) (f : Nat → Int) (b : Option Addr) (m d : Nat) (g : Nat → Int) (x y : BitVec 16) (r : Int) (w : World) (ht : Tabs w) (ha : Holds .u8 w a n f) (hf : ∀ i, i < n → 0 ≤ f i ∧ f i < 256)
    (hb : Holds .u8 w b m g) (hg : ∀ i, i < m → 0 ≤ g i ∧ g i < 256) (h : n + m ≤ 600) :
    Calls Tryd.prog 7 #[.agg #[.slice a n c, .slice b m d], .agg #[.int .u16 (vI x), .int .u16 (vI y)], .int .i64 r] w fun e w' => e = .returned (.bool true) ∧ Ext w w' := by
  obtain ⟨i8, hi8, hz80, hz81, hz82⟩ := info_parts Tryd.info8p
  have k1 : (n : Int) + m ≤ 600 := by omega
  have e0 := ext2 w (.cells #[.slice a n c, .slice b m d] 41) (.cells #[.int .u16 (vI x), .int .u16 (vI y)] 42)
  have a0 := ha.ext e0
  have b0 := hb.ext e0
  have t0 := ht.ext e0
  have C0 := (Holds.lit_second (k := .u16) w [vI x, vI y] 42 #[.int .u16 (vI x), .int .u16 (vI y)] (.cells #[.slice a n c, .slice b m d] 41) rfl 2 rfl).ext (Ext.drew _)
  clear ha hb ht
  obtain ⟨v0, hv0⟩ : ∃ v0, v0 = ((w.alloc (.cells #[.slice a n c, .slice b m d] 41)).alloc (.cells #[.int .u16 (vI x), .int .u16 (vI y)] 42)).drew := ⟨_, rfl⟩
  rw [← hv0] at e0 a0 b0 t0 C0
  have HV := Lib.hid hv0
  go_enter Tryd.func7, Tryd.ntmps7
  go_wp2_with fail
  clear hv0
  go_region
  rw [← HV.out]
  go_wp2_with fail
  refine (sum_any a n c f _ t0 a0 (by omega) hf).mono ?_; rintro e w1 ⟨rfl, x1⟩
  have t1 := t0.ext x1
  have a1 := a0.ext x1
  have b1 := b0.ext x1
  have C1 := C0.ext x1
  have z1 := e0.trans x1
  clear t0 a0 b0 C0 e0 x1 HV
  go_wp2_with fail
  refine (sum_any b m d g _ t1 b1 (by omega) hg).mono ?_; rintro e w2 ⟨rfl, x2⟩
  have t2 := t1.ext x2
  have a2 := a1.ext x2
  have b2 := b1.ext x2
  have C2 := C1.ext x2
  have z2 := z1.trans x2
  clear t1 a1 b1 C1 z1 x2
  go_wp2_with fail
  refine (join_ok (sumV f n) (sumV g m) m _ t2 (by omega)).mono ?_; rintro e w3 ⟨rfl, x3⟩
  rw [joinV_sum f g n m (fun i hi => (hg i hi).1)]
  have t3 := t2.ext x3
  have a3 := a2.ext x3
  have b3 := b2.ext x3
  have C3 := C2.ext x3
  have z3 := z2.trans x3
  clear t2 a2 b2 C2 z2 x3
  go_wp2_with (first
    | (at_builtin; refine wpList_append_holds_g (by rfl) (.tmp 38) (.tmp 39) _ rfl w3.heap.size 5 i8 (.int .u8 0) 1 Tryd.underlying23 hi8 hz80 hz81 hz82 rfl _ 0 [] rfl (World.ownsRow_lit w3 #[] 0 (Nat.le_refl _) (by unfold maxLen; omega) rfl) a n c f rfl (a3.ext (Ext.alloc _ _)) (fun _ => rfl) (by unfold maxLen; omega) (by omega) (by simp) ?_; intro v4 w4 hown4 hgr4 hb4; have e34 : Ext w3 w4 := ((Below.refl _ _).alloc (Nat.le_refl _) _).trans hb4)
    | (at_builtin; refine wpList_append_holds_g (by rfl) (.tmp 40) (.tmp 41) _ rfl w3.heap.size 5 i8 (.int .u8 0) 1 Tryd.underlying23 hi8 hz80 hz81 hz82 rfl v4 (0 + n) ([] ++ lstG (.int .u8) f n) rfl hown4 b m d g rfl (b3.ext e34) (fun _ => rfl) (by unfold maxLen; omega) (by omega) e34.size ?_; intro v5 w5 hown5 hgr5 hb5))
  have e35 : Ext w3 w5 := Below.trans e34 hb5
  obtain ⟨F, hF⟩ : ∃ F : Nat → Int, F = fun i => if i < n then f i else g (i - n) := ⟨_, rfl⟩
  obtain ⟨b6, d6, rfl, _, _, h6⟩ := HoldsG.of_own (mk := Value.int .u8) (n := n + m) (f := F) (by rw [hF, ← lst_join]; simpa using hown5)
  have hFb : ∀ i, i < n + m → 0 ≤ F i ∧ F i < 256 := by
    intro i hi
    rw [hF]
    by_cases hin : i < n
    · simp only [if_pos hin]; exact hf i hin
    · simp only [if_neg hin]; exact hg (i - n) (by omega)
  rw [← hF]
  have t5 := t3.ext e35
  have C5 := C3.ext e35
  have z5 := z3.trans e35
  clear hown4 hgr4 hb4 e34 hown5 hgr5 hb5 e35 t3 a3 b3 C3 z3 hF hf hg
  obtain ⟨V, hV⟩ : ∃ V : Int, vI (sumV F (n + m)) = V := ⟨_, rfl⟩
  rw [hV]
  refine (sum_v b6 (n + m) d6 F V _ t5 h6 (by omega) hFb hV).mono ?_; rintro e w7 ⟨rfl, x7⟩
  have t7 := t5.ext x7
  have C7 := C5.ext x7
  have z7 := z5.trans x7
  clear t5 C5 z5 x7 h6 hFb hV
  have q0 : w7.cell? ⟨w.heap.size + 1, 0, none⟩ = some (.int .u16 (vI x)) := C7.at0 0 (by omega)
  have q1 : w7.cell? ⟨w.heap.size + 1, 1, none⟩ = some (.int .u16 (vI y)) := C7.at0 1 (by omega)
  by_cases hbad : r < 0 ∨ 65536 < r
  · go_wp2_with fail
    refine (join_arg (vI x) (vI y) r _ hbad).mono ?_; rintro e w' ⟨rfl, rfl⟩
    by_cases h0 : r < 0
    · clear hbad
      go_wp2_with fail
      refine (sure4_any _ t7).mono ?_; rintro e w10 ⟨rfl, x10⟩
      go_wp2
      go_ret
      exact ⟨rfl, z7.trans x10⟩
    · have h1 : 65536 < r := by omega
      clear hbad
      go_wp2_with fail
      refine (sure4_any _ t7).mono ?_; rintro e w10 ⟨rfl, x10⟩
      go_wp2
      go_ret
      exact ⟨rfl, z7.trans x10⟩
  · obtain ⟨k, rfl⟩ := Int.eq_ofNat_of_zero_le (show 0 ≤ r by omega)
    have hk : k ≤ 65536 := by omega
    clear hbad
    have g0 : ¬ (k : Int) < 0 := by omega
    have g1 : ¬ 65536 < (k : Int) := by omega
    go_wp2_with fail
    refine (join_ok x y k _ t7 hk).mono ?_; rintro e w8 ⟨rfl, x8⟩
    have t8 := t7.ext x8
    have C8 := C7.ext x8
    have z8 := z7.trans x8
    clear t7 C7 z7 x8 q0 q1
    by_cases h2 : k < 2
    · have h2' : (k : Int) < 2 := by omega
      clear h2 hk
      go_wp2_with fail
      refine (sure4_any _ t8).mono ?_; rintro e w10 ⟨rfl, x10⟩
      go_wp2
      go_ret
      exact ⟨rfl, z8.trans x10⟩
    · by_cases h3 : 2000 < k
      · have h2' : ¬ (k : Int) < 2 := by omega
        have h3' : 2000 < (k : Int) := by omega
        clear h2 h3 hk
        go_wp2_with fail
        refine (sure4_any _ t8).mono ?_; rintro e w10 ⟨rfl, x10⟩
        go_wp2
        go_ret
        exact ⟨rfl, z8.trans x10⟩
      · have h2' : ¬ (k : Int) < 2 := by omega
        have h3' : ¬ 2000 < (k : Int) := by omega
        have q0 : w8.cell? ⟨w.heap.size + 1, 0, none⟩ = some (.int .u16 (vI x)) := C8.at0 0 (by omega)
        have q1 : w8.cell? ⟨w.heap.size + 1, 1, none⟩ = some (.int .u16 (vI y)) := C8.at0 1 (by omega)
        clear h2 h3
        go_wp2_with fail
        refine (rjoin_ok x y k _ hk).mono ?_; rintro e w' ⟨rfl, rfl⟩
        go_wp2_with fail
        refine (sure4_any _ t8).mono ?_; rintro e w10 ⟨rfl, x10⟩
        go_wp2
        go_ret
        exact ⟨rfl, z8.trans x10⟩

theorem crcJoins.walk (a : Option Addr) (n c : Nat) (f : Nat → Int) (b : Option Addr) (m d : Nat) (g : Nat → Int) (p q r : Int) (w : World) (ht : Tabs w)
    (ha : Holds .u8 w a n f) (hc : n ≤ c) (hcm : c * 1 ≤ 140737488351232) (hf : ∀ i, i < n → (Lit.int .u8 (f i)).wf = true)
    (hb : Holds .u8 w b m g) (hd : m ≤ d) (hdm : d * 1 ≤ 140737488351232) (hg : ∀ i, i < m → (Lit.int .u8 (g i)).wf = true)
    (hp : (Lit.int .u16 p).wf = true) (hq : (Lit.int .u16 q).wf = true) (_hr : (Lit.int .i64 r).wf = true) :
    Calls Tryd.prog 7 #[.agg #[.slice a n c, .slice b m d], .agg #[.int .u16 p, .int .u16 q], .int .i64 r] w fun e w' => e = .returned (.bool true) ∧ Ext w w' := by
  by_cases h : 600 < n + m
  · exact crcJoins.great a n c b m d p q r w ht (by omega) (by omega) h
  · obtain ⟨x, rfl⟩ := wf16 hp
    obtain ⟨y, rfl⟩ := wf16 hq
    exact crcJoins.small a n c f b m d g x y r w ht ha (fun i hi => wf8 (hf i hi)) hb (fun i hi => wf8 (hg i hi)) (by omega)
end Go.Proofs.YtgemdnmcklpbkaaDoor
