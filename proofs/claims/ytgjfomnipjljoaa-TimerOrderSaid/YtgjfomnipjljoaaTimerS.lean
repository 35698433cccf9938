/-
  CONTRACTS: bilgeref06.Set.
-/
import Derived.Test.YtgjfomnipjljoaaTimerR
namespace Go.Proofs.Ytgjfomnipjljoaa
open Go.RowKit

theorem rset_arg (a : Option Addr) (n c : Nat) (q at_ : Int) (w : World) (h : q < 0 ∨ at_ < 0 ∨ 1099511627776 < at_) :
    Calls Try.prog 18 #[.slice a n c, .int .i64 q, .int .i64 at_] w fun e w' => e = .returned (.tuple #[.slice a n c, .int .i64 11]) ∧ w = w' := by
  rcases (show q < 0 ∨ (0 ≤ q ∧ at_ < 0) ∨ (0 ≤ q ∧ 0 ≤ at_ ∧ 1099511627776 < at_) by omega) with h1 | ⟨h1, h2⟩ | ⟨h1, h2, h3⟩
  all_goals
    clear h
    go_enter Try.func18, Try.ntmps18
    go_wp2
    go_ret2
    exact ⟨rfl, rfl⟩
theorem rset_full (a : Option Addr) (n c : Nat) (L : List (Int × Int)) (q at_ : Int) (w : World) (ha : HoldsL 2 two w a L) (hL : L.length = n) (hn : n ≤ 1000000) (h0 : 0 ≤ q) (h1 : 0 ≤ at_) (h2 : at_ ≤ 1099511627776)
    (hp : placeI L q < 0) (h256 : 256 ≤ n) :
    Calls Try.prog 18 #[.slice a n c, .int .i64 q, .int .i64 at_] w fun e w' => e = .returned (.tuple #[.slice a n c, .int .i64 17]) ∧ w = w' := by
  have k1 : (256 : Int) ≤ n := by omega
  go_enter Try.func18, Try.ntmps18
  go_wp2_with fail
  refine (rfind_any a n c L q _ ha hL hn).mono ?_; rintro e w' ⟨rfl, rfl⟩
  go_wp2
  go_ret2
  exact ⟨rfl, rfl⟩
set_option maxRecDepth 100000 in
set_option maxHeartbeats 2000000 in
theorem rset_ok (a : Option Addr) (n c : Nat) (L : List (Int × Int)) (q at_ : Int) (w : World) (ha : HoldsL 2 two w a L) (hL : L.length = n) (hn : n ≤ 100000) (h0 : 0 ≤ q) (h1 : 0 ≤ at_) (h2 : at_ ≤ 1099511627776)
    (hp : (placeI L q < 0 ∧ n < 256) ∨ 0 ≤ placeI L q) :
    Calls Try.prog 18 #[.slice a n c, .int .i64 q, .int .i64 at_] w fun e w' => ∃ x y, e = .returned (.tuple #[.slice x (insI (q, at_) (dropI L q)).length y, .int .i64 0]) ∧ (insI (q, at_) (dropI L q)).length ≤ y ∧ y ≤ maxLen ∧ HoldsL 2 two w' x (insI (q, at_) (dropI L q)) ∧ Ext w w' ∧ Fresh w x := by
  obtain ⟨i0, hi0, hz0, hz1, hz2⟩ := info_parts Try.infoTimer
  have hfind := rfind_any a n c L q w ha hL (by omega)
  have hdrop := fun w' (x : Ext w w') => rdrop_any a n c L q w' (ha.ext x) hL (by omega)
  have hdl := dropI_length L q
  obtain ⟨R, hR⟩ : ∃ R, R = dropI L q := ⟨_, rfl⟩
  rw [← hR] at hdl
  simp only [← hR] at hdrop ⊢
  obtain ⟨m, hm⟩ : ∃ m, m = R.length := ⟨_, rfl⟩
  have hm2 : m ≤ 100000 := by omega
  simp only [← hm] at hdrop
  have HM := Lib.hid hm
  generalize placeI L q = z at hp hfind
  clear ha hL hR hdl hm
  have hk : (z < 0 ∧ ¬ (256 : Int) ≤ n) ∨ 0 ≤ z := by omega
  clear hp
  rcases hk with ⟨p1, k1⟩ | p1
  all_goals
    go_enter Try.func18, Try.ntmps18
    go_wp2_with fail
    refine hfind.mono ?_; rintro e w' ⟨rfl, rfl⟩
    clear hfind
    go_wp2_with fail
    refine (hdrop _ (Ext.alloc _ _)).mono ?_; rintro e w2 ⟨rb, rc, rfl, _, _, hR2, x2, _⟩
    clear hdrop
    have t0 := x2.made 0 _ rfl
    have t1 := x2.made 1 _ rfl
    have y2 : Ext w w2 := (Ext.alloc _ _).trans x2
    obtain ⟨T, hT⟩ : ∃ T, T = w.heap.size := ⟨_, rfl⟩
    rw [← hT] at t0 t1 ⊢
    have hTlt : T < w2.heap.size := World.block_lt_of_cell? w2 _ t0
    obtain ⟨B, hB⟩ : ∃ B, B = w2.heap.size := ⟨_, rfl⟩
    have HB := Lib.hid hB
    clear x2 hT hB
    go_wp2_with fail
    go_loopw [9, 10, 12] (fun v dn i wr => ∃ (k j : Nat) (O : List (Int × Int)) (D : Bool), k ≤ m ∧ i = .int .i64 k ∧ dn = .bool D ∧ j = O.length ∧ InsAt (q, at_) R k O D ∧ wr.ownsRow B 35 2 v j (O.flatMap two) ∧ Below B w2 wr) (fun _ _ i _ => m - (intOf i).toNat)
    case atStart => exact ⟨0, 0, [], false, Nat.zero_le _, rfl, rfl, rfl, InsAt.start _ _, World.ownsRow_nil _ _ _ _, by rw [HB.out]; exact Below.refl _ _⟩
    case round =>
      obtain ⟨k, j, O, D, hk, rfl, rfl, hj, hins, hown, hbl⟩ := hrel
      have hjk := hins.length
      have hj2 : j ≤ 100001 := by omega
      have HJ := Lib.hid hj
      have HI := Lib.hid hins
      have hBs : B ≤ wr.heap.size := by have := hbl.size; rw [HB.out]; exact this
      by_cases hlt : k < m
      · have hkR : k < R.length := by rw [← HM.out]; exact hlt
        have hlt' : (k : Int) < m := by omega
        obtain ⟨p, o, rfl, hpl, _⟩ := hR2.resolve_left (by intro e; subst e; simp at hkR)
        obtain ⟨c0, c1⟩ := hR2.two_at k hkR
        have hpB : p < B := by rw [HB.out]; exact hpl
        have hTB : T < B := by rw [HB.out]; exact hTlt
        have d0 := (hbl.cell (p := ⟨p, o + k * 2, none⟩) hpB).trans c0
        have d1 := (hbl.cell (p := ⟨p, o + k * 2 + 1, none⟩) hpB).trans c1
        have s0 := (hbl.cell (p := ⟨T, 0, none⟩) hTB).trans t0
        have s1 := (hbl.cell (p := ⟨T, 1, none⟩) hTB).trans t1
        obtain ⟨y, hy⟩ : ∃ y, y = R[k] := ⟨_, rfl⟩
        rw [← hy] at d0 d1
        have HY := Lib.hid hy
        obtain ⟨y0, y1⟩ := y
        simp only at d0 d1
        clear hj hins c0 c1 t0 t1 hR2 hy hjk
        cases D
        · have L0 := Later.cell d0
          have L1 := Later.cell d1
          have M0 := Later.cell s0
          have M1 := Later.cell s1
          go_wp2_with fail
          refine wp_region_later (by kernel_rfl) (by kernel_rfl) ?_
          repeat (go_big_quiet_step (first | (go_at_call 30; exact later_of (rbefore_any q at_ y0 y1 _))))
          refine wpQuiet_nil ?_
          intro _ hw'
          obtain ⟨x, rfl⟩ := hw'
          have x9 := x.ext
          generalize x.at = w9 at x9 ⊢
          have e0 := x9.cell (World.block_lt_of_cell? wr _ d0) d0
          have e1 := x9.cell (World.block_lt_of_cell? wr _ d1) d1
          have g0 := x9.cell (World.block_lt_of_cell? wr _ s0) s0
          have g1 := x9.cell (World.block_lt_of_cell? wr _ s1) s1
          have hown9 := own_ext hown x9
          have hb9 : Below B w2 w9 := hbl.trans (x9.mono hBs)
          have hBs9 : B ≤ w9.heap.size := Nat.le_trans hBs x9.size
          clear d0 d1 s0 s1 L0 L1 M0 M1 hown hbl hBs x9 x wr
          cases hbf : beforeB (q, at_) (y0, y1)
          · have HF := Lib.hid hbf
            clear hbf
            go_wp2_with (at_builtin; refine wpList_append_el rfl (.tmp 60) (.tmp 65) _ rfl B 35 i0 _ 16 Try.underlying26 hi0 hz0 hz1 hz2 rfl (by omega) _ j _ rfl (own_ext hown9 (Ext.alloc _ _)) _ _ _ _ (y0, y1) rfl (heap_alloc_new _ _) rfl rfl (by simp [two, Value.oneCell']) (by unfold maxLen; omega) (by omega) (by simp; omega) ?_; intro v2 w3 hown3 hb3)
            have hb4 : Below B w2 w3 := (hb9.alloc hBs9 _).trans hb3
            clear hown9 hb3 hb9
            go_wp2
            go_roundw
            case rel => exact ⟨k + 1, j + 1, O ++ [(y0, y1)], false, by omega, by go_num, rfl, by rw [List.length_append, ← HJ.out]; rfl, by rw [HY.out] at HF ⊢; exact HI.out.skip hkR HF.out, hown3, hb4⟩
            case measure => simp [intOf]; omega
          · have HF := Lib.hid hbf
            clear hbf
            go_wp2_with (first
              | (at_builtin; refine wpList_append_el rfl (.tmp 56) (.tmp 58) _ rfl B 35 i0 _ 16 Try.underlying26 hi0 hz0 hz1 hz2 rfl (by omega) _ j _ rfl (own_ext hown9 (Ext.alloc _ _)) _ _ _ _ (q, at_) rfl (heap_alloc_new _ _) rfl rfl (by simp [two, Value.oneCell']) (by unfold maxLen; omega) (by omega) (by simp; omega) ?_; intro v2 w3 hown3 hb3; have hb4 : Below B w2 w3 := (hb9.alloc hBs9 _).trans hb3; have hBs3 : B ≤ w3.heap.size := (by have := hb4.size; rw [HB.out]; exact this); have f0 := (((Below.refl B w9).alloc hBs9 _).trans hb3 |>.cell (p := ⟨p, o + k * 2, none⟩) hpB).trans e0; have f1 := (((Below.refl B w9).alloc hBs9 _).trans hb3 |>.cell (p := ⟨p, o + k * 2 + 1, none⟩) hpB).trans e1)
              | (at_builtin; refine wpList_append_el rfl (.tmp 60) (.tmp 65) _ rfl B 35 i0 _ 16 Try.underlying26 hi0 hz0 hz1 hz2 rfl (by omega) v2 (j + 1) _ rfl (own_ext hown3 (Ext.alloc _ _)) _ _ _ _ (y0, y1) rfl (heap_alloc_new _ _) rfl rfl (by simp [two, Value.oneCell']) (by unfold maxLen; omega) (by omega) (by simp; omega) ?_; intro v4 w5 hown5 hb5))
            have hb6 : Below B w2 w5 := (hb4.alloc hBs3 _).trans hb5
            clear hown9 hb3 hb9 hown3 hb4 hb5
            go_wp2
            go_roundw
            case rel => exact ⟨k + 1, j + 1 + 1, O ++ [(q, at_)] ++ [(y0, y1)], true, by omega, by go_num, rfl, by rw [List.length_append, List.length_append, ← HJ.out]; rfl, by rw [HY.out] at HF ⊢; exact HI.out.found hkR HF.out, hown5, hb6⟩
            case measure => simp [intOf]; omega
        · go_wp2_with fail
          refine wp_region_later (by kernel_rfl) (by kernel_rfl) ?_
          repeat (go_big_quiet_step (fail))
          refine wpQuiet_nil ?_
          intro _ hw'
          obtain ⟨x, rfl⟩ := hw'
          have x9 := x.ext
          generalize x.at = w9 at x9 ⊢
          have e0 := x9.cell (World.block_lt_of_cell? wr _ d0) d0
          have e1 := x9.cell (World.block_lt_of_cell? wr _ d1) d1
          have hown9 := own_ext hown x9
          have hb9 : Below B w2 w9 := hbl.trans (x9.mono hBs)
          have hBs9 : B ≤ w9.heap.size := Nat.le_trans hBs x9.size
          clear d0 d1 s0 s1 hown hbl hBs x9 x wr
          go_wp2_with (at_builtin; refine wpList_append_el rfl (.tmp 60) (.tmp 65) _ rfl B 35 i0 _ 16 Try.underlying26 hi0 hz0 hz1 hz2 rfl (by omega) _ j _ rfl (own_ext hown9 (Ext.alloc _ _)) _ _ _ _ (y0, y1) rfl (heap_alloc_new _ _) rfl rfl (by simp [two, Value.oneCell']) (by unfold maxLen; omega) (by omega) (by simp; omega) ?_; intro v2 w3 hown3 hb3)
          have hb4 : Below B w2 w3 := (hb9.alloc hBs9 _).trans hb3
          clear hown9 hb3 hb9
          go_wp2
          go_roundw
          case rel => exact ⟨k + 1, j + 1, O ++ [(y0, y1)], true, by omega, by go_num, rfl, by rw [List.length_append, ← HJ.out]; rfl, by rw [HY.out]; exact HI.out.more hkR, hown3, hb4⟩
          case measure => simp [intOf]; omega
      · obtain rfl : k = m := by omega
        have hTB : T < B := by rw [HB.out]; exact hTlt
        have s0 := (hbl.cell (p := ⟨T, 0, none⟩) hTB).trans t0
        have s1 := (hbl.cell (p := ⟨T, 1, none⟩) hTB).trans t1
        have y9 : Ext w wr := y2.trans (by rw [Ext, ← HB.out]; exact hbl)
        have hend := hins
        rw [HM.out] at hend
        have HE := Lib.hid hend
        clear hj hins t0 t1 hR2 hjk hend
        cases D
        · go_wp2_with (at_builtin; refine wpList_append_el rfl (.tmp 69) (.tmp 71) _ rfl B 35 i0 _ 16 Try.underlying26 hi0 hz0 hz1 hz2 rfl (by omega) _ j _ rfl (own_ext hown (Ext.alloc _ _)) _ _ _ _ (q, at_) rfl (heap_alloc_new _ _) rfl rfl (by simp [two, Value.oneCell']) (by unfold maxLen; omega) (by omega) (by simp; omega) ?_; intro v2 w3 hown3 hb3)
          have hres := HE.out.end_no
          rw [hres] at hown3
          have hlen : j + 1 = (insI (q, at_) R).length := by rw [← hres, List.length_append, ← HJ.out]; rfl
          obtain ⟨x, yc, rfl, l9, m9, h9, n9⟩ := HoldsL.of_own two_length hown3 hlen
          have hwB : w.heap.size ≤ B := by rw [HB.out]; exact y2.size
          have yw : Ext w w3 := (Below.alloc y9 y9.size _).trans (hb3.mono hwB)
          clear hown hown3 hb3
          go_wp2
          go_ret2
          exact ⟨x, yc, by rw [← hlen]; rfl, by rw [← hlen]; exact l9, m9, h9, yw, fun p hp => by have h1 := y2.size; have h2 := HB.out; have h3 := n9 p hp; omega⟩
        · have hres := HE.out.end_yes
          rw [hres] at hown
          have hlen : j = (insI (q, at_) R).length := by rw [HJ.out, hres]
          obtain ⟨x, yc, hv, l9, m9, h9, n9⟩ := HoldsL.of_own two_length hown hlen
          subst hv
          clear hown
          go_wp2
          go_ret2
          exact ⟨x, yc, by rw [← hlen]; rfl, by rw [← hlen]; exact l9, m9, h9, y9, fun p hp => by have h1 := y2.size; have h2 := HB.out; have h3 := n9 p hp; omega⟩

/-- What becomes of it, and the error. -/
def setI (L : List (Int × Int)) (q t : Int) : List (Int × Int) × Int :=
  if q < 0 ∨ t < 0 ∨ 1099511627776 < t then (L, 11) else if placeI L q < 0 ∧ 256 ≤ L.length then (L, 17) else (insI (q, t) (dropI L q), 0)
theorem rset_any (a : Option Addr) (n c : Nat) (L : List (Int × Int)) (q t : Int) (w : World) (ha : HoldsL 2 two w a L) (hL : L.length = n) (hn : n ≤ 100000) (hc : n ≤ c) (hcm : c ≤ maxLen) :
    Calls Try.prog 18 #[.slice a n c, .int .i64 q, .int .i64 t] w fun e w' => ∃ x y, e = .returned (.tuple #[.slice x (setI L q t).1.length y, .int .i64 (setI L q t).2]) ∧ (setI L q t).1.length ≤ y ∧ y ≤ maxLen ∧ HoldsL 2 two w' x (setI L q t).1 ∧ Ext w w' ∧ ((x = a ∧ (setI L q t).1 = L) ∨ Fresh w x) := by
  unfold setI
  by_cases h1 : q < 0 ∨ t < 0 ∨ 1099511627776 < t
  · rw [if_pos h1]
    exact (rset_arg a n c q t w h1).mono fun e w' ⟨he, hw⟩ => ⟨a, c, by rw [he]; simp only [hL], by simpa [hL] using hc, hcm, hw ▸ ha, Ext.of_eq hw, .inl ⟨rfl, rfl⟩⟩
  · rw [if_neg h1]
    by_cases h2 : placeI L q < 0 ∧ 256 ≤ L.length
    · rw [if_pos h2]
      exact (rset_full a n c L q t w ha hL (by omega) (by omega) (by omega) (by omega) h2.1 (by omega)).mono fun e w' ⟨he, hw⟩ => ⟨a, c, by rw [he]; simp only [hL], by simpa [hL] using hc, hcm, hw ▸ ha, Ext.of_eq hw, .inl ⟨rfl, rfl⟩⟩
    · rw [if_neg h2]
      exact (rset_ok a n c L q t w ha hL hn (by omega) (by omega) (by omega) (by omega)).mono fun e w' ⟨x, y, h1, h2, h3, h4, h5, h6⟩ => ⟨x, y, h1, h2, h3, h4, h5, .inr h6⟩
end Go.Proofs.Ytgjfomnipjljoaa
