/-
  CONTRACTS of package split: the looks at a segment, check, Fault, Errs, Same (bytes.Equal), mayBe, Right.
-/
import Derived.Test.YtebhalehgpigoaaSplitR
import Derived.Test.YtebhalehgpigoaaClock
import Derived.Test.YtebhalehgpigoaaStructs
import Derived.Shelf.Bytes.SlEqualAll
namespace Go.Proofs.Ytebhalehgpigoaa
open Go.RowKit
set_option linter.unusedVariables false

/-! ### bytes.Equal -/
/-- The first n of f, as numbers. -/
def lsI (f : Nat → Int) (n : Nat) : List Int := (List.range n).map f
theorem lsI_length (f : Nat → Int) (n : Nat) : (lsI f n).length = n := by simp [lsI]
theorem lsI_get (f : Nat → Int) (n i : Nat) (h : i < n) : (lsI f n).getD i 0 = f i := by simp [lsI, h]
theorem u8_inj {x y : Int} (hx : 0 ≤ x ∧ x < 256) (hy : 0 ≤ y ∧ y < 256) (h : UInt8.ofNat x.toNat = UInt8.ofNat y.toNat) : x = y := by
  have h1 := congrArg UInt8.toNat h
  rw [UInt8.toNat_ofNat', UInt8.toNat_ofNat'] at h1
  omega
theorem nums_same : ∀ {xs ys : List Int}, (∀ x ∈ xs, 0 ≤ x ∧ x < 256) → (∀ y ∈ ys, 0 ≤ y ∧ y < 256) → (xs.map fun n => UInt8.ofNat n.toNat) = (ys.map fun n => UInt8.ofNat n.toNat) → xs = ys
  | [], [], _, _, _ => rfl
  | [], _ :: _, _, _, h => by simp at h
  | _ :: _, [], _, _, h => by simp at h
  | x :: xs, y :: ys, hx, hy, h => by
    simp only [List.map_cons, List.cons.injEq] at h
    rw [u8_inj (hx x (by simp)) (hy y (by simp)) h.1, nums_same (fun z hz => hx z (by simp [hz])) (fun z hz => hy z (by simp [hz])) h.2]
theorem str_eq (f g : Nat → Int) (n m : Nat) (hf : ∀ i, i < n → 0 ≤ f i ∧ f i < 256) (hg : ∀ i, i < m → 0 ≤ g i ∧ g i < 256) :
    ((strOfNums (lsI f n)).toList == (strOfNums (lsI g m)).toList) = eqB n m f g := by
  rw [Lib.strOfNums_toList, Lib.strOfNums_toList]
  have bf : ∀ x ∈ lsI f n, 0 ≤ x ∧ x < 256 := fun x hx => by
    simp only [lsI, List.mem_map, List.mem_range] at hx
    obtain ⟨i, hi, rfl⟩ := hx; exact hf i hi
  have bg : ∀ x ∈ lsI g m, 0 ≤ x ∧ x < 256 := fun x hx => by
    simp only [lsI, List.mem_map, List.mem_range] at hx
    obtain ⟨i, hi, rfl⟩ := hx; exact hg i hi
  rw [Bool.eq_iff_iff, beq_iff_eq, eqB_iff]
  constructor
  · intro h
    have e := nums_same bf bg h
    have hl : n = m := by rw [← lsI_length f n, ← lsI_length g m, e]
    subst hl
    exact ⟨rfl, fun i hi => by rw [← lsI_get f n i hi, ← lsI_get g n i hi, e]⟩
  · rintro ⟨rfl, h⟩
    have : lsI f n = lsI g n := List.map_congr_left fun i hi => h i (List.mem_range.1 hi)
    rw [this]
theorem bytes_in {w : World} {a : Option Addr} {n : Nat} {f : Nat → Int} (h : Holds .u8 w a n f) : Lib.BytesIn w a n (lsI f n) := fun hn => by
  obtain ⟨b, off, ha, hlt, hc⟩ := h.resolve_left (by omega)
  exact ⟨b, off, ha, fun i hi => by rw [lsI_get _ _ _ hi]; exact hc i hi⟩
/-! ### Looks at a segment -/
/-- The faults, one by one. -/
def wrongAt (s : Seg) (k : Nat) : Bool := if k = 1 then decide (256 < s.count) else if k = 2 then s.bad else if k = 3 then s.gap else if k = 4 then decide (s.n < 4) else !endsB s.f s.n
theorem faultI_first {s : Seg} {k : Nat} (h1 : 1 ≤ k) (h5 : k ≤ 5) (hno : ∀ j, 1 ≤ j → j < k → wrongAt s j = false) (hk : wrongAt s k = true) : faultI s = k := by
  have a := hno 1; have b := hno 2; have c := hno 3; have d := hno 4
  unfold faultI
  rcases (show k = 1 ∨ k = 2 ∨ k = 3 ∨ k = 4 ∨ k = 5 by omega) with rfl | rfl | rfl | rfl | rfl <;> simp [wrongAt] at a b c d hk ⊢ <;> (repeat' split) <;> (first | rfl | omega | (simp_all; done) | (simp_all; omega))
theorem faultI_none {s : Seg} (hno : ∀ j, 1 ≤ j → j < 6 → wrongAt s j = false) : faultI s = 0 := by
  have a := hno 1; have b := hno 2; have c := hno 3; have d := hno 4; have e := hno 5
  unfold faultI
  simp [wrongAt] at a b c d e ⊢
  (repeat' split) <;> (first | rfl | omega | (simp_all; done) | (simp_all; omega))
theorem no_next {p : Nat → Bool} {k : Nat} (h : ∀ j, 1 ≤ j → j < k → p j = false) (hk : p k = false) : ∀ j, 1 ≤ j → j < k + 1 → p j = false := fun j h1 h2 => by
  by_cases e : j = k
  · subst e; exact hk
  · exact h j h1 (by omega)
/-! ### Right -/
theorem may_any (z : Int) (w : World) : Calls Try.prog 35 #[.int .i64 z] w fun e w' => e = .returned (.bool (decide (0 ≤ z ∧ z ≤ 1099511627776))) ∧ w = w' := by
  by_cases h : 0 ≤ z ∧ z ≤ 1099511627776
  · rw [decide_eq_true h]
    have hc := kclamp_in z w
    rw [clampI_in h.1 h.2] at hc
    go_enter Try.func35, Try.ntmps35
    go_wp2_with fail
    refine hc.mono ?_; rintro e w' ⟨rfl, rfl⟩
    go_wp2
    go_ret
    exact ⟨ret_b (by simp), rfl⟩
  · rw [decide_eq_false h]
    obtain ⟨Z, hZ⟩ : ∃ Z, clampI z = Z := ⟨_, rfl⟩
    have hne : (Z == z) = false := by
      have := clampI_lo z; have := clampI_hi z
      rw [hZ] at *
      simp; omega
    have hc := kclamp_in z w
    rw [hZ] at hc
    clear hZ h
    go_enter Try.func35, Try.ntmps35
    go_wp2_with fail
    refine hc.mono ?_; rintro e w' ⟨rfl, rfl⟩
    go_wp2
    go_ret
    exact ⟨ret_b (by first | exact hne | (simp; done)), rfl⟩
set_option maxHeartbeats 4000000 in
theorem sright0 (a : Option Addr) (n c : Nat) (L : List (Int × Int × Bool)) (f : Int) (w : World) (ha : HoldsL 3 byt w a L) (hL : L.length = n) (hn : n ≤ 1000000) :
    Calls Try.prog 26 #[.slice a n c, .int .i64 f] w fun e w' => e = .returned (.bool (rightI L f)) ∧ Ext w w' := by
  by_cases hf : 0 ≤ f ∧ f ≤ 1099511627776
  · have e : rightI L f = risingI f L := by unfold rightI; rw [decide_eq_true hf]; rfl
    rw [e]
    have hm := may_any f w
    rw [decide_eq_true hf] at hm
    obtain ⟨B, hB⟩ : ∃ B, B = risingI f L := ⟨_, rfl⟩
    rw [← hB]
    have HB := Lib.hid hB
    have HL := Lib.hid hL
    have HA := Lib.hid ha
    have H0 := Lib.hid hf.1
    clear e hB hL ha hf
    go_enter Try.func26, Try.ntmps26
    go_wp2_with fail
    refine hm.mono ?_; rintro e w1 ⟨rfl, rfl⟩
    clear hm
    go_wp2_with fail
    go_loopw [5, 14] (fun fv iv wr => ∃ (k : Nat) (g : Int), k ≤ n ∧ iv = .int .i64 k ∧ fv = .int .i64 g ∧ Ext w wr ∧ Hid (0 ≤ g) ∧ B = risingI g (L.drop k)) (fun _ iv _ => n - (intOf iv).toNat)
    case atStart => exact ⟨0, f, Nat.zero_le _, rfl, rfl, Ext.refl _, H0, by rw [HB.out]; rfl⟩
    case round =>
      obtain ⟨k, g, hk, rfl, rfl, xr, hg0, hr⟩ := hrel
      have HR := Lib.hid hr
      clear hr
      by_cases hlt : k < n
      · have hkL : k < L.length := by rw [HL.out]; exact hlt
        obtain ⟨p, o, rfl, hp, _⟩ := HA.out.resolve_left (by intro e; rw [e] at hkL; simp at hkL)
        obtain ⟨c0, c1, c2⟩ := HA.out.byt_at k hkL
        have hlt' : (k : Int) < n := by omega
        have hd : L.drop k = L[k] :: L.drop (k + 1) := List.drop_eq_getElem_cons hkL
        obtain ⟨⟨X, Y, Z⟩, hx⟩ : ∃ x, x = L[k] := ⟨_, rfl⟩
        rw [← hx] at c0 c1 c2 hd
        simp only at c0 c1 c2
        have c0 := xr.cell hp c0; have c1 := xr.cell hp c1; have c2 := xr.cell hp c2
        have HD := Lib.hid hd
        have hm := fun w => may_any X w
        clear hd hx hkL
        by_cases hX : 0 ≤ X ∧ X ≤ 1099511627776
        · rw [decide_eq_true hX] at hm
          by_cases h1 : X < g
          · have hb : B = false := by rw [HR.out, HD.out]; exact risingI_no (.inl h1)
            have Hb := Lib.hid hb
            clear hb
            go_wp2_with fail
            refine (hm _).mono ?_; rintro e w2 ⟨rfl, rfl⟩
            go_wp2
            go_ret
            exact ⟨by rw [Hb.out]; rfl, xr.alloc' _⟩
          · have hb : B = risingI X (L.drop (k + 1)) := by rw [HR.out, HD.out]; exact risingI_yes h1 (by first | omega | (simp only; omega))
            have Hb := Lib.hid hb
            clear hb
            go_wp2_with fail
            refine (hm _).mono ?_; rintro e w2 ⟨rfl, rfl⟩
            go_wp2
            go_roundw
            case rel => exact ⟨k + 1, X, by omega, by go_num, rfl, xr.alloc' _, Lib.hid hX.1, Hb.out⟩
            case measure => simp [intOf]; omega
        · rw [decide_eq_false hX] at hm
          have hb : B = false := by
            rw [HR.out, HD.out]
            have := hg0.out
            exact risingI_no (by first | omega | (simp only; omega))
          have Hb := Lib.hid hb
          clear hb
          go_wp2_with fail
          refine (hm _).mono ?_; rintro e w2 ⟨rfl, rfl⟩
          go_wp2
          go_ret
          exact ⟨by rw [Hb.out]; rfl, xr.alloc' _⟩
      · have hb : B = true := by rw [HR.out, List.drop_of_length_le (by rw [HL.out]; omega)]; rfl
        have Hb := Lib.hid hb
        clear hb
        go_wp2
        go_ret
        exact ⟨by rw [Hb.out]; rfl, xr⟩
  · have e : rightI L f = false := by unfold rightI; rw [decide_eq_false hf]; rfl
    rw [e]
    have hm := may_any f w
    rw [decide_eq_false hf] at hm
    clear e hf ha hL
    go_enter Try.func26, Try.ntmps26
    go_wp2_with fail
    refine hm.mono ?_; rintro e w1 ⟨rfl, rfl⟩
    go_wp2
    go_ret
    exact ⟨rfl, Ext.refl _⟩
end Go.Proofs.Ytebhalehgpigoaa
