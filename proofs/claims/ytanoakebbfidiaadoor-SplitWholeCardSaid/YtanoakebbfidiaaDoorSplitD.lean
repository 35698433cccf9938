/-
  CONTRACTS of package split: the looks at a segment, check, Fault, Errs, Same (bytes.Equal), mayBe, Right.
-/
import Derived.Test.YtanoakebbfidiaaDoorSplitR
import Derived.Test.YtanoakebbfidiaaDoorClockA
import Derived.Test.YtanoakebbfidiaaDoorStructs
import Derived.Shelf.Bytes.SlEqualAll
namespace Go.Proofs.YtanoakebbfidiaaDoor
open Go.RowKit
set_option linter.unusedVariables false

/-! ### bytes.Equal -/
/-- The first n of f, as numbers. -/
def lsI (f : Nat → Int) (n : Nat) : List Int := (List.range n).map f
theorem lsI_length (f : Nat → Int) (n : Nat) : (lsI f n).length = n := by simp [lsI]
theorem lsI_get (f : Nat → Int) (n i : Nat) (h : i < n) : (lsI f n).getD i 0 = f i := by simp [lsI, h]
theorem u8_inj {x y : Int} (hx : 0 ≤ x ∧ x < 256) (hy : 0 ≤ y ∧ y < 256) (h : UInt8.ofNat x.toNat = UInt8.ofNat y.toNat) : x = y := by
  have h1 := congrArg UInt8.toNat h
  rw [UInt8.toNat_ofNat', UInt8.toNat_ofNat'] at h1
  omega
theorem nums_same : ∀ {xs ys : List Int}, (∀ x ∈ xs, 0 ≤ x ∧ x < 256) → (∀ y ∈ ys, 0 ≤ y ∧ y < 256) → (xs.map fun n => UInt8.ofNat n.toNat) = (ys.map fun n => UInt8.ofNat n.toNat) → xs = ys
  | [], [], _, _, _ => rfl
  | [], _ :: _, _, _, h => by simp at h
  | _ :: _, [], _, _, h => by simp at h
  | x :: xs, y :: ys, hx, hy, h => by
    simp only [List.map_cons, List.cons.injEq] at h
    rw [u8_inj (hx x (by simp)) (hy y (by simp)) h.1, nums_same (fun z hz => hx z (by simp [hz])) (fun z hz => hy z (by simp [hz])) h.2]
theorem str_eq (f g : Nat → Int) (n m : Nat) (hf : ∀ i, i < n → 0 ≤ f i ∧ f i < 256) (hg : ∀ i, i < m → 0 ≤ g i ∧ g i < 256) :
    ((strOfNums (lsI f n)).toList == (strOfNums (lsI g m)).toList) = eqB n m f g := by
  rw [Lib.strOfNums_toList, Lib.strOfNums_toList]
  have bf : ∀ x ∈ lsI f n, 0 ≤ x ∧ x < 256 := fun x hx => by
    simp only [lsI, List.mem_map, List.mem_range] at hx
    obtain ⟨i, hi, rfl⟩ := hx; exact hf i hi
  have bg : ∀ x ∈ lsI g m, 0 ≤ x ∧ x < 256 := fun x hx => by
    simp only [lsI, List.mem_map, List.mem_range] at hx
    obtain ⟨i, hi, rfl⟩ := hx; exact hg i hi
  rw [Bool.eq_iff_iff, beq_iff_eq, eqB_iff]
  constructor
  · intro h
    have e := nums_same bf bg h
    have hl : n = m := by rw [← lsI_length f n, ← lsI_length g m, e]
    subst hl
    exact ⟨rfl, fun i hi => by rw [← lsI_get f n i hi, ← lsI_get g n i hi, e]⟩
  · rintro ⟨rfl, h⟩
    have : lsI f n = lsI g n := List.map_congr_left fun i hi => h i (List.mem_range.1 hi)
    rw [this]
theorem bytes_in {w : World} {a : Option Addr} {n : Nat} {f : Nat → Int} (h : Holds .u8 w a n f) : Lib.BytesIn w a n (lsI f n) := fun hn => by
  obtain ⟨b, off, ha, hlt, hc⟩ := h.resolve_left (by omega)
  exact ⟨b, off, ha, fun i hi => by rw [lsI_get _ _ _ hi]; exact hc i hi⟩
set_option maxHeartbeats 1000000 in
theorem equal_any (a b : Option Addr) (n m c d : Nat) (f g : Nat → Int) (w : World) (ha : Holds .u8 w a n f) (hb : Holds .u8 w b m g) (hf : ∀ i, i < n → 0 ≤ f i ∧ f i < 256) (hg : ∀ i, i < m → 0 ≤ g i ∧ g i < 256) :
    Calls Tryd.prog 32 #[.slice a n c, .slice b m d] w fun e w' => e = .returned (.bool (eqB n m f g)) ∧ w = w' := by
  have c1 := (bytes_in ha).convert (P := Tryd.prog) (lsI_length _ _) c 31 5 9 Tryd.underlying31 Tryd.underlying5 Tryd.underlying9
  have c2 := (bytes_in hb).convert (P := Tryd.prog) (lsI_length _ _) d 31 5 9 Tryd.underlying31 Tryd.underlying5 Tryd.underlying9
  rw [← str_eq f g n m hf hg]
  generalize strOfNums (lsI f n) = X at c1 ⊢
  generalize strOfNums (lsI g m) = Y at c2 ⊢
  clear ha hb hf hg
  go_enter Tryd.func32, Tryd.ntmps32
  go_wp2
  go_ret
  exact ⟨rfl, rfl⟩

/-! ### Looks at a segment -/
theorem over_any (A : Option Addr) (c : Nat) (s : Seg) (w : World) :
    Calls Tryd.prog 28 #[.agg (segC A c s)] w fun e w' => e = .returned (.bool (decide (256 < s.count))) ∧ Ext w w' := by
  obtain ⟨n, f, t0, t1, k, g, b⟩ := s
  unfold segC
  simp only
  go_enter Tryd.func28, Tryd.ntmps28
  go_wp2
  go_ret
  exact ⟨rfl, Ext.alloc _ _⟩
theorem spoilt_any (A : Option Addr) (c : Nat) (s : Seg) (w : World) :
    Calls Tryd.prog 29 #[.agg (segC A c s)] w fun e w' => e = .returned (.bool s.bad) ∧ Ext w w' := by
  obtain ⟨n, f, t0, t1, k, g, b⟩ := s
  unfold segC
  simp only
  go_enter Tryd.func29, Tryd.ntmps29
  go_wp2
  go_ret
  exact ⟨rfl, Ext.alloc _ _⟩
theorem torn_any (A : Option Addr) (c : Nat) (s : Seg) (w : World) :
    Calls Tryd.prog 39 #[.agg (segC A c s)] w fun e w' => e = .returned (.bool s.gap) ∧ Ext w w' := by
  obtain ⟨n, f, t0, t1, k, g, b⟩ := s
  unfold segC
  simp only
  go_enter Tryd.func39, Tryd.ntmps39
  go_wp2
  go_ret
  exact ⟨rfl, Ext.alloc _ _⟩
theorem short_any (A : Option Addr) (c : Nat) (s : Seg) (w : World) :
    Calls Tryd.prog 30 #[.agg (segC A c s)] w fun e w' => e = .returned (.bool (decide (s.n < 4))) ∧ Ext w w' := by
  obtain ⟨n, f, t0, t1, k, g, b⟩ := s
  unfold segC
  simp only
  have e : decide ((n : Int) < 4) = decide (n < 4) := by congr 1; exact propext (by omega)
  have E := Lib.hid e
  clear e
  go_enter Tryd.func30, Tryd.ntmps30
  go_wp2
  go_ret
  exact ⟨ret_b (by first | rfl | exact E.out | (simp; done)), Ext.alloc _ _⟩
theorem unsummed_any (A : Option Addr) (c : Nat) (s : Seg) (w : World) (ht : Tabs w) (ha : Holds .u8 w A s.n s.f) (hc : s.n ≤ c) (hcm : c ≤ maxLen) (hn : s.n ≤ 1000000) (hb : SegB s) :
    Calls Tryd.prog 31 #[.agg (segC A c s)] w fun e w' => e = .returned (.bool (!endsB s.f s.n)) ∧ Ext w w' := by
  obtain ⟨n, f, t0, t1, k, g, b⟩ := s
  unfold segC
  simp only at ha hc hn hb ⊢
  obtain ⟨v, hv⟩ : ∃ v, endsB f n = v := ⟨_, rfl⟩
  have hch := check_v A n c f v (w.alloc (.cells #[.slice A n c, .int .i64 t0, .int .i64 t1, .int .i64 k, .bool g, .bool b] 51)) (ht.ext (Ext.alloc _ _)) (ha.ext (Ext.alloc _ _)) hc hcm hn hb hv
  rw [hv]
  clear ht ha hc hcm hn hb hv
  go_enter Tryd.func31, Tryd.ntmps31
  go_wp2_with fail
  refine hch.mono ?_; rintro e w1 ⟨rfl, x1⟩
  go_wp2
  go_ret
  exact ⟨rfl, (Ext.alloc _ _).trans x1⟩
theorem chk1 (w : World) : Calls Tryd.prog 26 #[.int .i64 1] w fun e w' => e = .returned (.func (Fn.func 28) #[] #[]) ∧ w = w' := by
  go_enter Tryd.func26, Tryd.ntmps26
  go_wp2
  go_ret
  exact ⟨rfl, rfl⟩
theorem chk2 (w : World) : Calls Tryd.prog 26 #[.int .i64 2] w fun e w' => e = .returned (.func (Fn.func 29) #[] #[]) ∧ w = w' := by
  go_enter Tryd.func26, Tryd.ntmps26
  go_wp2
  go_ret
  exact ⟨rfl, rfl⟩
theorem chk3 (w : World) : Calls Tryd.prog 26 #[.int .i64 3] w fun e w' => e = .returned (.func (Fn.func 39) #[] #[]) ∧ w = w' := by
  go_enter Tryd.func26, Tryd.ntmps26
  go_wp2
  go_ret
  exact ⟨rfl, rfl⟩
theorem chk4 (w : World) : Calls Tryd.prog 26 #[.int .i64 4] w fun e w' => e = .returned (.func (Fn.func 30) #[] #[]) ∧ w = w' := by
  go_enter Tryd.func26, Tryd.ntmps26
  go_wp2
  go_ret
  exact ⟨rfl, rfl⟩
theorem chk5 (w : World) : Calls Tryd.prog 26 #[.int .i64 5] w fun e w' => e = .returned (.func (Fn.func 31) #[] #[]) ∧ w = w' := by
  go_enter Tryd.func26, Tryd.ntmps26
  go_wp2
  go_ret
  exact ⟨rfl, rfl⟩
/-- The faults, one by one. -/
def wrongAt (s : Seg) (k : Nat) : Bool := if k = 1 then decide (256 < s.count) else if k = 2 then s.bad else if k = 3 then s.gap else if k = 4 then decide (s.n < 4) else !endsB s.f s.n
theorem faultI_first {s : Seg} {k : Nat} (h1 : 1 ≤ k) (h5 : k ≤ 5) (hno : ∀ j, 1 ≤ j → j < k → wrongAt s j = false) (hk : wrongAt s k = true) : faultI s = k := by
  have a := hno 1; have b := hno 2; have c := hno 3; have d := hno 4
  unfold faultI
  rcases (show k = 1 ∨ k = 2 ∨ k = 3 ∨ k = 4 ∨ k = 5 by omega) with rfl | rfl | rfl | rfl | rfl <;> simp [wrongAt] at a b c d hk ⊢ <;> (repeat' split) <;> (first | rfl | omega | (simp_all; done) | (simp_all; omega))
theorem faultI_none {s : Seg} (hno : ∀ j, 1 ≤ j → j < 6 → wrongAt s j = false) : faultI s = 0 := by
  have a := hno 1; have b := hno 2; have c := hno 3; have d := hno 4; have e := hno 5
  unfold faultI
  simp [wrongAt] at a b c d e ⊢
  (repeat' split) <;> (first | rfl | omega | (simp_all; done) | (simp_all; omega))
theorem no_next {p : Nat → Bool} {k : Nat} (h : ∀ j, 1 ≤ j → j < k → p j = false) (hk : p k = false) : ∀ j, 1 ≤ j → j < k + 1 → p j = false := fun j h1 h2 => by
  by_cases e : j = k
  · subst e; exact hk
  · exact h j h1 (by omega)
set_option maxHeartbeats 4000000 in
theorem sfault_any (A : Option Addr) (c : Nat) (s : Seg) (w : World) (hr : Tabs w) (ha : Holds .u8 w A s.n s.f) (hc : s.n ≤ c) (hcm : c ≤ maxLen) (hn : s.n ≤ 1000000) (hb : SegB s) :
    Calls Tryd.prog 14 #[.agg (segC A c s)] w fun e w' => e = .returned (.int .i64 (faultI s)) ∧ Ext w w' := by
  have H1 := Lib.hid (fun w => over_any A c s w)
  have H2 := Lib.hid (fun w => spoilt_any A c s w)
  have H3 := Lib.hid (fun w => torn_any A c s w)
  have H4 := Lib.hid (fun w => short_any A c s w)
  have H5 := Lib.hid (fun w' (x : Ext w w') => unsummed_any A c s w' (hr.ext x) (ha.ext x) hc hcm hn hb)
  obtain ⟨W1, hW1⟩ : ∃ W1, W1 = w.alloc (.cells (segC A c s) 33) := ⟨_, rfl⟩
  have g0 : W1.heap[w.heap.size]? = some (.cells (segC A c s) 33 (0, 0)) := by rw [hW1]; exact heap_alloc_new _ _
  have x1 : Ext w W1 := by rw [hW1]; exact Ext.alloc _ _
  have HF := Lib.hid (fun k (h1 : 1 ≤ k) (h5 : k ≤ 5) (hno : ∀ j, 1 ≤ j → j < k → wrongAt s j = false) (hk : wrongAt s k = true) => faultI_first h1 h5 hno hk)
  have H0 := Lib.hid (faultI_none (s := s))
  generalize hR : faultI s = R at HF H0 ⊢
  have W1' := Lib.hid (show wrongAt s 1 = decide (256 < s.count) from rfl)
  have W2' := Lib.hid (show wrongAt s 2 = s.bad from rfl)
  have W3' := Lib.hid (show wrongAt s 3 = s.gap from rfl)
  have W4' := Lib.hid (show wrongAt s 4 = decide (s.n < 4) from rfl)
  have W5' := Lib.hid (show wrongAt s 5 = !endsB s.f s.n from rfl)
  obtain ⟨v1, e1⟩ : ∃ v, v = decide (256 < s.count) := ⟨_, rfl⟩
  obtain ⟨v2, e2⟩ : ∃ v, v = s.bad := ⟨_, rfl⟩
  obtain ⟨v3, e3⟩ : ∃ v, v = s.gap := ⟨_, rfl⟩
  obtain ⟨v4, e4⟩ : ∃ v, v = decide (s.n < 4) := ⟨_, rfl⟩
  obtain ⟨v5, e5⟩ : ∃ v, v = !endsB s.f s.n := ⟨_, rfl⟩
  rw [← e1] at H1 W1'; rw [← e2] at H2 W2'; rw [← e3] at H3 W3'; rw [← e4] at H4 W4'; rw [← e5] at H5 W5'
  clear e1 e2 e3 e4 e5 hR hr ha hc hcm hn hb
  generalize wrongAt s = wr at HF H0 W1' W2' W3' W4' W5'
  obtain ⟨n, f, t0, t1, k, g, b⟩ := s
  have hsz : segC A c ⟨n, f, t0, t1, k, g, b⟩ = #[.slice A n c, .int .i64 t0, .int .i64 t1, .int .i64 k, .bool g, .bool b] := rfl
  rw [hsz] at H1 H2 H3 H4 H5 hW1 g0 ⊢
  have HW1 := Lib.hid hW1
  clear hsz hW1
  go_enter Tryd.func14, Tryd.ntmps14
  go_wp2_with fail
  rw [← HW1.out]
  clear HW1
  go_loopw [3] (fun iv wq => ∃ k : Nat, 1 ≤ k ∧ k ≤ 6 ∧ iv = .int .i64 k ∧ Ext W1 wq ∧ Hid (∀ j, 1 ≤ j → j < k → wr j = false)) (fun iv _ => 6 - (intOf iv).toNat)
  case atStart => exact ⟨1, by omega, by omega, rfl, Ext.refl _, Lib.hid (fun j h1 h2 => by omega)⟩
  case round =>
    obtain ⟨k', h1, h6, rfl, xr, hno⟩ := hrel
    have gr := xr.block g0
    have xw := x1.trans xr
    rcases (show k' = 1 ∨ k' = 2 ∨ k' = 3 ∨ k' = 4 ∨ k' = 5 ∨ k' = 6 by omega) with rfl | rfl | rfl | rfl | rfl | rfl
    case inl =>
      go_wp2_with fail
      refine (chk1 _).mono ?_; rintro e w' ⟨rfl, rfl⟩
      go_wp2_with (first | (refine wpList_load_row rfl 33 (.tmp 1) rfl w.heap.size rfl 33 _ (0, 0) _ gr Tryd.underlying33 rfl (by kernel_rfl) ?_))
      refine (H1.out _).mono ?_; rintro e w2 ⟨rfl, x2⟩
      have hnx := Lib.hid (fun (h : v1 = false) j (h1 : 1 ≤ j) (h2 : j < 2) => no_next hno.out (W1'.out.trans h) j h1 h2)
      cases v1
      · go_wp2
        go_roundw
        case rel => exact ⟨2, by omega, by omega, rfl, xr.trans x2, Lib.hid (hnx.out (by trivial))⟩
        case measure => simp [intOf]
      · go_wp2
        go_ret
        exact ⟨by rw [HF.out 1 (by omega) (by omega) hno.out W1'.out]; rfl, xw.trans x2⟩
    case inr.inl =>
      go_wp2_with fail
      refine (chk2 _).mono ?_; rintro e w' ⟨rfl, rfl⟩
      go_wp2_with (first | (refine wpList_load_row rfl 33 (.tmp 1) rfl w.heap.size rfl 33 _ (0, 0) _ gr Tryd.underlying33 rfl (by kernel_rfl) ?_))
      refine (H2.out _).mono ?_; rintro e w2 ⟨rfl, x2⟩
      have hnx := Lib.hid (fun (h : v2 = false) j (h1 : 1 ≤ j) (h2 : j < 3) => no_next hno.out (W2'.out.trans h) j h1 h2)
      cases v2
      · go_wp2
        go_roundw
        case rel => exact ⟨3, by omega, by omega, rfl, xr.trans x2, Lib.hid (hnx.out (by trivial))⟩
        case measure => simp [intOf]
      · go_wp2
        go_ret
        exact ⟨by rw [HF.out 2 (by omega) (by omega) hno.out W2'.out]; rfl, xw.trans x2⟩
    case inr.inr.inl =>
      go_wp2_with fail
      refine (chk3 _).mono ?_; rintro e w' ⟨rfl, rfl⟩
      go_wp2_with (first | (refine wpList_load_row rfl 33 (.tmp 1) rfl w.heap.size rfl 33 _ (0, 0) _ gr Tryd.underlying33 rfl (by kernel_rfl) ?_))
      refine (H3.out _).mono ?_; rintro e w2 ⟨rfl, x2⟩
      have hnx := Lib.hid (fun (h : v3 = false) j (h1 : 1 ≤ j) (h2 : j < 4) => no_next hno.out (W3'.out.trans h) j h1 h2)
      cases v3
      · go_wp2
        go_roundw
        case rel => exact ⟨4, by omega, by omega, rfl, xr.trans x2, Lib.hid (hnx.out (by trivial))⟩
        case measure => simp [intOf]
      · go_wp2
        go_ret
        exact ⟨by rw [HF.out 3 (by omega) (by omega) hno.out W3'.out]; rfl, xw.trans x2⟩
    case inr.inr.inr.inl =>
      go_wp2_with fail
      refine (chk4 _).mono ?_; rintro e w' ⟨rfl, rfl⟩
      go_wp2_with (first | (refine wpList_load_row rfl 33 (.tmp 1) rfl w.heap.size rfl 33 _ (0, 0) _ gr Tryd.underlying33 rfl (by kernel_rfl) ?_))
      refine (H4.out _).mono ?_; rintro e w2 ⟨rfl, x2⟩
      have hnx := Lib.hid (fun (h : v4 = false) j (h1 : 1 ≤ j) (h2 : j < 5) => no_next hno.out (W4'.out.trans h) j h1 h2)
      cases v4
      · go_wp2
        go_roundw
        case rel => exact ⟨5, by omega, by omega, rfl, xr.trans x2, Lib.hid (hnx.out (by trivial))⟩
        case measure => simp [intOf]
      · go_wp2
        go_ret
        exact ⟨by rw [HF.out 4 (by omega) (by omega) hno.out W4'.out]; rfl, xw.trans x2⟩
    case inr.inr.inr.inr.inl =>
      go_wp2_with fail
      refine (chk5 _).mono ?_; rintro e w' ⟨rfl, rfl⟩
      go_wp2_with (first | (refine wpList_load_row rfl 33 (.tmp 1) rfl w.heap.size rfl 33 _ (0, 0) _ gr Tryd.underlying33 rfl (by kernel_rfl) ?_))
      refine (H5.out _ xw).mono ?_; rintro e w2 ⟨rfl, x2⟩
      have hnx := Lib.hid (fun (h : v5 = false) j (h1 : 1 ≤ j) (h2 : j < 6) => no_next hno.out (W5'.out.trans h) j h1 h2)
      cases v5
      · go_wp2
        go_roundw
        case rel => exact ⟨6, by omega, by omega, rfl, xr.trans x2, Lib.hid (hnx.out (by trivial))⟩
        case measure => simp [intOf]
      · go_wp2
        go_ret
        exact ⟨by rw [HF.out 5 (by omega) (by omega) hno.out W5'.out]; rfl, xw.trans x2⟩
    case inr.inr.inr.inr.inr =>
      go_wp2
      go_ret
      exact ⟨by rw [H0.out hno.out]; rfl, xw⟩
set_option maxHeartbeats 4000000 in
theorem serrs_any (A : Option Addr) (c : Nat) (s : Seg) (w : World) (hr : Tabs w) (ha : Holds .u8 w A s.n s.f) (hc : s.n ≤ c) (hcm : c ≤ maxLen) (hn : s.n ≤ 1000000) (hb : SegB s) :
    Calls Tryd.prog 16 #[.agg (segC A c s)] w fun e w' => e = .returned (.bool (errsB s)) ∧ Ext w w' := by
  have H1 := Lib.hid (fun w => over_any A c s w)
  have H2 := Lib.hid (fun w => spoilt_any A c s w)
  have H4 := Lib.hid (fun w => short_any A c s w)
  have H5 := Lib.hid (fun w' (x : Ext w w') => unsummed_any A c s w' (hr.ext x) (ha.ext x) hc hcm hn hb)
  obtain ⟨W1, hW1⟩ : ∃ W1, W1 = w.alloc (.cells (segC A c s) 33) := ⟨_, rfl⟩
  obtain ⟨W2, hW2⟩ : ∃ W2, W2 = W1.alloc (.cells (segC A c s) 51) := ⟨_, rfl⟩
  have hs1 : W1.heap.size = w.heap.size + 1 := by rw [hW1]; simp
  have g0 : W2.heap[w.heap.size + 1]? = some (.cells (segC A c s) 51 (0, 0)) := by rw [hW2, ← hs1]; exact heap_alloc_new _ _
  have x1 : Ext w W2 := by rw [hW2, hW1]; exact (Ext.alloc _ _).alloc' _
  have hE : errsB s = (decide (256 < s.count) || s.bad || !decide (s.n < 4) && !endsB s.f s.n) := by
    unfold errsB; congr 2
    by_cases h : s.n < 4
    · rw [decide_eq_true h, decide_eq_false (by omega)]; rfl
    · rw [decide_eq_false h, decide_eq_true (by omega)]; rfl
  rw [hE]
  generalize decide (256 < s.count) = v1 at H1 ⊢
  generalize s.bad = v2 at H2 ⊢
  generalize decide (s.n < 4) = v4 at H4 ⊢
  generalize (!endsB s.f s.n) = v5 at H5 ⊢
  clear hE hr ha hc hcm hn hb hs1
  obtain ⟨n, f, t0, t1, k, g, b⟩ := s
  have hsz : segC A c ⟨n, f, t0, t1, k, g, b⟩ = #[.slice A n c, .int .i64 t0, .int .i64 t1, .int .i64 k, .bool g, .bool b] := rfl
  rw [hsz] at H1 H2 H4 H5 hW1 hW2 g0 ⊢
  have HW : Hid ((w.alloc (.cells #[.slice A n c, .int .i64 t0, .int .i64 t1, .int .i64 k, .bool g, .bool b] 33)).alloc (.cells #[.slice A n c, .int .i64 t0, .int .i64 t1, .int .i64 k, .bool g, .bool b] 51) = W2) := Lib.hid (by rw [hW2, hW1])
  clear hsz hW1 hW2
  go_enter Tryd.func16, Tryd.ntmps16
  go_wp2_with fail
  rw [HW.out]
  clear HW
  refine (H1.out _).mono ?_; rintro e w1 ⟨rfl, y1⟩
  have g1 := y1.block g0
  have x2 := x1.trans y1
  cases v1
  · have c0 := cell_of_heap (j := 0) g1 rfl; have c1 := cell_of_heap (j := 1) g1 rfl; have c2 := cell_of_heap (j := 2) g1 rfl; have c3 := cell_of_heap (j := 3) g1 rfl; have c4 := cell_of_heap (j := 4) g1 rfl; have c5 := cell_of_heap (j := 5) g1 rfl
    go_wp2_with fail
    refine (H2.out _).mono ?_; rintro e w2 ⟨rfl, y2⟩
    have g2 := y2.block g1
    have x3 := x2.trans y2
    clear g0 g1 c0 c1 c2 c3 c4 c5
    cases v2
    · have c0 := cell_of_heap (j := 0) g2 rfl; have c1 := cell_of_heap (j := 1) g2 rfl; have c2 := cell_of_heap (j := 2) g2 rfl; have c3 := cell_of_heap (j := 3) g2 rfl; have c4 := cell_of_heap (j := 4) g2 rfl; have c5 := cell_of_heap (j := 5) g2 rfl
      go_wp2_with fail
      refine (H4.out _).mono ?_; rintro e w3 ⟨rfl, y3⟩
      have g3 := y3.block g2
      have x4 := x3.trans y3
      clear g2 c0 c1 c2 c3 c4 c5
      cases v4
      · have c0 := cell_of_heap (j := 0) g3 rfl; have c1 := cell_of_heap (j := 1) g3 rfl; have c2 := cell_of_heap (j := 2) g3 rfl; have c3 := cell_of_heap (j := 3) g3 rfl; have c4 := cell_of_heap (j := 4) g3 rfl; have c5 := cell_of_heap (j := 5) g3 rfl
        go_wp2_with fail
        refine (H5.out _ x4).mono ?_; rintro e w4 ⟨rfl, y4⟩
        cases v5
        all_goals
          go_wp2
          go_ret
          exact ⟨rfl, x4.trans y4⟩
      · go_wp2
        go_ret
        exact ⟨rfl, x4⟩
    · go_wp2
      go_ret
      exact ⟨rfl, x3⟩
  · go_wp2
    go_ret
    exact ⟨rfl, x2⟩
set_option maxHeartbeats 4000000 in
theorem ssame_any (A B : Option Addr) (c d : Nat) (s t : Seg) (w : World) (ha : Holds .u8 w A s.n s.f) (hb : Holds .u8 w B t.n t.f) (hs : SegB s) (ht : SegB t) :
    Calls Tryd.prog 18 #[.agg (segC A c s), .agg (segC B d t)] w fun e w' => e = .returned (.bool (sameB s t)) ∧ Ext w w' := by
  obtain ⟨n, f, t0, t1, k, g, b⟩ := s
  obtain ⟨m, f', t0', t1', k', g', b'⟩ := t
  unfold segC sameB
  unfold SegB at hs ht
  simp only at ha hb hs ht ⊢
  have x2 : Ext w ((w.alloc (.cells #[.slice A n c, .int .i64 t0, .int .i64 t1, .int .i64 k, .bool g, .bool b] 33)).alloc (.cells #[.slice B m d, .int .i64 t0', .int .i64 t1', .int .i64 k', .bool g', .bool b'] 33)) := (Ext.alloc _ _).alloc' _
  have hby := equal_any A B n m c d f f' _ (ha.ext x2) (hb.ext x2) hs ht
  obtain ⟨E, hE⟩ : ∃ E, E = eqB n m f f' := ⟨_, rfl⟩
  rw [← hE] at hby ⊢
  have HBy := Lib.hid hby
  clear ha hb hs ht hby hE
  have far : (t0 == t0') = false ∨ ((t0 == t0') = true ∧ (t1 == t1') = false) ∨ (t0 = t0' ∧ t1 = t1') := by
    by_cases e : t0 = t0'
    · by_cases e' : t1 = t1'
      · exact .inr (.inr ⟨e, e'⟩)
      · exact .inr (.inl ⟨by simpa using e, by simpa using e'⟩)
    · exact .inl (by simpa using e)
  rcases far with e0 | ⟨e0, e1⟩ | ⟨rfl, rfl⟩
  · cases e3 : (g == g') <;> cases e4 : (b == b')
    all_goals
      clear HBy
      simp only [e0, Bool.false_and]
      go_enter Tryd.func18, Tryd.ntmps18
      go_wp2
      go_ret
      exact ⟨rfl, x2⟩
  · obtain rfl : t0 = t0' := by simpa using e0
    cases e3 : (g == g') <;> cases e4 : (b == b')
    all_goals
      clear HBy
      simp only [e0, e1, Bool.true_and, Bool.false_and]
      go_enter Tryd.func18, Tryd.ntmps18
      go_wp2
      go_ret
      exact ⟨rfl, x2⟩
  · have e0 : (t0 == t0) = true := by simp
    have e1 : (t1 == t1) = true := by simp
    by_cases e : k = k'
    · subst e
      have e2 : (k == k) = true := by simp
      cases e3 : (g == g') <;> cases e4 : (b == b')
      case true.true =>
        simp only [e0, e1, e2, Bool.true_and]
        go_enter Tryd.func18, Tryd.ntmps18
        go_wp2_with fail
        refine HBy.out.mono ?_; rintro e w1 ⟨rfl, rfl⟩
        go_wp2
        go_ret
        exact ⟨rfl, x2⟩
      all_goals
        clear HBy
        simp only [e0, e1, e2, Bool.true_and, Bool.false_and]
        go_enter Tryd.func18, Tryd.ntmps18
        go_wp2
        go_ret
        exact ⟨rfl, x2⟩
    · have e2 : (k == k') = false := by simpa using e
      cases e3 : (g == g') <;> cases e4 : (b == b')
      all_goals
        clear e HBy
        simp only [e0, e1, e2, Bool.true_and, Bool.false_and]
        go_enter Tryd.func18, Tryd.ntmps18
        go_wp2
        go_ret
        exact ⟨rfl, x2⟩

/-! ### Right -/
theorem may_any (z : Int) (w : World) : Calls Tryd.prog 22 #[.int .i64 z] w fun e w' => e = .returned (.bool (decide (0 ≤ z ∧ z ≤ 1099511627776))) ∧ w = w' := by
  by_cases h : 0 ≤ z ∧ z ≤ 1099511627776
  · rw [decide_eq_true h]
    have hc := kclamp_in z w
    rw [clampI_in h.1 h.2] at hc
    go_enter Tryd.func22, Tryd.ntmps22
    go_wp2_with fail
    refine hc.mono ?_; rintro e w' ⟨rfl, rfl⟩
    go_wp2
    go_ret
    exact ⟨ret_b (by simp), rfl⟩
  · rw [decide_eq_false h]
    obtain ⟨Z, hZ⟩ : ∃ Z, clampI z = Z := ⟨_, rfl⟩
    have hne : (Z == z) = false := by
      have := clampI_lo z; have := clampI_hi z
      rw [hZ] at *
      simp; omega
    have hc := kclamp_in z w
    rw [hZ] at hc
    clear hZ h
    go_enter Tryd.func22, Tryd.ntmps22
    go_wp2_with fail
    refine hc.mono ?_; rintro e w' ⟨rfl, rfl⟩
    go_wp2
    go_ret
    exact ⟨ret_b (by first | exact hne | (simp; done)), rfl⟩
set_option maxHeartbeats 4000000 in
theorem sright0 (a : Option Addr) (n c : Nat) (L : List (Int × Int × Bool)) (f : Int) (w : World) (ha : HoldsL 3 byt w a L) (hL : L.length = n) (hn : n ≤ 1000000) :
    Calls Tryd.prog 9 #[.slice a n c, .int .i64 f] w fun e w' => e = .returned (.bool (rightI L f)) ∧ Ext w w' := by
  by_cases hf : 0 ≤ f ∧ f ≤ 1099511627776
  · have e : rightI L f = risingI f L := by unfold rightI; rw [decide_eq_true hf]; rfl
    rw [e]
    have hm := may_any f w
    rw [decide_eq_true hf] at hm
    obtain ⟨B, hB⟩ : ∃ B, B = risingI f L := ⟨_, rfl⟩
    rw [← hB]
    have HB := Lib.hid hB
    have HL := Lib.hid hL
    have HA := Lib.hid ha
    have H0 := Lib.hid hf.1
    clear e hB hL ha hf
    go_enter Tryd.func9, Tryd.ntmps9
    go_wp2_with fail
    refine hm.mono ?_; rintro e w1 ⟨rfl, rfl⟩
    clear hm
    go_wp2_with fail
    go_loopw [5, 14] (fun fv iv wr => ∃ (k : Nat) (g : Int), k ≤ n ∧ iv = .int .i64 k ∧ fv = .int .i64 g ∧ Ext w wr ∧ Hid (0 ≤ g) ∧ B = risingI g (L.drop k)) (fun _ iv _ => n - (intOf iv).toNat)
    case atStart => exact ⟨0, f, Nat.zero_le _, rfl, rfl, Ext.refl _, H0, by rw [HB.out]; rfl⟩
    case round =>
      obtain ⟨k, g, hk, rfl, rfl, xr, hg0, hr⟩ := hrel
      have HR := Lib.hid hr
      clear hr
      by_cases hlt : k < n
      · have hkL : k < L.length := by rw [HL.out]; exact hlt
        obtain ⟨p, o, rfl, hp, _⟩ := HA.out.resolve_left (by intro e; rw [e] at hkL; simp at hkL)
        obtain ⟨c0, c1, c2⟩ := HA.out.byt_at k hkL
        have hlt' : (k : Int) < n := by omega
        have hd : L.drop k = L[k] :: L.drop (k + 1) := List.drop_eq_getElem_cons hkL
        obtain ⟨⟨X, Y, Z⟩, hx⟩ : ∃ x, x = L[k] := ⟨_, rfl⟩
        rw [← hx] at c0 c1 c2 hd
        simp only at c0 c1 c2
        have c0 := xr.cell hp c0; have c1 := xr.cell hp c1; have c2 := xr.cell hp c2
        have HD := Lib.hid hd
        have hm := fun w => may_any X w
        clear hd hx hkL
        by_cases hX : 0 ≤ X ∧ X ≤ 1099511627776
        · rw [decide_eq_true hX] at hm
          by_cases h1 : X < g
          · have hb : B = false := by rw [HR.out, HD.out]; exact risingI_no (.inl h1)
            have Hb := Lib.hid hb
            clear hb
            go_wp2_with fail
            refine (hm _).mono ?_; rintro e w2 ⟨rfl, rfl⟩
            go_wp2
            go_ret
            exact ⟨by rw [Hb.out]; rfl, xr.alloc' _⟩
          · have hb : B = risingI X (L.drop (k + 1)) := by rw [HR.out, HD.out]; exact risingI_yes h1 (by first | omega | (simp only; omega))
            have Hb := Lib.hid hb
            clear hb
            go_wp2_with fail
            refine (hm _).mono ?_; rintro e w2 ⟨rfl, rfl⟩
            go_wp2
            go_roundw
            case rel => exact ⟨k + 1, X, by omega, by go_num, rfl, xr.alloc' _, Lib.hid hX.1, Hb.out⟩
            case measure => simp [intOf]; omega
        · rw [decide_eq_false hX] at hm
          have hb : B = false := by
            rw [HR.out, HD.out]
            have := hg0.out
            exact risingI_no (by first | omega | (simp only; omega))
          have Hb := Lib.hid hb
          clear hb
          go_wp2_with fail
          refine (hm _).mono ?_; rintro e w2 ⟨rfl, rfl⟩
          go_wp2
          go_ret
          exact ⟨by rw [Hb.out]; rfl, xr.alloc' _⟩
      · have hb : B = true := by rw [HR.out, List.drop_of_length_le (by rw [HL.out]; omega)]; rfl
        have Hb := Lib.hid hb
        clear hb
        go_wp2
        go_ret
        exact ⟨by rw [Hb.out]; rfl, xr⟩
  · have e : rightI L f = false := by unfold rightI; rw [decide_eq_false hf]; rfl
    rw [e]
    have hm := may_any f w
    rw [decide_eq_false hf] at hm
    clear e hf ha hL
    go_enter Tryd.func9, Tryd.ntmps9
    go_wp2_with fail
    refine hm.mono ?_; rintro e w1 ⟨rfl, rfl⟩
    go_wp2
    go_ret
    exact ⟨rfl, Ext.refl _⟩
end Go.Proofs.YtanoakebbfidiaaDoor
