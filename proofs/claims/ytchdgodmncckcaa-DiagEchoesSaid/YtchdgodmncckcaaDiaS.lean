/-
  CONTRACTS: bilgeref18 (layer 18): Do, of four bytes that may be asked; Do whole.
-/
import Derived.Test.YtchdgodmncckcaaDiaR
namespace Go.Proofs.Ytchdgodmncckcaa
open Go.RowKit
set_option linter.unusedVariables false
set_option maxRecDepth 100000

theorem HoldsG.alike18 {α : Type} {mk : α → Value} {w : World} {a : Option Addr} {n : Nat} {f g : Nat → α} (h : HoldsG mk w a n f) (e : ∀ i, i < n → f i = g i) : HoldsG mk w a n g := by
  rcases h with h | ⟨b, off, ha, hlt, hc⟩
  · exact .inl h
  · exact .inr ⟨b, off, ha, hlt, fun i hi => by rw [← e i hi]; exact hc i hi⟩
theorem held18 {wr : World} {b : Option Addr} {m : Nat} {g : Nat → Int} {B : Nat} (h : HoldsG (Value.int .u8) wr b m g) (hb : ∀ p, b = some p → B ≤ p.block) {W : World} {G : Nat} (hG : G < B) (k : Keep (fun i => i = G) wr W) : HoldsG (Value.int .u8) W b m g :=
  h.keep k (fun p hp e => by have := hb p hp; have e : p.block = G := e; omega)
set_option maxHeartbeats 8000000 in
theorem rdo18_g1a (D : Dia) (a : Option Addr) (c : Nat) (f : Nat → Int) (w : World) (ha : Holds .u8 w a 4 f) (hnc : 4 ≤ c) (hcm : c ≤ maxLen) (hf : ∀ i, i < 4 → 0 ≤ f i ∧ f i < 256) (hD : DiaW D) (hk : dgK (dgN f) = true) (hkN : dgN f = 1) (hv0 : dgV f = 0) : Calls Try.prog 9 #[.agg (diaC D), .slice a 4 c] w (RDo18 D 4 f w) := by
  have hkn0 : dgN f ≠ 0 := by omega
  have hR : dgR 4 f = true := by unfold dgR; rw [if_neg hkn0]; exact decide_eq_true ⟨rfl, fun h => by omega, fun h => by omega, fun h h' => by omega⟩
  have hE : dgE 4 f = 0 := by unfold dgE; rw [if_neg (by omega), if_neg (by rw [hk]; decide), hR]; rfl
  have HE := Lib.hid (show dgD D 4 f = { D with C := fun _ => 0, li := false } ∧ dgM 4 f = 4 ∧ dgW 4 f = 1 ∧ dgE 4 f = 0 from by
    have hne : ¬ dgE 4 f ≠ 0 := fun h => h hE
    refine ⟨?_, ?_, ?_, hE⟩
    · unfold dgD; rw [if_neg hne, if_pos hkN]
    · unfold dgM; rw [if_neg (by omega)]
    · unfold dgW; rw [if_neg hne, if_pos hkN, if_pos hv0])
  have HA := Lib.hid (fun W (x : Ext w W) => ha.ext x)
  obtain ⟨i8, hi8, hz80, hz81, hz82⟩ := info_parts Try.info8
  obtain ⟨W2, hW2, RB⟩ := R18.begin w D
  have h0 := hf 0 (by omega)
  have h1 := hf 1 (by omega)
  have hk0 : 0 ≤ f 0 * 256 + f 1 := by omega
  have hk1 : f 0 * 256 + f 1 < 65536 := by omega
  have KA := Lib.hid (fun W (x : Ext w W) => rat_some a 4 c 0 f W (ha.ext x) (by omega) (by omega) hf)
  have hcv : IntKind.i64.wrap (f 0 * 256 + f 1) = f 0 * 256 + f 1 := IntWalk.i64_in _ (by omega)
  have KK := Lib.hid (fun W => rknown18_v (k := f 0 * 256 + f 1) hk W)
  have hncI : (4 : Int) ≤ c := by omega
  have hcm' : (c : Int) ≤ 9223372036854775807 := by unfold maxLen at hcm; omega
  obtain ⟨b, off, hr⟩ := rest18 ha (Nat.le_refl 4)
  obtain rfl := hr.eq
  have g2 := hf 2 (by omega)
  have g3 := hf 3 (by omega)
  have KB := Lib.hid (fun W (x : Ext w W) => rat_some (some ⟨b, off + 2, none⟩) 2 (c - 2) 0 (fun i => f (2 + i)) W (hr.holds.ext x) (by omega) (by omega) (fun i hi => hf (2 + i) (by omega)))
  have HBB := Lib.hid (show ∀ i, i < 4 → f i = dgB D f i from fun i hi => by unfold dgB; rw [if_neg (by omega)])
  have hz : f 0 * 256 + f 1 = 1 := hkN
  rw [hz] at KA KK hcv
  have KB : Hid (∀ W, Ext w W → Calls Try.prog 27 #[.slice (some ⟨b, off + 2, none⟩) 2 (c - 2), .int .i64 0] W fun e w' => e = .returned (.tuple #[.int .u16 0, .bool true]) ∧ ∃ q, w' = W.drewN q) := Lib.hid (fun W x => by have h := KB.out W x; rw [show f (2 + 0) * 256 + f (2 + (0 + 1)) = 0 from hv0] at h; exact h)
  clear hE hR hkn0 hk hk0 hk1 h0 h1 ha hf hr hnc hcm g2 g3 hkN hv0 hz
  go_enter Try.func9, Try.ntmps9
  go_upto_region 1 with fail
  rw [← hW2]
  clear hW2
  go_upto_region 4 with (first
    | (go_at_call 27; refine (KA.out _ RB.x).mono ?_; rintro e w3 ⟨rfl, q3, e3⟩; have RB := RB.ext (Ext.of_drewN ⟨q3, e3⟩); clear e3))
  go_upto_region 7 with (first
    | (go_at_call 28; refine (KK.out _).mono ?_; rintro e w4 ⟨rfl, e4⟩; rw [e4]; clear e4 w4))
  go_upto_region 9 with (first
    | (go_at_call 27; refine (KB.out _ RB.x).mono ?_; rintro e w5 ⟨rfl, q5, e5⟩; have RB := RB.ext (Ext.of_drewN ⟨q5, e5⟩); clear e5))
  go_upto_region 15 with fail
  have RB0 := RB
  go_upto_region 16 with (first
    | (at_builtin; refine wpList_append_holds (mk := Value.int .u8) rfl (.tmp 95) (.tmp 96) 31 rfl w5.heap.size 5 i8 (.int .u8 0) 1 Try.underlying31 hi8 hz80 hz81 hz82 rfl _ 0 [] rfl (own_empty (heap_alloc_new w5 _) (Nat.le_refl _)) (some ⟨b, off, none⟩) 4 c f rfl (HA.out _ (RB.x.trans (Ext.alloc _ _))) (fun _ => rfl) (by unfold maxLen; omega) (by omega) (by simp) ?_; intro v7 w7 hown7 hgr7 hb7; have x7 : Ext w5 w7 := Below.trans (Ext.alloc _ _) hb7; rw [Nat.zero_add, List.nil_append] at hown7; obtain ⟨b7, d7, hv7, l7, m7, h7⟩ := HoldsG.of_own (mk := Value.int .u8) hown7; have o7 := own_block hown7 hv7 (by decide); subst hv7; clear hown7 hgr7 hb7))
  have RB := RB.ext x7
  have hB7 : w.heap.size + 1 < w5.heap.size := by have := heap_lt RB0.b4; omega
  clear x7 RB0
  have RBn := RB.wipe
  have hnw := held18 h7 o7 (G := w.heap.size) (by omega) (keep_setCells (w.heap.size) [.int .u16 0, .int .u16 0, .int .u16 0, .int .u16 0, .int .u16 0, .int .u16 0, .int .u16 0, .int .u16 0] 0 w7)
  go_upto_region 20 with (first
    | (refine wpList_store_arr rfl 27 (.tmp 111) (.tmp 110) rfl (w.heap.size) 0 #[.int .u16 0, .int .u16 0, .int .u16 0, .int .u16 0, .int .u16 0, .int .u16 0, .int .u16 0, .int .u16 0] rfl rfl (there_of RB.b2 (Nat.le_of_ble_eq_true rfl)) (by kernel_rfl) (by simp [Value.oneCell']) ?_))
  obtain ⟨w8, hw8⟩ : ∃ W, W = w7.setCells (w.heap.size) 0 [.int .u16 0, .int .u16 0, .int .u16 0, .int .u16 0, .int .u16 0, .int .u16 0, .int .u16 0, .int .u16 0] := ⟨_, rfl⟩
  have ew8 : w7.setCells (w.heap.size) 0 (#[.int .u16 0, .int .u16 0, .int .u16 0, .int .u16 0, .int .u16 0, .int .u16 0, .int .u16 0, .int .u16 0] : Array Value).toList = w8 := hw8.symm
  rw [ew8]
  rw [← hw8] at RBn hnw
  clear hw8 ew8 RB h7
  have RB := RBn
  have h7 := hnw
  clear RBn hnw
  have f9 := frozen18 (j := 9) RB.b2
  have c9 : w8.cell? ⟨w.heap.size, 9, none⟩ = some (.bool D.li) := cell_of_heap RB.b2 rfl
  have RBn := RB.cell (D' := { D with C := fun _ => 0, li := false }) 9 (.bool false) (by simp only [diaC, List.setIfInBounds_toArray, List.set_cons_succ, List.set_cons_zero])
  have hn9 := held18 h7 o7 (G := w.heap.size) (by omega) (keepCellM w8 (w.heap.size) 9 (.bool false))
  go_upto_region 21 with fail
  obtain ⟨w9, hw9⟩ : ∃ W, W = w8.setCell ⟨w.heap.size, 9, none⟩ (.bool false) := ⟨_, rfl⟩
  rw [← hw9] at RBn hn9 ⊢
  clear hw9 f9 c9 RB h7
  have RB := RBn
  have h7 := hn9
  clear RBn hn9
  go_wp2_with (first
    | (refine wpList_load_row rfl 29 (.tmp 2) rfl (w.heap.size) rfl 29 _ (0, 0) _ RB.b2 Try.underlying29 rfl (by kernel_rfl) ?_)
    | (refine wpList_store_row rfl 29 (.tmp 4) (.tmp 115) rfl (w.heap.size + 1) _ rfl rfl 29 _ RB.b4 (by kernel_rfl) rfl (by simp [diaC, Value.oneCell']) ?_))
  refine bodyPost_ret (results_row_three _ _ (w.heap.size + 1) 29 _ (0, 0) _ rfl rfl (setRow_heap _ _ _ _ _ _ RB.b4) Try.underlying29 rfl (by kernel_rfl)) rfl ?_
  obtain ⟨e1, e2, e3, e4⟩ := HE.out
  unfold RDo18
  rw [e1, e2, e3, e4]
  exact ⟨b7, d7, rfl, (held18 h7 o7 (G := w.heap.size + 1) (by omega) (RB.done).2.2).alike18 HBB.out, RB.done.2.1⟩
set_option maxHeartbeats 8000000 in
theorem rdo18_g1b (D : Dia) (a : Option Addr) (c : Nat) (f : Nat → Int) (w : World) (ha : Holds .u8 w a 4 f) (hnc : 4 ≤ c) (hcm : c ≤ maxLen) (hf : ∀ i, i < 4 → 0 ≤ f i ∧ f i < 256) (hD : DiaW D) (hk : dgK (dgN f) = true) (hkN : dgN f = 1) (hv0 : dgV f = 65280) : Calls Try.prog 9 #[.agg (diaC D), .slice a 4 c] w (RDo18 D 4 f w) := by
  have hkn0 : dgN f ≠ 0 := by omega
  have hR : dgR 4 f = true := by unfold dgR; rw [if_neg hkn0]; exact decide_eq_true ⟨rfl, fun h => by omega, fun h => by omega, fun h h' => by omega⟩
  have hE : dgE 4 f = 0 := by unfold dgE; rw [if_neg (by omega), if_neg (by rw [hk]; decide), hR]; rfl
  have HE := Lib.hid (show dgD D 4 f = { D with C := fun _ => 0, li := false } ∧ dgM 4 f = 4 ∧ dgW 4 f = 2 ∧ dgE 4 f = 0 from by
    have hne : ¬ dgE 4 f ≠ 0 := fun h => h hE
    refine ⟨?_, ?_, ?_, hE⟩
    · unfold dgD; rw [if_neg hne, if_pos hkN]
    · unfold dgM; rw [if_neg (by omega)]
    · unfold dgW; rw [if_neg hne, if_pos hkN, if_neg (by omega)])
  have HA := Lib.hid (fun W (x : Ext w W) => ha.ext x)
  obtain ⟨i8, hi8, hz80, hz81, hz82⟩ := info_parts Try.info8
  obtain ⟨W2, hW2, RB⟩ := R18.begin w D
  have h0 := hf 0 (by omega)
  have h1 := hf 1 (by omega)
  have hk0 : 0 ≤ f 0 * 256 + f 1 := by omega
  have hk1 : f 0 * 256 + f 1 < 65536 := by omega
  have KA := Lib.hid (fun W (x : Ext w W) => rat_some a 4 c 0 f W (ha.ext x) (by omega) (by omega) hf)
  have hcv : IntKind.i64.wrap (f 0 * 256 + f 1) = f 0 * 256 + f 1 := IntWalk.i64_in _ (by omega)
  have KK := Lib.hid (fun W => rknown18_v (k := f 0 * 256 + f 1) hk W)
  have hncI : (4 : Int) ≤ c := by omega
  have hcm' : (c : Int) ≤ 9223372036854775807 := by unfold maxLen at hcm; omega
  obtain ⟨b, off, hr⟩ := rest18 ha (Nat.le_refl 4)
  obtain rfl := hr.eq
  have g2 := hf 2 (by omega)
  have g3 := hf 3 (by omega)
  have KB := Lib.hid (fun W (x : Ext w W) => rat_some (some ⟨b, off + 2, none⟩) 2 (c - 2) 0 (fun i => f (2 + i)) W (hr.holds.ext x) (by omega) (by omega) (fun i hi => hf (2 + i) (by omega)))
  have HBB := Lib.hid (show ∀ i, i < 4 → f i = dgB D f i from fun i hi => by unfold dgB; rw [if_neg (by omega)])
  have hz : f 0 * 256 + f 1 = 1 := hkN
  rw [hz] at KA KK hcv
  have KB : Hid (∀ W, Ext w W → Calls Try.prog 27 #[.slice (some ⟨b, off + 2, none⟩) 2 (c - 2), .int .i64 0] W fun e w' => e = .returned (.tuple #[.int .u16 65280, .bool true]) ∧ ∃ q, w' = W.drewN q) := Lib.hid (fun W x => by have h := KB.out W x; rw [show f (2 + 0) * 256 + f (2 + (0 + 1)) = 65280 from hv0] at h; exact h)
  clear hE hR hkn0 hk hk0 hk1 h0 h1 ha hf hr hnc hcm g2 g3 hkN hv0 hz
  go_enter Try.func9, Try.ntmps9
  go_upto_region 1 with fail
  rw [← hW2]
  clear hW2
  go_upto_region 4 with (first
    | (go_at_call 27; refine (KA.out _ RB.x).mono ?_; rintro e w3 ⟨rfl, q3, e3⟩; have RB := RB.ext (Ext.of_drewN ⟨q3, e3⟩); clear e3))
  go_upto_region 7 with (first
    | (go_at_call 28; refine (KK.out _).mono ?_; rintro e w4 ⟨rfl, e4⟩; rw [e4]; clear e4 w4))
  go_upto_region 9 with (first
    | (go_at_call 27; refine (KB.out _ RB.x).mono ?_; rintro e w5 ⟨rfl, q5, e5⟩; have RB := RB.ext (Ext.of_drewN ⟨q5, e5⟩); clear e5))
  go_upto_region 15 with fail
  have RB0 := RB
  go_upto_region 16 with (first
    | (at_builtin; refine wpList_append_holds (mk := Value.int .u8) rfl (.tmp 95) (.tmp 96) 31 rfl w5.heap.size 5 i8 (.int .u8 0) 1 Try.underlying31 hi8 hz80 hz81 hz82 rfl _ 0 [] rfl (own_empty (heap_alloc_new w5 _) (Nat.le_refl _)) (some ⟨b, off, none⟩) 4 c f rfl (HA.out _ (RB.x.trans (Ext.alloc _ _))) (fun _ => rfl) (by unfold maxLen; omega) (by omega) (by simp) ?_; intro v7 w7 hown7 hgr7 hb7; have x7 : Ext w5 w7 := Below.trans (Ext.alloc _ _) hb7; rw [Nat.zero_add, List.nil_append] at hown7; obtain ⟨b7, d7, hv7, l7, m7, h7⟩ := HoldsG.of_own (mk := Value.int .u8) hown7; have o7 := own_block hown7 hv7 (by decide); subst hv7; clear hown7 hgr7 hb7))
  have RB := RB.ext x7
  have hB7 : w.heap.size + 1 < w5.heap.size := by have := heap_lt RB0.b4; omega
  clear x7 RB0
  have RBn := RB.wipe
  have hnw := held18 h7 o7 (G := w.heap.size) (by omega) (keep_setCells (w.heap.size) [.int .u16 0, .int .u16 0, .int .u16 0, .int .u16 0, .int .u16 0, .int .u16 0, .int .u16 0, .int .u16 0] 0 w7)
  go_upto_region 20 with (first
    | (refine wpList_store_arr rfl 27 (.tmp 111) (.tmp 110) rfl (w.heap.size) 0 #[.int .u16 0, .int .u16 0, .int .u16 0, .int .u16 0, .int .u16 0, .int .u16 0, .int .u16 0, .int .u16 0] rfl rfl (there_of RB.b2 (Nat.le_of_ble_eq_true rfl)) (by kernel_rfl) (by simp [Value.oneCell']) ?_))
  obtain ⟨w8, hw8⟩ : ∃ W, W = w7.setCells (w.heap.size) 0 [.int .u16 0, .int .u16 0, .int .u16 0, .int .u16 0, .int .u16 0, .int .u16 0, .int .u16 0, .int .u16 0] := ⟨_, rfl⟩
  have ew8 : w7.setCells (w.heap.size) 0 (#[.int .u16 0, .int .u16 0, .int .u16 0, .int .u16 0, .int .u16 0, .int .u16 0, .int .u16 0, .int .u16 0] : Array Value).toList = w8 := hw8.symm
  rw [ew8]
  rw [← hw8] at RBn hnw
  clear hw8 ew8 RB h7
  have RB := RBn
  have h7 := hnw
  clear RBn hnw
  have f9 := frozen18 (j := 9) RB.b2
  have c9 : w8.cell? ⟨w.heap.size, 9, none⟩ = some (.bool D.li) := cell_of_heap RB.b2 rfl
  have RBn := RB.cell (D' := { D with C := fun _ => 0, li := false }) 9 (.bool false) (by simp only [diaC, List.setIfInBounds_toArray, List.set_cons_succ, List.set_cons_zero])
  have hn9 := held18 h7 o7 (G := w.heap.size) (by omega) (keepCellM w8 (w.heap.size) 9 (.bool false))
  go_upto_region 21 with fail
  obtain ⟨w9, hw9⟩ : ∃ W, W = w8.setCell ⟨w.heap.size, 9, none⟩ (.bool false) := ⟨_, rfl⟩
  rw [← hw9] at RBn hn9 ⊢
  clear hw9 f9 c9 RB h7
  have RB := RBn
  have h7 := hn9
  clear RBn hn9
  go_wp2_with (first
    | (refine wpList_load_row rfl 29 (.tmp 2) rfl (w.heap.size) rfl 29 _ (0, 0) _ RB.b2 Try.underlying29 rfl (by kernel_rfl) ?_)
    | (refine wpList_store_row rfl 29 (.tmp 4) (.tmp 117) rfl (w.heap.size + 1) _ rfl rfl 29 _ RB.b4 (by kernel_rfl) rfl (by simp [diaC, Value.oneCell']) ?_))
  refine bodyPost_ret (results_row_three _ _ (w.heap.size + 1) 29 _ (0, 0) _ rfl rfl (setRow_heap _ _ _ _ _ _ RB.b4) Try.underlying29 rfl (by kernel_rfl)) rfl ?_
  obtain ⟨e1, e2, e3, e4⟩ := HE.out
  unfold RDo18
  rw [e1, e2, e3, e4]
  exact ⟨b7, d7, rfl, (held18 h7 o7 (G := w.heap.size + 1) (by omega) (RB.done).2.2).alike18 HBB.out, RB.done.2.1⟩
set_option maxHeartbeats 8000000 in
theorem rdo18_g10 (D : Dia) (a : Option Addr) (c : Nat) (f : Nat → Int) (w : World) (ha : Holds .u8 w a 4 f) (hnc : 4 ≤ c) (hcm : c ≤ maxLen) (hf : ∀ i, i < 4 → 0 ≤ f i ∧ f i < 256) (hD : DiaW D) (hk : dgK (dgN f) = true) (hkN : dgN f = 10) (hv0 : dgV f = 0) : Calls Try.prog 9 #[.agg (diaC D), .slice a 4 c] w (RDo18 D 4 f w) := by
  have hkn0 : dgN f ≠ 0 := by omega
  have hR : dgR 4 f = true := by unfold dgR; rw [if_neg hkn0]; exact decide_eq_true ⟨rfl, fun h => by omega, fun h => by omega, fun h h' => by omega⟩
  have hE : dgE 4 f = 0 := by unfold dgE; rw [if_neg (by omega), if_neg (by rw [hk]; decide), hR]; rfl
  have HE := Lib.hid (show dgD D 4 f = { D with C := fun _ => 0, reg := 0 } ∧ dgM 4 f = 4 ∧ dgW 4 f = 0 ∧ dgE 4 f = 0 from by
    have hne : ¬ dgE 4 f ≠ 0 := fun h => h hE
    refine ⟨?_, ?_, ?_, hE⟩
    · unfold dgD; rw [if_neg hne, if_neg (by omega), if_neg (by omega), if_neg (by omega), if_pos hkN]
    · unfold dgM; rw [if_neg (by omega)]
    · unfold dgW; rw [if_neg hne, if_neg (by omega), if_neg (by omega)])
  have HA := Lib.hid (fun W (x : Ext w W) => ha.ext x)
  obtain ⟨i8, hi8, hz80, hz81, hz82⟩ := info_parts Try.info8
  obtain ⟨W2, hW2, RB⟩ := R18.begin w D
  have h0 := hf 0 (by omega)
  have h1 := hf 1 (by omega)
  have hk0 : 0 ≤ f 0 * 256 + f 1 := by omega
  have hk1 : f 0 * 256 + f 1 < 65536 := by omega
  have KA := Lib.hid (fun W (x : Ext w W) => rat_some a 4 c 0 f W (ha.ext x) (by omega) (by omega) hf)
  have hcv : IntKind.i64.wrap (f 0 * 256 + f 1) = f 0 * 256 + f 1 := IntWalk.i64_in _ (by omega)
  have KK := Lib.hid (fun W => rknown18_v (k := f 0 * 256 + f 1) hk W)
  have hncI : (4 : Int) ≤ c := by omega
  have hcm' : (c : Int) ≤ 9223372036854775807 := by unfold maxLen at hcm; omega
  obtain ⟨b, off, hr⟩ := rest18 ha (Nat.le_refl 4)
  obtain rfl := hr.eq
  have g2 := hf 2 (by omega)
  have g3 := hf 3 (by omega)
  have KB := Lib.hid (fun W (x : Ext w W) => rat_some (some ⟨b, off + 2, none⟩) 2 (c - 2) 0 (fun i => f (2 + i)) W (hr.holds.ext x) (by omega) (by omega) (fun i hi => hf (2 + i) (by omega)))
  have HBB := Lib.hid (show ∀ i, i < 4 → f i = dgB D f i from fun i hi => by unfold dgB; rw [if_neg (by omega)])
  have hz : f 0 * 256 + f 1 = 10 := hkN
  rw [hz] at KA KK hcv
  have KB : Hid (∀ W, Ext w W → Calls Try.prog 27 #[.slice (some ⟨b, off + 2, none⟩) 2 (c - 2), .int .i64 0] W fun e w' => e = .returned (.tuple #[.int .u16 0, .bool true]) ∧ ∃ q, w' = W.drewN q) := Lib.hid (fun W x => by have h := KB.out W x; rw [show f (2 + 0) * 256 + f (2 + (0 + 1)) = 0 from hv0] at h; exact h)
  clear hE hR hkn0 hk hk0 hk1 h0 h1 ha hf hr hnc hcm g2 g3 hkN hv0 hz
  go_enter Try.func9, Try.ntmps9
  go_upto_region 1 with fail
  rw [← hW2]
  clear hW2
  go_upto_region 4 with (first
    | (go_at_call 27; refine (KA.out _ RB.x).mono ?_; rintro e w3 ⟨rfl, q3, e3⟩; have RB := RB.ext (Ext.of_drewN ⟨q3, e3⟩); clear e3))
  go_upto_region 7 with (first
    | (go_at_call 28; refine (KK.out _).mono ?_; rintro e w4 ⟨rfl, e4⟩; rw [e4]; clear e4 w4))
  go_upto_region 9 with (first
    | (go_at_call 27; refine (KB.out _ RB.x).mono ?_; rintro e w5 ⟨rfl, q5, e5⟩; have RB := RB.ext (Ext.of_drewN ⟨q5, e5⟩); clear e5))
  go_upto_region 15 with fail
  have RB0 := RB
  go_upto_region 16 with (first
    | (at_builtin; refine wpList_append_holds (mk := Value.int .u8) rfl (.tmp 95) (.tmp 96) 31 rfl w5.heap.size 5 i8 (.int .u8 0) 1 Try.underlying31 hi8 hz80 hz81 hz82 rfl _ 0 [] rfl (own_empty (heap_alloc_new w5 _) (Nat.le_refl _)) (some ⟨b, off, none⟩) 4 c f rfl (HA.out _ (RB.x.trans (Ext.alloc _ _))) (fun _ => rfl) (by unfold maxLen; omega) (by omega) (by simp) ?_; intro v7 w7 hown7 hgr7 hb7; have x7 : Ext w5 w7 := Below.trans (Ext.alloc _ _) hb7; rw [Nat.zero_add, List.nil_append] at hown7; obtain ⟨b7, d7, hv7, l7, m7, h7⟩ := HoldsG.of_own (mk := Value.int .u8) hown7; have o7 := own_block hown7 hv7 (by decide); subst hv7; clear hown7 hgr7 hb7))
  have RB := RB.ext x7
  have hB7 : w.heap.size + 1 < w5.heap.size := by have := heap_lt RB0.b4; omega
  clear x7 RB0
  have RBn := RB.wipe
  have hnw := held18 h7 o7 (G := w.heap.size) (by omega) (keep_setCells (w.heap.size) [.int .u16 0, .int .u16 0, .int .u16 0, .int .u16 0, .int .u16 0, .int .u16 0, .int .u16 0, .int .u16 0] 0 w7)
  go_upto_region 33 with (first
    | (refine wpList_store_arr rfl 27 (.tmp 139) (.tmp 138) rfl (w.heap.size) 0 #[.int .u16 0, .int .u16 0, .int .u16 0, .int .u16 0, .int .u16 0, .int .u16 0, .int .u16 0, .int .u16 0] rfl rfl (there_of RB.b2 (Nat.le_of_ble_eq_true rfl)) (by kernel_rfl) (by simp [Value.oneCell']) ?_))
  obtain ⟨w8, hw8⟩ : ∃ W, W = w7.setCells (w.heap.size) 0 [.int .u16 0, .int .u16 0, .int .u16 0, .int .u16 0, .int .u16 0, .int .u16 0, .int .u16 0, .int .u16 0] := ⟨_, rfl⟩
  have ew8 : w7.setCells (w.heap.size) 0 (#[.int .u16 0, .int .u16 0, .int .u16 0, .int .u16 0, .int .u16 0, .int .u16 0, .int .u16 0, .int .u16 0] : Array Value).toList = w8 := hw8.symm
  rw [ew8]
  rw [← hw8] at RBn hnw
  clear hw8 ew8 RB h7
  have RB := RBn
  have h7 := hnw
  clear RBn hnw
  have f8 := frozen18 (j := 8) RB.b2
  have c8 : w8.cell? ⟨w.heap.size, 8, none⟩ = some (.int .u16 D.reg) := cell_of_heap RB.b2 rfl
  have RBn := RB.cell (D' := { D with C := fun _ => 0, reg := 0 }) 8 (.int .u16 0) (by simp only [diaC, List.setIfInBounds_toArray, List.set_cons_succ, List.set_cons_zero])
  have hn8 := held18 h7 o7 (G := w.heap.size) (by omega) (keepCellM w8 (w.heap.size) 8 (.int .u16 0))
  go_upto_region 36 with fail
  obtain ⟨w9, hw9⟩ : ∃ W, W = w8.setCell ⟨w.heap.size, 8, none⟩ (.int .u16 0) := ⟨_, rfl⟩
  rw [← hw9] at RBn hn8 ⊢
  clear hw9 f8 c8 RB h7
  have RB := RBn
  have h7 := hn8
  clear RBn hn8
  go_wp2_with (first
    | (refine wpList_load_row rfl 29 (.tmp 2) rfl (w.heap.size) rfl 29 _ (0, 0) _ RB.b2 Try.underlying29 rfl (by kernel_rfl) ?_)
    | (refine wpList_store_row rfl 29 (.tmp 4) (.tmp 145) rfl (w.heap.size + 1) _ rfl rfl 29 _ RB.b4 (by kernel_rfl) rfl (by simp [diaC, Value.oneCell']) ?_))
  refine bodyPost_ret (results_row_three _ _ (w.heap.size + 1) 29 _ (0, 0) _ rfl rfl (setRow_heap _ _ _ _ _ _ RB.b4) Try.underlying29 rfl (by kernel_rfl)) rfl ?_
  obtain ⟨e1, e2, e3, e4⟩ := HE.out
  unfold RDo18
  rw [e1, e2, e3, e4]
  exact ⟨b7, d7, rfl, (held18 h7 o7 (G := w.heap.size + 1) (by omega) (RB.done).2.2).alike18 HBB.out, RB.done.2.1⟩
set_option maxHeartbeats 8000000 in
theorem rdo18_g20 (D : Dia) (a : Option Addr) (c : Nat) (f : Nat → Int) (w : World) (ha : Holds .u8 w a 4 f) (hnc : 4 ≤ c) (hcm : c ≤ maxLen) (hf : ∀ i, i < 4 → 0 ≤ f i ∧ f i < 256) (hD : DiaW D) (hk : dgK (dgN f) = true) (hkN : dgN f = 20) (hv0 : dgV f = 0) : Calls Try.prog 9 #[.agg (diaC D), .slice a 4 c] w (RDo18 D 4 f w) := by
  have hkn0 : dgN f ≠ 0 := by omega
  have hR : dgR 4 f = true := by unfold dgR; rw [if_neg hkn0]; exact decide_eq_true ⟨rfl, fun h => by omega, fun h => by omega, fun h h' => by omega⟩
  have hE : dgE 4 f = 0 := by unfold dgE; rw [if_neg (by omega), if_neg (by rw [hk]; decide), hR]; rfl
  have HE := Lib.hid (show dgD D 4 f = { D with C := upd D.C 7 0 } ∧ dgM 4 f = 4 ∧ dgW 4 f = 0 ∧ dgE 4 f = 0 from by
    have hne : ¬ dgE 4 f ≠ 0 := fun h => h hE
    refine ⟨?_, ?_, ?_, hE⟩
    · unfold dgD; rw [if_neg hne, if_neg (by omega), if_neg (by omega), if_neg (by omega), if_neg (by omega), if_pos hkN]
    · unfold dgM; rw [if_neg (by omega)]
    · unfold dgW; rw [if_neg hne, if_neg (by omega), if_neg (by omega)])
  have HA := Lib.hid (fun W (x : Ext w W) => ha.ext x)
  obtain ⟨i8, hi8, hz80, hz81, hz82⟩ := info_parts Try.info8
  obtain ⟨W2, hW2, RB⟩ := R18.begin w D
  have h0 := hf 0 (by omega)
  have h1 := hf 1 (by omega)
  have hk0 : 0 ≤ f 0 * 256 + f 1 := by omega
  have hk1 : f 0 * 256 + f 1 < 65536 := by omega
  have KA := Lib.hid (fun W (x : Ext w W) => rat_some a 4 c 0 f W (ha.ext x) (by omega) (by omega) hf)
  have hcv : IntKind.i64.wrap (f 0 * 256 + f 1) = f 0 * 256 + f 1 := IntWalk.i64_in _ (by omega)
  have KK := Lib.hid (fun W => rknown18_v (k := f 0 * 256 + f 1) hk W)
  have hncI : (4 : Int) ≤ c := by omega
  have hcm' : (c : Int) ≤ 9223372036854775807 := by unfold maxLen at hcm; omega
  obtain ⟨b, off, hr⟩ := rest18 ha (Nat.le_refl 4)
  obtain rfl := hr.eq
  have g2 := hf 2 (by omega)
  have g3 := hf 3 (by omega)
  have KB := Lib.hid (fun W (x : Ext w W) => rat_some (some ⟨b, off + 2, none⟩) 2 (c - 2) 0 (fun i => f (2 + i)) W (hr.holds.ext x) (by omega) (by omega) (fun i hi => hf (2 + i) (by omega)))
  have HBB := Lib.hid (show ∀ i, i < 4 → f i = dgB D f i from fun i hi => by unfold dgB; rw [if_neg (by omega)])
  have hz : f 0 * 256 + f 1 = 20 := hkN
  rw [hz] at KA KK hcv
  have KB : Hid (∀ W, Ext w W → Calls Try.prog 27 #[.slice (some ⟨b, off + 2, none⟩) 2 (c - 2), .int .i64 0] W fun e w' => e = .returned (.tuple #[.int .u16 0, .bool true]) ∧ ∃ q, w' = W.drewN q) := Lib.hid (fun W x => by have h := KB.out W x; rw [show f (2 + 0) * 256 + f (2 + (0 + 1)) = 0 from hv0] at h; exact h)
  clear hE hR hkn0 hk hk0 hk1 h0 h1 ha hf hr hnc hcm g2 g3 hkN hv0 hz
  go_enter Try.func9, Try.ntmps9
  go_upto_region 1 with fail
  rw [← hW2]
  clear hW2
  go_upto_region 4 with (first
    | (go_at_call 27; refine (KA.out _ RB.x).mono ?_; rintro e w3 ⟨rfl, q3, e3⟩; have RB := RB.ext (Ext.of_drewN ⟨q3, e3⟩); clear e3))
  go_upto_region 7 with (first
    | (go_at_call 28; refine (KK.out _).mono ?_; rintro e w4 ⟨rfl, e4⟩; rw [e4]; clear e4 w4))
  go_upto_region 9 with (first
    | (go_at_call 27; refine (KB.out _ RB.x).mono ?_; rintro e w5 ⟨rfl, q5, e5⟩; have RB := RB.ext (Ext.of_drewN ⟨q5, e5⟩); clear e5))
  go_upto_region 15 with fail
  have RB0 := RB
  go_upto_region 16 with (first
    | (at_builtin; refine wpList_append_holds (mk := Value.int .u8) rfl (.tmp 95) (.tmp 96) 31 rfl w5.heap.size 5 i8 (.int .u8 0) 1 Try.underlying31 hi8 hz80 hz81 hz82 rfl _ 0 [] rfl (own_empty (heap_alloc_new w5 _) (Nat.le_refl _)) (some ⟨b, off, none⟩) 4 c f rfl (HA.out _ (RB.x.trans (Ext.alloc _ _))) (fun _ => rfl) (by unfold maxLen; omega) (by omega) (by simp) ?_; intro v7 w7 hown7 hgr7 hb7; have x7 : Ext w5 w7 := Below.trans (Ext.alloc _ _) hb7; rw [Nat.zero_add, List.nil_append] at hown7; obtain ⟨b7, d7, hv7, l7, m7, h7⟩ := HoldsG.of_own (mk := Value.int .u8) hown7; have o7 := own_block hown7 hv7 (by decide); subst hv7; clear hown7 hgr7 hb7))
  have RB := RB.ext x7
  have hB7 : w.heap.size + 1 < w5.heap.size := by have := heap_lt RB0.b4; omega
  clear x7 RB0
  have f7 := frozen18 (j := 7) RB.b2
  have c7 : w7.cell? ⟨w.heap.size, 7, none⟩ = some (.int .u16 (D.C 7)) := cell_of_heap RB.b2 rfl
  have RBn := RB.cell (D' := { D with C := upd D.C 7 0 }) 7 (.int .u16 0) (by simp only [diaC, List.setIfInBounds_toArray, List.set_cons_succ, List.set_cons_zero]; rfl)
  have hn7 := held18 h7 o7 (G := w.heap.size) (by omega) (keepCellM w7 (w.heap.size) 7 (.int .u16 0))
  go_upto_region 36 with fail
  obtain ⟨w9, hw9⟩ : ∃ W, W = w7.setCell ⟨w.heap.size, 7, none⟩ (.int .u16 0) := ⟨_, rfl⟩
  rw [← hw9] at RBn hn7 ⊢
  clear hw9 f7 c7 RB h7
  have RB := RBn
  have h7 := hn7
  clear RBn hn7
  go_wp2_with (first
    | (refine wpList_load_row rfl 29 (.tmp 2) rfl (w.heap.size) rfl 29 _ (0, 0) _ RB.b2 Try.underlying29 rfl (by kernel_rfl) ?_)
    | (refine wpList_store_row rfl 29 (.tmp 4) (.tmp 145) rfl (w.heap.size + 1) _ rfl rfl 29 _ RB.b4 (by kernel_rfl) rfl (by simp [diaC, Value.oneCell']) ?_))
  refine bodyPost_ret (results_row_three _ _ (w.heap.size + 1) 29 _ (0, 0) _ rfl rfl (setRow_heap _ _ _ _ _ _ RB.b4) Try.underlying29 rfl (by kernel_rfl)) rfl ?_
  obtain ⟨e1, e2, e3, e4⟩ := HE.out
  unfold RDo18
  rw [e1, e2, e3, e4]
  exact ⟨b7, d7, rfl, (held18 h7 o7 (G := w.heap.size + 1) (by omega) (RB.done).2.2).alike18 HBB.out, RB.done.2.1⟩
set_option maxHeartbeats 8000000 in
theorem rdo18_g4 (D : Dia) (a : Option Addr) (c : Nat) (f : Nat → Int) (w : World) (ha : Holds .u8 w a 4 f) (hnc : 4 ≤ c) (hcm : c ≤ maxLen) (hf : ∀ i, i < 4 → 0 ≤ f i ∧ f i < 256) (hD : DiaW D) (hk : dgK (dgN f) = true) (hkN : dgN f = 4) (hv0 : dgV f = 0) : Calls Try.prog 9 #[.agg (diaC D), .slice a 4 c] w (RDo18 D 4 f w) := by
  have hkn0 : dgN f ≠ 0 := by omega
  have hR : dgR 4 f = true := by unfold dgR; rw [if_neg hkn0]; exact decide_eq_true ⟨rfl, fun h => by omega, fun h => by omega, fun h h' => by omega⟩
  have hE : dgE 4 f = 0 := by unfold dgE; rw [if_neg (by omega), if_neg (by rw [hk]; decide), hR]; rfl
  have HE := Lib.hid (show dgD D 4 f = { D with li := true } ∧ dgM 4 f = 0 ∧ dgW 4 f = 3 ∧ dgE 4 f = 0 from by
    have hne : ¬ dgE 4 f ≠ 0 := fun h => h hE
    refine ⟨?_, ?_, ?_, hE⟩
    · unfold dgD; rw [if_neg hne, if_neg (by omega), if_neg (by omega), if_pos hkN]
    · unfold dgM; rw [if_pos (.inr hkN)]
    · unfold dgW; rw [if_neg hne, if_neg (by omega), if_pos hkN])
  have HA := Lib.hid (fun W (x : Ext w W) => ha.ext x)
  obtain ⟨i8, hi8, hz80, hz81, hz82⟩ := info_parts Try.info8
  obtain ⟨W2, hW2, RB⟩ := R18.begin w D
  have h0 := hf 0 (by omega)
  have h1 := hf 1 (by omega)
  have hk0 : 0 ≤ f 0 * 256 + f 1 := by omega
  have hk1 : f 0 * 256 + f 1 < 65536 := by omega
  have KA := Lib.hid (fun W (x : Ext w W) => rat_some a 4 c 0 f W (ha.ext x) (by omega) (by omega) hf)
  have hcv : IntKind.i64.wrap (f 0 * 256 + f 1) = f 0 * 256 + f 1 := IntWalk.i64_in _ (by omega)
  have KK := Lib.hid (fun W => rknown18_v (k := f 0 * 256 + f 1) hk W)
  have hncI : (4 : Int) ≤ c := by omega
  have hcm' : (c : Int) ≤ 9223372036854775807 := by unfold maxLen at hcm; omega
  obtain ⟨b, off, hr⟩ := rest18 ha (Nat.le_refl 4)
  obtain rfl := hr.eq
  have g2 := hf 2 (by omega)
  have g3 := hf 3 (by omega)
  have KB := Lib.hid (fun W (x : Ext w W) => rat_some (some ⟨b, off + 2, none⟩) 2 (c - 2) 0 (fun i => f (2 + i)) W (hr.holds.ext x) (by omega) (by omega) (fun i hi => hf (2 + i) (by omega)))
  have hz : f 0 * 256 + f 1 = 4 := hkN
  rw [hz] at KA KK hcv
  have KB : Hid (∀ W, Ext w W → Calls Try.prog 27 #[.slice (some ⟨b, off + 2, none⟩) 2 (c - 2), .int .i64 0] W fun e w' => e = .returned (.tuple #[.int .u16 0, .bool true]) ∧ ∃ q, w' = W.drewN q) := Lib.hid (fun W x => by have h := KB.out W x; rw [show f (2 + 0) * 256 + f (2 + (0 + 1)) = 0 from hv0] at h; exact h)
  clear hE hR hkn0 hk hk0 hk1 h0 h1 ha hf hr hnc hcm g2 g3 hkN hv0 hz
  go_enter Try.func9, Try.ntmps9
  go_upto_region 1 with fail
  rw [← hW2]
  clear hW2
  go_upto_region 4 with (first
    | (go_at_call 27; refine (KA.out _ RB.x).mono ?_; rintro e w3 ⟨rfl, q3, e3⟩; have RB := RB.ext (Ext.of_drewN ⟨q3, e3⟩); clear e3))
  go_upto_region 7 with (first
    | (go_at_call 28; refine (KK.out _).mono ?_; rintro e w4 ⟨rfl, e4⟩; rw [e4]; clear e4 w4))
  go_upto_region 9 with (first
    | (go_at_call 27; refine (KB.out _ RB.x).mono ?_; rintro e w5 ⟨rfl, q5, e5⟩; have RB := RB.ext (Ext.of_drewN ⟨q5, e5⟩); clear e5))
  go_upto_region 15 with fail
  have RB0 := RB
  go_upto_region 16 with (first
    | (at_builtin; refine wpList_append_holds (mk := Value.int .u8) rfl (.tmp 95) (.tmp 96) 31 rfl w5.heap.size 5 i8 (.int .u8 0) 1 Try.underlying31 hi8 hz80 hz81 hz82 rfl _ 0 [] rfl (own_empty (heap_alloc_new w5 _) (Nat.le_refl _)) (some ⟨b, off, none⟩) 4 c f rfl (HA.out _ (RB.x.trans (Ext.alloc _ _))) (fun _ => rfl) (by unfold maxLen; omega) (by omega) (by simp) ?_; intro v7 w7 hown7 hgr7 hb7; have x7 : Ext w5 w7 := Below.trans (Ext.alloc _ _) hb7; rw [Nat.zero_add, List.nil_append] at hown7; obtain ⟨b7, d7, hv7, l7, m7, h7⟩ := HoldsG.of_own (mk := Value.int .u8) hown7; have o7 := own_block hown7 hv7 (by decide); subst hv7; clear hown7 hgr7 hb7))
  have RB := RB.ext x7
  have hB7 : w.heap.size + 1 < w5.heap.size := by have := heap_lt RB0.b4; omega
  clear x7 RB0
  have f9 := frozen18 (j := 9) RB.b2
  have c9 : w7.cell? ⟨w.heap.size, 9, none⟩ = some (.bool D.li) := cell_of_heap RB.b2 rfl
  have RBn := RB.cell (D' := { D with li := true }) 9 (.bool true) (by simp only [diaC, List.setIfInBounds_toArray, List.set_cons_succ, List.set_cons_zero])
  have hn9 := held18 h7 o7 (G := w.heap.size) (by omega) (keepCellM w7 (w.heap.size) 9 (.bool true))
  go_upto_region 30 with fail
  obtain ⟨w9, hw9⟩ : ∃ W, W = w7.setCell ⟨w.heap.size, 9, none⟩ (.bool true) := ⟨_, rfl⟩
  rw [← hw9] at RBn hn9 ⊢
  clear hw9 f9 c9 RB h7
  have RB := RBn
  have h7 := hn9
  clear RBn hn9
  go_wp2_with (first
    | (refine wpList_load_row rfl 29 (.tmp 2) rfl (w.heap.size) rfl 29 _ (0, 0) _ RB.b2 Try.underlying29 rfl (by kernel_rfl) ?_)
    | (refine wpList_store_row rfl 29 (.tmp 4) (.tmp 135) rfl (w.heap.size + 1) _ rfl rfl 29 _ RB.b4 (by kernel_rfl) rfl (by simp [diaC, Value.oneCell']) ?_))
  refine bodyPost_ret (results_row_three _ _ (w.heap.size + 1) 29 _ (0, 0) _ rfl rfl (setRow_heap _ _ _ _ _ _ RB.b4) Try.underlying29 rfl (by kernel_rfl)) rfl ?_
  obtain ⟨e1, e2, e3, e4⟩ := HE.out
  unfold RDo18
  rw [e1, e2, e3, e4]
  exact ⟨none, 0, rfl, .inl rfl, RB.done.2.1⟩
set_option maxHeartbeats 8000000 in
theorem rdo18_g3 (D : Dia) (a : Option Addr) (c : Nat) (f : Nat → Int) (w : World) (ha : Holds .u8 w a 4 f) (hnc : 4 ≤ c) (hcm : c ≤ maxLen) (hf : ∀ i, i < 4 → 0 ≤ f i ∧ f i < 256) (hD : DiaW D) (hk : dgK (dgN f) = true) (hkN : dgN f = 3) (hv0 : f 3 = 0) : Calls Try.prog 9 #[.agg (diaC D), .slice a 4 c] w (RDo18 D 4 f w) := by
  have hkn0 : dgN f ≠ 0 := by omega
  have hR : dgR 4 f = true := by unfold dgR; rw [if_neg hkn0]; exact decide_eq_true ⟨rfl, fun h => by omega, fun h => by omega, fun h h' => by omega⟩
  have hE : dgE 4 f = 0 := by unfold dgE; rw [if_neg (by omega), if_neg (by rw [hk]; decide), hR]; rfl
  have HE := Lib.hid (show dgD D 4 f = { D with de := f 2 } ∧ dgM 4 f = 4 ∧ dgW 4 f = 0 ∧ dgE 4 f = 0 from by
    have hne : ¬ dgE 4 f ≠ 0 := fun h => h hE
    refine ⟨?_, ?_, ?_, hE⟩
    · unfold dgD; rw [if_neg hne, if_neg (by omega), if_pos hkN]
    · unfold dgM; rw [if_neg (by omega)]
    · unfold dgW; rw [if_neg hne, if_neg (by omega), if_neg (by omega)])
  have HA := Lib.hid (fun W (x : Ext w W) => ha.ext x)
  obtain ⟨i8, hi8, hz80, hz81, hz82⟩ := info_parts Try.info8
  obtain ⟨W2, hW2, RB⟩ := R18.begin w D
  have h0 := hf 0 (by omega)
  have h1 := hf 1 (by omega)
  have hk0 : 0 ≤ f 0 * 256 + f 1 := by omega
  have hk1 : f 0 * 256 + f 1 < 65536 := by omega
  have KA := Lib.hid (fun W (x : Ext w W) => rat_some a 4 c 0 f W (ha.ext x) (by omega) (by omega) hf)
  have hcv : IntKind.i64.wrap (f 0 * 256 + f 1) = f 0 * 256 + f 1 := IntWalk.i64_in _ (by omega)
  have KK := Lib.hid (fun W => rknown18_v (k := f 0 * 256 + f 1) hk W)
  have hncI : (4 : Int) ≤ c := by omega
  have hcm' : (c : Int) ≤ 9223372036854775807 := by unfold maxLen at hcm; omega
  obtain ⟨b, off, hr⟩ := rest18 ha (Nat.le_refl 4)
  obtain rfl := hr.eq
  have g2 := hf 2 (by omega)
  have g3 := hf 3 (by omega)
  have KB := Lib.hid (fun W (x : Ext w W) => rat_some (some ⟨b, off + 2, none⟩) 2 (c - 2) 0 (fun i => f (2 + i)) W (hr.holds.ext x) (by omega) (by omega) (fun i hi => hf (2 + i) (by omega)))
  have HBB := Lib.hid (show ∀ i, i < 4 → f i = dgB D f i from fun i hi => by unfold dgB; rw [if_neg (by omega)])
  have hz : f 0 * 256 + f 1 = 3 := hkN
  rw [hz] at KA KK hcv
  have q1 : (f (2 + 0) * 256 + f (2 + (0 + 1))).tmod 256 = 0 := by rw [Int.tmod_eq_emod_of_nonneg (by show 0 ≤ f 2 * 256 + f 3; omega)]; show (f 2 * 256 + f 3) % 256 = 0; omega
  have q2 : (f (2 + 0) * 256 + f (2 + (0 + 1))).tdiv 256 = f 2 := by rw [Int.tdiv_eq_ediv_of_nonneg (by show 0 ≤ f 2 * 256 + f 3; omega)]; show (f 2 * 256 + f 3) / 256 = f 2; omega
  have q3 : IntKind.u16.wrap (f 2) = f 2 := by rw [IntKind.wrap_u16]; omega
  have q4 : IntKind.u8.wrap (f 2) = f 2 := by rw [IntKind.wrap_u8]; omega
  generalize f (2 + 0) * 256 + f (2 + (0 + 1)) = v at *
  clear hE hR hkn0 hk hk0 hk1 h0 h1 ha hf hr hnc hcm g2 g3 hkN hv0 hz
  go_enter Try.func9, Try.ntmps9
  go_upto_region 1 with fail
  rw [← hW2]
  clear hW2
  go_upto_region 4 with (first
    | (go_at_call 27; refine (KA.out _ RB.x).mono ?_; rintro e w3 ⟨rfl, q3, e3⟩; have RB := RB.ext (Ext.of_drewN ⟨q3, e3⟩); clear e3))
  go_upto_region 7 with (first
    | (go_at_call 28; refine (KK.out _).mono ?_; rintro e w4 ⟨rfl, e4⟩; rw [e4]; clear e4 w4))
  go_upto_region 9 with (first
    | (go_at_call 27; refine (KB.out _ RB.x).mono ?_; rintro e w5 ⟨rfl, q5, e5⟩; have RB := RB.ext (Ext.of_drewN ⟨q5, e5⟩); clear e5))
  go_upto_region 15 with fail
  have RB0 := RB
  go_upto_region 16 with (first
    | (at_builtin; refine wpList_append_holds (mk := Value.int .u8) rfl (.tmp 95) (.tmp 96) 31 rfl w5.heap.size 5 i8 (.int .u8 0) 1 Try.underlying31 hi8 hz80 hz81 hz82 rfl _ 0 [] rfl (own_empty (heap_alloc_new w5 _) (Nat.le_refl _)) (some ⟨b, off, none⟩) 4 c f rfl (HA.out _ (RB.x.trans (Ext.alloc _ _))) (fun _ => rfl) (by unfold maxLen; omega) (by omega) (by simp) ?_; intro v7 w7 hown7 hgr7 hb7; have x7 : Ext w5 w7 := Below.trans (Ext.alloc _ _) hb7; rw [Nat.zero_add, List.nil_append] at hown7; obtain ⟨b7, d7, hv7, l7, m7, h7⟩ := HoldsG.of_own (mk := Value.int .u8) hown7; have o7 := own_block hown7 hv7 (by decide); subst hv7; clear hown7 hgr7 hb7))
  have RB := RB.ext x7
  have hB7 : w.heap.size + 1 < w5.heap.size := by have := heap_lt RB0.b4; omega
  clear x7 RB0
  have f10 := frozen18 (j := 10) RB.b2
  have c10 : w7.cell? ⟨w.heap.size, 10, none⟩ = some (.int .u8 D.de) := cell_of_heap RB.b2 rfl
  have RBn := RB.cell (D' := { D with de := f 2 }) 10 (.int .u8 (f 2)) (by simp only [diaC, List.setIfInBounds_toArray, List.set_cons_succ, List.set_cons_zero])
  have hn10 := held18 h7 o7 (G := w.heap.size) (by omega) (keepCellM w7 (w.heap.size) 10 (.int .u8 (f 2)))
  go_upto_region 36 with fail
  obtain ⟨w9, hw9⟩ : ∃ W, W = w7.setCell ⟨w.heap.size, 10, none⟩ (.int .u8 (f 2)) := ⟨_, rfl⟩
  rw [← hw9] at RBn hn10 ⊢
  clear hw9 f10 c10 RB h7
  have RB := RBn
  have h7 := hn10
  clear RBn hn10
  go_wp2_with (first
    | (refine wpList_load_row rfl 29 (.tmp 2) rfl (w.heap.size) rfl 29 _ (0, 0) _ RB.b2 Try.underlying29 rfl (by kernel_rfl) ?_)
    | (refine wpList_store_row rfl 29 (.tmp 4) (.tmp 145) rfl (w.heap.size + 1) _ rfl rfl 29 _ RB.b4 (by kernel_rfl) rfl (by simp [diaC, Value.oneCell']) ?_))
  refine bodyPost_ret (results_row_three _ _ (w.heap.size + 1) 29 _ (0, 0) _ rfl rfl (setRow_heap _ _ _ _ _ _ RB.b4) Try.underlying29 rfl (by kernel_rfl)) rfl ?_
  obtain ⟨e1, e2, e3, e4⟩ := HE.out
  unfold RDo18
  rw [e1, e2, e3, e4]
  exact ⟨b7, d7, rfl, (held18 h7 o7 (G := w.heap.size + 1) (by omega) (RB.done).2.2).alike18 HBB.out, RB.done.2.1⟩
/-- Two bytes and more do not lie in a box of State's zeros. -/
theorem u8_apart {W : World} {g m : Nat} {b : Option Addr} {h : Nat → Int} {t : TypeId} (hg : W.heap[g]? = some (.cells #[.int .u16 0, .int .u16 0, .int .u16 0, .int .u16 0, .int .u16 0, .int .u16 0, .int .u16 0, .int .u16 0, .int .u16 0, .bool false, .int .u8 0] t (0, 0))) (hh : HoldsG (Value.int .u8) W b m h) (hm : 2 ≤ m) : ∀ p, b = some p → p.block ≠ g := by
  rintro p rfl e
  obtain ⟨b, off, ha, hlt, hc⟩ := hh.resolve_left (by omega)
  cases ha
  have e : b = g := e
  subst e
  have c0 := hc 0 (by omega)
  have c1 := hc 1 (by omega)
  rw [cell_of_row _ _ _ _ _ _ hg] at c0 c1
  have hs : off + 1 < 11 := (Array.getElem?_eq_some_iff.1 c1).1
  have ho : off = 0 ∨ off = 1 ∨ off = 2 ∨ off = 3 ∨ off = 4 ∨ off = 5 ∨ off = 6 ∨ off = 7 ∨ off = 8 ∨ off = 9 := by omega
  rcases ho with rfl | rfl | rfl | rfl | rfl | rfl | rfl | rfl | rfl | rfl <;> simp at c0
set_option maxHeartbeats 8000000 in
theorem rdo18_g2 (D : Dia) (a : Option Addr) (c : Nat) (f : Nat → Int) (w : World) (ha : Holds .u8 w a 4 f) (hnc : 4 ≤ c) (hcm : c ≤ maxLen) (hf : ∀ i, i < 4 → 0 ≤ f i ∧ f i < 256) (hD : DiaW D) (hk : dgK (dgN f) = true) (hkN : dgN f = 2) (hv0 : dgV f = 0) : Calls Try.prog 9 #[.agg (diaC D), .slice a 4 c] w (RDo18 D 4 f w) := by
  have hkn0 : dgN f ≠ 0 := by omega
  have hR : dgR 4 f = true := by unfold dgR; rw [if_neg hkn0]; exact decide_eq_true ⟨rfl, fun h => by omega, fun h => by omega, fun h h' => by omega⟩
  have hE : dgE 4 f = 0 := by unfold dgE; rw [if_neg (by omega), if_neg (by rw [hk]; decide), hR]; rfl
  have HE := Lib.hid (show dgD D 4 f = D ∧ dgM 4 f = 4 ∧ dgW 4 f = 0 ∧ dgE 4 f = 0 from by
    have hne : ¬ dgE 4 f ≠ 0 := fun h => h hE
    refine ⟨?_, ?_, ?_, hE⟩
    · unfold dgD; rw [if_neg hne, if_neg (by omega), if_neg (by omega), if_neg (by omega), if_neg (by omega), if_neg (by omega)]
    · unfold dgM; rw [if_neg (by omega)]
    · unfold dgW; rw [if_neg hne, if_neg (by omega), if_neg (by omega)])
  have HA := Lib.hid (fun W (x : Ext w W) => ha.ext x)
  obtain ⟨i8, hi8, hz80, hz81, hz82⟩ := info_parts Try.info8
  obtain ⟨W2, hW2, RB⟩ := R18.begin w D
  have h0 := hf 0 (by omega)
  have h1 := hf 1 (by omega)
  have hk0 : 0 ≤ f 0 * 256 + f 1 := by omega
  have hk1 : f 0 * 256 + f 1 < 65536 := by omega
  have KA := Lib.hid (fun W (x : Ext w W) => rat_some a 4 c 0 f W (ha.ext x) (by omega) (by omega) hf)
  have hcv : IntKind.i64.wrap (f 0 * 256 + f 1) = f 0 * 256 + f 1 := IntWalk.i64_in _ (by omega)
  have KK := Lib.hid (fun W => rknown18_v (k := f 0 * 256 + f 1) hk W)
  have hncI : (4 : Int) ≤ c := by omega
  have hcm' : (c : Int) ≤ 9223372036854775807 := by unfold maxLen at hcm; omega
  obtain ⟨b, off, hr⟩ := rest18 ha (Nat.le_refl 4)
  obtain rfl := hr.eq
  have g2 := hf 2 (by omega)
  have g3 := hf 3 (by omega)
  have KB := Lib.hid (fun W (x : Ext w W) => rat_some (some ⟨b, off + 2, none⟩) 2 (c - 2) 0 (fun i => f (2 + i)) W (hr.holds.ext x) (by omega) (by omega) (fun i hi => hf (2 + i) (by omega)))
  have hz : f 0 * 256 + f 1 = 2 := hkN
  rw [hz] at KA KK hcv
  have KB : Hid (∀ W, Ext w W → Calls Try.prog 27 #[.slice (some ⟨b, off + 2, none⟩) 2 (c - 2), .int .i64 0] W fun e w' => e = .returned (.tuple #[.int .u16 0, .bool true]) ∧ ∃ q, w' = W.drewN q) := Lib.hid (fun W x => by have h := KB.out W x; rw [show f (2 + 0) * 256 + f (2 + (0 + 1)) = 0 from hv0] at h; exact h)
  have hzz : dgN f = f 0 * 256 + f 1 := rfl
  have HB2 := Lib.hid (show ∀ X, D.reg = X → ∀ i, i < 4 → putF (ofL [(2 : Int), X]) i = dgB D f i from fun X hX i hi => by
    have hx : dgX D f = X := by unfold dgX; rw [if_pos hkN]; exact hX
    unfold dgB
    rw [hx]
    unfold putF
    have h4 : i = 0 ∨ i = 1 ∨ i = 2 ∨ i = 3 := by omega
    rcases h4 with rfl | rfl | rfl | rfl
    · rw [if_pos (by decide), if_neg (by omega)]; show (2 : Int) / 256 = f 0; omega
    · rw [if_neg (by decide), if_neg (by omega)]; show (2 : Int) % 256 = f 1; omega
    · rw [if_pos (by decide), if_pos ⟨by omega, by omega⟩, if_pos rfl]; rfl
    · rw [if_neg (by decide), if_pos ⟨by omega, by omega⟩, if_neg (by decide)]; rfl)
  have HX2 := Lib.hid (show ∀ X, D.reg = X → ∀ i, i < 2 → 0 ≤ ofL [(2 : Int), X] i ∧ ofL [(2 : Int), X] i < 65536 from fun X hX i hi => by
    have h4 : i = 0 ∨ i = 1 := by omega
    rcases h4 with rfl | rfl
    · show 0 ≤ (2 : Int) ∧ (2 : Int) < 65536; omega
    · rw [← hX]; exact hD.r)
  clear hE hR hkn0 hk hk0 hk1 h0 h1 ha hf hr hnc hcm g2 g3 hkN hv0 hz hD hzz
  go_enter Try.func9, Try.ntmps9
  go_upto_region 1 with fail
  rw [← hW2]
  clear hW2
  go_upto_region 4 with (first
    | (go_at_call 27; refine (KA.out _ RB.x).mono ?_; rintro e w3 ⟨rfl, q3, e3⟩; have RB := RB.ext (Ext.of_drewN ⟨q3, e3⟩); clear e3))
  go_upto_region 7 with (first
    | (go_at_call 28; refine (KK.out _).mono ?_; rintro e w4 ⟨rfl, e4⟩; rw [e4]; clear e4 w4))
  go_upto_region 9 with (first
    | (go_at_call 27; refine (KB.out _ RB.x).mono ?_; rintro e w5 ⟨rfl, q5, e5⟩; have RB := RB.ext (Ext.of_drewN ⟨q5, e5⟩); clear e5))
  go_upto_region 15 with fail
  have RB0 := RB
  go_upto_region 16 with (first
    | (at_builtin; refine wpList_append_holds (mk := Value.int .u8) rfl (.tmp 95) (.tmp 96) 31 rfl w5.heap.size 5 i8 (.int .u8 0) 1 Try.underlying31 hi8 hz80 hz81 hz82 rfl _ 0 [] rfl (own_empty (heap_alloc_new w5 _) (Nat.le_refl _)) (some ⟨b, off, none⟩) 4 c f rfl (HA.out _ (RB.x.trans (Ext.alloc _ _))) (fun _ => rfl) (by unfold maxLen; omega) (by omega) (by simp) ?_; intro v7 w7 hown7 hgr7 hb7; have x7 : Ext w5 w7 := Below.trans (Ext.alloc _ _) hb7; rw [Nat.zero_add, List.nil_append] at hown7; obtain ⟨b7, d7, hv7, l7, m7, h7⟩ := HoldsG.of_own (mk := Value.int .u8) hown7; have o7 := own_block hown7 hv7 (by decide); subst hv7; clear hown7 hgr7 hb7))
  have RB := RB.ext x7
  have hB7 : w.heap.size + 1 < w5.heap.size := by have := heap_lt RB0.b4; omega
  clear x7 RB0
  clear h7 o7 hB7
  obtain ⟨X, hX⟩ : ∃ X, D.reg = X := ⟨_, rfl⟩
  have hd : Ext w7 w7.drew := Ext.drew w7
  have HS := Lib.hid (fun W (hW : Keep (fun i => i = w.heap.size + 1) w7 W) => (hW.block _ (heap_lt RB.b2) (by omega)).trans RB.b2)
  have HCX := Lib.hid (fun W (hW : Keep (fun i => i = w.heap.size + 1) w7 W) => (by rw [← hX]; exact cell_of_heap (HS.out W hW) rfl : W.cell? ⟨w.heap.size, 8, none⟩ = some (.int .u16 X)))
  have KP := Lib.hid (rput_any (some ⟨w7.drew.heap.size, 0, none⟩) 2 2 (ofL [2, X]) (w7.drew.alloc (.cells #[.int .u16 2, .int .u16 X] 26)) (Holds.lit w7.drew [2, X] 26 _ rfl 2 rfl) (by decide) (HX2.out X hX))
  have HBB := Lib.hid (HB2.out X hX)
  clear HX2 HB2 hX 
  go_upto_region 25 with fail
  have hs : Keep (fun i => i = w.heap.size + 1) w7 w7.drew := Keep.of_ext hd
  refine wp_region_held_drew (S := fun W => Keep (fun i => i = w.heap.size + 1) w7 W) (by kernel_rfl) hs (fun _ => ?_)
  refine wpAnyH_takeD (i := 0) (d := 121) rfl rfl (by kernel_rfl) (by kernel_rfl) (by kernel_rfl) (fun _ _ _ h => h) (yieldsIf_load_row (by rfl) 29 (.tmp 2) rfl (w.heap.size) rfl 29 _ (0, 0) _ (fun w' hw' => HS.out _ hw') Try.underlying29 rfl (by kernel_rfl)) hs ?_
  simp only [Act.put, List.setIfInBounds_toArray, List.set_cons_succ, List.set_cons_zero]
  refine wpAnyH_takeD (i := 1) (d := 122) (v := .pointer (some ⟨w.heap.size, 8, none⟩)) rfl rfl (by kernel_rfl) (by kernel_rfl) (by kernel_rfl) (fun _ _ _ h => h) (Or.inl ⟨by rfl, fun W hW => by go_simp⟩) hs ?_
  simp only [Act.put, List.setIfInBounds_toArray, List.set_cons_succ, List.set_cons_zero]
  refine wpAnyH_takeD (i := 2) (d := 123) (v := .int .u16 X) rfl rfl (by kernel_rfl) (by kernel_rfl) (by kernel_rfl) (fun _ _ _ h => h) (Or.inl ⟨by rfl, fun W hW => by have kc := HCX.out W hW; go_simp⟩) hs ?_
  simp only [Act.put, List.setIfInBounds_toArray, List.set_cons_succ, List.set_cons_zero]
  refine wpAnyH_ready (rs := [3]) (by kernel_rfl) (by simp) (AllReadyH.cons rfl (fun K hK => ?_) AllReadyH.nil)
  go_simp
  refine hK.out _ _ (Keep.of_ext (hd.trans (Ext.alloc _ _))) (fun hs => ?_)
  clear hK K
  refine wpAnyH_ready (rs := [4]) (by kernel_rfl) (by simp) (AllReadyH.cons rfl (fun K hK => ?_) AllReadyH.nil)
  go_simp
  refine (KP.out).mono ?_; rintro e w9 ⟨pb, pd, rfl, hp, xp⟩
  go_wp2_with fail
  have x9 : Ext w7 w9 := Below.trans (hd.trans (Ext.alloc _ _)) (Below.mono xp (Nat.le_trans hd.size (by simp)))
  refine hK.out _ _ (Keep.of_ext x9) (fun hs => ?_)
  clear hK K
  refine wpAnyH_ready (rs := [5]) (by kernel_rfl) (by simp) (AllReadyH.cons rfl (fun K hK => ?_) AllReadyH.nil)
  refine step_store_row rfl 29 (.tmp 4) (.tmp 121) rfl (w.heap.size + 1) _ rfl rfl 29 _ (x9.block RB.b4) (by kernel_rfl) rfl (by simp [diaC, Value.oneCell']) rfl ?_
  refine hK.out _ _ (hs.trans (by exact ⟨rfl, rfl, rfl, by simp, fun k _ hn => setRow_other _ _ k _ hn⟩) (fun i hi => .inl hi)) (fun hs => ?_)
  clear hK K
  simp only [Act.put]
  refine wpAnyH_takeD (i := 6) (d := 5) (v := .slice pb 4 pd) rfl rfl (by kernel_rfl) (by kernel_rfl) (by kernel_rfl) (fun _ _ _ h => h) (Or.inl ⟨by rfl, fun W hW => by go_simp⟩) hs ?_
  simp only [Act.put, List.setIfInBounds_toArray, List.set_cons_succ, List.set_cons_zero]
  refine wpAnyH_takeD (i := 7) (d := 6) (v := .int .i64 0) rfl rfl (by kernel_rfl) (by kernel_rfl) (by kernel_rfl) (fun _ _ _ h => h) (Or.inl ⟨by rfl, fun W hW => by go_simp⟩) hs ?_
  simp only [Act.put, List.setIfInBounds_toArray, List.set_cons_succ, List.set_cons_zero]
  refine wpAnyH_takeD (i := 8) (d := 7) (v := .int .i64 0) rfl rfl (by kernel_rfl) (by kernel_rfl) (by kernel_rfl) (fun _ _ _ h => h) (Or.inl ⟨by rfl, fun W hW => by go_simp⟩) hs ?_
  simp only [Act.put, List.setIfInBounds_toArray, List.set_cons_succ, List.set_cons_zero]
  refine wpAnyH_done (by kernel_rfl) ?_ _
  go_wp2_with fail
  refine bodyPost_ret (results_row_three _ _ (w.heap.size + 1) 29 _ (0, 0) _ rfl rfl (setRow_heap _ _ _ _ _ _ (x9.block RB.b4)) Try.underlying29 rfl (by kernel_rfl)) rfl ?_
  obtain ⟨e1, e2, e3, e4⟩ := HE.out
  unfold RDo18
  rw [e1, e2, e3, e4]
  exact ⟨pb, pd, rfl, (told18 hp (u8_apart (x9.block RB.b4) hp (by decide)) _).alike18 HBB.out, below_setRow (RB.x.trans x9) (by omega) _⟩
theorem dia_cell {W : World} {g : Nat} {D : Dia} {t : TypeId} (h : W.heap[g]? = some (.cells (diaC D) t (0, 0))) (j : Nat) (hj : j < 8) : W.cell? ⟨g, j, none⟩ = some (.int .u16 (D.C j)) := by
  have hj8 : j = 0 ∨ j = 1 ∨ j = 2 ∨ j = 3 ∨ j = 4 ∨ j = 5 ∨ j = 6 ∨ j = 7 := by omega
  rcases hj8 with rfl | rfl | rfl | rfl | rfl | rfl | rfl | rfl <;> exact cell_of_heap h rfl
set_option maxHeartbeats 8000000 in
theorem rdo18_g11 (D : Dia) (a : Option Addr) (c : Nat) (f : Nat → Int) (w : World) (ha : Holds .u8 w a 4 f) (hnc : 4 ≤ c) (hcm : c ≤ maxLen) (hf : ∀ i, i < 4 → 0 ≤ f i ∧ f i < 256) (hD : DiaW D) (hk : dgK (dgN f) = true) (j : Nat) (hj : j < 8) (hkN : dgN f = 11 + j) (hv0 : dgV f = 0) : Calls Try.prog 9 #[.agg (diaC D), .slice a 4 c] w (RDo18 D 4 f w) := by
  have hkn0 : dgN f ≠ 0 := by omega
  have hR : dgR 4 f = true := by unfold dgR; rw [if_neg hkn0]; exact decide_eq_true ⟨rfl, fun h => by omega, fun h => by omega, fun h h' => by omega⟩
  have hE : dgE 4 f = 0 := by unfold dgE; rw [if_neg (by omega), if_neg (by rw [hk]; decide), hR]; rfl
  have HE := Lib.hid (show dgD D 4 f = D ∧ dgM 4 f = 4 ∧ dgW 4 f = 0 ∧ dgE 4 f = 0 from by
    have hne : ¬ dgE 4 f ≠ 0 := fun h => h hE
    refine ⟨?_, ?_, ?_, hE⟩
    · unfold dgD; rw [if_neg hne, if_neg (by omega), if_neg (by omega), if_neg (by omega), if_neg (by omega), if_neg (by omega)]
    · unfold dgM; rw [if_neg (by omega)]
    · unfold dgW; rw [if_neg hne, if_neg (by omega), if_neg (by omega)])
  have HA := Lib.hid (fun W (x : Ext w W) => ha.ext x)
  obtain ⟨i8, hi8, hz80, hz81, hz82⟩ := info_parts Try.info8
  obtain ⟨W2, hW2, RB⟩ := R18.begin w D
  have h0 := hf 0 (by omega)
  have h1 := hf 1 (by omega)
  have hk0 : 0 ≤ f 0 * 256 + f 1 := by omega
  have hk1 : f 0 * 256 + f 1 < 65536 := by omega
  have KA := Lib.hid (fun W (x : Ext w W) => rat_some a 4 c 0 f W (ha.ext x) (by omega) (by omega) hf)
  have hcv : IntKind.i64.wrap (f 0 * 256 + f 1) = f 0 * 256 + f 1 := IntWalk.i64_in _ (by omega)
  have KK := Lib.hid (fun W => rknown18_v (k := f 0 * 256 + f 1) hk W)
  have hncI : (4 : Int) ≤ c := by omega
  have hcm' : (c : Int) ≤ 9223372036854775807 := by unfold maxLen at hcm; omega
  obtain ⟨b, off, hr⟩ := rest18 ha (Nat.le_refl 4)
  obtain rfl := hr.eq
  have g2 := hf 2 (by omega)
  have g3 := hf 3 (by omega)
  have KB := Lib.hid (fun W (x : Ext w W) => rat_some (some ⟨b, off + 2, none⟩) 2 (c - 2) 0 (fun i => f (2 + i)) W (hr.holds.ext x) (by omega) (by omega) (fun i hi => hf (2 + i) (by omega)))
  have hzz : dgN f = f 0 * 256 + f 1 := rfl
  obtain ⟨k, hkk⟩ : ∃ k, f 0 * 256 + f 1 = k := ⟨_, rfl⟩
  rw [hkk] at KA KK hcv
  have hkj : k = 11 + j := by omega
  have HB2 := Lib.hid (show ∀ X, D.C j = X → ∀ i, i < 4 → putF (ofL [k, X]) i = dgB D f i from fun X hX i hi => by
    have hx : dgX D f = X := by unfold dgX; rw [if_neg (by omega), show (dgN f - 11).toNat = j by omega]; exact hX
    unfold dgB
    rw [hx]
    unfold putF
    have h4 : i = 0 ∨ i = 1 ∨ i = 2 ∨ i = 3 := by omega
    rcases h4 with rfl | rfl | rfl | rfl
    · rw [if_pos (by decide), if_neg (by omega)]; show k / 256 = f 0; omega
    · rw [if_neg (by decide), if_neg (by omega)]; show k % 256 = f 1; omega
    · rw [if_pos (by decide), if_pos ⟨by omega, by omega⟩, if_pos rfl]; rfl
    · rw [if_neg (by decide), if_pos ⟨by omega, by omega⟩, if_neg (by decide)]; rfl)
  have HX2 := Lib.hid (show ∀ X, D.C j = X → ∀ i, i < 2 → 0 ≤ ofL [k, X] i ∧ ofL [k, X] i < 65536 from fun X hX i hi => by
    have h4 : i = 0 ∨ i = 1 := by omega
    rcases h4 with rfl | rfl
    · show 0 ≤ k ∧ k < 65536; omega
    · rw [← hX]; exact hD.c j hj)
  have z0 : (k == 0) = false := by simp; omega
  have z1 : (k == 1) = false := by simp; omega
  have z2 : (k == 2) = false := by simp; omega
  have z3 : (k == 3) = false := by simp; omega
  have z4 : (k == 4) = false := by simp; omega
  have z10 : (k == 10) = false := by simp; omega
  have z20 : (k == 20) = false := by simp; omega
  have y1 : (k != 1) = true := by simp; omega
  have y3 : (k != 3) = true := by simp; omega
  have hsub : IntKind.i64.wrap (k - 11) = (j : Int) := by rw [IntWalk.i64_in _ (by omega)]; omega
  have hj8 : (j : Int) < 8 := by omega
  have hj0 : (0 : Int) ≤ j := by omega
  have KB : Hid (∀ W, Ext w W → Calls Try.prog 27 #[.slice (some ⟨b, off + 2, none⟩) 2 (c - 2), .int .i64 0] W fun e w' => e = .returned (.tuple #[.int .u16 0, .bool true]) ∧ ∃ q, w' = W.drewN q) := Lib.hid (fun W x => by have h := KB.out W x; rw [show f (2 + 0) * 256 + f (2 + (0 + 1)) = 0 from hv0] at h; exact h)
  clear hE hR hkn0 hk hk0 hk1 h0 h1 ha hf hr hnc hcm g2 g3 hkN hv0 hkk hkj hD hzz
  go_enter Try.func9, Try.ntmps9
  go_upto_region 1 with fail
  rw [← hW2]
  clear hW2
  go_upto_region 4 with (first
    | (go_at_call 27; refine (KA.out _ RB.x).mono ?_; rintro e w3 ⟨rfl, q3, e3⟩; have RB := RB.ext (Ext.of_drewN ⟨q3, e3⟩); clear e3))
  go_upto_region 7 with (first
    | (go_at_call 28; refine (KK.out _).mono ?_; rintro e w4 ⟨rfl, e4⟩; rw [e4]; clear e4 w4))
  go_upto_region 9 with (first
    | (go_at_call 27; refine (KB.out _ RB.x).mono ?_; rintro e w5 ⟨rfl, q5, e5⟩; have RB := RB.ext (Ext.of_drewN ⟨q5, e5⟩); clear e5))
  go_upto_region 15 with fail
  have RB0 := RB
  go_upto_region 16 with (first
    | (at_builtin; refine wpList_append_holds (mk := Value.int .u8) rfl (.tmp 95) (.tmp 96) 31 rfl w5.heap.size 5 i8 (.int .u8 0) 1 Try.underlying31 hi8 hz80 hz81 hz82 rfl _ 0 [] rfl (own_empty (heap_alloc_new w5 _) (Nat.le_refl _)) (some ⟨b, off, none⟩) 4 c f rfl (HA.out _ (RB.x.trans (Ext.alloc _ _))) (fun _ => rfl) (by unfold maxLen; omega) (by omega) (by simp) ?_; intro v7 w7 hown7 hgr7 hb7; have x7 : Ext w5 w7 := Below.trans (Ext.alloc _ _) hb7; rw [Nat.zero_add, List.nil_append] at hown7; obtain ⟨b7, d7, hv7, l7, m7, h7⟩ := HoldsG.of_own (mk := Value.int .u8) hown7; have o7 := own_block hown7 hv7 (by decide); subst hv7; clear hown7 hgr7 hb7))
  have RB := RB.ext x7
  have hB7 : w.heap.size + 1 < w5.heap.size := by have := heap_lt RB0.b4; omega
  clear x7 RB0
  clear h7 o7 hB7
  obtain ⟨X, hX⟩ : ∃ X, D.C j = X := ⟨_, rfl⟩
  have hd : Ext w7 w7.drew := Ext.drew w7
  have HS := Lib.hid (fun W (hW : Keep (fun i => i = w.heap.size + 1) w7 W) => (hW.block _ (heap_lt RB.b2) (by omega)).trans RB.b2)
  have HCX := Lib.hid (fun W (hW : Keep (fun i => i = w.heap.size + 1) w7 W) => (by rw [← hX]; exact dia_cell (HS.out W hW) j hj : W.cell? ⟨w.heap.size, j, none⟩ = some (.int .u16 X)))
  have KP := Lib.hid (rput_any (some ⟨w7.drew.heap.size, 0, none⟩) 2 2 (ofL [k, X]) (w7.drew.alloc (.cells #[.int .u16 k, .int .u16 X] 26)) (Holds.lit w7.drew [k, X] 26 _ rfl 2 rfl) (by decide) (HX2.out X hX))
  have HBB := Lib.hid (HB2.out X hX)
  clear HX2 HB2 hX hj
  go_upto_region 17 with fail
  have hs : Keep (fun i => i = w.heap.size + 1) w7 w7.drew := Keep.of_ext hd
  refine wp_region_held_drew (S := fun W => Keep (fun i => i = w.heap.size + 1) w7 W) (by kernel_rfl) hs (fun _ => ?_)
  refine wpAnyH_takeD (i := 0) (d := 99) rfl rfl (by kernel_rfl) (by kernel_rfl) (by kernel_rfl) (fun _ _ _ h => h) (yieldsIf_load_row (by rfl) 29 (.tmp 2) rfl (w.heap.size) rfl 29 _ (0, 0) _ (fun w' hw' => HS.out _ hw') Try.underlying29 rfl (by kernel_rfl)) hs ?_
  simp only [Act.put, List.setIfInBounds_toArray, List.set_cons_succ, List.set_cons_zero]
  refine wpAnyH_takeD (i := 1) (d := 100) (v := .int .u16 k) rfl rfl (by kernel_rfl) (by kernel_rfl) (by kernel_rfl) (fun _ _ _ h => h) (Or.inl ⟨by rfl, fun W hW => by go_simp⟩) hs ?_
  simp only [Act.put, List.setIfInBounds_toArray, List.set_cons_succ, List.set_cons_zero]
  refine wpAnyH_takeD (i := 2) (d := 101) (v := .int .i64 k) rfl rfl (by kernel_rfl) (by kernel_rfl) (by kernel_rfl) (fun _ _ _ h => h) (Or.inl ⟨by rfl, fun W hW => by go_simp⟩) hs ?_
  simp only [Act.put, List.setIfInBounds_toArray, List.set_cons_succ, List.set_cons_zero]
  refine wpAnyH_takeD (i := 3) (d := 102) (v := .int .i64 j) rfl rfl (by kernel_rfl) (by kernel_rfl) (by kernel_rfl) (fun _ _ _ h => h) (Or.inl ⟨by rfl, fun W hW => by go_simp⟩) hs ?_
  simp only [Act.put, List.setIfInBounds_toArray, List.set_cons_succ, List.set_cons_zero]
  refine wpAnyH_takeD (i := 4) (d := 103) (v := .pointer (some ⟨w.heap.size, 0, none⟩)) rfl rfl (by kernel_rfl) (by kernel_rfl) (by kernel_rfl) (fun _ _ _ h => h) (Or.inl ⟨by rfl, fun W hW => by go_simp⟩) hs ?_
  simp only [Act.put, List.setIfInBounds_toArray, List.set_cons_succ, List.set_cons_zero]
  refine wpAnyH_takeD (i := 5) (d := 104) (v := .pointer (some ⟨w.heap.size, j, none⟩)) rfl rfl (by kernel_rfl) (by kernel_rfl) (by kernel_rfl) (fun _ _ _ h => h) (Or.inl ⟨by rfl, fun W hW => by have kc := HCX.out W hW; go_simp⟩) hs ?_
  simp only [Act.put, List.setIfInBounds_toArray, List.set_cons_succ, List.set_cons_zero]
  refine wpAnyH_takeD (i := 6) (d := 105) (v := .int .u16 X) rfl rfl (by kernel_rfl) (by kernel_rfl) (by kernel_rfl) (fun _ _ _ h => h) (Or.inl ⟨by rfl, fun W hW => by have kc := HCX.out W hW; go_simp⟩) hs ?_
  simp only [Act.put, List.setIfInBounds_toArray, List.set_cons_succ, List.set_cons_zero]
  refine wpAnyH_ready (rs := [7]) (by kernel_rfl) (by simp) (AllReadyH.cons rfl (fun K hK => ?_) AllReadyH.nil)
  go_simp
  refine hK.out _ _ (Keep.of_ext (hd.trans (Ext.alloc _ _))) (fun hs => ?_)
  clear hK K
  refine wpAnyH_ready (rs := [8]) (by kernel_rfl) (by simp) (AllReadyH.cons rfl (fun K hK => ?_) AllReadyH.nil)
  go_simp
  refine (KP.out).mono ?_; rintro e w9 ⟨pb, pd, rfl, hp, xp⟩
  go_wp2_with fail
  have x9 : Ext w7 w9 := Below.trans (hd.trans (Ext.alloc _ _)) (Below.mono xp (Nat.le_trans hd.size (by simp)))
  refine hK.out _ _ (Keep.of_ext x9) (fun hs => ?_)
  clear hK K
  refine wpAnyH_ready (rs := [9]) (by kernel_rfl) (by simp) (AllReadyH.cons rfl (fun K hK => ?_) AllReadyH.nil)
  refine step_store_row rfl 29 (.tmp 4) (.tmp 99) rfl (w.heap.size + 1) _ rfl rfl 29 _ (x9.block RB.b4) (by kernel_rfl) rfl (by simp [diaC, Value.oneCell']) rfl ?_
  refine hK.out _ _ (hs.trans (by exact ⟨rfl, rfl, rfl, by simp, fun k _ hn => setRow_other _ _ k _ hn⟩) (fun i hi => .inl hi)) (fun hs => ?_)
  clear hK K
  simp only [Act.put]
  refine wpAnyH_takeD (i := 10) (d := 5) (v := .slice pb 4 pd) rfl rfl (by kernel_rfl) (by kernel_rfl) (by kernel_rfl) (fun _ _ _ h => h) (Or.inl ⟨by rfl, fun W hW => by go_simp⟩) hs ?_
  simp only [Act.put, List.setIfInBounds_toArray, List.set_cons_succ, List.set_cons_zero]
  refine wpAnyH_takeD (i := 11) (d := 6) (v := .int .i64 0) rfl rfl (by kernel_rfl) (by kernel_rfl) (by kernel_rfl) (fun _ _ _ h => h) (Or.inl ⟨by rfl, fun W hW => by go_simp⟩) hs ?_
  simp only [Act.put, List.setIfInBounds_toArray, List.set_cons_succ, List.set_cons_zero]
  refine wpAnyH_takeD (i := 12) (d := 7) (v := .int .i64 0) rfl rfl (by kernel_rfl) (by kernel_rfl) (by kernel_rfl) (fun _ _ _ h => h) (Or.inl ⟨by rfl, fun W hW => by go_simp⟩) hs ?_
  simp only [Act.put, List.setIfInBounds_toArray, List.set_cons_succ, List.set_cons_zero]
  refine wpAnyH_done (by kernel_rfl) ?_ _
  go_wp2_with fail
  refine bodyPost_ret (results_row_three _ _ (w.heap.size + 1) 29 _ (0, 0) _ rfl rfl (setRow_heap _ _ _ _ _ _ (x9.block RB.b4)) Try.underlying29 rfl (by kernel_rfl)) rfl ?_
  obtain ⟨e1, e2, e3, e4⟩ := HE.out
  unfold RDo18
  rw [e1, e2, e3, e4]
  exact ⟨pb, pd, rfl, (told18 hp (u8_apart (x9.block RB.b4) hp (by decide)) _).alike18 HBB.out, below_setRow (RB.x.trans x9) (by omega) _⟩
theorem known_ways {k : Int} (h0 : 0 ≤ k) (h : dgK k = true) : k = 0 ∨ k = 1 ∨ k = 2 ∨ k = 3 ∨ k = 4 ∨ k = 10 ∨ k = 20 ∨ (11 ≤ k ∧ k ≤ 18) := by
  unfold dgK at h
  have := of_decide_eq_true h
  omega
theorem rdo18_any (D : Dia) (a : Option Addr) (n c : Nat) (f : Nat → Int) (w : World) (ha : Holds .u8 w a n f) (hn : n ≤ 600) (hnc : n ≤ c) (hcm : c ≤ maxLen) (hf : ∀ i, i < n → 0 ≤ f i ∧ f i < 256) (hD : DiaW D) : Calls Try.prog 9 #[.agg (diaC D), .slice a n c] w (RDo18 D n f w) := by
  by_cases h2 : n < 2
  · exact rdo18_short D a n c f w ha hn hnc hcm hf h2
  have g0 := hf 0 (by omega)
  have g1 := hf 1 (by omega)
  have hzz : dgN f = f 0 * 256 + f 1 := rfl
  cases hk : dgK (dgN f) with
  | false => exact rdo18_unknown D a n c f w ha hn hnc hcm hf (by omega) hk
  | true =>
    by_cases h4 : n < 4
    · exact rdo18_few D a n c f w ha hn hnc hcm hf (by omega) h4 hk
    by_cases hz : dgN f = 0
    · exact rdo18_0 D a n c f w ha hn hnc hcm hf (by omega) hz
    by_cases h5 : 5 ≤ n
    · exact rdo18_many D a n c f w ha hn hnc hcm hf h5 hk hz
    obtain rfl : n = 4 := by omega
    have g2 := hf 2 (by omega)
    have g3 := hf 3 (by omega)
    by_cases k1 : dgN f = 1
    · by_cases v0 : dgV f = 0
      · exact rdo18_g1a D a c f w ha hnc hcm hf hD hk k1 v0
      by_cases v1 : dgV f = 65280
      · exact rdo18_g1b D a c f w ha hnc hcm hf hD hk k1 v1
      · exact rdo18_bad1 D a c f w ha hnc hcm hf hk k1 v0 v1
    by_cases k3 : dgN f = 3
    · by_cases v0 : f 3 = 0
      · exact rdo18_g3 D a c f w ha hnc hcm hf hD hk k3 v0
      · exact rdo18_bad3 D a c f w ha hnc hcm hf hk k3 v0
    by_cases v0 : dgV f = 0
    · rcases known_ways (by omega) hk with k | k | k | k | k | k | k | k
      · exact absurd k hz
      · exact absurd k k1
      · exact rdo18_g2 D a c f w ha hnc hcm hf hD hk k v0
      · exact absurd k k3
      · exact rdo18_g4 D a c f w ha hnc hcm hf hD hk k v0
      · exact rdo18_g10 D a c f w ha hnc hcm hf hD hk k v0
      · exact rdo18_g20 D a c f w ha hnc hcm hf hD hk k v0
      · exact rdo18_g11 D a c f w ha hnc hcm hf hD hk (dgN f - 11).toNat (by omega) (by omega) v0
    · exact rdo18_badx D a c f w ha hnc hcm hf hk hz k1 k3 v0
end Go.Proofs.Ytchdgodmncckcaa
