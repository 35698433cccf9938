/-
  CONTRACTS: package ident (layer 21): take.
-/
import Derived.Test.YthdkhdbabohohaaIdeO
import Derived.Test.YthdkhdbabohohaaObjG
namespace Go.Proofs.Ythdkhdbabohohaa
open Go.RowKit
set_option linter.unusedVariables false
set_option maxRecDepth 100000

theorem take_mid {wr W : World} {g m zc : Nat} {zb : Option Addr} {F : Nat → Int} {I : Int} (gz : W.heap[g]? = some (.cells #[.int .i64 0, .slice none 0 0] 49 (0, 0))) (hne : ∀ q, zb = some q → m ≠ 0 → q.block ≠ g)
    (q3 : Holds .u8 W zb m F) (q1 : m ≤ zc) (q2 : zc ≤ maxLen) (q4 : Fresh wr zb) (lg : wr.heap.size ≤ g) (hs : Ext wr (W.setRow g #[.int .i64 I, .slice zb m zc])) :
    ∃ (g' : Nat) (zb' : Option Addr) (zc' : Nat) (W' : World), Value.pointer (some ⟨g, 0, none⟩) = .pointer (some ⟨g', 0, none⟩) ∧ W.setRow g #[.int .i64 I, .slice zb m zc] = W' ∧ W'.heap[g']? = some (.cells #[.int .i64 I, .slice zb' m zc'] 49 (0, 0)) ∧ Holds .u8 W' zb' m F ∧ m ≤ zc' ∧ zc' ≤ maxLen ∧ Fresh wr zb' ∧ wr.heap.size ≤ g' ∧ Ext wr W' := by
  have h1 := setRow_heap W g _ #[.int .i64 I, .slice zb m zc] _ _ gz
  refine ⟨g, zb, zc, _, rfl, rfl, h1, Holds.blocksO q3 (fun q o hq hn _ => setRow_other W g q _ (hne ⟨q, o, none⟩ hq hn)), q1, q2, q4, lg, hs⟩
set_option maxHeartbeats 16000000 in
theorem take_f (a : Option Addr) (n c k0 : Nat) (f : Nat → Int) (w : World) (ha : Holds .u8 w a n f) (hn : n ≤ 600) (hnc : n ≤ c) (hcm : c ≤ maxLen) (hf : ∀ i, i < n → 0 ≤ f i ∧ f i < 256) (hk0 : n ≤ k0) :
    Calls Try.prog 30 #[.slice a n c] w fun e w' => ∃ M b q, e = .returned (.slice b (List.length M) q) ∧ ObjsAt w' b M.length q M ∧ sameO M (parI k0 ((List.range n).map f)) = true ∧ Fresh w b ∧ (∀ z ∈ M, z.n ≤ 255 ∧ (z.n ≠ 0 → Fresh w z.a)) ∧ 2 * M.length ≤ n ∧ Ext w w' := by
  obtain ⟨io, hio, ho0, ho1, ho2⟩ := info_parts Try.infoOb
  obtain ⟨l, hl⟩ : ∃ l, (List.range n).map f = l := ⟨_, rfl⟩
  rw [hl]
  have hll : l.length = n := by rw [← hl]; simp
  have hof : ∀ i, i < n → ofL l i = f i := fun i hi => by rw [← hl]; exact ofL_range n f i hi
  have HI := Lib.hid (And.intro ha (And.intro hn (And.intro hnc (And.intro hcm (And.intro hf (And.intro hk0 (And.intro hll hof)))))))
  obtain ⟨B, hB⟩ : ∃ B, B = w.heap.size := ⟨_, rfl⟩
  have HB := Lib.hid hB
  clear ha hn hnc hcm hf hk0 hll hof hl hB
  go_enter Try.func30, Try.ntmps30
  go_wp2_with fail
  go_loopw [0, 3] (fun bv ov wr => ∃ (j : Nat) (A : Option Addr) (M : List Ob) (kk : Nat), j ≤ n ∧ bv = .slice A (n - j) (c - j) ∧ Holds .u8 w A (n - j) (fun i => f (j + i)) ∧ OutI wr B ov M ∧ (∀ z ∈ M, z.n ≤ 255 ∧ (z.n ≠ 0 → Fresh w z.a)) ∧ n - j ≤ kk ∧ sameO (M ++ parI kk (l.drop j)) (parI k0 l) = true ∧ 2 * M.length ≤ j ∧ Ext w wr) (fun bv _ _ => slLen bv)
  case atStart => exact ⟨0, a, [], k0, Nat.zero_le _, rfl, by simpa using HI.out.1, ⟨World.ownsRow_nil _ _ _ _, (fun z hz => by cases hz), (fun z hz => by cases hz)⟩, (fun z hz => by cases hz), HI.out.2.2.2.2.2.1, sameO_refl _, Nat.zero_le _, Ext.refl _⟩
  case round =>
    obtain ⟨j, A, M, kk, jn, rfl, hA, hO, hM, hkk, hsm, hMl, xr⟩ := hrel
    obtain ⟨R, hR⟩ : ∃ R, n - j = R := ⟨_, rfl⟩
    obtain ⟨D, hD⟩ : ∃ D, c - j = D := ⟨_, rfl⟩
    rw [hR] at hA hkk ⊢
    rw [hD]
    have hRD : R ≤ D := by have := HI.out.2.2.1; omega
    have HO := Lib.hid hO
    have HM := Lib.hid hM
    have HXR := Lib.hid xr
    have HJ := Lib.hid (And.intro jn (And.intro hR (And.intro hD (And.intro hkk (And.intro hsm (And.intro hMl hRD))))))
    have HA := Lib.hid hA
    have hD9 : (D : Int) ≤ 9223372036854775807 := by have := HI.out.2.2.2.1; unfold maxLen at this; omega
    have hRD' : (R : Int) ≤ D := by omega
    have hR6 : R ≤ 600 := by have := HI.out.2.1; omega
    have eR : IntKind.i64.wrap ((R : Int) - 2) = R - 2 := IntWalk.i64_in _ (by omega)
    clear jn hR hD hkk hsm hMl hRD hO hM hA xr
    obtain ⟨Q, hQ⟩ : ∃ Q, Q = decide (2 ≤ R ∧ f (j + 1) ≤ (R : Int) - 2) := ⟨_, rfl⟩
    have HQ := Lib.hid hQ
    clear hQ
    go_upto_region 2 with fail
    go_cut [17] (fun v wx => v = .bool Q ∧ wx = wr)
    case first =>
      by_cases hR2 : 2 ≤ R
      · obtain ⟨p, o, rfl, hp, hc⟩ := HA.out.resolve_left (by omega)
        obtain ⟨m1, hm1⟩ : ∃ m1, f (j + 1) = m1 := ⟨_, rfl⟩
        have c1 : wr.cell? ⟨p, o + 1, none⟩ = some (.int .u8 m1) := HXR.out.cell hp (by rw [← hm1]; exact hc 1 (by omega))
        have hb1 : 0 ≤ m1 ∧ m1 < 256 := by rw [← hm1]; exact HI.out.2.2.2.2.1 (j + 1) (by have := HJ.out; omega)
        have r2 : (2 : Int) ≤ R := by omega
        have r1 : (1 : Int) < R := by omega
        have e0 : IntKind.i64.wrap m1 = m1 := IntWalk.i64_in _ (by omega)
        have HE : Hid (Q = decide (m1 ≤ (R : Int) - 2)) := Lib.hid (by rw [HQ.out, hm1]; exact decide_eq_decide.2 ⟨fun h => h.2, fun h => ⟨hR2, h⟩⟩)
        clear hc hm1 hb1 hR2 hp
        go_wp2
        go_meet
        exact ⟨by rw [HE.out], by trivial⟩
      · have r2 : ¬ (2 : Int) ≤ R := by omega
        have HE : Hid (Q = false) := Lib.hid (by rw [HQ.out]; exact decide_eq_false (fun h => hR2 h.1))
        go_wp2
        go_meet
        exact ⟨by rw [HE.out], by trivial⟩
    case rest =>
      obtain ⟨rfl, hwc⟩ := hcut
      rw [hwc]
      clear hwc eR
      cases Q with
      | true =>
        obtain ⟨hR2, hRm⟩ := of_decide_eq_true HQ.out.symm
        obtain ⟨p, o, rfl, hp, hc⟩ := HA.out.resolve_left (by omega)
        have hb1 := HI.out.2.2.2.2.1 (j + 1) (by have := HJ.out; omega)
        have hb0 := HI.out.2.2.2.2.1 j (by have := HJ.out; omega)
        obtain ⟨m, hm⟩ : ∃ m : Nat, f (j + 1) = m := ⟨(f (j + 1)).toNat, by omega⟩
        obtain ⟨I, hI⟩ : ∃ I, f j = I := ⟨_, rfl⟩
        have c0 : wr.cell? ⟨p, o, none⟩ = some (.int .u8 I) := HXR.out.cell hp (by rw [← hI]; exact hc 0 (by omega))
        have c1 : wr.cell? ⟨p, o + 1, none⟩ = some (.int .u8 m) := HXR.out.cell hp (by rw [← hm]; exact hc 1 (by omega))
        rw [hm] at hRm hb1
        rw [hI] at hb0
        have r1 : (1 : Int) < R := by omega
        have r0 : (0 : Int) < R := by omega
        have r9 : ¬ R = 0 := by omega
        have e0 : IntKind.i64.wrap (m : Int) = m := IntWalk.i64_in _ (by omega)
        have e1 : IntKind.i64.wrap (2 + (m : Int)) = 2 + m := IntWalk.i64_in _ (by omega)
        have e2 : IntKind.i64.wrap I = I := IntWalk.i64_in _ (by omega)
        have s1 : (2 : Int) + m ≤ D := by omega
        have s2 : ¬ (2 : Int) + m < 0 := by omega
        have s3 : (2 : Int) ≤ 2 + (m : Int) := by omega
        have s4 : (2 : Int) + m ≤ R := by omega
        have s5 : ((2 : Int) + m).toNat = 2 + m := by omega
        obtain ⟨Z, hZ⟩ : ∃ Z, (if D = 2 then some ⟨p, o, none⟩ else some (⟨p, o + 2, none⟩ : Addr)) = Z := ⟨_, rfl⟩
        have HCl := Lib.hid (fun W (x : Ext wr W) => clone_any Z m (D - 2) (fun i => f (j + 2 + i)) W (by
          by_cases hm0 : m = 0
          · exact .inl hm0
          · have hD2 : ¬ D = 2 := by omega
            rw [if_neg hD2] at hZ
            rw [← hZ]
            exact .inr ⟨p, o + 2, rfl, Nat.lt_of_lt_of_le hp (Nat.le_trans HXR.out.size x.size), fun i hi => by
              have := hc (2 + i) (by omega)
              rw [← Nat.add_assoc] at this
              exact (HXR.out.trans x).cell hp (by show w.cell? ⟨p, o + 2 + i, none⟩ = some (.int .u8 (f (j + 2 + i))); rw [show j + 2 + i = j + (2 + i) by omega]; exact this)⟩) (by omega))
        have HZB : Hid (∀ i, i < m → 0 ≤ f (j + 2 + i) ∧ f (j + 2 + i) < 256) := Lib.hid (fun i hi => HI.out.2.2.2.2.1 _ (by have := HJ.out; omega))
        have HZI : Hid ((Lit.int .i64 I).wf = true) := Lib.hid (by simp [Lit.wf, IntKind.min, IntKind.max, IntKind.signed, IntKind.bits]; omega)
        have HML : Hid (M.length ≤ 600 ∧ m ≤ 255) := Lib.hid ⟨by have := HJ.out; have := HI.out.2.1; omega, by omega⟩
        have HC0 := Lib.hid (fun W (x : Ext wr W) => (⟨x.cell (Nat.lt_of_lt_of_le hp HXR.out.size) c0, x.cell (Nat.lt_of_lt_of_le hp HXR.out.size) c1⟩ : W.cell? ⟨p, o, none⟩ = some (.int .u8 I) ∧ W.cell? ⟨p, o + 1, none⟩ = some (.int .u8 m)))
        have HMI := Lib.hid (And.intro hm (And.intro hI (And.intro hR2 (show 2 + (m : Int) ≤ R from by omega))))
        have HC8 := Lib.hid (And.intro hp hc)
        have HZ := Lib.hid hZ
        clear hR2 hRm hb1 hb0 hm hI hp hc c0 c1
        go_upto_region 3 with fail
        obtain ⟨X, hX⟩ : ∃ X, X = wr.drew := ⟨_, rfl⟩
        have hX0 : Ext wr X := by rw [hX]; exact Ext.drew _
        have HXX := Lib.hid hX0
        have hs : Ext wr X := hX0
        go_cut [4] (fun pv wx => ∃ (g : Nat) (zb : Option Addr) (zc : Nat) (W : World), pv = .pointer (some ⟨g, 0, none⟩) ∧ wx = W ∧ W.heap[g]? = some (.cells #[.int .i64 I, .slice zb m zc] 49 (0, 0)) ∧ Holds .u8 W zb m (fun i => f (j + 2 + i)) ∧ m ≤ zc ∧ zc ≤ maxLen ∧ Fresh wr zb ∧ wr.heap.size ≤ g ∧ Ext wr W)
        case first =>
          as_aux_lemma =>
          refine wp_region_held_drew (S := fun W => Ext wr W) (by kernel_rfl) (by rw [← hX]; exact hs) (fun _ => ?_)
          rw [← hX]
          clear hX
          -- REGION bilge/ident.take 3 ident_take3
          refine wpAnyH_takeD (i := 0) (d := 18) (v := .slice (some ⟨p, o, none⟩) R D) rfl rfl (by kernel_rfl) (by kernel_rfl) (by kernel_rfl) (fun _ _ _ h => h) (Or.inl ⟨by rfl, fun W hW => by go_simp⟩) hs ?_
          simp only [Act.put, List.setIfInBounds_toArray, List.set_cons_succ, List.set_cons_zero]
          refine wpAnyH_takeD (i := 1) (d := 19) (v := .pointer (some ⟨p, o, none⟩)) rfl rfl (by kernel_rfl) (by kernel_rfl) (by kernel_rfl) (fun _ _ _ h => h) (Or.inl ⟨by rfl, fun W hW => by obtain ⟨k0, k1⟩ := HC0.out W hW; go_simp⟩) hs ?_
          simp only [Act.put, List.setIfInBounds_toArray, List.set_cons_succ, List.set_cons_zero]
          refine wpAnyH_takeD (i := 2) (d := 20) (v := .int .u8 I) rfl rfl (by kernel_rfl) (by kernel_rfl) (by kernel_rfl) (fun _ _ _ h => h) (Or.inl ⟨by rfl, fun W hW => by obtain ⟨k0, k1⟩ := HC0.out W hW; go_simp⟩) hs ?_
          simp only [Act.put, List.setIfInBounds_toArray, List.set_cons_succ, List.set_cons_zero]
          refine wpAnyH_takeD (i := 3) (d := 21) (v := .int .i64 I) rfl rfl (by kernel_rfl) (by kernel_rfl) (by kernel_rfl) (fun _ _ _ h => h) (Or.inl ⟨by rfl, fun W hW => by go_simp⟩) hs ?_
          simp only [Act.put, List.setIfInBounds_toArray, List.set_cons_succ, List.set_cons_zero]
          refine wpAnyH_takeD (i := 4) (d := 22) (v := .slice (some ⟨p, o, none⟩) R D) rfl rfl (by kernel_rfl) (by kernel_rfl) (by kernel_rfl) (fun _ _ _ h => h) (Or.inl ⟨by rfl, fun W hW => by go_simp⟩) hs ?_
          simp only [Act.put, List.setIfInBounds_toArray, List.set_cons_succ, List.set_cons_zero]
          refine wpAnyH_takeD (i := 5) (d := 23) (v := .slice (some ⟨p, o, none⟩) R D) rfl rfl (by kernel_rfl) (by kernel_rfl) (by kernel_rfl) (fun _ _ _ h => h) (Or.inl ⟨by rfl, fun W hW => by go_simp⟩) hs ?_
          simp only [Act.put, List.setIfInBounds_toArray, List.set_cons_succ, List.set_cons_zero]
          refine wpAnyH_takeD (i := 6) (d := 24) (v := .pointer (some ⟨p, o + 1, none⟩)) rfl rfl (by kernel_rfl) (by kernel_rfl) (by kernel_rfl) (fun _ _ _ h => h) (Or.inl ⟨by rfl, fun W hW => by obtain ⟨k0, k1⟩ := HC0.out W hW; go_simp⟩) hs ?_
          simp only [Act.put, List.setIfInBounds_toArray, List.set_cons_succ, List.set_cons_zero]
          refine wpAnyH_takeD (i := 7) (d := 25) (v := .int .u8 m) rfl rfl (by kernel_rfl) (by kernel_rfl) (by kernel_rfl) (fun _ _ _ h => h) (Or.inl ⟨by rfl, fun W hW => by obtain ⟨k0, k1⟩ := HC0.out W hW; go_simp⟩) hs ?_
          simp only [Act.put, List.setIfInBounds_toArray, List.set_cons_succ, List.set_cons_zero]
          refine wpAnyH_takeD (i := 8) (d := 26) (v := .int .i64 m) rfl rfl (by kernel_rfl) (by kernel_rfl) (by kernel_rfl) (fun _ _ _ h => h) (Or.inl ⟨by rfl, fun W hW => by go_simp⟩) hs ?_
          simp only [Act.put, List.setIfInBounds_toArray, List.set_cons_succ, List.set_cons_zero]
          refine wpAnyH_takeD (i := 9) (d := 27) (v := .int .i64 (2 + (m : Int))) rfl rfl (by kernel_rfl) (by kernel_rfl) (by kernel_rfl) (fun _ _ _ h => h) (Or.inl ⟨by rfl, fun W hW => by go_simp⟩) hs ?_
          simp only [Act.put, List.setIfInBounds_toArray, List.set_cons_succ, List.set_cons_zero]
          refine wpAnyH_takeD (i := 10) (d := 28) (v := .slice Z m (D - 2)) rfl rfl (by kernel_rfl) (by kernel_rfl) (by kernel_rfl) (fun _ _ _ h => h) (Or.inl ⟨by rfl, fun W hW => by go_simp⟩) hs ?_
          simp only [Act.put, List.setIfInBounds_toArray, List.set_cons_succ, List.set_cons_zero]
          refine wpAnyH_ready (rs := [11, 13]) (by kernel_rfl) (by simp) (AllReadyH.cons rfl (fun K hK => ?_) (AllReadyH.cons rfl (fun K hK => ?_) AllReadyH.nil))
          · go_simp
            go_at_call 49
            refine (HCl.out _ hs).mono ?_; rintro e w5 ⟨zb, zc, rfl, q3, q1, q2, q4, x5⟩
            go_wp2_with fail
            refine hK.out _ _ (hs.trans x5) (fun hs => ?_)
            clear hK K
            have q4 : Fresh wr zb := fun q hq => Nat.le_trans HXX.out.size (q4 q hq)
            refine wpAnyH_takeD (i := 12) (d := 30) (v := .agg #[.int .i64 I, .slice zb m zc]) rfl rfl (by kernel_rfl) (by kernel_rfl) (by kernel_rfl) (fun _ _ _ h => h) (Or.inl ⟨by rfl, fun W hW => by go_simp⟩) hs ?_
            simp only [Act.put, List.setIfInBounds_toArray, List.set_cons_succ, List.set_cons_zero]
            refine wpAnyH_ready (rs := [13]) (by kernel_rfl) (by simp) (AllReadyH.cons rfl (fun K hK => ?_) AllReadyH.nil)
            go_simp
            refine hK.out _ _ (hs.trans (Ext.alloc _ _)) (fun hs => ?_)
            clear hK K
            have gz := heap_alloc_new w5 (.cells #[.int .i64 0, .slice none 0 0] 49)
            obtain ⟨g, hg⟩ : ∃ g, g = w5.heap.size := ⟨_, rfl⟩
            rw [← hg] at gz
            have hne : ∀ q, zb = some q → m ≠ 0 → q.block ≠ g := fun q hq hm0 => by have := holds_lt q3 hm0 hq; omega
            have q3 := q3.ext (Ext.alloc w5 (.cells #[.int .i64 0, .slice none 0 0] 49))
            have lg : wr.heap.size ≤ g := by rw [hg]; exact (HXX.out.trans x5).size
            simp only [← hg]
            have HGg := Lib.hid hg
            clear hg
            refine wpAnyH_ready (rs := [14]) (by kernel_rfl) (by simp) (AllReadyH.cons rfl (fun K hK => ?_) AllReadyH.nil)
            refine step_store_row rfl 49 (.tmp 4) (.tmp 30) rfl g #[.int .i64 I, .slice zb m zc] (by rfl) (by rfl) 49 #[.int .i64 0, .slice none 0 0] gz (by kernel_rfl) rfl (by simp [Value.oneCell']) rfl ?_
            refine hK.out _ _ (below_setRow hs lg _) (fun hs => ?_)
            clear hK K
            simp only [Act.put]
            refine wpAnyH_done (by kernel_rfl) ?_ _
            go_wp2_with fail
            go_meet
            exact take_mid gz hne q3 q1 q2 q4 lg hs
          · go_simp
            refine hK.out _ _ (hs.trans (Ext.alloc _ _)) (fun hs => ?_)
            clear hK K
            have gz := heap_alloc_new X (.cells #[.int .i64 0, .slice none 0 0] 49)
            obtain ⟨g, hg⟩ : ∃ g, g = X.heap.size := ⟨_, rfl⟩
            rw [← hg] at gz
            have lg : wr.heap.size ≤ g := by rw [hg]; exact HXX.out.size
            simp only [← hg]
            have HGg := Lib.hid hg
            clear hg
            refine wpAnyH_ready (rs := [11]) (by kernel_rfl) (by simp) (AllReadyH.cons rfl (fun K hK => ?_) AllReadyH.nil)
            go_simp
            go_at_call 49
            refine (HCl.out _ hs).mono ?_; rintro e w5 ⟨zb, zc, rfl, q3, q1, q2, q4, x5⟩
            go_wp2_with fail
            refine hK.out _ _ (hs.trans x5) (fun hs => ?_)
            clear hK K
            have hne : ∀ q, zb = some q → m ≠ 0 → q.block ≠ g := fun q hq hm0 => by have := q4 q hq; rw [World.size_alloc] at this; have := HGg.out; omega
            have q4 : Fresh wr zb := fun q hq => Nat.le_trans (HXX.out.trans (Ext.alloc _ _)).size (q4 q hq)
            have gz := x5.block gz
            refine wpAnyH_takeD (i := 12) (d := 30) (v := .agg #[.int .i64 I, .slice zb m zc]) rfl rfl (by kernel_rfl) (by kernel_rfl) (by kernel_rfl) (fun _ _ _ h => h) (Or.inl ⟨by rfl, fun W hW => by go_simp⟩) hs ?_
            simp only [Act.put, List.setIfInBounds_toArray, List.set_cons_succ, List.set_cons_zero]
            refine wpAnyH_ready (rs := [14]) (by kernel_rfl) (by simp) (AllReadyH.cons rfl (fun K hK => ?_) AllReadyH.nil)
            refine step_store_row rfl 49 (.tmp 4) (.tmp 30) rfl g #[.int .i64 I, .slice zb m zc] (by rfl) (by rfl) 49 #[.int .i64 0, .slice none 0 0] gz (by kernel_rfl) rfl (by simp [Value.oneCell']) rfl ?_
            refine hK.out _ _ (below_setRow hs lg _) (fun hs => ?_)
            clear hK K
            simp only [Act.put]
            refine wpAnyH_done (by kernel_rfl) ?_ _
            go_wp2_with fail
            go_meet
            exact take_mid gz hne q3 q1 q2 q4 lg hs
          -- END REGION
        case rest =>
          obtain ⟨g, zb, zc, W4, rfl, hwc, gz, q3, q1, q2, q4, lg, x4⟩ := hcut
          rw [hwc]
          clear hwc hX hs hX0 HXX hZ
          have HO5 := Lib.hid (HO.out.later (x4.trans (Ext.alloc W4 (.cells #[.int .i64 I, .slice zb m zc] 49))))
          have HX4 := Lib.hid (HXR.out.trans x4)
          have hzA : ObjAt W4 ⟨I, zb, m, zc, fun i => f (j + 2 + i)⟩ := ⟨q3, q1, q2, by have := HML.out; show m ≤ _; omega, HZB.out, HZI.out⟩
          have HZA := Lib.hid hzA
          have hnew := heap_alloc_new W4 (.cells #[.int .i64 I, .slice zb m zc] 49)
          have HNW : Hid (HoldsL 2 obL (W4.alloc (.cells #[.int .i64 I, .slice zb m zc] 49)) (some ⟨W4.heap.size, 0, none⟩) [(⟨I, zb, m, zc, fun i => f (j + 2 + i)⟩ : Ob)]) := Lib.hid (.inr ⟨W4.heap.size, 0, rfl, by simp, fun i x hx k v hv => by
            have hi : i = 0 := by
              rcases Nat.lt_or_ge i 1 with h | h
              · omega
              · rw [List.getElem?_eq_none (by simpa using h)] at hx; cases hx
            subst hi
            cases hx
            rw [show 0 + 0 * 2 + k = k by omega, cell_of_row _ _ _ _ _ _ hnew, ← Array.getElem?_toList]; exact hv⟩)
          have HFr := Lib.hid (And.intro q4 (And.intro lg x4.size))
          have GZ := Lib.hid gz
          have c0 := cell_of_heap (j := 0) gz rfl
          have c1 := cell_of_heap (j := 1) gz rfl
          have lz := heap_lt gz
          have hBw : B ≤ (W4.alloc (.cells #[.int .i64 I, .slice zb m zc] 49)).heap.size := by rw [HB.out]; exact (HX4.out.trans (Ext.alloc _ _)).size
          have hM600 : M.length + 1 ≤ 601 := by have := HML.out; omega
          clear q3 q1 q2 q4 lg x4 hzA hnew gz
          go_upto_region 5 with (at_builtin; refine wpList_append_listK rfl _ _ 22 rfl B 49 io (.agg #[.int .i64 0, .slice none 0 0]) 32 Try.underlying22 hio ho0 ho1 ho2 rfl (by decide) obL_length (fun y u hu => by simp only [obL, List.mem_cons, List.not_mem_nil, or_false] at hu; rcases hu with rfl | rfl <;> rfl) u3 M.length M (by rfl) HO5.out.own (some ⟨W4.heap.size, 0, none⟩) 1 [(⟨I, zb, m, zc, fun i => f (j + 2 + i)⟩ : Ob)] 1 rfl (by rfl) HNW.out (by decide) (by unfold maxLen; omega) (by omega) hBw ?_; intro g8 cap w8 hown8 hgr8 hg8)
          have hown3 : ∀ q, u3.ownBlock = some q → q < wr.heap.size := fun q hq => (HO.out.own.lt q hq).2
          have b8 : w8.heap[g]? = some (.cells #[.int .i64 I, .slice zb m zc] 49 (0, 0)) := (hgr8.block g (by simp; omega) (fun e => by have h1 := hown3 g e.symm; have h2 := HFr.out.2.1; omega)).trans ((heap_alloc_old _ _ lz).trans GZ.out)
          have hO8 := OutI.push HO5.out (N := [(⟨I, zb, m, zc, fun i => f (j + 2 + i)⟩ : Ob)]) (fun y hy => by rw [List.mem_singleton.1 hy]; exact HZA.out.ext (Ext.alloc _ _)) (fun y hy hn p' hp e => by
            rw [List.mem_singleton.1 hy] at hp
            have h1 := hown3 _ e
            have h2 := HFr.out.1 _ hp
            omega) hown8 hgr8 hg8
          have hx8 : Ext w w8 := Below.trans (HX4.out.trans (Ext.alloc W4 _)) (by rw [← HB.out]; exact (Below.refl B _).grown hgr8 hBw (fun q hq => (HO5.out.own.lt q hq).1))
          have HSz := Lib.hid (size_any ⟨I, zb, m, zc, fun i => f (j + 2 + i)⟩ w8 (hO8.each _ (by simp)) (by have := HML.out; show m ≤ _; omega))
          unfold obC at HSz
          have HO8 := Lib.hid hO8
          have HX8 := Lib.hid hx8
          have d0 := cell_of_heap (j := 0) b8 rfl
          have d1 := cell_of_heap (j := 1) b8 rfl
          have l8 := heap_lt b8
          have HMo := Lib.hid hO8
          obtain ⟨v8, hv8⟩ : ∃ v8, Value.slice (some ⟨g8, 0, none⟩) (M.length + 1) cap = v8 := ⟨_, rfl⟩
          have HV8 : Hid (OutI w8 B v8 (M ++ [(⟨I, zb, m, zc, fun i => f (j + 2 + i)⟩ : Ob)])) := Lib.hid (by rw [← hv8]; exact hO8)
          rw [hv8]
          clear hown8 hgr8 hg8 hO8 hx8 b8 hown3 hv8 HMo HO8 c0 c1 lz hBw hM600
          go_wp2_with fail
          refine HSz.out.mono ?_; rintro e w9 ⟨rfl, x9⟩
          have HX9 := Lib.hid x9
          clear x9 d0 d1 l8
          have hkk0 := HJ.out.2.2.2.1
          have hR2' := HMI.out.2.2.1
          obtain ⟨k', hk'⟩ : ∃ k', kk = k' + 1 := ⟨kk - 1, by omega⟩
          have HNX : Hid (∀ A', Holds .u8 w A' (R - (2 + m)) (fun i => f (j + (2 + m) + i)) → ∃ (j' : Nat) (A : Option Addr) (M : List Ob) (kk : Nat), j' ≤ n ∧ Value.slice A' (R - (2 + m)) (D - (2 + m)) = .slice A (n - j') (c - j') ∧ Holds .u8 w A (n - j') (fun i => f (j' + i)) ∧ OutI w9 B v8 M ∧ (∀ z ∈ M, z.n ≤ 255 ∧ (z.n ≠ 0 → Fresh w z.a)) ∧ n - j' ≤ kk ∧ sameO (M ++ parI kk (l.drop j')) (parI k0 l) = true ∧ 2 * M.length ≤ j' ∧ Ext w w9) := Lib.hid (fun A' hA' => by
            obtain ⟨jn, hR, hD, hkk, hsm, hMl, hRD⟩ := HJ.out
            obtain ⟨hm, hI, hR2, hRm⟩ := HMI.out
            obtain ⟨-, hn, hnc, hcm, hf, h6, hll, hof⟩ := HI.out
            refine ⟨j + 2 + m, A', M ++ [⟨I, zb, m, zc, fun i => f (j + 2 + i)⟩], k', by omega, by rw [← hR, ← hD]; congr 1 <;> omega, ?_, HV8.out.later HX9.out, fun z hz => ?_, by omega, ?_, by rw [List.length_append, List.length_singleton]; omega, HX8.out.trans HX9.out⟩
            · rw [show n - (j + 2 + m) = R - (2 + m) by omega, show (fun i => f (j + 2 + m + i)) = (fun i => f (j + (2 + m) + i)) from funext fun i => by rw [show j + 2 + m + i = j + (2 + m) + i by omega]]; exact hA'
            · rcases List.mem_append.1 hz with hz | hz
              · exact HM.out z hz
              · rw [List.mem_singleton.1 hz]; exact ⟨HML.out.2, fun _ q hq => Nat.le_trans HXR.out.size (HFr.out.1 q hq)⟩
            · have hps := parO_step (k := k') (j := j) (m := m) (l := l) (i := I) (mm := m) (by omega) (by rw [hof j (by omega), hI]) (by rw [hof (j + 1) (by omega), hm]) (Int.toNat_natCast m)
              rw [hk', hps] at hsm
              refine sameO_trans ?_ hsm
              have e : ∀ (y : Ob) (P : List Ob), M ++ y :: P = (M ++ [y]) ++ P := fun y P => by simp
              rw [e ⟨I, none, m, m, ofL ((l.drop (j + 2)).take m)⟩ (parI k' (l.drop (j + 2 + m)))]
              refine sameO_append (sameO_append (sameO_refl _) (sameO_one (sameZ_iff.2 ⟨rfl, rfl, fun i hi => ?_⟩))) (sameO_refl _)
              show f (j + 2 + i) = ofL ((l.drop (j + 2)).take m) i
              have hi' : i < m := hi
              rw [← hof (j + 2 + i) (by omega)]
              unfold ofL
              simp [List.getD_eq_getElem?_getD, hi'])
          have HMS : Hid (R - (2 + m) < R) := Lib.hid (by omega)
          clear hk' hkk0 hR2'
          obtain ⟨A8, hA8⟩ : ∃ A8, (if D = 2 + m then some ⟨p, o, none⟩ else some (⟨p, o + (2 + m), none⟩ : Addr)) = A8 := ⟨_, rfl⟩
          have HH0 : Hid (Holds .u8 w A8 (R - (2 + m)) (fun i => f (j + (2 + m) + i))) := Lib.hid (by
            by_cases hn6 : R - (2 + m) = 0
            · exact .inl hn6
            · have := HJ.out.2.2.2.2.2.2
              rw [if_neg (by omega)] at hA8
              rw [← hA8]
              refine .inr ⟨p, o + (2 + m), rfl, HC8.out.1, fun i hi => ?_⟩
              have := HC8.out.2 (2 + m + i) (by omega)
              show w.cell? ⟨p, o + (2 + m) + i, none⟩ = some (.int .u8 (f (j + (2 + m) + i)))
              rw [show o + (2 + m) + i = o + (2 + m + i) by omega, show j + (2 + m) + i = j + (2 + m + i) by omega]; exact this)
          go_wp2
          go_roundw
          case rel => exact HNX.out _ HH0.out
          case measure => simp [slLen]; exact HMS.out
      | false =>
        have hnq := of_decide_eq_false HQ.out.symm
        obtain ⟨jn, hR, hD, hkk, hsm, hMl, hRD⟩ := HJ.out
        obtain ⟨-, hn, hnc, hcm, hf, h6, hll, hof⟩ := HI.out
        have hpe : parI kk (l.drop j) = [] := by
          refine parO_end (by
            by_cases h2 : R < 2
            · left; omega
            · right
              rw [hof (j + 1) (by omega), hll, hR]
              have : ¬ f (j + 1) ≤ (R : Int) - 2 := fun h => hnq ⟨by omega, h⟩
              omega) ?_
          by_cases hj : j + 1 < n
          · rw [hof _ hj]; exact (hf _ hj).1
          · unfold ofL; simp [List.getD_eq_getElem?_getD, List.getElem?_eq_none (show l.length ≤ j + 1 by omega)]
        rw [hpe, List.append_nil] at hsm
        obtain ⟨av, cv, hv, q1, q2, q3, q4⟩ := HoldsL.of_own obL_length HO.out.own rfl
        subst hv
        have HFin := Lib.hid (⟨⟨rfl, q3, q1, q2, HO.out.each⟩, hsm, (fun p hp => by rw [← HB.out]; exact q4 p hp), HM.out, by omega, HXR.out⟩ : ObjsAt wr av M.length cv M ∧ sameO M (parI k0 l) = true ∧ Fresh w av ∧ (∀ z ∈ M, z.n ≤ 255 ∧ (z.n ≠ 0 → Fresh w z.a)) ∧ 2 * M.length ≤ n ∧ Ext w wr)
        clear hnq jn hR hD hkk hsm hMl hRD hn hnc hcm hf h6 hll hof hpe q1 q2 q3 q4
        go_wp2
        go_ret
        exact ⟨M, av, cv, rfl, HFin.out⟩
end Go.Proofs.Ythdkhdbabohohaa
