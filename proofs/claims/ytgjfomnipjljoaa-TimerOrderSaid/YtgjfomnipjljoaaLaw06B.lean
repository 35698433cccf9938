/-
  THE LAWS OF LAYER 6: one call, both ways ('op').
-/
import Derived.Test.YtgjfomnipjljoaaLaw06A
import Derived.Deep.RegionHeld3
namespace Go.Proofs.Ytgjfomnipjljoaa
open Go.RowKit

/-- What 'op' tells: a queue and a list that hold the same, and that they told the same. -/
def OpPost (F : Nat → Prop) (w : World) (e : Ending) (w' : World) : Prop :=
  ∃ (r : Nat) (G : Nat → Prop) (x : Option Addr) (y : Nat) (M : List (Int × Int)), e = .returned (.tuple #[.pointer (some ⟨r, 0, none⟩), .slice x M.length y, .bool true]) ∧ M.length ≤ y ∧ y ≤ maxLen ∧ TQ w' r G M ∧ HoldsL 2 two w' x M ∧ OffN G x M.length ∧ Keep F w w' ∧ Grows F G w
theorem set_off {F : Nat → Prop} {w : World} {a x : Option Addr} {L M : List (Int × Int)} (h : (x = a ∧ M = L) ∨ Fresh w x) (ho : OffN F a L.length) (hF : ∀ i, F i → i < w.heap.size) : OffN F x M.length := by
  rcases h with ⟨rfl, rfl⟩ | h
  · exact ho
  · exact .inr (h.off hF)
section
variable (p : Nat) (F : Nat → Prop) (L : List (Int × Int)) (a : Option Addr) (c : Nat) (q t : Int) (w : World)
  (T : TQ w p F L) (ha : HoldsL 2 two w a L) (hc : L.length ≤ c) (hcm : c ≤ maxLen) (ho : OffN F a L.length) (hq : (Lit.int .i64 q).wf = true) (ht : (Lit.int .i64 t).wf = true)
include T ha hc hcm ho hq ht
set_option maxHeartbeats 1600000 in
theorem op_set : Calls Try.prog 8 #[.pointer (some ⟨p, 0, none⟩), .slice a L.length c, .agg #[.int .i64 0, .int .i64 q, .int .i64 t]] w (OpPost F w) := by
  have hlt := T.lt
  have hn := T.sorted.few
  have x0 : Ext w (w.alloc (.cells #[.int .i64 0, .int .i64 q, .int .i64 t] 30)) := Ext.alloc _ _
  have T0 := T.keep (.of_ext x0) (G := fun _ => False) (fun _ _ h => h)
  have hRef := Lib.hid (rset_any a L.length c L q t _ (ha.ext x0) rfl (by omega) hc hcm)
  have HO := Lib.hid ho
  have HC := Lib.hid hlt
  obtain ⟨n, hnn⟩ : ∃ n, n = L.length := ⟨_, rfl⟩
  rw [← hnn] at hc hn hRef ⊢
  clear T ha ho hlt hc hcm hnn hn
  go_enter Try.func8, Try.ntmps8
  go_wp2_with fail
  refine hRef.out.mono ?_; rintro e w1 ⟨x, y, rfl, ly, ym, h1, x1, f1⟩
  clear hRef
  have c1 := x1.made 1 _ rfl
  have c2 := x1.made 2 _ rfl
  have T1 := T0.keep (.of_ext x1) (G := fun _ => False) (fun _ _ h => h)
  obtain ⟨B, hB⟩ : ∃ B, B = w.heap.size := ⟨_, rfl⟩
  rw [← hB] at c1 c2 ⊢
  have o1 : OffN F x (setI L q t).1.length := set_off f1 HO.out fun i hi => Nat.lt_of_lt_of_le (HC.out i hi) x0.size
  have z1 := x0.trans x1
  have HK := Lib.hid (kset_any p F L q t w1 T1 hq ht)
  clear T0 x1 f1 x0 T1 hB
  generalize setI L q t = S at *
  obtain ⟨M, cd⟩ := S
  simp only at h1 ly o1 HK ⊢
  go_wp2_with fail
  refine HK.out.mono ?_; rintro e w2 ⟨G, rfl, k2, T2, g2⟩
  clear HK c1 c2
  go_wp2
  go_ret3
  exact ⟨p, G, x, y, M, rfl, ly, ym, T2, h1.keepN k2 o1, o1.grows g2 h1, (Keep.of_ext z1).trans k2 (fun _ h => .inl h), fun i hi => (g2 i hi).imp id (fun h => Nat.le_trans z1.size h)⟩
set_option maxHeartbeats 1600000 in
theorem op_due : Calls Try.prog 8 #[.pointer (some ⟨p, 0, none⟩), .slice a L.length c, .agg #[.int .i64 2, .int .i64 q, .int .i64 t]] w (OpPost F w) := by
  have _ := hq
  have hlt := T.lt
  have hn := T.sorted.few
  have hd := dueN_le L t
  have x0 : Ext w (w.alloc (.cells #[.int .i64 2, .int .i64 q, .int .i64 t] 30)) := Ext.alloc _ _
  have T0 := T.keep (.of_ext x0) (G := fun _ => False) (fun _ _ h => h)
  have hRef := Lib.hid (rdue_any a L.length c L t _ (ha.ext x0) rfl (by omega) hc hcm)
  have HO := Lib.hid ho
  have HC := Lib.hid hlt
  obtain ⟨n, hnn⟩ : ∃ n, n = L.length := ⟨_, rfl⟩
  have HN := Lib.hid hnn
  have HI := Lib.hid (fun (z v : Option Addr) (u s : Nat) w' (hz : Holds .i64 w' z (dueN L t) (dueF L)) (hv : Holds .i64 w' v (dueN L t) (dueF L)) => ints_any z v (dueN L t) (dueN L t) u s (dueF L) (dueF L) w' hz hv (by omega) (by omega))
  obtain ⟨m, hm⟩ : ∃ m, m = dueN L t := ⟨_, rfl⟩
  obtain ⟨M, hM⟩ : ∃ M, M = L.drop (dueN L t) := ⟨_, rfl⟩
  have hMl : M.length = n - m := by rw [hM, List.length_drop, hnn, hm]
  have HMl := Lib.hid hMl
  have hmn : m ≤ n := by omega
  have hm5 : m ≤ 256 := by omega
  have HK := Lib.hid (fun w' (T1 : TQ w' p F L) => kdue_any p F L t w' T1 ht)
  rw [← hM] at hRef HK
  rw [← hm] at hRef HK HI
  rw [← hnn] at hRef hc hn ⊢
  have HS := Lib.hid (show M ≠ [] → L ≠ [] by intro h1 h2; rw [hM, h2] at h1; simp at h1)
  clear T ha ho hlt hc hcm hnn hn hd hm hM hMl hq
  go_enter Try.func8, Try.ntmps8
  go_wp2_with fail
  refine hRef.out.mono ?_; rintro e w1 ⟨x, y, z, u, rfl, ly, ym, h1, hz1, x1, f1, fz, _, _⟩
  clear hRef
  have c2 := x1.made 2 _ rfl
  have T1 := T0.keep (.of_ext x1) (G := fun _ => False) (fun _ _ h => h)
  obtain ⟨B, hB⟩ : ∃ B, B = w.heap.size := ⟨_, rfl⟩
  rw [← hB] at c2 ⊢
  have o1 : OffN F x M.length := by
    by_cases hMe : M = []
    · exact .inl (by rw [hMe]; rfl)
    · rcases HO.out with e | e
      · exact absurd (List.eq_nil_of_length_eq_zero e) (HS.out hMe)
      · exact .inr (f1.off e)
  have oz : Off F z := fz.off fun i hi => Nat.lt_of_lt_of_le (HC.out i hi) x0.size
  have z1 := x0.trans x1
  have HK1 := Lib.hid (HK.out w1 T1)
  clear T0 x1 f1 fz x0 T1 hB HK
  go_wp2_with fail
  refine HK1.out.mono ?_; rintro e w2 ⟨G, v, s, rfl, _, _, hv2, k2, T2, g2, _, _⟩
  have hz2 := hz1.keep k2 oz
  clear HK1 c2
  go_wp2_with fail
  refine (HI.out v z _ _ w2 hv2 hz2).mono ?_; rintro e w3 ⟨rfl, q3⟩
  rw [eqB_true rfl (fun _ _ => rfl)]
  have x3 : Ext w2 w3 := Ext.of_drewN q3
  clear hv2 hz2
  go_wp2
  go_ret3
  exact ⟨p, G, x, y, M, by rw [HMl.out]; rfl, by rw [HMl.out]; exact ly, ym, T2.keep (.of_ext x3) (G := fun _ => False) (fun _ _ h => h), (h1.keepN k2 o1).ext x3, o1.grows g2 h1, ((Keep.of_ext z1).trans k2 (fun _ h => .inl h)).trans_ext x3, fun i hi => (g2 i hi).imp id (fun h => Nat.le_trans z1.size h)⟩
set_option maxHeartbeats 1600000 in
theorem op_drop : Calls Try.prog 8 #[.pointer (some ⟨p, 0, none⟩), .slice a L.length c, .agg #[.int .i64 1, .int .i64 q, .int .i64 t]] w (OpPost F w) := by
  have _ := hc; have _ := hcm; have _ := ho; have _ := ht
  have hlt := T.lt
  have hn := T.sorted.few
  have x0 : Ext w (w.alloc (.cells #[.int .i64 1, .int .i64 q, .int .i64 t] 30)) := Ext.alloc _ _
  have HT := Lib.hid (fun w' (x : Ext w w') => T.keep (.of_ext x) (G := fun _ => False) (fun _ _ h => h))
  have HL := Lib.hid (fun w' (x : Ext w w') => ha.ext x)
  have HFi := Lib.hid (fun w' (x : HoldsL 2 two w' a L) => rfind_any a L.length c L q w' x rfl (by omega))
  have HDr := Lib.hid (fun w' (x : HoldsL 2 two w' a L) => rdrop_any a L.length c L q w' x rfl (by omega))
  have HK := Lib.hid (fun w' (x : TQ w' p F L) => kdrop_any p F L q w' x hq)
  have HC := Lib.hid hlt
  obtain ⟨n, hnn⟩ : ∃ n, n = L.length := ⟨_, rfl⟩
  rw [← hnn] at hc hn HFi HDr ⊢
  obtain ⟨B, hB⟩ : ∃ B, B = w.heap.size := ⟨_, rfl⟩
  have c1 : (w.alloc (.cells #[.int .i64 1, .int .i64 q, .int .i64 t] 30)).cell? ⟨B, 1, none⟩ = some (.int .i64 q) := by rw [hB]; exact (Ext.refl _).made 1 _ rfl
  have HB := Lib.hid hB
  obtain ⟨M, hM⟩ : ∃ M, M = dropI L q := ⟨_, rfl⟩
  rw [← hM] at HDr HK
  generalize placeI L q = z at HFi HK
  clear T ha ho hlt hc hcm hnn hn hM ht
  go_enter Try.func8, Try.ntmps8
  go_wp2_with fail
  refine (HFi.out _ (HL.out _ x0)).mono ?_; rintro e w' ⟨rfl, rfl⟩
  clear HFi
  rw [← hB]
  clear hB
  go_wp2_with fail
  go_region_held3 (fun w' => w'.cell? ⟨B, 1, none⟩ = some (.int .i64 q))
    (first
      | exact c1
      | exact c2
      | exact c3
      | (go_keep; done))
    (first
      | (go_at_call 19; refine (HDr.out _ (HL.out _ (by (repeat (first | (with_reducible exact Ext.refl _) | (with_reducible assumption) | (with_reducible refine Ext.trans ?_ (Ext.drew _)) | (with_reducible refine Ext.trans ?_ (Ext.drewN _ _)) | (with_reducible refine Ext.alloc' ?_ _) | (with_reducible refine Ext.trans ?_ (by assumption))))))).mono ?_; rintro e w2 ⟨x, y, rfl, ly, ym, h2, x2, f2⟩; have c2 := Ext.cell x2 (by rw [HB.out]; simp) c1)
      | (go_at_call 16; refine (HK.out _ (HT.out _ (by (repeat (first | (with_reducible exact Ext.refl _) | (with_reducible assumption) | (with_reducible refine Ext.trans ?_ (Ext.drew _)) | (with_reducible refine Ext.trans ?_ (Ext.drewN _ _)) | (with_reducible refine Ext.alloc' ?_ _) | (with_reducible refine Ext.trans ?_ (by assumption))))))).mono ?_; rintro e w3 ⟨G, rfl, k3, T3, g3⟩; have c3 := Keep.cell k3 (fun h => absurd (HC.out _ h) (by rw [HB.out]; omega)) c2))
  have y2 : Ext w w2 := by (repeat (first | (with_reducible exact Ext.refl _) | (with_reducible assumption) | (with_reducible refine Ext.trans ?_ (Ext.drew _)) | (with_reducible refine Ext.trans ?_ (Ext.drewN _ _)) | (with_reducible refine Ext.alloc' ?_ _) | (with_reducible refine Ext.trans ?_ (by assumption))))
  have o2 : OffN F x M.length := .inr (f2.off fun i hi => Nat.lt_of_lt_of_le (HC.out i hi) (Ext.size (w := w) (by (repeat (first | (with_reducible exact Ext.refl _) | (with_reducible assumption) | (with_reducible refine Ext.trans ?_ (Ext.drew _)) | (with_reducible refine Ext.trans ?_ (Ext.drewN _ _)) | (with_reducible refine Ext.alloc' ?_ _) | (with_reducible refine Ext.trans ?_ (by assumption)))))))
  have hb : (decide (0 ≤ z) == decide (0 ≤ z)) = true := by simp
  clear c1 c2 c3
  go_wp2
  go_ret3
  exact ⟨p, G, x, y, M, rfl, ly, ym, T3, h2.keepN k3 o2, o2.grows g3 h2, (Keep.of_ext y2).trans k3 (fun _ h => .inl h), fun i hi => (g3 i hi).imp id (fun h => Nat.le_trans y2.size h)⟩
set_option maxHeartbeats 1600000 in
theorem op_clone (k : Int) (hk0 : k ≠ 0) (hk1 : k ≠ 1) (hk2 : k ≠ 2) : Calls Try.prog 8 #[.pointer (some ⟨p, 0, none⟩), .slice a L.length c, .agg #[.int .i64 k, .int .i64 q, .int .i64 t]] w (OpPost F w) := by
  have hlt := T.lt
  have x0 : Ext w (w.alloc (.cells #[.int .i64 k, .int .i64 q, .int .i64 t] 30)) := Ext.alloc _ _
  have T0 := T.keep (.of_ext x0) (G := fun _ => False) (fun _ _ h => h)
  have HL := Lib.hid (fun w' (x : Keep F w w') => ha.keepN x ho)
  have HA := Lib.hid (fun (G : Nat → Prop) v (h : Above v G) (x : Ext w v) => (ha.offN h x.size : OffN G a L.length))
  have HC := Lib.hid hlt
  obtain ⟨n, hnn⟩ : ∃ n, n = L.length := ⟨_, rfl⟩
  have HN := Lib.hid hnn
  rw [← hnn] at hc ⊢
  clear T ha ho hlt hnn
  go_enter Try.func8, Try.ntmps8
  go_wp2_with fail
  refine (kclone_any p F L _ T0).mono ?_; rintro e w1 ⟨r, G, rfl, x1, R1, n1⟩
  have c1 := x1.made 1 _ rfl
  have c2 := x1.made 2 _ rfl
  have T1 := T0.keep (.of_ext x1) (G := fun _ => False) (fun _ _ h => h)
  have hGF : ∀ i, G i → ¬ F i := fun i hi hf => absurd (n1 i hi) (by have := HC.out i hf; have := x0.size; omega)
  have z1 := x0.trans x1
  have nG : Above w G := n1.of x0
  have oG := HA.out G _ n1 x0
  obtain ⟨B, hB⟩ : ∃ B, B = w.heap.size := ⟨_, rfl⟩
  rw [← hB] at c1 c2 ⊢
  have hBF : ¬ F B := fun h => absurd (HC.out B h) (by omega)
  have hB1 : B < w1.heap.size := World.block_lt_of_cell? w1 _ c1
  clear T0 x0 x1 n1 hB HA
  go_wp2_with fail
  refine (kset_any p F L q t w1 T1 hq ht).mono ?_; rintro e w2 ⟨F1, rfl, k2, T2, g2⟩
  have d2 := k2.cell hBF c2
  have R2 := R1.keep k2 hGF
  have hGF1 : ∀ i, G i → ¬ F1 i := fun i hi hf => (g2 i hf).elim (hGF i hi) (fun h => absurd (R1.lt i hi) (by omega))
  clear c1 c2 T1 R1
  go_wp2_with fail
  refine (kdue_any p F1 _ t w2 T2 ht).mono ?_; rintro e w3 ⟨F2, v, s, rfl, _, _, _, k3, _, g3, _, _⟩
  have R3 := R2.keep k3 hGF1
  have k4 : Keep F w w3 := ((Keep.of_ext z1).trans k2 (fun _ h => .inl h)).trans k3 (fun i hi => (g2 i hi).imp id (fun h => Nat.le_trans z1.size h))
  have h4 := HL.out w3 k4
  clear d2 T2 R2 k2 k3 g2 g3 HL
  go_wp2
  go_ret3
  exact ⟨r, G, a, c, L, by rw [HN.out]; rfl, by rw [← HN.out]; exact hc, hcm, R3, h4, oG, k4, fun i hi => .inr (nG i hi)⟩
theorem op_any (k : Int) : Calls Try.prog 8 #[.pointer (some ⟨p, 0, none⟩), .slice a L.length c, .agg #[.int .i64 k, .int .i64 q, .int .i64 t]] w (OpPost F w) := by
  by_cases h0 : k = 0
  · subst h0; exact op_set p F L a c q t w T ha hc hcm ho hq ht
  by_cases h1 : k = 1
  · subst h1; exact op_drop p F L a c q t w T ha hc hcm ho hq ht
  by_cases h2 : k = 2
  · subst h2; exact op_due p F L a c q t w T ha hc hcm ho hq ht
  · exact op_clone p F L a c q t w T ha hc hcm ho hq ht k h0 h1 h2
end
end Go.Proofs.Ytgjfomnipjljoaa
