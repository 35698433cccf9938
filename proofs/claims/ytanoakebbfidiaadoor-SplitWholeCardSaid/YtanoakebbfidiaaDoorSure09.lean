/-
  THE LAWS OF LAYER 9: 'sure'.
-/
import Derived.Test.YtanoakebbfidiaaDoorSplitC
import Derived.Test.YtanoakebbfidiaaDoorCutA
import Derived.Test.YtanoakebbfidiaaDoorLaw09B
import Derived.Deep.RegionHeld3
namespace Go.Proofs.YtanoakebbfidiaaDoor
open Go.RowKit
set_option linter.unusedVariables false
theorem allS_sure : ∃ f0 f1, allS 1 2 4 0 0 [(3, 7, false), (4, 8, false), (9, 9, false)] = [⟨2, f0, 3, 4, 2, true, false⟩, ⟨1, f1, 9, 9, 1, false, false⟩] ∧ f1 0 = 9 := by
  unfold allS
  rw [if_pos (by constructor <;> decide)]
  refine ⟨_, _, rfl, ?_⟩
  decide
theorem map_two {L : List SegP} {s0 s1 : Seg} (h : L.map Prod.snd = [s0, s1]) : ∃ x0 x1, L = [(x0, s0), (x1, s1)] := by
  match L, h with
  | [(x0, _), (x1, _)], h =>
    simp only [List.map_cons, List.map_nil, List.cons.injEq, and_true] at h
    exact ⟨x0, x1, by rw [h.1, h.2]⟩
set_option maxRecDepth 100000 in
set_option maxHeartbeats 8000000 in
theorem sure9_any (w : World) (hr : Rd w) : Calls Tryd.prog 8 #[] w fun e w' => e = .returned (.bool true) ∧ Ext w w' := by
  obtain ⟨f0, f1, hall, hf1⟩ := allS_sure
  obtain ⟨w0, hw0⟩ : ∃ w0, w0 = (w.alloc (.cells #[.int .i64 1, .int .i64 2, .int .i64 4, .int .i64 0] 24)).alloc (.cells #[.int .i64 3, .int .u8 7, .bool false, .int .i64 4, .int .u8 8, .bool false, .int .i64 9, .int .u8 9, .bool false] 39) := ⟨_, rfl⟩
  have x0 : Ext w w0 := by rw [hw0]; exact (Ext.alloc _ _).alloc' _
  have hL : HoldsL 3 byt w0 (some ⟨w.heap.size + 1, 0, none⟩) [(3, 7, false), (4, 8, false), (9, 9, false)] := by
    have hg : w0.heap[w.heap.size + 1]? = some (.cells #[.int .i64 3, .int .u8 7, .bool false, .int .i64 4, .int .u8 8, .bool false, .int .i64 9, .int .u8 9, .bool false] 39 (0, 0)) := by rw [hw0]; exact heap_alloc2_new _ _ _
    refine .inr ⟨w.heap.size + 1, 0, rfl, heap_lt hg, fun i x hx j v hv => ?_⟩
    have hi : i < 3 := by
      rcases Nat.lt_or_ge i 3 with h | h
      · exact h
      · rw [List.getElem?_eq_none (by simpa using h)] at hx; cases hx
    have hj : j < 3 := by
      rcases Nat.lt_or_ge j 3 with h | h
      · exact h
      · rw [List.getElem?_eq_none (by simpa [byt] using h)] at hv; cases hv
    rw [cell_of_row _ _ _ _ _ _ hg]
    rcases (show i = 0 ∨ i = 1 ∨ i = 2 by omega) with rfl | rfl | rfl <;> rcases (show j = 0 ∨ j = 1 ∨ j = 2 by omega) with rfl | rfl | rfl <;> simp at hx <;> subst hx <;> simpa [byt] using hv
  have hWf : WfB [(3, 7, false), (4, 8, false), (9, 9, false)] := by
    intro x hx
    simp only [List.mem_cons, List.not_mem_nil, or_false] at hx
    rcases hx with rfl | rfl | rfl <;> exact ⟨rfl, rfl⟩
  have h3 := sall_any (some ⟨w.heap.size + 1, 0, none⟩) 3 3 [(3, 7, false), (4, 8, false), (9, 9, false)] 1 2 4 0 0 w0 (hr.ext x0) hL rfl (Nat.le_refl _) (by unfold maxLen; omega) (by omega) hWf rfl rfl rfl rfl rfl
  rw [hall] at h3
  unfold timesC at h3
  have HR := Lib.hid hr
  clear hL hWf hall hr
  go_enter Tryd.func8, Tryd.ntmps8
  go_wp2_with fail
  rw [← hw0]
  clear hw0
  refine h3.mono ?_; rintro e w3 ⟨z3, u3, L3, rfl, x3, s3, r3⟩
  obtain ⟨⟨A0, c0⟩, ⟨A1, c1⟩, rfl⟩ := map_two r3
  clear h3 r3
  obtain ⟨g, cap, hv, -⟩ := s3.own.form (Nat.succ_pos 1)
  injection hv with hv1 hv2 hv3
  subst hv1
  have hcell : ∀ k v, k < 12 → ([((A0, c0), (⟨2, f0, 3, 4, 2, true, false⟩ : Seg)), ((A1, c1), (⟨1, f1, 9, 9, 1, false, false⟩ : Seg))].flatMap segL)[k]? = some v → w3.cell? ⟨g, k, none⟩ = some v := fun k v hk hv => by
    rw [s3.own.cellAt k hk]; exact hv
  have p0 := hcell 0 _ (by decide) rfl; have p1 := hcell 1 _ (by decide) rfl; have p2 := hcell 2 _ (by decide) rfl; have p3 := hcell 3 _ (by decide) rfl; have p4 := hcell 4 _ (by decide) rfl; have p5 := hcell 5 _ (by decide) rfl
  have p6 := hcell 6 _ (by decide) rfl; have p7 := hcell 7 _ (by decide) rfl; have p8 := hcell 8 _ (by decide) rfl; have p9 := hcell 9 _ (by decide) rfl; have p10 := hcell 10 _ (by decide) rfl; have p11 := hcell 11 _ (by decide) rfl
  have hlt : g < w3.heap.size := World.block_lt_of_cell? w3 _ p0
  have HS := Lib.hid (fun w' (x : Ext w3 w') => And.intro (x.cell hlt p0) (And.intro (x.cell hlt p1) (And.intro (x.cell hlt p2) (And.intro (x.cell hlt p3) (And.intro (x.cell hlt p4) (And.intro (x.cell hlt p5) (And.intro (x.cell hlt p6) (And.intro (x.cell hlt p7) (And.intro (x.cell hlt p8) (And.intro (x.cell hlt p9) (And.intro (x.cell hlt p10) (And.intro (x.cell hlt p11) x))))))))))))
  obtain ⟨h0, l0, m0, b0, -⟩ := s3.each ((A0, c0), ⟨2, f0, 3, 4, 2, true, false⟩) (by simp)
  obtain ⟨h1, l1, m1, b1, -⟩ := s3.each ((A1, c1), ⟨1, f1, 9, 9, 1, false, false⟩) (by simp)
  simp only at h0 l0 m0 h1 l1 m1
  have hr3 : Rd w3 := (HR.out.ext x0).ext x3
  have F0 := Lib.hid (fun w' (x : Ext w3 w') => sfault_any A0 c0 ⟨2, f0, 3, 4, 2, true, false⟩ w' (hr3.ext x) (h0.ext x) l0 m0 (Nat.le_of_ble_eq_true rfl) b0)
  have F1 := Lib.hid (fun w' (x : Ext w3 w') => sfault_any A1 c1 ⟨1, f1, 9, 9, 1, false, false⟩ w' (hr3.ext x) (h1.ext x) l1 m1 (Nat.le_of_ble_eq_true rfl) b1)
  have E1 := Lib.hid (fun w' (x : Ext w3 w') => serrs_any A1 c1 ⟨1, f1, 9, 9, 1, false, false⟩ w' (hr3.ext x) (h1.ext x) l1 m1 (Nat.le_of_ble_eq_true rfl) b1)
  have S0 := Lib.hid (fun w' (x : Ext w3 w') => ssame_any A0 A0 c0 c0 ⟨2, f0, 3, 4, 2, true, false⟩ ⟨2, f0, 3, 4, 2, true, false⟩ w' (h0.ext x) (h0.ext x) b0 b0)
  have S1 := Lib.hid (fun w' (x : Ext w3 w') => ssame_any A0 A1 c0 c1 ⟨2, f0, 3, 4, 2, true, false⟩ ⟨1, f1, 9, 9, 1, false, false⟩ w' (h0.ext x) (h1.ext x) b0 b1)
  rw [show faultI ⟨2, f0, 3, 4, 2, true, false⟩ = 3 from rfl] at F0
  rw [show faultI ⟨1, f1, 9, 9, 1, false, false⟩ = 4 from rfl] at F1
  rw [show errsB ⟨1, f1, 9, 9, 1, false, false⟩ = false from rfl] at E1
  rw [sameB_self] at S0
  rw [show sameB ⟨2, f0, 3, 4, 2, true, false⟩ ⟨1, f1, 9, 9, 1, false, false⟩ = false from rfl] at S1
  unfold segC at F0 F1 E1 S0 S1
  have H1 := Lib.hid (fun w' (x : Ext w3 w') => h1.ext x)
  have X3 := Lib.hid (x0.trans x3)
  have y0 : Ext w3 w3.drew := Ext.drew _
  have HNine := Lib.hid (show ∀ i, i < 1 → (#[Value.int .u8 9] : Array Value)[i]? = some (.int .u8 ((fun _ => 9 : Nat → Int) i)) from fun i hi => by
    have hi0 : i = 0 := by omega
    rw [hi0]; rfl)
  have HEq := Lib.hid (show eqB 1 1 f1 (fun _ => 9) = true from eqB_true rfl fun i hi => by
    have hi0 : i = 0 := by omega
    rw [hi0, hf1])
  clear hcell h0 l0 m0 b0 h1 l1 m1 b1 hr3 x3 s3 hv3 hv2
  go_wp2_with fail
  simp only [List.append]
  go_region_held3 (fun w' => w'.cell? ⟨g, 0, none⟩ = some (.slice A0 2 c0) ∧ w'.cell? ⟨g, 1, none⟩ = some (.int .i64 3) ∧ w'.cell? ⟨g, 2, none⟩ = some (.int .i64 4) ∧ w'.cell? ⟨g, 3, none⟩ = some (.int .i64 2) ∧ w'.cell? ⟨g, 4, none⟩ = some (.bool true) ∧ w'.cell? ⟨g, 5, none⟩ = some (.bool false) ∧
      w'.cell? ⟨g, 6, none⟩ = some (.slice A1 1 c1) ∧ w'.cell? ⟨g, 7, none⟩ = some (.int .i64 9) ∧ w'.cell? ⟨g, 8, none⟩ = some (.int .i64 9) ∧ w'.cell? ⟨g, 9, none⟩ = some (.int .i64 1) ∧ w'.cell? ⟨g, 10, none⟩ = some (.bool false) ∧ w'.cell? ⟨g, 11, none⟩ = some (.bool false) ∧ Ext w3 w')
    ((first | exact HS.out _ (by assumption) | exact HS.out _ (ext_drew (Ext.alloc _ _)) | exact HS.out _ (Ext.alloc' (by assumption) _)))
    (first
      | (go_at_call 21; refine (bytes_any A1 _ 1 1 _ _ f1 (fun _ => 9) _ (H1.out _ (by first | exact ext_drew (Ext.alloc _ _) | exact Ext.alloc' (by assumption) _)) (by first | exact (Holds.new (k := .u8) _ #[.int .u8 9] _ 1 (fun _ => 9) HNine.out).ext (Ext.drew _) | exact Holds.new (k := .u8) _ #[.int .u8 9] _ 1 (fun _ => 9) HNine.out) (Nat.le_of_ble_eq_true rfl) (Nat.le_of_ble_eq_true rfl)).mono ?_; rintro e w5 ⟨rfl, q5⟩; rw [HEq.out]; have y5 : Ext w3 w5 := Ext.trans (ext_drew (Ext.alloc _ _)) (Ext.of_drewN q5); clear q5)
      | (go_at_call_of 14 A1; refine (F1.out _ (by assumption)).mono ?_; rintro e w7 ⟨rfl, x7⟩; have y7 := Ext.trans y6 x7)
      | (go_at_call_of 14 A0; refine (F0.out _ (by assumption)).mono ?_; rintro e w6 ⟨rfl, x6⟩; have y6 := Ext.trans y5 x6)
      | (go_at_call 16; refine (E1.out _ (by assumption)).mono ?_; rintro e w8 ⟨rfl, x8⟩; have y8 := Ext.trans y7 x8)
      | (go_at_call_of 18 A1; refine (S1.out _ (by assumption)).mono ?_; rintro e w10 ⟨rfl, x10⟩; have y10 := Ext.trans y9 x10)
      | (go_at_call_of 18 A0; refine (S0.out _ (by assumption)).mono ?_; rintro e w9 ⟨rfl, x9⟩; have y9 := Ext.trans y8 x9))
  clear p0 p1 p2 p3 p4 p5 p6 p7 p8 p9 p10 p11
  go_wp2
  go_ret
  exact ⟨rfl, X3.out.trans y10⟩
end Go.Proofs.YtanoakebbfidiaaDoor
