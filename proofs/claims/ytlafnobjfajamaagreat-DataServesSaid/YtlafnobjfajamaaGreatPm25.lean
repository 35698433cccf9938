/-
  CONTRACTS: package data (layer 17): what a job reads, tells and writes.
  LAYER 17, PLAIN: what a job comes to, function by function.
  CONTRACTS: package data (layer 17): the ten functions of a job, and which of them executes an ask.
  CONTRACTS: package data (layer 17): again, Writes, Do (the other packages' contracts as premises).
  CONTRACTS: bilgeref16 (layer 16): Parse.
  LAYER 16: package tell's contracts, as definitions over the function's number: what the laws take.
-/
import Derived.Test.YtlafnobjfajamaaGreatPm24
import Derived.Test.YtlafnobjfajamaaGreatPm6
import Derived.Test.YtlafnobjfajamaaGreatPm17
import Derived.Laws.CopyOwn
import Derived.Laws.Rows
import Derived.Deep.DeepCutAuto
import Derived.Test.YtlafnobjfajamaaGreatPm23
import Derived.Test.YtlafnobjfajamaaGreatPm13
namespace Go.Proofs.YtlafnobjfajamaaGreat
open Go.RowKit
set_option linter.unusedVariables false
set_option maxRecDepth 100000

set_option maxHeartbeats 1000000 in
theorem jcoils_v (hB : FBitsC 135) {g : Nat} {U : QstV} {Q : Qst} {V : FilV} {F : Fil} {X : QstV} {T : Tel} (x k : Int) (w : World) (h : JobAt w g U Q V F X T) (wx : (Lit.int .i64 x).wf = true) (wk : (Lit.int .i64 k).wf = true) :
    Calls Tryz.prog 109 #[.pointer (some ⟨g, 0, none⟩), .int .i64 x, .int .i64 k] w (SlP Value.bool (bitE F false x k) (bitN F false x k) (bitL F false x) w) := by
  have K := Lib.hid (hB V F false x k w h.f wx wk)
  have HR := Lib.hid (job_now h.row)
  clear h
  go_enter Tryz.func109, Tryz.ntmps109
  go_wp2_with (first
    | (refine wpList_load_arr rfl 29 (.tmp 10) rfl g 10 rfl (filC V F) _ HR.out Tryz.underlying29 rfl (by kernel_rfl) ?_))
  refine (K.out).mono ?_; rintro e w1 ⟨b, q, rfl, h1, h2, h3, h4, h5⟩
  go_wp2
  go_ret2
  exact ⟨b, q, rfl, h1, h2, h3, h4, h5⟩
set_option maxHeartbeats 1000000 in
theorem jinputs_v (hB : FBitsC 135) {g : Nat} {U : QstV} {Q : Qst} {V : FilV} {F : Fil} {X : QstV} {T : Tel} (x k : Int) (w : World) (h : JobAt w g U Q V F X T) (wx : (Lit.int .i64 x).wf = true) (wk : (Lit.int .i64 k).wf = true) :
    Calls Tryz.prog 110 #[.pointer (some ⟨g, 0, none⟩), .int .i64 x, .int .i64 k] w (SlP Value.bool (bitE F true x k) (bitN F true x k) (bitL F true x) w) := by
  have K := Lib.hid (hB V F true x k w h.f wx wk)
  have HR := Lib.hid (job_now h.row)
  clear h
  go_enter Tryz.func110, Tryz.ntmps110
  go_wp2_with (first
    | (refine wpList_load_arr rfl 29 (.tmp 10) rfl g 10 rfl (filC V F) _ HR.out Tryz.underlying29 rfl (by kernel_rfl) ?_))
  refine (K.out).mono ?_; rintro e w1 ⟨b, q, rfl, h1, h2, h3, h4, h5⟩
  go_wp2
  go_ret2
  exact ⟨b, q, rfl, h1, h2, h3, h4, h5⟩
set_option maxHeartbeats 1000000 in
theorem jholding_v (hB : FWordsC 136) {g : Nat} {U : QstV} {Q : Qst} {V : FilV} {F : Fil} {X : QstV} {T : Tel} (x k : Int) (w : World) (h : JobAt w g U Q V F X T) (wx : (Lit.int .i64 x).wf = true) (wk : (Lit.int .i64 k).wf = true) :
    Calls Tryz.prog 112 #[.pointer (some ⟨g, 0, none⟩), .int .i64 x, .int .i64 k] w (SlP (Value.int .u16) (wrdE F false x k) (wrdN F false x k) (wrdL F false x) w) := by
  have K := Lib.hid (hB V F false x k w h.f wx wk)
  have HR := Lib.hid (job_now h.row)
  clear h
  go_enter Tryz.func112, Tryz.ntmps112
  go_wp2_with (first
    | (refine wpList_load_arr rfl 29 (.tmp 10) rfl g 10 rfl (filC V F) _ HR.out Tryz.underlying29 rfl (by kernel_rfl) ?_))
  refine (K.out).mono ?_; rintro e w1 ⟨b, q, rfl, h1, h2, h3, h4, h5⟩
  go_wp2
  go_ret2
  exact ⟨b, q, rfl, h1, h2, h3, h4, h5⟩
set_option maxHeartbeats 1000000 in
theorem jregs_v (hB : FWordsC 136) {g : Nat} {U : QstV} {Q : Qst} {V : FilV} {F : Fil} {X : QstV} {T : Tel} (x k : Int) (w : World) (h : JobAt w g U Q V F X T) (wx : (Lit.int .i64 x).wf = true) (wk : (Lit.int .i64 k).wf = true) :
    Calls Tryz.prog 113 #[.pointer (some ⟨g, 0, none⟩), .int .i64 x, .int .i64 k] w (SlP (Value.int .u16) (wrdE F true x k) (wrdN F true x k) (wrdL F true x) w) := by
  have K := Lib.hid (hB V F true x k w h.f wx wk)
  have HR := Lib.hid (job_now h.row)
  clear h
  go_enter Tryz.func113, Tryz.ntmps113
  go_wp2_with (first
    | (refine wpList_load_arr rfl 29 (.tmp 10) rfl g 10 rfl (filC V F) _ HR.out Tryz.underlying29 rfl (by kernel_rfl) ?_))
  refine (K.out).mono ?_; rintro e w1 ⟨b, q, rfl, h1, h2, h3, h4, h5⟩
  go_wp2
  go_ret2
  exact ⟨b, q, rfl, h1, h2, h3, h4, h5⟩
/-- Telling cells that are read by a method value. -/
def ToldP (g : Nat) (U : QstV) (Q : Qst) (V : FilV) (F : Fil) (E : Int) (T : Tel) (w : World) (e : Ending) (w' : World) : Prop := e = .returned (.int .i64 E) ∧ Keep (fun i => i = g) w w' ∧ ∃ X, JobAt w' g U Q V F X T
set_option maxHeartbeats 4000000 in
theorem jtellBits_v (R : FuncId) (E : Int) (N : Nat) (L : Nat → Bool) {g : Nat} {U : QstV} {Q : Qst} {V : FilV} {F : Fil} {X : QstV} {T : Tel} (w : World) (h : JobAt w g U Q V F X T)
    (henters : ∀ (args : Array Value) (w : World), (callFunc R args).run Tryz.prog w = .ok (.enter R args) w)
    (ht : ∀ W, Ext w W → Calls Tryz.prog R #[.pointer (some ⟨g, 0, none⟩), .int .i64 Q.ad, .int .i64 Q.ct] W (SlP Value.bool E N L W)) :
    Calls Tryz.prog 108 #[.pointer (some ⟨g, 0, none⟩), .func (Fn.func R) #[.pointer (some ⟨g, 0, none⟩)] #[]] w (ToldP g U Q V F E { zeroT with k := Q.k, nb := N, B := L } w) := by
  have HT := Lib.hid ht
  have HJ0 := Lib.hid h
  have hs : InJob w g U Q w.drew := ⟨Keep.of_ext (Ext.drew w), _, _, _, _, h.ext (Ext.drew w)⟩
  have hd : Ext w w.drew := Ext.drew w
  have hJ := h
  clear h ht
  go_enter Tryz.func108, Tryz.ntmps108
  go_wp2_with fail
  refine wp_region_held_drew (S := InJob w g U Q) (by kernel_rfl) hs (fun _ => ?_)
  refine tkG 0 8 (.func (Fn.func R) #[.pointer (some ⟨g, 0, none⟩)] #[]) hs ?_
  simp only [Act.put, tkA, tkB, tkC]
  refine tkG 1 9 (.pointer (some ⟨g, 0, none⟩)) hs ?_
  simp only [Act.put, tkA, tkB, tkC]
  refine tkG 2 10 (.pointer (some ⟨g, 0, none⟩)) hs ?_
  simp only [Act.put, tkA, tkB, tkC]
  refine tkG 3 11 (.pointer (some ⟨g, 0, none⟩)) hs ?_
  simp only [Act.put, tkA, tkB, tkC]
  refine tkG 4 12 (.pointer (some ⟨g, 1, none⟩)) hs ?_
  simp only [Act.put, tkA, tkB, tkC]
  refine tkY 5 13 (.int .i64 Q.ad) hs ?_ (y := fun W hW => by obtain ⟨⟨k0, k1, k2, k3⟩, k4, k5, k6, k7⟩ := InJob.c hW; go_simp)
  simp only [Act.put, tkA, tkB, tkC]
  refine tkG 6 14 (.pointer (some ⟨g, 0, none⟩)) hs ?_
  simp only [Act.put, tkA, tkB, tkC]
  refine tkG 7 15 (.pointer (some ⟨g, 0, none⟩)) hs ?_
  simp only [Act.put, tkA, tkB, tkC]
  refine tkG 8 16 (.pointer (some ⟨g, 0, none⟩)) hs ?_
  simp only [Act.put, tkA, tkB, tkC]
  refine tkG 9 17 (.pointer (some ⟨g, 2, none⟩)) hs ?_
  simp only [Act.put, tkA, tkB, tkC]
  refine tkY 10 18 (.int .i64 Q.ct) hs ?_ (y := fun W hW => by obtain ⟨⟨k0, k1, k2, k3⟩, k4, k5, k6, k7⟩ := InJob.c hW; go_simp)
  simp only [Act.put, tkA, tkB, tkC]
  refine wpAnyH_ready (rs := [11]) (by kernel_rfl) (by simp) (AllReadyH.cons rfl (fun K hK => ?_) AllReadyH.nil)
  go_simp
  refine (HT.out _ hd).mono ?_; rintro e w1 ⟨b, q, rfl, n1, n2, hb, x1, -⟩
  go_wp2_with fail
  have hs1 := InJob.mk (U := U) (Q := Q) (g := g) (Keep.of_ext (hd.trans x1)) ⟨_, _, _, _, hJ.ext (hd.trans x1)⟩
  refine hK.out _ _ hs1 (fun hs => ?_)
  clear hK K
  refine tkG 12 7 (.tuple #[.slice b N q, .int .i64 E]) hs ?_
  simp only [Act.put, tkA, tkB, tkC]
  refine tkG 13 20 (.slice b N q) hs ?_
  simp only [Act.put, tkA, tkB, tkC]
  refine tkG 14 21 (.int .i64 E) hs ?_
  simp only [Act.put, tkA, tkB, tkC]
  refine tkG 15 5 (.slice b N q) hs ?_
  simp only [Act.put, tkA, tkB, tkC]
  refine tkG 16 6 (.int .i64 E) hs ?_
  simp only [Act.put, tkA, tkB, tkC]
  refine wpAnyH_done (by kernel_rfl) ?_ _
  have x1 := hd.trans x1
  have hJ1 := hJ.ext x1
  clear hs hs1 hd hJ HJ0 HT henters
  have hX : TelAt w1 { zeroQV with a1 := b, d1 := q } { zeroT with k := Q.k, nb := N, B := L } := ⟨hb, n1, n2, .inl rfl, Nat.le_refl _, Nat.zero_le _⟩
  have HJ := Lib.hid (hJ1.tell hX)
  have HTh := Lib.hid (hJ1.there_told (X' := { zeroQV with a1 := b, d1 := q }) (T' := { zeroT with k := Q.k, nb := N, B := L }))
  have c0 := hJ1.c.1.1
  have HZ := Lib.hid x1
  clear hJ1 hX hb
  go_wp2_with (first
    | (refine wpList_store_arr rfl 37 (.tmp 31) (.tmp 29) rfl g 24 (telC { zeroQV with a1 := b, d1 := q } { zeroT with k := Q.k, nb := N, B := L }) rfl rfl HTh.out (by kernel_rfl) (by simp [telC, zeroT, zeroQV, Value.oneCell']) ?_))
  go_ret
  exact ⟨rfl, keep_same (Keep.of_ext HZ.out) (keep_setCells _ _ _ _), _, HJ.out⟩
set_option maxHeartbeats 4000000 in
theorem jtellRegs_v (R : FuncId) (x k : Int) (E : Int) (N : Nat) (L : Nat → Int) {g : Nat} {U : QstV} {Q : Qst} {V : FilV} {F : Fil} {X : QstV} {T : Tel} (w : World) (h : JobAt w g U Q V F X T)
    (henters : ∀ (args : Array Value) (w : World), (callFunc R args).run Tryz.prog w = .ok (.enter R args) w)
    (ht : Calls Tryz.prog R #[.pointer (some ⟨g, 0, none⟩), .int .i64 x, .int .i64 k] w (SlP (Value.int .u16) E N L w)) :
    Calls Tryz.prog 111 #[.pointer (some ⟨g, 0, none⟩), .func (Fn.func R) #[.pointer (some ⟨g, 0, none⟩)] #[], .int .i64 x, .int .i64 k] w (ToldP g U Q V F E { zeroT with k := Q.k, nr := N, R := L } w) := by
  have HT := Lib.hid ht
  have hJ := h
  clear h ht
  go_enter Tryz.func111, Tryz.ntmps111
  go_wp2_with fail
  refine (HT.out).mono ?_; rintro e w1 ⟨b, q, rfl, n1, n2, hb, x1, -⟩
  have hJ1 := hJ.ext x1
  clear hJ HT henters
  have hX : TelAt w1 { zeroQV with a2 := b, d2 := q } { zeroT with k := Q.k, nr := N, R := L } := ⟨.inl rfl, Nat.le_refl _, Nat.zero_le _, hb, n1, n2⟩
  have HJ := Lib.hid (hJ1.tell hX)
  have HTh := Lib.hid (hJ1.there_told (X' := { zeroQV with a2 := b, d2 := q }) (T' := { zeroT with k := Q.k, nr := N, R := L }))
  have c0 := hJ1.c.1.1
  have HZ := Lib.hid x1
  clear hJ1 hX hb
  go_wp2_with (first
    | (refine wpList_store_arr rfl 37 (.tmp 27) (.tmp 25) rfl g 24 (telC { zeroQV with a2 := b, d2 := q } { zeroT with k := Q.k, nr := N, R := L }) rfl rfl HTh.out (by kernel_rfl) (by simp [telC, zeroT, zeroQV, Value.oneCell']) ?_))
  go_ret
  exact ⟨rfl, keep_same (Keep.of_ext HZ.out) (keep_setCells _ _ _ _), _, HJ.out⟩
set_option maxHeartbeats 4000000 in
theorem jputBits_v (hB : FSetBitsC 137) {g : Nat} {U : QstV} {Q : Qst} {V : FilV} {F : Fil} {X : QstV} {T : Tel} (b : Option Addr) (m d : Nat) (v : Nat → Bool) (w : World) (h : JobAt w g U Q V F X T) (wq : (Lit.int .i64 Q.ad).wf = true) (hb : HoldsG Value.bool w b m v) (h1 : m ≤ d) (h2 : d ≤ maxLen) (h3 : m ≤ 1000000) :
    Calls Tryz.prog 114 #[.pointer (some ⟨g, 0, none⟩), .slice b m d] w fun e w' => e = .returned (.int .i64 (sbE F Q.ad m)) ∧ Keep (fun i => i = g) w w' ∧ ∃ V', JobAt w' g U Q V' (sbF F Q.ad m v) X T := by
  have hd : Ext w w.drew := Ext.drew w
  have HC := Lib.hid (hB V F Q.ad b m d v w.drew (h.f.ext hd) (hb.ext hd) h1 h2 h3 wq)
  have hJ := h
  have hs : InJob w g U Q w.drew := ⟨Keep.of_ext hd, _, _, _, _, h.ext hd⟩
  have HR := Lib.hid (job_now (h.ext hd).row)
  clear h hb h1 h2 h3 wq
  generalize sbF F Q.ad m v = F1 at *
  generalize sbE F Q.ad m = E1 at *
  go_enter Tryz.func114, Tryz.ntmps114
  go_wp2_with fail
  refine wp_region_held_drew (S := InJob w g U Q) (by kernel_rfl) hs (fun _ => ?_)
  refine tkG 0 6 (.pointer (some ⟨g, 0, none⟩)) hs ?_
  simp only [Act.put, tkA, tkB, tkC]
  refine tkG 1 7 (.pointer (some ⟨g, 0, none⟩)) hs ?_
  simp only [Act.put, tkA, tkB, tkC]
  refine tkG 2 8 (.pointer (some ⟨g, 0, none⟩)) hs ?_
  simp only [Act.put, tkA, tkB, tkC]
  refine tkG 3 9 (.pointer (some ⟨g, 10, none⟩)) hs ?_
  simp only [Act.put, tkA, tkB, tkC]
  refine tkG 5 11 (.pointer (some ⟨g, 0, none⟩)) hs ?_
  simp only [Act.put, tkA, tkB, tkC]
  refine tkG 6 12 (.pointer (some ⟨g, 0, none⟩)) hs ?_
  simp only [Act.put, tkA, tkB, tkC]
  refine tkG 7 13 (.pointer (some ⟨g, 0, none⟩)) hs ?_
  simp only [Act.put, tkA, tkB, tkC]
  refine tkG 8 14 (.pointer (some ⟨g, 1, none⟩)) hs ?_
  simp only [Act.put, tkA, tkB, tkC]
  refine tkY 9 15 (.int .i64 Q.ad) hs ?_ (y := fun W hW => by obtain ⟨⟨k0, k1, k2, k3⟩, k4, k5, k6, k7⟩ := InJob.c hW; go_simp)
  simp only [Act.put, tkA, tkB, tkC]
  refine tkG 10 16 (.slice b m d) hs ?_
  simp only [Act.put, tkA, tkB, tkC]
  refine wpAnyH_ready (rs := [4]) (by kernel_rfl) (by simp) (AllReadyH.cons rfl (fun K hK => ?_) AllReadyH.nil)
  refine step_load_arr rfl 29 (.tmp 9) rfl g 10 rfl (filC V F) _ HR.out Tryz.underlying29 rfl (by kernel_rfl) 10 rfl ?_
  refine hK.out _ _ hs (fun hs => ?_)
  clear hK K
  simp only [Act.put, tkA, tkB, tkC]
  refine wpAnyH_ready (rs := [11]) (by kernel_rfl) (by simp) (AllReadyH.cons rfl (fun K hK => ?_) AllReadyH.nil)
  go_simp
  refine (HC.out).mono ?_; rintro e w1 ⟨V1, rfl, hf1, x1, -⟩
  go_wp2_with fail
  have x1 := hd.trans x1
  have hJ1 := hJ.ext x1
  refine hK.out _ _ ⟨Keep.of_ext x1, _, _, _, _, hJ1⟩ (fun hs => ?_)
  clear hK K
  refine tkG 12 5 (.tuple #[.agg (filC V1 F1), .int .i64 E1]) hs ?_
  simp only [Act.put, tkA, tkB, tkC]
  refine tkG 13 18 (.agg (filC V1 F1)) hs ?_
  simp only [Act.put, tkA, tkB, tkC]
  refine tkG 14 19 (.int .i64 E1) hs ?_
  simp only [Act.put, tkA, tkB, tkC]
  refine tkG 15 20 (.pointer (some ⟨g, 0, none⟩)) hs ?_
  simp only [Act.put, tkA, tkB, tkC]
  refine tkG 16 21 (.pointer (some ⟨g, 10, none⟩)) hs ?_
  simp only [Act.put, tkA, tkB, tkC]
  refine wpAnyH_ready (rs := [17]) (by kernel_rfl) (by simp) (AllReadyH.cons rfl (fun K hK => ?_) AllReadyH.nil)
  refine step_store_arr rfl 29 (.tmp 21) (.tmp 18) rfl g 10 (filC V1 F1) rfl rfl hJ1.there_now (by kernel_rfl) (by simp [filC, Value.oneCell']) rfl ?_
  have hJ2 := hJ1.put hf1
  refine hK.out _ _ ⟨keep_same (Keep.of_ext x1) (keep_setCells _ _ _ _), _, _, _, _, hJ2⟩ (fun hs => ?_)
  clear hK K
  simp only [Act.put]
  refine tkG 18 4 (.int .i64 E1) hs ?_
  simp only [Act.put, tkA, tkB, tkC]
  refine wpAnyH_done (by kernel_rfl) ?_ _
  go_wp2_with fail
  go_ret
  exact ⟨rfl, keep_same (Keep.of_ext x1) (keep_setCells _ _ _ _), V1, hJ2⟩
set_option maxHeartbeats 4000000 in
theorem jputRegs_v (hB : FSetWordsC 138) {g : Nat} {U : QstV} {Q : Qst} {V : FilV} {F : Fil} {X : QstV} {T : Tel} (b : Option Addr) (m d : Nat) (v : Nat → Int) (w : World) (h : JobAt w g U Q V F X T) (wq : (Lit.int .i64 Q.ad).wf = true) (hb : HoldsG (Value.int .u16) w b m v) (h1 : m ≤ d) (h2 : d ≤ maxLen) (h3 : m ≤ 1000000) :
    Calls Tryz.prog 115 #[.pointer (some ⟨g, 0, none⟩), .slice b m d] w fun e w' => e = .returned (.int .i64 (swE F Q.ad m)) ∧ Keep (fun i => i = g) w w' ∧ ∃ V', JobAt w' g U Q V' (swF F Q.ad m v) X T := by
  have hd : Ext w w.drew := Ext.drew w
  have HC := Lib.hid (hB V F Q.ad b m d v w.drew (h.f.ext hd) (hb.ext hd) h1 h2 h3 wq)
  have hJ := h
  have hs : InJob w g U Q w.drew := ⟨Keep.of_ext hd, _, _, _, _, h.ext hd⟩
  have HR := Lib.hid (job_now (h.ext hd).row)
  clear h hb h1 h2 h3 wq
  generalize swF F Q.ad m v = F1 at *
  generalize swE F Q.ad m = E1 at *
  go_enter Tryz.func115, Tryz.ntmps115
  go_wp2_with fail
  refine wp_region_held_drew (S := InJob w g U Q) (by kernel_rfl) hs (fun _ => ?_)
  refine tkG 0 6 (.pointer (some ⟨g, 0, none⟩)) hs ?_
  simp only [Act.put, tkA, tkB, tkC]
  refine tkG 1 7 (.pointer (some ⟨g, 0, none⟩)) hs ?_
  simp only [Act.put, tkA, tkB, tkC]
  refine tkG 2 8 (.pointer (some ⟨g, 0, none⟩)) hs ?_
  simp only [Act.put, tkA, tkB, tkC]
  refine tkG 3 9 (.pointer (some ⟨g, 10, none⟩)) hs ?_
  simp only [Act.put, tkA, tkB, tkC]
  refine tkG 5 11 (.pointer (some ⟨g, 0, none⟩)) hs ?_
  simp only [Act.put, tkA, tkB, tkC]
  refine tkG 6 12 (.pointer (some ⟨g, 0, none⟩)) hs ?_
  simp only [Act.put, tkA, tkB, tkC]
  refine tkG 7 13 (.pointer (some ⟨g, 0, none⟩)) hs ?_
  simp only [Act.put, tkA, tkB, tkC]
  refine tkG 8 14 (.pointer (some ⟨g, 1, none⟩)) hs ?_
  simp only [Act.put, tkA, tkB, tkC]
  refine tkY 9 15 (.int .i64 Q.ad) hs ?_ (y := fun W hW => by obtain ⟨⟨k0, k1, k2, k3⟩, k4, k5, k6, k7⟩ := InJob.c hW; go_simp)
  simp only [Act.put, tkA, tkB, tkC]
  refine tkG 10 16 (.slice b m d) hs ?_
  simp only [Act.put, tkA, tkB, tkC]
  refine wpAnyH_ready (rs := [4]) (by kernel_rfl) (by simp) (AllReadyH.cons rfl (fun K hK => ?_) AllReadyH.nil)
  refine step_load_arr rfl 29 (.tmp 9) rfl g 10 rfl (filC V F) _ HR.out Tryz.underlying29 rfl (by kernel_rfl) 10 rfl ?_
  refine hK.out _ _ hs (fun hs => ?_)
  clear hK K
  simp only [Act.put, tkA, tkB, tkC]
  refine wpAnyH_ready (rs := [11]) (by kernel_rfl) (by simp) (AllReadyH.cons rfl (fun K hK => ?_) AllReadyH.nil)
  go_simp
  refine (HC.out).mono ?_; rintro e w1 ⟨V1, rfl, hf1, x1, -⟩
  go_wp2_with fail
  have x1 := hd.trans x1
  have hJ1 := hJ.ext x1
  refine hK.out _ _ ⟨Keep.of_ext x1, _, _, _, _, hJ1⟩ (fun hs => ?_)
  clear hK K
  refine tkG 12 5 (.tuple #[.agg (filC V1 F1), .int .i64 E1]) hs ?_
  simp only [Act.put, tkA, tkB, tkC]
  refine tkG 13 18 (.agg (filC V1 F1)) hs ?_
  simp only [Act.put, tkA, tkB, tkC]
  refine tkG 14 19 (.int .i64 E1) hs ?_
  simp only [Act.put, tkA, tkB, tkC]
  refine tkG 15 20 (.pointer (some ⟨g, 0, none⟩)) hs ?_
  simp only [Act.put, tkA, tkB, tkC]
  refine tkG 16 21 (.pointer (some ⟨g, 10, none⟩)) hs ?_
  simp only [Act.put, tkA, tkB, tkC]
  refine wpAnyH_ready (rs := [17]) (by kernel_rfl) (by simp) (AllReadyH.cons rfl (fun K hK => ?_) AllReadyH.nil)
  refine step_store_arr rfl 29 (.tmp 21) (.tmp 18) rfl g 10 (filC V1 F1) rfl rfl hJ1.there_now (by kernel_rfl) (by simp [filC, Value.oneCell']) rfl ?_
  have hJ2 := hJ1.put hf1
  refine hK.out _ _ ⟨keep_same (Keep.of_ext x1) (keep_setCells _ _ _ _), _, _, _, _, hJ2⟩ (fun hs => ?_)
  clear hK K
  simp only [Act.put]
  refine tkG 18 4 (.int .i64 E1) hs ?_
  simp only [Act.put, tkA, tkB, tkC]
  refine wpAnyH_done (by kernel_rfl) ?_ _
  go_wp2_with fail
  go_ret
  exact ⟨rfl, keep_same (Keep.of_ext x1) (keep_setCells _ _ _ _), V1, hJ2⟩
end Go.Proofs.YtlafnobjfajamaaGreat
namespace Go.Proofs.YtlafnobjfajamaaGreat
open Go.RowKit
set_option linter.unusedVariables false
set_option maxRecDepth 100000

/-- What answers an ask that writes: its own numbers. -/
def agT (Q : Qst) : Tel := { zeroT with k := Q.k, ad := Q.ad, ct := Q.ct, va := Q.va, an := Q.an, oo := Q.oo }
/-- Which of two exceptions is told. -/
def fmoE (a b : Int) : Int := if a = 0 ∨ b = 2 then b else a
theorem fmo_both {e g : Int} (he : e = 0 ∨ e = 2 ∨ e = 4) (hg : g = 0 ∨ g = 2 ∨ g = 4) : fmoE g e = bothE e g := by
  rcases he with rfl | rfl | rfl <;> rcases hg with rfl | rfl | rfl <;> decide
section
variable {F : Fil} {Q : Qst}
theorem sb_bit (x : Int) (m : Nat) : sbE F x m = bitE F false x m := rfl
theorem sw_wrd (x : Int) (m : Nat) : swE F x m = wrdE F false x m := rfl
theorem dat_is1 (hk : Q.k = 1) : datE F Q = bitE F false Q.ad Q.ct ∧ datF F Q = F ∧ (datE F Q = 0 → datT F Q = { zeroT with k := Q.k, nb := bitN F false Q.ad Q.ct, B := bitL F false Q.ad }) := by
  refine ⟨?_, dat_reads (by unfold writesB; rw [hk]; decide), fun h0 => ?_⟩
  · unfold datE; simp (config := { decide := true }) only [hk, if_true, if_false] <;> rfl
  · have hne : ¬ datE F Q ≠ 0 := fun h => h h0
    unfold datT; rw [if_neg hne]; simp (config := { decide := true }) only [hk, if_true, if_false] <;> rfl
theorem dat_is2 (hk : Q.k = 2) : datE F Q = bitE F true Q.ad Q.ct ∧ datF F Q = F ∧ (datE F Q = 0 → datT F Q = { zeroT with k := Q.k, nb := bitN F true Q.ad Q.ct, B := bitL F true Q.ad }) := by
  refine ⟨?_, dat_reads (by unfold writesB; rw [hk]; decide), fun h0 => ?_⟩
  · unfold datE; simp (config := { decide := true }) only [hk, if_true, if_false] <;> rfl
  · have hne : ¬ datE F Q ≠ 0 := fun h => h h0
    unfold datT; rw [if_neg hne]; simp (config := { decide := true }) only [hk, if_true, if_false] <;> rfl
theorem dat_is3 (hk : Q.k = 3) : datE F Q = wrdE F false Q.ad Q.ct ∧ datF F Q = F ∧ (datE F Q = 0 → datT F Q = { zeroT with k := Q.k, nr := wrdN F false Q.ad Q.ct, R := wrdL F false Q.ad }) := by
  refine ⟨?_, dat_reads (by unfold writesB; rw [hk]; decide), fun h0 => ?_⟩
  · unfold datE; simp (config := { decide := true }) only [hk, if_true, if_false] <;> rfl
  · have hne : ¬ datE F Q ≠ 0 := fun h => h h0
    unfold datT; rw [if_neg hne]; simp (config := { decide := true }) only [hk, if_true, if_false] <;> rfl
theorem dat_is4 (hk : Q.k = 4) : datE F Q = wrdE F true Q.ad Q.ct ∧ datF F Q = F ∧ (datE F Q = 0 → datT F Q = { zeroT with k := Q.k, nr := wrdN F true Q.ad Q.ct, R := wrdL F true Q.ad }) := by
  refine ⟨?_, dat_reads (by unfold writesB; rw [hk]; decide), fun h0 => ?_⟩
  · unfold datE; simp (config := { decide := true }) only [hk, if_true, if_false] <;> rfl
  · have hne : ¬ datE F Q ≠ 0 := fun h => h h0
    unfold datT; rw [if_neg hne]; simp (config := { decide := true }) only [hk, if_true, if_false] <;> rfl
theorem dat_is5 (hq : rightQ Q = true) (hk : Q.k = 5) : datE F Q = sbE F Q.ad 1 ∧ (datE F Q = 0 → datF F Q = sbF F Q.ad 1 (fun _ => decide (Q.va = 65280)) ∧ datT F Q = agT Q) := by
  have a := ask_facts hq
  obtain ⟨-, h2, -, -⟩ := (rightQ_iff Q).1 hq
  have h2 := h2.2
  have z := h2.1 (.inl hk)
  refine ⟨?_, fun h0 => ?_⟩
  · unfold datE; simp (config := { decide := true }) only [hk, if_true, if_false] <;> rfl
  · have hne : ¬ datE F Q ≠ 0 := fun h => h h0
    refine ⟨?_, ?_⟩
    · unfold datF; rw [if_neg hne]; simp (config := { decide := true }) only [hk, if_true, if_false] <;> rfl
    · unfold datT agT; rw [if_neg hne]; simp (config := { decide := true }) only [hk, if_true, if_false, z.1, z.2.1, z.2.2.1] <;> rfl
theorem dat_is6 (hq : rightQ Q = true) (hk : Q.k = 6) : datE F Q = swE F Q.ad 1 ∧ (datE F Q = 0 → datF F Q = swF F Q.ad 1 (fun _ => Q.va) ∧ datT F Q = agT Q) := by
  have a := ask_facts hq
  obtain ⟨-, h2, -, -⟩ := (rightQ_iff Q).1 hq
  have h2 := h2.2
  have z := h2.1 (.inr hk)
  refine ⟨?_, fun h0 => ?_⟩
  · unfold datE; simp (config := { decide := true }) only [hk, if_true, if_false] <;> rfl
  · have hne : ¬ datE F Q ≠ 0 := fun h => h h0
    refine ⟨?_, ?_⟩
    · unfold datF; rw [if_neg hne]; simp (config := { decide := true }) only [hk, if_true, if_false] <;> rfl
    · unfold datT agT; rw [if_neg hne]; simp (config := { decide := true }) only [hk, if_true, if_false, z.1, z.2.1, z.2.2.1] <;> rfl
theorem dat_is15 (hq : rightQ Q = true) (hk : Q.k = 15) : datE F Q = sbE F Q.ad Q.nb ∧ (datE F Q = 0 → datF F Q = sbF F Q.ad Q.nb Q.B ∧ datT F Q = agT Q) := by
  have a := ask_facts hq
  obtain ⟨-, h2, -, -⟩ := (rightQ_iff Q).1 hq
  have h2 := h2.2
  have z := h2.2.1 hk
  refine ⟨?_, fun h0 => ?_⟩
  · rw [sb_bit, (a.bt hk).2.2]; unfold datE; simp (config := { decide := true }) only [hk, if_true, if_false] <;> rfl
  · have hne : ¬ datE F Q ≠ 0 := fun h => h h0
    refine ⟨?_, ?_⟩
    · unfold datF; rw [if_neg hne]; simp (config := { decide := true }) only [hk, if_true, if_false] <;> rfl
    · unfold datT agT; rw [if_neg hne]; simp (config := { decide := true }) only [hk, if_true, if_false, z.1, z.2.1, z.2.2.1] <;> rfl
theorem dat_is16 (hq : rightQ Q = true) (hk : Q.k = 16) : datE F Q = swE F Q.ad Q.nr ∧ (datE F Q = 0 → datF F Q = swF F Q.ad Q.nr Q.R ∧ datT F Q = agT Q) := by
  have a := ask_facts hq
  obtain ⟨-, h2, -, -⟩ := (rightQ_iff Q).1 hq
  have h2 := h2.2
  have z := h2.2.2.1 hk
  refine ⟨?_, fun h0 => ?_⟩
  · rw [sw_wrd, (a.wd (.inl hk)).2.2]; unfold datE; simp (config := { decide := true }) only [hk, if_true, if_false] <;> rfl
  · have hne : ¬ datE F Q ≠ 0 := fun h => h h0
    refine ⟨?_, ?_⟩
    · unfold datF; rw [if_neg hne]; simp (config := { decide := true }) only [hk, if_true, if_false] <;> rfl
    · unfold datT agT; rw [if_neg hne]; simp (config := { decide := true }) only [hk, if_true, if_false, z.1, z.2.1, z.2.2.1] <;> rfl
theorem dat_is22 (hq : rightQ Q = true) (hk : Q.k = 22) : datE F Q = swE F Q.ad 1 ∧ (datE F Q = 0 → datF F Q = swF F Q.ad 1 (fun _ => mskQ (wrdL F false Q.ad 0) Q.an Q.oo) ∧ datT F Q = agT Q) := by
  have a := ask_facts hq
  obtain ⟨-, h2, -, -⟩ := (rightQ_iff Q).1 hq
  have h2 := h2.2
  have z := h2.2.2.2.1 hk
  refine ⟨?_, fun h0 => ?_⟩
  · unfold datE; simp (config := { decide := true }) only [hk, if_true, if_false] <;> rfl
  · have hne : ¬ datE F Q ≠ 0 := fun h => h h0
    refine ⟨?_, ?_⟩
    · unfold datF; rw [if_neg hne]; simp (config := { decide := true }) only [hk, if_true, if_false] <;> rfl
    · unfold datT agT; rw [if_neg hne]; simp (config := { decide := true }) only [hk, if_true, if_false, z.1, z.2.1, z.2.2.1] <;> rfl
theorem dat_is23 (hq : rightQ Q = true) (hr : rightB F = true) (hk : Q.k = 23) : datE F Q = fmoE (wrdE F false Q.fr Q.mn) (swE F Q.ad Q.nr) ∧ (datE F Q = 0 → wrdE F false Q.fr Q.mn = 0 ∧ swE F Q.ad Q.nr = 0 ∧ datF F Q = swF F Q.ad Q.nr Q.R ∧ datT F Q = { zeroT with k := Q.k, nr := wrdN (datF F Q) false Q.fr Q.mn, R := wrdL (datF F Q) false Q.fr }) := by
  have a := ask_facts hq
  have hn := (a.wd (.inr hk)).2.2
  have e1 : datE F Q = bothE (wrdE F false Q.ad Q.ct) (wrdE F false Q.fr Q.mn) := by unfold datE; simp (config := { decide := true }) only [hk, if_true, if_false]
  have e2 : swE F Q.ad Q.nr = wrdE F false Q.ad Q.ct := by rw [sw_wrd, hn]
  have w1 := wrd_ways hr false Q.ad Q.ct (a.wd (.inr hk)).1
  have w2 := wrd_ways hr false Q.fr Q.mn (a.mn hk).1
  refine ⟨by rw [e1, e2, fmo_both w1 w2], fun h0 => ?_⟩
  have hne : ¬ datE F Q ≠ 0 := fun h => h h0
  have hz := both_zero (e1 ▸ h0)
  refine ⟨hz.2, e2.trans hz.1, ?_, ?_⟩
  · unfold datF; rw [if_neg hne]; simp (config := { decide := true }) only [hk, if_true, if_false]
  · unfold datT; rw [if_neg hne]; simp (config := { decide := true }) only [hk, if_true, if_false]
/-- Behind what was written as many places are there, and work. -/
theorem wrd_behind (hr : rightB F = true) {x : Int} {m : Nat} {v : Nat → Int} (h : swE F x m = 0) (i : Bool) (y k : Int) : wrdE (swF F x m v) i y k = wrdE F i y k := by
  have : swF F x m v = { F with H := wrF F.H v F.hf x m } := by unfold swF; rw [if_pos h]
  rw [this]; rfl
end
end Go.Proofs.YtlafnobjfajamaaGreat
namespace Go.Proofs.YtlafnobjfajamaaGreat
open Go.RowKit
set_option linter.unusedVariables false
set_option maxRecDepth 100000

theorem job_enters {P : Program} {f : FuncId} {fn : Func} {c : Code} (hf : P.funcs[f]? = some fn) (hname : (fn.name == "runtime.NumGoroutine") = false) (hb : fn.body = some c) (args : Array Value) (w : World) :
    (callFunc f args).run P w = .ok (.enter f args) w := by
  have h1 : fn.name ≠ "runtime.NumGoroutine" := by simpa using hname
  simp [callFunc, hf, h1, hb]
set_option maxHeartbeats 1000000 in
theorem jreadCoils_v (hB : FBitsC 135) {g : Nat} {U : QstV} {Q : Qst} {V : FilV} {F : Fil} {X : QstV} {T : Tel} (w : World) (h : JobAt w g U Q V F X T) (hW : QstW Q) (hk : Q.k = 1) : Calls Tryz.prog 65 #[.pointer (some ⟨g, 0, none⟩)] w (JobP g U Q (datE F Q) (datF F Q) (datT F Q) w) := by
  have HE := Lib.hid (dat_is1 (F := F) hk)
  have K := Lib.hid (jtellBits_v 109 (bitE F false Q.ad Q.ct) (bitN F false Q.ad Q.ct) (bitL F false Q.ad) w h (fun args w => job_enters Tryz.func109 (by kernel_rfl) rfl args w) (fun W x => jcoils_v hB Q.ad Q.ct W (h.ext x) hW.wad hW.wct))
  clear h hW hk
  go_enter Tryz.func65, Tryz.ntmps65
  go_wp2_with fail
  refine (K.out).mono ?_; rintro e w1 ⟨rfl, k1, X1, hJ⟩
  go_wp2
  go_ret
  obtain ⟨e1, e2, e3⟩ := HE.out
  exact ⟨by rw [e1] <;> rfl, k1, fun h0 => ⟨V, X1, by rw [e2, e3 h0]; exact hJ⟩⟩
set_option maxHeartbeats 1000000 in
theorem jreadInputs_v (hB : FBitsC 135) {g : Nat} {U : QstV} {Q : Qst} {V : FilV} {F : Fil} {X : QstV} {T : Tel} (w : World) (h : JobAt w g U Q V F X T) (hW : QstW Q) (hk : Q.k = 2) : Calls Tryz.prog 66 #[.pointer (some ⟨g, 0, none⟩)] w (JobP g U Q (datE F Q) (datF F Q) (datT F Q) w) := by
  have HE := Lib.hid (dat_is2 (F := F) hk)
  have K := Lib.hid (jtellBits_v 110 (bitE F true Q.ad Q.ct) (bitN F true Q.ad Q.ct) (bitL F true Q.ad) w h (fun args w => job_enters Tryz.func110 (by kernel_rfl) rfl args w) (fun W x => jinputs_v hB Q.ad Q.ct W (h.ext x) hW.wad hW.wct))
  clear h hW hk
  go_enter Tryz.func66, Tryz.ntmps66
  go_wp2_with fail
  refine (K.out).mono ?_; rintro e w1 ⟨rfl, k1, X1, hJ⟩
  go_wp2
  go_ret
  obtain ⟨e1, e2, e3⟩ := HE.out
  exact ⟨by rw [e1] <;> rfl, k1, fun h0 => ⟨V, X1, by rw [e2, e3 h0]; exact hJ⟩⟩
set_option maxHeartbeats 2000000 in
theorem jreadHolding_v (hB : FWordsC 136) {g : Nat} {U : QstV} {Q : Qst} {V : FilV} {F : Fil} {X : QstV} {T : Tel} (w : World) (h : JobAt w g U Q V F X T) (hW : QstW Q) (hk : Q.k = 3) : Calls Tryz.prog 67 #[.pointer (some ⟨g, 0, none⟩)] w (JobP g U Q (datE F Q) (datF F Q) (datT F Q) w) := by
  have HE := Lib.hid (dat_is3 (F := F) hk)
  have hd : Ext w w.drew := Ext.drew w
  have HC := Lib.hid (jtellRegs_v 112 Q.ad Q.ct (wrdE F false Q.ad Q.ct) (wrdN F false Q.ad Q.ct) (wrdL F false Q.ad) w.drew (h.ext hd) (fun args w => job_enters Tryz.func112 (by kernel_rfl) rfl args w) (jholding_v hB Q.ad Q.ct w.drew (h.ext hd) hW.wad hW.wct))
  have hs : InJob w g U Q w.drew := ⟨Keep.of_ext hd, _, _, _, _, h.ext hd⟩
  clear h hW hk
  generalize wrdE F false Q.ad Q.ct = E1 at HE HC
  go_enter Tryz.func67, Tryz.ntmps67
  go_wp2_with fail
  refine wp_region_held_drew (S := InJob w g U Q) (by kernel_rfl) hs (fun _ => ?_)
  refine tkG 0 3 (.pointer (some ⟨g, 0, none⟩)) hs ?_
  simp only [Act.put, tkA, tkB, tkC]
  refine tkG 1 4 (.pointer (some ⟨g, 0, none⟩)) hs ?_
  simp only [Act.put, tkA, tkB, tkC]
  refine tkG 2 5 (.func (Fn.func 112) #[.pointer (some ⟨g, 0, none⟩)] #[]) hs ?_
  simp only [Act.put, tkA, tkB, tkC]
  refine tkG 3 6 (.pointer (some ⟨g, 0, none⟩)) hs ?_
  simp only [Act.put, tkA, tkB, tkC]
  refine tkG 4 7 (.pointer (some ⟨g, 0, none⟩)) hs ?_
  simp only [Act.put, tkA, tkB, tkC]
  refine tkG 5 8 (.pointer (some ⟨g, 0, none⟩)) hs ?_
  simp only [Act.put, tkA, tkB, tkC]
  refine tkG 6 9 (.pointer (some ⟨g, 1, none⟩)) hs ?_
  simp only [Act.put, tkA, tkB, tkC]
  refine tkY 7 10 (.int .i64 Q.ad) hs ?_ (y := fun W hW => by obtain ⟨⟨k0, k1, k2, k3⟩, k4, k5, k6, k7⟩ := InJob.c hW; go_simp)
  simp only [Act.put, tkA, tkB, tkC]
  refine tkG 8 11 (.pointer (some ⟨g, 0, none⟩)) hs ?_
  simp only [Act.put, tkA, tkB, tkC]
  refine tkG 9 12 (.pointer (some ⟨g, 0, none⟩)) hs ?_
  simp only [Act.put, tkA, tkB, tkC]
  refine tkG 10 13 (.pointer (some ⟨g, 0, none⟩)) hs ?_
  simp only [Act.put, tkA, tkB, tkC]
  refine tkG 11 14 (.pointer (some ⟨g, 2, none⟩)) hs ?_
  simp only [Act.put, tkA, tkB, tkC]
  refine tkY 12 15 (.int .i64 Q.ct) hs ?_ (y := fun W hW => by obtain ⟨⟨k0, k1, k2, k3⟩, k4, k5, k6, k7⟩ := InJob.c hW; go_simp)
  simp only [Act.put, tkA, tkB, tkC]
  refine wpAnyH_ready (rs := [13]) (by kernel_rfl) (by simp) (AllReadyH.cons rfl (fun K hK => ?_) AllReadyH.nil)
  go_simp
  refine (HC.out).mono ?_; rintro e w9 ⟨rfl, y9, X9, hJ9⟩
  go_wp2_with fail
  refine hK.out _ _ ⟨keep_same (Keep.of_ext hd) y9, _, _, _, _, hJ9⟩ (fun hs => ?_)
  clear hK K
  refine tkG 14 2 (.int .i64 E1) hs ?_
  simp only [Act.put, tkA, tkB, tkC]
  refine wpAnyH_done (by kernel_rfl) ?_ _
  go_wp2_with fail
  go_ret
  obtain ⟨e1, e2, e3⟩ := HE.out
  exact ⟨by rw [e1] <;> rfl, keep_same (Keep.of_ext hd) y9, fun h0 => ⟨V, X9, by rw [e2, e3 h0]; exact hJ9⟩⟩
set_option maxHeartbeats 2000000 in
theorem jreadRegs_v (hB : FWordsC 136) {g : Nat} {U : QstV} {Q : Qst} {V : FilV} {F : Fil} {X : QstV} {T : Tel} (w : World) (h : JobAt w g U Q V F X T) (hW : QstW Q) (hk : Q.k = 4) : Calls Tryz.prog 68 #[.pointer (some ⟨g, 0, none⟩)] w (JobP g U Q (datE F Q) (datF F Q) (datT F Q) w) := by
  have HE := Lib.hid (dat_is4 (F := F) hk)
  have hd : Ext w w.drew := Ext.drew w
  have HC := Lib.hid (jtellRegs_v 113 Q.ad Q.ct (wrdE F true Q.ad Q.ct) (wrdN F true Q.ad Q.ct) (wrdL F true Q.ad) w.drew (h.ext hd) (fun args w => job_enters Tryz.func113 (by kernel_rfl) rfl args w) (jregs_v hB Q.ad Q.ct w.drew (h.ext hd) hW.wad hW.wct))
  have hs : InJob w g U Q w.drew := ⟨Keep.of_ext hd, _, _, _, _, h.ext hd⟩
  clear h hW hk
  generalize wrdE F true Q.ad Q.ct = E1 at HE HC
  go_enter Tryz.func68, Tryz.ntmps68
  go_wp2_with fail
  refine wp_region_held_drew (S := InJob w g U Q) (by kernel_rfl) hs (fun _ => ?_)
  refine tkG 0 3 (.pointer (some ⟨g, 0, none⟩)) hs ?_
  simp only [Act.put, tkA, tkB, tkC]
  refine tkG 1 4 (.pointer (some ⟨g, 0, none⟩)) hs ?_
  simp only [Act.put, tkA, tkB, tkC]
  refine tkG 2 5 (.func (Fn.func 113) #[.pointer (some ⟨g, 0, none⟩)] #[]) hs ?_
  simp only [Act.put, tkA, tkB, tkC]
  refine tkG 3 6 (.pointer (some ⟨g, 0, none⟩)) hs ?_
  simp only [Act.put, tkA, tkB, tkC]
  refine tkG 4 7 (.pointer (some ⟨g, 0, none⟩)) hs ?_
  simp only [Act.put, tkA, tkB, tkC]
  refine tkG 5 8 (.pointer (some ⟨g, 0, none⟩)) hs ?_
  simp only [Act.put, tkA, tkB, tkC]
  refine tkG 6 9 (.pointer (some ⟨g, 1, none⟩)) hs ?_
  simp only [Act.put, tkA, tkB, tkC]
  refine tkY 7 10 (.int .i64 Q.ad) hs ?_ (y := fun W hW => by obtain ⟨⟨k0, k1, k2, k3⟩, k4, k5, k6, k7⟩ := InJob.c hW; go_simp)
  simp only [Act.put, tkA, tkB, tkC]
  refine tkG 8 11 (.pointer (some ⟨g, 0, none⟩)) hs ?_
  simp only [Act.put, tkA, tkB, tkC]
  refine tkG 9 12 (.pointer (some ⟨g, 0, none⟩)) hs ?_
  simp only [Act.put, tkA, tkB, tkC]
  refine tkG 10 13 (.pointer (some ⟨g, 0, none⟩)) hs ?_
  simp only [Act.put, tkA, tkB, tkC]
  refine tkG 11 14 (.pointer (some ⟨g, 2, none⟩)) hs ?_
  simp only [Act.put, tkA, tkB, tkC]
  refine tkY 12 15 (.int .i64 Q.ct) hs ?_ (y := fun W hW => by obtain ⟨⟨k0, k1, k2, k3⟩, k4, k5, k6, k7⟩ := InJob.c hW; go_simp)
  simp only [Act.put, tkA, tkB, tkC]
  refine wpAnyH_ready (rs := [13]) (by kernel_rfl) (by simp) (AllReadyH.cons rfl (fun K hK => ?_) AllReadyH.nil)
  go_simp
  refine (HC.out).mono ?_; rintro e w9 ⟨rfl, y9, X9, hJ9⟩
  go_wp2_with fail
  refine hK.out _ _ ⟨keep_same (Keep.of_ext hd) y9, _, _, _, _, hJ9⟩ (fun hs => ?_)
  clear hK K
  refine tkG 14 2 (.int .i64 E1) hs ?_
  simp only [Act.put, tkA, tkB, tkC]
  refine wpAnyH_done (by kernel_rfl) ?_ _
  go_wp2_with fail
  go_ret
  obtain ⟨e1, e2, e3⟩ := HE.out
  exact ⟨by rw [e1] <;> rfl, keep_same (Keep.of_ext hd) y9, fun h0 => ⟨V, X9, by rw [e2, e3 h0]; exact hJ9⟩⟩
set_option maxHeartbeats 1000000 in
theorem jsetBit_v (hB : FSetBitsC 137) {g : Nat} {U : QstV} {Q : Qst} {V : FilV} {F : Fil} {X : QstV} {T : Tel} (w : World) (h : JobAt w g U Q V F X T) (hT : T = agT Q) (hq : rightQ Q = true) (hW : QstW Q) (hk : Q.k = 5) : Calls Tryz.prog 69 #[.pointer (some ⟨g, 0, none⟩)] w (JobP g U Q (datE F Q) (datF F Q) (datT F Q) w) := by
  have HE := Lib.hid (dat_is5 (F := F) hq hk)
  have HT := Lib.hid hT
  obtain ⟨B, hB'⟩ : ∃ B, decide (Q.va = 65280) = B := ⟨_, rfl⟩
  have hb : (Q.va == 65280) = B := hB'
  rw [hB'] at HE
  clear hB'
  have K := Lib.hid (jputBits_v hB (some ⟨w.heap.size, 0, none⟩) 1 1 (fun _ => B) (w.alloc (.cells #[Value.bool B] 4)) (h.ext (Ext.alloc _ _)) hW.wad (one_cell (mk := Value.bool) w B 4) (Nat.le_refl _) (by unfold maxLen; omega) (by omega))
  have c3 := h.c.1.2.2.2
  clear h hT hq hW hk
  go_enter Tryz.func69, Tryz.ntmps69
  go_wp2_with fail
  refine (K.out).mono ?_; rintro e w1 ⟨rfl, k1, V1, hJ⟩
  have kk := keep_same (Keep.of_ext (Ext.alloc w (.cells #[Value.bool B] 4))) k1
  clear c3 k1 hb
  go_wp2
  go_ret
  obtain ⟨e1, e2⟩ := HE.out
  exact ⟨by rw [e1] <;> rfl, kk, fun h0 => ⟨V1, X, by rw [(e2 h0).1, (e2 h0).2, ← HT.out]; exact hJ⟩⟩
set_option maxHeartbeats 1000000 in
theorem jsetReg_v (hB : FSetWordsC 138) {g : Nat} {U : QstV} {Q : Qst} {V : FilV} {F : Fil} {X : QstV} {T : Tel} (w : World) (h : JobAt w g U Q V F X T) (hT : T = agT Q) (hq : rightQ Q = true) (hW : QstW Q) (hk : Q.k = 6) : Calls Tryz.prog 70 #[.pointer (some ⟨g, 0, none⟩)] w (JobP g U Q (datE F Q) (datF F Q) (datT F Q) w) := by
  have HE := Lib.hid (dat_is6 (F := F) hq hk)
  have HT := Lib.hid hT
  have hv := (ask_facts hq).v6 hk
  have hb : IntKind.u16.wrap Q.va = Q.va := by rw [IntKind.wrap_u16]; omega
  clear hv
  have K := Lib.hid (jputRegs_v hB (some ⟨w.heap.size, 0, none⟩) 1 1 (fun _ => Q.va) (w.alloc (.cells #[Value.int .u16 Q.va] 59)) (h.ext (Ext.alloc _ _)) hW.wad (one_cell (mk := Value.int .u16) w Q.va 59) (Nat.le_refl _) (by unfold maxLen; omega) (by omega))
  have c3 := h.c.1.2.2.2
  clear h hT hq hW hk
  go_enter Tryz.func70, Tryz.ntmps70
  go_wp2_with fail
  refine (K.out).mono ?_; rintro e w1 ⟨rfl, k1, V1, hJ⟩
  have kk := keep_same (Keep.of_ext (Ext.alloc w (.cells #[Value.int .u16 Q.va] 59))) k1
  clear c3 k1 hb
  go_wp2
  go_ret
  obtain ⟨e1, e2⟩ := HE.out
  exact ⟨by rw [e1] <;> rfl, kk, fun h0 => ⟨V1, X, by rw [(e2 h0).1, (e2 h0).2, ← HT.out]; exact hJ⟩⟩
set_option maxHeartbeats 1000000 in
theorem jsetBits_w (hB : FSetBitsC 137) {g : Nat} {U : QstV} {Q : Qst} {V : FilV} {F : Fil} {X : QstV} {T : Tel} (w : World) (h : JobAt w g U Q V F X T) (hW : QstW Q) (hn : Q.nb ≤ 1000000) : Calls Tryz.prog 71 #[.pointer (some ⟨g, 0, none⟩)] w fun e w' => e = .returned (.int .i64 (sbE F Q.ad Q.nb)) ∧ Keep (fun i => i = g) w w' ∧ ∃ V', JobAt w' g U Q V' (sbF F Q.ad Q.nb Q.B) X T := by
  have K := Lib.hid (jputBits_v hB U.a1 Q.nb U.d1 Q.B w h hW.wad h.q.h1 h.q.l1 h.q.m1 hn)
  have c8 := h.c8.1
  clear h hW hn
  go_enter Tryz.func71, Tryz.ntmps71
  go_wp2_with fail
  refine (K.out).mono ?_; rintro e w1 ⟨rfl, kk, V1, hJ⟩
  clear c8
  go_wp2
  go_ret
  exact ⟨rfl, kk, V1, hJ⟩
set_option maxHeartbeats 1000000 in
theorem jsetRegs_w (hB : FSetWordsC 138) {g : Nat} {U : QstV} {Q : Qst} {V : FilV} {F : Fil} {X : QstV} {T : Tel} (w : World) (h : JobAt w g U Q V F X T) (hW : QstW Q) (hn : Q.nr ≤ 1000000) : Calls Tryz.prog 72 #[.pointer (some ⟨g, 0, none⟩)] w fun e w' => e = .returned (.int .i64 (swE F Q.ad Q.nr)) ∧ Keep (fun i => i = g) w w' ∧ ∃ V', JobAt w' g U Q V' (swF F Q.ad Q.nr Q.R) X T := by
  have K := Lib.hid (jputRegs_v hB U.a2 Q.nr U.d2 Q.R w h hW.wad h.q.h2 h.q.l2 h.q.m2 hn)
  have c8 := h.c8.2
  clear h hW hn
  go_enter Tryz.func72, Tryz.ntmps72
  go_wp2_with fail
  refine (K.out).mono ?_; rintro e w1 ⟨rfl, kk, V1, hJ⟩
  clear c8
  go_wp2
  go_ret
  exact ⟨rfl, kk, V1, hJ⟩
theorem jsetBits_v (hB : FSetBitsC 137) {g : Nat} {U : QstV} {Q : Qst} {V : FilV} {F : Fil} {X : QstV} {T : Tel} (w : World) (h : JobAt w g U Q V F X T) (hT : T = agT Q) (hq : rightQ Q = true) (hW : QstW Q) (hk : Q.k = 15) : Calls Tryz.prog 71 #[.pointer (some ⟨g, 0, none⟩)] w (JobP g U Q (datE F Q) (datF F Q) (datT F Q) w) :=
  (jsetBits_w hB w h hW (by have := (ask_facts hq).bt hk; omega)).mono fun e w' hh => by
    obtain ⟨rfl, kk, V1, hJ⟩ := hh
    obtain ⟨e1, e2⟩ := dat_is15 (F := F) hq hk
    exact ⟨by rw [e1] <;> rfl, kk, fun h0 => ⟨V1, X, by rw [(e2 h0).1, (e2 h0).2, ← hT]; exact hJ⟩⟩
theorem jsetRegs_v (hB : FSetWordsC 138) {g : Nat} {U : QstV} {Q : Qst} {V : FilV} {F : Fil} {X : QstV} {T : Tel} (w : World) (h : JobAt w g U Q V F X T) (hT : T = agT Q) (hq : rightQ Q = true) (hW : QstW Q) (hk : Q.k = 16) : Calls Tryz.prog 72 #[.pointer (some ⟨g, 0, none⟩)] w (JobP g U Q (datE F Q) (datF F Q) (datT F Q) w) :=
  (jsetRegs_w hB w h hW (by have := (ask_facts hq).wd (.inl hk); omega)).mono fun e w' hh => by
    obtain ⟨rfl, kk, V1, hJ⟩ := hh
    obtain ⟨e1, e2⟩ := dat_is16 (F := F) hq hk
    exact ⟨by rw [e1] <;> rfl, kk, fun h0 => ⟨V1, X, by rw [(e2 h0).1, (e2 h0).2, ← hT]; exact hJ⟩⟩
theorem jmask_q (hM : ∀ (x a o : BitVec 16) (w : World), Calls Tryz.prog 116 #[.int .u16 (vM x), .int .u16 (vM a), .int .u16 (vM o)] w fun e w' => e = .returned (.int .u16 (vM (mskV x a o))) ∧ w = w') (x a o : Int) (w : World) (hx : 0 ≤ x ∧ x < 65536) (ha : 0 ≤ a ∧ a < 65536) (ho : 0 ≤ o ∧ o < 65536) :
    Calls Tryz.prog 116 #[.int .u16 x, .int .u16 a, .int .u16 o] w fun e w' => e = .returned (.int .u16 (mskQ x a o)) ∧ w = w' := by
  have hv : ∀ y : Int, 0 ≤ y ∧ y < 65536 → vM (BitVec.ofInt 16 y) = y := fun y hy => by unfold vM; rw [BitVec.toNat_ofInt]; omega
  have h := hM (BitVec.ofInt 16 x) (BitVec.ofInt 16 a) (BitVec.ofInt 16 o) w
  rw [hv x hx, hv a ha, hv o ho] at h
  exact h
set_option maxHeartbeats 4000000 in
theorem jmask_v (hR : FWordsC 136) (hB : FSetWordsC 138) (hM : ∀ (x a o : BitVec 16) (w : World), Calls Tryz.prog 116 #[.int .u16 (vM x), .int .u16 (vM a), .int .u16 (vM o)] w fun e w' => e = .returned (.int .u16 (vM (mskV x a o))) ∧ w = w')
    {g : Nat} {U : QstV} {Q : Qst} {V : FilV} {F : Fil} {X : QstV} {T : Tel} (w : World) (h : JobAt w g U Q V F X T) (hT : T = agT Q) (hq : rightQ Q = true) (hFW : FilW F) (hW : QstW Q) (hk : Q.k = 22) : Calls Tryz.prog 73 #[.pointer (some ⟨g, 0, none⟩)] w (JobP g U Q (datE F Q) (datF F Q) (datT F Q) w) := by
  have HE := Lib.hid (dat_is22 (F := F) hq hk)
  have HT := Lib.hid hT
  have hms := (ask_facts hq).ms hk
  have KR := Lib.hid (jholding_v hR Q.ad 1 w h hW.wad (by decide))
  have c1 := h.c.1.2.1
  have hwad := hW.wad
  have hg := h.lt
  by_cases h0 : swE F Q.ad 1 = 0
  · have hN : wrdN F false Q.ad 1 = 1 := by unfold wrdN; rw [if_pos (sw_wrd (F := F) Q.ad 1 ▸ h0)]; rfl
    have hbx := wrd_bd hFW false Q.ad 1 (by omega) 0 (by omega)
    have h00 : wrdE F false Q.ad 1 = 0 := h0
    rw [hN, h00] at KR
    have KM := Lib.hid (fun W => jmask_q hM (wrdL F false Q.ad 0) Q.an Q.oo W hbx ⟨hms.1, by omega⟩ ⟨hms.2.2.1, by omega⟩)
    have hw1 : IntKind.u16.wrap Q.an = Q.an := by rw [IntKind.wrap_u16]; omega
    have hw2 : IntKind.u16.wrap Q.oo = Q.oo := by rw [IntKind.wrap_u16]; omega
    obtain ⟨M, hMM⟩ : ∃ M, mskQ (wrdL F false Q.ad 0) Q.an Q.oo = M := ⟨_, rfl⟩
    rw [hMM] at KM HE
    have HJ := Lib.hid h
    clear hT hq hW hk hms hFW hN h00 hbx hMM h
    go_enter Tryz.func73, Tryz.ntmps73
    go_wp2_with fail
    refine (KR.out).mono ?_; rintro e w1 ⟨b1, q, rfl, n1, n2, hb, x1, hf⟩
    obtain ⟨bb, off, rfl, hlt, hc⟩ := hb.resolve_left (by decide)
    have hc0 := hc 0 (by decide)
    rw [Nat.add_zero] at hc0
    have hne : bb ≠ g := by have := hf _ rfl; have : w.heap.size ≤ bb := this; omega
    have HCW := Lib.hid (fun W (hW : InJob w1 g U Q W) => hW.k.cell (fun e => hne e) hc0)
    have hJ := HJ.out.ext x1
    have hd : Ext w1 w1.drew := Ext.drew w1
    have KS := Lib.hid (jputRegs_v hB (some ⟨w1.drew.heap.size, 0, none⟩) 1 1 (fun _ => M) (w1.drew.alloc (.cells #[Value.int .u16 M] 59)) (hJ.ext (hd.trans (Ext.alloc _ _))) hwad (one_cell (mk := Value.int .u16) w1.drew M 59) (Nat.le_refl _) (by unfold maxLen; omega) (by omega))
    have hs : InJob w1 g U Q w1.drew := ⟨Keep.of_ext hd, _, _, _, _, hJ.ext hd⟩
    clear hc hc0 hlt hb hne hf n1 n2 c1
    go_upto_region 4 with fail
    refine wp_region_held_drew (S := InJob w1 g U Q) (by kernel_rfl) hs (fun _ => ?_)
    refine tkG 0 18 (.pointer (some ⟨g, 0, none⟩)) hs ?_
    simp only [Act.put, tkA, tkB, tkC]
    refine tkG 1 19 (.slice (some ⟨bb, off, none⟩) 1 q) hs ?_
    simp only [Act.put, tkA, tkB, tkC]
    refine tkY 2 20 (.pointer (some ⟨bb, off, none⟩)) hs ?_ (y := fun W hW => by obtain ⟨⟨k0, k1, k2, k3⟩, k4, k5, k6, k7⟩ := InJob.c hW; have kw := HCW.out W hW; go_simp)
    simp only [Act.put, tkA, tkB, tkC]
    refine tkY 3 21 (.int .u16 (wrdL F false Q.ad 0)) hs ?_ (y := fun W hW => by obtain ⟨⟨k0, k1, k2, k3⟩, k4, k5, k6, k7⟩ := InJob.c hW; have kw := HCW.out W hW; go_simp)
    simp only [Act.put, tkA, tkB, tkC]
    refine tkG 4 22 (.pointer (some ⟨g, 0, none⟩)) hs ?_
    simp only [Act.put, tkA, tkB, tkC]
    refine tkG 5 23 (.pointer (some ⟨g, 0, none⟩)) hs ?_
    simp only [Act.put, tkA, tkB, tkC]
    refine tkG 6 24 (.pointer (some ⟨g, 0, none⟩)) hs ?_
    simp only [Act.put, tkA, tkB, tkC]
    refine tkG 7 25 (.pointer (some ⟨g, 4, none⟩)) hs ?_
    simp only [Act.put, tkA, tkB, tkC]
    refine tkY 8 26 (.int .i64 Q.an) hs ?_ (y := fun W hW => by obtain ⟨⟨k0, k1, k2, k3⟩, k4, k5, k6, k7⟩ := InJob.c hW; have kw := HCW.out W hW; go_simp)
    simp only [Act.put, tkA, tkB, tkC]
    refine tkG 9 27 (.int .u16 Q.an) hs ?_
    simp only [Act.put, tkA, tkB, tkC]
    refine tkG 10 28 (.pointer (some ⟨g, 0, none⟩)) hs ?_
    simp only [Act.put, tkA, tkB, tkC]
    refine tkG 11 29 (.pointer (some ⟨g, 0, none⟩)) hs ?_
    simp only [Act.put, tkA, tkB, tkC]
    refine tkG 12 30 (.pointer (some ⟨g, 0, none⟩)) hs ?_
    simp only [Act.put, tkA, tkB, tkC]
    refine tkG 13 31 (.pointer (some ⟨g, 5, none⟩)) hs ?_
    simp only [Act.put, tkA, tkB, tkC]
    refine tkY 14 32 (.int .i64 Q.oo) hs ?_ (y := fun W hW => by obtain ⟨⟨k0, k1, k2, k3⟩, k4, k5, k6, k7⟩ := InJob.c hW; have kw := HCW.out W hW; go_simp)
    simp only [Act.put, tkA, tkB, tkC]
    refine tkG 15 33 (.int .u16 Q.oo) hs ?_
    simp only [Act.put, tkA, tkB, tkC]
    refine wpAnyH_ready (rs := [16]) (by kernel_rfl) (by simp) (AllReadyH.cons rfl (fun K hK => ?_) AllReadyH.nil)
    go_simp
    refine (KM.out _).mono ?_; rintro e Wm ⟨rfl, rfl⟩
    go_wp2_with fail
    refine hK.out _ _ hs (fun hs => ?_)
    clear hK K
    refine wpAnyH_ready (rs := [17]) (by kernel_rfl) (by simp) (AllReadyH.cons rfl (fun K hK => ?_) AllReadyH.nil)
    go_simp
    refine hK.out _ _ ⟨Keep.of_ext (hd.trans (Ext.alloc _ _)), _, _, _, _, hJ.ext (hd.trans (Ext.alloc _ _))⟩ (fun hs => ?_)
    clear hK K
    refine wpAnyH_ready (rs := [18]) (by kernel_rfl) (by simp) (AllReadyH.cons rfl (fun K hK => ?_) AllReadyH.nil)
    go_simp
    refine (KS.out).mono ?_; rintro e w9 ⟨rfl, y9, V9, hJ9⟩
    go_wp2_with fail
    have k9 := keep_same (Keep.of_ext (hd.trans (Ext.alloc _ _))) y9
    refine hK.out _ _ ⟨k9, _, _, _, _, hJ9⟩ (fun hs => ?_)
    clear hK K
    refine tkG 19 2 (.int .i64 (swE F Q.ad 1)) hs ?_
    simp only [Act.put, tkA, tkB, tkC]
    refine wpAnyH_done (by kernel_rfl) ?_ _
    go_wp2_with fail
    go_ret
    obtain ⟨e1, e2⟩ := HE.out
    exact ⟨by rw [e1] <;> rfl, keep_same (Keep.of_ext x1) k9, fun h0 => ⟨V9, X, by rw [(e2 h0).1, (e2 h0).2, ← HT.out]; exact hJ9⟩⟩
  · have hE : (wrdE F false Q.ad 1 != 0) = true := by have h1 : ¬ wrdE F false Q.ad 1 = 0 := h0; simpa using h1
    have HN := Lib.hid h0
    clear hT hq hW hk hms hFW h0 h
    have HE1 := Lib.hid (sw_wrd (F := F) Q.ad 1)
    generalize wrdE F false Q.ad 1 = E1 at KR hE HE1
    go_enter Tryz.func73, Tryz.ntmps73
    go_wp2_with fail
    refine (KR.out).mono ?_; rintro e w1 ⟨b1, q, rfl, n1, n2, hb, x1, hf⟩
    clear hb hf n1 n2 c1
    go_wp2
    go_ret
    obtain ⟨e1, e2⟩ := HE.out
    refine ⟨by rw [e1, HE1.out] <;> rfl, Keep.of_ext x1, fun h0 => absurd (e1.symm.trans h0) HN.out⟩
theorem jforemost_v {a b E : Int} (hE : fmoE a b = E) (w : World) : Calls Tryz.prog 117 #[.int .i64 a, .int .i64 b] w fun e w' => e = .returned (.int .i64 E) ∧ w' = w := by
  unfold fmoE at hE
  by_cases h1 : a = 0
  · subst h1
    have hE : b = E := by simpa using hE
    subst hE
    go_enter Tryz.func117, Tryz.ntmps117
    go_wp2
    go_ret
    exact ⟨rfl, rfl⟩
  · have f1 : (a == 0) = false := by simp [h1]
    by_cases h2 : b = 2
    · subst h2
      have hE : 2 = E := by simpa using hE
      subst hE
      have H1 := Lib.hid h1
      clear h1
      go_enter Tryz.func117, Tryz.ntmps117
      go_wp2
      go_ret
      exact ⟨rfl, rfl⟩
    · have f2 : (b == 2) = false := by simp [h2]
      have hE : a = E := by rw [if_neg (not_or.2 ⟨h1, h2⟩)] at hE; exact hE
      subst hE
      clear h1 h2
      go_enter Tryz.func117, Tryz.ntmps117
      go_wp2
      go_ret
      exact ⟨rfl, rfl⟩
set_option maxHeartbeats 4000000 in
theorem jsetReadRegs_v (hR : FWordsC 136) (hB : FSetWordsC 138) {g : Nat} {U : QstV} {Q : Qst} {V : FilV} {F : Fil} {X : QstV} {T : Tel} (w : World) (h : JobAt w g U Q V F X T) (hq : rightQ Q = true) (hr : rightB F = true) (hW : QstW Q) (hk : Q.k = 23) : Calls Tryz.prog 74 #[.pointer (some ⟨g, 0, none⟩)] w (JobP g U Q (datE F Q) (datF F Q) (datT F Q) w) := by
  have HE := Lib.hid (dat_is23 (F := F) hq hr hk)
  have hd : Ext w w.drew := Ext.drew w
  have hn : Q.nr ≤ 1000000 := by have := (ask_facts hq).wd (.inr hk); omega
  have KR := Lib.hid (jholding_v hR Q.fr Q.mn w.drew (h.ext hd) hW.wfr hW.wmn)
  have KW := Lib.hid (fun W (j : JobAt W g U Q V F X T) => jsetRegs_w hB W j hW hn)
  have HB := Lib.hid (fun (h0 : swE F Q.ad Q.nr = 0) => wrd_behind (F := F) hr (v := Q.R) h0 false Q.fr Q.mn)
  have KH := Lib.hid (fun W V' (j : JobAt W g U Q V' (swF F Q.ad Q.nr Q.R) X T) => jtellRegs_v 112 Q.fr Q.mn (wrdE (swF F Q.ad Q.nr Q.R) false Q.fr Q.mn) (wrdN (swF F Q.ad Q.nr Q.R) false Q.fr Q.mn) (wrdL (swF F Q.ad Q.nr Q.R) false Q.fr) W j (fun args w => job_enters Tryz.func112 (by kernel_rfl) rfl args w) (jholding_v hR Q.fr Q.mn W j hW.wfr hW.wmn))
  have HJ := Lib.hid h
  have hs : InJob w g U Q w.drew := ⟨Keep.of_ext hd, _, _, _, _, h.ext hd⟩
  clear hq hr hW hk hn h
  generalize swE F Q.ad Q.nr = E2 at *
  generalize swF F Q.ad Q.nr Q.R = F2 at *
  generalize wrdE F false Q.fr Q.mn = E1 at *
  generalize wrdN F false Q.fr Q.mn = N1 at *
  generalize wrdL F false Q.fr = L1 at *
  go_enter Tryz.func74, Tryz.ntmps74
  go_wp2_with fail
  refine wp_region_held_drew (S := InJob w g U Q) (by kernel_rfl) hs (fun _ => ?_)
  refine tkG 0 7 (.pointer (some ⟨g, 0, none⟩)) hs ?_
  simp only [Act.put, tkA, tkB, tkC]
  refine tkG 1 8 (.pointer (some ⟨g, 0, none⟩)) hs ?_
  simp only [Act.put, tkA, tkB, tkC]
  refine tkG 2 9 (.pointer (some ⟨g, 0, none⟩)) hs ?_
  simp only [Act.put, tkA, tkB, tkC]
  refine tkG 3 10 (.pointer (some ⟨g, 0, none⟩)) hs ?_
  simp only [Act.put, tkA, tkB, tkC]
  refine tkG 4 11 (.pointer (some ⟨g, 6, none⟩)) hs ?_
  simp only [Act.put, tkA, tkB, tkC]
  refine tkY 5 12 (.int .i64 Q.fr) hs ?_ (y := fun W hW => by obtain ⟨⟨k0, k1, k2, k3⟩, k4, k5, k6, k7⟩ := InJob.c hW; go_simp)
  simp only [Act.put, tkA, tkB, tkC]
  refine tkG 6 13 (.pointer (some ⟨g, 0, none⟩)) hs ?_
  simp only [Act.put, tkA, tkB, tkC]
  refine tkG 7 14 (.pointer (some ⟨g, 0, none⟩)) hs ?_
  simp only [Act.put, tkA, tkB, tkC]
  refine tkG 8 15 (.pointer (some ⟨g, 0, none⟩)) hs ?_
  simp only [Act.put, tkA, tkB, tkC]
  refine tkG 9 16 (.pointer (some ⟨g, 7, none⟩)) hs ?_
  simp only [Act.put, tkA, tkB, tkC]
  refine tkY 10 17 (.int .i64 Q.mn) hs ?_ (y := fun W hW => by obtain ⟨⟨k0, k1, k2, k3⟩, k4, k5, k6, k7⟩ := InJob.c hW; go_simp)
  simp only [Act.put, tkA, tkB, tkC]
  refine wpAnyH_ready (rs := [11]) (by kernel_rfl) (by simp) (AllReadyH.cons rfl (fun K hK => ?_) AllReadyH.nil)
  go_simp
  refine (KR.out).mono ?_; rintro e w1 ⟨b1, q, rfl, n1, n2, hb, x1, -⟩
  go_wp2_with fail
  have x1 := hd.trans x1
  have hJ1 := HJ.out.ext x1
  refine hK.out _ _ ⟨Keep.of_ext x1, _, _, _, _, hJ1⟩ (fun hs => ?_)
  clear hK K
  refine tkG 12 6 (.tuple #[.slice b1 N1 q, .int .i64 E1]) hs ?_
  simp only [Act.put, tkA, tkB, tkC]
  refine tkG 13 19 (.slice b1 N1 q) hs ?_
  simp only [Act.put, tkA, tkB, tkC]
  refine tkG 14 20 (.int .i64 E1) hs ?_
  simp only [Act.put, tkA, tkB, tkC]
  refine tkG 15 3 (.slice b1 N1 q) hs ?_
  simp only [Act.put, tkA, tkB, tkC]
  refine tkG 16 4 (.int .i64 E1) hs ?_
  simp only [Act.put, tkA, tkB, tkC]
  refine wpAnyH_done (by kernel_rfl) ?_ _
  clear hs hb n1 n2 KR
  obtain ⟨E3, hE3⟩ : ∃ E3, fmoE E1 E2 = E3 := ⟨_, rfl⟩
  have KF := Lib.hid (fun W => jforemost_v hE3 W)
  have HF := Lib.hid hE3
  rw [hE3] at HE
  clear hE3
  go_wp2_with fail
  refine (KW.out _ hJ1).mono ?_; rintro e w2 ⟨rfl, k2, V2, hJ2⟩
  go_wp2_with fail
  refine (KF.out _).mono ?_; rintro e w3 ⟨rfl, e3⟩
  rw [e3]
  clear e3 w3
  clear KW KF
  have HK2 := Lib.hid (keep_same (Keep.of_ext x1) k2)
  clear k2 x1 hJ1 hd
  by_cases h0 : E3 = 0
  · subst h0
    obtain ⟨-, e2⟩ := HE.out
    obtain ⟨e2, e3, e4, e5⟩ := e2 HE.out.1
    have hE2 := HB.out e3
    rw [e2] at hE2
    rw [e4] at e5
    have HX := Lib.hid (And.intro HE.out.1 (And.intro e4 e5))
    have he : Ext w2 w2.drew := Ext.drew w2
    have HC := Lib.hid (KH.out _ _ (hJ2.ext he))
    rw [hE2] at HC
    have hs : InJob w2 g U Q w2.drew := ⟨Keep.of_ext he, _, _, _, _, hJ2.ext he⟩
    clear e2 e3 e4 e5 hE2 HE HB KH HF
    go_upto_region 5 with fail
    refine wp_region_held_drew (S := InJob w2 g U Q) (by kernel_rfl) hs (fun _ => ?_)
    refine tkG 0 28 (.pointer (some ⟨g, 0, none⟩)) hs ?_
    simp only [Act.put, tkA, tkB, tkC]
    refine tkG 1 29 (.pointer (some ⟨g, 0, none⟩)) hs ?_
    simp only [Act.put, tkA, tkB, tkC]
    refine tkG 2 30 (.func (Fn.func 112) #[.pointer (some ⟨g, 0, none⟩)] #[]) hs ?_
    simp only [Act.put, tkA, tkB, tkC]
    refine tkG 3 31 (.pointer (some ⟨g, 0, none⟩)) hs ?_
    simp only [Act.put, tkA, tkB, tkC]
    refine tkG 4 32 (.pointer (some ⟨g, 0, none⟩)) hs ?_
    simp only [Act.put, tkA, tkB, tkC]
    refine tkG 5 33 (.pointer (some ⟨g, 0, none⟩)) hs ?_
    simp only [Act.put, tkA, tkB, tkC]
    refine tkG 6 34 (.pointer (some ⟨g, 6, none⟩)) hs ?_
    simp only [Act.put, tkA, tkB, tkC]
    refine tkY 7 35 (.int .i64 Q.fr) hs ?_ (y := fun W hW => by obtain ⟨⟨k0, k1, k2, k3⟩, k4, k5, k6, k7⟩ := InJob.c hW; go_simp)
    simp only [Act.put, tkA, tkB, tkC]
    refine tkG 8 36 (.pointer (some ⟨g, 0, none⟩)) hs ?_
    simp only [Act.put, tkA, tkB, tkC]
    refine tkG 9 37 (.pointer (some ⟨g, 0, none⟩)) hs ?_
    simp only [Act.put, tkA, tkB, tkC]
    refine tkG 10 38 (.pointer (some ⟨g, 0, none⟩)) hs ?_
    simp only [Act.put, tkA, tkB, tkC]
    refine tkG 11 39 (.pointer (some ⟨g, 7, none⟩)) hs ?_
    simp only [Act.put, tkA, tkB, tkC]
    refine tkY 12 40 (.int .i64 Q.mn) hs ?_ (y := fun W hW => by obtain ⟨⟨k0, k1, k2, k3⟩, k4, k5, k6, k7⟩ := InJob.c hW; go_simp)
    simp only [Act.put, tkA, tkB, tkC]
    refine wpAnyH_ready (rs := [13]) (by kernel_rfl) (by simp) (AllReadyH.cons rfl (fun K hK => ?_) AllReadyH.nil)
    go_simp
    refine (HC.out).mono ?_; rintro e w9 ⟨rfl, y9, X9, hJ9⟩
    go_wp2_with fail
    have k9 := keep_same (Keep.of_ext he) y9
    refine hK.out _ _ ⟨k9, _, _, _, _, hJ9⟩ (fun hs => ?_)
    clear hK K
    refine tkG 14 2 (.int .i64 0) hs ?_
    simp only [Act.put, tkA, tkB, tkC]
    refine wpAnyH_done (by kernel_rfl) ?_ _
    go_wp2_with fail
    go_ret
    obtain ⟨e1, e2, e3⟩ := HX.out
    exact ⟨by rw [e1] <;> rfl, keep_same HK2.out k9, fun h0 => ⟨V2, X9, by rw [e2, e3]; exact hJ9⟩⟩
  · have f1 : (E3 != 0) = true := by simpa using h0
    have HN := Lib.hid h0
    clear h0
    go_wp2
    go_ret
    exact ⟨by rw [HE.out.1] <;> rfl, HK2.out, fun h0 => absurd (HE.out.1.symm.trans h0) HN.out⟩
/-- A function that executes an ask: it is entered when it is called, and does what is asked. -/
structure ExecC (M : FuncId) (k : Int) : Prop where
  enters : ∀ (args : Array Value) (w : World), (callFunc M args).run Tryz.prog w = .ok (.enter M args) w
  does : ∀ (g : Nat) (U : QstV) (Q : Qst) (V : FilV) (F : Fil) (X : QstV) (w : World), Q.k = k → rightQ Q = true → rightB F = true → FilW F → QstW Q → JobAt w g U Q V F X (agT Q) → Calls Tryz.prog M #[.pointer (some ⟨g, 0, none⟩)] w (JobP g U Q (datE F Q) (datF F Q) (datT F Q) w)
set_option maxHeartbeats 4000000 in
theorem execution_v (hB : FBitsC 135) (hR : FWordsC 136) (hP : FSetBitsC 137) (hS : FSetWordsC 138) (hM : ∀ (x a o : BitVec 16) (w : World), Calls Tryz.prog 116 #[.int .u16 (vM x), .int .u16 (vM a), .int .u16 (vM o)] w fun e w' => e = .returned (.int .u16 (vM (mskV x a o))) ∧ w = w')
    (k : Int) (h : knownB k = true) (w : World) : Calls Tryz.prog 34 #[.int .i64 k] w fun e w' => ∃ M, e = .returned (.func (Fn.func M) #[] #[]) ∧ ExecC M k ∧ w' = w := by
  have hk := (known_iff k).1 h
  have HH := Lib.hid (And.intro hB (And.intro hR (And.intro hP (And.intro hS hM))))
  clear h hB hR hP hS hM
  rcases hk with rfl | rfl | rfl | rfl | rfl | rfl | rfl | rfl | rfl | rfl
  all_goals
    go_enter Tryz.func34, Tryz.ntmps34
    go_wp2
    go_ret
  · exact ⟨_, rfl, ⟨(fun args w => job_enters Tryz.func65 (by kernel_rfl) rfl args w), fun g U Q V F X w qk q r fw qW j => jreadCoils_v HH.out.1 w j qW qk⟩, rfl⟩
  · exact ⟨_, rfl, ⟨(fun args w => job_enters Tryz.func66 (by kernel_rfl) rfl args w), fun g U Q V F X w qk q r fw qW j => jreadInputs_v HH.out.1 w j qW qk⟩, rfl⟩
  · exact ⟨_, rfl, ⟨(fun args w => job_enters Tryz.func67 (by kernel_rfl) rfl args w), fun g U Q V F X w qk q r fw qW j => jreadHolding_v HH.out.2.1 w j qW qk⟩, rfl⟩
  · exact ⟨_, rfl, ⟨(fun args w => job_enters Tryz.func68 (by kernel_rfl) rfl args w), fun g U Q V F X w qk q r fw qW j => jreadRegs_v HH.out.2.1 w j qW qk⟩, rfl⟩
  · exact ⟨_, rfl, ⟨(fun args w => job_enters Tryz.func69 (by kernel_rfl) rfl args w), fun g U Q V F X w qk q r fw qW j => jsetBit_v HH.out.2.2.1 w j rfl q qW qk⟩, rfl⟩
  · exact ⟨_, rfl, ⟨(fun args w => job_enters Tryz.func70 (by kernel_rfl) rfl args w), fun g U Q V F X w qk q r fw qW j => jsetReg_v HH.out.2.2.2.1 w j rfl q qW qk⟩, rfl⟩
  · exact ⟨_, rfl, ⟨(fun args w => job_enters Tryz.func71 (by kernel_rfl) rfl args w), fun g U Q V F X w qk q r fw qW j => jsetBits_v HH.out.2.2.1 w j rfl q qW qk⟩, rfl⟩
  · exact ⟨_, rfl, ⟨(fun args w => job_enters Tryz.func72 (by kernel_rfl) rfl args w), fun g U Q V F X w qk q r fw qW j => jsetRegs_v HH.out.2.2.2.1 w j rfl q qW qk⟩, rfl⟩
  · exact ⟨_, rfl, ⟨(fun args w => job_enters Tryz.func73 (by kernel_rfl) rfl args w), fun g U Q V F X w qk q r fw qW j => jmask_v HH.out.2.1 HH.out.2.2.2.1 HH.out.2.2.2.2 w j rfl q fw qW qk⟩, rfl⟩
  · exact ⟨_, rfl, ⟨(fun args w => job_enters Tryz.func74 (by kernel_rfl) rfl args w), fun g U Q V F X w qk q r fw qW j => jsetReadRegs_v HH.out.2.1 HH.out.2.2.2.1 w j q r qW qk⟩, rfl⟩
end Go.Proofs.YtlafnobjfajamaaGreat
namespace Go.Proofs.YtlafnobjfajamaaGreat
open Go.RowKit
set_option linter.unusedVariables false
set_option maxRecDepth 100000

set_option maxHeartbeats 2000000 in
theorem jagain_v (U : QstV) (Q : Qst) (w : World) : Calls Tryz.prog 33 #[.agg (qstC U Q)] w fun e w' => e = .returned (.agg (telC zeroQV (agT Q))) ∧ Ext w w' := by
  obtain ⟨k, ad, ct, va, an, oo, fr, mn, nb, B, nr, R⟩ := Q
  obtain ⟨a1, d1, a2, d2⟩ := U
  unfold qstC
  dsimp only
  go_enter Tryz.func33, Tryz.ntmps33
  go_wp2
  refine bodyPost_ret (results_cell_row rfl _ _ (w.heap.size + 1) 37 _ (0, 0) _ rfl (heap_new_at _ _ (by simp)) Tryz.underlying37 rfl (by kernel_rfl)) rfl ?_
  exact ⟨rfl, (Ext.alloc _ _).trans (Ext.alloc _ _)⟩
theorem data_writes_c : DWritesC 14 := fun k w => by
  cases h : writesB k with
  | true =>
    rcases (writes_iff k).1 h with rfl | rfl | rfl | rfl | rfl | rfl
    all_goals
      clear h
      go_enter Tryz.func14, Tryz.ntmps14
      go_wp2
      go_ret
      exact ⟨rfl, Ext.refl _⟩
  | false =>
    have hk : ¬ (k = 5 ∨ k = 6 ∨ k = 15 ∨ k = 16 ∨ k = 22 ∨ k = 23) := fun hh => by have := (writes_iff k).2 hh; rw [h] at this; cases this
    have b5 : (k == 5) = false := by simp; omega
    have b6 : (k == 6) = false := by simp; omega
    have b15 : (k == 15) = false := by simp; omega
    have b16 : (k == 16) = false := by simp; omega
    have b22 : (k == 22) = false := by simp; omega
    have b23 : (k == 23) = false := by simp; omega
    clear hk h
    go_enter Tryz.func14, Tryz.ntmps14
    go_wp2
    go_ret
    exact ⟨rfl, Ext.refl _⟩
/-- What Do's boxes hold. -/
structure DoB (w wr : World) (V : FilV) (F : Fil) (U : QstV) (Q : Qst) : Prop where
  x : Ext w wr
  b2 : wr.heap[w.heap.size]? = some (.cells (filC V F) 29 (0, 0))
  b3 : wr.heap[w.heap.size + 1]? = some (.cells (qstC U Q) 31 (0, 0))
  b4 : wr.heap[w.heap.size + 1 + 1]? = some (.cells (filC zeroV zeroF) 29 (0, 0))
  b5 : wr.heap[w.heap.size + 1 + 1 + 1]? = some (.cells (telC zeroQV zeroT) 37 (0, 0))
section
variable {w wr wr' : World} {V : FilV} {F : Fil} {U : QstV} {Q : Qst}
theorem DoB.ext (h : DoB w wr V F U Q) (x : Ext wr wr') : DoB w wr' V F U Q := ⟨h.x.trans x, x.block h.b2, x.block h.b3, x.block h.b4, x.block h.b5⟩
theorem DoB.keep {g : Nat} (h : DoB w wr V F U Q) (k : Keep (fun i => i = g) wr wr') (hg : w.heap.size + 4 ≤ g) : DoB w wr' V F U Q :=
  have key : ∀ i, i < w.heap.size + 4 → i < wr.heap.size → wr'.heap[i]? = wr.heap[i]? := fun i hi hl => k.block i hl (fun e => by have e : i = g := e; omega)
  ⟨Ext.keep h.x k (fun i e => by have e : i = g := e; omega), (key _ (by omega) (heap_lt h.b2)).trans h.b2, (key _ (by omega) (heap_lt h.b3)).trans h.b3, (key _ (by omega) (heap_lt h.b4)).trans h.b4, (key _ (by omega) (heap_lt h.b5)).trans h.b5⟩
theorem DoB.begin (V : FilV) (F : Fil) (U : QstV) (Q : Qst) (w : World) : ∃ W, W = ((((w.alloc (.cells (filC V F) 29)).alloc (.cells (qstC U Q) 31)).alloc (.cells #[.int .i64 0, .int .i64 0, .int .i64 0, .int .i64 0, .int .i64 0, .int .i64 0, .int .i64 0, .int .i64 0, .int .i64 0, .int .i64 0, .slice none 0 0, .slice none 0 0, .slice none 0 0, .slice none 0 0] 29)).alloc (.cells #[.int .i64 0, .int .i64 0, .int .i64 0, .int .i64 0, .int .i64 0, .int .i64 0, .int .i64 0, .slice none 0 0, .slice none 0 0] 37)) ∧ DoB w W V F U Q := by
  refine ⟨_, rfl, ?_⟩
  have x1 := Ext.alloc w (.cells (filC V F) 29)
  have h1 := heap_alloc_new w (.cells (filC V F) 29)
  have s1 : (w.alloc (.cells (filC V F) 29)).heap.size = w.heap.size + 1 := by simp
  generalize w.alloc (.cells (filC V F) 29) = wa at *
  have x2 := Ext.alloc wa (.cells (qstC U Q) 31)
  have h2 := heap_alloc_new wa (.cells (qstC U Q) 31)
  have s2 : (wa.alloc (.cells (qstC U Q) 31)).heap.size = wa.heap.size + 1 := by simp
  generalize wa.alloc (.cells (qstC U Q) 31) = wb at *
  have x3 := Ext.alloc wb (.cells #[.int .i64 0, .int .i64 0, .int .i64 0, .int .i64 0, .int .i64 0, .int .i64 0, .int .i64 0, .int .i64 0, .int .i64 0, .int .i64 0, .slice none 0 0, .slice none 0 0, .slice none 0 0, .slice none 0 0] 29)
  have h3 := heap_alloc_new wb (.cells #[.int .i64 0, .int .i64 0, .int .i64 0, .int .i64 0, .int .i64 0, .int .i64 0, .int .i64 0, .int .i64 0, .int .i64 0, .int .i64 0, .slice none 0 0, .slice none 0 0, .slice none 0 0, .slice none 0 0] 29)
  have s3 : (wb.alloc (.cells #[.int .i64 0, .int .i64 0, .int .i64 0, .int .i64 0, .int .i64 0, .int .i64 0, .int .i64 0, .int .i64 0, .int .i64 0, .int .i64 0, .slice none 0 0, .slice none 0 0, .slice none 0 0, .slice none 0 0] 29)).heap.size = wb.heap.size + 1 := by simp
  generalize wb.alloc (.cells #[.int .i64 0, .int .i64 0, .int .i64 0, .int .i64 0, .int .i64 0, .int .i64 0, .int .i64 0, .int .i64 0, .int .i64 0, .int .i64 0, .slice none 0 0, .slice none 0 0, .slice none 0 0, .slice none 0 0] 29) = wc at *
  have x4 := Ext.alloc wc (.cells #[.int .i64 0, .int .i64 0, .int .i64 0, .int .i64 0, .int .i64 0, .int .i64 0, .int .i64 0, .slice none 0 0, .slice none 0 0] 37)
  have h4 := heap_alloc_new wc (.cells #[.int .i64 0, .int .i64 0, .int .i64 0, .int .i64 0, .int .i64 0, .int .i64 0, .int .i64 0, .slice none 0 0, .slice none 0 0] 37)
  rw [s1] at h2 s2
  rw [s2] at h3 s3
  rw [s3] at h4
  exact ⟨((x1.trans x2).trans x3).trans x4, x4.block (x3.block (x2.block h1)), x4.block (x3.block h2), x4.block h3, h4⟩
/-- What is told: both boxes written over. -/
theorem DoB.told (h : DoB w wr V F U Q) {V' : FilV} {F' : Fil} {X : QstV} {T : Tel} (hf : FilAt wr V' F') (ht : TelAt wr X T) : FilAt ((wr.setRow (w.heap.size + 1 + 1) (filC V' F')).setRow (w.heap.size + 1 + 1 + 1) (telC X T)) V' F' ∧ TelAt ((wr.setRow (w.heap.size + 1 + 1) (filC V' F')).setRow (w.heap.size + 1 + 1 + 1) (telC X T)) X T ∧ Ext w ((wr.setRow (w.heap.size + 1 + 1) (filC V' F')).setRow (w.heap.size + 1 + 1 + 1) (telC X T)) ∧
    ((wr.setRow (w.heap.size + 1 + 1) (filC V' F')).setRow (w.heap.size + 1 + 1 + 1) (telC X T)).heap[w.heap.size + 1 + 1]? = some (.cells (filC V' F') 29 (0, 0)) ∧ ((wr.setRow (w.heap.size + 1 + 1) (filC V' F')).setRow (w.heap.size + 1 + 1 + 1) (telC X T)).heap[w.heap.size + 1 + 1 + 1]? = some (.cells (telC X T) 37 (0, 0)) := by
  have b5 : (wr.setRow (w.heap.size + 1 + 1) (filC V' F')).heap[w.heap.size + 1 + 1 + 1]? = some (.cells (telC zeroQV zeroT) 37 (0, 0)) := (setRow_other _ _ _ _ (by omega)).trans h.b5
  refine ⟨(hf.row h.b4 (plain_fil _ _) _).row b5 (plain_tel _ _) _, (ht.row h.b4 (plain_fil _ _) _).row b5 (plain_tel _ _) _, below_setRow (below_setRow h.x (by omega) _) (by omega) _, ?_, setRow_heap _ _ _ _ _ _ b5⟩
  exact (setRow_other _ _ _ _ (by omega)).trans (setRow_heap _ _ _ _ _ _ h.b4)
end
theorem keepRowY (w : World) (g : Nat) (cs : Array Value) : Keep (fun i => i = g) w (w.setRow g cs) := ⟨rfl, rfl, rfl, by simp, fun k _ hn => setRow_other w _ k _ hn⟩
def ARightC (Fn : FuncId) : Prop := ∀ (V : QstV) (Q : Qst) (w : World), QstAt w V Q → Q.nb ≤ 1000000 → Q.nr ≤ 1000000 → Calls Tryz.prog Fn #[.agg (qstC V Q)] w fun e w' => e = .returned (.bool (rightQ Q)) ∧ Ext w w'
def DoP (F : Fil) (Q : Qst) (w : World) (e : Ending) (w' : World) : Prop := ∃ V' X, e = .returned (.tuple #[.agg (filC V' (dooF F Q)), .agg (telC X (dooT F Q)), .int .i64 (dooE F Q)]) ∧ FilAt w' V' (dooF F Q) ∧ TelAt w' X (dooT F Q) ∧ Ext w w'
set_option maxHeartbeats 4000000 in
theorem ddo_noF (hR : FRightC 26) (V : FilV) (F : Fil) (U : QstV) (Q : Qst) (w : World) (h : FilAt w V F) (hr : rightB F = false) : Calls Tryz.prog 12 #[.agg (filC V F), .agg (qstC U Q)] w (DoP F Q w) := by
  have HN := Lib.hid (okB_no (F := F) (Q := Q) (by unfold okB; rw [hr]; rfl))
  obtain ⟨W0, hW0, DB0⟩ := DoB.begin V F U Q w
  have KR := Lib.hid (fun W (x : Ext w W) => hR V F W (h.ext x))
  rw [hr] at KR
  clear hr h hR
  have a2 := DB0.b2
  go_enter Tryz.func12, Tryz.ntmps12
  go_upto_region 1 with fail
  rw [← hW0]
  clear hW0
  go_upto_region 2 with (first
    | (refine wpList_load_row rfl 29 (.tmp 2) rfl (w.heap.size) rfl 29 _ (0, 0) _ a2 Tryz.underlying29 rfl (by kernel_rfl) ?_)
    | (go_at_call 26; refine (KR.out _ DB0.x).mono ?_; rintro e w1 ⟨rfl, x1⟩))
  clear a2
  have DB := DB0.ext x1
  have b4 := DB.b4


  go_wp2_with (first
    | (refine wpList_store_row rfl 29 (.tmp 4) (.tmp 18) rfl (w.heap.size + 1 + 1) _ rfl rfl 29 _ b4 (by kernel_rfl) rfl (by simp [filC, Value.oneCell']) ?_)
    | (refine wpList_store_row rfl 37 (.tmp 5) (.tmp 19) rfl (w.heap.size + 1 + 1 + 1) _ rfl rfl 37 _ ((setRow_other _ _ _ _ (by omega)).trans DB.b5) (by kernel_rfl) rfl (by simp [Value.oneCell']) ?_))
  obtain ⟨q1, q2, q3, q4, q5⟩ := DB.told (zero_at _) (telnone_at (T := zeroT) _ rfl rfl)
  refine bodyPost_ret (results_rows_tmp _ _ (w.heap.size + 1 + 1) (w.heap.size + 1 + 1 + 1) 29 37 _ _ (0, 0) (0, 0) _ _ rfl rfl q4 Tryz.underlying29 rfl (by kernel_rfl) rfl q5 Tryz.underlying37 rfl (by kernel_rfl)) rfl ?_
  obtain ⟨-, e2, e3, e4⟩ := HN.out
  unfold DoP
  rw [e2, e3, e4]
  exact ⟨zeroV, zeroQV, rfl, q1, q2, q3⟩
set_option maxHeartbeats 4000000 in
theorem ddo_noQ (hR : FRightC 26) (hA : ARightC 32) (V : FilV) (F : Fil) (U : QstV) (Q : Qst) (w : World) (h : FilAt w V F) (k : QstAt w U Q) (n1 : Q.nb ≤ 1000000) (n2 : Q.nr ≤ 1000000) (hr : rightB F = true) (hq : rightQ Q = false) : Calls Tryz.prog 12 #[.agg (filC V F), .agg (qstC U Q)] w (DoP F Q w) := by
  have HN := Lib.hid (okB_no (F := F) (Q := Q) (by unfold okB; rw [hr, hq]; rfl))
  obtain ⟨W0, hW0, DB0⟩ := DoB.begin V F U Q w
  have KR := Lib.hid (fun W (x : Ext w W) => hR V F W (h.ext x))
  have KA := Lib.hid (fun W (x : Ext w W) => hA U Q W (k.ext x) n1 n2)
  rw [hr] at KR
  rw [hq] at KA
  clear hr hq h hR hA k n1 n2
  have a2 := DB0.b2
  have a3 := Lib.hid (fun W (x : Ext W0 W) => x.block DB0.b3)
  go_enter Tryz.func12, Tryz.ntmps12
  go_upto_region 1 with fail
  rw [← hW0]
  clear hW0
  go_upto_region 2 with (first
    | (refine wpList_load_row rfl 29 (.tmp 2) rfl (w.heap.size) rfl 29 _ (0, 0) _ a2 Tryz.underlying29 rfl (by kernel_rfl) ?_)
    | (refine wpList_load_row_g (by rfl) 31 (.tmp 3) rfl (w.heap.size + 1) rfl 31 _ (0, 0) _ (a3.out _ x1) Tryz.underlying31 rfl (by kernel_rfl) ?_)
    | (go_at_call 26; refine (KR.out _ DB0.x).mono ?_; rintro e w1 ⟨rfl, x1⟩)
    | (go_at_call 32; refine (KA.out _ (DB0.x.trans x1)).mono ?_; rintro e w2 ⟨rfl, x2⟩))
  clear a2 a3
  have DB := DB0.ext (x1.trans x2)
  have b4 := DB.b4


  go_wp2_with (first
    | (refine wpList_store_row rfl 29 (.tmp 4) (.tmp 18) rfl (w.heap.size + 1 + 1) _ rfl rfl 29 _ b4 (by kernel_rfl) rfl (by simp [filC, Value.oneCell']) ?_)
    | (refine wpList_store_row rfl 37 (.tmp 5) (.tmp 19) rfl (w.heap.size + 1 + 1 + 1) _ rfl rfl 37 _ ((setRow_other _ _ _ _ (by omega)).trans DB.b5) (by kernel_rfl) rfl (by simp [Value.oneCell']) ?_))
  obtain ⟨q1, q2, q3, q4, q5⟩ := DB.told (zero_at _) (telnone_at (T := zeroT) _ rfl rfl)
  refine bodyPost_ret (results_rows_tmp _ _ (w.heap.size + 1 + 1) (w.heap.size + 1 + 1 + 1) 29 37 _ _ (0, 0) (0, 0) _ _ rfl rfl q4 Tryz.underlying29 rfl (by kernel_rfl) rfl q5 Tryz.underlying37 rfl (by kernel_rfl)) rfl ?_
  obtain ⟨-, e2, e3, e4⟩ := HN.out
  unfold DoP
  rw [e2, e3, e4]
  exact ⟨zeroV, zeroQV, rfl, q1, q2, q3⟩
/-- A job, laid into its box. -/
theorem job_made {W3 W : World} {g : Nat} {U : QstV} {Q : Qst} {V : FilV} {F : Fil} (x : Ext W3 W) (hlo : W3.heap.size ≤ g) (hnew : W.heap[g]? = some (.cells (jobC zeroQV zeroQ zeroV zeroF zeroQV zeroT) 65 (0, 0))) (q : QstAt W U Q) (f : FilAt W V F) :
    JobAt (W.setRow g (jobC U Q V F zeroQV (agT Q))) g U Q V F zeroQV (agT Q) ∧ Ext W3 (W.setRow g (jobC U Q V F zeroQV (agT Q))) :=
  have k := keepRowY W g (jobC U Q V F zeroQV (agT Q))
  have p := plain_job zeroQV zeroQ zeroV zeroF zeroQV zeroT
  ⟨⟨setRow_heap _ _ _ _ _ _ hnew, q.plain hnew p k, f.plain hnew p k, telnone_at _ rfl rfl⟩, below_setRow x hlo _⟩
theorem datT_cd (F : Fil) (Q : Qst) : (datT F Q).cd = datE F Q := by
  by_cases h : datE F Q = 0
  · have hne : ¬ datE F Q ≠ 0 := fun hh => hh h
    rw [h]
    unfold datT
    rw [if_neg hne]
    repeat' split
    all_goals rfl
  · rw [(datF_no h).2]
set_option maxHeartbeats 8000000 in
theorem ddo_yes (hR : FRightC 26) (hA : ARightC 32) (hC : FCopyC 24)
    (hX : ∀ (k : Int) (h : knownB k = true) (w : World), Calls Tryz.prog 34 #[.int .i64 k] w fun e w' => ∃ M, e = .returned (.func (Fn.func M) #[] #[]) ∧ ExecC M k ∧ w' = w)
    (V : FilV) (F : Fil) (U : QstV) (Q : Qst) (w : World) (h : FilAt w V F) (hFW : FilW F) (hsm : Small F) (k : QstAt w U Q) (hW : QstW Q) (n1 : Q.nb ≤ 1000000) (n2 : Q.nr ≤ 1000000) (hr : rightB F = true) (hq : rightQ Q = true) : Calls Tryz.prog 12 #[.agg (filC V F), .agg (qstC U Q)] w (DoP F Q w) := by
  obtain ⟨-, -, -, y1, y2, y3⟩ := okB_yes (F := F) (Q := Q) (by unfold okB; rw [hr, hq]; rfl)
  have HN := Lib.hid (And.intro y1 (And.intro y2 y3))
  obtain ⟨W0, hW0, DB0⟩ := DoB.begin V F U Q w
  have KR := Lib.hid (fun W (x : Ext w W) => hR V F W (h.ext x))
  have KA := Lib.hid (fun W (x : Ext w W) => hA U Q W (k.ext x) n1 n2)
  have KC := Lib.hid (fun W (x : Ext w W) => hC V F W (h.ext x) hsm)
  have KE := Lib.hid (fun W => hX Q.k ((rightQ_iff Q).1 hq).1 W)
  have KD := Lib.hid (fun M (hM : ExecC M Q.k) W g V2 (j : JobAt W g U Q V2 F zeroQV (agT Q)) => hM.does g U Q V2 F zeroQV W rfl hq hr hFW hW j)
  have KG := Lib.hid (fun W => jagain_v U Q W)
  have HQ0 := Lib.hid k
  rw [hr] at KR
  rw [hq] at KA
  have HE := Lib.hid (And.intro (datT_cd F Q) (fun (h0 : datE F Q ≠ 0) => datF_no h0))
  clear hr hq h hR hA hC hX k n1 n2 hFW hsm hW y1 y2 y3
  have a2 := DB0.b2
  have a3 := Lib.hid (fun W (x : Ext W0 W) => x.block DB0.b3)
  go_enter Tryz.func12, Tryz.ntmps12
  go_upto_region 1 with fail
  rw [← hW0]
  clear hW0
  go_upto_region 3 with (first
    | (refine wpList_load_row rfl 29 (.tmp 2) rfl (w.heap.size) rfl 29 _ (0, 0) _ a2 Tryz.underlying29 rfl (by kernel_rfl) ?_)
    | (refine wpList_load_row_g (by rfl) 31 (.tmp 3) rfl (w.heap.size + 1) rfl 31 _ (0, 0) _ (a3.out _ x1) Tryz.underlying31 rfl (by kernel_rfl) ?_)
    | (go_at_call 26; refine (KR.out _ DB0.x).mono ?_; rintro e w1 ⟨rfl, x1⟩)
    | (go_at_call 32; refine (KA.out _ (DB0.x.trans x1)).mono ?_; rintro e w2 ⟨rfl, x2⟩))
  have DB2 := DB0.ext (x1.trans x2)
  clear a2 a3 DB0 x1 x2
  have a2 := DB2.b2
  obtain ⟨xx2, hxx2⟩ : ∃ W, W = w2 := ⟨_, rfl⟩
  go_upto_region 4 with (first
    | (refine wpList_load_row rfl 29 (.tmp 2) rfl (w.heap.size) rfl 29 _ (0, 0) _ a2 Tryz.underlying29 rfl (by kernel_rfl) ?_)
    | (go_at_call 24; refine (KC.out _ DB2.x).mono ?_; rintro e wc ⟨V2, rfl, hf2, xc, -⟩)
    | (refine wpList_store_row rfl 29 (.tmp 7) (.tmp 21) rfl (wc.heap.size) _ rfl rfl 29 _ (heap_new_at _ _ (by first | rfl | simp)) (by kernel_rfl) rfl (by simp [filC, Value.oneCell']) ?_))
  obtain ⟨W3, hW3, x3, g3⟩ : ∃ W, W = ((wc.alloc (.cells #[.int .i64 0, .int .i64 0, .int .i64 0, .int .i64 0, .int .i64 0, .int .i64 0, .int .i64 0, .int .i64 0, .int .i64 0, .int .i64 0, .slice none 0 0, .slice none 0 0, .slice none 0 0, .slice none 0 0] 29)).setRow wc.heap.size (filC V2 F)) ∧ Ext wc W ∧ W.heap[wc.heap.size]? = some (.cells (filC V2 F) 29 (0, 0)) := ⟨_, rfl, boxed_row _ _ _ _⟩
  rw [← hW3]
  clear hW3 hxx2 xx2 a2
  have DB3 := (DB2.ext xc).ext x3
  have hs4 : w.heap.size + 4 ≤ wc.heap.size := by have := heap_lt (DB2.ext xc).b5; omega
  generalize wc.heap.size = s at g3 hs4 ⊢
  have HF3 := Lib.hid (hf2.ext x3)
  have HQ3 := Lib.hid (HQ0.out.ext DB3.x)
  have HSL := Lib.hid (heap_lt g3)
  have H4 := Lib.hid (fun W (x : Ext W3 W) => And.intro (x.block DB3.b3) (x.block g3))
  clear DB2 xc x3 hf2 KC KR KA
  go_wp2_with fail
  simp only [Act.put]
  go_cut [8] (fun v wx => ∃ g, v = .pointer (some ⟨g, 0, none⟩) ∧ JobAt wx g U Q V2 F zeroQV (agT Q) ∧ s < g ∧ Ext W3 wx)
  case first =>
    have hd : Ext W3 W3.drew := Ext.drew W3
    have hs := hd
    refine wp_region_held_drew (S := fun W => Ext W3 W) (by kernel_rfl) hs (fun _ => ?_)
    refine wpAnyH_takeD (i := 0) (d := 22) rfl rfl (by kernel_rfl) (by kernel_rfl) (by kernel_rfl) (fun _ _ _ h => h) (yieldsIf_load_row (by rfl) 31 (.tmp 3) rfl (w.heap.size + 1) rfl 31 _ (0, 0) _ (fun w' hw' => (H4.out _ hw').1) Tryz.underlying31 rfl (by kernel_rfl)) hs ?_
    simp only [Act.put, tkA, tkB, tkC]
    refine wpAnyH_takeD (i := 1) (d := 23) rfl rfl (by kernel_rfl) (by kernel_rfl) (by kernel_rfl) (fun _ _ _ h => h) (yieldsIf_load_row (by rfl) 29 (.tmp 7) rfl (s) rfl 29 _ (0, 0) _ (fun w' hw' => (H4.out _ hw').2) Tryz.underlying29 rfl (by kernel_rfl)) hs ?_
    simp only [Act.put, tkA, tkB, tkC]
    refine wpAnyH_takeD (i := 2) (d := 24) rfl rfl (by kernel_rfl) (by kernel_rfl) (by kernel_rfl) (fun _ _ _ h => h) (yieldsIf_load_row (by rfl) 31 (.tmp 3) rfl (w.heap.size + 1) rfl 31 _ (0, 0) _ (fun w' hw' => (H4.out _ hw').1) Tryz.underlying31 rfl (by kernel_rfl)) hs ?_
    simp only [Act.put, tkA, tkB, tkC]
    refine wpAnyH_ready (rs := [3, 5]) (by kernel_rfl) (by simp) (AllReadyH.cons rfl (fun K hK => ?_) (AllReadyH.cons rfl (fun K hK => ?_) AllReadyH.nil))
    · go_simp
      refine (KG.out _).mono ?_; rintro e wg ⟨rfl, xg⟩
      go_wp2_with fail
      have he := hd.trans xg
      refine hK.out _ _ he (fun hs => ?_)
      clear hK K
      refine tkY 4 26 (.agg (jobC U Q V2 F zeroQV (agT Q))) hs ?_ (y := fun W hW => by kernel_rfl)
      simp only [Act.put, tkA, tkB, tkC]
      refine wpAnyH_ready (rs := [5]) (by kernel_rfl) (by simp) (AllReadyH.cons rfl (fun K hK => ?_) AllReadyH.nil)
      go_simp
      refine hK.out _ _ (he.trans (Ext.alloc _ _)) (fun hs => ?_)
      clear hK K
      refine wpAnyH_ready (rs := [6]) (by kernel_rfl) (by simp) (AllReadyH.cons rfl (fun K hK => ?_) AllReadyH.nil)
      obtain ⟨j1, j2⟩ := job_made (g := wg.heap.size) (he.trans (Ext.alloc wg _)) he.size (heap_alloc_new wg _) (HQ3.out.ext (he.trans (Ext.alloc _ _))) (HF3.out.ext (he.trans (Ext.alloc _ _)))
      refine step_store_row rfl 65 (.tmp 8) (.tmp 26) rfl (wg.heap.size) _ rfl rfl 65 _ (heap_alloc_new wg _) (by kernel_rfl) rfl (by simp [jobC, Value.oneCell']) rfl ?_
      refine hK.out _ _ j2 (fun hs => ?_)
      clear hK K
      simp only [Act.put]
      refine wpAnyH_done (by kernel_rfl) ?_ _
      go_wp2_with fail
      go_meet
      exact ⟨_, rfl, j1, Nat.lt_of_lt_of_le HSL.out he.size, j2⟩
    · go_simp
      refine hK.out _ _ (hd.trans (Ext.alloc _ _)) (fun hs => ?_)
      clear hK K
      refine wpAnyH_ready (rs := [3]) (by kernel_rfl) (by simp) (AllReadyH.cons rfl (fun K hK => ?_) AllReadyH.nil)
      go_simp
      refine (KG.out _).mono ?_; rintro e wg ⟨rfl, xg⟩
      go_wp2_with fail
      have he := (hd.trans (Ext.alloc _ _)).trans xg
      refine hK.out _ _ he (fun hs => ?_)
      clear hK K
      refine tkY 4 26 (.agg (jobC U Q V2 F zeroQV (agT Q))) hs ?_ (y := fun W hW => by kernel_rfl)
      simp only [Act.put, tkA, tkB, tkC]
      refine wpAnyH_ready (rs := [6]) (by kernel_rfl) (by simp) (AllReadyH.cons rfl (fun K hK => ?_) AllReadyH.nil)
      obtain ⟨j1, j2⟩ := job_made (g := W3.drew.heap.size) he hd.size (xg.block (heap_alloc_new W3.drew _)) (HQ3.out.ext he) (HF3.out.ext he)
      refine step_store_row rfl 65 (.tmp 8) (.tmp 26) rfl (W3.drew.heap.size) _ rfl rfl 65 _ (xg.block (heap_alloc_new W3.drew _)) (by kernel_rfl) rfl (by simp [jobC, Value.oneCell']) rfl ?_
      refine hK.out _ _ j2 (fun hs => ?_)
      clear hK K
      simp only [Act.put]
      refine wpAnyH_done (by kernel_rfl) ?_ _
      go_wp2_with fail
      go_meet
      exact ⟨_, rfl, j1, Nat.lt_of_lt_of_le HSL.out hd.size, j2⟩
  case rest =>
  obtain ⟨g, rfl, hJ, hsg, x4⟩ := hcut
  obtain ⟨w4, hw4⟩ : ∃ W, W = wc := ⟨_, rfl⟩
  rw [← hw4] at hJ x4 ⊢
  clear hw4
  have DB4 := DB3.ext x4
  have g4 := x4.block g3
  have c0 : w4.cell? ⟨w.heap.size + 1, 0, none⟩ = some (.int .i64 Q.k) := cell_of_heap DB4.b3 rfl
  clear DB3 g3 x4 H4 HQ3 HF3
  go_wp2_with fail
  refine (KE.out _).mono ?_; rintro e wx ⟨M, rfl, hM, ex⟩
  rw [ex]
  clear ex wx c0
  have HD := Lib.hid (KD.out M hM w4 g V2 hJ)
  have hen := hM.enters
  clear KD KE KG hM
  go_wp2_with fail
  refine (HD.out).mono ?_; rintro e w5 ⟨rfl, k5, hdo⟩
  have hg4 : w.heap.size + 4 ≤ g := by omega
  have D5 := DB4.keep k5 hg4
  have g5 : w5.heap[s]? = some (.cells (filC V2 F) 29 (0, 0)) := (k5.block _ (heap_lt g4) (fun e => by have e : s = g := e; omega)).trans g4
  have hF5 := hJ.f.plain hJ.row (plain_job _ _ _ _ _ _) k5
  clear HD hen DB4 g4 hJ k5
  have hd5 : Ext w5 w5.drew := Ext.drew w5
  by_cases h0 : datE F Q = 0
  · obtain ⟨V5, X5, hJ5⟩ := hdo h0
    have hb : (datE F Q != 0) = false := by simp [h0]
    clear hdo h0 HE
    generalize datE F Q = E at *
    generalize datF F Q = F5 at *
    generalize datT F Q = T5 at *
    have HL := Lib.hid (fun W (hx : Keep (fun i => i = w.heap.size + 1 + 1 ∨ i = w.heap.size + 1 + 1 + 1) w5 W) => (hx.block _ hJ5.lt (fun e => by have e : g = w.heap.size + 1 + 1 ∨ g = w.heap.size + 1 + 1 + 1 := e; omega)).trans hJ5.row)
    have hs : Keep (fun i => i = w.heap.size + 1 + 1 ∨ i = w.heap.size + 1 + 1 + 1) w5 w5.drew := Keep.of_ext hd5
    go_upto_region 8 with fail
    refine wp_region_held_drew (S := fun W => Keep (fun i => i = w.heap.size + 1 + 1 ∨ i = w.heap.size + 1 + 1 + 1) w5 W) (by kernel_rfl) hs (fun _ => ?_)
    refine tkG 0 38 (.pointer (some ⟨g, 10, none⟩)) hs ?_
    simp only [Act.put, tkA, tkB, tkC]
    refine wpAnyH_takeD (i := 1) (d := 39) (v := .agg (filC V5 F5)) rfl rfl (by kernel_rfl) (by kernel_rfl) (by kernel_rfl) (fun _ _ _ h => h) (yieldsIf_load_mid (by rfl) 29 (.tmp 38) rfl (g) 10 rfl (filC V5 F5).toList _ (fun w' hw' => job_now (HL.out _ hw')) Tryz.underlying29 rfl (by kernel_rfl)) hs ?_
    simp only [Act.put, tkA, tkB, tkC]
    refine tkG 2 40 (.pointer (some ⟨g, 24, none⟩)) hs ?_
    simp only [Act.put, tkA, tkB, tkC]
    refine wpAnyH_takeD (i := 3) (d := 41) (v := .agg (telC X5 T5)) rfl rfl (by kernel_rfl) (by kernel_rfl) (by kernel_rfl) (fun _ _ _ h => h) (yieldsIf_load_mid (by rfl) 37 (.tmp 40) rfl (g) 24 rfl (telC X5 T5).toList _ (fun w' hw' => job_told (HL.out _ hw')) Tryz.underlying37 rfl (by kernel_rfl)) hs ?_
    simp only [Act.put, tkA, tkB, tkC]
    refine wpAnyH_ready (rs := [4]) (by kernel_rfl) (by simp) (AllReadyH.cons rfl (fun K hK => ?_) AllReadyH.nil)
    refine step_store_row rfl 29 (.tmp 4) (.tmp 39) rfl (w.heap.size + 1 + 1) _ rfl rfl 29 _ (hd5.block D5.b4) (by kernel_rfl) rfl (by simp [filC, Value.oneCell']) rfl ?_
    refine hK.out _ _ ((Keep.of_ext hd5).trans (keepRowY _ _ _) (fun i hi => .inl (.inl hi))) (fun hs => ?_)
    clear hK K
    simp only [Act.put]
    refine wpAnyH_ready (rs := [5]) (by kernel_rfl) (by simp) (AllReadyH.cons rfl (fun K hK => ?_) AllReadyH.nil)
    refine step_store_row rfl 37 (.tmp 5) (.tmp 41) rfl (w.heap.size + 1 + 1 + 1) _ rfl rfl 37 _ ((setRow_other _ _ _ _ (by omega)).trans (hd5.block D5.b5)) (by kernel_rfl) rfl (by simp [telC, Value.oneCell']) rfl ?_
    refine hK.out _ _ (hs.trans (keepRowY _ _ _) (fun i hi => .inl (.inr hi))) (fun hs => ?_)
    clear hK K
    simp only [Act.put]
    refine tkG 6 6 (.int .i64 0) hs ?_
    simp only [Act.put, tkA, tkB, tkC]
    refine wpAnyH_done (by kernel_rfl) ?_ _
    go_wp2_with fail
    have DE := D5.ext hd5
    obtain ⟨q1, q2, q3, q4, q5⟩ := DE.told (hJ5.f.ext hd5) (hJ5.t.ext hd5)
    refine bodyPost_ret (results_rows_tmp _ _ (w.heap.size + 1 + 1) (w.heap.size + 1 + 1 + 1) 29 37 _ _ (0, 0) (0, 0) _ _ rfl rfl q4 Tryz.underlying29 rfl (by kernel_rfl) rfl q5 Tryz.underlying37 rfl (by kernel_rfl)) rfl ?_
    obtain ⟨e1, e2, e3⟩ := HN.out
    unfold DoP
    rw [e1, e2, e3]
    exact ⟨V5, X5, rfl, q1, q2, q3⟩
  · have hb : (datE F Q != 0) = true := by simp [h0]
    obtain ⟨e4, e5⟩ := HE.out.2 h0
    have HN2 := Lib.hid (And.intro e4 e5)
    clear hdo h0 HE e4 e5
    generalize datE F Q = E at *
    have HL := Lib.hid (fun W (hx : Keep (fun i => i = w.heap.size + 1 + 1 ∨ i = w.heap.size + 1 + 1 + 1) w5 W) => (⟨cell_of_heap ((hx.block _ (heap_lt D5.b3) (fun e => by have e : w.heap.size + 1 = w.heap.size + 1 + 1 ∨ w.heap.size + 1 = w.heap.size + 1 + 1 + 1 := e; omega)).trans D5.b3) rfl, (hx.block _ (heap_lt g5) (fun e => by have e : s = w.heap.size + 1 + 1 ∨ s = w.heap.size + 1 + 1 + 1 := e; omega)).trans g5⟩ : W.cell? ⟨w.heap.size + 1, 0, none⟩ = some (.int .i64 Q.k) ∧ W.heap[s]? = some (.cells (filC V2 F) 29 (0, 0))))
    have hs : Keep (fun i => i = w.heap.size + 1 + 1 ∨ i = w.heap.size + 1 + 1 + 1) w5 w5.drew := Keep.of_ext hd5
    go_upto_region 7 with fail
    refine wp_region_held_drew (S := fun W => Keep (fun i => i = w.heap.size + 1 + 1 ∨ i = w.heap.size + 1 + 1 + 1) w5 W) (by kernel_rfl) hs (fun _ => ?_)
    refine wpAnyH_takeD (i := 0) (d := 33) rfl rfl (by kernel_rfl) (by kernel_rfl) (by kernel_rfl) (fun _ _ _ h => h) (yieldsIf_load_row (by rfl) 29 (.tmp 7) rfl (s) rfl 29 _ (0, 0) _ (fun w' hw' => (HL.out _ hw').2) Tryz.underlying29 rfl (by kernel_rfl)) hs ?_
    simp only [Act.put, tkA, tkB, tkC]
    refine tkG 1 34 (.pointer (some ⟨w.heap.size + 1, 0, none⟩)) hs ?_
    simp only [Act.put, tkA, tkB, tkC]
    refine tkY 2 35 (.int .i64 Q.k) hs ?_ (y := fun W hW => by have k0 := (HL.out W hW).1; go_simp)
    simp only [Act.put, tkA, tkB, tkC]
    refine tkG 3 36 (.int .i64 E) hs ?_
    simp only [Act.put, tkA, tkB, tkC]
    refine tkY 4 37 (.agg (telC zeroQV { zeroT with k := Q.k, cd := E })) hs ?_ (y := fun W hW => by kernel_rfl)
    simp only [Act.put, tkA, tkB, tkC]
    refine wpAnyH_ready (rs := [5]) (by kernel_rfl) (by simp) (AllReadyH.cons rfl (fun K hK => ?_) AllReadyH.nil)
    refine step_store_row rfl 29 (.tmp 4) (.tmp 33) rfl (w.heap.size + 1 + 1) _ rfl rfl 29 _ (hd5.block D5.b4) (by kernel_rfl) rfl (by simp [filC, Value.oneCell']) rfl ?_
    refine hK.out _ _ ((Keep.of_ext hd5).trans (keepRowY _ _ _) (fun i hi => .inl (.inl hi))) (fun hs => ?_)
    clear hK K
    simp only [Act.put]
    refine wpAnyH_ready (rs := [6]) (by kernel_rfl) (by simp) (AllReadyH.cons rfl (fun K hK => ?_) AllReadyH.nil)
    refine step_store_row rfl 37 (.tmp 5) (.tmp 37) rfl (w.heap.size + 1 + 1 + 1) _ rfl rfl 37 _ ((setRow_other _ _ _ _ (by omega)).trans (hd5.block D5.b5)) (by kernel_rfl) rfl (by simp [telC, Value.oneCell']) rfl ?_
    refine hK.out _ _ (hs.trans (keepRowY _ _ _) (fun i hi => .inl (.inr hi))) (fun hs => ?_)
    clear hK K
    simp only [Act.put]
    refine tkG 7 6 (.int .i64 0) hs ?_
    simp only [Act.put, tkA, tkB, tkC]
    refine wpAnyH_done (by kernel_rfl) ?_ _
    go_wp2_with fail
    have DE := D5.ext hd5
    obtain ⟨q1, q2, q3, q4, q5⟩ := DE.told (hF5.ext hd5) (telnone_at (T := { zeroT with k := Q.k, cd := E }) _ rfl rfl)
    refine bodyPost_ret (results_rows_tmp _ _ (w.heap.size + 1 + 1) (w.heap.size + 1 + 1 + 1) 29 37 _ _ (0, 0) (0, 0) _ _ rfl rfl q4 Tryz.underlying29 rfl (by kernel_rfl) rfl q5 Tryz.underlying37 rfl (by kernel_rfl)) rfl ?_
    obtain ⟨e1, e2, e3⟩ := HN.out
    obtain ⟨e4, e5⟩ := HN2.out
    unfold DoP
    rw [e1, e2, e3, e4, e5]
    exact ⟨V2, zeroQV, rfl, q1, q2, q3⟩
theorem ddo_c (hR : FRightC 26) (hA : ARightC 32) (hC : FCopyC 24)
    (hX : ∀ (k : Int) (h : knownB k = true) (w : World), Calls Tryz.prog 34 #[.int .i64 k] w fun e w' => ∃ M, e = .returned (.func (Fn.func M) #[] #[]) ∧ ExecC M k ∧ w' = w) : DDoC 12 := fun V F U Q w h hFW hsm k hW n1 n2 => by
  cases hr : rightB F with
  | false => exact ddo_noF hR V F U Q w h hr
  | true =>
    cases hq : rightQ Q with
    | false => exact ddo_noQ hR hA V F U Q w h k n1 n2 hr hq
    | true => exact ddo_yes hR hA hC hX V F U Q w h hFW hsm k hW n1 n2 hr hq
end Go.Proofs.YtlafnobjfajamaaGreat
namespace Go.Proofs.YtlafnobjfajamaaGreat
open Go.RowKit
set_option linter.unusedVariables false
set_option maxRecDepth 100000

theorem told_row (w : World) (z cs : Array Value) (t : TypeId) : Ext w ((w.alloc (.cells z t)).setRow w.heap.size cs) ∧ ((w.alloc (.cells z t)).setRow w.heap.size cs).heap[w.heap.size]? = some (.cells cs t (0, 0)) :=
  ⟨below_setRow (Ext.alloc w _) (Nat.le_refl _) _, setRow_heap _ _ _ _ _ _ (heap_alloc_new w _)⟩
end Go.Proofs.YtlafnobjfajamaaGreat
namespace Go.Proofs.YtlafnobjfajamaaGreat
open Go.RowKit
set_option linter.unusedVariables false

def TSameC (F : FuncId) : Prop := ∀ (V : QstV) (T : Tel) (U : QstV) (S : Tel) (w : World), TelAt w V T → TelAt w U S → T.nb ≤ 1000000 → T.nr ≤ 1000000 → S.nb ≤ 1000000 → S.nr ≤ 1000000 →
    Calls Tryz.prog F #[.agg (telC V T), .agg (telC U S)] w fun e w' => e = .returned (.bool (sameT T S)) ∧ Ext w w'
def TRightC (F : FuncId) : Prop := ∀ (V : QstV) (Q : Qst) (U : QstV) (T : Tel) (w : World), QstAt w V Q → QstW Q → Q.nb ≤ 1000000 → Q.nr ≤ 1000000 → TelAt w U T → T.nb ≤ 1000000 → T.nr ≤ 1000000 →
    Calls Tryz.prog F #[.agg (qstC V Q), .agg (telC U T)] w fun e w' => e = .returned (.bool (rightT Q T)) ∧ Ext w w'
def TPrintC (F : FuncId) : Prop := ∀ (V : QstV) (Q : Qst) (U : QstV) (T : Tel) (w : World), QstAt w V Q → QstW Q → Q.nb ≤ 1000000 → Q.nr ≤ 1000000 → TelAt w U T → T.nb ≤ 1000000 → T.nr ≤ 1000000 → (∀ i, i < T.nr → 0 ≤ T.R i ∧ T.R i < 65536) →
    Calls Tryz.prog F #[.agg (qstC V Q), .agg (telC U T)] w fun e w' => ∃ b q, e = .returned (.tuple #[.slice b (tprN Q T) q, .int .i64 (tprE Q T)]) ∧ tprN Q T ≤ q ∧ q ≤ maxLen ∧ HoldsG (Value.int .u8) w' b (tprN Q T) (tsayF T) ∧ Ext w w'
def refB (k c : Int) : Bool := decide (1 ≤ k ∧ k ≤ 127 ∧ 1 ≤ c ∧ c ≤ 4)
def refF (k c : Int) : Nat → Int := fun i => if i = 0 then k + 128 else c
def TRefC (F : FuncId) : Prop := ∀ (k c : Int) (w : World), Calls Tryz.prog F #[.int .i64 k, .int .i64 c] w fun e w' => ∃ b q, e = .returned (.tuple #[.slice b (if refB k c = true then 2 else 0) q, .int .i64 (if refB k c = true then 0 else 11)]) ∧ HoldsG (Value.int .u8) w' b (if refB k c = true then 2 else 0) (refF k c) ∧ Ext w w'
theorem tprE_no {Q : Qst} {T : Tel} (h : rightT Q T = false) : tprE Q T = 11 ∧ tprN Q T = 0 := by unfold tprE tprN; rw [h]; exact ⟨rfl, rfl⟩
theorem tprE_yes {Q : Qst} {T : Tel} (h : rightT Q T = true) : tprE Q T = 0 ∧ tprN Q T = tsayN T := by unfold tprE tprN; rw [h]; exact ⟨rfl, rfl⟩
end Go.Proofs.YtlafnobjfajamaaGreat
