/-
  THE LAWS OF LAYER 21: IdentOne (the packages' contracts as premises).
-/
import Derived.Test.YthdkhdbabohohaaLaw21C
namespace Go.Proofs.Ythdkhdbabohohaa
open Go.RowKit
set_option linter.unusedVariables false
set_option maxRecDepth 100000

theorem find_none : ∀ {L : List Ob} {id : Int}, findO id L = none → ∀ z ∈ L, z.id ≠ id
  | x :: L, id, h, z, hz => by
    unfold findO at h
    split at h
    · cases h
    · rename_i hx
      rcases List.mem_cons.1 hz with rfl | hz
      · exact hx
      · exact find_none h z hz
theorem at_none_of {id : Int} : ∀ {L : List Ob}, (∀ z ∈ L, z.id ≠ id) → atO id L = []
  | [], _ => rfl
  | x :: L, h => by
    unfold atO
    rw [if_neg (h x List.mem_cons_self)]
    exact at_none_of (fun z hz => h z (List.mem_cons_of_mem _ hz))
theorem from_none {L : List Ob} {s J : Int} (h : findO J L = none) : fromO s J L = ofO s L := by
  exact if_pos (at_none_of (fun z hz => find_none h z (by unfold ofO at hz; exact (List.mem_filter.1 hz).1)))
theorem from_zero {L : List Ob} (h : rightO L = true) {s : Int} (h1 : 1 ≤ s) (h3 : s ≤ 3) : fromO s 0 L = ofO s L := by
  obtain ⟨x, M, e, e0⟩ := of_zero h h1 h3
  have ha : atO 0 (ofO s L) = ofO s L := by
    rw [e]
    show (if x.id = 0 then x :: M else atO 0 M) = _
    rw [if_pos e0]
  unfold fromO
  rw [ha]
  split <;> rfl
theorem read_ans (K : IdeC) {a : Option Addr} {n c : Nat} {L : List Ob} {w : World} (hL : ObjsAt w a n c L) {k J : Int} (h : rightO L = true) (k1 : 1 ≤ k) (k4 : k ≤ 4) (hE : ansE L 3 (ofL [14, k, J]) = 0) (x : Option Addr) (q : Nat) (W : World)
    (hx : Holds .u8 W x (ansK L 3 (ofL [14, k, J])) (ofL (sayP (ansP L (ofL [14, k, J]))))) (l1 : ansK L 3 (ofL [14, k, J]) ≤ q) (l2 : q ≤ maxLen) :
    Calls Try.prog 12 #[.slice x (ansK L 3 (ofL [14, k, J])) q] W fun e w' => ∃ P b m r, e = .returned (.tuple #[.agg (prC P b m r), .int .i64 0]) ∧ PrtAt w' P b m r ∧ ObjF P.L ∧ sameP P (ansP L (ofL [14, k, J])) = true ∧ Ext W w' := by
  obtain ⟨hr, hm⟩ := ansP_right h k1 k4 hE
  have hk : ansK L 3 (ofL [14, k, J]) = 6 + lenO (ansP L (ofL [14, k, J])).L := by unfold ansK; rw [hE]; rfl
  have hle := ansK_le L 3 (ofL [14, k, J])
  have hbd := say_bd hr (fun z hz => (hL.each z (hm z hz)).b)
  rw [← hk] at hbd
  have KD := K.read x _ q _ W hx (by omega) l1 l2 hbd
  rw [map_ofL (by rw [sayP_len]; exact hk.symm)] at KD
  obtain ⟨Q, hQ, hQP⟩ := read_say hr
  have hrd : rdI (sayP (ansP L (ofL [14, k, J]))) = 0 := by unfold rdI; rw [hQ]; rfl
  rw [hrd, hQ] at KD
  exact KD.mono fun e w' ⟨P, b, m, r, h1, h2, h3, h4, h5⟩ => ⟨P, b, m, r, h1, h2, h3, sameP_trans h4 hQP, h5⟩
set_option maxHeartbeats 16000000 in
theorem identOne.small (O : ObjC) (K : IdeC) (a : Option Addr) (n c : Nat) (L : List Ob) (J S : Int) (w : World) (hL : ObjsAt w a n c L) (hfl : fewO L = true) (hr : rightO L = true) (j0 : 0 ≤ J) (j1 : J < 256) (s0 : 0 ≤ S) (s1 : S < 256) :
    Calls Try.prog 7 #[.slice a n c, .int .u8 J, .int .u8 S] w fun e w' => e = .returned (.bool true) ∧ Ext w w' := by
  have fL := fewO_f hfl
  have hn : n ≤ 1000000 := by have := fL.n; rw [hL.len] at this; omega
  have KFl := Lib.hid (rfew20_any a n c L w hL (by omega))
  rw [hfl] at KFl
  have KR := Lib.hid (O.right a n c L w hL fL)
  rw [hr] at KR
  have wJ : (Lit.int .i64 J).wf = true := by simp [Lit.wf, IntKind.min, IntKind.max, IntKind.signed, IntKind.bits]; omega
  have KD := Lib.hid (fun W (x : Ext w W) => O.find a n c L J W (hL.ext x) fL wJ)
  have KA := Lib.hid (fun W (x : Ext w W) (u v : Int) (hu : (0 ≤ u ∧ u < 256) ∧ 0 ≤ v ∧ v < 256) => K.answer a (some ⟨W.heap.size, 0, none⟩) n c 3 3 L (ofL [14, u, v]) (W.alloc (.cells #[.int .u8 14, .int .u8 u, .int .u8 v] 5)) (hL.ext (x.trans (Ext.alloc _ _))) fL (Holds.lit W [14, u, v] 5 _ rfl 3 rfl) (by omega) (Nat.le_refl _) (by unfold maxLen; omega) (byte3 ⟨by decide, hu.1, hu.2⟩))
  have e0 : IntKind.i64.wrap J = J := IntWalk.i64_in _ (by omega)
  have HL := Lib.hid (And.intro hL fL)
  have HRR := Lib.hid hr
  have HK := Lib.hid (And.intro O K)
  have HJ := Lib.hid (And.intro j0 j1)
  have HSS := Lib.hid (And.intro s0 s1)
  cases hf : findO J L with
  | none =>
    obtain ⟨kd, hkd⟩ : ∃ kd, 1 + S % 3 = kd := ⟨_, rfl⟩
    have u1 : S.tmod 3 = S % 3 := Int.tmod_eq_emod_of_nonneg s0
    have u2 : IntKind.u8.wrap (S % 3) = S % 3 := by rw [IntKind.wrap_u8]; omega
    have u3 : IntKind.u8.wrap (1 + S % 3) = kd := by rw [IntKind.wrap_u8, ← hkd]; omega
    have hk1 : 1 ≤ kd ∧ kd ≤ 3 := by omega
    have HKD := Lib.hid hk1
    have A1 : ansE L 3 (ofL [14, 4, J]) = 2 := by rw [ans3 hr (by decide) (by decide), hf]; rfl
    have A1k : ansK L 3 (ofL [14, 4, J]) = 0 := by unfold ansK; rw [A1]; rfl
    have A2 : ansE L 3 (ofL [14, kd, J]) = 0 := by rw [ans3 hr hk1.1 (by omega), if_neg (fun h => by have := h.1; omega)]
    have A3 : ansE L 3 (ofL [14, kd, 0]) = 0 := by rw [ans3 hr hk1.1 (by omega), if_neg (fun h => by have := h.1; omega)]
    have AP : ansP L (ofL [14, kd, J]) = ansP L (ofL [14, kd, 0]) := by
      have h1 : ansL L (ofL [14, kd, J]) = ofO kd L := by
        unfold ansL
        rw [if_neg (show ¬ ofL [14, kd, J] 1 = 4 by show ¬ kd = 4; omega)]
        exact from_none hf
      have h2 : ansL L (ofL [14, kd, 0]) = ofO kd L := by
        unfold ansL
        rw [if_neg (show ¬ ofL [14, kd, 0] 1 = 4 by show ¬ kd = 4; omega)]
        exact from_zero hr hk1.1 hk1.2
      unfold ansP; rw [h1, h2]; rfl
    have AK : ansK L 3 (ofL [14, kd, J]) = ansK L 3 (ofL [14, kd, 0]) := by unfold ansK; rw [A2, A3, AP]
    have hkl := ansK_le L 3 (ofL [14, kd, 0])
    have K1 := fun W x => KA.out W x 4 J ⟨by decide, HJ.out⟩
    have K2 := fun W x => KA.out W x kd J ⟨by omega, HJ.out⟩
    have K3 := fun W x => KA.out W x kd 0 ⟨by omega, by decide⟩
    unfold AnsP at K1 K2 K3
    rw [A1, A1k] at K1
    rw [A2, AK, AP] at K2
    rw [A3] at K3
    generalize ansK L 3 (ofL [14, kd, 0]) = k at K2 K3 hkl
    generalize ofL (sayP (ansP L (ofL [14, kd, 0]))) = g at K2 K3
    have HK1 := Lib.hid K1
    have HK2 := Lib.hid K2
    have HK3 := Lib.hid K3
    have HKL := Lib.hid hkl
    rw [hf] at KD
    clear hL fL hfl hr wJ hn j0 j1 s0 s1 hf hkd hk1 A1 A1k A2 A3 AP AK K1 K2 K3 hkl KA O K
    go_enter Try.func7, Try.ntmps7
    go_wp2_with fail
    refine KFl.out.mono ?_; rintro e w1 ⟨rfl, hw1⟩
    rw [hw1]; clear hw1
    go_wp2_with fail
    refine KR.out.mono ?_; rintro e w1 ⟨rfl, x1⟩
    go_wp2_with fail
    refine (KD.out w1 x1).mono ?_; rintro e w2 ⟨z, rfl, -, -, x2⟩
    obtain ⟨W3, hW3, y3⟩ : ∃ W3, W3 = w2.alloc (.cells (obC z) 49) ∧ Ext w2 W3 := ⟨_, rfl, Ext.alloc _ _⟩
    have z3 := x1.trans (x2.trans y3)
    simp only [obC]
    go_upto_region 4 with fail
    rw [show (w2.alloc (.cells #[.int .i64 z.id, .slice z.a z.n z.c] 49)) = W3 from hW3.symm]
    clear hW3 x1 x2 y3
    go_wp2_with fail
    refine (HK1.out W3 z3).mono ?_; rintro e w4 ⟨x, q, rfl, -, -, -, x4⟩
    have z4 := z3.trans ((Ext.alloc _ _).trans x4)
    clear x4 z3
    go_wp2_with fail
    refine (HK2.out w4 z4).mono ?_; rintro e w5 ⟨y, r, rfl, h5, -, -, x5⟩
    have z5 := z4.trans ((Ext.alloc _ _).trans x5)
    clear x5 z4
    go_wp2_with fail
    refine (HK3.out w5 z5).mono ?_; rintro e w6 ⟨u, v, rfl, h6, -, -, x6⟩
    have y6 := (Ext.alloc w5 (.cells #[.int .u8 14, .int .u8 kd, .int .u8 0] 5)).trans x6
    have z6 := z5.trans y6
    have HBy := Lib.hid (bytes_eq y u k k r v g g w6 (h5.ext y6) h6 (by have := HKL.out; omega) ⟨rfl, fun _ _ => rfl⟩)
    clear x6 z5 y6 h5 h6
    go_wp2_with fail
    refine HBy.out.mono ?_; rintro e w7 ⟨rfl, x7⟩
    go_wp2_with fail
    refine (sure21 HK.out.1 HK.out.2 w7).mono ?_; rintro e w8 ⟨rfl, x8⟩
    go_wp2
    go_ret
    exact ⟨rfl, z6.trans (x7.trans x8)⟩
  | some zo =>
    have A1 : ansE L 3 (ofL [14, 4, J]) = 0 := by rw [ans3 hr (by decide) (by decide), hf]; rfl
    have hzL := findO_mem hf
    have hzn := (right_okD hr zo hzL)
    have hz240 := (okD_iff.1 hzn).2.2
    have AL : ansL L (ofL [14, 4, J]) = [zo] := by
      unfold ansL
      rw [if_pos (show ofL [14, 4, J] 1 = 4 from rfl), show ofL [14, 4, J] 2 = J from rfl, hf]
      rfl
    have hfit : fitF 6 [zo] = 1 := by
      show (if 6 + 2 + zo.n ≤ 252 then fitF (6 + 2 + zo.n) [] + 1 else 0) = 1
      rw [if_pos (by omega)]; rfl
    have AP : (ansP L (ofL [14, 4, J])).co = 4 ∧ (ansP L (ofL [14, 4, J])).mo = false ∧ (ansP L (ofL [14, 4, J])).L = [zo] := by
      unfold ansP
      rw [AL]
      refine ⟨rfl, ?_, ?_⟩
      · show decide (fitF 6 [zo] < 1) = false; rw [hfit]; rfl
      · show [zo].take (fitF 6 [zo]) = [zo]; rw [hfit]; rfl
    have K1 := fun W x => KA.out W x 4 J ⟨by decide, HJ.out⟩
    unfold AnsP at K1
    rw [A1] at K1
    have KRd := Lib.hid (fun x q W hx l1 l2 => read_ans K hL hr (k := 4) (J := J) (by decide) (by decide) A1 x q W hx l1 l2)
    have HK1 := Lib.hid K1
    have HAP := Lib.hid AP
    have HZN := Lib.hid (show zo.n ≤ 1000000 by omega)
    rw [hf] at KD
    generalize ansK L 3 (ofL [14, 4, J]) = k at HK1 KRd
    generalize ansP L (ofL [14, 4, J]) = AA at HK1 KRd HAP
    clear hL fL hfl hr wJ hn j0 j1 s0 s1 hf A1 AP AL K1 KA O K hzL hzn hz240 hfit
    go_enter Try.func7, Try.ntmps7
    go_wp2_with fail
    refine KFl.out.mono ?_; rintro e w1 ⟨rfl, hw1⟩
    rw [hw1]; clear hw1
    go_wp2_with fail
    refine KR.out.mono ?_; rintro e w1 ⟨rfl, x1⟩
    go_wp2_with fail
    refine (KD.out w1 x1).mono ?_; rintro e w2 ⟨z, rfl, hz, sz, x2⟩
    obtain ⟨G1, hG1⟩ : ∃ G1, G1 = w2.heap.size := ⟨_, rfl⟩
    obtain ⟨W3, hW3, y3, HG1⟩ : ∃ W3, W3 = w2.alloc (.cells (obC z) 49) ∧ Ext w2 W3 ∧ Hid (W3.heap[G1]? = some (.cells (obC z) 49 (0, 0))) := ⟨_, rfl, Ext.alloc _ _, Lib.hid (by rw [hG1]; exact heap_alloc_new _ _)⟩
    have z3 := x1.trans (x2.trans y3)
    have HZ := Lib.hid (And.intro (hz.ext y3) (show sameZ z zo = true from sz))
    simp only [obC]
    go_upto_region 4 with fail
    rw [show (w2.alloc (.cells #[.int .i64 z.id, .slice z.a z.n z.c] 49)) = W3 from hW3.symm, ← hG1]
    clear hW3 x1 x2 y3 hz sz hG1
    go_wp2_with fail
    refine (HK1.out W3 z3).mono ?_; rintro e w4 ⟨x, q, rfl, h4, l4, m4, x4⟩
    have y4 := (Ext.alloc W3 (.cells #[.int .u8 14, .int .u8 4, .int .u8 J] 5)).trans x4
    have HR4 := Lib.hid (KRd.out x q w4 h4 l4 m4)
    clear x4 h4 l4 m4
    go_wp2_with fail
    refine HR4.out.mono ?_; rintro e w5 ⟨P, pb, pm, pr, rfl, hP, fP, sP, x5⟩
    obtain ⟨G2, hG2⟩ : ∃ G2, G2 = w5.heap.size := ⟨_, rfl⟩
    obtain ⟨W6, hW6, y6, HG2⟩ : ∃ W6, W6 = w5.alloc (.cells (prC P pb pm pr) 24) ∧ Ext w5 W6 ∧ Hid (W6.heap[G2]? = some (.cells (prC P pb pm pr) 24 (0, 0))) := ⟨_, rfl, Ext.alloc _ _, Lib.hid (by rw [hG2]; exact heap_alloc_new _ _)⟩
    have t6 : Ext W3 W6 := y4.trans (x5.trans y6)
    obtain ⟨q1, q2, q3, q4, q5⟩ := sameP_iff.1 sP
    rw [HAP.out.1] at q1
    rw [HAP.out.2.1] at q3
    rw [HAP.out.2.2] at q5
    have HPP := Lib.hid (And.intro (hP.ext y6).o (And.intro fP q5))
    have HQ := Lib.hid (And.intro q1 q3)
    clear q1 q2 q3 q4 q5 sP
    simp only [prC]
    go_upto_region 11 with fail
    rw [show (w5.alloc (.cells #[.int .i64 P.co, .int .i64 P.lv, .bool P.mo, .int .i64 P.nx, .slice pb pm pr] 24)) = W6 from hW6.symm, ← hG2]
    have p0 : W6.cell? ⟨G2, 0, none⟩ = some (.int .i64 4) := by rw [← HQ.out.1]; exact cell_of_heap HG2.out rfl
    have p2 : W6.cell? ⟨G2, 2, none⟩ = some (.bool false) := by rw [← HQ.out.2]; exact cell_of_heap HG2.out rfl
    have p4 : W6.cell? ⟨G2, 4, none⟩ = some (.slice pb pm pr) := cell_of_heap HG2.out rfl
    have g1 : W6.heap[G1]? = some (.cells #[.int .i64 z.id, .slice z.a z.n z.c] 49 (0, 0)) := t6.block HG1.out
    have zn : z.n ≤ 1000000 := by rw [(sameZ_iff.1 HZ.out.2).2.1]; exact HZN.out
    have hW7 := heap_alloc_new W6 (.cells (obC z) 49)
    have hsame : sameO P.L [z] = true := sameO_trans HPP.out.2.2 (sameO_one (sameZ_symm HZ.out.2))
    have KS := Lib.hid (HK.out.1.same pb (some ⟨W6.heap.size, 0, none⟩) pm 1 pr 1 P.L [z] (W6.alloc (.cells (obC z) 49)) (HPP.out.1.ext (Ext.alloc _ _)) (one_at hW7 (HZ.out.1.ext (t6.trans (Ext.alloc _ _)))) HPP.out.2.1 (oneF zn))
    rw [hsame] at KS
    have HZ6 := Lib.hid ((z3.trans t6).trans (Ext.alloc W6 (.cells (obC z) 49)))
    clear hW6 hG2 hP fP y4 x5 y6 t6 zn hW7 hsame z3
    go_wp2_with (refine wpList_load_row_g (by rfl) 49 (.tmp 7) rfl G1 rfl 49 _ (0, 0) _ g1 Try.underlying49 rfl (by kernel_rfl) ?_)
    refine KS.out.mono ?_; rintro e w9 ⟨rfl, x9⟩
    go_wp2_with fail
    refine (sure21 HK.out.1 HK.out.2 w9).mono ?_; rintro e w10 ⟨rfl, x10⟩
    go_wp2
    go_ret
    exact ⟨rfl, HZ6.out.trans (x9.trans x10)⟩
end Go.Proofs.Ythdkhdbabohohaa
