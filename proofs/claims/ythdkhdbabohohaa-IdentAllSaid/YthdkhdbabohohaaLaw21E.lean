/-
  THE LAWS OF LAYER 21: IdentAll (the packages' contracts as premises).
-/
import Derived.Test.YthdkhdbabohohaaLaw21D
namespace Go.Proofs.Ythdkhdbabohohaa
open Go.RowKit
set_option linter.unusedVariables false
set_option maxRecDepth 100000

set_option maxHeartbeats 16000000 in
theorem identAll.small (O : ObjC) (K : IdeC) (a : Option Addr) (n c : Nat) (L : List Ob) (s : Int) (w : World) (hL : ObjsAt w a n c L) (hfl : fewO L = true) (hr : rightO L = true) (s1 : 1 ≤ s) (s3 : s ≤ 3) :
    Calls Try.prog 6 #[.slice a n c, .int .i64 s] w fun e w' => e = .returned (.bool true) ∧ Ext w w' := by
  obtain ⟨io, hio, ho0, ho1, ho2⟩ := info_parts Try.infoOb
  have fL := fewO_f hfl
  have hn : n ≤ 140 := by have := (of_decide_eq_true hfl).1; rw [hL.len] at this; exact this
  have ws : (Lit.int .i64 s).wf = true := by simp [Lit.wf, IntKind.min, IntKind.max, IntKind.signed, IntKind.bits]; omega
  have KFl := Lib.hid (rfew20_any a n c L w hL (by omega))
  rw [hfl] at KFl
  have KR := Lib.hid (fun W (x : Ext w W) => O.right a n c L W (hL.ext x) fL)
  rw [hr] at KR
  have KAll := Lib.hid (K.all a n c L s w hL fL ws)
  have hal : allL L s = ofO s L := by unfold allL; rw [if_pos ⟨hr, s1, s3⟩]
  have han : allN L s = strN L.length (ofO s L) := by unfold allN; rw [if_pos ⟨hr, s1, s3⟩]
  rw [hal, han] at KAll
  obtain ⟨F, hF⟩ : ∃ F, ofO s L = F := ⟨_, rfl⟩
  obtain ⟨N, hN⟩ : ∃ N, strN L.length F = N := ⟨_, rfl⟩
  rw [hF, hN] at KAll
  have hFlen : F.length ≤ L.length := by rw [← hF]; exact ofO_len _ _
  have HF := Lib.hid (And.intro hF (And.intro hN (And.intro (hFlen) (And.intro (of_ris hr s) (of_zero hr s1 s3)))))
  have HL := Lib.hid (And.intro hL fL)
  have HRR := Lib.hid (And.intro hr (And.intro s1 (And.intro s3 ws)))
  have HK := Lib.hid (And.intro O K)
  have HFs : Hid (∀ z ∈ F, z ∈ L) := Lib.hid (fun z hz => by rw [← hF] at hz; exact (List.mem_filter.1 hz).1)
  have g1 : ¬ s < 1 := by omega
  have g3 : ¬ 3 < s := by omega
  have us : IntKind.u8.wrap s = s := by rw [IntKind.wrap_u8]; omega
  obtain ⟨V, hV⟩ : ∃ V, levelO L = V := ⟨_, rfl⟩
  have HVV := Lib.hid hV
  have HLen := Lib.hid hL.len
  clear O K hL fL hfl hr hal han hF hN hFlen ws hV
  go_enter Try.func6, Try.ntmps6
  go_wp2_with fail
  refine KFl.out.mono ?_; rintro e w1 ⟨rfl, hw1⟩
  rw [hw1]; clear hw1
  go_wp2_with fail
  refine KAll.out.mono ?_; rintro e w1 ⟨mb, mm, mq, MA, rfl, hMA, sMA, x1⟩
  go_wp2_with fail
  refine (KR.out w1 x1).mono ?_; rintro e w2 ⟨rfl, x2⟩
  have z2 := x1.trans x2
  have HMA := Lib.hid (And.intro (hMA.ext x2) sMA)
  have HX2 := Lib.hid z2
  obtain ⟨B, hB⟩ : ∃ B, B = w2.heap.size := ⟨_, rfl⟩
  have HB := Lib.hid hB
  have HO0 : Hid (OutI w2 B (.slice none 0 0) []) := Lib.hid ⟨World.ownsRow_nil _ _ _ _, (fun z hz => by cases hz), (fun z hz => by cases hz)⟩
  clear x1 x2 z2 hMA sMA hB KFl KR KAll
  go_wp2_with fail
  go_loopw [7, 8, 9] (fun ov iv mv wr => ∃ (j many kk : Nat) (z : Ob) (M : List Ob), F[j]? = some z ∧ iv = .int .i64 z.id ∧ mv = .int .i64 many ∧ OutI wr B ov M ∧ sameO M (F.take j) = true ∧ many ≤ j ∧ N = many + strN kk (F.drop j) ∧ F.length - j ≤ kk ∧ Ext w2 wr) (fun _ _ mv _ => n + 1 - (intOf mv).toNat)
  case atStart =>
    obtain ⟨x, M, hx, hx0⟩ := HF.out.2.2.2.2
    rw [HF.out.1] at hx
    exact ⟨0, 0, L.length, x, [], by rw [hx]; rfl, by rw [hx0], rfl, HO0.out, rfl, Nat.le_refl _, by rw [← HF.out.2.1]; simp, by have := HF.out.2.2.1; omega, Ext.refl _⟩
  case round =>
    obtain ⟨j, many, kk, z, M, hz, rfl, rfl, hO, hM, hmj, hN, hkk, xr⟩ := hrel
    have hjF : j < F.length := by
      rcases Nat.lt_or_ge j F.length with hl | hl
      · exact hl
      · rw [List.getElem?_eq_none hl] at hz; cases hz
    have hzL := HFs.out z (List.mem_of_getElem? hz)
    have hzd := okD_iff.1 (right_okD HRR.out.1 z hzL)
    have hjn : F.length ≤ n := by rw [← HLen.out]; exact HF.out.2.2.1
    have hz' : (ofO s L)[j]? = some z := by rw [HF.out.1]; exact hz
    obtain ⟨hE, hP⟩ := str_part HRR.out.1 HRR.out.2.1 HRR.out.2.2.1 hz'
    rw [HF.out.1] at hP
    obtain ⟨f, hf⟩ : ∃ f, fitF 6 (F.drop j) = f := ⟨_, rfl⟩
    have hd0 : (F.drop j)[0]? = some z := by rw [List.getElem?_drop, Nat.add_zero]; exact hz
    have hf1 : 1 ≤ f := by rw [← hf]; exact fit_pos hd0 hzd.2.2
    have hfl : f ≤ F.length - j := by rw [← hf]; have := fitF_le 6 (F.drop j); rw [List.length_drop] at this; exact this
    have KA := HK.out.2.answerF a (some ⟨wr.heap.size, 0, none⟩) n c 3 3 L (ofL [14, s, z.id]) (wr.alloc (.cells #[.int .u8 14, .int .u8 s, .int .u8 z.id] 5)) (HL.out.1.ext ((HX2.out.trans xr).trans (Ext.alloc _ _))) HL.out.2 (Holds.lit wr [14, s, z.id] 5 _ rfl 3 rfl) (by omega) (Nat.le_refl _) (by unfold maxLen; omega) (byte3 ⟨by decide, by omega, by omega⟩)
    rw [hE] at KA
    have hrp := ansP_right HRR.out.1 HRR.out.2.1 (by have := HRR.out.2.2.1; omega) hE
    have hak : ansK L 3 (ofL [14, s, z.id]) = 6 + lenO (ansP L (ofL [14, s, z.id])).L := by unfold ansK; rw [hE]; rfl
    have hle := ansK_le L 3 (ofL [14, s, z.id])
    have hbd := say_bd hrp.1 (fun y hy => (HL.out.1.each y (hrp.2 y hy)).b)
    rw [← hak] at hbd
    have hmo : (ansP L (ofL [14, s, z.id])).mo = decide (f < F.length - j) := by rw [hP]; show decide (fitF 6 (F.drop j) < (F.drop j).length) = _; rw [hf, List.length_drop]
    have hnx : f < F.length - j → ∃ y, F[j + f]? = some y ∧ (ansP L (ofL [14, s, z.id])).nx = y.id := fun hlt => by
      have e := List.getElem?_eq_getElem (l := F) (i := j + f) (by omega)
      refine ⟨_, e, ?_⟩
      rw [hP]
      show (if fitF 6 (F.drop j) < (F.drop j).length then ((F.drop j)[fitF 6 (F.drop j)]?.getD zeroOb).id else 0) = _
      rw [hf, if_pos (by rw [List.length_drop]; exact hlt), List.getElem?_drop, e]; rfl
    have hLL : (ansP L (ofL [14, s, z.id])).L = (F.drop j).take f := by rw [hP]; show (F.drop j).take (fitF 6 (F.drop j)) = _; rw [hf]
    have hroom : ∀ y, F[j + f]? = some y → 252 < ansK L 3 (ofL [14, s, z.id]) + 2 + y.n := fun y hy => by
      have := fitF_next 6 (F.drop j) y (by rw [hf, List.getElem?_drop]; exact hy)
      rw [hak, hLL, ← hf]; exact this
    obtain ⟨Q, hQ, hQP⟩ := read_say hrp.1
    have hrd : rdI (sayP (ansP L (ofL [14, s, z.id]))) = 0 := by unfold rdI; rw [hQ]; rfl
    have hco : (ansP L (ofL [14, s, z.id])).co = s ∧ (ansP L (ofL [14, s, z.id])).lv = V := by rw [hP]; exact ⟨rfl, HVV.out⟩
    generalize ansK L 3 (ofL [14, s, z.id]) = k at KA hak hle hbd hroom
    generalize ansP L (ofL [14, s, z.id]) = AP at KA hak hbd hmo hnx hLL hQ hQP hrd hco
    have HKA := Lib.hid KA
    have HKR := Lib.hid (fun x q W (hx : Holds .u8 W x k (ofL (sayP AP))) l1 l2 => HK.out.2.readF x k q (ofL (sayP AP)) W hx (by omega) l1 l2 hbd)
    have HQ := Lib.hid (And.intro hQ (And.intro hQP hrd))
    have HS := Lib.hid (And.intro hak (And.intro hmo (And.intro hnx (And.intro hLL (And.intro hco hroom)))))
    have HJ := Lib.hid (And.intro hz (And.intro hM (And.intro hmj (And.intro hN (And.intro hkk (And.intro hjF (And.intro hf1 (And.intro hfl hjn))))))))
    have HOO := Lib.hid hO
    have HXr := Lib.hid xr
    have HKL := Lib.hid hle
    have HFt := Lib.hid hf
    have uz : IntKind.u8.wrap z.id = z.id := by rw [IntKind.wrap_u8]; omega
    have HZD := Lib.hid hzd
    clear hz hO hM hmj hN hkk xr hjF hzL hzd hjn hz' hE hP hf hd0 hf1 hfl KA hrp hak hle hbd hmo hnx hLL hroom hQ hQP hrd hco HO0
    go_wp2_with fail
    refine HKA.out.mono ?_; rintro e w4 ⟨x, q, rfl, h4, l4, m4, f4, x4⟩
    have y4 := (Ext.alloc wr (.cells #[.int .u8 14, .int .u8 s, .int .u8 z.id] 5)).trans x4
    have KRd := HKR.out x q w4 h4 l4 m4
    rw [map_ofL (by rw [sayP_len]; exact HS.out.1.symm), HQ.out.2.2, HQ.out.1] at KRd
    have HKd := Lib.hid KRd
    have HF4 : Hid (Fresh wr x) := Lib.hid (fun p hp => Nat.le_trans (Ext.alloc wr _).size (f4 p hp))
    clear KRd h4 l4 m4 f4 x4
    go_wp2_with fail
    refine HKd.out.mono ?_; rintro e w5 ⟨P, pb, pm, pr, rfl, hPa, fP, sP, fb, fz, x5⟩
    obtain ⟨G, hG⟩ : ∃ G, G = w5.heap.size := ⟨_, rfl⟩
    obtain ⟨W6, hW6, y6, HG⟩ : ∃ W6, W6 = w5.alloc (.cells (prC P pb pm pr) 24) ∧ Ext w5 W6 ∧ Hid (W6.heap[G]? = some (.cells (prC P pb pm pr) 24 (0, 0))) := ⟨_, rfl, Ext.alloc _ _, Lib.hid (by rw [hG]; exact heap_alloc_new _ _)⟩
    have HGw : Hid (wr.heap.size ≤ G) := Lib.hid (by rw [hG]; exact (y4.trans x5).size)
    have sPA := sameP_trans sP HQ.out.2.1
    obtain ⟨c1, c2, c3, c4, c5⟩ := sameP_iff.1 sPA
    have t6 : Ext wr W6 := y4.trans (x5.trans y6)
    have HPP := Lib.hid (And.intro (hPa.ext y6) (And.intro fP (And.intro c1 (And.intro c2 (And.intro c3 (And.intro c4 c5))))))
    have HFZ : Hid (∀ y ∈ P.L, y.n ≠ 0 → Fresh wr y.a) := Lib.hid (fun y hy hn => (fz y hy hn).elim (fun h p hp => Nat.le_trans y4.size (h p hp)) (fun h p hp => by
      obtain ⟨q', hq', e⟩ := h p hp
      have := HF4.out q' hq'
      rw [← e]; exact this))
    have hpm : pm = f := by rw [← hPa.o.len, sameO_len c5, HS.out.2.2.2.1, List.length_take, List.length_drop]; have := HJ.out; omega
    have HPm := Lib.hid hpm
    have hpm0 : ((pm : Int) == 0) = false := by have := HJ.out.2.2.2.2.2.2.1; simp; omega
    have HC := Lib.hid (fun W (x : Ext W6 W) => (⟨by rw [← HS.out.2.2.2.2.1.1, ← HPP.out.2.2.1]; exact cell_of_heap (x.block HG.out) rfl, by rw [← HS.out.2.2.2.2.1.2, ← HPP.out.2.2.2.1]; exact cell_of_heap (x.block HG.out) rfl, cell_of_heap (x.block HG.out) rfl⟩ :
      W.cell? ⟨G, 0, none⟩ = some (.int .i64 s) ∧ W.cell? ⟨G, 1, none⟩ = some (.int .i64 V) ∧ W.cell? ⟨G, 4, none⟩ = some (.slice pb pm pr)))
    have KV := Lib.hid (fun W (x : Ext W6 W) => HK.out.1.level a n c L W (HL.out.1.ext ((HX2.out.trans HXr.out).trans (t6.trans x))) HL.out.2)
    rw [HVV.out] at KV
    simp only [prC]
    clear c1 c2 c3 c4 c5 sPA sP hPa fP fb fz x5 y4 hpm
    go_upto_region 10 with fail
    rw [show (w5.alloc (.cells #[.int .i64 P.co, .int .i64 P.lv, .bool P.mo, .int .i64 P.nx, .slice pb pm pr] 24)) = W6 from hW6.symm, ← hG]
    clear hW6 hG y6
    have hs : Ext W6 W6.drew := Ext.drew _
    refine wp_region_held_drew (S := fun W => Ext W6 W) (by kernel_rfl) hs (fun _ => ?_)
    refine wpAnyH_takeD (i := 0) (d := 62) (v := .int .i64 0) rfl rfl (by kernel_rfl) (by kernel_rfl) (by kernel_rfl) (fun _ _ _ h => h) (Or.inl ⟨by rfl, fun W hW => by go_simp⟩) hs ?_
    simp only [Act.put, List.setIfInBounds_toArray, List.set_cons_succ, List.set_cons_zero]
    refine wpAnyH_takeD (i := 1) (d := 63) (v := .bool false) rfl rfl (by kernel_rfl) (by kernel_rfl) (by kernel_rfl) (fun _ _ _ h => h) (Or.inl ⟨by rfl, fun W hW => by go_simp⟩) hs ?_
    simp only [Act.put, List.setIfInBounds_toArray, List.set_cons_succ, List.set_cons_zero]
    refine wpAnyH_takeD (i := 2) (d := 64) (v := .bool false) rfl rfl (by kernel_rfl) (by kernel_rfl) (by kernel_rfl) (fun _ _ _ h => h) (Or.inl ⟨by rfl, fun W hW => by go_simp⟩) hs ?_
    simp only [Act.put, List.setIfInBounds_toArray, List.set_cons_succ, List.set_cons_zero]
    refine wpAnyH_takeD (i := 3) (d := 65) (v := .int .i64 0) rfl rfl (by kernel_rfl) (by kernel_rfl) (by kernel_rfl) (fun _ _ _ h => h) (Or.inl ⟨by rfl, fun W hW => by go_simp⟩) hs ?_
    simp only [Act.put, List.setIfInBounds_toArray, List.set_cons_succ, List.set_cons_zero]
    refine wpAnyH_takeD (i := 4) (d := 66) (v := .bool false) rfl rfl (by kernel_rfl) (by kernel_rfl) (by kernel_rfl) (fun _ _ _ h => h) (Or.inl ⟨by rfl, fun W hW => by go_simp⟩) hs ?_
    simp only [Act.put, List.setIfInBounds_toArray, List.set_cons_succ, List.set_cons_zero]
    refine wpAnyH_takeD (i := 5) (d := 67) (v := .bool false) rfl rfl (by kernel_rfl) (by kernel_rfl) (by kernel_rfl) (fun _ _ _ h => h) (Or.inl ⟨by rfl, fun W hW => by go_simp⟩) hs ?_
    simp only [Act.put, List.setIfInBounds_toArray, List.set_cons_succ, List.set_cons_zero]
    refine wpAnyH_takeD (i := 6) (d := 68) (v := .bool false) rfl rfl (by kernel_rfl) (by kernel_rfl) (by kernel_rfl) (fun _ _ _ h => h) (Or.inl ⟨by rfl, fun W hW => by go_simp⟩) hs ?_
    simp only [Act.put, List.setIfInBounds_toArray, List.set_cons_succ, List.set_cons_zero]
    refine wpAnyH_takeD (i := 7) (d := 69) (v := .pointer (some ⟨G, 0, none⟩)) rfl rfl (by kernel_rfl) (by kernel_rfl) (by kernel_rfl) (fun _ _ _ h => h) (Or.inl ⟨by rfl, fun W hW => by go_simp⟩) hs ?_
    simp only [Act.put, List.setIfInBounds_toArray, List.set_cons_succ, List.set_cons_zero]
    refine wpAnyH_takeD (i := 8) (d := 70) (v := .int .i64 s) rfl rfl (by kernel_rfl) (by kernel_rfl) (by kernel_rfl) (fun _ _ _ h => h) (Or.inl ⟨by rfl, fun W hW => by obtain ⟨k0, k1, k4⟩ := HC.out W hW; go_simp⟩) hs ?_
    simp only [Act.put, List.setIfInBounds_toArray, List.set_cons_succ, List.set_cons_zero]
    refine wpAnyH_takeD (i := 9) (d := 71) (v := .int .i64 s) rfl rfl (by kernel_rfl) (by kernel_rfl) (by kernel_rfl) (fun _ _ _ h => h) (Or.inl ⟨by rfl, fun W hW => by go_simp⟩) hs ?_
    simp only [Act.put, List.setIfInBounds_toArray, List.set_cons_succ, List.set_cons_zero]
    refine wpAnyH_takeD (i := 10) (d := 72) (v := .bool false) rfl rfl (by kernel_rfl) (by kernel_rfl) (by kernel_rfl) (fun _ _ _ h => h) (Or.inl ⟨by rfl, fun W hW => by go_simp⟩) hs ?_
    simp only [Act.put, List.setIfInBounds_toArray, List.set_cons_succ, List.set_cons_zero]
    refine wpAnyH_takeD (i := 11) (d := 73) (v := .bool false) rfl rfl (by kernel_rfl) (by kernel_rfl) (by kernel_rfl) (fun _ _ _ h => h) (Or.inl ⟨by rfl, fun W hW => by go_simp⟩) hs ?_
    simp only [Act.put, List.setIfInBounds_toArray, List.set_cons_succ, List.set_cons_zero]
    refine wpAnyH_takeD (i := 12) (d := 74) (v := .bool false) rfl rfl (by kernel_rfl) (by kernel_rfl) (by kernel_rfl) (fun _ _ _ h => h) (Or.inl ⟨by rfl, fun W hW => by go_simp⟩) hs ?_
    simp only [Act.put, List.setIfInBounds_toArray, List.set_cons_succ, List.set_cons_zero]
    refine wpAnyH_takeD (i := 13) (d := 75) (v := .pointer (some ⟨G, 1, none⟩)) rfl rfl (by kernel_rfl) (by kernel_rfl) (by kernel_rfl) (fun _ _ _ h => h) (Or.inl ⟨by rfl, fun W hW => by go_simp⟩) hs ?_
    simp only [Act.put, List.setIfInBounds_toArray, List.set_cons_succ, List.set_cons_zero]
    refine wpAnyH_takeD (i := 14) (d := 76) (v := .int .i64 V) rfl rfl (by kernel_rfl) (by kernel_rfl) (by kernel_rfl) (fun _ _ _ h => h) (Or.inl ⟨by rfl, fun W hW => by obtain ⟨k0, k1, k4⟩ := HC.out W hW; go_simp⟩) hs ?_
    simp only [Act.put, List.setIfInBounds_toArray, List.set_cons_succ, List.set_cons_zero]
    refine wpAnyH_takeD (i := 15) (d := 77) (v := .slice a n c) rfl rfl (by kernel_rfl) (by kernel_rfl) (by kernel_rfl) (fun _ _ _ h => h) (Or.inl ⟨by rfl, fun W hW => by go_simp⟩) hs ?_
    simp only [Act.put, List.setIfInBounds_toArray, List.set_cons_succ, List.set_cons_zero]
    refine wpAnyH_ready (rs := [16]) (by kernel_rfl) (by simp) (AllReadyH.cons rfl (fun K hK => ?_) AllReadyH.nil)
    go_simp
    refine (KV.out _ hs).mono ?_; rintro e w7 ⟨rfl, x7⟩
    go_wp2_with fail
    refine hK.out _ _ (hs.trans x7) (fun hs => ?_)
    clear hK K
    refine wpAnyH_takeD (i := 17) (d := 79) (v := .bool false) rfl rfl (by kernel_rfl) (by kernel_rfl) (by kernel_rfl) (fun _ _ _ h => h) (Or.inl ⟨by rfl, fun W hW => by go_simp⟩) hs ?_
    simp only [Act.put, List.setIfInBounds_toArray, List.set_cons_succ, List.set_cons_zero]
    refine wpAnyH_takeD (i := 18) (d := 80) (v := .bool false) rfl rfl (by kernel_rfl) (by kernel_rfl) (by kernel_rfl) (fun _ _ _ h => h) (Or.inl ⟨by rfl, fun W hW => by go_simp⟩) hs ?_
    simp only [Act.put, List.setIfInBounds_toArray, List.set_cons_succ, List.set_cons_zero]
    refine wpAnyH_takeD (i := 19) (d := 81) (v := .bool false) rfl rfl (by kernel_rfl) (by kernel_rfl) (by kernel_rfl) (fun _ _ _ h => h) (Or.inl ⟨by rfl, fun W hW => by go_simp⟩) hs ?_
    simp only [Act.put, List.setIfInBounds_toArray, List.set_cons_succ, List.set_cons_zero]
    refine wpAnyH_takeD (i := 20) (d := 82) (v := .pointer (some ⟨G, 4, none⟩)) rfl rfl (by kernel_rfl) (by kernel_rfl) (by kernel_rfl) (fun _ _ _ h => h) (Or.inl ⟨by rfl, fun W hW => by go_simp⟩) hs ?_
    simp only [Act.put, List.setIfInBounds_toArray, List.set_cons_succ, List.set_cons_zero]
    refine wpAnyH_takeD (i := 21) (d := 83) (v := .slice pb pm pr) rfl rfl (by kernel_rfl) (by kernel_rfl) (by kernel_rfl) (fun _ _ _ h => h) (Or.inl ⟨by rfl, fun W hW => by obtain ⟨k0, k1, k4⟩ := HC.out W hW; go_simp⟩) hs ?_
    simp only [Act.put, List.setIfInBounds_toArray, List.set_cons_succ, List.set_cons_zero]
    refine wpAnyH_takeD (i := 22) (d := 84) (v := .int .i64 pm) rfl rfl (by kernel_rfl) (by kernel_rfl) (by kernel_rfl) (fun _ _ _ h => h) (Or.inl ⟨by rfl, fun W hW => by go_simp⟩) hs ?_
    simp only [Act.put, List.setIfInBounds_toArray, List.set_cons_succ, List.set_cons_zero]
    refine wpAnyH_takeD (i := 23) (d := 85) (v := .bool false) rfl rfl (by kernel_rfl) (by kernel_rfl) (by kernel_rfl) (fun _ _ _ h => h) (Or.inl ⟨by rfl, fun W hW => by go_simp⟩) hs ?_
    simp only [Act.put, List.setIfInBounds_toArray, List.set_cons_succ, List.set_cons_zero]
    refine wpAnyH_takeD (i := 24) (d := 86) (v := .bool false) rfl rfl (by kernel_rfl) (by kernel_rfl) (by kernel_rfl) (fun _ _ _ h => h) (Or.inl ⟨by rfl, fun W hW => by go_simp⟩) hs ?_
    simp only [Act.put, List.setIfInBounds_toArray, List.set_cons_succ, List.set_cons_zero]
    refine wpAnyH_done (by kernel_rfl) ?_ _
    obtain ⟨-, -, k4⟩ := HC.out w7 hs
    have HX7 := Lib.hid (t6.trans hs)
    have hlen : P.L.length = pm := HPP.out.1.o.len
    have HLN := Lib.hid hlen
    have hbw : B ≤ w7.heap.size := by rw [HB.out]; exact Nat.le_trans HXr.out.size HX7.out.size
    have hpl : 0 < pm := by have := HJ.out.2.2.2.2.2.2.1; rw [HPm.out]; omega
    have hml : M.length ≤ 140 := by have := sameO_len HJ.out.2.1; rw [this, List.length_take]; have := HJ.out.2.2.2.2.2.2.2.2; omega
    have hpl2 : pm ≤ 140 := by rw [HPm.out]; have := HJ.out.2.2.2.2.2.2.2; omega
    have HHS := Lib.hid hs
    clear hs t6
    go_upto_region 13 with (at_builtin; refine wpList_append_listK rfl _ _ 22 rfl B 49 io (.agg #[.int .i64 0, .slice none 0 0]) 32 Try.underlying22 hio ho0 ho1 ho2 rfl (by decide) obL_length (fun y u hu => by simp only [obL, List.mem_cons, List.not_mem_nil, or_false] at hu; rcases hu with rfl | rfl <;> rfl) u7 M.length M (by rfl) (own_ext HOO.out.own HX7.out) pb pr P.L pm hlen (by rfl) (HPP.out.1.ext HHS.out).o.h hpl (by unfold maxLen; omega) (by omega) hbw ?_; intro g cap w8 hown8 hgr8 hg8)
    have hx8 : Ext w2 w8 := Below.trans (HXr.out.trans HX7.out) (by rw [← HB.out]; exact (Below.refl B _).grown hgr8 hbw (fun q hq => ((own_ext HOO.out.own HX7.out).lt q hq).1))
    have hlt6 : ∀ q, u7.ownBlock = some q → q < wr.heap.size := fun q hq => (HOO.out.own.lt q hq).2
    have hG8 : w8.heap[G]? = some (.cells (prC P pb pm pr) 24 (0, 0)) := (hgr8.block G (heap_lt (HHS.out.block HG.out)) (fun e => by
      have h1 := hlt6 G e.symm
      have h2 := HGw.out
      omega)).trans (HHS.out.block HG.out)
    rw [← hlen] at hown8
    have hO8 := OutI.push (HOO.out.later HX7.out) (N := P.L) (fun y hy => (HPP.out.1.o.each y hy).ext HHS.out) (fun y hy hn p hp e => by
      have h1 := hlt6 _ e
      have h2 := HFZ.out y hy hn p hp
      omega) hown8 hgr8 hg8
    rw [hlen] at hO8
    have HO8 := Lib.hid hO8
    have HX8 := Lib.hid hx8
    have hMP : sameO (M ++ P.L) (F.take (j + f)) = true := by
      have e : F.take (j + f) = F.take j ++ (F.drop j).take f := List.take_add
      rw [e]
      refine sameO_append HJ.out.2.1 ?_
      have := HPP.out.2.2.2.2.2.2
      rw [HS.out.2.2.2.1] at this; exact this
    have HMP := Lib.hid hMP
    have em : IntKind.i64.wrap ((many : Int) + 1) = many + 1 := IntWalk.i64_in _ (by have := HJ.out; omega)
    obtain ⟨MO, hMO⟩ : ∃ MO, P.mo = MO := ⟨_, rfl⟩
    have c2 : w8.cell? ⟨G, 2, none⟩ = some (.bool MO) := by rw [← hMO]; exact cell_of_heap hG8 rfl
    have HMO : Hid (MO = decide (f < F.length - j)) := Lib.hid (by rw [← hMO, HPP.out.2.2.2.2.1]; exact HS.out.2.1)
    have HG8 := Lib.hid hG8
    clear hown8 hgr8 hg8 hO8 hx8 hlt6 hMP k4 hbw hpl hml hpl2 hlen hMO hG8
    cases MO with
    | true =>
      have hlt := of_decide_eq_true HMO.out.symm
      obtain ⟨y, hy, hyn⟩ := HS.out.2.2.1 hlt
      have hPn : P.nx = y.id := HPP.out.2.2.2.2.2.1.trans hyn
      have c3 : w8.cell? ⟨G, 3, none⟩ = some (.int .i64 y.id) := by rw [← hPn]; exact cell_of_heap HG8.out rfl
      have hyF := List.mem_of_getElem? hy
      have hyL := HFs.out y hyF
      have hyi := (HL.out.1.each y hyL).wi
      have hfy : findO y.id L = some y := of_find HRR.out.1 (s := s) (by rw [HF.out.1]; exact hyF)
      have hgt : ¬ y.id ≤ z.id := by
        have := ris_lt (by have := HF.out.2.2.2.1; rw [HF.out.1] at this; exact this) (show j < j + f by have := HJ.out.2.2.2.2.2.2.1; omega) HJ.out.1 hy
        omega
      have hro := HS.out.2.2.2.2.2 y hy
      have hyd := okD_iff.1 (right_okD HRR.out.1 y hyL)
      have KD := HK.out.1.find a n c L y.id w8 (HL.out.1.ext (HX2.out.trans HX8.out)) HL.out.2 hyi
      rw [hfy] at KD
      have HKD := Lib.hid KD
      have HY := Lib.hid (And.intro hlt (And.intro hy (And.intro hro hyd)))
      obtain ⟨Y, hY⟩ : ∃ Y, y.id = Y := ⟨_, rfl⟩
      rw [hY] at c3 hgt HKD
      have HYY := Lib.hid hY
      clear hlt hyn hPn hyF hyL hyi hfy hro hyd KD hY hy
      go_wp2_with fail
      refine HKD.out.mono ?_; rintro e w9 ⟨zz, rfl, hzz, szz, x9⟩
      obtain ⟨G3, hG3⟩ : ∃ G3, G3 = w9.heap.size := ⟨_, rfl⟩
      obtain ⟨WA, hWA, yA, HG3⟩ : ∃ WA, WA = w9.alloc (.cells (obC zz) 49) ∧ Ext w9 WA ∧ Hid (WA.heap[G3]? = some (.cells (obC zz) 49 (0, 0))) := ⟨_, rfl, Ext.alloc _ _, Lib.hid (by rw [hG3]; exact heap_alloc_new _ _)⟩
      have x8A : Ext w8 WA := x9.trans yA
      have HZZ := Lib.hid (And.intro (hzz.ext yA) szz)
      have HZn : Hid (zz.n = y.n) := Lib.hid (sameZ_iff.1 szz).2.1
      have dA : WA.cell? ⟨G, 3, none⟩ = some (.int .i64 Y) := by rw [← HYY.out]; rw [show y.id = P.nx from ((HPP.out.2.2.2.2.2.1.trans (by obtain ⟨y', hy', hn'⟩ := HS.out.2.2.1 HY.out.1; rw [hn']; rw [HY.out.2.1] at hy'; cases hy'; rfl))).symm]; exact cell_of_heap (x8A.block HG8.out) rfl
      have gz : WA.heap[G3]? = some (.cells #[.int .i64 zz.id, .slice zz.a zz.n zz.c] 49 (0, 0)) := HG3.out
      have KZ := Lib.hid (HK.out.1.size zz WA (HZZ.out.1) (by rw [HZn.out]; have := HY.out.2.2.2.2.2; omega))
      have ez : IntKind.i64.wrap ((k : Int) + (2 + (zz.n : Int))) = k + (2 + zz.n) := IntWalk.i64_in _ (by have := HKL.out; have := HZn.out; have := HY.out.2.2.2.2.2; omega)
      have ez2 : ¬ (k : Int) + (2 + (zz.n : Int)) ≤ 252 := by have := HZn.out; have := HY.out.2.2.1; omega
      have ez3 : ¬ (n : Int) < (many : Int) + 1 := by have := HJ.out; omega
      simp only [obC]
      go_upto_region 16 with fail
      rw [show (w9.alloc (.cells #[.int .i64 zz.id, .slice zz.a zz.n zz.c] 49)) = WA from hWA.symm, ← hG3]
      clear hWA hG3 yA x9 hzz szz c3 c2
      go_wp2_with (refine wpList_load_row_g (by rfl) 49 (.tmp 14) rfl G3 rfl 49 _ (0, 0) _ gz Try.underlying49 rfl (by kernel_rfl) ?_)
      refine KZ.out.mono ?_; rintro e wB ⟨rfl, xB⟩
      have dB := xB.cell (World.block_lt_of_cell? _ _ dA) dA
      have x8B := x8A.trans xB
      have HNX : Hid (∃ (j' many' kk : Nat) (z : Ob) (M' : List Ob), F[j']? = some z ∧ Value.int .i64 Y = .int .i64 z.id ∧ Value.int .i64 ((many : Int) + 1) = .int .i64 many' ∧ OutI wB B (.slice (some ⟨g, 0, none⟩) (M.length + pm) cap) M' ∧ sameO M' (F.take j') = true ∧ many' ≤ j' ∧ N = many' + strN kk (F.drop j') ∧ F.length - j' ≤ kk ∧ Ext w2 wB) := Lib.hid (by
        obtain ⟨k', hk'⟩ : ∃ k', kk = k' + 1 := ⟨kk - 1, by have := HJ.out; omega⟩
        refine ⟨j + f, many + 1, k', y, M ++ P.L, HY.out.2.1, by rw [HYY.out], by simp, HO8.out.later x8B, HMP.out, by have := HJ.out; omega, ?_, by have := HJ.out; omega, HX8.out.trans x8B⟩
        rw [HJ.out.2.2.2.1, hk']
        show many + (1 + (if fitF 6 (F.drop j) < (F.drop j).length then strN k' ((F.drop j).drop (fitF 6 (F.drop j))) else 0)) = _
        rw [HFt.out, if_pos (by rw [List.length_drop]; exact HY.out.1), List.drop_drop]; omega)
      have HMS : Hid (n + 1 - (many + 1) < n + 1 - many) := Lib.hid (by have := HJ.out; omega)
      clear dA gz KZ x8A x8B xB HKD
      go_wp2
      go_roundw
      case rel => exact HNX.out
      case measure => simp [intOf]; have := HMS.out; omega
    | false =>
      have hge := of_decide_eq_false HMO.out.symm
      have hjf : F.take (j + f) = F := List.take_of_length_le (by have := HJ.out; omega)
      have hall : sameO (M ++ P.L) F = true := by rw [← hjf]; exact HMP.out
      have hNe : N = many + 1 := by
        obtain ⟨k', hk'⟩ : ∃ k', kk = k' + 1 := ⟨kk - 1, by have := HJ.out; omega⟩
        rw [HJ.out.2.2.2.1, hk']
        show many + (1 + (if fitF 6 (F.drop j) < (F.drop j).length then strN k' ((F.drop j).drop (fitF 6 (F.drop j))) else 0)) = _
        rw [HFt.out, if_neg (by rw [List.length_drop]; omega)]
      have hNe' : ((N : Int) == (many : Int) + 1) = true := by simp; omega
      obtain ⟨ga, gc, hgv, q1, q2, q3, q4⟩ := HoldsL.of_own obL_length HO8.out.own rfl
      injection hgv with e1 e2 e3
      have hOb : ObjsAt w8 (some ⟨g, 0, none⟩) (M.length + pm) cap (M ++ P.L) := ⟨by rw [List.length_append, HLN.out], by rw [e1]; exact q3, by rw [← e3] at q1; rw [List.length_append, HLN.out] at q1; exact q1, by rw [← e3] at q2; exact q2, HO8.out.each⟩
      have HOb := Lib.hid hOb
      have HAl := Lib.hid hall
      have KO := Lib.hid (HK.out.1.of a n c L s w8 (HL.out.1.ext (HX2.out.trans HX8.out)) HL.out.2 HRR.out.2.2.2)
      have fF : ObjF F := by have := HL.out.2.ofO s; rw [HF.out.1] at this; exact this
      have HfF := Lib.hid fF
      clear hge hjf hall hNe q1 q2 q3 q4 e1 e2 e3 hOb fF
      go_wp2_with fail
      refine KO.out.mono ?_; rintro e w9 ⟨ob, om, oq, M2, rfl, hM2, sM2, x9⟩
      rw [HF.out.1] at sM2
      have KS1 := Lib.hid (HK.out.1.same (some ⟨g, 0, none⟩) ob (M.length + pm) om cap oq (M ++ P.L) M2 w9 (HOb.out.ext x9) hM2 (ObjF.same HAl.out HfF.out) (ObjF.same sM2 HfF.out))
      have hsm : sameO (M ++ P.L) M2 = true := sameO_trans HAl.out (sameO_symm sM2)
      rw [hsm] at KS1
      clear hM2 sM2 hsm
      go_wp2_with fail
      refine KS1.out.mono ?_; rintro e w10 ⟨rfl, x10⟩
      have x8 := x9.trans x10
      have KS2 := Lib.hid (HK.out.1.same mb (some ⟨g, 0, none⟩) mm (M.length + pm) mq cap MA (M ++ P.L) w10 (HMA.out.1.ext (HX8.out.trans x8)) (HOb.out.ext x8) (ObjF.same HMA.out.2 HfF.out) (ObjF.same HAl.out HfF.out))
      rw [sameO_trans HMA.out.2 (sameO_symm HAl.out)] at KS2
      clear x9 x10 KS1
      go_wp2_with fail
      refine KS2.out.mono ?_; rintro e w11 ⟨rfl, x11⟩
      go_wp2_with fail
      refine (sure21 HK.out.1 HK.out.2 w11).mono ?_; rintro e w12 ⟨rfl, x12⟩
      go_wp2
      go_ret
      exact ⟨rfl, HX2.out.trans (HX8.out.trans (x8.trans (x11.trans x12)))⟩
end Go.Proofs.Ythdkhdbabohohaa
