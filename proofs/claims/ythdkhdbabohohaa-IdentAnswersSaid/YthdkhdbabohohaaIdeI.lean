/-
  CONTRACTS: package ident (layer 21): All.
-/
import Derived.Test.YthdkhdbabohohaaIdeF
import Derived.Test.YthdkhdbabohohaaIdeG
namespace Go.Proofs.Ythdkhdbabohohaa
open Go.RowKit
set_option linter.unusedVariables false
set_option maxRecDepth 100000

theorem OutI.keepG {wr w' : World} {B G : Nat} {v : Value} {M : List Ob} (h : OutI wr B v M) (k : Keep (fun i => i = G) wr w') (hG : G < B) (hz : ∀ z ∈ M, z.n ≠ 0 → ∀ p, z.a = some p → B ≤ p.block) : OutI w' B v M := by
  refine ⟨own_sameI h.own (fun g hg => ?_), fun z hz' => ?_, h.off⟩
  · have := h.own.lt g hg
    exact k.block g this.2 (fun e => by have e : g = G := e; omega)
  · have e := h.each z hz'
    refine ⟨?_, e.l, e.m, e.s, e.b, e.wi⟩
    by_cases hn : z.n = 0
    · exact .inl hn
    · exact e.h.keep k (fun p hp e => by have e : p.block = G := e; have := hz z hz' hn p hp; omega)
theorem OutI.at_ {wr : World} {B : Nat} {v : Value} {M : List Ob} (h : OutI wr B v M) : ∃ a c, v = .slice a M.length c ∧ ObjsAt wr a M.length c M := by
  obtain ⟨a, c, hv, h1, h2, h3, -⟩ := HoldsL.of_own obL_length h.own rfl
  exact ⟨a, c, hv, rfl, h3, h1, h2, h.each⟩
set_option maxHeartbeats 4000000 in
theorem all_sort (a : Option Addr) (n c : Nat) (s : Int) (w : World) (hs : ¬ (1 ≤ s ∧ s ≤ 3)) :
    Calls Try.prog 18 #[.slice a n c, .int .i64 s] w fun e w' => e = .returned (.tuple #[.slice none 0 0, .int .i64 0]) ∧ Ext w w' := by
  by_cases h1 : s < 1
  · clear hs
    go_enter Try.func18, Try.ntmps18
    go_wp2
    go_ret2
    exact ⟨rfl, Ext.refl _⟩
  · have h3 : 3 < s := by omega
    clear hs
    go_enter Try.func18, Try.ntmps18
    go_wp2
    go_ret2
    exact ⟨rfl, Ext.refl _⟩
set_option maxHeartbeats 8000000 in
theorem all_wrong (O : ObjC) (a : Option Addr) (n c : Nat) (L : List Ob) (s : Int) (w : World) (hL : ObjsAt w a n c L) (fL : ObjF L) (hr : rightO L = false) (s1 : 1 ≤ s) (s3 : s ≤ 3) :
    Calls Try.prog 18 #[.slice a n c, .int .i64 s] w fun e w' => e = .returned (.tuple #[.slice none 0 0, .int .i64 0]) ∧ Ext w w' := by
  have g1 : ¬ s < 1 := by omega
  have g3 : ¬ 3 < s := by omega
  have us : IntKind.u8.wrap s = s := by rw [IntKind.wrap_u8]; omega
  obtain ⟨G, hG⟩ : ∃ G, G = w.heap.size := ⟨_, rfl⟩
  obtain ⟨W1, hW1, x1, HG⟩ : ∃ W1, W1 = w.alloc (.cells #[.int .i64 0, .int .i64 0, .bool true, .int .i64 0, .slice none 0 0] 24) ∧ Ext w W1 ∧ Hid (W1.heap[G]? = some (.cells #[.int .i64 0, .int .i64 0, .bool true, .int .i64 0, .slice none 0 0] 24 (0, 0))) := ⟨_, rfl, Ext.alloc _ _, Lib.hid (by rw [hG]; exact heap_alloc_new _ _)⟩
  have HX := Lib.hid x1
  have y2 := Ext.alloc W1 (.cells #[.int .u8 14, .int .u8 s, .int .u8 0] 5)
  have KA := Lib.hid (answer_f O a (some ⟨W1.heap.size, 0, none⟩) n c 3 3 L (ofL [14, s, 0]) (W1.alloc (.cells #[.int .u8 14, .int .u8 s, .int .u8 0] 5)) (hL.ext (x1.trans y2)) fL (Holds.lit W1 [14, s, 0] 5 _ rfl 3 rfl) (byte3 ⟨by decide, by omega, by decide⟩))
  have HE : Hid (ansE L 3 (ofL [14, s, 0]) = 11) := Lib.hid (by unfold ansE; rw [if_pos hr])
  unfold AnsF at KA
  rw [HE.out] at KA
  have HY := Lib.hid (x1.trans y2)
  have c2 := cell_of_heap (j := 2) HG.out rfl
  have c3 := cell_of_heap (j := 3) HG.out rfl
  clear hL fL hr x1 y2
  go_enter Try.func18, Try.ntmps18
  go_upto_region 5 with fail
  rw [← hW1, ← hG]
  clear hW1 hG
  go_wp2_with fail
  go_loopw [6, 8] (fun ov nv wr => wr = W1) (fun _ _ _ => 0)
  case atStart => rfl
  case round =>
    rw [hrel]
    clear hrel
    go_wp2_with fail
    refine KA.out.mono ?_; rintro e w4 ⟨x, q, rfl, -, -, -, -, x4⟩
    have HX4 := Lib.hid x4
    clear x4
    go_wp2
    go_ret2
    exact ⟨rfl, HY.out.trans HX4.out⟩
set_option maxHeartbeats 16000000 in
theorem all_right (O : ObjC) (a : Option Addr) (n c : Nat) (L : List Ob) (s : Int) (w : World) (hL : ObjsAt w a n c L) (fL : ObjF L) (hr : rightO L = true) (s1 : 1 ≤ s) (s3 : s ≤ 3) :
    Calls Try.prog 18 #[.slice a n c, .int .i64 s] w fun e w' => ∃ b m q M, e = .returned (.tuple #[.slice b m q, .int .i64 (strN L.length (ofO s L) : Nat)]) ∧ ObjsAt w' b m q M ∧ sameO M (ofO s L) = true ∧ Ext w w' := by
  obtain ⟨io, hio, ho0, ho1, ho2⟩ := info_parts Try.infoOb
  obtain ⟨F, hF⟩ : ∃ F, ofO s L = F := ⟨_, rfl⟩
  obtain ⟨N, hN⟩ : ∃ N, strN L.length F = N := ⟨_, rfl⟩
  rw [hF, hN]
  have hFlen : F.length ≤ L.length := by rw [← hF]; exact ofO_len _ _
  have HF := Lib.hid (And.intro hF (And.intro hN (And.intro hFlen (And.intro (of_ris hr s) (of_zero hr s1 s3)))))
  have HL := Lib.hid (And.intro hL fL)
  have HRR := Lib.hid (And.intro hr (And.intro s1 s3))
  have HO := Lib.hid O
  have HFs : Hid (∀ z ∈ F, z ∈ L) := Lib.hid (fun z hz => by rw [← hF] at hz; exact (List.mem_filter.1 hz).1)
  have hn : n ≤ 100000 := by rw [← hL.len]; exact fL.n
  have HLen := Lib.hid hL.len
  have g1 : ¬ s < 1 := by omega
  have g3 : ¬ 3 < s := by omega
  have us : IntKind.u8.wrap s = s := by rw [IntKind.wrap_u8]; omega
  obtain ⟨G, hG⟩ : ∃ G, G = w.heap.size := ⟨_, rfl⟩
  obtain ⟨B, hB⟩ : ∃ B, B = G + 1 := ⟨_, rfl⟩
  obtain ⟨W1, hW1, x1, HG, HW1⟩ : ∃ W1, W1 = w.alloc (.cells #[.int .i64 0, .int .i64 0, .bool true, .int .i64 0, .slice none 0 0] 24) ∧ Ext w W1 ∧ Hid (W1.heap[G]? = some (.cells #[.int .i64 0, .int .i64 0, .bool true, .int .i64 0, .slice none 0 0] 24 (0, 0))) ∧ Hid (W1.heap.size = B) := ⟨_, rfl, Ext.alloc _ _, Lib.hid (by rw [hG]; exact heap_alloc_new _ _), Lib.hid (by rw [hB, hG]; simp)⟩
  have HX1 := Lib.hid x1
  have HGB := Lib.hid (And.intro hG hB)
  clear hF hN hFlen hL fL hr x1 O
  go_enter Try.func18, Try.ntmps18
  go_upto_region 5 with fail
  rw [← hW1, ← hG]
  clear hW1 hG hB
  go_wp2_with fail
  go_loopw [6, 8] (fun ov nv wr => ∃ (j many kk : Nat) (M : List Ob) (P : Prt) (pb : Option Addr) (pm pr : Nat), nv = .int .i64 many ∧ OutI wr B ov M ∧ (∀ z ∈ M, z.n ≠ 0 → ∀ p, z.a = some p → B ≤ p.block) ∧ wr.heap[G]? = some (.cells (prC P pb pm pr) 24 (0, 0)) ∧ sameO M (F.take j) = true ∧ many ≤ j ∧ many ≤ F.length ∧
    ((P.mo = true ∧ (∃ z, F[j]? = some z ∧ P.nx = z.id) ∧ N = many + strN kk (F.drop j) ∧ F.length - j ≤ kk) ∨ (P.mo = false ∧ N = many ∧ sameO M F = true)) ∧ Ext w wr) (fun _ nv _ => n + 1 - (intOf nv).toNat)
  case atStart =>
    obtain ⟨x, M, hx, hx0⟩ := HF.out.2.2.2.2
    rw [HF.out.1] at hx
    exact ⟨0, 0, L.length, [], ⟨0, 0, true, 0, []⟩, none, 0, 0, rfl, ⟨World.ownsRow_nil _ _ _ _, (fun z hz => by cases hz), (fun z hz => by cases hz)⟩, (fun z hz => by cases hz), HG.out, rfl, Nat.le_refl _, Nat.zero_le _, .inl ⟨rfl, ⟨x, by rw [hx]; rfl, hx0.symm⟩, by rw [← HF.out.2.1]; simp, by have := HF.out.2.2.1; omega⟩, HX1.out⟩
  case round =>
    obtain ⟨j, many, kk, M, P, pb, pm, pr, rfl, hO, hOb, hG, hM, hmj, hmF, hcase, xr⟩ := hrel
    have HOO := Lib.hid (And.intro hO hOb)
    have HXr := Lib.hid xr
    have HGr := Lib.hid hG
    have hjn : F.length ≤ n := by rw [← HLen.out]; exact HF.out.2.2.1
    rcases hcase with ⟨hmo, ⟨z, hz, hnx⟩, hN, hkk⟩ | ⟨hmo, hN, hall⟩
    · have hjF : j < F.length := by
        rcases Nat.lt_or_ge j F.length with hl | hl
        · exact hl
        · rw [List.getElem?_eq_none hl] at hz; cases hz
      have hzL := HFs.out z (List.mem_of_getElem? hz)
      have hzd := okD_iff.1 (right_okD HRR.out.1 z hzL)
      have hz' : (ofO s L)[j]? = some z := by rw [HF.out.1]; exact hz
      obtain ⟨hE, hP⟩ := str_part HRR.out.1 HRR.out.2.1 HRR.out.2.2 hz'
      rw [HF.out.1] at hP
      obtain ⟨f, hf⟩ : ∃ f, fitF 6 (F.drop j) = f := ⟨_, rfl⟩
      have hd0 : (F.drop j)[0]? = some z := by rw [List.getElem?_drop, Nat.add_zero]; exact hz
      have hf1 : 1 ≤ f := by rw [← hf]; exact fit_pos hd0 hzd.2.2
      have hfl : f ≤ F.length - j := by rw [← hf]; have := fitF_le 6 (F.drop j); rw [List.length_drop] at this; exact this
      have KA := answer_f HO.out a (some ⟨wr.heap.size, 0, none⟩) n c 3 3 L (ofL [14, s, z.id]) (wr.alloc (.cells #[.int .u8 14, .int .u8 s, .int .u8 z.id] 5)) (HL.out.1.ext (HXr.out.trans (Ext.alloc _ _))) HL.out.2 (Holds.lit wr [14, s, z.id] 5 _ rfl 3 rfl) (byte3 ⟨by decide, by omega, by omega⟩)
      unfold AnsF at KA
      rw [hE] at KA
      have hrp := ansP_right HRR.out.1 HRR.out.2.1 (by have := HRR.out.2.2; omega) hE
      have hak : ansK L 3 (ofL [14, s, z.id]) = 6 + lenO (ansP L (ofL [14, s, z.id])).L := by unfold ansK; rw [hE]; rfl
      have hbd := say_bd hrp.1 (fun y hy => (HL.out.1.each y (hrp.2 y hy)).b)
      rw [← hak] at hbd
      have hmo2 : (ansP L (ofL [14, s, z.id])).mo = decide (f < F.length - j) := by rw [hP]; show decide (fitF 6 (F.drop j) < (F.drop j).length) = _; rw [hf, List.length_drop]
      have hnx2 : f < F.length - j → ∃ y, F[j + f]? = some y ∧ (ansP L (ofL [14, s, z.id])).nx = y.id := fun hlt => by
        have e := List.getElem?_eq_getElem (l := F) (i := j + f) (by omega)
        refine ⟨_, e, ?_⟩
        rw [hP]
        show (if fitF 6 (F.drop j) < (F.drop j).length then ((F.drop j)[fitF 6 (F.drop j)]?.getD zeroOb).id else 0) = _
        rw [hf, if_pos (by rw [List.length_drop]; exact hlt), List.getElem?_drop, e]; rfl
      have hLL : (ansP L (ofL [14, s, z.id])).L = (F.drop j).take f := by rw [hP]; show (F.drop j).take (fitF 6 (F.drop j)) = _; rw [hf]
      obtain ⟨Q, hQ, hQP⟩ := read_say hrp.1
      generalize ansK L 3 (ofL [14, s, z.id]) = k at KA hak hbd
      generalize ansP L (ofL [14, s, z.id]) = AP at KA hak hbd hmo2 hnx2 hLL hQ hQP
      have HKA := Lib.hid KA
      have HKR := Lib.hid (fun x q W (hx : Holds .u8 W x k (ofL (sayP AP))) l1 l2 => read_f x k q (ofL (sayP AP)) W hx l1 l2 hbd)
      have HQ := Lib.hid (And.intro hQ hQP)
      have HS := Lib.hid (And.intro hak (And.intro hmo2 (And.intro hnx2 hLL)))
      have HJ := Lib.hid (And.intro hM (And.intro hmj (And.intro hN (And.intro hkk (And.intro hjF (And.intro hf1 (And.intro hfl (And.intro hjn hmF))))))))
      have HFt := Lib.hid hf
      have uz : IntKind.u8.wrap z.id = z.id := by rw [IntKind.wrap_u8]; omega
      have c2 : wr.cell? ⟨G, 2, none⟩ = some (.bool true) := by rw [← hmo]; exact cell_of_heap hG rfl
      have c3 : wr.cell? ⟨G, 3, none⟩ = some (.int .i64 z.id) := by rw [← hnx]; exact cell_of_heap hG rfl
      obtain ⟨ZI, hZI⟩ : ∃ ZI, z.id = ZI := ⟨_, rfl⟩
      rw [hZI] at c3 uz HKA
      clear hO hOb hG hM hmj hmF hN hkk xr hjF hzL hzd hjn hz hz' hE hP hf hd0 hf1 hfl KA hrp hak hbd hmo2 hnx2 hLL hQ hQP hmo hnx hZI
      go_wp2_with fail
      refine HKA.out.mono ?_; rintro e w4 ⟨x, q, rfl, h4, l4, m4, f4, x4⟩
      have y4 := (Ext.alloc wr (.cells #[.int .u8 14, .int .u8 s, .int .u8 ZI] 5)).trans x4
      have KRd := HKR.out x q w4 h4 l4 m4
      unfold ReaF at KRd
      rw [map_ofL (by rw [sayP_len]; exact HS.out.1.symm), HQ.out.1] at KRd
      have HKd := Lib.hid KRd
      have HF4 : Hid (Fresh wr x) := Lib.hid (fun p hp => Nat.le_trans (Ext.alloc wr _).size (f4 p hp))
      clear KRd h4 l4 m4 f4 x4 c2 c3
      go_wp2_with fail
      refine HKd.out.mono ?_; rintro e w5 ⟨P', pb', pm', pr', rfl, hPa, fP, sP, fb, fz, x5⟩
      have y5 := y4.trans x5
      have g5 := y5.block HGr.out
      obtain ⟨W6, hW6⟩ : ∃ W6, W6 = w5.setRow G (prC P' pb' pm' pr') := ⟨_, rfl⟩
      have k6 : Keep (fun i => i = G) w5 W6 := by rw [hW6]; exact keep_setRow _ _ _
      have g6 : W6.heap[G]? = some (.cells (prC P' pb' pm' pr') 24 (0, 0)) := by rw [hW6]; exact setRow_heap _ _ _ _ _ _ g5
      have hGw : G < wr.heap.size := heap_lt HGr.out
      have hx6 : Ext w W6 := (HXr.out.trans y5).keep k6 (fun i hi => by have hi : i = G := hi; rw [hi, HGB.out.1]; exact Nat.le_refl _)
      have hfr : ∀ z ∈ P'.L, z.n ≠ 0 → ∀ p, z.a = some p → wr.heap.size ≤ p.block := fun z hz hn p hp => by
        rcases fz z hz hn with h | h
        · have := h p hp; have := y4.size; omega
        · obtain ⟨q', hq', he⟩ := h p hp
          have := HF4.out q' hq'
          omega
      have hPo : ObjsAt W6 pb' pm' pr' P'.L := hPa.o.keepO k6 ⟨fun _ p hp => by have := fb p hp; have := y4.size; omega, fun z hz hn p hp => by have := hfr z hz hn p hp; omega⟩
      have hO6 : OutI W6 B u6 M := (HOO.out.1.later y5).keepG k6 (by rw [HGB.out.2]; omega) HOO.out.2
      have sPA := sameP_trans sP HQ.out.2
      obtain ⟨-, -, d3, d4, d5⟩ := sameP_iff.1 sPA
      have hpm : pm' = f := by
        have h1 := sameO_len d5
        rw [HS.out.2.2.2, List.length_take, List.length_drop, hPa.o.len] at h1
        have := HJ.out.2.2.2.2.2.2.1
        omega
      have HO6 := Lib.hid hO6
      have HPo := Lib.hid hPo
      have HX6 := Lib.hid hx6
      have HDD := Lib.hid (And.intro d3 (And.intro d4 (And.intro d5 (And.intro hfr fP))))
      have HPm := Lib.hid hpm
      have HWs := Lib.hid (And.intro hGw (And.intro y5.size k6.size))
      have c4 := cell_of_heap (j := 4) g6 rfl
      have HG6 := Lib.hid g6
      clear hPa fP sP fb fz x5 y4 y5 k6 g6 hGw hx6 hfr hPo hO6 sPA d3 d4 d5 hpm
      go_upto_region 11 with (refine wpList_store_row rfl 24 (.tmp 7) (.tmp 36) rfl G (prC P' pb' pm' pr') rfl rfl 24 _ g5 (by kernel_rfl) rfl (by simp [prC, Value.oneCell']) ?_)
      rw [← hW6]
      clear hW6 g5
      have hbw : B ≤ W6.heap.size := by have := HWs.out; rw [HGB.out.2]; omega
      have hpl : 0 < pm' := by have := HJ.out.2.2.2.2.2.1; rw [HPm.out]; omega
      have hml : M.length ≤ 100000 := by have := sameO_len HJ.out.1; rw [this, List.length_take]; have := HJ.out.2.2.2.2.2.2.2.1; omega
      have hpl2 : pm' ≤ 100000 := by rw [HPm.out]; have := HJ.out.2.2.2.2.2.2; omega
      go_upto_region 12 with (at_builtin; refine wpList_append_listK rfl _ _ 22 rfl B 49 io (.agg #[.int .i64 0, .slice none 0 0]) 32 Try.underlying22 hio ho0 ho1 ho2 rfl (by decide) obL_length (fun y u hu => by simp only [obL, List.mem_cons, List.not_mem_nil, or_false] at hu; rcases hu with rfl | rfl <;> rfl) u6 M.length M (by rfl) HO6.out.own pb' pr' P'.L pm' HPo.out.len (by rfl) HPo.out.h hpl (by unfold maxLen; omega) (by omega) hbw ?_; intro g8 cap w8 hown8 hgr8 hg8)
      have hx8 : Ext w w8 := Below.grown HX6.out hgr8 HX6.out.size (fun q hq => by have := (HO6.out.own.lt q hq).1; have := HGB.out; omega)
      have hltu : ∀ q, u6.ownBlock = some q → q < wr.heap.size ∧ B ≤ q := fun q hq => ⟨(HOO.out.1.own.lt q hq).2, (HOO.out.1.own.lt q hq).1⟩
      have hG8 : w8.heap[G]? = some (.cells (prC P' pb' pm' pr') 24 (0, 0)) := (hgr8.block G (heap_lt HG6.out) (fun e => by have := (hltu G e.symm).2; have := HGB.out.2; omega)).trans HG6.out
      have hlen := HPo.out.len
      rw [← hlen] at hown8
      have hO8 := OutI.push HO6.out (N := P'.L) HPo.out.each (fun y hy hn p hp e => by
        have h1 := (hltu _ e).1
        have h2 := HDD.out.2.2.2.1 y hy hn p hp
        omega) hown8 hgr8 hg8
      rw [hlen] at hO8
      have hOb8 : ∀ z ∈ M ++ P'.L, z.n ≠ 0 → ∀ p, z.a = some p → B ≤ p.block := fun z hz hn p hp => by
        rcases List.mem_append.1 hz with hz | hz
        · exact HOO.out.2 z hz hn p hp
        · have := HDD.out.2.2.2.1 z hz hn p hp; have := HWs.out; have := HGB.out.2; omega
      have hMP : sameO (M ++ P'.L) (F.take (j + f)) = true := by
        have e : F.take (j + f) = F.take j ++ (F.drop j).take f := List.take_add
        rw [e]
        refine sameO_append HJ.out.1 ?_
        have := HDD.out.2.2.1
        rw [HS.out.2.2.2] at this; exact this
      have em : IntKind.i64.wrap ((many : Int) + 1) = many + 1 := IntWalk.i64_in _ (by have := HJ.out; omega)
      obtain ⟨v8, hv8⟩ : ∃ v8, Value.slice (some ⟨g8, 0, none⟩) (M.length + pm') cap = v8 := ⟨_, rfl⟩
      rw [hv8] at hO8 ⊢
      have HNX : Hid (∃ (j' many' kk' : Nat) (M' : List Ob) (P : Prt) (pb : Option Addr) (pm pr : Nat), Value.int .i64 ((many : Int) + 1) = .int .i64 many' ∧ OutI w8 B v8 M' ∧ (∀ z ∈ M', z.n ≠ 0 → ∀ p, z.a = some p → B ≤ p.block) ∧ w8.heap[G]? = some (.cells (prC P pb pm pr) 24 (0, 0)) ∧ sameO M' (F.take j') = true ∧ many' ≤ j' ∧ many' ≤ F.length ∧
          ((P.mo = true ∧ (∃ z, F[j']? = some z ∧ P.nx = z.id) ∧ N = many' + strN kk' (F.drop j') ∧ F.length - j' ≤ kk') ∨ (P.mo = false ∧ N = many' ∧ sameO M' F = true)) ∧ Ext w w8) := Lib.hid (by
        obtain ⟨k', hk'⟩ : ∃ k', kk = k' + 1 := ⟨kk - 1, by have := HJ.out; omega⟩
        refine ⟨j + f, many + 1, k', M ++ P'.L, P', pb', pm', pr', by simp, hO8, hOb8, hG8, hMP, by have := HJ.out; omega, by have := HJ.out; omega, ?_, hx8⟩
        have hNN := HJ.out.2.2.1
        rw [hk'] at hNN
        by_cases hlt : f < F.length - j
        · obtain ⟨y, hy, hyn⟩ := HS.out.2.2.1 hlt
          refine .inl ⟨by rw [HDD.out.1, HS.out.2.1]; exact decide_eq_true hlt, ⟨y, hy, by rw [HDD.out.2.1, hyn]⟩, ?_, by have := HJ.out; omega⟩
          rw [hNN]
          show many + (1 + (if fitF 6 (F.drop j) < (F.drop j).length then strN k' ((F.drop j).drop (fitF 6 (F.drop j))) else 0)) = _
          rw [HFt.out, if_pos (by rw [List.length_drop]; exact hlt), List.drop_drop]; omega
        · refine .inr ⟨by rw [HDD.out.1, HS.out.2.1]; exact decide_eq_false hlt, ?_, ?_⟩
          · rw [hNN]
            show many + (1 + (if fitF 6 (F.drop j) < (F.drop j).length then strN k' ((F.drop j).drop (fitF 6 (F.drop j))) else 0)) = _
            rw [HFt.out, if_neg (by rw [List.length_drop]; exact hlt)]
          · have hjf : F.take (j + f) = F := List.take_of_length_le (by have := HJ.out; omega)
            rw [← hjf]; exact hMP)
      have HMS : Hid (n + 1 - (many + 1) < n + 1 - many) := Lib.hid (by have := HJ.out; omega)
      clear hx8 hltu hG8 hlen hown8 hO8 hOb8 hMP hv8 hgr8 hg8 hbw hpl hml hpl2 c4
      go_wp2
      go_roundw
      case rel => exact HNX.out
      case measure => simp [intOf]; have := HMS.out; omega
    · have c2 : wr.cell? ⟨G, 2, none⟩ = some (.bool false) := by rw [← hmo]; exact cell_of_heap hG rfl
      obtain ⟨av, cv, hv, hA⟩ := hO.at_
      subst hv
      have HFin := Lib.hid (And.intro hN (And.intro hA (And.intro hall xr)))
      clear hO hOb hG hM hmj hmF hN hall xr hjn hA hmo
      go_wp2
      go_ret2
      exact ⟨av, M.length, cv, M, by rw [HFin.out.1]; rfl, HFin.out.2.1, HFin.out.2.2.1, HFin.out.2.2.2⟩
theorem all_f (O : ObjC) (a : Option Addr) (n c : Nat) (L : List Ob) (s : Int) (w : World) (hL : ObjsAt w a n c L) (fL : ObjF L) :
    Calls Try.prog 18 #[.slice a n c, .int .i64 s] w fun e w' => ∃ b m q M, e = .returned (.tuple #[.slice b m q, .int .i64 (allN L s)]) ∧ ObjsAt w' b m q M ∧ sameO M (allL L s) = true ∧ Ext w w' := by
  by_cases hs : 1 ≤ s ∧ s ≤ 3
  · cases hr : rightO L with
    | true =>
      have e1 : allL L s = ofO s L := by unfold allL; rw [if_pos ⟨hr, hs⟩]
      have e2 : allN L s = strN L.length (ofO s L) := by unfold allN; rw [if_pos ⟨hr, hs⟩]
      rw [e1, e2]
      exact all_right O a n c L s w hL fL hr hs.1 hs.2
    | false =>
      have e1 : allL L s = [] := by unfold allL; rw [if_neg (fun h => by rw [h.1] at hr; cases hr)]
      have e2 : allN L s = 0 := by unfold allN; rw [if_neg (fun h => by rw [h.1] at hr; cases hr)]
      rw [e1, e2]
      exact (all_wrong O a n c L s w hL fL hr hs.1 hs.2).mono fun e w' h => ⟨none, 0, 0, [], h.1, ObjsAt.nil _, rfl, h.2⟩
  · have e1 : allL L s = [] := by unfold allL; rw [if_neg (fun h => hs h.2)]
    have e2 : allN L s = 0 := by unfold allN; rw [if_neg (fun h => hs h.2)]
    rw [e1, e2]
    exact (all_sort a n c s w hs).mono fun e w' h => ⟨none, 0, 0, [], h.1, ObjsAt.nil _, rfl, h.2⟩
theorem ideC : IdeC where
  write := fun P a n c w h f => (write_f P a n c w h f).mono fun e w' ⟨b, q, h1, h2, h3, h4, _, h5⟩ => ⟨b, q, h1, h2, h3, h4, h5⟩
  readF := fun a n c f w h hn hnc hcm hf => read_f a n c f w h hnc hcm hf
  answerF := fun a b n c m d L f w hL fL h hm hmd hdm hf => answer_f objC a b n c m d L f w hL fL h hf
  all := fun a n c L s w hL fL hs => all_f objC a n c L s w hL fL
end Go.Proofs.Ythdkhdbabohohaa
