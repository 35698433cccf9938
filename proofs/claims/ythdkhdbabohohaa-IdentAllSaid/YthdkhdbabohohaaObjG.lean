/-
  CONTRACTS: package object (layer 20): Of, From; 'objC : ObjC': package object whole.
-/
import Derived.Test.YthdkhdbabohohaaObjF
namespace Go.Proofs.Ythdkhdbabohohaa
open Go.RowKit
set_option linter.unusedVariables false
set_option maxRecDepth 100000
attribute [local go_sem] Oper.semAt_some

theorem own_sameO {w w' : World} {base : Nat} {e : TypeId} {size : Nat} {v : Value} {n : Nat} {xs : List Value} (h : w.ownsRow base e size v n xs) (hk : ∀ g, v.ownBlock = some g → w'.heap[g]? = w.heap[g]?) : w'.ownsRow base e size v n xs := by
  refine ⟨h.1, ?_⟩
  rcases h.2 with h | ⟨g, cap, cur, hv, hg, hh, r⟩
  · exact .inl h
  · subst hv
    exact .inr ⟨g, cap, cur, rfl, hg, (hk g rfl).trans hh, r⟩
/-- What is held between the rounds: the objects so far, in their box G. -/
structure OfM (w wr : World) (B G : Nat) (v : Value) (M : List Ob) : Prop where
  own : wr.ownsRow B 49 2 v M.length (M.flatMap obL)
  box : wr.heap[G]? = some (.cells #[v] 22 (0, 0))
  each : ∀ x ∈ M, ObjAt wr x ∧ (x.n ≠ 0 → ∀ p, x.a = some p → B ≤ p.block ∧ v.ownBlock ≠ some p.block)
  keep : Keep (· = G) w wr
  base : B = w.heap.size
  bs : G < B
section
variable {w wr w' : World} {B G : Nat} {v : Value} {M : List Ob}
theorem OfM.later (h : OfM w wr B G v M) (x : Ext wr w') : OfM w w' B G v M :=
  ⟨own_ext h.own x, x.block h.box, fun y hy => ⟨(h.each y hy).1.ext x, (h.each y hy).2⟩, h.keep.trans_ext x, h.base, h.bs⟩
theorem OfM.others (h : OfM w wr B G v M) {b : Nat} {o : Obj} (ho : wr.heap[b]? = some o) (hc : o.isCells = false) : v.ownBlock ≠ some b := fun e => by
  rcases h.own.2 with ⟨hv, _⟩ | ⟨g', cap, cur, hv, _, hgb, _⟩
  · rw [hv] at e; simp [Value.ownBlock] at e
  · rw [hv] at e
    have e2 : g' = b := by simpa [Value.ownBlock] using e
    rw [e2, ho] at hgb; cases hgb; cases hc
theorem OfM.turn (h : OfM w wr B G v M) {l : Nat} {o : Obj} (o' : Obj) (hl : w.heap.size ≤ l) (ho : wr.heap[l]? = some o) (hc : o.isCells = false) : OfM w (wr.putObj l o') B G v M :=
  ⟨own_sameO h.own fun g hg => World.putObj_heap_other fun e => h.others ho hc (e ▸ hg), row_turn o' h.box ho hc, fun y hy => ⟨(h.each y hy).1.turn o' ho hc, (h.each y hy).2⟩, keep_turn o' h.keep hl, h.base, h.bs⟩
theorem OfM.emit {w5 : World} {g cap : Nat} {y : Ob} {W0 : World} (h0 : OfM w W0 B G v M) (h : OfM w wr B G v M) (hy : ObjAt wr y) (hf : Fresh W0 y.a) (hsz : W0.heap.size ≤ wr.heap.size)
    (hown : w5.ownsRow B 49 2 (.slice (some ⟨g, 0, none⟩) (M.length + 1) cap) (M.length + 1) (M.flatMap obL ++ obL y)) (hgr : wr.grownBy w5 v.ownBlock) (hg : v.ownBlock = some g ∨ g = wr.heap.size) :
    OfM w (w5.setCell ⟨G, 0, none⟩ (.slice (some ⟨g, 0, none⟩) (M.length + 1) cap)) B G (.slice (some ⟨g, 0, none⟩) (M.length + 1) cap) (M ++ [y]) ∧
      (∀ (b : Nat) (o : Obj), wr.heap[b]? = some o → o.isCells = false → (w5.setCell ⟨G, 0, none⟩ (.slice (some ⟨g, 0, none⟩) (M.length + 1) cap)).heap[b]? = some o) := by
  have hG : G < wr.heap.size := heap_lt h.box
  have hgB : B ≤ g := (hown.lt g rfl).1
  have hGo : v.ownBlock ≠ some G := fun e => by have := (h.own.lt _ e).1; have := h.bs; omega
  have hgr' : ∀ q, q < wr.heap.size → v.ownBlock ≠ some q → w5.heap[q]? = wr.heap[q]? := fun q hq hne => hgr.block q hq (fun e => hne e.symm)
  have hset : ∀ q, q ≠ G → (w5.setCell ⟨G, 0, none⟩ (.slice (some ⟨g, 0, none⟩) (M.length + 1) cap)).heap[q]? = w5.heap[q]? := fun q hq => heap_setCell_other _ _ _ _ (by simpa using hq)
  have hbs := h.bs
  have one : ∀ z : Ob, ObjAt wr z → (z.n ≠ 0 → ∀ p, z.a = some p → B ≤ p.block ∧ v.ownBlock ≠ some p.block) →
      ObjAt (w5.setCell ⟨G, 0, none⟩ (.slice (some ⟨g, 0, none⟩) (M.length + 1) cap)) z ∧ (z.n ≠ 0 → ∀ p, z.a = some p → B ≤ p.block ∧ (Value.slice (some ⟨g, 0, none⟩) (M.length + 1) cap).ownBlock ≠ some p.block) := by
    intro z hz hp
    have hlt : z.n ≠ 0 → ∀ p, z.a = some p → p.block < wr.heap.size := fun hn p hp' => by
      rcases hz.h with e | ⟨b, off, ha, hb, _⟩
      · exact absurd e hn
      · rw [ha] at hp'; cases hp'; exact hb
    refine ⟨⟨Holds.blocksO hz.h fun q o hq hn hl => ?_, hz.l, hz.m, hz.s, hz.b, hz.wi⟩, fun hn p hp' => ⟨(hp hn p hp').1, fun e => ?_⟩⟩
    · have h1 := hp hn _ hq
      exact (hset q (by have := h1.1; simp at this; omega)).trans (hgr' q hl h1.2)
    · have e' : g = p.block := by simpa [Value.ownBlock] using e
      have h1 := hp hn p hp'
      have h2 := hlt hn p hp'
      rcases hg with hg | hg
      · exact h1.2 (by rw [hg, e'])
      · omega
  refine ⟨⟨?_, ?_, ?_, ?_, h.base, h.bs⟩, fun b o ho hc => ?_⟩
  · rw [List.length_append, List.flatMap_append]
    have e1 : [y].flatMap obL = obL y := by simp
    rw [e1]
    exact own_sameO hown fun g' hg' => hset g' (by have e' : g = g' := by simpa [Value.ownBlock] using hg'
                                                   omega)
  · exact heap_setCell_same _ _ _ _ _ _ ((hgr' G hG hGo).trans h.box)
  · intro z hz
    rcases List.mem_append.1 hz with hz | hz
    · exact one z (h.each z hz).1 (h.each z hz).2
    · rw [List.mem_singleton.1 hz]
      refine one y hy fun hn p hp => ⟨?_, fun e => ?_⟩
      · have := hf p hp; have := h0.keep.size; have := h.base; omega
      · have := hf p hp; have := (h0.own.lt _ e).2; omega
  · refine (h.keep.trans (G := fun q => v.ownBlock = some q) ⟨hgr.os, hgr.tape, hgr.output, hgr.size, fun q hq hn => hgr' q hq hn⟩ ?_).trans (keepCellM w5 G 0 _) (fun i hi => .inl hi)
    intro i hi
    have := (h.own.lt _ hi).1
    have := h.base
    exact .inr (by omega)
  · have hne : b ≠ G := fun e => by subst e; rw [h.box] at ho; cases ho; cases hc
    exact (hset b hne).trans ((hgr' b (heap_lt ho) (h.others ho hc)).trans ho)
/-- The list told. -/
theorem OfM.done (h : OfM w wr B G v M) : ∃ a c, v = .slice a M.length c ∧ ObjsAt wr a M.length c M := by
  obtain ⟨a, cap, hv, h1, h2, hh, h3⟩ := HoldsL.of_own obL_length h.own rfl
  exact ⟨a, cap, hv, rfl, hh, h1, h2, fun z hz => (h.each z hz).1⟩
end
theorem of_fin {w3 W3 w5 w6 : World} {G g cap k : Nat} {v : Value} {M F : List Ob} {x y : Ob} (h0 : OfM w3 W3 w3.heap.size G v M) (h : OfM w3 w5 w3.heap.size G v M) (hy : ObjAt w5 y) (hf : Fresh W3.drew y.a)
    (hown : w6.ownsRow w3.heap.size 49 2 (.slice (some ⟨g, 0, none⟩) (M.length + 1) cap) (M.length + 1) (M.flatMap obL ++ obL y)) (hgr : (w5.alloc (.cells #[.int .i64 y.id, .slice y.a y.n y.c] 49)).grownBy w6 v.ownBlock)
    (hg : v.ownBlock = some g ∨ g = (w5.alloc (.cells #[.int .i64 y.id, .slice y.a y.n y.c] 49)).heap.size) (hs : sameZ y x = true) (hk : M.length = k) (hM : sameO M (F.take k) = true) (hx : F[k]? = some x) (x5 : Ext W3 w5) :
    (∀ (b : Nat) (o : Obj), w3.heap.size ≤ b → W3.heap[b]? = some o → o.isCells = false → (w6.setCell ⟨G, 0, none⟩ (.slice (some ⟨g, 0, none⟩) (M.length + 1) cap)).heap[b]? = some o) ∧
      ∃ v' M', M'.length = k + 1 ∧ sameO M' (F.take (k + 1)) = true ∧ OfM w3 (w6.setCell ⟨G, 0, none⟩ (.slice (some ⟨g, 0, none⟩) (M.length + 1) cap)) w3.heap.size G v' M' := by
  have xa := Ext.alloc w5 (.cells #[.int .i64 y.id, .slice y.a y.n y.c] 49)
  obtain ⟨e1, e2⟩ := OfM.emit h0 (h.later xa) (hy.ext xa) hf (by have := x5.size; have := xa.size; omega) hown hgr hg
  refine ⟨fun b o _ ho hc => e2 b o ((x5.trans xa).block ho) hc, _, M ++ [y], by simp [hk], ?_, e1⟩
  rw [List.take_add_one, hx]
  exact sameO_append hM (sameO_one hs)
set_option maxHeartbeats 4000000 in
theorem of_any (a : Option Addr) (n c : Nat) (L : List Ob) (s : Int) (w : World) (h : ObjsAt w a n c L) (hF : ObjF L) :
    Calls Try.prog 24 #[.slice a n c, .int .i64 s] w fun e w' => ∃ b m q M, e = .returned (.slice b m q) ∧ ObjsAt w' b m q M ∧ sameO M (ofO s L) = true ∧ Ext w w' := by
  obtain ⟨ii, hii, hz0, hz1, hz2⟩ := info_parts Try.infoOb
  have HH := Lib.hid h
  have hn : n ≤ 100000 := by rw [← h.len]; exact hF.n
  have HN := Lib.hid hn
  have HF := Lib.hid hF
  have HS := Lib.hid (fun W => sort_any s W)
  have HE := Lib.hid (fun v W (x : Ext w W) (t : TakesAt W v (fun z => ofI s z.id)) => each_any a n c L v _ W (h.ext x) t)
  obtain ⟨F, hM⟩ : ∃ F, F = ofO s L := ⟨_, rfl⟩
  rw [← hM]
  have HM := Lib.hid hM
  have HFl : Hid (F.length ≤ 100000) := Lib.hid (by rw [hM]; exact Nat.le_trans (ofO_len _ _) (by rw [h.len]; exact hn))
  clear h hn hF hM
  refine calls_of_marks Try.func24 rfl ?_
  simp only [Try.ntmps24, List.size_toArray, List.length_cons, List.length_nil, Nat.reduceAdd, Nat.reduceSub, Array.replicate_succ, Array.replicate_zero, List.push_toArray, List.append_toArray, List.nil_append, List.cons_append]
  go_wp2_with fail
  refine (HS.out _).mono ?_; rintro e w2 ⟨tv, rfl, ht, htk, x2⟩
  have x02 := (Ext.alloc w (.cells #[.slice none 0 0] 22)).trans x2
  have g5 := x2.block (heap_alloc_new w (.cells #[.slice none 0 0] 22))
  go_wp2_with fail
  refine (HE.out _ _ x02 ht).mono ?_; rintro e w3 ⟨bL, bT, rfl, hI, hT, x3, lL, lT⟩
  replace g5 := x3.block g5
  replace htk := htk.ext x3
  simp only [World.size_alloc] at htk
  have hsz := x2.size
  simp only [World.size_alloc] at hsz
  obtain ⟨G, hG⟩ : ∃ G, G = w.heap.size := ⟨_, rfl⟩
  have hit : ItM w w3 w3 bL bT G a n c tv L (fun z => ofI s z.id) := ⟨x02.trans x3, Keep.refl _ _, by omega, hI, HH.out, (fun W k => htk _ _ (by omega) k), by omega, by omega⟩
  have gl5 := heap_lt g5
  clear hI hT x3 lL lT htk ht x2 x02 hsz
  go_wp2_with fail
  have HGw := Lib.hid hG
  rw [← hG] at g5 gl5 ⊢
  clear hG
  unfold eachV
  refine wp_rangeFunc_ret (gf := 53) (lb := #[.pointer (some ⟨bL, 0, none⟩), .pointer (some ⟨bT, 0, none⟩)]) rfl (Go.Proofs.enters_of Try.func53 (by kernel_rfl) rfl)
    (fun x : Ob => .agg (obC x)) (fun k x W0 W1 => F[k]? = some x) F.length (fun k W => ∃ v M, M.length = k ∧ sameO M (F.take k) = true ∧ OfM w3 W w3.heap.size G v M)
    ?ext ?turn (fun _ => False) (fun _ _ _ _ h _ _ _ => h) ⟨.slice none 0 0, [], rfl, rfl, World.ownsRow_nil _ _ _ _, g5, (fun x hx => by cases hx), Keep.refl _ _, rfl, gl5⟩ ?seq
    (fun k x a' W2 => ∃ q, a' = { tmps := #[.slice a n c, .int .i64 s, undef, undef, .slice none 0 0, .pointer (some ⟨G, 0, none⟩), .pointer (some ⟨q, 0, none⟩), .slice a n c, .int .i64 s, tv, .func (.func 53) #[] #[.pointer (some ⟨bL, 0, none⟩), .pointer (some ⟨bT, 0, none⟩)], .agg (obC x), undef, undef, undef, undef, undef, undef], defers := [] } ∧ W2.heap[q]? = some (.cells (obC x) 49 (0, 0)))
    ?assign ?body ?done ?stop
  case ext => rintro k W W' ⟨v, M, e1, e2, hm⟩ x; exact ⟨v, M, e1, e2, hm.later x⟩
  case turn => rintro k W l o o' ⟨v, M, e1, e2, hm⟩ hl ho hc; exact ⟨v, M, e1, e2, hm.turn o' hl ho hc⟩
  case seq =>
    intro l J Jx W x hJI hJx hY hJ0
    have h1 := each1_any l bL bT a n c L tv (fun z => ofI s z.id) J Jx W (by have := HN.out; omega) (fun k W hJ => by
      obtain ⟨v, M, e1, e2, hm⟩ := hJI k W hJ
      exact ItM.mem ⟨hit.x0, hm.keep, hit.gw, hit.it, hit.ob, hit.tk, hit.nL, hit.nT⟩) hJx
    rw [show L.filter (fun z => ofI s z.id) = F from HM.out.symm] at h1
    exact h1 hY hJ0
  case assign =>
    rintro l k ⟨xi, xa, xn, xc, xf⟩ W0 W1 K hI x01 hX hK
    unfold obC at hK ⊢
    gi_wp2_with fail
    exact hK _ _ (Ext.alloc _ _) ⟨_, rfl, heap_alloc_new _ _⟩
  case body =>
    rintro l o' k x a' W0 W1 W2 ⟨v, M, e1, e2, hm⟩ x01 hX x12 ⟨q, rfl, hq⟩ hwl hlW ⟨r, hlr⟩ hkN
    have hxm : x ∈ L := by have h9 := List.mem_of_getElem? hX; rw [HM.out] at h9; exact (List.mem_filter.1 h9).1
    have hob := HH.out.each x hxm
    have HA := Lib.hid (fun W' (y : Ext w W') => apart_any x W' (hob.ext y) (HF.out.e x hxm))
    have gQ := row_turn o' hq hlr rfl
    have hm3 := (hm.later (x01.trans x12)).turn o' hwl hlr rfl
    obtain ⟨W3, hW3⟩ : ∃ W3, W3 = W2.putObj l o' := ⟨_, rfl⟩
    rw [← hW3] at gQ hm3 ⊢
    have x3 : Ext w W3 := hit.x0.keep hm3.keep (fun i hi => by have hi : i = G := hi; rw [hi, HGw.out]; exact Nat.le_refl _)
    have HM3 := Lib.hid hm3
    have hMl : M.length ≤ 100000 := by have := HFl.out; omega
    have HX := Lib.hid (And.intro e1 (And.intro e2 hX))
    obtain ⟨xi, xa, xn, xc, xf⟩ := x
    rw [show obC ⟨xi, xa, xn, xc, xf⟩ = #[.int .i64 xi, .slice xa xn xc] from rfl] at gQ HA ⊢
    have d0 := cell_of_heap (j := 0) gQ rfl
    have d1 := cell_of_heap (j := 1) gQ rfl
    have c0 := cell_of_heap (j := 0) hm3.box rfl
    have l1 := heap_lt hm3.box; have l3 := heap_lt gQ
    clear hm x01 hX x12 hlr hW3 hlW hxm hob hq hm3 e1 e2
    gi_wp2_with fail
    have HGQ := Lib.hid gQ
    clear gQ
    refine wpIn_region_held_round (S := fun _ => True) (by kernel_rfl) (fun i o hi c => by rcases i with _ | _ | _ | _ | _ | _ | i <;> first | (simp at hi; done) | (cases hi; exact fun h => by cases h)) (fun ⟨_, _, h⟩ => h) trivial (fun hs => ?_)
    -- region 4, by gen20g.py
    refine wpAnyH_ready (rs := [0, 1]) (by kernel_rfl) (by simp) (AllReadyH.cons rfl (fun K hK => ?_) (AllReadyH.cons rfl (fun K hK => ?_) AllReadyH.nil))
    · go_simp
      refine hK.out _ _ trivial (fun hs => ?_)
      clear hK K
      refine wpAnyH_ready (rs := [1]) (by kernel_rfl) (by simp) (AllReadyH.cons rfl (fun K hK => ?_) AllReadyH.nil)
      go_simp
      refine hK.out _ _ trivial (fun hs => ?_)
      clear hK K
      refine wpAnyH_ready (rs := [2]) (by kernel_rfl) (by simp) (AllReadyH.cons rfl (fun K hK => ?_) AllReadyH.nil)
      go_simp
      go_at_call 45
      refine (HA.out _ (ext_drew x3)).mono ?_; rintro e w5 ⟨y, rfl, hy, hsy, -, hfy, x5⟩
      unfold obC
      have g5 := x5.block (show W3.drew.heap[G]? = _ from HM3.out.box)
      have c5 := cell_of_heap (j := 0) g5 rfl
      have l5 := heap_lt g5
      have HL := Lib.hid (HM3.out.later ((ext_drew (Ext.refl W3)).trans x5))
      go_wp2_with fail
      refine hK.out _ _ trivial (fun hs => ?_)
      clear hK K g5
      refine wpAnyH_ready (rs := [3]) (by kernel_rfl) (by simp) (AllReadyH.cons rfl (fun K hK => ?_) AllReadyH.nil)
      go_simp
      refine hK.out _ _ trivial (fun hs => ?_)
      clear hK K
      refine wpAnyH_ready (rs := [4]) (by kernel_rfl) (by simp) (AllReadyH.cons rfl (fun K hK => ?_) AllReadyH.nil)
      refine step_append_lies _ rfl (.tmp 12) (.tmp 15) 22 rfl w3.heap.size 49 ii (.agg #[.int .i64 0, .slice none 0 0]) 2 32 Try.underlying22 hii hz0 hz1 hz2 rfl (by decide) v M.length (M.flatMap obL) rfl (own_ext HL.out.own (Ext.alloc w5 _)) ⟨w5.heap.size, 0, none⟩ 1 1 [.int .i64 y.id, .slice y.a y.n y.c] rfl rfl (World.news_of_block (heap_alloc_new w5 _)) (by simp [Value.oneCell']) (by decide) (by unfold maxLen; omega) (by omega) (by have := HL.out.keep.size; simp; omega) _ rfl ?_
      intro g cap w6 hown hgr hg hlt
      have g6 : w6.heap[G]? = some (.cells #[v] 22 (0, 0)) := (hgr.block G (by have := heap_lt HL.out.box; simp; omega) (fun e => by have := (HL.out.own.lt _ e.symm).1; have := HL.out.bs; omega)).trans ((heap_alloc_old _ _ (heap_lt HL.out.box)).trans HL.out.box)
      have c6 := cell_of_heap (j := 0) g6 rfl
      have f6 := frozen_of_row _ _ 0 _ _ g6
      have l6 := heap_lt g6
      refine hK.out _ _ trivial (fun hs => ?_)
      clear hK K g6
      simp only [Act.put, List.setIfInBounds_toArray]
      refine wpAnyH_ready (rs := [5]) (by kernel_rfl) (by simp) (AllReadyH.cons rfl (fun K hK => ?_) AllReadyH.nil)
      go_simp
      refine hK.out _ _ trivial (fun hs => ?_)
      clear hK K
      refine wpAnyH_done (by kernel_rfl) ?_ _
      exact of_fin HM3.out HL.out hy hfy hown hgr hg hsy HX.out.1 HX.out.2.1 HX.out.2.2 ((ext_drew (Ext.refl W3)).trans x5)
    · go_simp
      refine hK.out _ _ trivial (fun hs => ?_)
      clear hK K
      refine wpAnyH_ready (rs := [0, 2]) (by kernel_rfl) (by simp) (AllReadyH.cons rfl (fun K hK => ?_) (AllReadyH.cons rfl (fun K hK => ?_) AllReadyH.nil))
      · go_simp
        refine hK.out _ _ trivial (fun hs => ?_)
        clear hK K
        refine wpAnyH_ready (rs := [2]) (by kernel_rfl) (by simp) (AllReadyH.cons rfl (fun K hK => ?_) AllReadyH.nil)
        go_simp
        go_at_call 45
        refine (HA.out _ (ext_drew x3)).mono ?_; rintro e w5 ⟨y, rfl, hy, hsy, -, hfy, x5⟩
        unfold obC
        have g5 := x5.block (show W3.drew.heap[G]? = _ from HM3.out.box)
        have c5 := cell_of_heap (j := 0) g5 rfl
        have l5 := heap_lt g5
        have HL := Lib.hid (HM3.out.later ((ext_drew (Ext.refl W3)).trans x5))
        go_wp2_with fail
        refine hK.out _ _ trivial (fun hs => ?_)
        clear hK K g5
        refine wpAnyH_ready (rs := [3]) (by kernel_rfl) (by simp) (AllReadyH.cons rfl (fun K hK => ?_) AllReadyH.nil)
        go_simp
        refine hK.out _ _ trivial (fun hs => ?_)
        clear hK K
        refine wpAnyH_ready (rs := [4]) (by kernel_rfl) (by simp) (AllReadyH.cons rfl (fun K hK => ?_) AllReadyH.nil)
        refine step_append_lies _ rfl (.tmp 12) (.tmp 15) 22 rfl w3.heap.size 49 ii (.agg #[.int .i64 0, .slice none 0 0]) 2 32 Try.underlying22 hii hz0 hz1 hz2 rfl (by decide) v M.length (M.flatMap obL) rfl (own_ext HL.out.own (Ext.alloc w5 _)) ⟨w5.heap.size, 0, none⟩ 1 1 [.int .i64 y.id, .slice y.a y.n y.c] rfl rfl (World.news_of_block (heap_alloc_new w5 _)) (by simp [Value.oneCell']) (by decide) (by unfold maxLen; omega) (by omega) (by have := HL.out.keep.size; simp; omega) _ rfl ?_
        intro g cap w6 hown hgr hg hlt
        have g6 : w6.heap[G]? = some (.cells #[v] 22 (0, 0)) := (hgr.block G (by have := heap_lt HL.out.box; simp; omega) (fun e => by have := (HL.out.own.lt _ e.symm).1; have := HL.out.bs; omega)).trans ((heap_alloc_old _ _ (heap_lt HL.out.box)).trans HL.out.box)
        have c6 := cell_of_heap (j := 0) g6 rfl
        have f6 := frozen_of_row _ _ 0 _ _ g6
        have l6 := heap_lt g6
        refine hK.out _ _ trivial (fun hs => ?_)
        clear hK K g6
        simp only [Act.put, List.setIfInBounds_toArray]
        refine wpAnyH_ready (rs := [5]) (by kernel_rfl) (by simp) (AllReadyH.cons rfl (fun K hK => ?_) AllReadyH.nil)
        go_simp
        refine hK.out _ _ trivial (fun hs => ?_)
        clear hK K
        refine wpAnyH_done (by kernel_rfl) ?_ _
        exact of_fin HM3.out HL.out hy hfy hown hgr hg hsy HX.out.1 HX.out.2.1 HX.out.2.2 ((ext_drew (Ext.refl W3)).trans x5)
      · go_simp
        go_at_call 45
        refine (HA.out _ (ext_drew x3)).mono ?_; rintro e w5 ⟨y, rfl, hy, hsy, -, hfy, x5⟩
        unfold obC
        have g5 := x5.block (show W3.drew.heap[G]? = _ from HM3.out.box)
        have c5 := cell_of_heap (j := 0) g5 rfl
        have l5 := heap_lt g5
        have HL := Lib.hid (HM3.out.later ((ext_drew (Ext.refl W3)).trans x5))
        go_wp2_with fail
        refine hK.out _ _ trivial (fun hs => ?_)
        clear hK K g5
        refine wpAnyH_ready (rs := [0, 3]) (by kernel_rfl) (by simp) (AllReadyH.cons rfl (fun K hK => ?_) (AllReadyH.cons rfl (fun K hK => ?_) AllReadyH.nil))
        · go_simp
          refine hK.out _ _ trivial (fun hs => ?_)
          clear hK K
          refine wpAnyH_ready (rs := [3]) (by kernel_rfl) (by simp) (AllReadyH.cons rfl (fun K hK => ?_) AllReadyH.nil)
          go_simp
          refine hK.out _ _ trivial (fun hs => ?_)
          clear hK K
          refine wpAnyH_ready (rs := [4]) (by kernel_rfl) (by simp) (AllReadyH.cons rfl (fun K hK => ?_) AllReadyH.nil)
          refine step_append_lies _ rfl (.tmp 12) (.tmp 15) 22 rfl w3.heap.size 49 ii (.agg #[.int .i64 0, .slice none 0 0]) 2 32 Try.underlying22 hii hz0 hz1 hz2 rfl (by decide) v M.length (M.flatMap obL) rfl (own_ext HL.out.own (Ext.alloc w5 _)) ⟨w5.heap.size, 0, none⟩ 1 1 [.int .i64 y.id, .slice y.a y.n y.c] rfl rfl (World.news_of_block (heap_alloc_new w5 _)) (by simp [Value.oneCell']) (by decide) (by unfold maxLen; omega) (by omega) (by have := HL.out.keep.size; simp; omega) _ rfl ?_
          intro g cap w6 hown hgr hg hlt
          have g6 : w6.heap[G]? = some (.cells #[v] 22 (0, 0)) := (hgr.block G (by have := heap_lt HL.out.box; simp; omega) (fun e => by have := (HL.out.own.lt _ e.symm).1; have := HL.out.bs; omega)).trans ((heap_alloc_old _ _ (heap_lt HL.out.box)).trans HL.out.box)
          have c6 := cell_of_heap (j := 0) g6 rfl
          have f6 := frozen_of_row _ _ 0 _ _ g6
          have l6 := heap_lt g6
          refine hK.out _ _ trivial (fun hs => ?_)
          clear hK K g6
          simp only [Act.put, List.setIfInBounds_toArray]
          refine wpAnyH_ready (rs := [5]) (by kernel_rfl) (by simp) (AllReadyH.cons rfl (fun K hK => ?_) AllReadyH.nil)
          go_simp
          refine hK.out _ _ trivial (fun hs => ?_)
          clear hK K
          refine wpAnyH_done (by kernel_rfl) ?_ _
          exact of_fin HM3.out HL.out hy hfy hown hgr hg hsy HX.out.1 HX.out.2.1 HX.out.2.2 ((ext_drew (Ext.refl W3)).trans x5)
        · go_simp
          refine hK.out _ _ trivial (fun hs => ?_)
          clear hK K
          refine wpAnyH_ready (rs := [0]) (by kernel_rfl) (by simp) (AllReadyH.cons rfl (fun K hK => ?_) AllReadyH.nil)
          go_simp
          refine hK.out _ _ trivial (fun hs => ?_)
          clear hK K
          refine wpAnyH_ready (rs := [4]) (by kernel_rfl) (by simp) (AllReadyH.cons rfl (fun K hK => ?_) AllReadyH.nil)
          refine step_append_lies _ rfl (.tmp 12) (.tmp 15) 22 rfl w3.heap.size 49 ii (.agg #[.int .i64 0, .slice none 0 0]) 2 32 Try.underlying22 hii hz0 hz1 hz2 rfl (by decide) v M.length (M.flatMap obL) rfl (own_ext HL.out.own (Ext.alloc w5 _)) ⟨w5.heap.size, 0, none⟩ 1 1 [.int .i64 y.id, .slice y.a y.n y.c] rfl rfl (World.news_of_block (heap_alloc_new w5 _)) (by simp [Value.oneCell']) (by decide) (by unfold maxLen; omega) (by omega) (by have := HL.out.keep.size; simp; omega) _ rfl ?_
          intro g cap w6 hown hgr hg hlt
          have g6 : w6.heap[G]? = some (.cells #[v] 22 (0, 0)) := (hgr.block G (by have := heap_lt HL.out.box; simp; omega) (fun e => by have := (HL.out.own.lt _ e.symm).1; have := HL.out.bs; omega)).trans ((heap_alloc_old _ _ (heap_lt HL.out.box)).trans HL.out.box)
          have c6 := cell_of_heap (j := 0) g6 rfl
          have f6 := frozen_of_row _ _ 0 _ _ g6
          have l6 := heap_lt g6
          refine hK.out _ _ trivial (fun hs => ?_)
          clear hK K g6
          simp only [Act.put, List.setIfInBounds_toArray]
          refine wpAnyH_ready (rs := [5]) (by kernel_rfl) (by simp) (AllReadyH.cons rfl (fun K hK => ?_) AllReadyH.nil)
          go_simp
          refine hK.out _ _ trivial (fun hs => ?_)
          clear hK K
          refine wpAnyH_done (by kernel_rfl) ?_ _
          exact of_fin HM3.out HL.out hy hfy hown hgr hg hsy HX.out.1 HX.out.2.1 HX.out.2.2 ((ext_drew (Ext.refl W3)).trans x5)
    -- end of region 4
  case stop => intro D W hD h hK; exact h.elim
  case done =>
    rintro D W hD ⟨v, M, e1, e2, hm⟩ hK
    have b0 := cell_of_heap (j := 0) hm.box rfl
    have hm2 := hm.turn (.deferred none) hD hK rfl
    obtain ⟨b, q, rfl, ho⟩ := hm2.done
    have HX := Lib.hid (hit.x0.keep hm2.keep (fun i hi => by have hi : i = G := hi; rw [hi, HGw.out]; exact Nat.le_refl _))
    rw [List.take_length] at e2
    have HEnd := Lib.hid (And.intro ho e2)
    clear hm hm2 ho e1 e2
    go_wp2_with fail
    refine ⟨by simp, .inl ⟨_, _, rfl, run_takeDeferred hK, ?_⟩⟩
    exact ⟨_, results_tmp rfl _ _ _, b, M.length, q, M, rfl, HEnd.out.1, HEnd.out.2, HX.out⟩
theorem from_any (a : Option Addr) (n c : Nat) (L : List Ob) (s id : Int) (w : World) (h : ObjsAt w a n c L) (hF : ObjF L) :
    Calls Try.prog 50 #[.slice a n c, .int .i64 s, .int .i64 id] w fun e w' => ∃ b m q M, e = .returned (.slice b m q) ∧ ObjsAt w' b m q M ∧ sameO M (fromO s id L) = true ∧ Ext w w' := by
  have HO := Lib.hid (of_any a n c L s w h hF)
  have HW := Lib.hid (fun W => within_any id id (fun z : Ob => decide (z.id = id)) W (fun z hz => decide_eq_decide.2 ⟨fun h => by omega, fun h => by omega⟩))
  have hlen : (ofO s L).length ≤ 100000 := Nat.le_trans (ofO_len _ _) hF.n
  have HL := Lib.hid hlen
  clear h hF hlen
  go_enter Try.func50, Try.ntmps50
  go_wp2_with fail
  refine HO.out.mono ?_; rintro e w1 ⟨b, m, q, M, rfl, ho, hs, x1⟩
  go_wp2_with fail
  refine (HW.out _).mono ?_; rintro e w2 ⟨b1, b2, rfl, t2, x2⟩
  have hm : m ≤ 100000 := by rw [← ho.len, sameO_len hs]; exact HL.out
  have KI := Lib.hid (index_any b m q M id b1 b2 w2 (ho.ext x2) (by omega) t2)
  go_wp2_with fail
  refine KI.out.mono ?_; rintro e w3 ⟨rfl, x3⟩
  have HX := Lib.hid ((x1.trans x2).trans x3)
  have HOb := Lib.hid ((ho.ext x2).ext x3)
  have hfr := fromO_same s id (sameO_refl L)
  have e0 : max (-1 : Int) 0 = 0 := by decide
  rcases idxO_at id M 0 with ⟨hi, hat⟩ | ⟨j, hj, hi, hat, hne⟩
  · have HR : Hid (sameO M (fromO s id L) = true) := Lib.hid (by
      have h2 := atO_same id hs
      rw [hat] at h2
      have h3 := sameO_len h2
      unfold fromO
      rw [if_pos (List.eq_nil_of_length_eq_zero h3.symm)]
      exact hs)
    simp only [hi]
    by_cases hm0 : m = 0
    · subst hm0
      have HE : Hid (M = []) := Lib.hid (List.eq_nil_of_length_eq_zero ho.len)
      have hq0 : (0 : Int) ≤ q := by omega
      clear hi hat hs t2 hfr ho
      go_wp2_with fail
      all_goals
        go_ret
        refine ⟨_, 0, _, [], by first | rfl | simp, ⟨rfl, .inl rfl, Nat.zero_le _, ?_, fun z hz => by cases hz⟩, by have := HR.out; rw [HE.out] at this; exact this, HX.out⟩
        first | exact Nat.zero_le _ | exact HOb.out.m
    · obtain ⟨p, o, rfl, hp, -⟩ := ho.h.resolve_left (by intro e; have := ho.len; rw [e] at this; simp at this; omega)
      have hmq : (m : Int) ≤ q := by have := ho.l; omega
      have hm1 : (0 : Int) < m := by omega
      have hq1 : q ≠ 0 := by omega
      clear hi hat hs t2 hfr ho
      go_wp2_with fail
      go_ret
      exact ⟨_, m, q, M, rfl, HOb.out, HR.out, HX.out⟩
  · have HR : Hid (sameO (M.drop j) (fromO s id L) = true) := Lib.hid (by
      have h2 := atO_same id hs
      have h3 := sameO_len h2
      unfold fromO
      rw [if_neg (fun e => by rw [e] at h3; exact hne (List.eq_nil_of_length_eq_zero h3))]
      rw [← hat]; exact h2)
    simp only [hi, Nat.zero_add]
    obtain ⟨p, o, rfl, hp, -⟩ := ho.h.resolve_left (by intro e; rw [e] at hj; simp at hj)
    have hjm : (j : Int) < m := by have := ho.len; omega
    have hmq : (m : Int) ≤ q := by have := ho.l; omega
    have e1 : max (j : Int) 0 = j := by omega
    have hq1 : q ≠ j := by omega
    have HJ := Lib.hid hj
    clear hi hat hs ho t2 hfr hne hj
    go_wp2_with fail
    go_ret
    exact ⟨_, m - j, q - j, M.drop j, rfl, HOb.out.drop (by omega), HR.out, HX.out⟩
/-- PACKAGE object, whole. -/
theorem objC : ObjC :=
  ⟨right_any, level_any, fun a n c L id w h hF _ => find_any a n c L id w h hF, fun a n c L s w h hF _ => of_any a n c L s w h hF, fun a n c L s id w h hF _ _ => from_any a n c L s id w h hF, fun a b n m c d L M w hL hM fL fM => same_any a b n m c d L M w hL hM (by have := hL.len; have := fL.n; omega), size_any⟩
end Go.Proofs.Ythdkhdbabohohaa
