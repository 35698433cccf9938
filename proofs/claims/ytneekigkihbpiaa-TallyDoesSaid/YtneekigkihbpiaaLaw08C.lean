/-
  THE LAWS OF LAYER 8: the walk of TallyDoes.
-/
import Derived.Test.YtneekigkihbpiaaLaw08B
import Derived.Deep.RegionHeld3
import Derived.Deep.DeepCutAuto
import Derived.Deep.RegionWith
namespace Go.Proofs.Ytneekigkihbpiaa
open Go.RowKit

theorem keep_setRow (w : World) (g : Nat) (cs : Array Value) : Keep (fun i => i = g) w (w.setRow g cs) := ⟨rfl, rfl, rfl, by simp, fun k _ hn => setRow_other w g k cs hn⟩
theorem keep_setCell (w : World) (g o : Nat) (v : Value) : Keep (fun i => i = g) w (w.setCell ⟨g, o, none⟩ v) := ⟨rfl, rfl, rfl, by simp, fun k _ hn => Below.heap_setCell w ⟨g, o, none⟩ v k hn⟩
theorem Eight.zero : Eight #[.int .u16 0, .int .u16 0, .int .u16 0, .int .u16 0, .int .u16 0, .int .u16 0, .int .u16 0, .int .u16 0] (fun _ => 0) := ⟨rfl, fun i hi => by
  match i, hi with
  | 0, _ => rfl
  | 1, _ => rfl
  | 2, _ => rfl
  | 3, _ => rfl
  | 4, _ => rfl
  | 5, _ => rfl
  | 6, _ => rfl
  | 7, _ => rfl⟩
theorem Eight.holds {w : World} {B : Nat} {cs : Array Value} {f : Nat → Int} (h : Eight cs f) (hB : w.heap[B]? = some (.cells cs 27 (0, 0))) : Holds .u16 w (some ⟨B, 0, none⟩) 8 f := by
  have hlt : B < w.heap.size := by
    rcases Nat.lt_or_ge B w.heap.size with h | h
    · exact h
    · rw [Array.getElem?_eq_none h] at hB; cases hB
  exact .inr ⟨B, 0, rfl, hlt, fun i hi => by rw [Nat.zero_add, cell_of_row w B i cs _ (0, 0) hB]; exact h.2 i hi⟩
theorem Keep.row {F : Nat → Prop} {w w' : World} (k : Keep F w w') {B : Nat} {o : Obj} (hF : ¬ F B) (h : w.heap[B]? = some o) : w'.heap[B]? = some o := by
  have hlt : B < w.heap.size := by
    rcases Nat.lt_or_ge B w.heap.size with h1 | h1
    · exact h1
    · rw [Array.getElem?_eq_none h1] at h; cases h
  exact (k.block B hlt hF).trans h
theorem wpAny_takeD {P : Program} {ops : Array Oper} {Q : Exit → Act → World → Prop} {md : Region.Mode} {i d : Nat} {oi : Oper} {v : Value} {fuel : Nat} {listed : Array Bool} {a : Act} {w : World} (hi : ops[i]? = some oi) (hd : oi.dst = some d)
    (hs : Region.noSelect ops = true) (hf : Region.free md ops listed i = true) (hr : (Region.ready md ops listed).contains i = true)
    (hQ : ∀ c a w, Q (.panic c) (a.put oi.dst v) w → Q (.panic c) a w) (hy : Yields P ops oi v a)
    (h : wpAny P md ops Q fuel (listed.setIfInBounds i true) (a.put (some d) v) w) : wpAny P md ops Q (fuel + 1) listed a w :=
  wpAny_take hi hs hf hr hQ hy (by rw [hd]; exact h)
set_option maxRecDepth 100000 in
set_option maxHeartbeats 16000000 in
theorem tallyDoes.small (a : Option Addr) (n c : Nat) (O : List (Int × Int × Int)) (w : World) (ha : HoldsL 3 three w a O) (hO : O.length = n) (hn : n ≤ 300) (hw : Wf3 O) :
    Calls Try.prog 3 #[.slice a n c] w fun e w' => e = .returned (.bool true) ∧ Ext w w' := by
  have HO := Lib.hid hO
  have HW := Lib.hid hw
  have HA := Lib.hid ha
  clear hO hw ha
  go_enter Try.func3, Try.ntmps3
  go_wp2_with fail
  refine (tnew_any _).mono ?_; rintro e w1 ⟨p, F, rfl, x1, T1, n1⟩
  have T2 := T1.ext (Ext.alloc w1 (.cells #[.int .u16 0, .int .u16 0, .int .u16 0, .int .u16 0, .int .u16 0, .int .u16 0, .int .u16 0, .int .u16 0] 27))
  have x2 := x1.trans (Ext.alloc w1 (.cells #[.int .u16 0, .int .u16 0, .int .u16 0, .int .u16 0, .int .u16 0, .int .u16 0, .int .u16 0, .int .u16 0] 27))
  have hB2 := heap_alloc_new w1 (.cells #[.int .u16 0, .int .u16 0, .int .u16 0, .int .u16 0, .int .u16 0, .int .u16 0, .int .u16 0, .int .u16 0] 27)
  have hF2 : ¬ F w1.heap.size := fun h => absurd (T1.lt _ h) (by omega)
  have hwB : w.heap.size ≤ w1.heap.size := x1.size
  go_wp2
  obtain ⟨Bw, hBw⟩ : ∃ Bw, Bw = w1.heap.size := ⟨_, rfl⟩
  rw [← hBw] at hB2 hF2 hwB ⊢
  have HWB := Lib.hid hwB
  clear x1 T1 hBw hwB
  go_loopg [3, 5] n (fun h pv iv wr => ∃ (i p : Nat) (F : Nat → Prop) (f : Nat → Int) (cs : Array Value), i + h = n ∧ iv = .int .i64 i ∧ pv = .pointer (some ⟨p, 0, none⟩) ∧ TY wr p F f ∧ wr.heap[Bw]? = some (.cells cs 27 (0, 0)) ∧ Eight cs f ∧ ¬ F Bw ∧ Ext w wr ∧ Above w F)
  case atStart => exact ⟨0, p, F, _, _, by omega, rfl, rfl, T2, hB2, Eight.zero, hF2, x2, n1⟩
  case round =>
    clear T2 hB2 hF2 x2 n1
    obtain ⟨i, p, F, f, cs, hi, rfl, rfl, T, hB, h8, hF, xr, nF⟩ := hrel
    cases gk with
    | zero =>
      have hi1 : ¬ ((i : Int) < n) := by omega
      go_wp2_with fail
      refine (sure8_any _).mono ?_; rintro e w3 ⟨rfl, x3⟩
      have xr3 := xr.trans x3
      clear xr x3 T hB h8 hF nF
      go_wp2
      go_ret
      exact ⟨rfl, xr3⟩
    | succ h =>
      have hiO : i < O.length := by rw [HO.out]; omega
      obtain ⟨b, off, rfl, hb, -⟩ := HA.out.resolve_left (by intro e; rw [e] at hiO; simp at hiO)
      obtain ⟨c0, c1, c2⟩ := HA.out.three_at i hiO
      obtain ⟨-, hq, ht⟩ := HW.out O[i] (List.getElem_mem _)
      have hi1 : (i : Int) < n := by omega
      have d0 := xr.cell hb c0
      have d1 := xr.cell hb c1
      have d2 := xr.cell hb c2
      generalize (O[i]).1 = kd at d0 c0
      generalize (O[i]).2.1 = q at hq d1 c1
      generalize (O[i]).2.2 = t at ht d2 c2
      clear c0 c1 c2 hiO
      obtain ⟨Bo, hBo⟩ : ∃ Bo, Bo = wr.heap.size := ⟨_, rfl⟩
      obtain ⟨W0, hW0⟩ : ∃ W0, W0 = wr.alloc (.cells #[.int .i64 kd, .int .i64 q, .int .i64 t] 29) := ⟨_, rfl⟩
      have x0 : Ext wr W0 := by rw [hW0]; exact Ext.alloc _ _
      have o0 : W0.cell? ⟨Bo, 0, none⟩ = some (.int .i64 kd) := by rw [hW0, hBo]; exact (Ext.refl _).made 0 _ rfl
      have o1 : W0.cell? ⟨Bo, 1, none⟩ = some (.int .i64 q) := by rw [hW0, hBo]; exact (Ext.refl _).made 1 _ rfl
      have o2 : W0.cell? ⟨Bo, 2, none⟩ = some (.int .i64 t) := by rw [hW0, hBo]; exact (Ext.refl _).made 2 _ rfl
      have T0 := T.ext x0
      have hB0 := x0.block hB
      have hBlt : Bw < wr.heap.size := (Array.getElem?_eq_some_iff.1 hB).1
      have hBne : Bo ≠ Bw := by omega
      have hBF : ¬ F Bo := fun h => absurd (T.lt _ h) (by omega)
      have xr0 := xr.trans x0
      have HSM := Lib.hid T.small
      have hone := h8.one
      have hsz := h8.1
      have HS8 := Lib.hid h8
      have HNE := Lib.hid hBne
      have HBF := Lib.hid hBF
      have HF := Lib.hid hF
      have HNF := Lib.hid nF
      have HX := Lib.hid xr0
      have HBWl := Lib.hid (show Bw < W0.heap.size from Nat.lt_of_lt_of_le hBlt x0.size)
      have HBol := Lib.hid (show Bo < W0.heap.size from World.block_lt_of_cell? _ _ o0)
      clear T hB h8 hF xr nF x0 hBlt hBne hBF xr0
      by_cases hin : 0 ≤ q ∧ q < 8
      · obtain ⟨j, rfl⟩ : ∃ j : Nat, q = j := ⟨q.toNat, by omega⟩
        have hj8 : j < 8 := by omega
        have hj8' : (j : Int) < 8 := by omega
        have HJ8 := Lib.hid hj8
        have HQ := Lib.hid hq
        have HT := Lib.hid ht
        clear hin hj8 hq ht
        go_upto_region 12 with (fail)
        rw [← hBo, ← hW0]
        clear hBo hW0 d0 d1 d2
        iterate 10 (first | go_values | go_skip | go_guarded | go_step | go_upon | go_back)
        go_cut [3] (fun pv wx => ∃ (p' : Nat) (G : Nat → Prop) (f' : Nat → Int) (cs' : Array Value), pv = .pointer (some ⟨p', 0, none⟩) ∧ TY wx p' G f' ∧ wx.heap[Bw]? = some (.cells cs' 27 (0, 0)) ∧ Eight cs' f' ∧ ¬ G Bw ∧ wx.cell? ⟨Bo, 1, none⟩ = some (.int .i64 (j : Nat)) ∧ Ext w wx ∧ Above w G)
        case first =>
          by_cases hk0 : kd = 0
          · subst hk0
            by_cases ht01 : 0 ≤ t ∧ t ≤ 65536
            · obtain ⟨t0, t1⟩ := ht01
              have hRA := Lib.hid (radd_in cs f j t W0 HS8.out HSM.out HJ8.out t0 t1)
              have HAd := Lib.hid (fun w T => tadd_ok p F f j t w T HJ8.out t0 t1)
              have h8' := HS8.out.set j ((f j + t) % 65536)
              obtain ⟨cs', hcs⟩ : ∃ cs', cs' = cs.setIfInBounds j (.int .u16 ((f j + t) % 65536)) := ⟨_, rfl⟩
              simp only [← hcs] at h8' hRA
              have hone' := h8'.one
              have hsz' := h8'.1
              have H8' := Lib.hid h8'
              obtain ⟨f', hf'⟩ : ∃ f', f' = upd f j ((f j + t) % 65536) := ⟨_, rfl⟩
              rw [← hf'] at HAd H8'
              clear t0 t1 hcs h8' hf'
              go_wp2_with (refine wpList_load_row rfl 27 (.tmp 4) rfl Bw rfl 27 _ (0, 0) _ hB0 Try.underlying27 rfl (by rw [hsz]; kernel_rfl) ?_)
              refine hRA.out.mono ?_; rintro e w2 ⟨rfl, x2⟩

              have e21 := x2.cell HBol.out o1
              have e22 := x2.cell HBol.out o2
              have hB2 := x2.block hB0
              have T2 := T0.ext x2
              have xr2 := HX.out.trans x2
              have lB : Bw < w2.heap.size := Nat.lt_of_lt_of_le HBWl.out x2.size
              have lO : Bo < w2.heap.size := Nat.lt_of_lt_of_le HBol.out x2.size
              have hBne := HNE.out
              clear x2 hB0 T0 o0 o1 o2
              have g3 := heap_alloc_new w2 (.cells #[.int .u16 0, .int .u16 0, .int .u16 0, .int .u16 0, .int .u16 0, .int .u16 0, .int .u16 0, .int .u16 0] 27)
              have g4 := setRow_heap _ _ _ cs' _ _ g3
              have hB3 := (setRow_other (w2.alloc (.cells #[.int .u16 0, .int .u16 0, .int .u16 0, .int .u16 0, .int .u16 0, .int .u16 0, .int .u16 0, .int .u16 0] 27)) w2.heap.size Bw cs' (by omega)).trans ((Ext.alloc w2 (.cells #[.int .u16 0, .int .u16 0, .int .u16 0, .int .u16 0, .int .u16 0, .int .u16 0, .int .u16 0, .int .u16 0] 27)).block hB2)
              have hB4 := setRow_heap _ _ _ cs' _ _ hB3
              have l2' : Bo ≠ w2.heap.size := by omega
              have e41 := (cell_setRow_other ((w2.alloc (.cells #[.int .u16 0, .int .u16 0, .int .u16 0, .int .u16 0, .int .u16 0, .int .u16 0, .int .u16 0, .int .u16 0] 27)).setRow w2.heap.size cs') Bw cs' ⟨Bo, 1, none⟩ hBne).trans ((cell_setRow_other (w2.alloc (.cells #[.int .u16 0, .int .u16 0, .int .u16 0, .int .u16 0, .int .u16 0, .int .u16 0, .int .u16 0, .int .u16 0] 27)) w2.heap.size cs' ⟨Bo, 1, none⟩ l2').trans ((Ext.alloc w2 (.cells #[.int .u16 0, .int .u16 0, .int .u16 0, .int .u16 0, .int .u16 0, .int .u16 0, .int .u16 0, .int .u16 0] 27)).cell lO e21))
              have e42 := (cell_setRow_other ((w2.alloc (.cells #[.int .u16 0, .int .u16 0, .int .u16 0, .int .u16 0, .int .u16 0, .int .u16 0, .int .u16 0, .int .u16 0] 27)).setRow w2.heap.size cs') Bw cs' ⟨Bo, 2, none⟩ hBne).trans ((cell_setRow_other (w2.alloc (.cells #[.int .u16 0, .int .u16 0, .int .u16 0, .int .u16 0, .int .u16 0, .int .u16 0, .int .u16 0, .int .u16 0] 27)) w2.heap.size cs' ⟨Bo, 2, none⟩ l2').trans ((Ext.alloc w2 (.cells #[.int .u16 0, .int .u16 0, .int .u16 0, .int .u16 0, .int .u16 0, .int .u16 0, .int .u16 0, .int .u16 0] 27)).cell lO e22))
              have hF3 : ¬ F w2.heap.size := fun h => absurd (T2.lt _ h) (by omega)
              have T3 := (T2.ext (Ext.alloc w2 (.cells #[.int .u16 0, .int .u16 0, .int .u16 0, .int .u16 0, .int .u16 0, .int .u16 0, .int .u16 0, .int .u16 0] 27))).keep (keep_setRow _ w2.heap.size cs') (fun q hq e => hF3 (e ▸ hq))
              have T4 := T3.keep (keep_setRow _ Bw cs') (fun q hq e => HF.out (e ▸ hq))
              have xr4 : Ext w (((w2.alloc (.cells #[.int .u16 0, .int .u16 0, .int .u16 0, .int .u16 0, .int .u16 0, .int .u16 0, .int .u16 0, .int .u16 0] 27)).setRow w2.heap.size cs').setRow Bw cs') := below_setRow (below_setRow (xr2.trans (Ext.alloc w2 (.cells #[.int .u16 0, .int .u16 0, .int .u16 0, .int .u16 0, .int .u16 0, .int .u16 0, .int .u16 0, .int .u16 0] 27))) xr2.size cs') HWB.out cs'
              have lB4 : Bw < (((w2.alloc (.cells #[.int .u16 0, .int .u16 0, .int .u16 0, .int .u16 0, .int .u16 0, .int .u16 0, .int .u16 0, .int .u16 0] 27)).setRow w2.heap.size cs').setRow Bw cs').heap.size := by simp; omega
              clear e21 e22 hB2 T2 xr2 T3 hF3 lO hBne l2'
              go_wp2_with (first
                | (refine wpList_store_row rfl 27 (.tmp 8) (.tmp 56) rfl w2.heap.size _ rfl rfl 27 _ g3 (by rw [hsz']; kernel_rfl) (by rw [hsz']; rfl) hone' ?_)
                | (refine wpList_load_row rfl 27 (.tmp 8) rfl w2.heap.size rfl 27 _ (0, 0) _ g4 Try.underlying27 rfl (by rw [hsz']; kernel_rfl) ?_)
                | (refine wpList_store_row rfl 27 (.tmp 4) (.tmp 58) rfl Bw _ rfl rfl 27 _ hB3 (by rw [hsz']; kernel_rfl) (hsz.trans hsz'.symm) hone' ?_))
              clear g3 g4 hB3
              refine (HAd.out _ T4).mono ?_; rintro e w5 ⟨G, rfl, k5, T5, g5⟩

              have hB5 := k5.row HF.out hB4
              have e5 := k5.cell HBF.out e41
              have xr5 := xr4.keep k5 HNF.out
              have n5 := HNF.out.grows g5 xr4
              have hG5 : ¬ G Bw := fun h => (g5 Bw h).elim HF.out (fun x => absurd lB4 (by omega))

              clear e41 e42 hB4 T4 xr4 k5 g5 HAd hRA lB4 hone' hsz' hone hsz
              go_wp2
              go_meet
              exact ⟨p, G, f', cs', rfl, T5, hB5, H8'.out, hG5, e5, xr5, n5⟩
            · have hno : ¬ (0 ≤ (j : Int) ∧ (j : Int) ≤ 7 ∧ 0 ≤ t ∧ t ≤ 65536) := by omega
              have hRA := Lib.hid (radd_out cs j t W0 hsz hone hno)
              have HAd := Lib.hid (fun w T => tadd_no p F f j t w T HQ.out HT.out hno)
              have hone' := hone
              have hsz' := hsz
              clear hno ht01
              go_wp2_with (refine wpList_load_row rfl 27 (.tmp 4) rfl Bw rfl 27 _ (0, 0) _ hB0 Try.underlying27 rfl (by rw [hsz]; kernel_rfl) ?_)
              refine hRA.out.mono ?_; rintro e w2 ⟨rfl, x2⟩

              have e21 := x2.cell HBol.out o1
              have e22 := x2.cell HBol.out o2
              have hB2 := x2.block hB0
              have T2 := T0.ext x2
              have xr2 := HX.out.trans x2
              have lB : Bw < w2.heap.size := Nat.lt_of_lt_of_le HBWl.out x2.size
              have lO : Bo < w2.heap.size := Nat.lt_of_lt_of_le HBol.out x2.size
              have hBne := HNE.out
              clear x2 hB0 T0 o0 o1 o2
              have g3 := heap_alloc_new w2 (.cells #[.int .u16 0, .int .u16 0, .int .u16 0, .int .u16 0, .int .u16 0, .int .u16 0, .int .u16 0, .int .u16 0] 27)
              have g4 := setRow_heap _ _ _ cs _ _ g3
              have hB3 := (setRow_other (w2.alloc (.cells #[.int .u16 0, .int .u16 0, .int .u16 0, .int .u16 0, .int .u16 0, .int .u16 0, .int .u16 0, .int .u16 0] 27)) w2.heap.size Bw cs (by omega)).trans ((Ext.alloc w2 (.cells #[.int .u16 0, .int .u16 0, .int .u16 0, .int .u16 0, .int .u16 0, .int .u16 0, .int .u16 0, .int .u16 0] 27)).block hB2)
              have hB4 := setRow_heap _ _ _ cs _ _ hB3
              have l2' : Bo ≠ w2.heap.size := by omega
              have e41 := (cell_setRow_other ((w2.alloc (.cells #[.int .u16 0, .int .u16 0, .int .u16 0, .int .u16 0, .int .u16 0, .int .u16 0, .int .u16 0, .int .u16 0] 27)).setRow w2.heap.size cs) Bw cs ⟨Bo, 1, none⟩ hBne).trans ((cell_setRow_other (w2.alloc (.cells #[.int .u16 0, .int .u16 0, .int .u16 0, .int .u16 0, .int .u16 0, .int .u16 0, .int .u16 0, .int .u16 0] 27)) w2.heap.size cs ⟨Bo, 1, none⟩ l2').trans ((Ext.alloc w2 (.cells #[.int .u16 0, .int .u16 0, .int .u16 0, .int .u16 0, .int .u16 0, .int .u16 0, .int .u16 0, .int .u16 0] 27)).cell lO e21))
              have e42 := (cell_setRow_other ((w2.alloc (.cells #[.int .u16 0, .int .u16 0, .int .u16 0, .int .u16 0, .int .u16 0, .int .u16 0, .int .u16 0, .int .u16 0] 27)).setRow w2.heap.size cs) Bw cs ⟨Bo, 2, none⟩ hBne).trans ((cell_setRow_other (w2.alloc (.cells #[.int .u16 0, .int .u16 0, .int .u16 0, .int .u16 0, .int .u16 0, .int .u16 0, .int .u16 0, .int .u16 0] 27)) w2.heap.size cs ⟨Bo, 2, none⟩ l2').trans ((Ext.alloc w2 (.cells #[.int .u16 0, .int .u16 0, .int .u16 0, .int .u16 0, .int .u16 0, .int .u16 0, .int .u16 0, .int .u16 0] 27)).cell lO e22))
              have hF3 : ¬ F w2.heap.size := fun h => absurd (T2.lt _ h) (by omega)
              have T3 := (T2.ext (Ext.alloc w2 (.cells #[.int .u16 0, .int .u16 0, .int .u16 0, .int .u16 0, .int .u16 0, .int .u16 0, .int .u16 0, .int .u16 0] 27))).keep (keep_setRow _ w2.heap.size cs) (fun q hq e => hF3 (e ▸ hq))
              have T4 := T3.keep (keep_setRow _ Bw cs) (fun q hq e => HF.out (e ▸ hq))
              have xr4 : Ext w (((w2.alloc (.cells #[.int .u16 0, .int .u16 0, .int .u16 0, .int .u16 0, .int .u16 0, .int .u16 0, .int .u16 0, .int .u16 0] 27)).setRow w2.heap.size cs).setRow Bw cs) := below_setRow (below_setRow (xr2.trans (Ext.alloc w2 (.cells #[.int .u16 0, .int .u16 0, .int .u16 0, .int .u16 0, .int .u16 0, .int .u16 0, .int .u16 0, .int .u16 0] 27))) xr2.size cs) HWB.out cs
              have lB4 : Bw < (((w2.alloc (.cells #[.int .u16 0, .int .u16 0, .int .u16 0, .int .u16 0, .int .u16 0, .int .u16 0, .int .u16 0, .int .u16 0] 27)).setRow w2.heap.size cs).setRow Bw cs).heap.size := by simp; omega
              clear e21 e22 hB2 T2 xr2 T3 hF3 lO hBne l2'
              go_wp2_with (first
                | (refine wpList_store_row rfl 27 (.tmp 8) (.tmp 56) rfl w2.heap.size _ rfl rfl 27 _ g3 (by rw [hsz']; kernel_rfl) (by rw [hsz']; rfl) hone' ?_)
                | (refine wpList_load_row rfl 27 (.tmp 8) rfl w2.heap.size rfl 27 _ (0, 0) _ g4 Try.underlying27 rfl (by rw [hsz']; kernel_rfl) ?_)
                | (refine wpList_store_row rfl 27 (.tmp 4) (.tmp 58) rfl Bw _ rfl rfl 27 _ hB3 (by rw [hsz']; kernel_rfl) (hsz.trans hsz'.symm) hone' ?_))
              clear g3 g4 hB3
              refine (HAd.out _ T4).mono ?_; rintro e w5 ⟨rfl, x5⟩
              have T5 := T4.ext x5
              have hB5 := x5.block hB4
              have e5 := x5.cell (World.block_lt_of_cell? _ _ e41) e41
              have xr5 := xr4.trans x5

              clear e41 e42 hB4 T4 xr4 x5 HAd hRA lB4 hone' hsz' hone hsz
              go_wp2
              go_meet
              exact ⟨p, F, f, cs, rfl, T5, hB5, HS8.out, HF.out, e5, xr5, HNF.out⟩
          · by_cases hk1 : kd = 1
            · subst hk1
              clear hk0
              have c1 := cell_of_row W0 Bw j cs _ (0, 0) hB0
              rw [HS8.out.2 j HJ8.out] at c1
              have f1 : W0.frozen? ⟨Bw, j, none⟩ = false := by simp [World.frozen?, hB0]
              have hB1 := set_block hB0 j (.int .u16 0)
              have H8' := Lib.hid (HS8.out.set j 0)
              have T1 := T0.keep (keep_setCell W0 Bw j (.int .u16 0)) (fun q hq e => HF.out (e ▸ hq))
              have e1 := (cell_far HNE.out W0 1 j (.int .u16 0)).trans o1
              have xr1 : Ext w (W0.setCell ⟨Bw, j, none⟩ (.int .u16 0)) := Below.set HX.out HWB.out _
              have lB1 : Bw < (W0.setCell ⟨Bw, j, none⟩ (.int .u16 0)).heap.size := (Array.getElem?_eq_some_iff.1 hB1).1
              have HD := Lib.hid (tdrop_ok p F f j _ T1 HJ8.out)
              clear T1 hB0 T0 o2
              go_wp2_with fail
              refine HD.out.mono ?_; rintro e w5 ⟨G, rfl, k5, T5, g5⟩

              have hB5 := k5.row HF.out hB1
              have e5 := k5.cell HBF.out e1
              have xr5 := xr1.keep k5 HNF.out
              have n5 := HNF.out.grows g5 xr1
              have hG5 : ¬ G Bw := fun h => (g5 Bw h).elim HF.out (fun x => absurd lB1 (by omega))

              clear e1 o0 o1 hB1 c1 f1 xr1 k5 g5 HD lB1 hone hsz
              go_wp2
              go_meet
              exact ⟨p, G, _, _, rfl, T5, hB5, H8'.out, hG5, e5, xr5, n5⟩
            · by_cases hk2 : kd = 2
              · subst hk2
                clear hk0 hk1
                have HD := Lib.hid (tclear_any p F f W0 T0)
                go_wp2_with fail
                refine HD.out.mono ?_; rintro e w4 ⟨G, rfl, k4, T4, g4⟩
                have hB4 := k4.row HF.out hB0
                have e4 := k4.cell HBF.out o1
                have xr4 := HX.out.keep k4 HNF.out
                have hG4 : ¬ G Bw := fun h => (g4 Bw h).elim HF.out (fun x => absurd HBWl.out (by omega))
                have n4 := HNF.out.grows g4 HX.out
                have hB5 := setRow_heap _ _ _ #[.int .u16 0, .int .u16 0, .int .u16 0, .int .u16 0, .int .u16 0, .int .u16 0, .int .u16 0, .int .u16 0] _ _ hB4
                have T5 := T4.keep (keep_setRow _ Bw #[.int .u16 0, .int .u16 0, .int .u16 0, .int .u16 0, .int .u16 0, .int .u16 0, .int .u16 0, .int .u16 0]) (fun q hq e => hG4 (e ▸ hq))
                have e5 := (cell_setRow_other w4 Bw #[.int .u16 0, .int .u16 0, .int .u16 0, .int .u16 0, .int .u16 0, .int .u16 0, .int .u16 0, .int .u16 0] ⟨Bo, 1, none⟩ HNE.out).trans e4
                have xr5 := below_setRow xr4 HWB.out #[.int .u16 0, .int .u16 0, .int .u16 0, .int .u16 0, .int .u16 0, .int .u16 0, .int .u16 0, .int .u16 0]
                clear o0 o1 o2 hB0 T0 k4 g4 HD T4 e4 xr4
                go_wp2_with (first | (refine wpList_store_row rfl 27 (.tmp 4) (.tmp 103) rfl Bw #[.int .u16 0, .int .u16 0, .int .u16 0, .int .u16 0, .int .u16 0, .int .u16 0, .int .u16 0, .int .u16 0] rfl rfl 27 _ hB4 (by kernel_rfl) hsz Eight.zero.one ?_))
                go_meet
                exact ⟨p, G, _, _, rfl, T5, hB5, Eight.zero, hG4, e5, xr5, n4⟩
              · have b0 : (kd == 0) = false := by simpa using hk0
                have b1 : (kd == 1) = false := by simpa using hk1
                have b2 : (kd == 2) = false := by simpa using hk2
                have HD := Lib.hid (tclone_any p F f W0 T0)
                have HAd := Lib.hid (fun w T => tadd_ok p F f 0 1 w T (by omega) (by omega) (by omega))
                have HLT := Lib.hid T0.lt
                clear hk0 hk1 hk2
                go_wp2_with fail
                refine HD.out.mono ?_; rintro e w2 ⟨r, G, rfl, x2, T2, n2⟩
                have T0' := T0.ext x2
                have hB2 := x2.block hB0
                have e2 := x2.cell HBol.out o1
                have xr2 := HX.out.trans x2
                clear o0 o1 o2 hB0 T0 x2 HD
                go_wp2_with fail
                refine (HAd.out _ T0').mono ?_; rintro e w5 ⟨G2, rfl, k5, -, -⟩
                have T5 := T2.keep k5 (fun i hi hf => absurd (n2 i hi) (by have := HLT.out i hf; omega))
                have hB5 := k5.row HF.out hB2
                have e5 := k5.cell HBF.out e2
                have xr5 := xr2.keep k5 HNF.out
                have hG5 : ¬ G Bw := fun h => absurd (n2 Bw h) (by have := HBWl.out; omega)
                have n5 := n2.of HX.out

                clear T0' hB2 e2 xr2 k5 T2 n2 HAd HLT hone hsz
                go_wp2
                go_meet
                exact ⟨r, G, f, cs, rfl, T5, hB5, HS8.out, hG5, e5, xr5, n5⟩

        case rest =>
          obtain ⟨p', G, f', cs', rfl, T5, hB5, h8', hG5, e5, xr5, n5⟩ := hcut
          have H8' := Lib.hid h8'
          have HG5 := Lib.hid hG5
          have HN5 := Lib.hid n5
          clear o0 o1 o2 T0 hB0 hone hsz h8' hG5 n5
          go_wp2_with fail
          refine (tget_ok p' G f' j _ T5 HJ8.out).mono ?_; rintro e w6 ⟨rfl, x6⟩
          have T6 := T5.ext x6
          have hB6 := x6.block hB5
          have e6 := x6.cell (World.block_lt_of_cell? _ _ e5) e5
          have xr6 := xr5.trans x6
          have c6 := cell_of_row _ Bw j cs' _ (0, 0) hB6
          rw [H8'.out.2 j HJ8.out] at c6
          obtain ⟨v, hv⟩ : ∃ v, f' j = v := ⟨_, rfl⟩
          rw [hv] at c6 ⊢
          clear hv
          have HAl := Lib.hid (fun w' (x : Ext w6 w') => tall_any p' G f' w' (T6.ext x))
          have HHo := Lib.hid (fun w' (x : Ext w6 w') => H8'.out.holds (x.block hB6))
          clear T5 hB5 e5 xr5 x6
          go_wp2_with fail
          refine wp_region_any (by kernel_rfl) ?_
          change wpAny _ _ _ _ _ _ _ (World.drew _)
          refine wpAny_takeD (i := 0) (d := 111) (v := .pointer (some ⟨p', 0, none⟩)) rfl rfl (by kernel_rfl) (by kernel_rfl) (by kernel_rfl) (fun _ _ _ h => h) (Or.inl ⟨by rfl, fun w => by go_simp⟩) ?_
          simp only [Act.put, List.setIfInBounds_toArray, List.set_cons_succ, List.set_cons_zero]
          refine wpAny_takeD (i := 2) (d := 113) (v := .slice (some ⟨Bw, 0, none⟩) 8 8) rfl rfl (by kernel_rfl) (by kernel_rfl) (by kernel_rfl) (fun _ _ _ h => h) (Or.inl ⟨by rfl, fun w => by go_simp⟩) ?_
          simp only [Act.put, List.setIfInBounds_toArray, List.set_cons_succ, List.set_cons_zero]
          refine wpAny_ready (rs := [1]) (by kernel_rfl) (by simp) (AllReady.cons rfl (fun K hK => ?_) AllReady.nil)
          go_simp
          go_wp2_with fail
          refine (HAl.out _ (by (repeat (first | (with_reducible exact Ext.refl _) | (with_reducible assumption) | (with_reducible refine Ext.trans ?_ (Ext.drew _)) | (with_reducible refine Ext.trans ?_ (Ext.drewN _ _)) | (with_reducible refine Ext.alloc' ?_ _) | (with_reducible refine Ext.trans ?_ (by assumption)))))).mono ?_; rintro e w7 ⟨z, u, rfl, -, -, hz, x7⟩
          have y7 : Ext w6 w7 := Ext.trans (by (repeat (first | (with_reducible exact Ext.refl _) | (with_reducible assumption) | (with_reducible refine Ext.trans ?_ (Ext.drew _)) | (with_reducible refine Ext.trans ?_ (Ext.drewN _ _)) | (with_reducible refine Ext.alloc' ?_ _) | (with_reducible refine Ext.trans ?_ (by assumption))))) x7
          clear HAl
          go_wp2_with fail
          refine wpAny_ready (rs := [3]) (by kernel_rfl) (by simp) (AllReady.cons rfl (fun K hK => ?_) AllReady.nil)
          go_simp
          go_wp2_with fail
          refine (words_any _ _ 8 8 _ _ f' f' _ (hz.ext (by (repeat (first | (with_reducible exact Ext.refl _) | (with_reducible assumption) | (with_reducible refine Ext.trans ?_ (Ext.drew _)) | (with_reducible refine Ext.trans ?_ (Ext.drewN _ _)) | (with_reducible refine Ext.alloc' ?_ _) | (with_reducible refine Ext.trans ?_ (by assumption)))))) (HHo.out _ (by (repeat (first | (with_reducible exact Ext.refl _) | (with_reducible assumption) | (with_reducible refine Ext.trans ?_ (Ext.drew _)) | (with_reducible refine Ext.trans ?_ (Ext.drewN _ _)) | (with_reducible refine Ext.alloc' ?_ _) | (with_reducible refine Ext.trans ?_ (by assumption)))))) (by omega) (by omega)).mono ?_; rintro e w8 ⟨rfl, q8⟩
          have y8 : Ext w6 w8 := Ext.trans (by (repeat (first | (with_reducible exact Ext.refl _) | (with_reducible assumption) | (with_reducible refine Ext.trans ?_ (Ext.drew _)) | (with_reducible refine Ext.trans ?_ (Ext.drewN _ _)) | (with_reducible refine Ext.alloc' ?_ _) | (with_reducible refine Ext.trans ?_ (by assumption))))) (Ext.of_drewN q8)
          rw [eqB_true rfl (fun _ _ => rfl)]
          have e8 := y8.cell (World.block_lt_of_cell? _ _ e6) e6
          have c8 := y8.cell (World.block_lt_of_cell? _ _ c6) c6
          have hvv : (v != v) = false := by simp
          have T8 := T6.ext y8
          have hB8 := y8.block hB6
          have xr8 := xr6.trans y8
          clear T6 hB6 e6 c6 xr6 x7 hz q8 y7 y8 HHo
          go_wp2_with fail
          refine wpAny_takeD (i := 4) (d := 115) (v := .bool false) rfl rfl (by kernel_rfl) (by kernel_rfl) (by kernel_rfl) (fun _ _ _ h => h) (Or.inl ⟨by rfl, fun w => by go_simp⟩) ?_
          simp only [Act.put, List.setIfInBounds_toArray, List.set_cons_succ, List.set_cons_zero]
          refine wpAny_takeD (i := 5) (d := 116) (v := .bool false) rfl rfl (by kernel_rfl) (by kernel_rfl) (by kernel_rfl) (fun _ _ _ h => h) (Or.inl ⟨by rfl, fun w => by go_simp⟩) ?_
          simp only [Act.put, List.setIfInBounds_toArray, List.set_cons_succ, List.set_cons_zero]
          refine wpAny_takeD (i := 6) (d := 117) (v := .bool true) rfl rfl (by kernel_rfl) (by kernel_rfl) (by kernel_rfl) (fun _ _ _ h => h) (Or.inl ⟨by rfl, fun w => by go_simp⟩) ?_
          simp only [Act.put, List.setIfInBounds_toArray, List.set_cons_succ, List.set_cons_zero]
          refine wpAny_takeD (i := 7) (d := 118) (v := .bool true) rfl rfl (by kernel_rfl) (by kernel_rfl) (by kernel_rfl) (fun _ _ _ h => h) (Or.inl ⟨by rfl, fun w => by go_simp⟩) ?_
          simp only [Act.put, List.setIfInBounds_toArray, List.set_cons_succ, List.set_cons_zero]
          refine wpAny_takeD (i := 8) (d := 119) (v := .bool false) rfl rfl (by kernel_rfl) (by kernel_rfl) (by kernel_rfl) (fun _ _ _ h => h) (Or.inl ⟨by rfl, fun w => by go_simp⟩) ?_
          simp only [Act.put, List.setIfInBounds_toArray, List.set_cons_succ, List.set_cons_zero]
          refine wpAny_takeD (i := 9) (d := 120) (v := .bool false) rfl rfl (by kernel_rfl) (by kernel_rfl) (by kernel_rfl) (fun _ _ _ h => h) (Or.inl ⟨by rfl, fun w => by go_simp⟩) ?_
          simp only [Act.put, List.setIfInBounds_toArray, List.set_cons_succ, List.set_cons_zero]
          refine wpAny_takeD (i := 10) (d := 121) (v := .bool false) rfl rfl (by kernel_rfl) (by kernel_rfl) (by kernel_rfl) (fun _ _ _ h => h) (Or.inl ⟨by rfl, fun w => by go_simp⟩) ?_
          simp only [Act.put, List.setIfInBounds_toArray, List.set_cons_succ, List.set_cons_zero]
          refine wpAny_takeD (i := 11) (d := 122) (v := .bool true) rfl rfl (by kernel_rfl) (by kernel_rfl) (by kernel_rfl) (fun _ _ _ h => h) (Or.inl ⟨by rfl, fun w => by go_simp⟩) ?_
          simp only [Act.put, List.setIfInBounds_toArray, List.set_cons_succ, List.set_cons_zero]
          refine wpAny_takeD (i := 12) (d := 123) (v := .bool true) rfl rfl (by kernel_rfl) (by kernel_rfl) (by kernel_rfl) (fun _ _ _ h => h) (Or.inl ⟨by rfl, fun w => by go_simp⟩) ?_
          simp only [Act.put, List.setIfInBounds_toArray, List.set_cons_succ, List.set_cons_zero]
          refine wpAny_takeD (i := 13) (d := 124) (v := .int .u16 v) rfl rfl (by kernel_rfl) (by kernel_rfl) (by kernel_rfl) (fun _ _ _ h => h) (Or.inl ⟨by rfl, fun w => by go_simp⟩) ?_
          simp only [Act.put, List.setIfInBounds_toArray, List.set_cons_succ, List.set_cons_zero]
          refine wpAny_takeD (i := 14) (d := 125) (v := .pointer (some ⟨Bo, 1, none⟩)) rfl rfl (by kernel_rfl) (by kernel_rfl) (by kernel_rfl) (fun _ _ _ h => h) (Or.inl ⟨by rfl, fun w => by go_simp⟩) ?_
          simp only [Act.put, List.setIfInBounds_toArray, List.set_cons_succ, List.set_cons_zero]
          refine wpAny_ready (rs := [15]) (by kernel_rfl) (by simp) (AllReady.cons rfl (fun K hK => ?_) AllReady.nil)
          go_simp
          refine hK _ _ ?_
          clear hK K
          refine wpAny_takeD (i := 16) (d := 127) (v := .pointer (some ⟨Bw, j, none⟩)) rfl rfl (by kernel_rfl) (by kernel_rfl) (by kernel_rfl) (fun _ _ _ h => h) (Or.inl ⟨by rfl, fun w => by go_simp⟩) ?_
          simp only [Act.put, List.setIfInBounds_toArray, List.set_cons_succ, List.set_cons_zero]
          refine wpAny_ready (rs := [17]) (by kernel_rfl) (by simp) (AllReady.cons rfl (fun K hK => ?_) AllReady.nil)
          go_simp
          refine hK _ _ ?_
          clear hK K
          refine wpAny_takeD (i := 18) (d := 129) (v := .bool false) rfl rfl (by kernel_rfl) (by kernel_rfl) (by kernel_rfl) (fun _ _ _ h => h) (Or.inl ⟨by rfl, fun w => by go_simp⟩) ?_
          simp only [Act.put, List.setIfInBounds_toArray, List.set_cons_succ, List.set_cons_zero]
          refine wpAny_takeD (i := 19) (d := 130) (v := .bool false) rfl rfl (by kernel_rfl) (by kernel_rfl) (by kernel_rfl) (fun _ _ _ h => h) (Or.inl ⟨by rfl, fun w => by go_simp⟩) ?_
          simp only [Act.put, List.setIfInBounds_toArray, List.set_cons_succ, List.set_cons_zero]
          refine wpAny_takeD (i := 20) (d := 131) (v := .bool false) rfl rfl (by kernel_rfl) (by kernel_rfl) (by kernel_rfl) (fun _ _ _ h => h) (Or.inl ⟨by rfl, fun w => by go_simp⟩) ?_
          simp only [Act.put, List.setIfInBounds_toArray, List.set_cons_succ, List.set_cons_zero]
          refine wpAny_takeD (i := 21) (d := 132) (v := .bool false) rfl rfl (by kernel_rfl) (by kernel_rfl) (by kernel_rfl) (fun _ _ _ h => h) (Or.inl ⟨by rfl, fun w => by go_simp⟩) ?_
          simp only [Act.put, List.setIfInBounds_toArray, List.set_cons_succ, List.set_cons_zero]
          refine wpAny_takeD (i := 22) (d := 133) (v := .bool true) rfl rfl (by kernel_rfl) (by kernel_rfl) (by kernel_rfl) (fun _ _ _ h => h) (Or.inl ⟨by rfl, fun w => by go_simp⟩) ?_
          simp only [Act.put, List.setIfInBounds_toArray, List.set_cons_succ, List.set_cons_zero]
          refine wpAny_takeD (i := 23) (d := 134) (v := .bool false) rfl rfl (by kernel_rfl) (by kernel_rfl) (by kernel_rfl) (fun _ _ _ h => h) (Or.inl ⟨by rfl, fun w => by go_simp⟩) ?_
          simp only [Act.put, List.setIfInBounds_toArray, List.set_cons_succ, List.set_cons_zero]
          refine wpAny_takeD (i := 24) (d := 135) (v := .bool false) rfl rfl (by kernel_rfl) (by kernel_rfl) (by kernel_rfl) (fun _ _ _ h => h) (Or.inl ⟨by rfl, fun w => by go_simp⟩) ?_
          simp only [Act.put, List.setIfInBounds_toArray, List.set_cons_succ, List.set_cons_zero]
          refine wpAny_takeD (i := 25) (d := 136) (v := undef) rfl rfl (by kernel_rfl) (by kernel_rfl) (by kernel_rfl) (fun _ _ _ h => h) (Or.inr ⟨by rfl, rfl⟩) ?_
          simp only [Act.put, List.setIfInBounds_toArray, List.set_cons_succ, List.set_cons_zero]
          refine wpAny_takeD (i := 26) (d := 137) (v := undef) rfl rfl (by kernel_rfl) (by kernel_rfl) (by kernel_rfl) (fun _ _ _ h => h) (Or.inr ⟨by rfl, rfl⟩) ?_
          simp only [Act.put, List.setIfInBounds_toArray, List.set_cons_succ, List.set_cons_zero]
          refine wpAny_takeD (i := 27) (d := 138) (v := .bool false) rfl rfl (by kernel_rfl) (by kernel_rfl) (by kernel_rfl) (fun _ _ _ h => h) (Or.inl ⟨by rfl, fun w => by go_simp⟩) ?_
          simp only [Act.put, List.setIfInBounds_toArray, List.set_cons_succ, List.set_cons_zero]
          refine wpAny_takeD (i := 28) (d := 139) (v := .bool false) rfl rfl (by kernel_rfl) (by kernel_rfl) (by kernel_rfl) (fun _ _ _ h => h) (Or.inl ⟨by rfl, fun w => by go_simp⟩) ?_
          simp only [Act.put, List.setIfInBounds_toArray, List.set_cons_succ, List.set_cons_zero]
          refine wpAny_done (by kernel_rfl) ?_ _
          go_wp2
          go_roundg h
          case rel => exact ⟨i + 1, p', G, f', cs', by omega, by go_num, rfl, T8, hB8, H8'.out, HG5.out, xr8, HN5.out⟩
          case measure => omega
      · have HOUT := Lib.hid (show ¬ (0 ≤ q ∧ q ≤ 7) by omega)
        have hq8 : decide (0 ≤ q) = false ∨ (decide (0 ≤ q) = true ∧ decide (q < 8) = false) := by
          by_cases h : 0 ≤ q
          · exact .inr ⟨decide_eq_true h, decide_eq_false (by omega)⟩
          · exact .inl (decide_eq_false h)
        have HQ := Lib.hid hq
        have HT := Lib.hid ht
        clear hin hq ht
        rcases hq8 with hq1 | ⟨hq1, hq2⟩
        all_goals
          go_upto_region 12 with (fail)
          rw [← hBo, ← hW0]
          clear hBo hW0 d0 d1 d2
          iterate 10 (first | go_values | go_skip | go_guarded | go_step | go_upon | go_back)
          go_cut [3] (fun pv wx => ∃ (p' : Nat) (G : Nat → Prop) (f' : Nat → Int) (cs' : Array Value), pv = .pointer (some ⟨p', 0, none⟩) ∧ TY wx p' G f' ∧ wx.heap[Bw]? = some (.cells cs' 27 (0, 0)) ∧ Eight cs' f' ∧ ¬ G Bw ∧ wx.cell? ⟨Bo, 1, none⟩ = some (.int .i64 q) ∧ Ext w wx ∧ Above w G)
          case first =>
            by_cases hk0 : kd = 0
            · subst hk0
              have hno : ¬ (0 ≤ (q : Int) ∧ (q : Int) ≤ 7 ∧ 0 ≤ t ∧ t ≤ 65536) := fun h => HOUT.out ⟨h.1, h.2.1⟩
              have hRA := Lib.hid (radd_out cs q t W0 hsz hone hno)
              have HAd := Lib.hid (fun w T => tadd_no p F f q t w T HQ.out HT.out hno)
              have hone' := hone
              have hsz' := hsz
              clear hno 
              go_wp2_with (refine wpList_load_row rfl 27 (.tmp 4) rfl Bw rfl 27 _ (0, 0) _ hB0 Try.underlying27 rfl (by rw [hsz]; kernel_rfl) ?_)
              refine hRA.out.mono ?_; rintro e w2 ⟨rfl, x2⟩

              have e21 := x2.cell HBol.out o1
              have e22 := x2.cell HBol.out o2
              have hB2 := x2.block hB0
              have T2 := T0.ext x2
              have xr2 := HX.out.trans x2
              have lB : Bw < w2.heap.size := Nat.lt_of_lt_of_le HBWl.out x2.size
              have lO : Bo < w2.heap.size := Nat.lt_of_lt_of_le HBol.out x2.size
              have hBne := HNE.out
              clear x2 hB0 T0 o0 o1 o2
              have g3 := heap_alloc_new w2 (.cells #[.int .u16 0, .int .u16 0, .int .u16 0, .int .u16 0, .int .u16 0, .int .u16 0, .int .u16 0, .int .u16 0] 27)
              have g4 := setRow_heap _ _ _ cs _ _ g3
              have hB3 := (setRow_other (w2.alloc (.cells #[.int .u16 0, .int .u16 0, .int .u16 0, .int .u16 0, .int .u16 0, .int .u16 0, .int .u16 0, .int .u16 0] 27)) w2.heap.size Bw cs (by omega)).trans ((Ext.alloc w2 (.cells #[.int .u16 0, .int .u16 0, .int .u16 0, .int .u16 0, .int .u16 0, .int .u16 0, .int .u16 0, .int .u16 0] 27)).block hB2)
              have hB4 := setRow_heap _ _ _ cs _ _ hB3
              have l2' : Bo ≠ w2.heap.size := by omega
              have e41 := (cell_setRow_other ((w2.alloc (.cells #[.int .u16 0, .int .u16 0, .int .u16 0, .int .u16 0, .int .u16 0, .int .u16 0, .int .u16 0, .int .u16 0] 27)).setRow w2.heap.size cs) Bw cs ⟨Bo, 1, none⟩ hBne).trans ((cell_setRow_other (w2.alloc (.cells #[.int .u16 0, .int .u16 0, .int .u16 0, .int .u16 0, .int .u16 0, .int .u16 0, .int .u16 0, .int .u16 0] 27)) w2.heap.size cs ⟨Bo, 1, none⟩ l2').trans ((Ext.alloc w2 (.cells #[.int .u16 0, .int .u16 0, .int .u16 0, .int .u16 0, .int .u16 0, .int .u16 0, .int .u16 0, .int .u16 0] 27)).cell lO e21))
              have e42 := (cell_setRow_other ((w2.alloc (.cells #[.int .u16 0, .int .u16 0, .int .u16 0, .int .u16 0, .int .u16 0, .int .u16 0, .int .u16 0, .int .u16 0] 27)).setRow w2.heap.size cs) Bw cs ⟨Bo, 2, none⟩ hBne).trans ((cell_setRow_other (w2.alloc (.cells #[.int .u16 0, .int .u16 0, .int .u16 0, .int .u16 0, .int .u16 0, .int .u16 0, .int .u16 0, .int .u16 0] 27)) w2.heap.size cs ⟨Bo, 2, none⟩ l2').trans ((Ext.alloc w2 (.cells #[.int .u16 0, .int .u16 0, .int .u16 0, .int .u16 0, .int .u16 0, .int .u16 0, .int .u16 0, .int .u16 0] 27)).cell lO e22))
              have hF3 : ¬ F w2.heap.size := fun h => absurd (T2.lt _ h) (by omega)
              have T3 := (T2.ext (Ext.alloc w2 (.cells #[.int .u16 0, .int .u16 0, .int .u16 0, .int .u16 0, .int .u16 0, .int .u16 0, .int .u16 0, .int .u16 0] 27))).keep (keep_setRow _ w2.heap.size cs) (fun q hq e => hF3 (e ▸ hq))
              have T4 := T3.keep (keep_setRow _ Bw cs) (fun q hq e => HF.out (e ▸ hq))
              have xr4 : Ext w (((w2.alloc (.cells #[.int .u16 0, .int .u16 0, .int .u16 0, .int .u16 0, .int .u16 0, .int .u16 0, .int .u16 0, .int .u16 0] 27)).setRow w2.heap.size cs).setRow Bw cs) := below_setRow (below_setRow (xr2.trans (Ext.alloc w2 (.cells #[.int .u16 0, .int .u16 0, .int .u16 0, .int .u16 0, .int .u16 0, .int .u16 0, .int .u16 0, .int .u16 0] 27))) xr2.size cs) HWB.out cs
              have lB4 : Bw < (((w2.alloc (.cells #[.int .u16 0, .int .u16 0, .int .u16 0, .int .u16 0, .int .u16 0, .int .u16 0, .int .u16 0, .int .u16 0] 27)).setRow w2.heap.size cs).setRow Bw cs).heap.size := by simp; omega
              clear e21 e22 hB2 T2 xr2 T3 hF3 lO hBne l2'
              go_wp2_with (first
                | (refine wpList_store_row rfl 27 (.tmp 8) (.tmp 56) rfl w2.heap.size _ rfl rfl 27 _ g3 (by rw [hsz']; kernel_rfl) (by rw [hsz']; rfl) hone' ?_)
                | (refine wpList_load_row rfl 27 (.tmp 8) rfl w2.heap.size rfl 27 _ (0, 0) _ g4 Try.underlying27 rfl (by rw [hsz']; kernel_rfl) ?_)
                | (refine wpList_store_row rfl 27 (.tmp 4) (.tmp 58) rfl Bw _ rfl rfl 27 _ hB3 (by rw [hsz']; kernel_rfl) (hsz.trans hsz'.symm) hone' ?_))
              clear g3 g4 hB3
              refine (HAd.out _ T4).mono ?_; rintro e w5 ⟨rfl, x5⟩
              have T5 := T4.ext x5
              have hB5 := x5.block hB4
              have e5 := x5.cell (World.block_lt_of_cell? _ _ e41) e41
              have xr5 := xr4.trans x5

              clear e41 e42 hB4 T4 xr4 x5 HAd hRA lB4 hone' hsz' hone hsz
              go_wp2
              go_meet
              exact ⟨p, F, f, cs, rfl, T5, hB5, HS8.out, HF.out, e5, xr5, HNF.out⟩
            · by_cases hk1 : kd = 1
              · subst hk1
                clear hk0
                have HD := Lib.hid (tdrop_no p F f q W0 T0 HQ.out HOUT.out)
                go_wp2_with fail
                refine HD.out.mono ?_; rintro e w5 ⟨rfl, x5⟩
                have T5 := T0.ext x5
                have hB5 := x5.block hB0
                have e5 := x5.cell HBol.out o1
                have xr5 := HX.out.trans x5

                clear o0 o1 o2 hB0 T0 x5 HD hone hsz
                go_wp2
                go_meet
                exact ⟨p, F, f, cs, rfl, T5, hB5, HS8.out, HF.out, e5, xr5, HNF.out⟩
              · by_cases hk2 : kd = 2
                · subst hk2
                  clear hk0 hk1
                  have HD := Lib.hid (tclear_any p F f W0 T0)
                  go_wp2_with fail
                  refine HD.out.mono ?_; rintro e w4 ⟨G, rfl, k4, T4, g4⟩
                  have hB4 := k4.row HF.out hB0
                  have e4 := k4.cell HBF.out o1
                  have xr4 := HX.out.keep k4 HNF.out
                  have hG4 : ¬ G Bw := fun h => (g4 Bw h).elim HF.out (fun x => absurd HBWl.out (by omega))
                  have n4 := HNF.out.grows g4 HX.out
                  have hB5 := setRow_heap _ _ _ #[.int .u16 0, .int .u16 0, .int .u16 0, .int .u16 0, .int .u16 0, .int .u16 0, .int .u16 0, .int .u16 0] _ _ hB4
                  have T5 := T4.keep (keep_setRow _ Bw #[.int .u16 0, .int .u16 0, .int .u16 0, .int .u16 0, .int .u16 0, .int .u16 0, .int .u16 0, .int .u16 0]) (fun q hq e => hG4 (e ▸ hq))
                  have e5 := (cell_setRow_other w4 Bw #[.int .u16 0, .int .u16 0, .int .u16 0, .int .u16 0, .int .u16 0, .int .u16 0, .int .u16 0, .int .u16 0] ⟨Bo, 1, none⟩ HNE.out).trans e4
                  have xr5 := below_setRow xr4 HWB.out #[.int .u16 0, .int .u16 0, .int .u16 0, .int .u16 0, .int .u16 0, .int .u16 0, .int .u16 0, .int .u16 0]
                  clear o0 o1 o2 hB0 T0 k4 g4 HD T4 e4 xr4
                  go_wp2_with (first | (refine wpList_store_row rfl 27 (.tmp 4) (.tmp 103) rfl Bw #[.int .u16 0, .int .u16 0, .int .u16 0, .int .u16 0, .int .u16 0, .int .u16 0, .int .u16 0, .int .u16 0] rfl rfl 27 _ hB4 (by kernel_rfl) hsz Eight.zero.one ?_))
                  go_meet
                  exact ⟨p, G, _, _, rfl, T5, hB5, Eight.zero, hG4, e5, xr5, n4⟩
                · have b0 : (kd == 0) = false := by simpa using hk0
                  have b1 : (kd == 1) = false := by simpa using hk1
                  have b2 : (kd == 2) = false := by simpa using hk2
                  have HD := Lib.hid (tclone_any p F f W0 T0)
                  have HAd := Lib.hid (fun w T => tadd_ok p F f 0 1 w T (by omega) (by omega) (by omega))
                  have HLT := Lib.hid T0.lt
                  clear hk0 hk1 hk2
                  go_wp2_with fail
                  refine HD.out.mono ?_; rintro e w2 ⟨r, G, rfl, x2, T2, n2⟩
                  have T0' := T0.ext x2
                  have hB2 := x2.block hB0
                  have e2 := x2.cell HBol.out o1
                  have xr2 := HX.out.trans x2
                  clear o0 o1 o2 hB0 T0 x2 HD
                  go_wp2_with fail
                  refine (HAd.out _ T0').mono ?_; rintro e w5 ⟨G2, rfl, k5, -, -⟩
                  have T5 := T2.keep k5 (fun i hi hf => absurd (n2 i hi) (by have := HLT.out i hf; omega))
                  have hB5 := k5.row HF.out hB2
                  have e5 := k5.cell HBF.out e2
                  have xr5 := xr2.keep k5 HNF.out
                  have hG5 : ¬ G Bw := fun h => absurd (n2 Bw h) (by have := HBWl.out; omega)
                  have n5 := n2.of HX.out

                  clear T0' hB2 e2 xr2 k5 T2 n2 HAd HLT hone hsz
                  go_wp2
                  go_meet
                  exact ⟨r, G, f, cs, rfl, T5, hB5, HS8.out, hG5, e5, xr5, n5⟩

          case rest =>
            obtain ⟨p', G, f', cs', rfl, T5, hB5, h8', hG5, e5, xr5, n5⟩ := hcut
            have H8' := Lib.hid h8'
            have HG5 := Lib.hid hG5
            have HN5 := Lib.hid n5
            clear o0 o1 o2 T0 hB0 hone hsz h8' hG5 n5
            go_wp2_with fail
            refine (tget_no p' G f' q _ T5 HQ.out HOUT.out).mono ?_; rintro e w6 ⟨rfl, x6⟩
            have T6 := T5.ext x6
            have hB6 := x6.block hB5
            have e6 := x6.cell (World.block_lt_of_cell? _ _ e5) e5
            have xr6 := xr5.trans x6
            have HAl := Lib.hid (fun w' (x : Ext w6 w') => tall_any p' G f' w' (T6.ext x))
            have HHo := Lib.hid (fun w' (x : Ext w6 w') => H8'.out.holds (x.block hB6))
            clear T5 hB5 e5 xr5 x6
            go_wp2_with fail
            refine wp_region_any (by kernel_rfl) ?_
            change wpAny _ _ _ _ _ _ _ (World.drew _)
            refine wpAny_takeD (i := 0) (d := 111) (v := .pointer (some ⟨p', 0, none⟩)) rfl rfl (by kernel_rfl) (by kernel_rfl) (by kernel_rfl) (fun _ _ _ h => h) (Or.inl ⟨by rfl, fun w => by go_simp⟩) ?_
            simp only [Act.put, List.setIfInBounds_toArray, List.set_cons_succ, List.set_cons_zero]
            refine wpAny_takeD (i := 2) (d := 113) (v := .slice (some ⟨Bw, 0, none⟩) 8 8) rfl rfl (by kernel_rfl) (by kernel_rfl) (by kernel_rfl) (fun _ _ _ h => h) (Or.inl ⟨by rfl, fun w => by go_simp⟩) ?_
            simp only [Act.put, List.setIfInBounds_toArray, List.set_cons_succ, List.set_cons_zero]
            refine wpAny_ready (rs := [1]) (by kernel_rfl) (by simp) (AllReady.cons rfl (fun K hK => ?_) AllReady.nil)
            go_simp
            go_wp2_with fail
            refine (HAl.out _ (by (repeat (first | (with_reducible exact Ext.refl _) | (with_reducible assumption) | (with_reducible refine Ext.trans ?_ (Ext.drew _)) | (with_reducible refine Ext.trans ?_ (Ext.drewN _ _)) | (with_reducible refine Ext.alloc' ?_ _) | (with_reducible refine Ext.trans ?_ (by assumption)))))).mono ?_; rintro e w7 ⟨z, u, rfl, -, -, hz, x7⟩
            have y7 : Ext w6 w7 := Ext.trans (by (repeat (first | (with_reducible exact Ext.refl _) | (with_reducible assumption) | (with_reducible refine Ext.trans ?_ (Ext.drew _)) | (with_reducible refine Ext.trans ?_ (Ext.drewN _ _)) | (with_reducible refine Ext.alloc' ?_ _) | (with_reducible refine Ext.trans ?_ (by assumption))))) x7
            clear HAl
            go_wp2_with fail
            refine wpAny_ready (rs := [3]) (by kernel_rfl) (by simp) (AllReady.cons rfl (fun K hK => ?_) AllReady.nil)
            go_simp
            go_wp2_with fail
            refine (words_any _ _ 8 8 _ _ f' f' _ (hz.ext (by (repeat (first | (with_reducible exact Ext.refl _) | (with_reducible assumption) | (with_reducible refine Ext.trans ?_ (Ext.drew _)) | (with_reducible refine Ext.trans ?_ (Ext.drewN _ _)) | (with_reducible refine Ext.alloc' ?_ _) | (with_reducible refine Ext.trans ?_ (by assumption)))))) (HHo.out _ (by (repeat (first | (with_reducible exact Ext.refl _) | (with_reducible assumption) | (with_reducible refine Ext.trans ?_ (Ext.drew _)) | (with_reducible refine Ext.trans ?_ (Ext.drewN _ _)) | (with_reducible refine Ext.alloc' ?_ _) | (with_reducible refine Ext.trans ?_ (by assumption)))))) (by omega) (by omega)).mono ?_; rintro e w8 ⟨rfl, q8⟩
            have y8 : Ext w6 w8 := Ext.trans (by (repeat (first | (with_reducible exact Ext.refl _) | (with_reducible assumption) | (with_reducible refine Ext.trans ?_ (Ext.drew _)) | (with_reducible refine Ext.trans ?_ (Ext.drewN _ _)) | (with_reducible refine Ext.alloc' ?_ _) | (with_reducible refine Ext.trans ?_ (by assumption))))) (Ext.of_drewN q8)
            rw [eqB_true rfl (fun _ _ => rfl)]
            have e8 := y8.cell (World.block_lt_of_cell? _ _ e6) e6
            have T8 := T6.ext y8
            have hB8 := y8.block hB6
            have xr8 := xr6.trans y8
            clear T6 hB6 e6 xr6 x7 hz q8 y7 y8 HHo
            go_wp2_with fail
            refine wpAny_takeD (i := 4) (d := 115) (v := .bool false) rfl rfl (by kernel_rfl) (by kernel_rfl) (by kernel_rfl) (fun _ _ _ h => h) (Or.inl ⟨by rfl, fun w => by go_simp⟩) ?_
            simp only [Act.put, List.setIfInBounds_toArray, List.set_cons_succ, List.set_cons_zero]
            refine wpAny_takeD (i := 5) (d := 116) (v := .bool false) rfl rfl (by kernel_rfl) (by kernel_rfl) (by kernel_rfl) (fun _ _ _ h => h) (Or.inl ⟨by rfl, fun w => by go_simp⟩) ?_
            simp only [Act.put, List.setIfInBounds_toArray, List.set_cons_succ, List.set_cons_zero]
            refine wpAny_takeD (i := 6) (d := 117) (v := .bool false) rfl rfl (by kernel_rfl) (by kernel_rfl) (by kernel_rfl) (fun _ _ _ h => h) (Or.inl ⟨by rfl, fun w => by go_simp⟩) ?_
            simp only [Act.put, List.setIfInBounds_toArray, List.set_cons_succ, List.set_cons_zero]
            refine wpAny_takeD (i := 7) (d := 118) (v := .bool false) rfl rfl (by kernel_rfl) (by kernel_rfl) (by kernel_rfl) (fun _ _ _ h => h) (Or.inl ⟨by rfl, fun w => by go_simp⟩) ?_
            simp only [Act.put, List.setIfInBounds_toArray, List.set_cons_succ, List.set_cons_zero]
            refine wpAny_takeD (i := 8) (d := 119) (v := .bool false) rfl rfl (by kernel_rfl) (by kernel_rfl) (by kernel_rfl) (fun _ _ _ h => h) (Or.inl ⟨by rfl, fun w => by go_simp⟩) ?_
            simp only [Act.put, List.setIfInBounds_toArray, List.set_cons_succ, List.set_cons_zero]
            refine wpAny_takeD (i := 9) (d := 120) (v := .bool false) rfl rfl (by kernel_rfl) (by kernel_rfl) (by kernel_rfl) (fun _ _ _ h => h) (Or.inl ⟨by rfl, fun w => by go_simp⟩) ?_
            simp only [Act.put, List.setIfInBounds_toArray, List.set_cons_succ, List.set_cons_zero]
            refine wpAny_takeD (i := 10) (d := 121) (v := .bool false) rfl rfl (by kernel_rfl) (by kernel_rfl) (by kernel_rfl) (fun _ _ _ h => h) (Or.inl ⟨by rfl, fun w => by go_simp⟩) ?_
            simp only [Act.put, List.setIfInBounds_toArray, List.set_cons_succ, List.set_cons_zero]
            refine wpAny_takeD (i := 11) (d := 122) (v := .bool false) rfl rfl (by kernel_rfl) (by kernel_rfl) (by kernel_rfl) (fun _ _ _ h => h) (Or.inl ⟨by rfl, fun w => by go_simp⟩) ?_
            simp only [Act.put, List.setIfInBounds_toArray, List.set_cons_succ, List.set_cons_zero]
            refine wpAny_takeD (i := 12) (d := 123) (v := .bool false) rfl rfl (by kernel_rfl) (by kernel_rfl) (by kernel_rfl) (fun _ _ _ h => h) (Or.inl ⟨by rfl, fun w => by go_simp⟩) ?_
            simp only [Act.put, List.setIfInBounds_toArray, List.set_cons_succ, List.set_cons_zero]
            refine wpAny_takeD (i := 13) (d := 124) (v := undef) rfl rfl (by kernel_rfl) (by kernel_rfl) (by kernel_rfl) (fun _ _ _ h => h) (Or.inr ⟨by rfl, rfl⟩) ?_
            simp only [Act.put, List.setIfInBounds_toArray, List.set_cons_succ, List.set_cons_zero]
            refine wpAny_takeD (i := 14) (d := 125) (v := undef) rfl rfl (by kernel_rfl) (by kernel_rfl) (by kernel_rfl) (fun _ _ _ h => h) (Or.inr ⟨by rfl, rfl⟩) ?_
            simp only [Act.put, List.setIfInBounds_toArray, List.set_cons_succ, List.set_cons_zero]
            refine wpAny_takeD (i := 15) (d := 126) (v := undef) rfl rfl (by kernel_rfl) (by kernel_rfl) (by kernel_rfl) (fun _ _ _ h => h) (Or.inr ⟨by rfl, rfl⟩) ?_
            simp only [Act.put, List.setIfInBounds_toArray, List.set_cons_succ, List.set_cons_zero]
            refine wpAny_takeD (i := 16) (d := 127) (v := undef) rfl rfl (by kernel_rfl) (by kernel_rfl) (by kernel_rfl) (fun _ _ _ h => h) (Or.inr ⟨by rfl, rfl⟩) ?_
            simp only [Act.put, List.setIfInBounds_toArray, List.set_cons_succ, List.set_cons_zero]
            refine wpAny_takeD (i := 17) (d := 128) (v := undef) rfl rfl (by kernel_rfl) (by kernel_rfl) (by kernel_rfl) (fun _ _ _ h => h) (Or.inr ⟨by rfl, rfl⟩) ?_
            simp only [Act.put, List.setIfInBounds_toArray, List.set_cons_succ, List.set_cons_zero]
            refine wpAny_takeD (i := 18) (d := 129) (v := undef) rfl rfl (by kernel_rfl) (by kernel_rfl) (by kernel_rfl) (fun _ _ _ h => h) (Or.inr ⟨by rfl, rfl⟩) ?_
            simp only [Act.put, List.setIfInBounds_toArray, List.set_cons_succ, List.set_cons_zero]
            refine wpAny_takeD (i := 19) (d := 130) (v := .bool false) rfl rfl (by kernel_rfl) (by kernel_rfl) (by kernel_rfl) (fun _ _ _ h => h) (Or.inl ⟨by rfl, fun w => by go_simp⟩) ?_
            simp only [Act.put, List.setIfInBounds_toArray, List.set_cons_succ, List.set_cons_zero]
            refine wpAny_takeD (i := 20) (d := 131) (v := .bool false) rfl rfl (by kernel_rfl) (by kernel_rfl) (by kernel_rfl) (fun _ _ _ h => h) (Or.inl ⟨by rfl, fun w => by go_simp⟩) ?_
            simp only [Act.put, List.setIfInBounds_toArray, List.set_cons_succ, List.set_cons_zero]
            refine wpAny_takeD (i := 21) (d := 132) (v := .bool false) rfl rfl (by kernel_rfl) (by kernel_rfl) (by kernel_rfl) (fun _ _ _ h => h) (Or.inl ⟨by rfl, fun w => by go_simp⟩) ?_
            simp only [Act.put, List.setIfInBounds_toArray, List.set_cons_succ, List.set_cons_zero]
            refine wpAny_takeD (i := 22) (d := 133) (v := .bool false) rfl rfl (by kernel_rfl) (by kernel_rfl) (by kernel_rfl) (fun _ _ _ h => h) (Or.inl ⟨by rfl, fun w => by go_simp⟩) ?_
            simp only [Act.put, List.setIfInBounds_toArray, List.set_cons_succ, List.set_cons_zero]
            refine wpAny_takeD (i := 23) (d := 134) (v := .bool true) rfl rfl (by kernel_rfl) (by kernel_rfl) (by kernel_rfl) (fun _ _ _ h => h) (Or.inl ⟨by rfl, fun w => by go_simp⟩) ?_
            simp only [Act.put, List.setIfInBounds_toArray, List.set_cons_succ, List.set_cons_zero]
            refine wpAny_takeD (i := 24) (d := 135) (v := .bool true) rfl rfl (by kernel_rfl) (by kernel_rfl) (by kernel_rfl) (fun _ _ _ h => h) (Or.inl ⟨by rfl, fun w => by go_simp⟩) ?_
            simp only [Act.put, List.setIfInBounds_toArray, List.set_cons_succ, List.set_cons_zero]
            refine wpAny_takeD (i := 25) (d := 136) (v := .int .u16 0) rfl rfl (by kernel_rfl) (by kernel_rfl) (by kernel_rfl) (fun _ _ _ h => h) (Or.inl ⟨by rfl, fun w => by go_simp⟩) ?_
            simp only [Act.put, List.setIfInBounds_toArray, List.set_cons_succ, List.set_cons_zero]
            refine wpAny_takeD (i := 26) (d := 137) (v := .bool false) rfl rfl (by kernel_rfl) (by kernel_rfl) (by kernel_rfl) (fun _ _ _ h => h) (Or.inl ⟨by rfl, fun w => by go_simp⟩) ?_
            simp only [Act.put, List.setIfInBounds_toArray, List.set_cons_succ, List.set_cons_zero]
            refine wpAny_takeD (i := 27) (d := 138) (v := .bool false) rfl rfl (by kernel_rfl) (by kernel_rfl) (by kernel_rfl) (fun _ _ _ h => h) (Or.inl ⟨by rfl, fun w => by go_simp⟩) ?_
            simp only [Act.put, List.setIfInBounds_toArray, List.set_cons_succ, List.set_cons_zero]
            refine wpAny_takeD (i := 28) (d := 139) (v := .bool false) rfl rfl (by kernel_rfl) (by kernel_rfl) (by kernel_rfl) (fun _ _ _ h => h) (Or.inl ⟨by rfl, fun w => by go_simp⟩) ?_
            simp only [Act.put, List.setIfInBounds_toArray, List.set_cons_succ, List.set_cons_zero]
            refine wpAny_done (by kernel_rfl) ?_ _
            go_wp2
            go_roundg h
            case rel => exact ⟨i + 1, p', G, f', cs', by omega, by go_num, rfl, T8, hB8, H8'.out, HG5.out, xr8, HN5.out⟩
            case measure => omega
end Go.Proofs.Ytneekigkihbpiaa
