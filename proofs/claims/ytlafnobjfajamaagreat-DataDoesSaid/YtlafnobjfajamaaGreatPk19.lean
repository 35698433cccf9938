/-
  CONTRACTS: bilgeref16 (layer 16): Same, whole, Few.
  CONTRACTS: bilgeref15 (layer 15): whether an ask may be.
  CONTRACTS: bilgeref16 (layer 16): Right.
  CONTRACTS: bilgeref15 (layer 15): what is said by an ask.
  CONTRACTS: bilgeref16 (layer 16): Print.
  CONTRACTS: bilgeref15 (layer 15): the ask that bytes say.
  CONTRACTS: bilgeref15 (layer 15): Parse.
  CONTRACTS: bilgeref17 (layer 17): Serve.
  THE LAWS OF LAYER 17: the walk of DataServes (package data's contracts and 'sure' as premises).
  THE LAWS OF LAYER 17: the walk of DataDoes (package data's contracts and 'sure' as premises).
  CONTRACTS: package data (layer 17): a job in a box: what is asked, the tables as they are now, what is told.
  CONTRACTS: package data (layer 17): what a job reads, tells and writes.
  LAYER 17, PLAIN: what a job comes to, function by function.
-/
import Derived.Test.YtlafnobjfajamaaGreatPk13
import Derived.Test.YtlafnobjfajamaaGreatPk18
import Derived.Test.YtlafnobjfajamaaGreatPk6
import Derived.Deep.DeepCutAuto
import Derived.Test.YtlafnobjfajamaaGreatPk1
import Derived.Test.YtlafnobjfajamaaGreatPk16
import Derived.Laws.CopyOwn
import Derived.Laws.Rows
import Derived.Test.YtlafnobjfajamaaGreatPk5
import Derived.ArgAppend
import Derived.BigQuiet
import Derived.Laws.CopyRow
import Derived.Test.YtlafnobjfajamaaGreatPk15
import Derived.Test.YtlafnobjfajamaaGreatPk2
import Derived.Deep.MidRow
namespace Go.Proofs.YtlafnobjfajamaaGreat
open Go.RowKit
set_option linter.unusedVariables false
theorem rat_none (a : Option Addr) (n c : Nat) (i : Int) (w : World) (hn : n ≤ 1000000) (hi : i < 0 ∨ (n : Int) - 1 ≤ i) :
    Calls Tryz.prog 146 #[.slice a n c, .int .i64 i] w fun e w' => e = .returned (.tuple #[.int .u16 0, .bool false]) ∧ w = w' := by
  by_cases h0 : i < 0
  · go_enter Tryz.func146, Tryz.ntmps146
    go_wp2
    go_ret2
    exact ⟨rfl, rfl⟩
  · have h1 : (n : Int) - 1 ≤ i := by omega
    have h0' : 0 ≤ i := by omega
    clear hi h0
    go_enter Tryz.func146, Tryz.ntmps146
    go_wp2
    go_ret2
    exact ⟨rfl, rfl⟩
theorem rat_some (a : Option Addr) (n c i : Nat) (f : Nat → Int) (w : World) (ha : Holds .u8 w a n f) (hn : n ≤ 1000000) (hi : i + 1 < n) (hf : ∀ i, i < n → 0 ≤ f i ∧ f i < 256) :
    Calls Tryz.prog 146 #[.slice a n c, .int .i64 i] w fun e w' => e = .returned (.tuple #[.int .u16 (f i * 256 + f (i + 1)), .bool true]) ∧ ∃ q, w' = w.drewN q := by
  obtain ⟨p, o, rfl, hp, hc⟩ := ha.resolve_left (by omega)
  have c0 := hc i (by omega)
  have c1 : w.cell? ⟨p, o + (i + 1), none⟩ = some (.int .u8 (f (i + 1))) := hc (i + 1) (by omega)
  obtain ⟨f00, f01⟩ := hf i (by omega)
  obtain ⟨f10, f11⟩ := hf (i + 1) (by omega)
  clear hc ha hf
  have h1 : (i : Int) < (n : Int) - 1 := by omega
  have h0 : 0 ≤ (i : Int) := by omega
  have v1 : IntKind.u16.wrap (f i) = f i := by rw [IntKind.wrap_u16]; omega
  have v2 : IntKind.u16.wrap (f (i + 1)) = f (i + 1) := by rw [IntKind.wrap_u16]; omega
  have v3 : IntKind.u16.wrap (f i * 256) = f i * 256 := by rw [IntKind.wrap_u16]; omega
  have v4 : IntKind.u16.wrap (f i * 256 + f (i + 1)) = f i * 256 + f (i + 1) := by rw [IntKind.wrap_u16]; omega
  go_enter Tryz.func146, Tryz.ntmps146
  go_wp2
  go_quiet (fail)
  go_wp2
  go_ret2
  exact ⟨rfl, _, rfl⟩
set_option maxRecDepth 100000

set_option maxHeartbeats 4000000 in
theorem rsame16_any (V : QstV) (F : Tel) (U : QstV) (G : Tel) (w : World) (h : TelAt w V F) (k : TelAt w U G) (f1 : F.nb ≤ 1000000) (f2 : F.nr ≤ 1000000) (g1 : G.nb ≤ 1000000) (g2 : G.nr ≤ 1000000) :
    Calls Tryz.prog 18 #[.agg (telC V F), .agg (telC U G)] w fun e w' => e = .returned (.bool (sameT F G)) ∧ Ext w w' := by
  have e0 := (Ext.alloc w (.cells (telC V F) 37)).trans (Ext.alloc _ (.cells (telC U G) 37))
  have K1 := Lib.hid (fun w' (hx : Ext w w') => (same_any V.a1 U.a1 F.nb G.nb V.d1 U.d1 F.B G.B w' (h.h1.ext hx) (k.h1.ext hx) f1 g1).mono fun _ _ h => (⟨h.1, Ext.of_drewN h.2⟩ : _ ∧ Ext w' _))
  have K2 := Lib.hid (fun w' (hx : Ext w w') => (words_any V.a2 U.a2 F.nr G.nr V.d2 U.d2 F.R G.R w' (h.h2.ext hx) (k.h2.ext hx) f2 g2).mono fun _ _ h => (⟨h.1, Ext.of_drewN h.2⟩ : _ ∧ Ext w' _))
  have HX := Lib.hid (fun w1 (x1 : Ext ((w.alloc (.cells (telC V F) 37)).alloc (.cells (telC U G) 37)) w1) => (⟨x1.block ((heap_alloc_old _ _ (by simp)).trans (heap_alloc_new w _)), x1.block (heap_new_at _ _ (by simp))⟩ : w1.heap[w.heap.size]? = some (.cells (telC V F) 37 (0, 0)) ∧ w1.heap[w.heap.size + 1]? = some (.cells (telC U G) 37 (0, 0))))
  have HN := Lib.hid (numsT_iff F G)
  unfold sameT
  generalize eqG F.nb G.nb F.B G.B = B1 at K1 ⊢
  generalize eqB F.nr G.nr F.R G.R = B2 at K2 ⊢
  generalize numsT F G = D at HN ⊢
  clear h k f1 f2 g1 g2
  obtain ⟨fk, fcd, fad, fct, fva, fan, foo, fnb, fB, fnr, fR⟩ := F
  obtain ⟨gk, gcd, gad, gct, gva, gan, goo, gnb, gB, gnr, gR⟩ := G
  obtain ⟨a1, d1, a2, d2⟩ := V
  obtain ⟨b1, c1, b2, c2⟩ := U
  unfold telC at e0 HX ⊢
  simp only at e0 HX HN K1 K2 ⊢
  cases hD : D with
  | false =>
    rw [hD] at HN
    clear K1 K2 HX
    have hno : ¬ (fk = gk ∧ fcd = gcd ∧ fad = gad ∧ fct = gct ∧ fva = gva ∧ fan = gan ∧ foo = goo) := fun h => by have := HN.out.2 h; cases this
    have HNo := Lib.hid hno
    clear hno HN hD
    rw [Bool.false_and, Bool.false_and]
    go_enter Tryz.func18, Tryz.ntmps18
    by_cases h0 : fk = gk
    · subst h0
      by_cases h1 : fcd = gcd
      · subst h1
        by_cases h2 : fad = gad
        · subst h2
          by_cases h3 : fct = gct
          · subst h3
            by_cases h4 : fva = gva
            · subst h4
              by_cases h5 : fan = gan
              · subst h5
                by_cases h6 : foo = goo
                · subst h6
                  exact absurd ⟨rfl, rfl, rfl, rfl, rfl, rfl, rfl⟩ HNo.out
                · have hb6 : (foo == goo) = false := by simp [h6]
                  clear HNo
                  go_wp2
                  go_ret
                  exact ⟨rfl, e0⟩
              · have hb5 : (fan == gan) = false := by simp [h5]
                clear HNo
                go_wp2
                go_ret
                exact ⟨rfl, e0⟩
            · have hb4 : (fva == gva) = false := by simp [h4]
              clear HNo
              go_wp2
              go_ret
              exact ⟨rfl, e0⟩
          · have hb3 : (fct == gct) = false := by simp [h3]
            clear HNo
            go_wp2
            go_ret
            exact ⟨rfl, e0⟩
        · have hb2 : (fad == gad) = false := by simp [h2]
          clear HNo
          go_wp2
          go_ret
          exact ⟨rfl, e0⟩
      · have hb1 : (fcd == gcd) = false := by simp [h1]
        clear HNo
        go_wp2
        go_ret
        exact ⟨rfl, e0⟩
    · have hb0 : (fk == gk) = false := by simp [h0]
      clear HNo
      go_wp2
      go_ret
      exact ⟨rfl, e0⟩
  | true =>
    rw [hD] at HN
    obtain ⟨rfl, rfl, rfl, rfl, rfl, rfl, rfl⟩ := HN.out.1 rfl
    clear HN hD
    rw [Bool.true_and]
    cases B1 with
    | false =>
      rw [Bool.false_and]
      go_enter Tryz.func18, Tryz.ntmps18
      go_wp2_with fail
      refine (K1.out _ e0).mono ?_; rintro e w1 ⟨rfl, x1⟩
      have e1 := e0.trans x1
      clear e0 x1
      go_wp2
      go_ret
      exact ⟨rfl, e1⟩
    | true =>
      rw [Bool.true_and]
      go_enter Tryz.func18, Tryz.ntmps18
      go_wp2_with fail
      refine (K1.out _ e0).mono ?_; rintro e w1 ⟨rfl, x1⟩
      have e1 := e0.trans x1
      obtain ⟨gF, gG⟩ := HX.out _ x1
      have p1 := cell_of_heap (j := 8) gF rfl; have q1 := cell_of_heap (j := 8) gG rfl
      clear e0 x1 gF gG
      go_wp2_with fail
      refine (K2.out _ e1).mono ?_; rintro e w2 ⟨rfl, x2⟩
      have e2 := e1.trans x2
      clear e1 x2 p1 q1
      go_wp2
      go_ret
      exact ⟨rfl, e2⟩

set_option maxHeartbeats 8000000 in
theorem rwhole16_any (V : QstV) (Q : Qst) (X : QstV) (nb : Nat) (B : Nat → Bool) (nr : Nat) (R : Nat → Int) (w : World) : Calls Tryz.prog 52 #[.agg (qstC V Q), .slice X.a1 nb X.d1, .slice X.a2 nr X.d2] w fun e w' => e = .returned (.agg (telC (wholeV Q X) (wholeT Q nb B nr R))) ∧ Ext w w' := by
  unfold wholeV wholeT
  obtain ⟨k, ad, ct, va, an, oo, fr, mn, qb, qB, qr, qR⟩ := Q
  obtain ⟨a1, d1, a2, d2⟩ := V
  obtain ⟨x1, e1, x2, e2⟩ := X
  simp only
  by_cases h1 : k = 1
  · subst h1
    simp (config := { decide := true }) only [if_true, if_false]
    unfold qstC telC
    dsimp only [zeroT, zeroQV]
    go_enter Tryz.func52, Tryz.ntmps52
    go_wp2
    refine bodyPost_ret (results_cell_row rfl _ _ (w.heap.size + 1) 37 _ (0, 0) _ rfl ((heap_alloc_old _ _ (by simp)).trans (heap_new_at _ _ (by simp))) Tryz.underlying37 rfl (by kernel_rfl)) rfl ⟨by rfl, ((Ext.alloc w _).trans (Ext.alloc _ _)).trans (Ext.alloc _ _)⟩
  by_cases h2 : k = 2
  · subst h2
    simp (config := { decide := true }) only [if_true, if_false]
    unfold qstC telC
    dsimp only [zeroT, zeroQV]
    go_enter Tryz.func52, Tryz.ntmps52
    go_wp2
    refine bodyPost_ret (results_cell_row rfl _ _ (w.heap.size + 1) 37 _ (0, 0) _ rfl ((heap_alloc_old _ _ (by simp)).trans (heap_new_at _ _ (by simp))) Tryz.underlying37 rfl (by kernel_rfl)) rfl ⟨by rfl, ((Ext.alloc w _).trans (Ext.alloc _ _)).trans (Ext.alloc _ _)⟩
  by_cases h3 : k = 3
  · subst h3
    simp (config := { decide := true }) only [if_true, if_false]
    unfold qstC telC
    dsimp only [zeroT, zeroQV]
    go_enter Tryz.func52, Tryz.ntmps52
    go_wp2
    refine bodyPost_ret (results_cell_row rfl _ _ (w.heap.size + 1) 37 _ (0, 0) _ rfl ((heap_alloc_old _ _ (by simp)).trans (heap_new_at _ _ (by simp))) Tryz.underlying37 rfl (by kernel_rfl)) rfl ⟨by rfl, ((Ext.alloc w _).trans (Ext.alloc _ _)).trans (Ext.alloc _ _)⟩
  by_cases h4 : k = 4
  · subst h4
    simp (config := { decide := true }) only [if_true, if_false]
    unfold qstC telC
    dsimp only [zeroT, zeroQV]
    go_enter Tryz.func52, Tryz.ntmps52
    go_wp2
    refine bodyPost_ret (results_cell_row rfl _ _ (w.heap.size + 1) 37 _ (0, 0) _ rfl ((heap_alloc_old _ _ (by simp)).trans (heap_new_at _ _ (by simp))) Tryz.underlying37 rfl (by kernel_rfl)) rfl ⟨by rfl, ((Ext.alloc w _).trans (Ext.alloc _ _)).trans (Ext.alloc _ _)⟩
  by_cases h5 : k = 5
  · subst h5
    simp (config := { decide := true }) only [if_true, if_false]
    unfold qstC telC
    dsimp only [zeroT, zeroQV]
    go_enter Tryz.func52, Tryz.ntmps52
    go_wp2
    refine bodyPost_ret (results_cell_row rfl _ _ (w.heap.size + 1) 37 _ (0, 0) _ rfl ((heap_alloc_old _ _ (by simp)).trans (heap_new_at _ _ (by simp))) Tryz.underlying37 rfl (by kernel_rfl)) rfl ⟨by rfl, ((Ext.alloc w _).trans (Ext.alloc _ _)).trans (Ext.alloc _ _)⟩
  by_cases h6 : k = 6
  · subst h6
    simp (config := { decide := true }) only [if_true, if_false]
    unfold qstC telC
    dsimp only [zeroT, zeroQV]
    go_enter Tryz.func52, Tryz.ntmps52
    go_wp2
    refine bodyPost_ret (results_cell_row rfl _ _ (w.heap.size + 1) 37 _ (0, 0) _ rfl ((heap_alloc_old _ _ (by simp)).trans (heap_new_at _ _ (by simp))) Tryz.underlying37 rfl (by kernel_rfl)) rfl ⟨by rfl, ((Ext.alloc w _).trans (Ext.alloc _ _)).trans (Ext.alloc _ _)⟩
  by_cases h15 : k = 15
  · subst h15
    simp (config := { decide := true }) only [if_true, if_false]
    unfold qstC telC
    dsimp only [zeroT, zeroQV]
    go_enter Tryz.func52, Tryz.ntmps52
    go_wp2
    refine bodyPost_ret (results_cell_row rfl _ _ (w.heap.size + 1) 37 _ (0, 0) _ rfl ((heap_alloc_old _ _ (by simp)).trans (heap_new_at _ _ (by simp))) Tryz.underlying37 rfl (by kernel_rfl)) rfl ⟨by rfl, ((Ext.alloc w _).trans (Ext.alloc _ _)).trans (Ext.alloc _ _)⟩
  by_cases h16 : k = 16
  · subst h16
    simp (config := { decide := true }) only [if_true, if_false]
    unfold qstC telC
    dsimp only [zeroT, zeroQV]
    go_enter Tryz.func52, Tryz.ntmps52
    go_wp2
    refine bodyPost_ret (results_cell_row rfl _ _ (w.heap.size + 1) 37 _ (0, 0) _ rfl ((heap_alloc_old _ _ (by simp)).trans (heap_new_at _ _ (by simp))) Tryz.underlying37 rfl (by kernel_rfl)) rfl ⟨by rfl, ((Ext.alloc w _).trans (Ext.alloc _ _)).trans (Ext.alloc _ _)⟩
  by_cases h22 : k = 22
  · subst h22
    simp (config := { decide := true }) only [if_true, if_false]
    unfold qstC telC
    dsimp only [zeroT, zeroQV]
    go_enter Tryz.func52, Tryz.ntmps52
    go_wp2
    refine bodyPost_ret (results_cell_row rfl _ _ (w.heap.size + 1) 37 _ (0, 0) _ rfl ((heap_alloc_old _ _ (by simp)).trans (heap_new_at _ _ (by simp))) Tryz.underlying37 rfl (by kernel_rfl)) rfl ⟨by rfl, ((Ext.alloc w _).trans (Ext.alloc _ _)).trans (Ext.alloc _ _)⟩
  by_cases h23 : k = 23
  · subst h23
    simp (config := { decide := true }) only [if_true, if_false]
    unfold qstC telC
    dsimp only [zeroT, zeroQV]
    go_enter Tryz.func52, Tryz.ntmps52
    go_wp2
    refine bodyPost_ret (results_cell_row rfl _ _ (w.heap.size + 1) 37 _ (0, 0) _ rfl ((heap_alloc_old _ _ (by simp)).trans (heap_new_at _ _ (by simp))) Tryz.underlying37 rfl (by kernel_rfl)) rfl ⟨by rfl, ((Ext.alloc w _).trans (Ext.alloc _ _)).trans (Ext.alloc _ _)⟩
  rw [if_neg (by omega), if_neg (by omega), if_neg (by omega), if_neg (by omega), if_neg (by omega), if_neg (by omega), if_neg (by omega)]
  unfold qstC telC
  dsimp only [zeroT, zeroQV]
  go_enter Tryz.func52, Tryz.ntmps52
  go_wp2
  refine bodyPost_ret (results_cell_row rfl _ _ (w.heap.size + 1) 37 _ (0, 0) _ rfl ((heap_alloc_old _ _ (by simp)).trans (heap_new_at _ _ (by simp))) Tryz.underlying37 rfl (by kernel_rfl)) rfl ⟨by rfl, ((Ext.alloc w _).trans (Ext.alloc _ _)).trans (Ext.alloc _ _)⟩

def fewQA (T : Qst) : Bool := decide (T.nb ≤ 2100 ∧ T.nr ≤ 300)
theorem fewQA_iff (T : Qst) : fewQA T = true ↔ T.nb ≤ 2100 ∧ T.nr ≤ 300 := by unfold fewQA; rw [decide_eq_true_iff]
set_option maxHeartbeats 2000000 in
theorem rfew16A_v {V : QstV} {T : Qst} {B : Bool} (h : fewQA T = B) (n1 : T.nb ≤ 1000000000000000) (n2 : T.nr ≤ 1000000000000000) (w : World) : Calls Tryz.prog 10 #[.agg (qstC V T)] w fun e w' => e = .returned (.bool B) ∧ Ext w w' := by
  have H := Lib.hid (fewQA_iff T)
  rw [h] at H
  have e0 := Ext.alloc w (.cells (qstC V T) 31)
  have c8 : (w.alloc (.cells (qstC V T) 31)).cell? ⟨w.heap.size, 8, none⟩ = some (.slice V.a1 T.nb V.d1) := cell_of_heap (heap_alloc_new w _) rfl
  have c9 : (w.alloc (.cells (qstC V T) 31)).cell? ⟨w.heap.size, 9, none⟩ = some (.slice V.a2 T.nr V.d2) := cell_of_heap (heap_alloc_new w _) rfl
  clear h
  by_cases h1 : T.nb ≤ 2100
  · have hd1 : decide ((T.nb : Int) ≤ 2100) = true := decide_eq_true (by omega)
    by_cases h2 : T.nr ≤ 300
    · have hd2 : decide ((T.nr : Int) ≤ 300) = true := decide_eq_true (by omega)
      obtain rfl : B = true := H.out.2 ⟨h1, h2⟩
      clear H h1 h2
      go_enter Tryz.func10, Tryz.ntmps10
      go_wp2
      go_ret
      exact ⟨rfl, e0⟩
    · have hd2 : decide ((T.nr : Int) ≤ 300) = false := decide_eq_false (by omega)
      have hB : B = false := by
        cases B
        · rfl
        · exact absurd (H.out.1 rfl).2 h2
      subst hB
      clear H h1 h2
      go_enter Tryz.func10, Tryz.ntmps10
      go_wp2
      go_ret
      exact ⟨rfl, e0⟩
  · have hd1 : decide ((T.nb : Int) ≤ 2100) = false := decide_eq_false (by omega)
    have hB : B = false := by
      cases B
      · rfl
      · exact absurd (H.out.1 rfl).1 h1
    subst hB
    clear H h1
    go_enter Tryz.func10, Tryz.ntmps10
    go_wp2
    go_ret
    exact ⟨rfl, e0⟩
end Go.Proofs.YtlafnobjfajamaaGreat
namespace Go.Proofs.YtlafnobjfajamaaGreat
open Go.RowKit
set_option linter.unusedVariables false

theorem asked_row (w : World) (z cs : Array Value) (t : TypeId) : Ext w ((w.alloc (.cells z t)).setRow w.heap.size cs) ∧ ((w.alloc (.cells z t)).setRow w.heap.size cs).heap[w.heap.size]? = some (.cells cs t (0, 0)) :=
  ⟨below_setRow (Ext.alloc w _) (Nat.le_refl _) cs, setRow_heap _ _ _ _ _ _ (heap_alloc_new w _)⟩
theorem own_small {Q : Qst} : (ownQ Q).nb ≤ Q.nb ∧ (ownQ Q).nr ≤ Q.nr := by
  unfold ownQ
  split
  · exact ⟨Nat.zero_le _, Nat.zero_le _⟩
  split
  · exact ⟨Nat.zero_le _, Nat.zero_le _⟩
  split
  · exact ⟨Nat.le_refl _, Nat.zero_le _⟩
  split
  · exact ⟨Nat.zero_le _, Nat.le_refl _⟩
  split
  · exact ⟨Nat.zero_le _, Nat.zero_le _⟩
  split
  · exact ⟨Nat.zero_le _, Nat.le_refl _⟩
  · exact ⟨Nat.zero_le _, Nat.zero_le _⟩
theorem right_parts (Q : Qst) : rightQ Q = (knownB Q.k && sameQ Q (ownQ Q) && inB Q.ad 0 65535 && fitsB Q) := rfl
set_option maxRecDepth 100000 in
set_option maxHeartbeats 8000000 in
theorem rright15_any (V : QstV) (Q : Qst) (w : World) (h : QstAt w V Q) (n1 : Q.nb ≤ 1000000) (n2 : Q.nr ≤ 1000000) : Calls Tryz.prog 16 #[.agg (qstC V Q)] w fun e w' => e = .returned (.bool (rightQ Q)) ∧ Ext w w' := by
  have KO := Lib.hid (fun w' => ronly15_any V Q w')
  have KS := Lib.hid (fun w' (hx : Ext w w') => rsame15_any V Q (ownV V Q) (ownQ Q) w' (h.ext hx) (own_at (h.ext hx)) n1 n2 (Nat.le_trans own_small.1 n1) (Nat.le_trans own_small.2 n2))
  have hnb : (Q.nb : Int) ≤ 1000000 := by omega
  have hnr : (Q.nr : Int) ≤ 1000000 := by omega
  rw [right_parts]
  obtain ⟨OV, hOV⟩ : ∃ O, O = ownV V Q := ⟨_, rfl⟩
  obtain ⟨OQ, hOQ⟩ : ∃ O, O = ownQ Q := ⟨_, rfl⟩
  rw [← hOV, ← hOQ] at KO KS
  rw [← hOQ]
  clear hOV hOQ h n1 n2
  have HFit := Lib.hid (show fitsB Q = _ from rfl)
  generalize sameQ Q OQ = B1 at KS ⊢
  obtain ⟨W0, hW0, HX, He⟩ : ∃ W0, W0 = w.alloc (.cells (qstC V Q) 31) ∧ Hid (∀ W, Ext W0 W → W.heap[w.heap.size]? = some (.cells (qstC V Q) 31 (0, 0))) ∧ Hid (Ext w W0) := ⟨_, rfl, Lib.hid fun W hx => hx.block (heap_alloc_new w _), Lib.hid (Ext.alloc w _)⟩
  have HC := Lib.hid (fun W (hx : Ext W0 W) => (⟨cell_of_heap (HX.out W hx) rfl, cell_of_heap (HX.out W hx) rfl, cell_of_heap (HX.out W hx) rfl, cell_of_heap (HX.out W hx) rfl, cell_of_heap (HX.out W hx) rfl, cell_of_heap (HX.out W hx) rfl, cell_of_heap (HX.out W hx) rfl, cell_of_heap (HX.out W hx) rfl, cell_of_heap (HX.out W hx) rfl, cell_of_heap (HX.out W hx) rfl⟩ :
    W.cell? ⟨w.heap.size, 0, none⟩ = some (.int .i64 Q.k) ∧ W.cell? ⟨w.heap.size, 1, none⟩ = some (.int .i64 Q.ad) ∧ W.cell? ⟨w.heap.size, 2, none⟩ = some (.int .i64 Q.ct) ∧ W.cell? ⟨w.heap.size, 3, none⟩ = some (.int .i64 Q.va) ∧ W.cell? ⟨w.heap.size, 4, none⟩ = some (.int .i64 Q.an) ∧ W.cell? ⟨w.heap.size, 5, none⟩ = some (.int .i64 Q.oo) ∧ W.cell? ⟨w.heap.size, 6, none⟩ = some (.int .i64 Q.fr) ∧ W.cell? ⟨w.heap.size, 7, none⟩ = some (.int .i64 Q.mn) ∧ W.cell? ⟨w.heap.size, 8, none⟩ = some (.slice V.a1 Q.nb V.d1) ∧ W.cell? ⟨w.heap.size, 9, none⟩ = some (.slice V.a2 Q.nr V.d2)))
  cases hk : knownB Q.k with
  | false =>
    rw [hk] at KO
    simp only [Bool.false_and]
    clear HFit HC KS hk
    go_enter Tryz.func16, Tryz.ntmps16
    go_upto_region 1 with fail
    rw [← hW0]
    clear hW0
    have gA := HX.out W0 (Ext.refl _)
    go_wp2_with (first
      | (refine wpList_load_row rfl 31 (.tmp 1) rfl (w.heap.size) rfl 31 _ (0, 0) _ gA Tryz.underlying31 rfl (by kernel_rfl) ?_))
    refine (KO.out _).mono ?_; rintro e w1 ⟨rfl, x1⟩
    obtain ⟨W1, hW1, y1, b1⟩ : ∃ W, W = ((w1.alloc (.cells #[.int .i64 0, .int .i64 0, .int .i64 0, .int .i64 0, .int .i64 0, .int .i64 0, .int .i64 0, .int .i64 0, .slice none 0 0, .slice none 0 0] 31)).setRow w1.heap.size (qstC OV OQ)) ∧ Ext w1 W ∧ W.heap[w1.heap.size]? = some (.cells (qstC OV OQ) 31 (0, 0)) := ⟨_, rfl, asked_row _ _ _ _⟩
    have x1 := x1.trans y1
    clear y1 gA
    go_wp2_with (first
      | (refine wpList_store_row rfl 31 (.tmp 3) (.tmp 8) rfl _ _ rfl rfl 31 _ (heap_new_at _ _ (by first | rfl | simp)) (by kernel_rfl) rfl (by simp [qstC, Value.oneCell']) ?_))
    rw [← hW1]
    go_wp2
    go_ret
    exact ⟨rfl, He.out.trans x1⟩
  | true =>
    rw [hk] at KO
    simp only [Bool.true_and]
    cases B1 with
    | false =>
      simp only [Bool.false_and]
      clear HFit hk
      go_enter Tryz.func16, Tryz.ntmps16
      go_upto_region 1 with fail
      rw [← hW0]
      clear hW0
      have gA := HX.out W0 (Ext.refl _)
      go_wp2_with (first
        | (refine wpList_load_row rfl 31 (.tmp 1) rfl (w.heap.size) rfl 31 _ (0, 0) _ gA Tryz.underlying31 rfl (by kernel_rfl) ?_))
      refine (KO.out _).mono ?_; rintro e w1 ⟨rfl, x1⟩
      obtain ⟨W1, hW1, y1, b1⟩ : ∃ W, W = ((w1.alloc (.cells #[.int .i64 0, .int .i64 0, .int .i64 0, .int .i64 0, .int .i64 0, .int .i64 0, .int .i64 0, .int .i64 0, .slice none 0 0, .slice none 0 0] 31)).setRow w1.heap.size (qstC OV OQ)) ∧ Ext w1 W ∧ W.heap[w1.heap.size]? = some (.cells (qstC OV OQ) 31 (0, 0)) := ⟨_, rfl, asked_row _ _ _ _⟩
      have x1 := x1.trans y1
      clear y1 gA
      have gA := HX.out _ x1
      have b1' := b1
      rw [hW1] at gA b1'
      go_wp2_with (first
        | (refine wpList_store_row rfl 31 (.tmp 3) (.tmp 8) rfl _ _ rfl rfl 31 _ (heap_new_at _ _ (by first | rfl | simp)) (by kernel_rfl) rfl (by simp [qstC, Value.oneCell']) ?_)
        | (refine wpList_load_row_g (by rfl) 31 (.tmp 1) rfl (w.heap.size) rfl 31 _ (0, 0) _ gA Tryz.underlying31 rfl (by kernel_rfl) ?_)
        | (refine wpList_load_row_g (by rfl) 31 (.tmp 3) rfl (w1.heap.size) rfl 31 _ (0, 0) _ b1' Tryz.underlying31 rfl (by kernel_rfl) ?_))
      rw [← hW1]
      refine (KS.out _ (He.out.trans x1)).mono ?_; rintro e w2 ⟨rfl, x2⟩
      have x2 := x1.trans x2
      clear gA b1' b1 hW1 x1
      obtain ⟨-, c1, -⟩ := HC.out _ x2
      clear c1
      go_wp2
      go_ret
      exact ⟨rfl, He.out.trans x2⟩
    | true =>
      simp only [Bool.true_and]
      cases hi : inB Q.ad 0 65535 with
      | false =>
        have HI := Lib.hid hi
        simp only [Bool.false_and]
        clear HFit hk hi
        go_enter Tryz.func16, Tryz.ntmps16
        go_upto_region 1 with fail
        rw [← hW0]
        clear hW0
        have gA := HX.out W0 (Ext.refl _)
        go_wp2_with (first
          | (refine wpList_load_row rfl 31 (.tmp 1) rfl (w.heap.size) rfl 31 _ (0, 0) _ gA Tryz.underlying31 rfl (by kernel_rfl) ?_))
        refine (KO.out _).mono ?_; rintro e w1 ⟨rfl, x1⟩
        obtain ⟨W1, hW1, y1, b1⟩ : ∃ W, W = ((w1.alloc (.cells #[.int .i64 0, .int .i64 0, .int .i64 0, .int .i64 0, .int .i64 0, .int .i64 0, .int .i64 0, .int .i64 0, .slice none 0 0, .slice none 0 0] 31)).setRow w1.heap.size (qstC OV OQ)) ∧ Ext w1 W ∧ W.heap[w1.heap.size]? = some (.cells (qstC OV OQ) 31 (0, 0)) := ⟨_, rfl, asked_row _ _ _ _⟩
        have x1 := x1.trans y1
        clear y1 gA
        have gA := HX.out _ x1
        have b1' := b1
        rw [hW1] at gA b1'
        go_wp2_with (first
          | (refine wpList_store_row rfl 31 (.tmp 3) (.tmp 8) rfl _ _ rfl rfl 31 _ (heap_new_at _ _ (by first | rfl | simp)) (by kernel_rfl) rfl (by simp [qstC, Value.oneCell']) ?_)
          | (refine wpList_load_row_g (by rfl) 31 (.tmp 1) rfl (w.heap.size) rfl 31 _ (0, 0) _ gA Tryz.underlying31 rfl (by kernel_rfl) ?_)
          | (refine wpList_load_row_g (by rfl) 31 (.tmp 3) rfl (w1.heap.size) rfl 31 _ (0, 0) _ b1' Tryz.underlying31 rfl (by kernel_rfl) ?_))
        rw [← hW1]
        refine (KS.out _ (He.out.trans x1)).mono ?_; rintro e w2 ⟨rfl, x2⟩
        have x2 := x1.trans x2
        clear gA b1' b1 hW1 x1
        obtain ⟨-, c1, -⟩ := HC.out _ x2
        go_wp2_with fail
        refine (rin15_v HI.out _).mono ?_; rintro e w3 ⟨rfl, rfl⟩
        clear c1
        go_wp2
        go_ret
        exact ⟨rfl, He.out.trans x2⟩
      | true =>
        have HI := Lib.hid hi
        simp only [Bool.true_and]
        have hkk := (known_iff Q.k).1 hk
        clear HFit hk hi
        unfold fitsB
        rcases hkk with hk1 | hk2 | hk3 | hk4 | hk5 | hk6 | hk15 | hk16 | hk22 | hk23
        · have HK := Lib.hid hk1
          rw [hk1]

          simp (config := { decide := true }) only [if_true, if_false]
          obtain ⟨B2, h2⟩ : ∃ B, inB Q.ct 1 2000 = B := ⟨_, rfl⟩
          rw [h2]
          have H2 := Lib.hid h2
          clear h2
          clear hk1
          go_enter Tryz.func16, Tryz.ntmps16
          go_upto_region 1 with fail
          rw [← hW0]
          clear hW0
          have gA := HX.out W0 (Ext.refl _)
          go_wp2_with (first
            | (refine wpList_load_row rfl 31 (.tmp 1) rfl (w.heap.size) rfl 31 _ (0, 0) _ gA Tryz.underlying31 rfl (by kernel_rfl) ?_))
          refine (KO.out _).mono ?_; rintro e w1 ⟨rfl, x1⟩
          obtain ⟨W1, hW1, y1, b1⟩ : ∃ W, W = ((w1.alloc (.cells #[.int .i64 0, .int .i64 0, .int .i64 0, .int .i64 0, .int .i64 0, .int .i64 0, .int .i64 0, .int .i64 0, .slice none 0 0, .slice none 0 0] 31)).setRow w1.heap.size (qstC OV OQ)) ∧ Ext w1 W ∧ W.heap[w1.heap.size]? = some (.cells (qstC OV OQ) 31 (0, 0)) := ⟨_, rfl, asked_row _ _ _ _⟩
          have x1 := x1.trans y1
          clear y1 gA
          have gA := HX.out _ x1
          have b1' := b1
          rw [hW1] at gA b1'
          go_wp2_with (first
            | (refine wpList_store_row rfl 31 (.tmp 3) (.tmp 8) rfl _ _ rfl rfl 31 _ (heap_new_at _ _ (by first | rfl | simp)) (by kernel_rfl) rfl (by simp [qstC, Value.oneCell']) ?_)
            | (refine wpList_load_row_g (by rfl) 31 (.tmp 1) rfl (w.heap.size) rfl 31 _ (0, 0) _ gA Tryz.underlying31 rfl (by kernel_rfl) ?_)
            | (refine wpList_load_row_g (by rfl) 31 (.tmp 3) rfl (w1.heap.size) rfl 31 _ (0, 0) _ b1' Tryz.underlying31 rfl (by kernel_rfl) ?_))
          rw [← hW1]
          refine (KS.out _ (He.out.trans x1)).mono ?_; rintro e w2 ⟨rfl, x2⟩
          have x2 := x1.trans x2
          clear gA b1' b1 hW1 x1
          obtain ⟨-, c1, -⟩ := HC.out _ x2
          go_wp2_with fail
          refine (rin15_v HI.out _).mono ?_; rintro e w3 ⟨rfl, rfl⟩
          clear c1
          obtain ⟨c0, c1, c2, c3, c4, c5, c6, c7, c8, c9⟩ := HC.out _ x2
          rw [HK.out] at c0
          go_wp2_with fail
          refine (rin15_v H2.out _).mono ?_; rintro e w4 ⟨rfl, rfl⟩
          go_wp2
          go_ret
          exact ⟨rfl, He.out.trans x2⟩
        · have HK := Lib.hid hk2
          rw [hk2]

          simp (config := { decide := true }) only [if_true, if_false]
          obtain ⟨B2, h2⟩ : ∃ B, inB Q.ct 1 2000 = B := ⟨_, rfl⟩
          rw [h2]
          have H2 := Lib.hid h2
          clear h2
          clear hk2
          go_enter Tryz.func16, Tryz.ntmps16
          go_upto_region 1 with fail
          rw [← hW0]
          clear hW0
          have gA := HX.out W0 (Ext.refl _)
          go_wp2_with (first
            | (refine wpList_load_row rfl 31 (.tmp 1) rfl (w.heap.size) rfl 31 _ (0, 0) _ gA Tryz.underlying31 rfl (by kernel_rfl) ?_))
          refine (KO.out _).mono ?_; rintro e w1 ⟨rfl, x1⟩
          obtain ⟨W1, hW1, y1, b1⟩ : ∃ W, W = ((w1.alloc (.cells #[.int .i64 0, .int .i64 0, .int .i64 0, .int .i64 0, .int .i64 0, .int .i64 0, .int .i64 0, .int .i64 0, .slice none 0 0, .slice none 0 0] 31)).setRow w1.heap.size (qstC OV OQ)) ∧ Ext w1 W ∧ W.heap[w1.heap.size]? = some (.cells (qstC OV OQ) 31 (0, 0)) := ⟨_, rfl, asked_row _ _ _ _⟩
          have x1 := x1.trans y1
          clear y1 gA
          have gA := HX.out _ x1
          have b1' := b1
          rw [hW1] at gA b1'
          go_wp2_with (first
            | (refine wpList_store_row rfl 31 (.tmp 3) (.tmp 8) rfl _ _ rfl rfl 31 _ (heap_new_at _ _ (by first | rfl | simp)) (by kernel_rfl) rfl (by simp [qstC, Value.oneCell']) ?_)
            | (refine wpList_load_row_g (by rfl) 31 (.tmp 1) rfl (w.heap.size) rfl 31 _ (0, 0) _ gA Tryz.underlying31 rfl (by kernel_rfl) ?_)
            | (refine wpList_load_row_g (by rfl) 31 (.tmp 3) rfl (w1.heap.size) rfl 31 _ (0, 0) _ b1' Tryz.underlying31 rfl (by kernel_rfl) ?_))
          rw [← hW1]
          refine (KS.out _ (He.out.trans x1)).mono ?_; rintro e w2 ⟨rfl, x2⟩
          have x2 := x1.trans x2
          clear gA b1' b1 hW1 x1
          obtain ⟨-, c1, -⟩ := HC.out _ x2
          go_wp2_with fail
          refine (rin15_v HI.out _).mono ?_; rintro e w3 ⟨rfl, rfl⟩
          clear c1
          obtain ⟨c0, c1, c2, c3, c4, c5, c6, c7, c8, c9⟩ := HC.out _ x2
          rw [HK.out] at c0
          go_wp2_with fail
          refine (rin15_v H2.out _).mono ?_; rintro e w4 ⟨rfl, rfl⟩
          go_wp2
          go_ret
          exact ⟨rfl, He.out.trans x2⟩
        · have HK := Lib.hid hk3
          rw [hk3]

          simp (config := { decide := true }) only [if_true, if_false]
          obtain ⟨B2, h2⟩ : ∃ B, inB Q.ct 1 125 = B := ⟨_, rfl⟩
          rw [h2]
          have H2 := Lib.hid h2
          clear h2
          clear hk3
          go_enter Tryz.func16, Tryz.ntmps16
          go_upto_region 1 with fail
          rw [← hW0]
          clear hW0
          have gA := HX.out W0 (Ext.refl _)
          go_wp2_with (first
            | (refine wpList_load_row rfl 31 (.tmp 1) rfl (w.heap.size) rfl 31 _ (0, 0) _ gA Tryz.underlying31 rfl (by kernel_rfl) ?_))
          refine (KO.out _).mono ?_; rintro e w1 ⟨rfl, x1⟩
          obtain ⟨W1, hW1, y1, b1⟩ : ∃ W, W = ((w1.alloc (.cells #[.int .i64 0, .int .i64 0, .int .i64 0, .int .i64 0, .int .i64 0, .int .i64 0, .int .i64 0, .int .i64 0, .slice none 0 0, .slice none 0 0] 31)).setRow w1.heap.size (qstC OV OQ)) ∧ Ext w1 W ∧ W.heap[w1.heap.size]? = some (.cells (qstC OV OQ) 31 (0, 0)) := ⟨_, rfl, asked_row _ _ _ _⟩
          have x1 := x1.trans y1
          clear y1 gA
          have gA := HX.out _ x1
          have b1' := b1
          rw [hW1] at gA b1'
          go_wp2_with (first
            | (refine wpList_store_row rfl 31 (.tmp 3) (.tmp 8) rfl _ _ rfl rfl 31 _ (heap_new_at _ _ (by first | rfl | simp)) (by kernel_rfl) rfl (by simp [qstC, Value.oneCell']) ?_)
            | (refine wpList_load_row_g (by rfl) 31 (.tmp 1) rfl (w.heap.size) rfl 31 _ (0, 0) _ gA Tryz.underlying31 rfl (by kernel_rfl) ?_)
            | (refine wpList_load_row_g (by rfl) 31 (.tmp 3) rfl (w1.heap.size) rfl 31 _ (0, 0) _ b1' Tryz.underlying31 rfl (by kernel_rfl) ?_))
          rw [← hW1]
          refine (KS.out _ (He.out.trans x1)).mono ?_; rintro e w2 ⟨rfl, x2⟩
          have x2 := x1.trans x2
          clear gA b1' b1 hW1 x1
          obtain ⟨-, c1, -⟩ := HC.out _ x2
          go_wp2_with fail
          refine (rin15_v HI.out _).mono ?_; rintro e w3 ⟨rfl, rfl⟩
          clear c1
          obtain ⟨c0, c1, c2, c3, c4, c5, c6, c7, c8, c9⟩ := HC.out _ x2
          rw [HK.out] at c0
          go_wp2_with fail
          refine (rin15_v H2.out _).mono ?_; rintro e w4 ⟨rfl, rfl⟩
          go_wp2
          go_ret
          exact ⟨rfl, He.out.trans x2⟩
        · have HK := Lib.hid hk4
          rw [hk4]

          simp (config := { decide := true }) only [if_true, if_false]
          obtain ⟨B2, h2⟩ : ∃ B, inB Q.ct 1 125 = B := ⟨_, rfl⟩
          rw [h2]
          have H2 := Lib.hid h2
          clear h2
          clear hk4
          go_enter Tryz.func16, Tryz.ntmps16
          go_upto_region 1 with fail
          rw [← hW0]
          clear hW0
          have gA := HX.out W0 (Ext.refl _)
          go_wp2_with (first
            | (refine wpList_load_row rfl 31 (.tmp 1) rfl (w.heap.size) rfl 31 _ (0, 0) _ gA Tryz.underlying31 rfl (by kernel_rfl) ?_))
          refine (KO.out _).mono ?_; rintro e w1 ⟨rfl, x1⟩
          obtain ⟨W1, hW1, y1, b1⟩ : ∃ W, W = ((w1.alloc (.cells #[.int .i64 0, .int .i64 0, .int .i64 0, .int .i64 0, .int .i64 0, .int .i64 0, .int .i64 0, .int .i64 0, .slice none 0 0, .slice none 0 0] 31)).setRow w1.heap.size (qstC OV OQ)) ∧ Ext w1 W ∧ W.heap[w1.heap.size]? = some (.cells (qstC OV OQ) 31 (0, 0)) := ⟨_, rfl, asked_row _ _ _ _⟩
          have x1 := x1.trans y1
          clear y1 gA
          have gA := HX.out _ x1
          have b1' := b1
          rw [hW1] at gA b1'
          go_wp2_with (first
            | (refine wpList_store_row rfl 31 (.tmp 3) (.tmp 8) rfl _ _ rfl rfl 31 _ (heap_new_at _ _ (by first | rfl | simp)) (by kernel_rfl) rfl (by simp [qstC, Value.oneCell']) ?_)
            | (refine wpList_load_row_g (by rfl) 31 (.tmp 1) rfl (w.heap.size) rfl 31 _ (0, 0) _ gA Tryz.underlying31 rfl (by kernel_rfl) ?_)
            | (refine wpList_load_row_g (by rfl) 31 (.tmp 3) rfl (w1.heap.size) rfl 31 _ (0, 0) _ b1' Tryz.underlying31 rfl (by kernel_rfl) ?_))
          rw [← hW1]
          refine (KS.out _ (He.out.trans x1)).mono ?_; rintro e w2 ⟨rfl, x2⟩
          have x2 := x1.trans x2
          clear gA b1' b1 hW1 x1
          obtain ⟨-, c1, -⟩ := HC.out _ x2
          go_wp2_with fail
          refine (rin15_v HI.out _).mono ?_; rintro e w3 ⟨rfl, rfl⟩
          clear c1
          obtain ⟨c0, c1, c2, c3, c4, c5, c6, c7, c8, c9⟩ := HC.out _ x2
          rw [HK.out] at c0
          go_wp2_with fail
          refine (rin15_v H2.out _).mono ?_; rintro e w4 ⟨rfl, rfl⟩
          go_wp2
          go_ret
          exact ⟨rfl, He.out.trans x2⟩
        · have HK := Lib.hid hk5
          rw [hk5]

          simp (config := { decide := true }) only [if_true, if_false]
          clear hk5
          by_cases hv0 : Q.va = 0
          · have hb : (Q.va == 0) = true := by simp [hv0]
            rw [decide_eq_true (Or.inl hv0)]
            clear hv0
            go_enter Tryz.func16, Tryz.ntmps16
            go_upto_region 1 with fail
            rw [← hW0]
            clear hW0
            have gA := HX.out W0 (Ext.refl _)
            go_wp2_with (first
              | (refine wpList_load_row rfl 31 (.tmp 1) rfl (w.heap.size) rfl 31 _ (0, 0) _ gA Tryz.underlying31 rfl (by kernel_rfl) ?_))
            refine (KO.out _).mono ?_; rintro e w1 ⟨rfl, x1⟩
            obtain ⟨W1, hW1, y1, b1⟩ : ∃ W, W = ((w1.alloc (.cells #[.int .i64 0, .int .i64 0, .int .i64 0, .int .i64 0, .int .i64 0, .int .i64 0, .int .i64 0, .int .i64 0, .slice none 0 0, .slice none 0 0] 31)).setRow w1.heap.size (qstC OV OQ)) ∧ Ext w1 W ∧ W.heap[w1.heap.size]? = some (.cells (qstC OV OQ) 31 (0, 0)) := ⟨_, rfl, asked_row _ _ _ _⟩
            have x1 := x1.trans y1
            clear y1 gA
            have gA := HX.out _ x1
            have b1' := b1
            rw [hW1] at gA b1'
            go_wp2_with (first
              | (refine wpList_store_row rfl 31 (.tmp 3) (.tmp 8) rfl _ _ rfl rfl 31 _ (heap_new_at _ _ (by first | rfl | simp)) (by kernel_rfl) rfl (by simp [qstC, Value.oneCell']) ?_)
              | (refine wpList_load_row_g (by rfl) 31 (.tmp 1) rfl (w.heap.size) rfl 31 _ (0, 0) _ gA Tryz.underlying31 rfl (by kernel_rfl) ?_)
              | (refine wpList_load_row_g (by rfl) 31 (.tmp 3) rfl (w1.heap.size) rfl 31 _ (0, 0) _ b1' Tryz.underlying31 rfl (by kernel_rfl) ?_))
            rw [← hW1]
            refine (KS.out _ (He.out.trans x1)).mono ?_; rintro e w2 ⟨rfl, x2⟩
            have x2 := x1.trans x2
            clear gA b1' b1 hW1 x1
            obtain ⟨-, c1, -⟩ := HC.out _ x2
            go_wp2_with fail
            refine (rin15_v HI.out _).mono ?_; rintro e w3 ⟨rfl, rfl⟩
            clear c1
            obtain ⟨c0, c1, c2, c3, c4, c5, c6, c7, c8, c9⟩ := HC.out _ x2
            rw [HK.out] at c0
            go_wp2
            go_ret
            exact ⟨rfl, He.out.trans x2⟩
          · have hb : (Q.va == 0) = false := by simp [hv0]
            by_cases hv1 : Q.va = 65280
            · have hb1 : (Q.va == 65280) = true := by simp [hv1]
              rw [decide_eq_true (Or.inr hv1)]
              clear hv0 hv1
              go_enter Tryz.func16, Tryz.ntmps16
              go_upto_region 1 with fail
              rw [← hW0]
              clear hW0
              have gA := HX.out W0 (Ext.refl _)
              go_wp2_with (first
                | (refine wpList_load_row rfl 31 (.tmp 1) rfl (w.heap.size) rfl 31 _ (0, 0) _ gA Tryz.underlying31 rfl (by kernel_rfl) ?_))
              refine (KO.out _).mono ?_; rintro e w1 ⟨rfl, x1⟩
              obtain ⟨W1, hW1, y1, b1⟩ : ∃ W, W = ((w1.alloc (.cells #[.int .i64 0, .int .i64 0, .int .i64 0, .int .i64 0, .int .i64 0, .int .i64 0, .int .i64 0, .int .i64 0, .slice none 0 0, .slice none 0 0] 31)).setRow w1.heap.size (qstC OV OQ)) ∧ Ext w1 W ∧ W.heap[w1.heap.size]? = some (.cells (qstC OV OQ) 31 (0, 0)) := ⟨_, rfl, asked_row _ _ _ _⟩
              have x1 := x1.trans y1
              clear y1 gA
              have gA := HX.out _ x1
              have b1' := b1
              rw [hW1] at gA b1'
              go_wp2_with (first
                | (refine wpList_store_row rfl 31 (.tmp 3) (.tmp 8) rfl _ _ rfl rfl 31 _ (heap_new_at _ _ (by first | rfl | simp)) (by kernel_rfl) rfl (by simp [qstC, Value.oneCell']) ?_)
                | (refine wpList_load_row_g (by rfl) 31 (.tmp 1) rfl (w.heap.size) rfl 31 _ (0, 0) _ gA Tryz.underlying31 rfl (by kernel_rfl) ?_)
                | (refine wpList_load_row_g (by rfl) 31 (.tmp 3) rfl (w1.heap.size) rfl 31 _ (0, 0) _ b1' Tryz.underlying31 rfl (by kernel_rfl) ?_))
              rw [← hW1]
              refine (KS.out _ (He.out.trans x1)).mono ?_; rintro e w2 ⟨rfl, x2⟩
              have x2 := x1.trans x2
              clear gA b1' b1 hW1 x1
              obtain ⟨-, c1, -⟩ := HC.out _ x2
              go_wp2_with fail
              refine (rin15_v HI.out _).mono ?_; rintro e w3 ⟨rfl, rfl⟩
              clear c1
              obtain ⟨c0, c1, c2, c3, c4, c5, c6, c7, c8, c9⟩ := HC.out _ x2
              rw [HK.out] at c0
              go_wp2
              go_ret
              exact ⟨rfl, He.out.trans x2⟩
            · have hb1 : (Q.va == 65280) = false := by simp [hv1]
              rw [decide_eq_false (by omega)]
              clear hv0 hv1
              go_enter Tryz.func16, Tryz.ntmps16
              go_upto_region 1 with fail
              rw [← hW0]
              clear hW0
              have gA := HX.out W0 (Ext.refl _)
              go_wp2_with (first
                | (refine wpList_load_row rfl 31 (.tmp 1) rfl (w.heap.size) rfl 31 _ (0, 0) _ gA Tryz.underlying31 rfl (by kernel_rfl) ?_))
              refine (KO.out _).mono ?_; rintro e w1 ⟨rfl, x1⟩
              obtain ⟨W1, hW1, y1, b1⟩ : ∃ W, W = ((w1.alloc (.cells #[.int .i64 0, .int .i64 0, .int .i64 0, .int .i64 0, .int .i64 0, .int .i64 0, .int .i64 0, .int .i64 0, .slice none 0 0, .slice none 0 0] 31)).setRow w1.heap.size (qstC OV OQ)) ∧ Ext w1 W ∧ W.heap[w1.heap.size]? = some (.cells (qstC OV OQ) 31 (0, 0)) := ⟨_, rfl, asked_row _ _ _ _⟩
              have x1 := x1.trans y1
              clear y1 gA
              have gA := HX.out _ x1
              have b1' := b1
              rw [hW1] at gA b1'
              go_wp2_with (first
                | (refine wpList_store_row rfl 31 (.tmp 3) (.tmp 8) rfl _ _ rfl rfl 31 _ (heap_new_at _ _ (by first | rfl | simp)) (by kernel_rfl) rfl (by simp [qstC, Value.oneCell']) ?_)
                | (refine wpList_load_row_g (by rfl) 31 (.tmp 1) rfl (w.heap.size) rfl 31 _ (0, 0) _ gA Tryz.underlying31 rfl (by kernel_rfl) ?_)
                | (refine wpList_load_row_g (by rfl) 31 (.tmp 3) rfl (w1.heap.size) rfl 31 _ (0, 0) _ b1' Tryz.underlying31 rfl (by kernel_rfl) ?_))
              rw [← hW1]
              refine (KS.out _ (He.out.trans x1)).mono ?_; rintro e w2 ⟨rfl, x2⟩
              have x2 := x1.trans x2
              clear gA b1' b1 hW1 x1
              obtain ⟨-, c1, -⟩ := HC.out _ x2
              go_wp2_with fail
              refine (rin15_v HI.out _).mono ?_; rintro e w3 ⟨rfl, rfl⟩
              clear c1
              obtain ⟨c0, c1, c2, c3, c4, c5, c6, c7, c8, c9⟩ := HC.out _ x2
              rw [HK.out] at c0
              go_wp2
              go_ret
              exact ⟨rfl, He.out.trans x2⟩
        · have HK := Lib.hid hk6
          rw [hk6]

          simp (config := { decide := true }) only [if_true, if_false]
          obtain ⟨B2, h2⟩ : ∃ B, inB Q.va 0 65535 = B := ⟨_, rfl⟩
          rw [h2]
          have H2 := Lib.hid h2
          clear h2
          clear hk6
          go_enter Tryz.func16, Tryz.ntmps16
          go_upto_region 1 with fail
          rw [← hW0]
          clear hW0
          have gA := HX.out W0 (Ext.refl _)
          go_wp2_with (first
            | (refine wpList_load_row rfl 31 (.tmp 1) rfl (w.heap.size) rfl 31 _ (0, 0) _ gA Tryz.underlying31 rfl (by kernel_rfl) ?_))
          refine (KO.out _).mono ?_; rintro e w1 ⟨rfl, x1⟩
          obtain ⟨W1, hW1, y1, b1⟩ : ∃ W, W = ((w1.alloc (.cells #[.int .i64 0, .int .i64 0, .int .i64 0, .int .i64 0, .int .i64 0, .int .i64 0, .int .i64 0, .int .i64 0, .slice none 0 0, .slice none 0 0] 31)).setRow w1.heap.size (qstC OV OQ)) ∧ Ext w1 W ∧ W.heap[w1.heap.size]? = some (.cells (qstC OV OQ) 31 (0, 0)) := ⟨_, rfl, asked_row _ _ _ _⟩
          have x1 := x1.trans y1
          clear y1 gA
          have gA := HX.out _ x1
          have b1' := b1
          rw [hW1] at gA b1'
          go_wp2_with (first
            | (refine wpList_store_row rfl 31 (.tmp 3) (.tmp 8) rfl _ _ rfl rfl 31 _ (heap_new_at _ _ (by first | rfl | simp)) (by kernel_rfl) rfl (by simp [qstC, Value.oneCell']) ?_)
            | (refine wpList_load_row_g (by rfl) 31 (.tmp 1) rfl (w.heap.size) rfl 31 _ (0, 0) _ gA Tryz.underlying31 rfl (by kernel_rfl) ?_)
            | (refine wpList_load_row_g (by rfl) 31 (.tmp 3) rfl (w1.heap.size) rfl 31 _ (0, 0) _ b1' Tryz.underlying31 rfl (by kernel_rfl) ?_))
          rw [← hW1]
          refine (KS.out _ (He.out.trans x1)).mono ?_; rintro e w2 ⟨rfl, x2⟩
          have x2 := x1.trans x2
          clear gA b1' b1 hW1 x1
          obtain ⟨-, c1, -⟩ := HC.out _ x2
          go_wp2_with fail
          refine (rin15_v HI.out _).mono ?_; rintro e w3 ⟨rfl, rfl⟩
          clear c1
          obtain ⟨c0, c1, c2, c3, c4, c5, c6, c7, c8, c9⟩ := HC.out _ x2
          rw [HK.out] at c0
          go_wp2_with fail
          refine (rin15_v H2.out _).mono ?_; rintro e w4 ⟨rfl, rfl⟩
          go_wp2
          go_ret
          exact ⟨rfl, He.out.trans x2⟩
        · have HK := Lib.hid hk15
          rw [hk15]

          simp (config := { decide := true }) only [if_true, if_false]
          clear hk15
          cases h2 : inB Q.ct 1 1968 with
          | false =>
            have H2 := Lib.hid h2
            rw [Bool.false_and]
            clear h2
            go_enter Tryz.func16, Tryz.ntmps16
            go_upto_region 1 with fail
            rw [← hW0]
            clear hW0
            have gA := HX.out W0 (Ext.refl _)
            go_wp2_with (first
              | (refine wpList_load_row rfl 31 (.tmp 1) rfl (w.heap.size) rfl 31 _ (0, 0) _ gA Tryz.underlying31 rfl (by kernel_rfl) ?_))
            refine (KO.out _).mono ?_; rintro e w1 ⟨rfl, x1⟩
            obtain ⟨W1, hW1, y1, b1⟩ : ∃ W, W = ((w1.alloc (.cells #[.int .i64 0, .int .i64 0, .int .i64 0, .int .i64 0, .int .i64 0, .int .i64 0, .int .i64 0, .int .i64 0, .slice none 0 0, .slice none 0 0] 31)).setRow w1.heap.size (qstC OV OQ)) ∧ Ext w1 W ∧ W.heap[w1.heap.size]? = some (.cells (qstC OV OQ) 31 (0, 0)) := ⟨_, rfl, asked_row _ _ _ _⟩
            have x1 := x1.trans y1
            clear y1 gA
            have gA := HX.out _ x1
            have b1' := b1
            rw [hW1] at gA b1'
            go_wp2_with (first
              | (refine wpList_store_row rfl 31 (.tmp 3) (.tmp 8) rfl _ _ rfl rfl 31 _ (heap_new_at _ _ (by first | rfl | simp)) (by kernel_rfl) rfl (by simp [qstC, Value.oneCell']) ?_)
              | (refine wpList_load_row_g (by rfl) 31 (.tmp 1) rfl (w.heap.size) rfl 31 _ (0, 0) _ gA Tryz.underlying31 rfl (by kernel_rfl) ?_)
              | (refine wpList_load_row_g (by rfl) 31 (.tmp 3) rfl (w1.heap.size) rfl 31 _ (0, 0) _ b1' Tryz.underlying31 rfl (by kernel_rfl) ?_))
            rw [← hW1]
            refine (KS.out _ (He.out.trans x1)).mono ?_; rintro e w2 ⟨rfl, x2⟩
            have x2 := x1.trans x2
            clear gA b1' b1 hW1 x1
            obtain ⟨-, c1, -⟩ := HC.out _ x2
            go_wp2_with fail
            refine (rin15_v HI.out _).mono ?_; rintro e w3 ⟨rfl, rfl⟩
            clear c1
            obtain ⟨c0, c1, c2, c3, c4, c5, c6, c7, c8, c9⟩ := HC.out _ x2
            rw [HK.out] at c0
            go_wp2_with fail
            refine (rin15_v H2.out _).mono ?_; rintro e w4 ⟨rfl, rfl⟩
            go_wp2
            go_ret
            exact ⟨rfl, He.out.trans x2⟩
          | true =>
            have H2 := Lib.hid h2
            rw [Bool.true_and]
            clear h2
            by_cases hl : (Q.nb : Int) = Q.ct
            · have hb : ((Q.nb : Int) == Q.ct) = true := by simp [hl]
              rw [decide_eq_true hl]
              clear hl
              go_enter Tryz.func16, Tryz.ntmps16
              go_upto_region 1 with fail
              rw [← hW0]
              clear hW0
              have gA := HX.out W0 (Ext.refl _)
              go_wp2_with (first
                | (refine wpList_load_row rfl 31 (.tmp 1) rfl (w.heap.size) rfl 31 _ (0, 0) _ gA Tryz.underlying31 rfl (by kernel_rfl) ?_))
              refine (KO.out _).mono ?_; rintro e w1 ⟨rfl, x1⟩
              obtain ⟨W1, hW1, y1, b1⟩ : ∃ W, W = ((w1.alloc (.cells #[.int .i64 0, .int .i64 0, .int .i64 0, .int .i64 0, .int .i64 0, .int .i64 0, .int .i64 0, .int .i64 0, .slice none 0 0, .slice none 0 0] 31)).setRow w1.heap.size (qstC OV OQ)) ∧ Ext w1 W ∧ W.heap[w1.heap.size]? = some (.cells (qstC OV OQ) 31 (0, 0)) := ⟨_, rfl, asked_row _ _ _ _⟩
              have x1 := x1.trans y1
              clear y1 gA
              have gA := HX.out _ x1
              have b1' := b1
              rw [hW1] at gA b1'
              go_wp2_with (first
                | (refine wpList_store_row rfl 31 (.tmp 3) (.tmp 8) rfl _ _ rfl rfl 31 _ (heap_new_at _ _ (by first | rfl | simp)) (by kernel_rfl) rfl (by simp [qstC, Value.oneCell']) ?_)
                | (refine wpList_load_row_g (by rfl) 31 (.tmp 1) rfl (w.heap.size) rfl 31 _ (0, 0) _ gA Tryz.underlying31 rfl (by kernel_rfl) ?_)
                | (refine wpList_load_row_g (by rfl) 31 (.tmp 3) rfl (w1.heap.size) rfl 31 _ (0, 0) _ b1' Tryz.underlying31 rfl (by kernel_rfl) ?_))
              rw [← hW1]
              refine (KS.out _ (He.out.trans x1)).mono ?_; rintro e w2 ⟨rfl, x2⟩
              have x2 := x1.trans x2
              clear gA b1' b1 hW1 x1
              obtain ⟨-, c1, -⟩ := HC.out _ x2
              go_wp2_with fail
              refine (rin15_v HI.out _).mono ?_; rintro e w3 ⟨rfl, rfl⟩
              clear c1
              obtain ⟨c0, c1, c2, c3, c4, c5, c6, c7, c8, c9⟩ := HC.out _ x2
              rw [HK.out] at c0
              go_wp2_with fail
              refine (rin15_v H2.out _).mono ?_; rintro e w4 ⟨rfl, rfl⟩
              go_wp2
              go_ret
              exact ⟨rfl, He.out.trans x2⟩
            · have hb : ((Q.nb : Int) == Q.ct) = false := by simp [hl]
              rw [decide_eq_false hl]
              clear hl
              go_enter Tryz.func16, Tryz.ntmps16
              go_upto_region 1 with fail
              rw [← hW0]
              clear hW0
              have gA := HX.out W0 (Ext.refl _)
              go_wp2_with (first
                | (refine wpList_load_row rfl 31 (.tmp 1) rfl (w.heap.size) rfl 31 _ (0, 0) _ gA Tryz.underlying31 rfl (by kernel_rfl) ?_))
              refine (KO.out _).mono ?_; rintro e w1 ⟨rfl, x1⟩
              obtain ⟨W1, hW1, y1, b1⟩ : ∃ W, W = ((w1.alloc (.cells #[.int .i64 0, .int .i64 0, .int .i64 0, .int .i64 0, .int .i64 0, .int .i64 0, .int .i64 0, .int .i64 0, .slice none 0 0, .slice none 0 0] 31)).setRow w1.heap.size (qstC OV OQ)) ∧ Ext w1 W ∧ W.heap[w1.heap.size]? = some (.cells (qstC OV OQ) 31 (0, 0)) := ⟨_, rfl, asked_row _ _ _ _⟩
              have x1 := x1.trans y1
              clear y1 gA
              have gA := HX.out _ x1
              have b1' := b1
              rw [hW1] at gA b1'
              go_wp2_with (first
                | (refine wpList_store_row rfl 31 (.tmp 3) (.tmp 8) rfl _ _ rfl rfl 31 _ (heap_new_at _ _ (by first | rfl | simp)) (by kernel_rfl) rfl (by simp [qstC, Value.oneCell']) ?_)
                | (refine wpList_load_row_g (by rfl) 31 (.tmp 1) rfl (w.heap.size) rfl 31 _ (0, 0) _ gA Tryz.underlying31 rfl (by kernel_rfl) ?_)
                | (refine wpList_load_row_g (by rfl) 31 (.tmp 3) rfl (w1.heap.size) rfl 31 _ (0, 0) _ b1' Tryz.underlying31 rfl (by kernel_rfl) ?_))
              rw [← hW1]
              refine (KS.out _ (He.out.trans x1)).mono ?_; rintro e w2 ⟨rfl, x2⟩
              have x2 := x1.trans x2
              clear gA b1' b1 hW1 x1
              obtain ⟨-, c1, -⟩ := HC.out _ x2
              go_wp2_with fail
              refine (rin15_v HI.out _).mono ?_; rintro e w3 ⟨rfl, rfl⟩
              clear c1
              obtain ⟨c0, c1, c2, c3, c4, c5, c6, c7, c8, c9⟩ := HC.out _ x2
              rw [HK.out] at c0
              go_wp2_with fail
              refine (rin15_v H2.out _).mono ?_; rintro e w4 ⟨rfl, rfl⟩
              go_wp2
              go_ret
              exact ⟨rfl, He.out.trans x2⟩
        · have HK := Lib.hid hk16
          rw [hk16]

          simp (config := { decide := true }) only [if_true, if_false]
          clear hk16
          cases h2 : inB Q.ct 1 123 with
          | false =>
            have H2 := Lib.hid h2
            rw [Bool.false_and]
            clear h2
            go_enter Tryz.func16, Tryz.ntmps16
            go_upto_region 1 with fail
            rw [← hW0]
            clear hW0
            have gA := HX.out W0 (Ext.refl _)
            go_wp2_with (first
              | (refine wpList_load_row rfl 31 (.tmp 1) rfl (w.heap.size) rfl 31 _ (0, 0) _ gA Tryz.underlying31 rfl (by kernel_rfl) ?_))
            refine (KO.out _).mono ?_; rintro e w1 ⟨rfl, x1⟩
            obtain ⟨W1, hW1, y1, b1⟩ : ∃ W, W = ((w1.alloc (.cells #[.int .i64 0, .int .i64 0, .int .i64 0, .int .i64 0, .int .i64 0, .int .i64 0, .int .i64 0, .int .i64 0, .slice none 0 0, .slice none 0 0] 31)).setRow w1.heap.size (qstC OV OQ)) ∧ Ext w1 W ∧ W.heap[w1.heap.size]? = some (.cells (qstC OV OQ) 31 (0, 0)) := ⟨_, rfl, asked_row _ _ _ _⟩
            have x1 := x1.trans y1
            clear y1 gA
            have gA := HX.out _ x1
            have b1' := b1
            rw [hW1] at gA b1'
            go_wp2_with (first
              | (refine wpList_store_row rfl 31 (.tmp 3) (.tmp 8) rfl _ _ rfl rfl 31 _ (heap_new_at _ _ (by first | rfl | simp)) (by kernel_rfl) rfl (by simp [qstC, Value.oneCell']) ?_)
              | (refine wpList_load_row_g (by rfl) 31 (.tmp 1) rfl (w.heap.size) rfl 31 _ (0, 0) _ gA Tryz.underlying31 rfl (by kernel_rfl) ?_)
              | (refine wpList_load_row_g (by rfl) 31 (.tmp 3) rfl (w1.heap.size) rfl 31 _ (0, 0) _ b1' Tryz.underlying31 rfl (by kernel_rfl) ?_))
            rw [← hW1]
            refine (KS.out _ (He.out.trans x1)).mono ?_; rintro e w2 ⟨rfl, x2⟩
            have x2 := x1.trans x2
            clear gA b1' b1 hW1 x1
            obtain ⟨-, c1, -⟩ := HC.out _ x2
            go_wp2_with fail
            refine (rin15_v HI.out _).mono ?_; rintro e w3 ⟨rfl, rfl⟩
            clear c1
            obtain ⟨c0, c1, c2, c3, c4, c5, c6, c7, c8, c9⟩ := HC.out _ x2
            rw [HK.out] at c0
            go_wp2_with fail
            refine (rin15_v H2.out _).mono ?_; rintro e w4 ⟨rfl, rfl⟩
            go_wp2
            go_ret
            exact ⟨rfl, He.out.trans x2⟩
          | true =>
            have H2 := Lib.hid h2
            rw [Bool.true_and]
            clear h2
            by_cases hl : (Q.nr : Int) = Q.ct
            · have hb : ((Q.nr : Int) == Q.ct) = true := by simp [hl]
              rw [decide_eq_true hl]
              clear hl
              go_enter Tryz.func16, Tryz.ntmps16
              go_upto_region 1 with fail
              rw [← hW0]
              clear hW0
              have gA := HX.out W0 (Ext.refl _)
              go_wp2_with (first
                | (refine wpList_load_row rfl 31 (.tmp 1) rfl (w.heap.size) rfl 31 _ (0, 0) _ gA Tryz.underlying31 rfl (by kernel_rfl) ?_))
              refine (KO.out _).mono ?_; rintro e w1 ⟨rfl, x1⟩
              obtain ⟨W1, hW1, y1, b1⟩ : ∃ W, W = ((w1.alloc (.cells #[.int .i64 0, .int .i64 0, .int .i64 0, .int .i64 0, .int .i64 0, .int .i64 0, .int .i64 0, .int .i64 0, .slice none 0 0, .slice none 0 0] 31)).setRow w1.heap.size (qstC OV OQ)) ∧ Ext w1 W ∧ W.heap[w1.heap.size]? = some (.cells (qstC OV OQ) 31 (0, 0)) := ⟨_, rfl, asked_row _ _ _ _⟩
              have x1 := x1.trans y1
              clear y1 gA
              have gA := HX.out _ x1
              have b1' := b1
              rw [hW1] at gA b1'
              go_wp2_with (first
                | (refine wpList_store_row rfl 31 (.tmp 3) (.tmp 8) rfl _ _ rfl rfl 31 _ (heap_new_at _ _ (by first | rfl | simp)) (by kernel_rfl) rfl (by simp [qstC, Value.oneCell']) ?_)
                | (refine wpList_load_row_g (by rfl) 31 (.tmp 1) rfl (w.heap.size) rfl 31 _ (0, 0) _ gA Tryz.underlying31 rfl (by kernel_rfl) ?_)
                | (refine wpList_load_row_g (by rfl) 31 (.tmp 3) rfl (w1.heap.size) rfl 31 _ (0, 0) _ b1' Tryz.underlying31 rfl (by kernel_rfl) ?_))
              rw [← hW1]
              refine (KS.out _ (He.out.trans x1)).mono ?_; rintro e w2 ⟨rfl, x2⟩
              have x2 := x1.trans x2
              clear gA b1' b1 hW1 x1
              obtain ⟨-, c1, -⟩ := HC.out _ x2
              go_wp2_with fail
              refine (rin15_v HI.out _).mono ?_; rintro e w3 ⟨rfl, rfl⟩
              clear c1
              obtain ⟨c0, c1, c2, c3, c4, c5, c6, c7, c8, c9⟩ := HC.out _ x2
              rw [HK.out] at c0
              go_wp2_with fail
              refine (rin15_v H2.out _).mono ?_; rintro e w4 ⟨rfl, rfl⟩
              go_wp2
              go_ret
              exact ⟨rfl, He.out.trans x2⟩
            · have hb : ((Q.nr : Int) == Q.ct) = false := by simp [hl]
              rw [decide_eq_false hl]
              clear hl
              go_enter Tryz.func16, Tryz.ntmps16
              go_upto_region 1 with fail
              rw [← hW0]
              clear hW0
              have gA := HX.out W0 (Ext.refl _)
              go_wp2_with (first
                | (refine wpList_load_row rfl 31 (.tmp 1) rfl (w.heap.size) rfl 31 _ (0, 0) _ gA Tryz.underlying31 rfl (by kernel_rfl) ?_))
              refine (KO.out _).mono ?_; rintro e w1 ⟨rfl, x1⟩
              obtain ⟨W1, hW1, y1, b1⟩ : ∃ W, W = ((w1.alloc (.cells #[.int .i64 0, .int .i64 0, .int .i64 0, .int .i64 0, .int .i64 0, .int .i64 0, .int .i64 0, .int .i64 0, .slice none 0 0, .slice none 0 0] 31)).setRow w1.heap.size (qstC OV OQ)) ∧ Ext w1 W ∧ W.heap[w1.heap.size]? = some (.cells (qstC OV OQ) 31 (0, 0)) := ⟨_, rfl, asked_row _ _ _ _⟩
              have x1 := x1.trans y1
              clear y1 gA
              have gA := HX.out _ x1
              have b1' := b1
              rw [hW1] at gA b1'
              go_wp2_with (first
                | (refine wpList_store_row rfl 31 (.tmp 3) (.tmp 8) rfl _ _ rfl rfl 31 _ (heap_new_at _ _ (by first | rfl | simp)) (by kernel_rfl) rfl (by simp [qstC, Value.oneCell']) ?_)
                | (refine wpList_load_row_g (by rfl) 31 (.tmp 1) rfl (w.heap.size) rfl 31 _ (0, 0) _ gA Tryz.underlying31 rfl (by kernel_rfl) ?_)
                | (refine wpList_load_row_g (by rfl) 31 (.tmp 3) rfl (w1.heap.size) rfl 31 _ (0, 0) _ b1' Tryz.underlying31 rfl (by kernel_rfl) ?_))
              rw [← hW1]
              refine (KS.out _ (He.out.trans x1)).mono ?_; rintro e w2 ⟨rfl, x2⟩
              have x2 := x1.trans x2
              clear gA b1' b1 hW1 x1
              obtain ⟨-, c1, -⟩ := HC.out _ x2
              go_wp2_with fail
              refine (rin15_v HI.out _).mono ?_; rintro e w3 ⟨rfl, rfl⟩
              clear c1
              obtain ⟨c0, c1, c2, c3, c4, c5, c6, c7, c8, c9⟩ := HC.out _ x2
              rw [HK.out] at c0
              go_wp2_with fail
              refine (rin15_v H2.out _).mono ?_; rintro e w4 ⟨rfl, rfl⟩
              go_wp2
              go_ret
              exact ⟨rfl, He.out.trans x2⟩
        · have HK := Lib.hid hk22
          rw [hk22]

          simp (config := { decide := true }) only [if_true, if_false]
          clear hk22
          cases h2 : inB Q.an 0 65535 with
          | false =>
            have H2 := Lib.hid h2
            rw [Bool.false_and]
            clear h2
            go_enter Tryz.func16, Tryz.ntmps16
            go_upto_region 1 with fail
            rw [← hW0]
            clear hW0
            have gA := HX.out W0 (Ext.refl _)
            go_wp2_with (first
              | (refine wpList_load_row rfl 31 (.tmp 1) rfl (w.heap.size) rfl 31 _ (0, 0) _ gA Tryz.underlying31 rfl (by kernel_rfl) ?_))
            refine (KO.out _).mono ?_; rintro e w1 ⟨rfl, x1⟩
            obtain ⟨W1, hW1, y1, b1⟩ : ∃ W, W = ((w1.alloc (.cells #[.int .i64 0, .int .i64 0, .int .i64 0, .int .i64 0, .int .i64 0, .int .i64 0, .int .i64 0, .int .i64 0, .slice none 0 0, .slice none 0 0] 31)).setRow w1.heap.size (qstC OV OQ)) ∧ Ext w1 W ∧ W.heap[w1.heap.size]? = some (.cells (qstC OV OQ) 31 (0, 0)) := ⟨_, rfl, asked_row _ _ _ _⟩
            have x1 := x1.trans y1
            clear y1 gA
            have gA := HX.out _ x1
            have b1' := b1
            rw [hW1] at gA b1'
            go_wp2_with (first
              | (refine wpList_store_row rfl 31 (.tmp 3) (.tmp 8) rfl _ _ rfl rfl 31 _ (heap_new_at _ _ (by first | rfl | simp)) (by kernel_rfl) rfl (by simp [qstC, Value.oneCell']) ?_)
              | (refine wpList_load_row_g (by rfl) 31 (.tmp 1) rfl (w.heap.size) rfl 31 _ (0, 0) _ gA Tryz.underlying31 rfl (by kernel_rfl) ?_)
              | (refine wpList_load_row_g (by rfl) 31 (.tmp 3) rfl (w1.heap.size) rfl 31 _ (0, 0) _ b1' Tryz.underlying31 rfl (by kernel_rfl) ?_))
            rw [← hW1]
            refine (KS.out _ (He.out.trans x1)).mono ?_; rintro e w2 ⟨rfl, x2⟩
            have x2 := x1.trans x2
            clear gA b1' b1 hW1 x1
            obtain ⟨-, c1, -⟩ := HC.out _ x2
            go_wp2_with fail
            refine (rin15_v HI.out _).mono ?_; rintro e w3 ⟨rfl, rfl⟩
            clear c1
            obtain ⟨c0, c1, c2, c3, c4, c5, c6, c7, c8, c9⟩ := HC.out _ x2
            rw [HK.out] at c0
            go_wp2_with fail
            refine (rin15_v H2.out _).mono ?_; rintro e w4 ⟨rfl, rfl⟩
            go_wp2
            go_ret
            exact ⟨rfl, He.out.trans x2⟩
          | true =>
            have H2 := Lib.hid h2
            rw [Bool.true_and]
            clear h2
            obtain ⟨B3, h3⟩ : ∃ B, inB Q.oo 0 65535 = B := ⟨_, rfl⟩
            rw [h3]
            have H3 := Lib.hid h3
            clear h3
            go_enter Tryz.func16, Tryz.ntmps16
            go_upto_region 1 with fail
            rw [← hW0]
            clear hW0
            have gA := HX.out W0 (Ext.refl _)
            go_wp2_with (first
              | (refine wpList_load_row rfl 31 (.tmp 1) rfl (w.heap.size) rfl 31 _ (0, 0) _ gA Tryz.underlying31 rfl (by kernel_rfl) ?_))
            refine (KO.out _).mono ?_; rintro e w1 ⟨rfl, x1⟩
            obtain ⟨W1, hW1, y1, b1⟩ : ∃ W, W = ((w1.alloc (.cells #[.int .i64 0, .int .i64 0, .int .i64 0, .int .i64 0, .int .i64 0, .int .i64 0, .int .i64 0, .int .i64 0, .slice none 0 0, .slice none 0 0] 31)).setRow w1.heap.size (qstC OV OQ)) ∧ Ext w1 W ∧ W.heap[w1.heap.size]? = some (.cells (qstC OV OQ) 31 (0, 0)) := ⟨_, rfl, asked_row _ _ _ _⟩
            have x1 := x1.trans y1
            clear y1 gA
            have gA := HX.out _ x1
            have b1' := b1
            rw [hW1] at gA b1'
            go_wp2_with (first
              | (refine wpList_store_row rfl 31 (.tmp 3) (.tmp 8) rfl _ _ rfl rfl 31 _ (heap_new_at _ _ (by first | rfl | simp)) (by kernel_rfl) rfl (by simp [qstC, Value.oneCell']) ?_)
              | (refine wpList_load_row_g (by rfl) 31 (.tmp 1) rfl (w.heap.size) rfl 31 _ (0, 0) _ gA Tryz.underlying31 rfl (by kernel_rfl) ?_)
              | (refine wpList_load_row_g (by rfl) 31 (.tmp 3) rfl (w1.heap.size) rfl 31 _ (0, 0) _ b1' Tryz.underlying31 rfl (by kernel_rfl) ?_))
            rw [← hW1]
            refine (KS.out _ (He.out.trans x1)).mono ?_; rintro e w2 ⟨rfl, x2⟩
            have x2 := x1.trans x2
            clear gA b1' b1 hW1 x1
            obtain ⟨-, c1, -⟩ := HC.out _ x2
            go_wp2_with fail
            refine (rin15_v HI.out _).mono ?_; rintro e w3 ⟨rfl, rfl⟩
            clear c1
            obtain ⟨c0, c1, c2, c3, c4, c5, c6, c7, c8, c9⟩ := HC.out _ x2
            rw [HK.out] at c0
            go_wp2_with fail
            refine (rin15_v H2.out _).mono ?_; rintro e w4 ⟨rfl, rfl⟩
            go_wp2_with fail
            refine (rin15_v H3.out _).mono ?_; rintro e w4 ⟨rfl, rfl⟩
            go_wp2
            go_ret
            exact ⟨rfl, He.out.trans x2⟩
        · have HK := Lib.hid hk23
          rw [hk23]

          simp (config := { decide := true }) only [if_false]
          clear hk23
          cases h2 : inB Q.fr 0 65535 with
          | false =>
            have H2 := Lib.hid h2
            simp only [Bool.false_and]
            clear h2
            go_enter Tryz.func16, Tryz.ntmps16
            go_upto_region 1 with fail
            rw [← hW0]
            clear hW0
            have gA := HX.out W0 (Ext.refl _)
            go_wp2_with (first
              | (refine wpList_load_row rfl 31 (.tmp 1) rfl (w.heap.size) rfl 31 _ (0, 0) _ gA Tryz.underlying31 rfl (by kernel_rfl) ?_))
            refine (KO.out _).mono ?_; rintro e w1 ⟨rfl, x1⟩
            obtain ⟨W1, hW1, y1, b1⟩ : ∃ W, W = ((w1.alloc (.cells #[.int .i64 0, .int .i64 0, .int .i64 0, .int .i64 0, .int .i64 0, .int .i64 0, .int .i64 0, .int .i64 0, .slice none 0 0, .slice none 0 0] 31)).setRow w1.heap.size (qstC OV OQ)) ∧ Ext w1 W ∧ W.heap[w1.heap.size]? = some (.cells (qstC OV OQ) 31 (0, 0)) := ⟨_, rfl, asked_row _ _ _ _⟩
            have x1 := x1.trans y1
            clear y1 gA
            have gA := HX.out _ x1
            have b1' := b1
            rw [hW1] at gA b1'
            go_wp2_with (first
              | (refine wpList_store_row rfl 31 (.tmp 3) (.tmp 8) rfl _ _ rfl rfl 31 _ (heap_new_at _ _ (by first | rfl | simp)) (by kernel_rfl) rfl (by simp [qstC, Value.oneCell']) ?_)
              | (refine wpList_load_row_g (by rfl) 31 (.tmp 1) rfl (w.heap.size) rfl 31 _ (0, 0) _ gA Tryz.underlying31 rfl (by kernel_rfl) ?_)
              | (refine wpList_load_row_g (by rfl) 31 (.tmp 3) rfl (w1.heap.size) rfl 31 _ (0, 0) _ b1' Tryz.underlying31 rfl (by kernel_rfl) ?_))
            rw [← hW1]
            refine (KS.out _ (He.out.trans x1)).mono ?_; rintro e w2 ⟨rfl, x2⟩
            have x2 := x1.trans x2
            clear gA b1' b1 hW1 x1
            obtain ⟨-, c1, -⟩ := HC.out _ x2
            go_wp2_with fail
            refine (rin15_v HI.out _).mono ?_; rintro e w3 ⟨rfl, rfl⟩
            clear c1
            obtain ⟨c0, c1, c2, c3, c4, c5, c6, c7, c8, c9⟩ := HC.out _ x2
            rw [HK.out] at c0
            go_wp2_with fail
            refine (rin15_v H2.out _).mono ?_; rintro e w4 ⟨rfl, rfl⟩
            go_wp2
            go_ret
            exact ⟨rfl, He.out.trans x2⟩
          | true =>
            have H2 := Lib.hid h2
            clear h2
            cases h3 : inB Q.mn 1 125 with
            | false =>
              have H3 := Lib.hid h3
              simp only [Bool.false_and, Bool.true_and]
              clear h3
              go_enter Tryz.func16, Tryz.ntmps16
              go_upto_region 1 with fail
              rw [← hW0]
              clear hW0
              have gA := HX.out W0 (Ext.refl _)
              go_wp2_with (first
                | (refine wpList_load_row rfl 31 (.tmp 1) rfl (w.heap.size) rfl 31 _ (0, 0) _ gA Tryz.underlying31 rfl (by kernel_rfl) ?_))
              refine (KO.out _).mono ?_; rintro e w1 ⟨rfl, x1⟩
              obtain ⟨W1, hW1, y1, b1⟩ : ∃ W, W = ((w1.alloc (.cells #[.int .i64 0, .int .i64 0, .int .i64 0, .int .i64 0, .int .i64 0, .int .i64 0, .int .i64 0, .int .i64 0, .slice none 0 0, .slice none 0 0] 31)).setRow w1.heap.size (qstC OV OQ)) ∧ Ext w1 W ∧ W.heap[w1.heap.size]? = some (.cells (qstC OV OQ) 31 (0, 0)) := ⟨_, rfl, asked_row _ _ _ _⟩
              have x1 := x1.trans y1
              clear y1 gA
              have gA := HX.out _ x1
              have b1' := b1
              rw [hW1] at gA b1'
              go_wp2_with (first
                | (refine wpList_store_row rfl 31 (.tmp 3) (.tmp 8) rfl _ _ rfl rfl 31 _ (heap_new_at _ _ (by first | rfl | simp)) (by kernel_rfl) rfl (by simp [qstC, Value.oneCell']) ?_)
                | (refine wpList_load_row_g (by rfl) 31 (.tmp 1) rfl (w.heap.size) rfl 31 _ (0, 0) _ gA Tryz.underlying31 rfl (by kernel_rfl) ?_)
                | (refine wpList_load_row_g (by rfl) 31 (.tmp 3) rfl (w1.heap.size) rfl 31 _ (0, 0) _ b1' Tryz.underlying31 rfl (by kernel_rfl) ?_))
              rw [← hW1]
              refine (KS.out _ (He.out.trans x1)).mono ?_; rintro e w2 ⟨rfl, x2⟩
              have x2 := x1.trans x2
              clear gA b1' b1 hW1 x1
              obtain ⟨-, c1, -⟩ := HC.out _ x2
              go_wp2_with fail
              refine (rin15_v HI.out _).mono ?_; rintro e w3 ⟨rfl, rfl⟩
              clear c1
              obtain ⟨c0, c1, c2, c3, c4, c5, c6, c7, c8, c9⟩ := HC.out _ x2
              rw [HK.out] at c0
              go_wp2_with fail
              refine (rin15_v H2.out _).mono ?_; rintro e w4 ⟨rfl, rfl⟩
              go_wp2_with fail
              refine (rin15_v H3.out _).mono ?_; rintro e w4 ⟨rfl, rfl⟩
              go_wp2
              go_ret
              exact ⟨rfl, He.out.trans x2⟩
            | true =>
              have H3 := Lib.hid h3
              clear h3
              cases h4 : inB Q.ct 1 121 with
              | false =>
                have H4 := Lib.hid h4
                simp only [Bool.false_and, Bool.true_and]
                clear h4
                go_enter Tryz.func16, Tryz.ntmps16
                go_upto_region 1 with fail
                rw [← hW0]
                clear hW0
                have gA := HX.out W0 (Ext.refl _)
                go_wp2_with (first
                  | (refine wpList_load_row rfl 31 (.tmp 1) rfl (w.heap.size) rfl 31 _ (0, 0) _ gA Tryz.underlying31 rfl (by kernel_rfl) ?_))
                refine (KO.out _).mono ?_; rintro e w1 ⟨rfl, x1⟩
                obtain ⟨W1, hW1, y1, b1⟩ : ∃ W, W = ((w1.alloc (.cells #[.int .i64 0, .int .i64 0, .int .i64 0, .int .i64 0, .int .i64 0, .int .i64 0, .int .i64 0, .int .i64 0, .slice none 0 0, .slice none 0 0] 31)).setRow w1.heap.size (qstC OV OQ)) ∧ Ext w1 W ∧ W.heap[w1.heap.size]? = some (.cells (qstC OV OQ) 31 (0, 0)) := ⟨_, rfl, asked_row _ _ _ _⟩
                have x1 := x1.trans y1
                clear y1 gA
                have gA := HX.out _ x1
                have b1' := b1
                rw [hW1] at gA b1'
                go_wp2_with (first
                  | (refine wpList_store_row rfl 31 (.tmp 3) (.tmp 8) rfl _ _ rfl rfl 31 _ (heap_new_at _ _ (by first | rfl | simp)) (by kernel_rfl) rfl (by simp [qstC, Value.oneCell']) ?_)
                  | (refine wpList_load_row_g (by rfl) 31 (.tmp 1) rfl (w.heap.size) rfl 31 _ (0, 0) _ gA Tryz.underlying31 rfl (by kernel_rfl) ?_)
                  | (refine wpList_load_row_g (by rfl) 31 (.tmp 3) rfl (w1.heap.size) rfl 31 _ (0, 0) _ b1' Tryz.underlying31 rfl (by kernel_rfl) ?_))
                rw [← hW1]
                refine (KS.out _ (He.out.trans x1)).mono ?_; rintro e w2 ⟨rfl, x2⟩
                have x2 := x1.trans x2
                clear gA b1' b1 hW1 x1
                obtain ⟨-, c1, -⟩ := HC.out _ x2
                go_wp2_with fail
                refine (rin15_v HI.out _).mono ?_; rintro e w3 ⟨rfl, rfl⟩
                clear c1
                obtain ⟨c0, c1, c2, c3, c4, c5, c6, c7, c8, c9⟩ := HC.out _ x2
                rw [HK.out] at c0
                go_wp2_with fail
                refine (rin15_v H2.out _).mono ?_; rintro e w4 ⟨rfl, rfl⟩
                go_wp2_with fail
                refine (rin15_v H3.out _).mono ?_; rintro e w4 ⟨rfl, rfl⟩
                go_wp2_with fail
                refine (rin15_v H4.out _).mono ?_; rintro e w4 ⟨rfl, rfl⟩
                go_wp2
                go_ret
                exact ⟨rfl, He.out.trans x2⟩
              | true =>
                have H4 := Lib.hid h4
                simp only [Bool.true_and]
                clear h4
                by_cases hl : (Q.nr : Int) = Q.ct
                · have hb : ((Q.nr : Int) == Q.ct) = true := by simp [hl]
                  rw [decide_eq_true hl]
                  clear hl
                  go_enter Tryz.func16, Tryz.ntmps16
                  go_upto_region 1 with fail
                  rw [← hW0]
                  clear hW0
                  have gA := HX.out W0 (Ext.refl _)
                  go_wp2_with (first
                    | (refine wpList_load_row rfl 31 (.tmp 1) rfl (w.heap.size) rfl 31 _ (0, 0) _ gA Tryz.underlying31 rfl (by kernel_rfl) ?_))
                  refine (KO.out _).mono ?_; rintro e w1 ⟨rfl, x1⟩
                  obtain ⟨W1, hW1, y1, b1⟩ : ∃ W, W = ((w1.alloc (.cells #[.int .i64 0, .int .i64 0, .int .i64 0, .int .i64 0, .int .i64 0, .int .i64 0, .int .i64 0, .int .i64 0, .slice none 0 0, .slice none 0 0] 31)).setRow w1.heap.size (qstC OV OQ)) ∧ Ext w1 W ∧ W.heap[w1.heap.size]? = some (.cells (qstC OV OQ) 31 (0, 0)) := ⟨_, rfl, asked_row _ _ _ _⟩
                  have x1 := x1.trans y1
                  clear y1 gA
                  have gA := HX.out _ x1
                  have b1' := b1
                  rw [hW1] at gA b1'
                  go_wp2_with (first
                    | (refine wpList_store_row rfl 31 (.tmp 3) (.tmp 8) rfl _ _ rfl rfl 31 _ (heap_new_at _ _ (by first | rfl | simp)) (by kernel_rfl) rfl (by simp [qstC, Value.oneCell']) ?_)
                    | (refine wpList_load_row_g (by rfl) 31 (.tmp 1) rfl (w.heap.size) rfl 31 _ (0, 0) _ gA Tryz.underlying31 rfl (by kernel_rfl) ?_)
                    | (refine wpList_load_row_g (by rfl) 31 (.tmp 3) rfl (w1.heap.size) rfl 31 _ (0, 0) _ b1' Tryz.underlying31 rfl (by kernel_rfl) ?_))
                  rw [← hW1]
                  refine (KS.out _ (He.out.trans x1)).mono ?_; rintro e w2 ⟨rfl, x2⟩
                  have x2 := x1.trans x2
                  clear gA b1' b1 hW1 x1
                  obtain ⟨-, c1, -⟩ := HC.out _ x2
                  go_wp2_with fail
                  refine (rin15_v HI.out _).mono ?_; rintro e w3 ⟨rfl, rfl⟩
                  clear c1
                  obtain ⟨c0, c1, c2, c3, c4, c5, c6, c7, c8, c9⟩ := HC.out _ x2
                  rw [HK.out] at c0
                  go_wp2_with fail
                  refine (rin15_v H2.out _).mono ?_; rintro e w4 ⟨rfl, rfl⟩
                  go_wp2_with fail
                  refine (rin15_v H3.out _).mono ?_; rintro e w4 ⟨rfl, rfl⟩
                  go_wp2_with fail
                  refine (rin15_v H4.out _).mono ?_; rintro e w4 ⟨rfl, rfl⟩
                  go_wp2
                  go_ret
                  exact ⟨rfl, He.out.trans x2⟩
                · have hb : ((Q.nr : Int) == Q.ct) = false := by simp [hl]
                  rw [decide_eq_false hl]
                  clear hl
                  go_enter Tryz.func16, Tryz.ntmps16
                  go_upto_region 1 with fail
                  rw [← hW0]
                  clear hW0
                  have gA := HX.out W0 (Ext.refl _)
                  go_wp2_with (first
                    | (refine wpList_load_row rfl 31 (.tmp 1) rfl (w.heap.size) rfl 31 _ (0, 0) _ gA Tryz.underlying31 rfl (by kernel_rfl) ?_))
                  refine (KO.out _).mono ?_; rintro e w1 ⟨rfl, x1⟩
                  obtain ⟨W1, hW1, y1, b1⟩ : ∃ W, W = ((w1.alloc (.cells #[.int .i64 0, .int .i64 0, .int .i64 0, .int .i64 0, .int .i64 0, .int .i64 0, .int .i64 0, .int .i64 0, .slice none 0 0, .slice none 0 0] 31)).setRow w1.heap.size (qstC OV OQ)) ∧ Ext w1 W ∧ W.heap[w1.heap.size]? = some (.cells (qstC OV OQ) 31 (0, 0)) := ⟨_, rfl, asked_row _ _ _ _⟩
                  have x1 := x1.trans y1
                  clear y1 gA
                  have gA := HX.out _ x1
                  have b1' := b1
                  rw [hW1] at gA b1'
                  go_wp2_with (first
                    | (refine wpList_store_row rfl 31 (.tmp 3) (.tmp 8) rfl _ _ rfl rfl 31 _ (heap_new_at _ _ (by first | rfl | simp)) (by kernel_rfl) rfl (by simp [qstC, Value.oneCell']) ?_)
                    | (refine wpList_load_row_g (by rfl) 31 (.tmp 1) rfl (w.heap.size) rfl 31 _ (0, 0) _ gA Tryz.underlying31 rfl (by kernel_rfl) ?_)
                    | (refine wpList_load_row_g (by rfl) 31 (.tmp 3) rfl (w1.heap.size) rfl 31 _ (0, 0) _ b1' Tryz.underlying31 rfl (by kernel_rfl) ?_))
                  rw [← hW1]
                  refine (KS.out _ (He.out.trans x1)).mono ?_; rintro e w2 ⟨rfl, x2⟩
                  have x2 := x1.trans x2
                  clear gA b1' b1 hW1 x1
                  obtain ⟨-, c1, -⟩ := HC.out _ x2
                  go_wp2_with fail
                  refine (rin15_v HI.out _).mono ?_; rintro e w3 ⟨rfl, rfl⟩
                  clear c1
                  obtain ⟨c0, c1, c2, c3, c4, c5, c6, c7, c8, c9⟩ := HC.out _ x2
                  rw [HK.out] at c0
                  go_wp2_with fail
                  refine (rin15_v H2.out _).mono ?_; rintro e w4 ⟨rfl, rfl⟩
                  go_wp2_with fail
                  refine (rin15_v H3.out _).mono ?_; rintro e w4 ⟨rfl, rfl⟩
                  go_wp2_with fail
                  refine (rin15_v H4.out _).mono ?_; rintro e w4 ⟨rfl, rfl⟩
                  go_wp2
                  go_ret
                  exact ⟨rfl, He.out.trans x2⟩
theorem rright15_v {V : QstV} {Q : Qst} {B : Bool} (hB : rightQ Q = B) (w : World) (h : QstAt w V Q) (n1 : Q.nb ≤ 1000000) (n2 : Q.nr ≤ 1000000) : Calls Tryz.prog 16 #[.agg (qstC V Q)] w fun e w' => e = .returned (.bool B) ∧ Ext w w' := hB ▸ rright15_any V Q w h n1 n2
end Go.Proofs.YtlafnobjfajamaaGreat
namespace Go.Proofs.YtlafnobjfajamaaGreat
open Go.RowKit
set_option linter.unusedVariables false
set_option maxRecDepth 100000

theorem right16_yes {Q : Qst} {T : Tel} (hr : rightQ Q = true) : rightT Q T = (if T.cd = 0 then sameT T (wholeT Q T.nb T.B T.nr T.R) && cntB Q T else inB T.cd 1 4 && sameT T { zeroT with k := Q.k, cd := T.cd }) := by unfold rightT; rw [hr, Bool.true_and]
theorem right16_no {Q : Qst} {T : Tel} (hr : rightQ Q = false) : rightT Q T = false := by unfold rightT; rw [hr, Bool.false_and]
set_option maxHeartbeats 8000000 in
theorem rright16_any (V : QstV) (Q : Qst) (U : QstV) (T : Tel) (w : World) (h : QstAt w V Q) (n1 : Q.nb ≤ 1000000) (n2 : Q.nr ≤ 1000000) (k : TelAt w U T) (m1 : T.nb ≤ 1000000) (m2 : T.nr ≤ 1000000) :
    Calls Tryz.prog 25 #[.agg (qstC V Q), .agg (telC U T)] w fun e w' => e = .returned (.bool (rightT Q T)) ∧ Ext w w' := by
  obtain ⟨W2, hW2, e0, HX⟩ : ∃ W2, W2 = (w.alloc (.cells (qstC V Q) 31)).alloc (.cells (telC U T) 37) ∧ Ext w W2 ∧ Hid (∀ W, Ext W2 W → W.heap[w.heap.size]? = some (.cells (qstC V Q) 31 (0, 0)) ∧ W.heap[w.heap.size + 1]? = some (.cells (telC U T) 37 (0, 0))) :=
    ⟨_, rfl, (Ext.alloc w _).trans (Ext.alloc _ _), Lib.hid fun W x => ⟨x.block ((heap_alloc_old _ _ (by simp)).trans (heap_alloc_new w _)), x.block (heap_new_at _ _ (by simp))⟩⟩
  have b1 := (HX.out _ (Ext.refl W2)).1
  cases hr : rightQ Q with
  | false =>
    have HR := Lib.hid (right16_no (T := T) hr)
    have KR := Lib.hid (fun W (x : Ext w W) => rright15_v hr W (h.ext x) n1 n2)
    clear h k hr n1 n2 m1 m2
    go_enter Tryz.func25, Tryz.ntmps25
    go_upto_region 1 with fail
    rw [← hW2]
    clear hW2
    go_wp2_with (first
      | (refine wpList_load_row rfl 31 (.tmp 2) rfl w.heap.size rfl 31 _ (0, 0) _ b1 Tryz.underlying31 rfl (by kernel_rfl) ?_))
    refine (KR.out _ e0).mono ?_; rintro e w3 ⟨rfl, x3⟩
    go_wp2
    go_ret
    exact ⟨by rw [HR.out]; rfl, e0.trans x3⟩
  | true =>
    have KR := Lib.hid (fun W (x : Ext w W) => rright15_v hr W (h.ext x) n1 n2)
    have HRT := Lib.hid (right16_yes (T := T) hr)
    have HK := Lib.hid ((known_iff Q.k).1 ((rightQ_iff Q).1 hr).1)
    have KT := Lib.hid (fun W (x : Ext w W) => k.ext x)
    by_cases hcd : T.cd = 0
    · have hb0 : (T.cd != 0) = false := by simp [hcd]
      have HRR : Hid (rightT Q T = (sameT T (wholeT Q T.nb T.B T.nr T.R) && cntB Q T)) := Lib.hid (by rw [HRT.out, if_pos hcd])
      have hwk := whole_k Q T.nb T.B T.nr T.R
      have KS0 := Lib.hid (fun W (x : Ext w W) => rsame16_any U T (wholeV Q U) (wholeT Q T.nb T.B T.nr T.R) W (KT.out W x) (whole_at Q (KT.out W x).h1 k.l1 k.m1 (KT.out W x).h2 k.l2 k.m2) m1 m2 (Nat.le_trans hwk.2.2.1 m1) (Nat.le_trans hwk.2.2.2 m2))
      generalize sameT T (wholeT Q T.nb T.B T.nr T.R) = B at HRR KS0
      clear h k hr hcd hwk HRT KT n1 n2
      go_enter Tryz.func25, Tryz.ntmps25
      go_upto_region 1 with fail
      rw [← hW2]
      clear hW2
      go_wp2_with (first
        | (refine wpList_load_row rfl 31 (.tmp 2) rfl w.heap.size rfl 31 _ (0, 0) _ b1 Tryz.underlying31 rfl (by kernel_rfl) ?_))
      refine (KR.out _ e0).mono ?_; rintro e w3 ⟨rfl, x3⟩
      have x4 := x3
      clear b1 KR
      have c1 : w3.cell? ⟨w.heap.size + 1, 1, none⟩ = some (.int .i64 T.cd) := cell_of_heap (HX.out _ x4).2 rfl
      go_wp2_with fail
      obtain ⟨X, hX⟩ : ∃ X, X = w3.drew := ⟨_, rfl⟩
      have x5 : Ext W2 X := by rw [hX]; exact x4.trans (Ext.drew _)
      have hs : Ext X X := Ext.refl _
      refine wp_region_held_drew (S := fun W => Ext X W) (by kernel_rfl) (by rw [← hX]; exact hs) (fun _ => ?_)
      rw [← hX]
      clear hX c1 x3 x4 hb0
      have HX := Lib.hid (fun W (x : Ext X W) => HX.out W (x5.trans x))
      have HC := Lib.hid (fun W (x : Ext X W) => (⟨cell_of_heap (HX.out W x).2 rfl, cell_of_heap (HX.out W x).2 rfl⟩ : W.cell? ⟨w.heap.size + 1, 7, none⟩ = some (.slice U.a1 T.nb U.d1) ∧ W.cell? ⟨w.heap.size + 1, 8, none⟩ = some (.slice U.a2 T.nr U.d2)))
      have KS := Lib.hid (fun W (x : Ext X W) => KS0.out W (e0.trans (x5.trans x)))
      clear KS0
      cases B with
      | false =>
        have HR := Lib.hid (HRR.out.trans (Bool.false_and _))
        clear HRR
        refine wpAnyH_takeD (i := 0) (d := 28) rfl rfl (by kernel_rfl) (by kernel_rfl) (by kernel_rfl) (fun _ _ _ h => h) (yieldsIf_load_row (by rfl) 37 (.tmp 3) rfl (w.heap.size + 1) rfl 37 _ (0, 0) _ (fun w' hw' => (HX.out _ hw').2) Tryz.underlying37 rfl (by kernel_rfl)) hs ?_
        simp only [Act.put, List.setIfInBounds_toArray, List.set_cons_succ, List.set_cons_zero]
        refine wpAnyH_takeD (i := 1) (d := 29) rfl rfl (by kernel_rfl) (by kernel_rfl) (by kernel_rfl) (fun _ _ _ h => h) (yieldsIf_load_row (by rfl) 31 (.tmp 2) rfl (w.heap.size) rfl 31 _ (0, 0) _ (fun w' hw' => (HX.out _ hw').1) Tryz.underlying31 rfl (by kernel_rfl)) hs ?_
        simp only [Act.put, List.setIfInBounds_toArray, List.set_cons_succ, List.set_cons_zero]
        refine wpAnyH_takeD (i := 2) (d := 30) (v := .pointer (some ⟨w.heap.size + 1, 7, none⟩)) rfl rfl (by kernel_rfl) (by kernel_rfl) (by kernel_rfl) (fun _ _ _ h => h) (Or.inl ⟨by rfl, fun W hW => by go_simp⟩) hs ?_
        simp only [Act.put, List.setIfInBounds_toArray, List.set_cons_succ, List.set_cons_zero]
        refine wpAnyH_takeD (i := 3) (d := 31) (v := .slice U.a1 T.nb U.d1) rfl rfl (by kernel_rfl) (by kernel_rfl) (by kernel_rfl) (fun _ _ _ h => h) (Or.inl ⟨by rfl, fun W hW => by obtain ⟨c7, c8⟩ := HC.out W hW; go_simp⟩) hs ?_
        simp only [Act.put, List.setIfInBounds_toArray, List.set_cons_succ, List.set_cons_zero]
        refine wpAnyH_takeD (i := 4) (d := 32) (v := .pointer (some ⟨w.heap.size + 1, 8, none⟩)) rfl rfl (by kernel_rfl) (by kernel_rfl) (by kernel_rfl) (fun _ _ _ h => h) (Or.inl ⟨by rfl, fun W hW => by go_simp⟩) hs ?_
        simp only [Act.put, List.setIfInBounds_toArray, List.set_cons_succ, List.set_cons_zero]
        refine wpAnyH_takeD (i := 5) (d := 33) (v := .slice U.a2 T.nr U.d2) rfl rfl (by kernel_rfl) (by kernel_rfl) (by kernel_rfl) (fun _ _ _ h => h) (Or.inl ⟨by rfl, fun W hW => by obtain ⟨c7, c8⟩ := HC.out W hW; go_simp⟩) hs ?_
        simp only [Act.put, List.setIfInBounds_toArray, List.set_cons_succ, List.set_cons_zero]
        refine wpAnyH_ready (rs := [6]) (by kernel_rfl) (by simp) (AllReadyH.cons rfl (fun K hK => ?_) AllReadyH.nil)
        go_simp
        go_at_call 52
        refine (rwhole16_any V Q U T.nb T.B T.nr T.R _).mono ?_; rintro e Wc ⟨rfl, y⟩
        go_wp2_with fail
        refine hK.out _ _ (hs.trans y) (fun hs => ?_)
        clear hK K y
        refine wpAnyH_ready (rs := [7]) (by kernel_rfl) (by simp) (AllReadyH.cons rfl (fun K hK => ?_) AllReadyH.nil)
        go_simp
        go_at_call 18
        refine (KS.out _ hs).mono ?_; rintro e Wc ⟨rfl, y⟩
        go_wp2_with fail
        refine hK.out _ _ (hs.trans y) (fun hs => ?_)
        clear hK K y
        refine wpAnyH_takeD (i := 8) (d := 36) (v := .bool true) rfl rfl (by kernel_rfl) (by kernel_rfl) (by kernel_rfl) (fun _ _ _ h => h) (Or.inl ⟨by rfl, fun W hW => by go_simp⟩) hs ?_
        simp only [Act.put, List.setIfInBounds_toArray, List.set_cons_succ, List.set_cons_zero]
        refine wpAnyH_done (by kernel_rfl) ?_ _
        go_wp2
        go_ret
        exact ⟨by rw [HR.out]; rfl, e0.trans (x5.trans hs)⟩
      | true =>
        have HR := Lib.hid (HRR.out.trans (Bool.true_and _))
        clear HRR
        refine wpAnyH_takeD (i := 0) (d := 28) rfl rfl (by kernel_rfl) (by kernel_rfl) (by kernel_rfl) (fun _ _ _ h => h) (yieldsIf_load_row (by rfl) 37 (.tmp 3) rfl (w.heap.size + 1) rfl 37 _ (0, 0) _ (fun w' hw' => (HX.out _ hw').2) Tryz.underlying37 rfl (by kernel_rfl)) hs ?_
        simp only [Act.put, List.setIfInBounds_toArray, List.set_cons_succ, List.set_cons_zero]
        refine wpAnyH_takeD (i := 1) (d := 29) rfl rfl (by kernel_rfl) (by kernel_rfl) (by kernel_rfl) (fun _ _ _ h => h) (yieldsIf_load_row (by rfl) 31 (.tmp 2) rfl (w.heap.size) rfl 31 _ (0, 0) _ (fun w' hw' => (HX.out _ hw').1) Tryz.underlying31 rfl (by kernel_rfl)) hs ?_
        simp only [Act.put, List.setIfInBounds_toArray, List.set_cons_succ, List.set_cons_zero]
        refine wpAnyH_takeD (i := 2) (d := 30) (v := .pointer (some ⟨w.heap.size + 1, 7, none⟩)) rfl rfl (by kernel_rfl) (by kernel_rfl) (by kernel_rfl) (fun _ _ _ h => h) (Or.inl ⟨by rfl, fun W hW => by go_simp⟩) hs ?_
        simp only [Act.put, List.setIfInBounds_toArray, List.set_cons_succ, List.set_cons_zero]
        refine wpAnyH_takeD (i := 3) (d := 31) (v := .slice U.a1 T.nb U.d1) rfl rfl (by kernel_rfl) (by kernel_rfl) (by kernel_rfl) (fun _ _ _ h => h) (Or.inl ⟨by rfl, fun W hW => by obtain ⟨c7, c8⟩ := HC.out W hW; go_simp⟩) hs ?_
        simp only [Act.put, List.setIfInBounds_toArray, List.set_cons_succ, List.set_cons_zero]
        refine wpAnyH_takeD (i := 4) (d := 32) (v := .pointer (some ⟨w.heap.size + 1, 8, none⟩)) rfl rfl (by kernel_rfl) (by kernel_rfl) (by kernel_rfl) (fun _ _ _ h => h) (Or.inl ⟨by rfl, fun W hW => by go_simp⟩) hs ?_
        simp only [Act.put, List.setIfInBounds_toArray, List.set_cons_succ, List.set_cons_zero]
        refine wpAnyH_takeD (i := 5) (d := 33) (v := .slice U.a2 T.nr U.d2) rfl rfl (by kernel_rfl) (by kernel_rfl) (by kernel_rfl) (fun _ _ _ h => h) (Or.inl ⟨by rfl, fun W hW => by obtain ⟨c7, c8⟩ := HC.out W hW; go_simp⟩) hs ?_
        simp only [Act.put, List.setIfInBounds_toArray, List.set_cons_succ, List.set_cons_zero]
        refine wpAnyH_ready (rs := [6]) (by kernel_rfl) (by simp) (AllReadyH.cons rfl (fun K hK => ?_) AllReadyH.nil)
        go_simp
        go_at_call 52
        refine (rwhole16_any V Q U T.nb T.B T.nr T.R _).mono ?_; rintro e Wc ⟨rfl, y⟩
        go_wp2_with fail
        refine hK.out _ _ (hs.trans y) (fun hs => ?_)
        clear hK K y
        refine wpAnyH_ready (rs := [7]) (by kernel_rfl) (by simp) (AllReadyH.cons rfl (fun K hK => ?_) AllReadyH.nil)
        go_simp
        go_at_call 18
        refine (KS.out _ hs).mono ?_; rintro e Wc ⟨rfl, y⟩
        go_wp2_with fail
        refine hK.out _ _ (hs.trans y) (fun hs => ?_)
        clear hK K y
        refine wpAnyH_takeD (i := 8) (d := 36) (v := .bool false) rfl rfl (by kernel_rfl) (by kernel_rfl) (by kernel_rfl) (fun _ _ _ h => h) (Or.inl ⟨by rfl, fun W hW => by go_simp⟩) hs ?_
        simp only [Act.put, List.setIfInBounds_toArray, List.set_cons_succ, List.set_cons_zero]
        refine wpAnyH_done (by kernel_rfl) ?_ _
        obtain ⟨g1, g2⟩ := HX.out _ hs
        have d7 : Wc.cell? ⟨w.heap.size + 1, 7, none⟩ = some (.slice U.a1 T.nb U.d1) := cell_of_heap g2 rfl
        have d8 : Wc.cell? ⟨w.heap.size + 1, 8, none⟩ = some (.slice U.a2 T.nr U.d2) := cell_of_heap g2 rfl
        have dk : Wc.cell? ⟨w.heap.size, 0, none⟩ = some (.int .i64 Q.k) := cell_of_heap g1 rfl
        have dc : Wc.cell? ⟨w.heap.size, 2, none⟩ = some (.int .i64 Q.ct) := cell_of_heap g1 rfl
        have dm : Wc.cell? ⟨w.heap.size, 7, none⟩ = some (.int .i64 Q.mn) := cell_of_heap g1 rfl
        clear g1 g2 HC KS
        rcases HK.out with hk | hk | hk | hk | hk | hk | hk | hk | hk | hk
        all_goals
          rw [hk] at dk
          have HCn : Hid (cntB Q T = cntB Q T) := Lib.hid rfl
          go_wp2
        all_goals
          go_ret
          refine ⟨?_, e0.trans (x5.trans hs)⟩
          rw [HR.out]
          unfold cntB
          simp (config := { decide := true }) only [hk, if_true, if_false]
          first
            | rfl
            | (refine congrArg (fun b => Ending.returned (.bool b)) ?_; first | rfl | exact Bool.eq_iff_iff.2 (by simp))
    · have hb0 : (T.cd != 0) = true := by simp [hcd]
      have HRR : Hid (rightT Q T = (inB T.cd 1 4 && sameT T { zeroT with k := Q.k, cd := T.cd })) := Lib.hid (by rw [HRT.out, if_neg hcd])
      have KS := Lib.hid (fun W (x : Ext w W) => rsame16_any U T zeroQV { zeroT with k := Q.k, cd := T.cd } W (KT.out W x) (telnone_at W rfl rfl) m1 m2 (Nat.zero_le _) (Nat.zero_le _))
      generalize sameT T { zeroT with k := Q.k, cd := T.cd } = B at HRR KS
      have HIn := Lib.hid (inB_iff T.cd 1 4)
      clear h k hr hcd HRT KT n1 n2 m1 m2
      go_enter Tryz.func25, Tryz.ntmps25
      go_upto_region 1 with fail
      rw [← hW2]
      clear hW2
      go_wp2_with (first
        | (refine wpList_load_row rfl 31 (.tmp 2) rfl w.heap.size rfl 31 _ (0, 0) _ b1 Tryz.underlying31 rfl (by kernel_rfl) ?_))
      refine (KR.out _ e0).mono ?_; rintro e w3 ⟨rfl, x3⟩
      clear b1 KR
      have g3 := (HX.out _ x3).2
      have c1 : w3.cell? ⟨w.heap.size + 1, 1, none⟩ = some (.int .i64 T.cd) := cell_of_heap g3 rfl
      have c0 : w3.cell? ⟨w.heap.size, 0, none⟩ = some (.int .i64 Q.k) := cell_of_heap (HX.out _ x3).1 rfl
      by_cases h1 : 1 ≤ T.cd
      · by_cases h4 : T.cd ≤ 4
        · have hd1 : decide (1 ≤ T.cd) = true := decide_eq_true h1
          have hd4 : decide (T.cd ≤ 4) = true := decide_eq_true h4
          have HR : Hid (rightT Q T = B) := Lib.hid (by rw [HRR.out, HIn.out.2 ⟨h1, h4⟩, Bool.true_and])
          clear HRR HIn
          go_wp2_with (first
            | (refine wpList_load_row_g (by rfl) 37 (.tmp 3) rfl (w.heap.size + 1) rfl 37 _ (0, 0) _ g3 Tryz.underlying37 rfl (by kernel_rfl) ?_))
          refine (KS.out _ (e0.trans x3)).mono ?_; rintro e w4 ⟨rfl, x4⟩
          go_wp2
          go_ret
          exact ⟨by rw [HR.out]; rfl, (e0.trans x3).trans x4⟩
        · have hd1 : decide (1 ≤ T.cd) = true := decide_eq_true h1
          have hd4 : decide (T.cd ≤ 4) = false := decide_eq_false h4
          have HR : Hid (rightT Q T = false) := Lib.hid (by
            rw [HRR.out]
            cases hi : inB T.cd 1 4
            · rfl
            · exact absurd (HIn.out.1 hi).2 h4)
          clear HRR HIn KS
          go_wp2
          go_ret
          exact ⟨by rw [HR.out]; rfl, e0.trans x3⟩
      · have hd1 : decide (1 ≤ T.cd) = false := decide_eq_false h1
        have HR : Hid (rightT Q T = false) := Lib.hid (by
          rw [HRR.out]
          cases hi : inB T.cd 1 4
          · rfl
          · exact absurd (HIn.out.1 hi).1 h1)
        clear HRR HIn KS
        go_wp2
        go_ret
        exact ⟨by rw [HR.out]; rfl, e0.trans x3⟩
theorem rright16_v {V : QstV} {Q : Qst} {U : QstV} {T : Tel} {B : Bool} (hB : rightT Q T = B) (w : World) (h : QstAt w V Q) (n1 : Q.nb ≤ 1000000) (n2 : Q.nr ≤ 1000000) (k : TelAt w U T) (m1 : T.nb ≤ 1000000) (m2 : T.nr ≤ 1000000) :
    Calls Tryz.prog 25 #[.agg (qstC V Q), .agg (telC U T)] w fun e w' => e = .returned (.bool B) ∧ Ext w w' := hB ▸ rright16_any V Q U T w h n1 n2 k m1 m2
end Go.Proofs.YtlafnobjfajamaaGreat
namespace Go.Proofs.YtlafnobjfajamaaGreat
open Go.RowKit
set_option linter.unusedVariables false

theorem lst_one {α : Type} (mk : α → Value) (x : α) : [mk x] = lstG mk (fun _ => x) 1 := by simp [lstG]
theorem w8 {x : Int} (h : 0 ≤ x ∧ x ≤ 255) : IntKind.u8.wrap x = x := by simp [IntKind.wrap, IntKind.bits, IntKind.signed]; omega
end Go.Proofs.YtlafnobjfajamaaGreat
namespace Go.Proofs.YtlafnobjfajamaaGreat
open Go.RowKit
set_option linter.unusedVariables false
set_option maxRecDepth 100000

theorem tel_parts {Q : Qst} {T : Tel} (h : rightT Q T = true) (hc : T.cd = 0) : Alike16 T (wholeT Q T.nb T.B T.nr T.R) ∧ cntB Q T = true ∧ rightQ Q = true := by
  have hr := (rightT_k h).2
  rw [right16_yes hr, if_pos hc, Bool.and_eq_true] at h
  exact ⟨(sameT_iff _ _).1 h.1, h.2, hr⟩
theorem tnum_bd {Q : Qst} {T : Tel} (h : rightT Q T = true) (hc : T.cd = 0) (i : Nat) : 0 ≤ tnumF T i ∧ tnumF T i < 65536 := by
  obtain ⟨ha, hn, hr⟩ := tel_parts h hc
  obtain ⟨hkn, ho, had, hf⟩ := (rightQ_iff Q).1 hr
  have hk := (known_iff Q.k).1 hkn
  have e1 := ha.ad; have e2 := ha.ct; have e3 := ha.va; have e4 := ha.an; have e5 := ha.oo
  unfold wholeT at e1 e2 e3 e4 e5
  unfold fitsB at hf
  unfold tnumF
  rcases hk with hk | hk | hk | hk | hk | hk | hk | hk | hk | hk <;>
  · simp (config := { decide := true }) only [hk, zeroT, if_true, if_false, Bool.and_eq_true, inB_iff, decide_eq_true_iff] at e1 e2 e3 e4 e5 hf
    rw [e1, e2, e3, e4, e5]
    repeat' split
    all_goals omega
theorem lstG_congr {α : Type} {mk : α → Value} {f g : Nat → α} {n : Nat} (h : ∀ i, i < n → f i = g i) : lstG mk f n = lstG mk g n := by
  unfold lstG
  exact List.map_congr_left fun i hi => by rw [h i (List.mem_range.1 hi)]
theorem tsay_nums {T : Tel} (hc : T.cd = 0) (h1 : ¬ (T.k = 1 ∨ T.k = 2)) (h2 : ¬ (T.k = 3 ∨ T.k = 4 ∨ T.k = 23)) (m : Nat) : [Value.int .u8 T.k] ++ lstG (Value.int .u8) (putF (tnumF T)) (2 * m) = lstG (Value.int .u8) (tsayF T) (1 + 2 * m) := by
  rw [lst_one (Value.int .u8) T.k, lstG_append]
  refine lstG_congr fun i hi => ?_
  have e : tsayF T i = if i = 0 then T.k else putF (tnumF T) (i - 1) := by unfold tsayF; rw [if_neg (by omega), if_neg h1, if_neg h2]
  rw [e]
  by_cases h0 : i = 0
  · rw [if_pos (by omega), if_pos h0]
  · rw [if_neg (by omega), if_neg h0]
theorem tsay_bits {T : Tel} (hc : T.cd = 0) (h1 : T.k = 1 ∨ T.k = 2) : [Value.int .u8 T.k] ++ lstG (Value.int .u8) (fun _ => (szN T.nb : Int)) 1 ++ lstG (Value.int .u8) (pkF T.B T.nb) (szN T.nb) = lstG (Value.int .u8) (tsayF T) (1 + 1 + szN T.nb) := by
  rw [lst_one (Value.int .u8) T.k, lstG_append, lstG_append]
  refine lstG_congr fun i hi => ?_
  have e : tsayF T i = if i = 0 then T.k else if i = 1 then (szN T.nb : Int) else pkF T.B T.nb (i - 2) := by unfold tsayF; rw [if_neg (by omega), if_pos h1]
  rw [e]
  by_cases h0 : i = 0
  · rw [if_pos (by omega), if_pos (by omega), if_pos h0]
  · rw [if_neg h0]
    by_cases hi1 : i = 1
    · rw [if_pos (by omega), if_neg (by omega), if_pos hi1]
    · rw [if_neg (by omega), if_neg hi1]
theorem tsay_words {T : Tel} (hc : T.cd = 0) (h1 : ¬ (T.k = 1 ∨ T.k = 2)) (h2 : T.k = 3 ∨ T.k = 4 ∨ T.k = 23) : [Value.int .u8 T.k] ++ lstG (Value.int .u8) (fun _ => 2 * (T.nr : Int)) 1 ++ lstG (Value.int .u8) (putF T.R) (2 * T.nr) = lstG (Value.int .u8) (tsayF T) (1 + 1 + 2 * T.nr) := by
  rw [lst_one (Value.int .u8) T.k, lstG_append, lstG_append]
  refine lstG_congr fun i hi => ?_
  have e : tsayF T i = if i = 0 then T.k else if i = 1 then 2 * (T.nr : Int) else putF T.R (i - 2) := by unfold tsayF; rw [if_neg (by omega), if_neg h1, if_pos h2]
  rw [e]
  by_cases h0 : i = 0
  · rw [if_pos (by omega), if_pos (by omega), if_pos h0]
  · rw [if_neg h0]
    by_cases hi1 : i = 1
    · rw [if_pos (by omega), if_neg (by omega), if_pos hi1]
    · rw [if_neg (by omega), if_neg hi1]
end Go.Proofs.YtlafnobjfajamaaGreat
namespace Go.Proofs.YtlafnobjfajamaaGreat
open Go.RowKit
set_option linter.unusedVariables false

set_option maxHeartbeats 1000000 in
theorem rnum15_any (a : Option Addr) (n c : Nat) (f : Nat → Int) (i : Nat) (w : World) (ha : Holds .u8 w a n f) (hn : n ≤ 1000000) (hf : ∀ i, i < n → 0 ≤ f i ∧ f i < 256) :
    Calls Tryz.prog 129 #[.slice a n c, .int .i64 (i : Int)] w fun e w' => e = .returned (.int .i64 (numAt n f i)) ∧ Ext w w' := by
  by_cases hi : i + 1 < n
  · have K := Lib.hid ((rat_some a n c i f w ha hn hi hf).mono fun _ _ h => (⟨h.1, Ext.of_drewN h.2⟩ : _ ∧ Ext w _))
    rw [show numAt n f i = f i * 256 + f (i + 1) from by unfold numAt; rw [if_pos hi]]
    have h0 := hf i (by omega)
    have h1 := hf (i + 1) hi
    have hv : 0 ≤ f i * 256 + f (i + 1) ∧ f i * 256 + f (i + 1) < 65536 := by omega
    generalize f i * 256 + f (i + 1) = v at K hv ⊢
    have hwv : IntKind.i64.wrap v = v := IntWalk.i64_in _ (by omega)
    clear ha hn hf hi h0 h1 hv
    go_enter Tryz.func129, Tryz.ntmps129
    go_wp2_with fail
    refine K.out.mono ?_; rintro e w1 ⟨rfl, x1⟩
    go_wp2
    go_ret
    exact ⟨rfl, x1⟩
  · have K := Lib.hid (rat_none a n c i w hn (.inr (by omega)))
    rw [show numAt n f i = 0 from by unfold numAt; rw [if_neg hi]]
    clear ha hn hf hi
    go_enter Tryz.func129, Tryz.ntmps129
    go_wp2_with fail
    refine K.out.mono ?_; rintro e w1 ⟨rfl, rfl⟩
    go_wp2
    go_ret
    exact ⟨rfl, Ext.refl _⟩
theorem num_bd (n : Nat) (f : Nat → Int) (i : Nat) (hf : ∀ i, i < n → 0 ≤ f i ∧ f i < 256) : 0 ≤ numAt n f i ∧ numAt n f i < 65536 := by
  unfold numAt
  split
  · have := hf i (by omega)
    have := hf (i + 1) (by omega)
    omega
  · omega
end Go.Proofs.YtlafnobjfajamaaGreat
namespace Go.Proofs.YtlafnobjfajamaaGreat
open Go.RowKit
set_option linter.unusedVariables false

theorem paQ_no {n : Nat} {f : Nat → Int} {E : Int} (h : paE n f = E) (h0 : E ≠ 0) : paE n f = E ∧ paQ n f = zeroQ := ⟨h, by unfold paQ; rw [h, if_neg h0]⟩
theorem gue_small {n : Nat} {f : Nat → Int} (hn : n ≤ 100000) (hf : ∀ i, i < n → 0 ≤ f i ∧ f i < 256) : (gueQ n f).nb ≤ 1000000 ∧ (gueQ n f).nr ≤ 1000000 ∧ ∀ i, i < (gueQ n f).nr → 0 ≤ (gueQ n f).R i ∧ (gueQ n f).R i < 65536 := by
  have hb := num_bd n f 3 hf
  have hbe : ∀ d, behN n d ≤ 1000000 ∧ ∀ i, i < behN n d → 0 ≤ getF (fun j => f (d + j)) i ∧ getF (fun j => f (d + j)) i < 65536 := by
    intro d
    unfold behN getF
    split
    · refine ⟨by omega, fun i hi => ?_⟩
      have := hf (d + 2 * i) (by omega)
      have := hf (d + (2 * i + 1)) (by omega)
      dsimp only
      omega
    · exact ⟨by omega, fun i hi => absurd hi (by omega)⟩
  unfold gueQ
  repeat' split
  all_goals first
    | exact ⟨Nat.zero_le _, Nat.zero_le _, fun i hi => absurd hi (Nat.not_lt_zero i)⟩
    | exact ⟨Nat.zero_le _, (hbe _).1, (hbe _).2⟩
    | exact ⟨by dsimp only; omega, Nat.zero_le _, fun i hi => absurd hi (Nat.not_lt_zero i)⟩
theorem setRow_qst {w : World} {V : QstV} {Q : Qst} {g : Nat} {t : TypeId} {fr : Nat × Nat} (cs : Array Value) (h : QstAt w V Q) (hg : w.heap[g]? = some (.cells #[.int .i64 0, .int .i64 0, .int .i64 0, .int .i64 0, .int .i64 0, .int .i64 0, .int .i64 0, .int .i64 0, .slice none 0 0, .slice none 0 0] t fr)) : QstAt (w.setRow g cs) V Q := by
  have hb : ∀ o v, w.cell? ⟨g, o, none⟩ = some v → v = .int .i64 0 ∨ v = .slice none 0 0 := by
    intro o v hv
    have hc := cell_setRow_same w g o _ #[.int .i64 0, .int .i64 0, .int .i64 0, .int .i64 0, .int .i64 0, .int .i64 0, .int .i64 0, .int .i64 0, .slice none 0 0, .slice none 0 0] t fr hg
    rw [setRow_self _ _ _ _ _ hg, hv] at hc
    have := Array.mem_of_getElem? hc.symm
    simpa using this
  refine ⟨?_, h.l1, h.m1, ?_, h.l2, h.m2⟩
  · rcases h.h1 with h' | ⟨b, off, ha, hlt, hc⟩
    · exact .inl h'
    · by_cases hn : Q.nb = 0
      · exact .inl hn
      · have hbg : b ≠ g := by
          rintro rfl
          rcases hb (off + 0) _ (hc 0 (by omega)) with h | h <;> cases h
        exact .inr ⟨b, off, ha, by rw [setRow_size]; exact hlt, fun i hi => (cell_setRow_other _ _ _ _ hbg).trans (hc i hi)⟩
  · rcases h.h2 with h' | ⟨b, off, ha, hlt, hc⟩
    · exact .inl h'
    · by_cases hn : Q.nr = 0
      · exact .inl hn
      · have hbg : b ≠ g := by
          rintro rfl
          rcases hb (off + 0) _ (hc 0 (by omega)) with h | h <;> cases h
        exact .inr ⟨b, off, ha, by rw [setRow_size]; exact hlt, fun i hi => (cell_setRow_other _ _ _ _ hbg).trans (hc i hi)⟩
end Go.Proofs.YtlafnobjfajamaaGreat
namespace Go.Proofs.YtlafnobjfajamaaGreat
open Go.RowKit
set_option linter.unusedVariables false
set_option maxRecDepth 100000

end Go.Proofs.YtlafnobjfajamaaGreat
namespace Go.Proofs.YtlafnobjfajamaaGreat
open Go.RowKit
set_option linter.unusedVariables false
set_option maxRecDepth 100000

theorem rfew14_v {V : FilV} {F : Fil} {B : Bool} (hB : decide (F.nC + F.nI + F.nH + F.nR ≤ 4000) = B) (h1 : F.nC ≤ 1000000000000000) (h2 : F.nI ≤ 1000000000000000) (h3 : F.nH ≤ 1000000000000000) (h4 : F.nR ≤ 1000000000000000) (w : World) :
    Calls Tryz.prog 9 #[.agg (filC V F)] w fun e w' => e = .returned (.bool B) ∧ Ext w w' := hB ▸ rfew14_any V F w h1 h2 h3 h4
theorem few_small {F : Fil} (h : decide (F.nC + F.nI + F.nH + F.nR ≤ 4000) = true) : Small F := by
  have := of_decide_eq_true h
  exact ⟨by omega, by omega, by omega, by omega⟩
theorem toldF (w : World) (z cs : Array Value) (t : TypeId) : Ext w ((w.alloc (.cells z t)).setRow w.heap.size cs) ∧ ((w.alloc (.cells z t)).setRow w.heap.size cs).heap[w.heap.size]? = some (.cells cs t (0, 0)) :=
  ⟨below_setRow (Ext.alloc _ _) (Nat.le_refl _) _, setRow_heap _ _ _ _ _ _ (heap_alloc_new w _)⟩
end Go.Proofs.YtlafnobjfajamaaGreat
namespace Go.Proofs.YtlafnobjfajamaaGreat
open Go.RowKit
set_option linter.unusedVariables false
set_option maxRecDepth 100000

theorem toldFT (w : World) (z cs y ds : Array Value) (t u : TypeId) : Ext w ((((w.alloc (.cells z t)).alloc (.cells y u)).setRow w.heap.size cs).setRow (w.heap.size + 1) ds) ∧ ((((w.alloc (.cells z t)).alloc (.cells y u)).setRow w.heap.size cs).setRow (w.heap.size + 1) ds).heap[w.heap.size]? = some (.cells cs t (0, 0)) ∧ ((((w.alloc (.cells z t)).alloc (.cells y u)).setRow w.heap.size cs).setRow (w.heap.size + 1) ds).heap[w.heap.size + 1]? = some (.cells ds u (0, 0)) ∧
    ((w.alloc (.cells z t)).alloc (.cells y u)).heap[w.heap.size]? = some (.cells z t (0, 0)) ∧ (((w.alloc (.cells z t)).alloc (.cells y u)).setRow w.heap.size cs).heap[w.heap.size + 1]? = some (.cells y u (0, 0)) := by
  have h1 : ((w.alloc (.cells z t)).alloc (.cells y u)).heap[w.heap.size]? = some (.cells z t (0, 0)) := (heap_alloc_old _ _ (by simp)).trans (heap_alloc_new w _)
  have h2 : (((w.alloc (.cells z t)).alloc (.cells y u)).setRow w.heap.size cs).heap[w.heap.size + 1]? = some (.cells y u (0, 0)) := (setRow_other _ _ _ _ (by omega)).trans (heap_new_at _ _ (by simp))
  exact ⟨below_setRow (below_setRow ((Ext.alloc w _).trans (Ext.alloc _ _)) (Nat.le_refl _) _) (by omega) _, (setRow_other _ _ _ _ (by omega)).trans (setRow_heap _ _ _ _ _ _ h1), setRow_heap _ _ _ _ _ _ h2, h1, h2⟩
theorem writes_one (k : Int) : (k = 5 ∧ writesB k = true) ∨ (k = 6 ∧ writesB k = true) ∨ (k = 15 ∧ writesB k = true) ∨ (k = 16 ∧ writesB k = true) ∨ (k = 22 ∧ writesB k = true) ∨ (k = 23 ∧ writesB k = true) ∨ (k ≠ 5 ∧ k ≠ 6 ∧ k ≠ 15 ∧ k ≠ 16 ∧ k ≠ 22 ∧ k ≠ 23 ∧ writesB k = false) := by
  by_cases h : k = 5 ∨ k = 6 ∨ k = 15 ∨ k = 16 ∨ k = 22 ∨ k = 23
  · have hw := (writes_iff k).2 h
    rcases h with h | h | h | h | h | h
    · exact .inl ⟨h, hw⟩
    · exact .inr (.inl ⟨h, hw⟩)
    · exact .inr (.inr (.inl ⟨h, hw⟩))
    · exact .inr (.inr (.inr (.inl ⟨h, hw⟩)))
    · exact .inr (.inr (.inr (.inr (.inl ⟨h, hw⟩))))
    · exact .inr (.inr (.inr (.inr (.inr (.inl ⟨h, hw⟩)))))
  · have hw : writesB k = false := by cases hb : writesB k; rfl; exact absurd ((writes_iff k).1 hb) h
    exact .inr (.inr (.inr (.inr (.inr (.inr ⟨by omega, by omega, by omega, by omega, by omega, by omega, hw⟩)))))
theorem rsame16_v {V : QstV} {F : Tel} {U : QstV} {G : Tel} {B : Bool} (hB : sameT F G = B) (w : World) (h : TelAt w V F) (k : TelAt w U G) (f1 : F.nb ≤ 1000000) (f2 : F.nr ≤ 1000000) (g1 : G.nb ≤ 1000000) (g2 : G.nr ≤ 1000000) :
    Calls Tryz.prog 18 #[.agg (telC V F), .agg (telC U G)] w fun e w' => e = .returned (.bool B) ∧ Ext w w' := hB ▸ rsame16_any V F U G w h k f1 f2 g1 g2
set_option maxHeartbeats 8000000 in
theorem dataDoes.walk0 (V : FilV) (F : Fil) (w : World) (h : FilAt w V F) (hw : FilW F) (f1 : F.nC ≤ 1000000000000000) (f2 : F.nI ≤ 1000000000000000) (f3 : F.nH ≤ 1000000000000000) (f4 : F.nR ≤ 1000000000000000) (U : QstV) (Q : Qst) (k : QstAt w U Q) (kq : QstW Q) (nb1 : Q.nb ≤ 1000000000000000) (nr1 : Q.nr ≤ 1000000000000000)
    (hDo : DDoC 12) (hCo : DCodeC 13) (hWr : DWritesC 14) (sure : ∀ w, Calls Tryz.prog 11 #[] w fun e w' => e = .returned (.bool true) ∧ Ext w w') :
    Calls Tryz.prog 3 #[.agg (filC V F), .agg (qstC U Q)] w fun e w' => e = .returned (.bool true) ∧ Ext w w' := by
  have HSU := Lib.hid sure
  clear sure
  obtain ⟨W0, hW0, e0, HX⟩ : ∃ W0, W0 = (w.alloc (.cells (filC V F) 29)).alloc (.cells (qstC U Q) 31) ∧ Ext w W0 ∧ Hid (∀ W, Ext W0 W → W.heap[w.heap.size]? = some (.cells (filC V F) 29 (0, 0)) ∧ W.heap[w.heap.size + 1]? = some (.cells (qstC U Q) 31 (0, 0))) := ⟨_, rfl, (Ext.alloc w _).trans (Ext.alloc _ _), Lib.hid fun W x => ⟨x.block ((heap_alloc_old _ _ (by simp)).trans (heap_alloc_new w _)), x.block (heap_new_at _ _ (by simp))⟩⟩
  obtain ⟨b1, -⟩ := HX.out _ (Ext.refl W0)
  cases hfw : decide (F.nC + F.nI + F.nH + F.nR ≤ 4000) with
  | false =>
    have KF := Lib.hid (fun W => rfew14_v (V := V) hfw f1 f2 f3 f4 W)
    clear h hw k kq hfw hDo hCo hWr
    go_enter Tryz.func3, Tryz.ntmps3
    go_upto_region 1 with fail
    rw [← hW0]
    clear hW0
    go_wp2_with (first
      | (refine wpList_load_row rfl 29 (.tmp 2) rfl (w.heap.size) rfl 29 _ (0, 0) _ b1 Tryz.underlying29 rfl (by kernel_rfl) ?_)
      | fail)
    refine (KF.out _).mono ?_; rintro e w3 ⟨rfl, x3⟩
    go_wp2_with fail
    refine (HSU.out _).mono ?_; rintro e w4 ⟨rfl, x4⟩
    go_wp2
    go_ret
    exact ⟨rfl, (e0.trans x3).trans x4⟩
  | true =>
   have KF := Lib.hid (fun W => rfew14_v (V := V) hfw f1 f2 f3 f4 W)
   have hsm := few_small hfw
   cases hfq : fewQA Q with
   | false =>
     have KG := Lib.hid (fun W => rfew16A_v (V := U) hfq nb1 nr1 W)
     clear h hw k kq hfw hfq hDo hCo hWr
     go_enter Tryz.func3, Tryz.ntmps3
     go_upto_region 1 with fail
     rw [← hW0]
     clear hW0
     go_wp2_with (first
       | (refine wpList_load_row rfl 29 (.tmp 2) rfl (w.heap.size) rfl 29 _ (0, 0) _ b1 Tryz.underlying29 rfl (by kernel_rfl) ?_)
       | (go_at_call 9; refine (KF.out _).mono ?_; rintro e w3 ⟨rfl, x3⟩; have c3 := (HX.out _ x3).2)
       | (refine wpList_load_row_g (by rfl) 31 (.tmp 3) rfl (w.heap.size + 1) rfl 31 _ (0, 0) _ c3 Tryz.underlying31 rfl (by kernel_rfl) ?_)
       | (go_at_call 10; refine (KG.out _).mono ?_; rintro e w4 ⟨rfl, x4⟩))
     refine (HSU.out _).mono ?_; rintro e w5 ⟨rfl, x5⟩
     go_wp2
     go_ret
     exact ⟨rfl, ((e0.trans x3).trans x4).trans x5⟩
   | true =>
     have KG := Lib.hid (fun W => rfew16A_v (V := U) hfq nb1 nr1 W)
     obtain ⟨n1, n2⟩ := (fewQA_iff Q).1 hfq
     have n1 : Q.nb ≤ 1000000 := by omega
     have n2 : Q.nr ≤ 1000000 := by omega
     clear hfw hfq
     have KD := Lib.hid (fun W (x : Ext w W) => hDo V F U Q W (h.ext x) hw hsm (k.ext x) kq n1 n2)
     have KC := Lib.hid (fun W (x : Ext w W) => hCo V F U Q W (h.ext x) hw hsm (k.ext x) kq n1 n2)
     have KW := Lib.hid (fun W => hWr Q.k W)
     have KR : Hid (∀ W, Ext w W → Calls Tryz.prog 15 #[.agg (filC V F)] W fun e w' => e = .returned (.bool (rightB F)) ∧ Ext W w') := Lib.hid (fun W x => rright14_any V F W)
     have KA := Lib.hid (fun W (x : Ext w W) => rright15_v (Q := Q) rfl W (k.ext x) n1 n2)
     have hds := doo_small (F := F) (Q := Q)
     go_enter Tryz.func3, Tryz.ntmps3
     go_upto_region 1 with fail
     rw [← hW0]
     clear hW0
     go_upto_region 3 with (first
       | (refine wpList_load_row rfl 29 (.tmp 2) rfl (w.heap.size) rfl 29 _ (0, 0) _ b1 Tryz.underlying29 rfl (by kernel_rfl) ?_)
       | (go_at_call 9; refine (KF.out _).mono ?_; rintro e w2 ⟨rfl, x2⟩; have c1 := (HX.out _ x2).2)
       | (refine wpList_load_row_g (by rfl) 31 (.tmp 3) rfl (w.heap.size + 1) rfl 31 _ (0, 0) _ c1 Tryz.underlying31 rfl (by kernel_rfl) ?_)
       | (go_at_call 10; refine (KG.out _).mono ?_; rintro e w3 ⟨rfl, x3⟩))
     have y3 := x2.trans x3
     obtain ⟨b3, c3⟩ := HX.out _ y3
     clear b1 c1 KF KG x2 x3
     have e3 := e0.trans y3
     go_upto_region 4 with (first
       | (refine wpList_load_row rfl 29 (.tmp 2) rfl (w.heap.size) rfl 29 _ (0, 0) _ b3 Tryz.underlying29 rfl (by kernel_rfl) ?_)
       | (refine wpList_load_row rfl 31 (.tmp 3) rfl (w.heap.size + 1) rfl 31 _ (0, 0) _ c3 Tryz.underlying31 rfl (by kernel_rfl) ?_)
       | (go_at_call 12; refine (KD.out _ e3).mono ?_; rintro e w4 ⟨V4, X4, rfl, hF4, hT4, x4⟩; have r4 := toldFT w4 #[.int .i64 0, .int .i64 0, .int .i64 0, .int .i64 0, .int .i64 0, .int .i64 0, .int .i64 0, .int .i64 0, .int .i64 0, .int .i64 0, .slice none 0 0, .slice none 0 0, .slice none 0 0, .slice none 0 0] (filC V4 (dooF F Q)) #[.int .i64 0, .int .i64 0, .int .i64 0, .int .i64 0, .int .i64 0, .int .i64 0, .int .i64 0, .slice none 0 0, .slice none 0 0] (telC X4 (dooT F Q)) 29 37)
       | (refine wpList_store_row rfl 29 (.tmp 5) (.tmp 24) rfl w4.heap.size _ rfl rfl 29 _ r4.2.2.2.1 (by kernel_rfl) rfl (by simp [filC, Value.oneCell']) ?_)
       | (refine wpList_store_row rfl 37 (.tmp 6) (.tmp 25) rfl (w4.heap.size + 1) _ rfl rfl 37 _ r4.2.2.2.2 (by kernel_rfl) rfl (by simp [telC, Value.oneCell']) ?_))
     obtain ⟨W4, hW4, z4, g5, g6⟩ : ∃ W, W = ((((w4.alloc (.cells #[.int .i64 0, .int .i64 0, .int .i64 0, .int .i64 0, .int .i64 0, .int .i64 0, .int .i64 0, .int .i64 0, .int .i64 0, .int .i64 0, .slice none 0 0, .slice none 0 0, .slice none 0 0, .slice none 0 0] 29)).alloc (.cells #[.int .i64 0, .int .i64 0, .int .i64 0, .int .i64 0, .int .i64 0, .int .i64 0, .int .i64 0, .slice none 0 0, .slice none 0 0] 37)).setRow w4.heap.size (filC V4 (dooF F Q))).setRow (w4.heap.size + 1) (telC X4 (dooT F Q))) ∧ Ext w4 W ∧ W.heap[w4.heap.size]? = some (.cells (filC V4 (dooF F Q)) 29 (0, 0)) ∧ W.heap[w4.heap.size + 1]? = some (.cells (telC X4 (dooT F Q)) 37 (0, 0)) := ⟨_, rfl, r4.1, r4.2.1, r4.2.2.1⟩
     rw [← hW4]
     clear hW4 r4
     generalize w4.heap.size = G5 at g5 g6 ⊢
     have hF4 := hF4.ext z4
     have hT4 := hT4.ext z4
     have y4 := y3.trans (x4.trans z4)
     have e4 := e0.trans y4
     obtain ⟨b4, c4⟩ := HX.out _ y4
     clear b3 c3 e3 y3 x4 z4 KD
     go_upto_region 5 with (first
       | (refine wpList_load_row rfl 29 (.tmp 2) rfl (w.heap.size) rfl 29 _ (0, 0) _ b4 Tryz.underlying29 rfl (by kernel_rfl) ?_)
       | (refine wpList_load_row rfl 31 (.tmp 3) rfl (w.heap.size + 1) rfl 31 _ (0, 0) _ c4 Tryz.underlying31 rfl (by kernel_rfl) ?_)
       | (go_at_call 13; refine (KC.out _ e4).mono ?_; rintro e w5 ⟨rfl, x5⟩))
     have y5 := y4.trans x5
     have e5 := e0.trans y5
     have g5 := x5.block g5
     have g6 := x5.block g6
     have hF4 := hF4.ext x5
     have hT4 := hT4.ext x5
     clear b4 c4 y4 e4 x5 KC
     have ck : w5.cell? ⟨w.heap.size + 1, 0, none⟩ = some (.int .i64 Q.k) := cell_of_heap (HX.out _ y5).2 rfl
     have ckl := Later.cell ck
     go_cut [61] from 30 to 62 (fun v wx => v = .bool false ∧ Ext w5 wx)
     case first => as_aux_lemma =>
       rcases writes_one Q.k with ⟨hk, hwk⟩ | ⟨hk, hwk⟩ | ⟨hk, hwk⟩ | ⟨hk, hwk⟩ | ⟨hk, hwk⟩ | ⟨hk, hwk⟩ | ⟨n5, n6, n15, n16, n22, n23, hwk⟩
       · have e5 : (Q.k == 5) = true := by simp [hk]
         clear hk
         rw [hwk] at KW
         clear hwk
         refine wp_region_later (by kernel_rfl) (by kernel_rfl) ?_
         repeat (go_big_quiet_step (first
           | (go_at_call 14; exact later_of (KW.out _))))
         refine wpQuiet_nil ?_
         intro _ hw'
         obtain ⟨x, rfl⟩ := hw'
         have x9 := x.ext
         go_wp2_with fail
         go_meet
         exact ⟨rfl, x9⟩
       · have e6 : (Q.k == 6) = true := by simp [hk]
         have e5 : (Q.k == 5) = false := by simp [hk]
         clear hk
         rw [hwk] at KW
         clear hwk
         refine wp_region_later (by kernel_rfl) (by kernel_rfl) ?_
         repeat (go_big_quiet_step (first
           | (go_at_call 14; exact later_of (KW.out _))))
         refine wpQuiet_nil ?_
         intro _ hw'
         obtain ⟨x, rfl⟩ := hw'
         have x9 := x.ext
         go_wp2_with fail
         go_meet
         exact ⟨rfl, x9⟩
       · have e15 : (Q.k == 15) = true := by simp [hk]
         have e5 : (Q.k == 5) = false := by simp [hk]
         have e6 : (Q.k == 6) = false := by simp [hk]
         clear hk
         rw [hwk] at KW
         clear hwk
         refine wp_region_later (by kernel_rfl) (by kernel_rfl) ?_
         repeat (go_big_quiet_step (first
           | (go_at_call 14; exact later_of (KW.out _))))
         refine wpQuiet_nil ?_
         intro _ hw'
         obtain ⟨x, rfl⟩ := hw'
         have x9 := x.ext
         go_wp2_with fail
         go_meet
         exact ⟨rfl, x9⟩
       · have e16 : (Q.k == 16) = true := by simp [hk]
         have e5 : (Q.k == 5) = false := by simp [hk]
         have e6 : (Q.k == 6) = false := by simp [hk]
         have e15 : (Q.k == 15) = false := by simp [hk]
         clear hk
         rw [hwk] at KW
         clear hwk
         refine wp_region_later (by kernel_rfl) (by kernel_rfl) ?_
         repeat (go_big_quiet_step (first
           | (go_at_call 14; exact later_of (KW.out _))))
         refine wpQuiet_nil ?_
         intro _ hw'
         obtain ⟨x, rfl⟩ := hw'
         have x9 := x.ext
         go_wp2_with fail
         go_meet
         exact ⟨rfl, x9⟩
       · have e22 : (Q.k == 22) = true := by simp [hk]
         have e5 : (Q.k == 5) = false := by simp [hk]
         have e6 : (Q.k == 6) = false := by simp [hk]
         have e15 : (Q.k == 15) = false := by simp [hk]
         have e16 : (Q.k == 16) = false := by simp [hk]
         clear hk
         rw [hwk] at KW
         clear hwk
         refine wp_region_later (by kernel_rfl) (by kernel_rfl) ?_
         repeat (go_big_quiet_step (first
           | (go_at_call 14; exact later_of (KW.out _))))
         refine wpQuiet_nil ?_
         intro _ hw'
         obtain ⟨x, rfl⟩ := hw'
         have x9 := x.ext
         go_wp2_with fail
         go_meet
         exact ⟨rfl, x9⟩
       · have e23 : (Q.k == 23) = true := by simp [hk]
         have e5 : (Q.k == 5) = false := by simp [hk]
         have e6 : (Q.k == 6) = false := by simp [hk]
         have e15 : (Q.k == 15) = false := by simp [hk]
         have e16 : (Q.k == 16) = false := by simp [hk]
         have e22 : (Q.k == 22) = false := by simp [hk]
         clear hk
         rw [hwk] at KW
         clear hwk
         refine wp_region_later (by kernel_rfl) (by kernel_rfl) ?_
         repeat (go_big_quiet_step (first
           | (go_at_call 14; exact later_of (KW.out _))))
         refine wpQuiet_nil ?_
         intro _ hw'
         obtain ⟨x, rfl⟩ := hw'
         have x9 := x.ext
         go_wp2_with fail
         go_meet
         exact ⟨rfl, x9⟩
       · have e5 : (Q.k == 5) = false := by simp [n5]
         have e6 : (Q.k == 6) = false := by simp [n6]
         have e15 : (Q.k == 15) = false := by simp [n15]
         have e16 : (Q.k == 16) = false := by simp [n16]
         have e22 : (Q.k == 22) = false := by simp [n22]
         have e23 : (Q.k == 23) = false := by simp [n23]
         clear n5 n6 n15 n16 n22 n23
         rw [hwk] at KW
         clear hwk
         refine wp_region_later (by kernel_rfl) (by kernel_rfl) ?_
         repeat (go_big_quiet_step (first
           | (go_at_call 14; exact later_of (KW.out _))))
         refine wpQuiet_nil ?_
         intro _ hw'
         obtain ⟨x, rfl⟩ := hw'
         have x9 := x.ext
         go_wp2_with fail
         go_meet
         exact ⟨rfl, x9⟩
     case rest =>
       obtain ⟨rfl, x6⟩ := hcut
       have x6 : Ext w5 wc := x6
       have y6 := y5.trans x6
       have e6 := e0.trans y6
       have g5 := x6.block g5
       have g6 := x6.block g6
       have hF4 := hF4.ext x6
       have hT4 := hT4.ext x6
       obtain ⟨b6, c6⟩ := HX.out _ y6
       clear ck ckl y5 e5 x6 KW
       cases hok : okB F Q with
       | false =>
         obtain ⟨o1, o2, o3, o4⟩ := okB_no hok
         rw [o3] at g5 hF4
         rw [o4] at g6 hT4
         rw [o1, o2]
         have hoo : rightB F = false ∨ (rightB F = true ∧ rightQ Q = false) := by
           unfold okB at hok
           cases hr : rightB F with
           | false => exact .inl rfl
           | true => rw [hr, Bool.true_and] at hok; exact .inr ⟨rfl, hok⟩
         clear hok o1 o2 o3 o4 hds
         go_upto_region 7 with fail
         go_cut [69] from 62 to 70 (fun v wx => v = .bool true ∧ Ext wc wx)
         case first => as_aux_lemma =>
           rcases hoo with hr | ⟨hr, hq⟩
           · rw [hr] at KR
             go_wp2_with (first
               | (refine wpList_load_row rfl 29 (.tmp 2) rfl (w.heap.size) rfl 29 _ (0, 0) _ b6 Tryz.underlying29 rfl (by kernel_rfl) ?_)
               | (go_at_call 15; refine (KR.out _ e6).mono ?_; rintro e w7 ⟨rfl, x7⟩))
             go_meet
             exact ⟨rfl, x7⟩
           · rw [hr] at KR
             rw [hq] at KA
             go_wp2_with (first
               | (refine wpList_load_row rfl 29 (.tmp 2) rfl (w.heap.size) rfl 29 _ (0, 0) _ b6 Tryz.underlying29 rfl (by kernel_rfl) ?_)
               | (go_at_call 15; refine (KR.out _ e6).mono ?_; rintro e w7 ⟨rfl, x7⟩; have c7 := x7.block c6)
               | (refine wpList_load_row_g (by rfl) 31 (.tmp 3) rfl (w.heap.size + 1) rfl 31 _ (0, 0) _ c7 Tryz.underlying31 rfl (by kernel_rfl) ?_)
               | (go_at_call 16; refine (KA.out _ (e6.trans x7)).mono ?_; rintro e w8 ⟨rfl, x8⟩))
             go_meet
             exact ⟨rfl, x7.trans x8⟩
         case rest =>
           obtain ⟨rfl, x8⟩ := hcut
           have g5 := x8.block g5
           have g6 := x8.block g6
           have hF4 := hF4.ext x8
           have hT4 := hT4.ext x8
           have y8 := y6.trans x8
           clear y6 e6 b6 c6 x8 KR KA
           go_wp2_with (first
             | (refine wpList_load_row_g (by rfl) 29 (.tmp 5) rfl (G5) rfl 29 _ (0, 0) _ g5 Tryz.underlying29 rfl (by kernel_rfl) ?_)
             | (go_at_call 17; refine (rsame14_v (U := zeroV) (G := zeroF) (sameF_self _) _ hF4 (zero_at _) small_zero.all small_zero.all).mono ?_; rintro e w9 ⟨rfl, x9⟩; have g6 := x9.block g6; have hT4 := hT4.ext x9)
             | (refine wpList_load_row_g (by rfl) 37 (.tmp 6) rfl (G5 + 1) rfl 37 _ (0, 0) _ g6 Tryz.underlying37 rfl (by kernel_rfl) ?_)
             | (go_at_call 18; refine (rsame16_v (U := zeroQV) (G := zeroT) (sameT_self _) _ hT4 (telnone_at _ rfl rfl) (Nat.zero_le _) (Nat.zero_le _) (Nat.zero_le _) (Nat.zero_le _)).mono ?_; rintro e wA ⟨rfl, xA⟩)
             | (go_at_call 11; refine (HSU.out _).mono ?_; rintro e wB ⟨rfl, xB⟩))
           go_ret
           exact ⟨rfl, e0.trans (((y8.trans x9).trans xA).trans xB)⟩
       | true =>
         obtain ⟨hr, hq, o1, o2, o3, o4⟩ := okB_yes hok
         rw [o3] at g5 hF4
         rw [o4] at g6 hT4
         rw [o1, o2]
         rw [o3, o4] at hds
         rw [hr] at KR
         rw [hq] at KA
         have KO := Lib.hid (fun W (x : Ext w W) => rdo17_any V F U Q W (h.ext x) (k.ext x) kq hw hq hr)
         have KE := Lib.hid (fun W (x : Ext w W) => rcode17_any V F U Q W (h.ext x) kq ((rightQ_iff Q).1 hq).1)
         have HD := Lib.hid hds
         clear hok o1 o2 o3 o4 hds hr hq
         unfold Do17P at KO
         generalize datE F Q = E at *
         generalize datF F Q = G at *
         generalize datT F Q = T at *
         go_upto_region 9 with (first
           | (refine wpList_load_row rfl 29 (.tmp 2) rfl (w.heap.size) rfl 29 _ (0, 0) _ b6 Tryz.underlying29 rfl (by kernel_rfl) ?_)
           | (go_at_call 15; refine (KR.out _ e6).mono ?_; rintro e w7 ⟨rfl, x7⟩; have c7 := x7.block c6)
           | (refine wpList_load_row_g (by rfl) 31 (.tmp 3) rfl (w.heap.size + 1) rfl 31 _ (0, 0) _ c7 Tryz.underlying31 rfl (by kernel_rfl) ?_)
           | (go_at_call 16; refine (KA.out _ (e6.trans x7)).mono ?_; rintro e w8 ⟨rfl, x8⟩))
         have x8 := x7.trans x8
         have y8 := y6.trans x8
         have e8 := e0.trans y8
         have g5 := x8.block g5
         have g6 := x8.block g6
         have hF4 := hF4.ext x8
         have hT4 := hT4.ext x8
         obtain ⟨b8, c8⟩ := HX.out _ y8
         clear y6 e6 b6 c6 c7 x7 x8 KR KA
         go_upto_region 10 with (first
           | (refine wpList_load_row rfl 29 (.tmp 2) rfl (w.heap.size) rfl 29 _ (0, 0) _ b8 Tryz.underlying29 rfl (by kernel_rfl) ?_)
           | (refine wpList_load_row rfl 31 (.tmp 3) rfl (w.heap.size + 1) rfl 31 _ (0, 0) _ c8 Tryz.underlying31 rfl (by kernel_rfl) ?_)
           | (go_at_call 19; refine (KO.out _ e8).mono ?_; rintro e w9 ⟨V9, X9, rfl, hF9, hT9, x9⟩; have r9 := toldFT w9 #[.int .i64 0, .int .i64 0, .int .i64 0, .int .i64 0, .int .i64 0, .int .i64 0, .int .i64 0, .int .i64 0, .int .i64 0, .int .i64 0, .slice none 0 0, .slice none 0 0, .slice none 0 0, .slice none 0 0] (filC V9 G) #[.int .i64 0, .int .i64 0, .int .i64 0, .int .i64 0, .int .i64 0, .int .i64 0, .int .i64 0, .slice none 0 0, .slice none 0 0] (telC X9 T) 29 37)
           | (refine wpList_store_row rfl 29 (.tmp 9) (.tmp 93) rfl w9.heap.size _ rfl rfl 29 _ r9.2.2.2.1 (by kernel_rfl) rfl (by simp [filC, Value.oneCell']) ?_)
           | (refine wpList_store_row rfl 37 (.tmp 10) (.tmp 94) rfl (w9.heap.size + 1) _ rfl rfl 37 _ r9.2.2.2.2 (by kernel_rfl) rfl (by simp [telC, Value.oneCell']) ?_))
         obtain ⟨W9, hW9, z9, g9, gA⟩ : ∃ W, W = ((((w9.alloc (.cells #[.int .i64 0, .int .i64 0, .int .i64 0, .int .i64 0, .int .i64 0, .int .i64 0, .int .i64 0, .int .i64 0, .int .i64 0, .int .i64 0, .slice none 0 0, .slice none 0 0, .slice none 0 0, .slice none 0 0] 29)).alloc (.cells #[.int .i64 0, .int .i64 0, .int .i64 0, .int .i64 0, .int .i64 0, .int .i64 0, .int .i64 0, .slice none 0 0, .slice none 0 0] 37)).setRow w9.heap.size (filC V9 G)).setRow (w9.heap.size + 1) (telC X9 T)) ∧ Ext w9 W ∧ W.heap[w9.heap.size]? = some (.cells (filC V9 G) 29 (0, 0)) ∧ W.heap[w9.heap.size + 1]? = some (.cells (telC X9 T) 37 (0, 0)) := ⟨_, rfl, r9.1, r9.2.1, r9.2.2.1⟩
         rw [← hW9]
         clear hW9 r9
         generalize w9.heap.size = G9 at g9 gA ⊢
         have x9 := x9.trans z9
         have y9 := y8.trans x9
         have e9 := e0.trans y9
         have g5 := x9.block g5
         have g6 := x9.block g6
         have hF4 := hF4.ext x9
         have hT4 := hT4.ext x9
         have hF9 := hF9.ext z9
         have hT9 := hT9.ext z9
         obtain ⟨b9, c9⟩ := HX.out _ y9
         clear y8 e8 b8 c8 x9 z9 KO
         go_wp2_with (first
           | (refine wpList_load_row_g (by rfl) 29 (.tmp 5) rfl (G5) rfl 29 _ (0, 0) _ g5 Tryz.underlying29 rfl (by kernel_rfl) ?_)
           | (refine wpList_load_row_g (by rfl) 29 (.tmp 9) rfl (G9) rfl 29 _ (0, 0) _ g9 Tryz.underlying29 rfl (by kernel_rfl) ?_)
           | (go_at_call 17; refine (rsame14_v (sameF_self _) _ hF4 hF9 HD.out.1.all HD.out.1.all).mono ?_; rintro e wa ⟨rfl, xa⟩; have g6 := xa.block g6; have gA := xa.block gA; have hT4 := hT4.ext xa; have hT9 := hT9.ext xa)
           | (refine wpList_load_row_g (by rfl) 37 (.tmp 6) rfl (G5 + 1) rfl 37 _ (0, 0) _ g6 Tryz.underlying37 rfl (by kernel_rfl) ?_)
           | (refine wpList_load_row_g (by rfl) 37 (.tmp 10) rfl (G9 + 1) rfl 37 _ (0, 0) _ gA Tryz.underlying37 rfl (by kernel_rfl) ?_)
           | (go_at_call 18; refine (rsame16_v (sameT_self _) _ hT4 hT9 (by have := HD.out.2.1; omega) (by have := HD.out.2.2; omega) (by have := HD.out.2.1; omega) (by have := HD.out.2.2; omega)).mono ?_; rintro e wb ⟨rfl, xb⟩; have b9 := (xa.trans xb).block b9; have c9 := (xa.trans xb).block c9)
           | (refine wpList_load_row_g (by rfl) 29 (.tmp 2) rfl (w.heap.size) rfl 29 _ (0, 0) _ b9 Tryz.underlying29 rfl (by kernel_rfl) ?_)
           | (refine wpList_load_row_g (by rfl) 31 (.tmp 3) rfl (w.heap.size + 1) rfl 31 _ (0, 0) _ c9 Tryz.underlying31 rfl (by kernel_rfl) ?_)
           | (go_at_call 20; refine (KE.out _ ((e9.trans xa).trans xb)).mono ?_; rintro e wd ⟨rfl, xd⟩)
           | (go_at_call 11; refine (HSU.out _).mono ?_; rintro e we ⟨rfl, xe⟩))
         go_ret
         exact ⟨rfl, e0.trans ((((y9.trans xa).trans xb).trans xd).trans xe)⟩
end Go.Proofs.YtlafnobjfajamaaGreat
namespace Go.Proofs.YtlafnobjfajamaaGreat
open Go.RowKit
set_option linter.unusedVariables false
set_option maxRecDepth 100000

def jobC (U : QstV) (Q : Qst) (V : FilV) (F : Fil) (X : QstV) (T : Tel) : Array Value := #[.int .i64 Q.k, .int .i64 Q.ad, .int .i64 Q.ct, .int .i64 Q.va, .int .i64 Q.an, .int .i64 Q.oo, .int .i64 Q.fr, .int .i64 Q.mn, .slice U.a1 Q.nb U.d1, .slice U.a2 Q.nr U.d2, .int .i64 F.cf, .int .i64 F.cc, .int .i64 F.jf, .int .i64 F.jc, .int .i64 F.hf, .int .i64 F.hc, .int .i64 F.rf, .int .i64 F.rc, .int .i64 F.bf, .int .i64 F.bc, .slice V.a1 F.nC V.d1, .slice V.a2 F.nI V.d2, .slice V.a3 F.nH V.d3, .slice V.a4 F.nR V.d4, .int .i64 T.k, .int .i64 T.cd, .int .i64 T.ad, .int .i64 T.ct, .int .i64 T.va, .int .i64 T.an, .int .i64 T.oo, .slice X.a1 T.nb X.d1, .slice X.a2 T.nr X.d2]
theorem plain_job (U : QstV) (Q : Qst) (V : FilV) (F : Fil) (X : QstV) (T : Tel) : PlainC (jobC U Q V F X T) := ⟨fun b h => by simp [jobC] at h, fun b h => by simp [jobC] at h⟩
/-- Cells of a row written over, one by one. -/
def putL (cs : Array Value) : Nat → List Value → Array Value
  | _, [] => cs
  | o, v :: r => putL (cs.setIfInBounds o v) (o + 1) r
theorem heap_setCells (g : Nat) (t : TypeId) : ∀ (vs : List Value) (o : Nat) (w : World) (cs : Array Value), w.heap[g]? = some (.cells cs t (0, 0)) → (w.setCells g o vs).heap[g]? = some (.cells (putL cs o vs) t (0, 0))
  | [], _, _, _, h => h
  | v :: r, o, w, cs, h => heap_setCells g t r (o + 1) _ _ (heap_setCell_same w g o cs t v h)
theorem heap_setCells_other (g k : Nat) (hk : k ≠ g) : ∀ (vs : List Value) (o : Nat) (w : World), (w.setCells g o vs).heap[k]? = w.heap[k]?
  | [], _, _ => rfl
  | v :: r, o, w => (heap_setCells_other g k hk r (o + 1) _).trans (heap_setCell_other w ⟨g, o, none⟩ k v hk)
theorem keep_setCells (g : Nat) : ∀ (vs : List Value) (o : Nat) (w : World), Keep (fun i => i = g) w (w.setCells g o vs)
  | [], _, w => Keep.refl _ w
  | v :: r, o, w => (keepCell w g o v).trans (keep_setCells g r (o + 1) _) (fun _ h => .inl h)
theorem put_told (U : QstV) (Q : Qst) (V : FilV) (F : Fil) (X : QstV) (T : Tel) (X' : QstV) (T' : Tel) : putL (jobC U Q V F X T) 24 (telC X' T').toList = jobC U Q V F X' T' := by simp only [putL, jobC, telC, List.setIfInBounds_toArray, List.set_cons_succ, List.set_cons_zero]
theorem put_now (U : QstV) (Q : Qst) (V : FilV) (F : Fil) (X : QstV) (T : Tel) (V' : FilV) (F' : Fil) : putL (jobC U Q V F X T) 10 (filC V' F').toList = jobC U Q V' F' X T := by simp only [putL, jobC, filC, List.setIfInBounds_toArray, List.set_cons_succ, List.set_cons_zero]
theorem there_of {w : World} {g o n : Nat} {cs : Array Value} {t : TypeId} (h : w.heap[g]? = some (.cells cs t (0, 0))) (hs : o + n ≤ cs.size) : w.there g o n := fun j hj =>
  ⟨by rw [cell_of_row _ _ _ _ _ _ h, Array.getElem?_eq_getElem (by omega)]; rfl, frozen0 h⟩
section
variable {w : World} {g : Nat} {U : QstV} {Q : Qst} {V : FilV} {F : Fil} {X : QstV} {T : Tel} {t : TypeId}
theorem job_now (h : w.heap[g]? = some (.cells (jobC U Q V F X T) t (0, 0))) : w.rangeAt g 10 (filC V F).toList := fun j v hv => by
  rw [cell_of_row _ _ _ _ _ _ h, ← hv]
  have hj : j < 14 := (List.getElem?_eq_some_iff.1 hv).1
  rcases (show j = 0 ∨ j = 1 ∨ j = 2 ∨ j = 3 ∨ j = 4 ∨ j = 5 ∨ j = 6 ∨ j = 7 ∨ j = 8 ∨ j = 9 ∨ j = 10 ∨ j = 11 ∨ j = 12 ∨ j = 13 by omega) with rfl | rfl | rfl | rfl | rfl | rfl | rfl | rfl | rfl | rfl | rfl | rfl | rfl | rfl <;> rfl
theorem job_told (h : w.heap[g]? = some (.cells (jobC U Q V F X T) t (0, 0))) : w.rangeAt g 24 (telC X T).toList := fun j v hv => by
  rw [cell_of_row _ _ _ _ _ _ h, ← hv]
  have hj : j < 9 := (List.getElem?_eq_some_iff.1 hv).1
  rcases (show j = 0 ∨ j = 1 ∨ j = 2 ∨ j = 3 ∨ j = 4 ∨ j = 5 ∨ j = 6 ∨ j = 7 ∨ j = 8 by omega) with rfl | rfl | rfl | rfl | rfl | rfl | rfl | rfl | rfl <;> rfl
end
/-- A job in its box, and all that it holds. -/
structure JobAt (w : World) (g : Nat) (U : QstV) (Q : Qst) (V : FilV) (F : Fil) (X : QstV) (T : Tel) : Prop where
  row : w.heap[g]? = some (.cells (jobC U Q V F X T) 65 (0, 0))
  q : QstAt w U Q
  f : FilAt w V F
  t : TelAt w X T
theorem held_plain {α : Type} {mk : α → Value} {w w' : World} {g : Nat} {cs : Array Value} {t : TypeId} {x : Option Addr} {m : Nat} {B : Nat → α} (hg : w.heap[g]? = some (.cells cs t (0, 0))) (hn : ∀ u, mk u ∉ cs) (k : Keep (fun i => i = g) w w') (h : HoldsG mk w x m B) : HoldsG mk w' x m B := by
  by_cases hm : m = 0
  · exact .inl hm
  · obtain ⟨b, off, ha, hlt, hc⟩ := h.resolve_left hm
    refine h.keep k (fun p hp e => ?_)
    rw [ha] at hp; cases hp
    have e : b = g := e
    subst e
    have h0 := hc 0 (by omega)
    rw [cell_of_row _ _ _ _ _ _ hg] at h0
    exact hn _ (Array.mem_of_getElem? h0)
section
variable {w w' : World} {g : Nat} {cs : Array Value} {t : TypeId}
theorem FilAt.plain {V : FilV} {F : Fil} (h : FilAt w V F) (hg : w.heap[g]? = some (.cells cs t (0, 0))) (hp : PlainC cs) (k : Keep (fun i => i = g) w w') : FilAt w' V F :=
  ⟨held_plain hg hp.1 k h.h1, h.l1, h.m1, held_plain hg hp.1 k h.h2, h.l2, h.m2, held_plain hg hp.2 k h.h3, h.l3, h.m3, held_plain hg hp.2 k h.h4, h.l4, h.m4⟩
theorem QstAt.plain {V : QstV} {Q : Qst} (h : QstAt w V Q) (hg : w.heap[g]? = some (.cells cs t (0, 0))) (hp : PlainC cs) (k : Keep (fun i => i = g) w w') : QstAt w' V Q :=
  ⟨held_plain hg hp.1 k h.h1, h.l1, h.m1, held_plain hg hp.2 k h.h2, h.l2, h.m2⟩
theorem TelAt.plain {V : QstV} {T : Tel} (h : TelAt w V T) (hg : w.heap[g]? = some (.cells cs t (0, 0))) (hp : PlainC cs) (k : Keep (fun i => i = g) w w') : TelAt w' V T :=
  ⟨held_plain hg hp.1 k h.h1, h.l1, h.m1, held_plain hg hp.2 k h.h2, h.l2, h.m2⟩
end
section
variable {w w' : World} {g : Nat} {U : QstV} {Q : Qst} {V V' : FilV} {F F' : Fil} {X X' : QstV} {T T' : Tel}
theorem JobAt.ext (h : JobAt w g U Q V F X T) (x : Ext w w') : JobAt w' g U Q V F X T := ⟨x.block h.row, h.q.ext x, h.f.ext x, h.t.ext x⟩
theorem JobAt.lt (h : JobAt w g U Q V F X T) : g < w.heap.size := heap_lt h.row
/-- What is told, written over. -/
theorem JobAt.tell (h : JobAt w g U Q V F X T) (t : TelAt w X' T') : JobAt (w.setCells g 24 (telC X' T').toList) g U Q V F X' T' :=
  have k := keep_setCells g (telC X' T').toList 24 w
  have p := plain_job U Q V F X T
  ⟨by rw [← put_told U Q V F X T X' T']; exact heap_setCells g _ _ _ _ _ h.row, h.q.plain h.row p k, h.f.plain h.row p k, t.plain h.row p k⟩
/-- The tables, written over. -/
theorem JobAt.put (h : JobAt w g U Q V F X T) (f : FilAt w V' F') : JobAt (w.setCells g 10 (filC V' F').toList) g U Q V' F' X T :=
  have k := keep_setCells g (filC V' F').toList 10 w
  have p := plain_job U Q V F X T
  ⟨by rw [← put_now U Q V F X T V' F']; exact heap_setCells g _ _ _ _ _ h.row, h.q.plain h.row p k, f.plain h.row p k, h.t.plain h.row p k⟩
end
/-- What a function of a job tells: the exception; without one the job is as it is then. -/
def JobP (g : Nat) (U : QstV) (Q : Qst) (E : Int) (F : Fil) (T : Tel) (w : World) (e : Ending) (w' : World) : Prop :=
  e = .returned (.int .i64 E) ∧ Keep (fun i => i = g) w w' ∧ (E = 0 → ∃ V X, JobAt w' g U Q V F X T)
section
variable {P : Program} {ops : Array Oper} {rest : List Oper} {o : Oper} {a : Act} {w : World} {Q : Exit → Act → World → Prop} {K : Act → World → Prop} {E : Prop}
theorem wpList_load_arr (hgd : o.guard = none) (ty : TypeId) (x : Operand) (ho : o.op = .load ty x) (b off : Nat) (hx : a.eval x = .pointer (some ⟨b, off, none⟩)) (cs : Array Value) (d : TypeDesc) (hc : w.rangeAt b off cs.toList)
    (hu : P.underlying ty = some d) (hd : d.isRow = true) (hi : (P.info? ty).map (·.size) = some cs.size) (h : wpList P ops Q rest (a.put o.dst (.agg cs)) w) : wpList P ops Q (o :: rest) a w :=
  wpList_load_mid hgd ty x ho b off hx cs.toList d hc hu hd (by rw [hi]; simp) (by simpa using h)
theorem wpList_store_arr (hgd : o.guard = none) (ty : TypeId) (x y : Operand) (ho : o.op = .store ty x y) (b off : Nat) (cs : Array Value) (hx : a.eval x = .pointer (some ⟨b, off, none⟩)) (hy : a.eval y = .agg cs)
    (ht : w.there b off cs.size) (hi : (P.info? ty).map (·.size) = some cs.size) (h1 : cs.all (·.oneCell') = true) (h : wpList P ops Q rest (a.put o.dst undef) (w.setCells b off cs.toList)) : wpList P ops Q (o :: rest) a w :=
  wpList_store_mid hgd ty x y ho b off cs hx hy ht hi h1 h
theorem step_load_arr (hgd : o.guard = none) (ty : TypeId) (x : Operand) (ho : o.op = .load ty x) (b off : Nat) (hx : a.eval x = .pointer (some ⟨b, off, none⟩)) (cs : Array Value) (d : TypeDesc) (hc : w.rangeAt b off cs.toList)
    (hu : P.underlying ty = some d) (hd : d.isRow = true) (hi : (P.info? ty).map (·.size) = some cs.size) (dd : Tmp) (hdd : o.dst = some dd) (h : K (a.put (some dd) (.agg cs)) w) : if Region.wanted o (yielded ops a.tmps) = true then Oper.wp P o a w K Q else E := by
  rw [if_pos (by simp [Region.wanted, hgd])]
  exact wp_load_mid ty x ho b off hx cs.toList d hc hu hd (by rw [hi]; simp) (by rw [hdd]; simpa using h)
theorem step_store_arr (hgd : o.guard = none) (ty : TypeId) (x y : Operand) (ho : o.op = .store ty x y) (b off : Nat) (cs : Array Value) (hx : a.eval x = .pointer (some ⟨b, off, none⟩)) (hy : a.eval y = .agg cs)
    (ht : w.there b off cs.size) (hi : (P.info? ty).map (·.size) = some cs.size) (h1 : cs.all (·.oneCell') = true) (hdd : o.dst = none) (h : K (a.put none undef) (w.setCells b off cs.toList)) : if Region.wanted o (yielded ops a.tmps) = true then Oper.wp P o a w K Q else E := by
  rw [if_pos (by simp [Region.wanted, hgd])]
  exact wp_store_mid ty x y ho b off cs hx hy ht hi h1 (by rw [hdd]; exact h)
end
/-- What every world of a job's region has. -/
structure InJob (w : World) (g : Nat) (U : QstV) (Q : Qst) (W : World) : Prop where
  k : Keep (fun i => i = g) w W
  j : ∃ V F X T, JobAt W g U Q V F X T
theorem InJob.c {w W : World} {g : Nat} {U : QstV} {Q : Qst} (h : InJob w g U Q W) : (W.cell? ⟨g, 0, none⟩ = some (.int .i64 Q.k) ∧ W.cell? ⟨g, 1, none⟩ = some (.int .i64 Q.ad) ∧ W.cell? ⟨g, 2, none⟩ = some (.int .i64 Q.ct) ∧ W.cell? ⟨g, 3, none⟩ = some (.int .i64 Q.va)) ∧ W.cell? ⟨g, 4, none⟩ = some (.int .i64 Q.an) ∧ W.cell? ⟨g, 5, none⟩ = some (.int .i64 Q.oo) ∧ W.cell? ⟨g, 6, none⟩ = some (.int .i64 Q.fr) ∧ W.cell? ⟨g, 7, none⟩ = some (.int .i64 Q.mn) := by
  obtain ⟨V, F, X, T, h⟩ := h.j
  exact ⟨⟨cell_of_heap h.row rfl, cell_of_heap h.row rfl, cell_of_heap h.row rfl, cell_of_heap h.row rfl⟩, cell_of_heap h.row rfl, cell_of_heap h.row rfl, cell_of_heap h.row rfl, cell_of_heap h.row rfl⟩
section
variable {w w' : World} {g : Nat} {U : QstV} {Q : Qst} {V V' : FilV} {F F' : Fil} {X X' : QstV} {T T' : Tel}
theorem JobAt.c (h : JobAt w g U Q V F X T) : (w.cell? ⟨g, 0, none⟩ = some (.int .i64 Q.k) ∧ w.cell? ⟨g, 1, none⟩ = some (.int .i64 Q.ad) ∧ w.cell? ⟨g, 2, none⟩ = some (.int .i64 Q.ct) ∧ w.cell? ⟨g, 3, none⟩ = some (.int .i64 Q.va)) ∧ w.cell? ⟨g, 4, none⟩ = some (.int .i64 Q.an) ∧ w.cell? ⟨g, 5, none⟩ = some (.int .i64 Q.oo) ∧ w.cell? ⟨g, 6, none⟩ = some (.int .i64 Q.fr) ∧ w.cell? ⟨g, 7, none⟩ = some (.int .i64 Q.mn) := InJob.c ⟨Keep.refl _ _, _, _, _, _, h⟩
theorem JobAt.c8 (h : JobAt w g U Q V F X T) : w.cell? ⟨g, 8, none⟩ = some (.slice U.a1 Q.nb U.d1) ∧ w.cell? ⟨g, 9, none⟩ = some (.slice U.a2 Q.nr U.d2) := ⟨cell_of_heap h.row rfl, cell_of_heap h.row rfl⟩
theorem JobAt.there_told (h : JobAt w g U Q V F X T) : w.there g 24 (telC X' T').size := there_of h.row (Nat.le_of_ble_eq_true rfl)
theorem JobAt.there_now (h : JobAt w g U Q V F X T) : w.there g 10 (filC V' F').size := there_of h.row (Nat.le_of_ble_eq_true rfl)
end
theorem keep_same {g : Nat} {a b c : World} (h : Keep (fun i => i = g) a b) (k : Keep (fun i => i = g) b c) : Keep (fun i => i = g) a c := h.trans k fun _ e => .inl e
end Go.Proofs.YtlafnobjfajamaaGreat
namespace Go.Proofs.YtlafnobjfajamaaGreat
open Go.RowKit
set_option linter.unusedVariables false
set_option maxRecDepth 100000

set_option maxHeartbeats 1000000 in
theorem jcoils_v (hB : FBitsC 135) {g : Nat} {U : QstV} {Q : Qst} {V : FilV} {F : Fil} {X : QstV} {T : Tel} (x k : Int) (w : World) (h : JobAt w g U Q V F X T) (wx : (Lit.int .i64 x).wf = true) (wk : (Lit.int .i64 k).wf = true) :
    Calls Tryz.prog 109 #[.pointer (some ⟨g, 0, none⟩), .int .i64 x, .int .i64 k] w (SlP Value.bool (bitE F false x k) (bitN F false x k) (bitL F false x) w) := by
  have K := Lib.hid (hB V F false x k w h.f wx wk)
  have HR := Lib.hid (job_now h.row)
  clear h
  go_enter Tryz.func109, Tryz.ntmps109
  go_wp2_with (first
    | (refine wpList_load_arr rfl 29 (.tmp 10) rfl g 10 rfl (filC V F) _ HR.out Tryz.underlying29 rfl (by kernel_rfl) ?_))
  refine (K.out).mono ?_; rintro e w1 ⟨b, q, rfl, h1, h2, h3, h4, h5⟩
  go_wp2
  go_ret2
  exact ⟨b, q, rfl, h1, h2, h3, h4, h5⟩
set_option maxHeartbeats 1000000 in
theorem jinputs_v (hB : FBitsC 135) {g : Nat} {U : QstV} {Q : Qst} {V : FilV} {F : Fil} {X : QstV} {T : Tel} (x k : Int) (w : World) (h : JobAt w g U Q V F X T) (wx : (Lit.int .i64 x).wf = true) (wk : (Lit.int .i64 k).wf = true) :
    Calls Tryz.prog 110 #[.pointer (some ⟨g, 0, none⟩), .int .i64 x, .int .i64 k] w (SlP Value.bool (bitE F true x k) (bitN F true x k) (bitL F true x) w) := by
  have K := Lib.hid (hB V F true x k w h.f wx wk)
  have HR := Lib.hid (job_now h.row)
  clear h
  go_enter Tryz.func110, Tryz.ntmps110
  go_wp2_with (first
    | (refine wpList_load_arr rfl 29 (.tmp 10) rfl g 10 rfl (filC V F) _ HR.out Tryz.underlying29 rfl (by kernel_rfl) ?_))
  refine (K.out).mono ?_; rintro e w1 ⟨b, q, rfl, h1, h2, h3, h4, h5⟩
  go_wp2
  go_ret2
  exact ⟨b, q, rfl, h1, h2, h3, h4, h5⟩
set_option maxHeartbeats 1000000 in
theorem jholding_v (hB : FWordsC 136) {g : Nat} {U : QstV} {Q : Qst} {V : FilV} {F : Fil} {X : QstV} {T : Tel} (x k : Int) (w : World) (h : JobAt w g U Q V F X T) (wx : (Lit.int .i64 x).wf = true) (wk : (Lit.int .i64 k).wf = true) :
    Calls Tryz.prog 112 #[.pointer (some ⟨g, 0, none⟩), .int .i64 x, .int .i64 k] w (SlP (Value.int .u16) (wrdE F false x k) (wrdN F false x k) (wrdL F false x) w) := by
  have K := Lib.hid (hB V F false x k w h.f wx wk)
  have HR := Lib.hid (job_now h.row)
  clear h
  go_enter Tryz.func112, Tryz.ntmps112
  go_wp2_with (first
    | (refine wpList_load_arr rfl 29 (.tmp 10) rfl g 10 rfl (filC V F) _ HR.out Tryz.underlying29 rfl (by kernel_rfl) ?_))
  refine (K.out).mono ?_; rintro e w1 ⟨b, q, rfl, h1, h2, h3, h4, h5⟩
  go_wp2
  go_ret2
  exact ⟨b, q, rfl, h1, h2, h3, h4, h5⟩
set_option maxHeartbeats 1000000 in
theorem jregs_v (hB : FWordsC 136) {g : Nat} {U : QstV} {Q : Qst} {V : FilV} {F : Fil} {X : QstV} {T : Tel} (x k : Int) (w : World) (h : JobAt w g U Q V F X T) (wx : (Lit.int .i64 x).wf = true) (wk : (Lit.int .i64 k).wf = true) :
    Calls Tryz.prog 113 #[.pointer (some ⟨g, 0, none⟩), .int .i64 x, .int .i64 k] w (SlP (Value.int .u16) (wrdE F true x k) (wrdN F true x k) (wrdL F true x) w) := by
  have K := Lib.hid (hB V F true x k w h.f wx wk)
  have HR := Lib.hid (job_now h.row)
  clear h
  go_enter Tryz.func113, Tryz.ntmps113
  go_wp2_with (first
    | (refine wpList_load_arr rfl 29 (.tmp 10) rfl g 10 rfl (filC V F) _ HR.out Tryz.underlying29 rfl (by kernel_rfl) ?_))
  refine (K.out).mono ?_; rintro e w1 ⟨b, q, rfl, h1, h2, h3, h4, h5⟩
  go_wp2
  go_ret2
  exact ⟨b, q, rfl, h1, h2, h3, h4, h5⟩
/-- Telling cells that are read by a method value. -/
def ToldP (g : Nat) (U : QstV) (Q : Qst) (V : FilV) (F : Fil) (E : Int) (T : Tel) (w : World) (e : Ending) (w' : World) : Prop := e = .returned (.int .i64 E) ∧ Keep (fun i => i = g) w w' ∧ ∃ X, JobAt w' g U Q V F X T
set_option maxHeartbeats 4000000 in
theorem jtellBits_v (R : FuncId) (E : Int) (N : Nat) (L : Nat → Bool) {g : Nat} {U : QstV} {Q : Qst} {V : FilV} {F : Fil} {X : QstV} {T : Tel} (w : World) (h : JobAt w g U Q V F X T)
    (henters : ∀ (args : Array Value) (w : World), (callFunc R args).run Tryz.prog w = .ok (.enter R args) w)
    (ht : ∀ W, Ext w W → Calls Tryz.prog R #[.pointer (some ⟨g, 0, none⟩), .int .i64 Q.ad, .int .i64 Q.ct] W (SlP Value.bool E N L W)) :
    Calls Tryz.prog 108 #[.pointer (some ⟨g, 0, none⟩), .func (Fn.func R) #[.pointer (some ⟨g, 0, none⟩)] #[]] w (ToldP g U Q V F E { zeroT with k := Q.k, nb := N, B := L } w) := by
  have HT := Lib.hid ht
  have HJ0 := Lib.hid h
  have hs : InJob w g U Q w.drew := ⟨Keep.of_ext (Ext.drew w), _, _, _, _, h.ext (Ext.drew w)⟩
  have hd : Ext w w.drew := Ext.drew w
  have hJ := h
  clear h ht
  go_enter Tryz.func108, Tryz.ntmps108
  go_wp2_with fail
  refine wp_region_held_drew (S := InJob w g U Q) (by kernel_rfl) hs (fun _ => ?_)
  refine wpAnyH_takeD (i := 0) (d := 8) (v := .func (Fn.func R) #[.pointer (some ⟨g, 0, none⟩)] #[]) rfl rfl (by kernel_rfl) (by kernel_rfl) (by kernel_rfl) (fun _ _ _ h => h) (Or.inl ⟨by rfl, fun W hW => by go_simp⟩) hs ?_
  simp only [Act.put, List.setIfInBounds_toArray, List.set_cons_succ, List.set_cons_zero]
  refine wpAnyH_takeD (i := 1) (d := 9) (v := .pointer (some ⟨g, 0, none⟩)) rfl rfl (by kernel_rfl) (by kernel_rfl) (by kernel_rfl) (fun _ _ _ h => h) (Or.inl ⟨by rfl, fun W hW => by go_simp⟩) hs ?_
  simp only [Act.put, List.setIfInBounds_toArray, List.set_cons_succ, List.set_cons_zero]
  refine wpAnyH_takeD (i := 2) (d := 10) (v := .pointer (some ⟨g, 0, none⟩)) rfl rfl (by kernel_rfl) (by kernel_rfl) (by kernel_rfl) (fun _ _ _ h => h) (Or.inl ⟨by rfl, fun W hW => by go_simp⟩) hs ?_
  simp only [Act.put, List.setIfInBounds_toArray, List.set_cons_succ, List.set_cons_zero]
  refine wpAnyH_takeD (i := 3) (d := 11) (v := .pointer (some ⟨g, 0, none⟩)) rfl rfl (by kernel_rfl) (by kernel_rfl) (by kernel_rfl) (fun _ _ _ h => h) (Or.inl ⟨by rfl, fun W hW => by go_simp⟩) hs ?_
  simp only [Act.put, List.setIfInBounds_toArray, List.set_cons_succ, List.set_cons_zero]
  refine wpAnyH_takeD (i := 4) (d := 12) (v := .pointer (some ⟨g, 1, none⟩)) rfl rfl (by kernel_rfl) (by kernel_rfl) (by kernel_rfl) (fun _ _ _ h => h) (Or.inl ⟨by rfl, fun W hW => by go_simp⟩) hs ?_
  simp only [Act.put, List.setIfInBounds_toArray, List.set_cons_succ, List.set_cons_zero]
  refine wpAnyH_takeD (i := 5) (d := 13) (v := .int .i64 Q.ad) rfl rfl (by kernel_rfl) (by kernel_rfl) (by kernel_rfl) (fun _ _ _ h => h) (Or.inl ⟨by rfl, fun W hW => by obtain ⟨⟨k0, k1, k2, k3⟩, k4, k5, k6, k7⟩ := InJob.c hW; go_simp⟩) hs ?_
  simp only [Act.put, List.setIfInBounds_toArray, List.set_cons_succ, List.set_cons_zero]
  refine wpAnyH_takeD (i := 6) (d := 14) (v := .pointer (some ⟨g, 0, none⟩)) rfl rfl (by kernel_rfl) (by kernel_rfl) (by kernel_rfl) (fun _ _ _ h => h) (Or.inl ⟨by rfl, fun W hW => by go_simp⟩) hs ?_
  simp only [Act.put, List.setIfInBounds_toArray, List.set_cons_succ, List.set_cons_zero]
  refine wpAnyH_takeD (i := 7) (d := 15) (v := .pointer (some ⟨g, 0, none⟩)) rfl rfl (by kernel_rfl) (by kernel_rfl) (by kernel_rfl) (fun _ _ _ h => h) (Or.inl ⟨by rfl, fun W hW => by go_simp⟩) hs ?_
  simp only [Act.put, List.setIfInBounds_toArray, List.set_cons_succ, List.set_cons_zero]
  refine wpAnyH_takeD (i := 8) (d := 16) (v := .pointer (some ⟨g, 0, none⟩)) rfl rfl (by kernel_rfl) (by kernel_rfl) (by kernel_rfl) (fun _ _ _ h => h) (Or.inl ⟨by rfl, fun W hW => by go_simp⟩) hs ?_
  simp only [Act.put, List.setIfInBounds_toArray, List.set_cons_succ, List.set_cons_zero]
  refine wpAnyH_takeD (i := 9) (d := 17) (v := .pointer (some ⟨g, 2, none⟩)) rfl rfl (by kernel_rfl) (by kernel_rfl) (by kernel_rfl) (fun _ _ _ h => h) (Or.inl ⟨by rfl, fun W hW => by go_simp⟩) hs ?_
  simp only [Act.put, List.setIfInBounds_toArray, List.set_cons_succ, List.set_cons_zero]
  refine wpAnyH_takeD (i := 10) (d := 18) (v := .int .i64 Q.ct) rfl rfl (by kernel_rfl) (by kernel_rfl) (by kernel_rfl) (fun _ _ _ h => h) (Or.inl ⟨by rfl, fun W hW => by obtain ⟨⟨k0, k1, k2, k3⟩, k4, k5, k6, k7⟩ := InJob.c hW; go_simp⟩) hs ?_
  simp only [Act.put, List.setIfInBounds_toArray, List.set_cons_succ, List.set_cons_zero]
  refine wpAnyH_ready (rs := [11]) (by kernel_rfl) (by simp) (AllReadyH.cons rfl (fun K hK => ?_) AllReadyH.nil)
  go_simp
  refine (HT.out _ hd).mono ?_; rintro e w1 ⟨b, q, rfl, n1, n2, hb, x1, -⟩
  go_wp2_with fail
  have hs1 := InJob.mk (U := U) (Q := Q) (g := g) (Keep.of_ext (hd.trans x1)) ⟨_, _, _, _, hJ.ext (hd.trans x1)⟩
  refine hK.out _ _ hs1 (fun hs => ?_)
  clear hK K
  refine wpAnyH_takeD (i := 12) (d := 7) (v := .tuple #[.slice b N q, .int .i64 E]) rfl rfl (by kernel_rfl) (by kernel_rfl) (by kernel_rfl) (fun _ _ _ h => h) (Or.inl ⟨by rfl, fun W hW => by go_simp⟩) hs ?_
  simp only [Act.put, List.setIfInBounds_toArray, List.set_cons_succ, List.set_cons_zero]
  refine wpAnyH_takeD (i := 13) (d := 20) (v := .slice b N q) rfl rfl (by kernel_rfl) (by kernel_rfl) (by kernel_rfl) (fun _ _ _ h => h) (Or.inl ⟨by rfl, fun W hW => by go_simp⟩) hs ?_
  simp only [Act.put, List.setIfInBounds_toArray, List.set_cons_succ, List.set_cons_zero]
  refine wpAnyH_takeD (i := 14) (d := 21) (v := .int .i64 E) rfl rfl (by kernel_rfl) (by kernel_rfl) (by kernel_rfl) (fun _ _ _ h => h) (Or.inl ⟨by rfl, fun W hW => by go_simp⟩) hs ?_
  simp only [Act.put, List.setIfInBounds_toArray, List.set_cons_succ, List.set_cons_zero]
  refine wpAnyH_takeD (i := 15) (d := 5) (v := .slice b N q) rfl rfl (by kernel_rfl) (by kernel_rfl) (by kernel_rfl) (fun _ _ _ h => h) (Or.inl ⟨by rfl, fun W hW => by go_simp⟩) hs ?_
  simp only [Act.put, List.setIfInBounds_toArray, List.set_cons_succ, List.set_cons_zero]
  refine wpAnyH_takeD (i := 16) (d := 6) (v := .int .i64 E) rfl rfl (by kernel_rfl) (by kernel_rfl) (by kernel_rfl) (fun _ _ _ h => h) (Or.inl ⟨by rfl, fun W hW => by go_simp⟩) hs ?_
  simp only [Act.put, List.setIfInBounds_toArray, List.set_cons_succ, List.set_cons_zero]
  refine wpAnyH_done (by kernel_rfl) ?_ _
  have x1 := hd.trans x1
  have hJ1 := hJ.ext x1
  clear hs hs1 hd hJ HJ0 HT henters
  have hX : TelAt w1 { zeroQV with a1 := b, d1 := q } { zeroT with k := Q.k, nb := N, B := L } := ⟨hb, n1, n2, .inl rfl, Nat.le_refl _, Nat.zero_le _⟩
  have HJ := Lib.hid (hJ1.tell hX)
  have HTh := Lib.hid (hJ1.there_told (X' := { zeroQV with a1 := b, d1 := q }) (T' := { zeroT with k := Q.k, nb := N, B := L }))
  have c0 := hJ1.c.1.1
  have HZ := Lib.hid x1
  clear hJ1 hX hb
  go_wp2_with (first
    | (refine wpList_store_arr rfl 37 (.tmp 31) (.tmp 29) rfl g 24 (telC { zeroQV with a1 := b, d1 := q } { zeroT with k := Q.k, nb := N, B := L }) rfl rfl HTh.out (by kernel_rfl) (by simp [telC, zeroT, zeroQV, Value.oneCell']) ?_))
  go_ret
  exact ⟨rfl, keep_same (Keep.of_ext HZ.out) (keep_setCells _ _ _ _), _, HJ.out⟩
set_option maxHeartbeats 4000000 in
theorem jtellRegs_v (R : FuncId) (x k : Int) (E : Int) (N : Nat) (L : Nat → Int) {g : Nat} {U : QstV} {Q : Qst} {V : FilV} {F : Fil} {X : QstV} {T : Tel} (w : World) (h : JobAt w g U Q V F X T)
    (henters : ∀ (args : Array Value) (w : World), (callFunc R args).run Tryz.prog w = .ok (.enter R args) w)
    (ht : Calls Tryz.prog R #[.pointer (some ⟨g, 0, none⟩), .int .i64 x, .int .i64 k] w (SlP (Value.int .u16) E N L w)) :
    Calls Tryz.prog 111 #[.pointer (some ⟨g, 0, none⟩), .func (Fn.func R) #[.pointer (some ⟨g, 0, none⟩)] #[], .int .i64 x, .int .i64 k] w (ToldP g U Q V F E { zeroT with k := Q.k, nr := N, R := L } w) := by
  have HT := Lib.hid ht
  have hJ := h
  clear h ht
  go_enter Tryz.func111, Tryz.ntmps111
  go_wp2_with fail
  refine (HT.out).mono ?_; rintro e w1 ⟨b, q, rfl, n1, n2, hb, x1, -⟩
  have hJ1 := hJ.ext x1
  clear hJ HT henters
  have hX : TelAt w1 { zeroQV with a2 := b, d2 := q } { zeroT with k := Q.k, nr := N, R := L } := ⟨.inl rfl, Nat.le_refl _, Nat.zero_le _, hb, n1, n2⟩
  have HJ := Lib.hid (hJ1.tell hX)
  have HTh := Lib.hid (hJ1.there_told (X' := { zeroQV with a2 := b, d2 := q }) (T' := { zeroT with k := Q.k, nr := N, R := L }))
  have c0 := hJ1.c.1.1
  have HZ := Lib.hid x1
  clear hJ1 hX hb
  go_wp2_with (first
    | (refine wpList_store_arr rfl 37 (.tmp 27) (.tmp 25) rfl g 24 (telC { zeroQV with a2 := b, d2 := q } { zeroT with k := Q.k, nr := N, R := L }) rfl rfl HTh.out (by kernel_rfl) (by simp [telC, zeroT, zeroQV, Value.oneCell']) ?_))
  go_ret
  exact ⟨rfl, keep_same (Keep.of_ext HZ.out) (keep_setCells _ _ _ _), _, HJ.out⟩
set_option maxHeartbeats 4000000 in
theorem jputBits_v (hB : FSetBitsC 137) {g : Nat} {U : QstV} {Q : Qst} {V : FilV} {F : Fil} {X : QstV} {T : Tel} (b : Option Addr) (m d : Nat) (v : Nat → Bool) (w : World) (h : JobAt w g U Q V F X T) (wq : (Lit.int .i64 Q.ad).wf = true) (hb : HoldsG Value.bool w b m v) (h1 : m ≤ d) (h2 : d ≤ maxLen) (h3 : m ≤ 1000000) :
    Calls Tryz.prog 114 #[.pointer (some ⟨g, 0, none⟩), .slice b m d] w fun e w' => e = .returned (.int .i64 (sbE F Q.ad m)) ∧ Keep (fun i => i = g) w w' ∧ ∃ V', JobAt w' g U Q V' (sbF F Q.ad m v) X T := by
  have hd : Ext w w.drew := Ext.drew w
  have HC := Lib.hid (hB V F Q.ad b m d v w.drew (h.f.ext hd) (hb.ext hd) h1 h2 h3 wq)
  have hJ := h
  have hs : InJob w g U Q w.drew := ⟨Keep.of_ext hd, _, _, _, _, h.ext hd⟩
  have HR := Lib.hid (job_now (h.ext hd).row)
  clear h hb h1 h2 h3 wq
  generalize sbF F Q.ad m v = F1 at *
  generalize sbE F Q.ad m = E1 at *
  go_enter Tryz.func114, Tryz.ntmps114
  go_wp2_with fail
  refine wp_region_held_drew (S := InJob w g U Q) (by kernel_rfl) hs (fun _ => ?_)
  refine wpAnyH_takeD (i := 0) (d := 6) (v := .pointer (some ⟨g, 0, none⟩)) rfl rfl (by kernel_rfl) (by kernel_rfl) (by kernel_rfl) (fun _ _ _ h => h) (Or.inl ⟨by rfl, fun W hW => by go_simp⟩) hs ?_
  simp only [Act.put, List.setIfInBounds_toArray, List.set_cons_succ, List.set_cons_zero]
  refine wpAnyH_takeD (i := 1) (d := 7) (v := .pointer (some ⟨g, 0, none⟩)) rfl rfl (by kernel_rfl) (by kernel_rfl) (by kernel_rfl) (fun _ _ _ h => h) (Or.inl ⟨by rfl, fun W hW => by go_simp⟩) hs ?_
  simp only [Act.put, List.setIfInBounds_toArray, List.set_cons_succ, List.set_cons_zero]
  refine wpAnyH_takeD (i := 2) (d := 8) (v := .pointer (some ⟨g, 0, none⟩)) rfl rfl (by kernel_rfl) (by kernel_rfl) (by kernel_rfl) (fun _ _ _ h => h) (Or.inl ⟨by rfl, fun W hW => by go_simp⟩) hs ?_
  simp only [Act.put, List.setIfInBounds_toArray, List.set_cons_succ, List.set_cons_zero]
  refine wpAnyH_takeD (i := 3) (d := 9) (v := .pointer (some ⟨g, 10, none⟩)) rfl rfl (by kernel_rfl) (by kernel_rfl) (by kernel_rfl) (fun _ _ _ h => h) (Or.inl ⟨by rfl, fun W hW => by go_simp⟩) hs ?_
  simp only [Act.put, List.setIfInBounds_toArray, List.set_cons_succ, List.set_cons_zero]
  refine wpAnyH_takeD (i := 5) (d := 11) (v := .pointer (some ⟨g, 0, none⟩)) rfl rfl (by kernel_rfl) (by kernel_rfl) (by kernel_rfl) (fun _ _ _ h => h) (Or.inl ⟨by rfl, fun W hW => by go_simp⟩) hs ?_
  simp only [Act.put, List.setIfInBounds_toArray, List.set_cons_succ, List.set_cons_zero]
  refine wpAnyH_takeD (i := 6) (d := 12) (v := .pointer (some ⟨g, 0, none⟩)) rfl rfl (by kernel_rfl) (by kernel_rfl) (by kernel_rfl) (fun _ _ _ h => h) (Or.inl ⟨by rfl, fun W hW => by go_simp⟩) hs ?_
  simp only [Act.put, List.setIfInBounds_toArray, List.set_cons_succ, List.set_cons_zero]
  refine wpAnyH_takeD (i := 7) (d := 13) (v := .pointer (some ⟨g, 0, none⟩)) rfl rfl (by kernel_rfl) (by kernel_rfl) (by kernel_rfl) (fun _ _ _ h => h) (Or.inl ⟨by rfl, fun W hW => by go_simp⟩) hs ?_
  simp only [Act.put, List.setIfInBounds_toArray, List.set_cons_succ, List.set_cons_zero]
  refine wpAnyH_takeD (i := 8) (d := 14) (v := .pointer (some ⟨g, 1, none⟩)) rfl rfl (by kernel_rfl) (by kernel_rfl) (by kernel_rfl) (fun _ _ _ h => h) (Or.inl ⟨by rfl, fun W hW => by go_simp⟩) hs ?_
  simp only [Act.put, List.setIfInBounds_toArray, List.set_cons_succ, List.set_cons_zero]
  refine wpAnyH_takeD (i := 9) (d := 15) (v := .int .i64 Q.ad) rfl rfl (by kernel_rfl) (by kernel_rfl) (by kernel_rfl) (fun _ _ _ h => h) (Or.inl ⟨by rfl, fun W hW => by obtain ⟨⟨k0, k1, k2, k3⟩, k4, k5, k6, k7⟩ := InJob.c hW; go_simp⟩) hs ?_
  simp only [Act.put, List.setIfInBounds_toArray, List.set_cons_succ, List.set_cons_zero]
  refine wpAnyH_takeD (i := 10) (d := 16) (v := .slice b m d) rfl rfl (by kernel_rfl) (by kernel_rfl) (by kernel_rfl) (fun _ _ _ h => h) (Or.inl ⟨by rfl, fun W hW => by go_simp⟩) hs ?_
  simp only [Act.put, List.setIfInBounds_toArray, List.set_cons_succ, List.set_cons_zero]
  refine wpAnyH_ready (rs := [4]) (by kernel_rfl) (by simp) (AllReadyH.cons rfl (fun K hK => ?_) AllReadyH.nil)
  refine step_load_arr rfl 29 (.tmp 9) rfl g 10 rfl (filC V F) _ HR.out Tryz.underlying29 rfl (by kernel_rfl) 10 rfl ?_
  refine hK.out _ _ hs (fun hs => ?_)
  clear hK K
  simp only [Act.put, List.setIfInBounds_toArray, List.set_cons_succ, List.set_cons_zero]
  refine wpAnyH_ready (rs := [11]) (by kernel_rfl) (by simp) (AllReadyH.cons rfl (fun K hK => ?_) AllReadyH.nil)
  go_simp
  refine (HC.out).mono ?_; rintro e w1 ⟨V1, rfl, hf1, x1, -⟩
  go_wp2_with fail
  have x1 := hd.trans x1
  have hJ1 := hJ.ext x1
  refine hK.out _ _ ⟨Keep.of_ext x1, _, _, _, _, hJ1⟩ (fun hs => ?_)
  clear hK K
  refine wpAnyH_takeD (i := 12) (d := 5) (v := .tuple #[.agg (filC V1 F1), .int .i64 E1]) rfl rfl (by kernel_rfl) (by kernel_rfl) (by kernel_rfl) (fun _ _ _ h => h) (Or.inl ⟨by rfl, fun W hW => by go_simp⟩) hs ?_
  simp only [Act.put, List.setIfInBounds_toArray, List.set_cons_succ, List.set_cons_zero]
  refine wpAnyH_takeD (i := 13) (d := 18) (v := .agg (filC V1 F1)) rfl rfl (by kernel_rfl) (by kernel_rfl) (by kernel_rfl) (fun _ _ _ h => h) (Or.inl ⟨by rfl, fun W hW => by go_simp⟩) hs ?_
  simp only [Act.put, List.setIfInBounds_toArray, List.set_cons_succ, List.set_cons_zero]
  refine wpAnyH_takeD (i := 14) (d := 19) (v := .int .i64 E1) rfl rfl (by kernel_rfl) (by kernel_rfl) (by kernel_rfl) (fun _ _ _ h => h) (Or.inl ⟨by rfl, fun W hW => by go_simp⟩) hs ?_
  simp only [Act.put, List.setIfInBounds_toArray, List.set_cons_succ, List.set_cons_zero]
  refine wpAnyH_takeD (i := 15) (d := 20) (v := .pointer (some ⟨g, 0, none⟩)) rfl rfl (by kernel_rfl) (by kernel_rfl) (by kernel_rfl) (fun _ _ _ h => h) (Or.inl ⟨by rfl, fun W hW => by go_simp⟩) hs ?_
  simp only [Act.put, List.setIfInBounds_toArray, List.set_cons_succ, List.set_cons_zero]
  refine wpAnyH_takeD (i := 16) (d := 21) (v := .pointer (some ⟨g, 10, none⟩)) rfl rfl (by kernel_rfl) (by kernel_rfl) (by kernel_rfl) (fun _ _ _ h => h) (Or.inl ⟨by rfl, fun W hW => by go_simp⟩) hs ?_
  simp only [Act.put, List.setIfInBounds_toArray, List.set_cons_succ, List.set_cons_zero]
  refine wpAnyH_ready (rs := [17]) (by kernel_rfl) (by simp) (AllReadyH.cons rfl (fun K hK => ?_) AllReadyH.nil)
  refine step_store_arr rfl 29 (.tmp 21) (.tmp 18) rfl g 10 (filC V1 F1) rfl rfl hJ1.there_now (by kernel_rfl) (by simp [filC, Value.oneCell']) rfl ?_
  have hJ2 := hJ1.put hf1
  refine hK.out _ _ ⟨keep_same (Keep.of_ext x1) (keep_setCells _ _ _ _), _, _, _, _, hJ2⟩ (fun hs => ?_)
  clear hK K
  simp only [Act.put]
  refine wpAnyH_takeD (i := 18) (d := 4) (v := .int .i64 E1) rfl rfl (by kernel_rfl) (by kernel_rfl) (by kernel_rfl) (fun _ _ _ h => h) (Or.inl ⟨by rfl, fun W hW => by go_simp⟩) hs ?_
  simp only [Act.put, List.setIfInBounds_toArray, List.set_cons_succ, List.set_cons_zero]
  refine wpAnyH_done (by kernel_rfl) ?_ _
  go_wp2_with fail
  go_ret
  exact ⟨rfl, keep_same (Keep.of_ext x1) (keep_setCells _ _ _ _), V1, hJ2⟩
set_option maxHeartbeats 4000000 in
theorem jputRegs_v (hB : FSetWordsC 138) {g : Nat} {U : QstV} {Q : Qst} {V : FilV} {F : Fil} {X : QstV} {T : Tel} (b : Option Addr) (m d : Nat) (v : Nat → Int) (w : World) (h : JobAt w g U Q V F X T) (wq : (Lit.int .i64 Q.ad).wf = true) (hb : HoldsG (Value.int .u16) w b m v) (h1 : m ≤ d) (h2 : d ≤ maxLen) (h3 : m ≤ 1000000) :
    Calls Tryz.prog 115 #[.pointer (some ⟨g, 0, none⟩), .slice b m d] w fun e w' => e = .returned (.int .i64 (swE F Q.ad m)) ∧ Keep (fun i => i = g) w w' ∧ ∃ V', JobAt w' g U Q V' (swF F Q.ad m v) X T := by
  have hd : Ext w w.drew := Ext.drew w
  have HC := Lib.hid (hB V F Q.ad b m d v w.drew (h.f.ext hd) (hb.ext hd) h1 h2 h3 wq)
  have hJ := h
  have hs : InJob w g U Q w.drew := ⟨Keep.of_ext hd, _, _, _, _, h.ext hd⟩
  have HR := Lib.hid (job_now (h.ext hd).row)
  clear h hb h1 h2 h3 wq
  generalize swF F Q.ad m v = F1 at *
  generalize swE F Q.ad m = E1 at *
  go_enter Tryz.func115, Tryz.ntmps115
  go_wp2_with fail
  refine wp_region_held_drew (S := InJob w g U Q) (by kernel_rfl) hs (fun _ => ?_)
  refine wpAnyH_takeD (i := 0) (d := 6) (v := .pointer (some ⟨g, 0, none⟩)) rfl rfl (by kernel_rfl) (by kernel_rfl) (by kernel_rfl) (fun _ _ _ h => h) (Or.inl ⟨by rfl, fun W hW => by go_simp⟩) hs ?_
  simp only [Act.put, List.setIfInBounds_toArray, List.set_cons_succ, List.set_cons_zero]
  refine wpAnyH_takeD (i := 1) (d := 7) (v := .pointer (some ⟨g, 0, none⟩)) rfl rfl (by kernel_rfl) (by kernel_rfl) (by kernel_rfl) (fun _ _ _ h => h) (Or.inl ⟨by rfl, fun W hW => by go_simp⟩) hs ?_
  simp only [Act.put, List.setIfInBounds_toArray, List.set_cons_succ, List.set_cons_zero]
  refine wpAnyH_takeD (i := 2) (d := 8) (v := .pointer (some ⟨g, 0, none⟩)) rfl rfl (by kernel_rfl) (by kernel_rfl) (by kernel_rfl) (fun _ _ _ h => h) (Or.inl ⟨by rfl, fun W hW => by go_simp⟩) hs ?_
  simp only [Act.put, List.setIfInBounds_toArray, List.set_cons_succ, List.set_cons_zero]
  refine wpAnyH_takeD (i := 3) (d := 9) (v := .pointer (some ⟨g, 10, none⟩)) rfl rfl (by kernel_rfl) (by kernel_rfl) (by kernel_rfl) (fun _ _ _ h => h) (Or.inl ⟨by rfl, fun W hW => by go_simp⟩) hs ?_
  simp only [Act.put, List.setIfInBounds_toArray, List.set_cons_succ, List.set_cons_zero]
  refine wpAnyH_takeD (i := 5) (d := 11) (v := .pointer (some ⟨g, 0, none⟩)) rfl rfl (by kernel_rfl) (by kernel_rfl) (by kernel_rfl) (fun _ _ _ h => h) (Or.inl ⟨by rfl, fun W hW => by go_simp⟩) hs ?_
  simp only [Act.put, List.setIfInBounds_toArray, List.set_cons_succ, List.set_cons_zero]
  refine wpAnyH_takeD (i := 6) (d := 12) (v := .pointer (some ⟨g, 0, none⟩)) rfl rfl (by kernel_rfl) (by kernel_rfl) (by kernel_rfl) (fun _ _ _ h => h) (Or.inl ⟨by rfl, fun W hW => by go_simp⟩) hs ?_
  simp only [Act.put, List.setIfInBounds_toArray, List.set_cons_succ, List.set_cons_zero]
  refine wpAnyH_takeD (i := 7) (d := 13) (v := .pointer (some ⟨g, 0, none⟩)) rfl rfl (by kernel_rfl) (by kernel_rfl) (by kernel_rfl) (fun _ _ _ h => h) (Or.inl ⟨by rfl, fun W hW => by go_simp⟩) hs ?_
  simp only [Act.put, List.setIfInBounds_toArray, List.set_cons_succ, List.set_cons_zero]
  refine wpAnyH_takeD (i := 8) (d := 14) (v := .pointer (some ⟨g, 1, none⟩)) rfl rfl (by kernel_rfl) (by kernel_rfl) (by kernel_rfl) (fun _ _ _ h => h) (Or.inl ⟨by rfl, fun W hW => by go_simp⟩) hs ?_
  simp only [Act.put, List.setIfInBounds_toArray, List.set_cons_succ, List.set_cons_zero]
  refine wpAnyH_takeD (i := 9) (d := 15) (v := .int .i64 Q.ad) rfl rfl (by kernel_rfl) (by kernel_rfl) (by kernel_rfl) (fun _ _ _ h => h) (Or.inl ⟨by rfl, fun W hW => by obtain ⟨⟨k0, k1, k2, k3⟩, k4, k5, k6, k7⟩ := InJob.c hW; go_simp⟩) hs ?_
  simp only [Act.put, List.setIfInBounds_toArray, List.set_cons_succ, List.set_cons_zero]
  refine wpAnyH_takeD (i := 10) (d := 16) (v := .slice b m d) rfl rfl (by kernel_rfl) (by kernel_rfl) (by kernel_rfl) (fun _ _ _ h => h) (Or.inl ⟨by rfl, fun W hW => by go_simp⟩) hs ?_
  simp only [Act.put, List.setIfInBounds_toArray, List.set_cons_succ, List.set_cons_zero]
  refine wpAnyH_ready (rs := [4]) (by kernel_rfl) (by simp) (AllReadyH.cons rfl (fun K hK => ?_) AllReadyH.nil)
  refine step_load_arr rfl 29 (.tmp 9) rfl g 10 rfl (filC V F) _ HR.out Tryz.underlying29 rfl (by kernel_rfl) 10 rfl ?_
  refine hK.out _ _ hs (fun hs => ?_)
  clear hK K
  simp only [Act.put, List.setIfInBounds_toArray, List.set_cons_succ, List.set_cons_zero]
  refine wpAnyH_ready (rs := [11]) (by kernel_rfl) (by simp) (AllReadyH.cons rfl (fun K hK => ?_) AllReadyH.nil)
  go_simp
  refine (HC.out).mono ?_; rintro e w1 ⟨V1, rfl, hf1, x1, -⟩
  go_wp2_with fail
  have x1 := hd.trans x1
  have hJ1 := hJ.ext x1
  refine hK.out _ _ ⟨Keep.of_ext x1, _, _, _, _, hJ1⟩ (fun hs => ?_)
  clear hK K
  refine wpAnyH_takeD (i := 12) (d := 5) (v := .tuple #[.agg (filC V1 F1), .int .i64 E1]) rfl rfl (by kernel_rfl) (by kernel_rfl) (by kernel_rfl) (fun _ _ _ h => h) (Or.inl ⟨by rfl, fun W hW => by go_simp⟩) hs ?_
  simp only [Act.put, List.setIfInBounds_toArray, List.set_cons_succ, List.set_cons_zero]
  refine wpAnyH_takeD (i := 13) (d := 18) (v := .agg (filC V1 F1)) rfl rfl (by kernel_rfl) (by kernel_rfl) (by kernel_rfl) (fun _ _ _ h => h) (Or.inl ⟨by rfl, fun W hW => by go_simp⟩) hs ?_
  simp only [Act.put, List.setIfInBounds_toArray, List.set_cons_succ, List.set_cons_zero]
  refine wpAnyH_takeD (i := 14) (d := 19) (v := .int .i64 E1) rfl rfl (by kernel_rfl) (by kernel_rfl) (by kernel_rfl) (fun _ _ _ h => h) (Or.inl ⟨by rfl, fun W hW => by go_simp⟩) hs ?_
  simp only [Act.put, List.setIfInBounds_toArray, List.set_cons_succ, List.set_cons_zero]
  refine wpAnyH_takeD (i := 15) (d := 20) (v := .pointer (some ⟨g, 0, none⟩)) rfl rfl (by kernel_rfl) (by kernel_rfl) (by kernel_rfl) (fun _ _ _ h => h) (Or.inl ⟨by rfl, fun W hW => by go_simp⟩) hs ?_
  simp only [Act.put, List.setIfInBounds_toArray, List.set_cons_succ, List.set_cons_zero]
  refine wpAnyH_takeD (i := 16) (d := 21) (v := .pointer (some ⟨g, 10, none⟩)) rfl rfl (by kernel_rfl) (by kernel_rfl) (by kernel_rfl) (fun _ _ _ h => h) (Or.inl ⟨by rfl, fun W hW => by go_simp⟩) hs ?_
  simp only [Act.put, List.setIfInBounds_toArray, List.set_cons_succ, List.set_cons_zero]
  refine wpAnyH_ready (rs := [17]) (by kernel_rfl) (by simp) (AllReadyH.cons rfl (fun K hK => ?_) AllReadyH.nil)
  refine step_store_arr rfl 29 (.tmp 21) (.tmp 18) rfl g 10 (filC V1 F1) rfl rfl hJ1.there_now (by kernel_rfl) (by simp [filC, Value.oneCell']) rfl ?_
  have hJ2 := hJ1.put hf1
  refine hK.out _ _ ⟨keep_same (Keep.of_ext x1) (keep_setCells _ _ _ _), _, _, _, _, hJ2⟩ (fun hs => ?_)
  clear hK K
  simp only [Act.put]
  refine wpAnyH_takeD (i := 18) (d := 4) (v := .int .i64 E1) rfl rfl (by kernel_rfl) (by kernel_rfl) (by kernel_rfl) (fun _ _ _ h => h) (Or.inl ⟨by rfl, fun W hW => by go_simp⟩) hs ?_
  simp only [Act.put, List.setIfInBounds_toArray, List.set_cons_succ, List.set_cons_zero]
  refine wpAnyH_done (by kernel_rfl) ?_ _
  go_wp2_with fail
  go_ret
  exact ⟨rfl, keep_same (Keep.of_ext x1) (keep_setCells _ _ _ _), V1, hJ2⟩
end Go.Proofs.YtlafnobjfajamaaGreat
namespace Go.Proofs.YtlafnobjfajamaaGreat
open Go.RowKit
set_option linter.unusedVariables false
set_option maxRecDepth 100000

/-- What answers an ask that writes: its own numbers. -/
def agT (Q : Qst) : Tel := { zeroT with k := Q.k, ad := Q.ad, ct := Q.ct, va := Q.va, an := Q.an, oo := Q.oo }
/-- Which of two exceptions is told. -/
def fmoE (a b : Int) : Int := if a = 0 ∨ b = 2 then b else a
theorem fmo_both {e g : Int} (he : e = 0 ∨ e = 2 ∨ e = 4) (hg : g = 0 ∨ g = 2 ∨ g = 4) : fmoE g e = bothE e g := by
  rcases he with rfl | rfl | rfl <;> rcases hg with rfl | rfl | rfl <;> decide
section
variable {F : Fil} {Q : Qst}
theorem sb_bit (x : Int) (m : Nat) : sbE F x m = bitE F false x m := rfl
theorem sw_wrd (x : Int) (m : Nat) : swE F x m = wrdE F false x m := rfl
theorem dat_is1 (hk : Q.k = 1) : datE F Q = bitE F false Q.ad Q.ct ∧ datF F Q = F ∧ (datE F Q = 0 → datT F Q = { zeroT with k := Q.k, nb := bitN F false Q.ad Q.ct, B := bitL F false Q.ad }) := by
  refine ⟨?_, dat_reads (by unfold writesB; rw [hk]; decide), fun h0 => ?_⟩
  · unfold datE; simp (config := { decide := true }) only [hk, if_true, if_false] <;> rfl
  · have hne : ¬ datE F Q ≠ 0 := fun h => h h0
    unfold datT; rw [if_neg hne]; simp (config := { decide := true }) only [hk, if_true, if_false] <;> rfl
theorem dat_is2 (hk : Q.k = 2) : datE F Q = bitE F true Q.ad Q.ct ∧ datF F Q = F ∧ (datE F Q = 0 → datT F Q = { zeroT with k := Q.k, nb := bitN F true Q.ad Q.ct, B := bitL F true Q.ad }) := by
  refine ⟨?_, dat_reads (by unfold writesB; rw [hk]; decide), fun h0 => ?_⟩
  · unfold datE; simp (config := { decide := true }) only [hk, if_true, if_false] <;> rfl
  · have hne : ¬ datE F Q ≠ 0 := fun h => h h0
    unfold datT; rw [if_neg hne]; simp (config := { decide := true }) only [hk, if_true, if_false] <;> rfl
theorem dat_is3 (hk : Q.k = 3) : datE F Q = wrdE F false Q.ad Q.ct ∧ datF F Q = F ∧ (datE F Q = 0 → datT F Q = { zeroT with k := Q.k, nr := wrdN F false Q.ad Q.ct, R := wrdL F false Q.ad }) := by
  refine ⟨?_, dat_reads (by unfold writesB; rw [hk]; decide), fun h0 => ?_⟩
  · unfold datE; simp (config := { decide := true }) only [hk, if_true, if_false] <;> rfl
  · have hne : ¬ datE F Q ≠ 0 := fun h => h h0
    unfold datT; rw [if_neg hne]; simp (config := { decide := true }) only [hk, if_true, if_false] <;> rfl
theorem dat_is4 (hk : Q.k = 4) : datE F Q = wrdE F true Q.ad Q.ct ∧ datF F Q = F ∧ (datE F Q = 0 → datT F Q = { zeroT with k := Q.k, nr := wrdN F true Q.ad Q.ct, R := wrdL F true Q.ad }) := by
  refine ⟨?_, dat_reads (by unfold writesB; rw [hk]; decide), fun h0 => ?_⟩
  · unfold datE; simp (config := { decide := true }) only [hk, if_true, if_false] <;> rfl
  · have hne : ¬ datE F Q ≠ 0 := fun h => h h0
    unfold datT; rw [if_neg hne]; simp (config := { decide := true }) only [hk, if_true, if_false] <;> rfl
theorem dat_is5 (hq : rightQ Q = true) (hk : Q.k = 5) : datE F Q = sbE F Q.ad 1 ∧ (datE F Q = 0 → datF F Q = sbF F Q.ad 1 (fun _ => decide (Q.va = 65280)) ∧ datT F Q = agT Q) := by
  have a := ask_facts hq
  obtain ⟨-, h2, -, -⟩ := (rightQ_iff Q).1 hq
  have h2 := h2.2
  have z := h2.1 (.inl hk)
  refine ⟨?_, fun h0 => ?_⟩
  · unfold datE; simp (config := { decide := true }) only [hk, if_true, if_false] <;> rfl
  · have hne : ¬ datE F Q ≠ 0 := fun h => h h0
    refine ⟨?_, ?_⟩
    · unfold datF; rw [if_neg hne]; simp (config := { decide := true }) only [hk, if_true, if_false] <;> rfl
    · unfold datT agT; rw [if_neg hne]; simp (config := { decide := true }) only [hk, if_true, if_false, z.1, z.2.1, z.2.2.1] <;> rfl
theorem dat_is6 (hq : rightQ Q = true) (hk : Q.k = 6) : datE F Q = swE F Q.ad 1 ∧ (datE F Q = 0 → datF F Q = swF F Q.ad 1 (fun _ => Q.va) ∧ datT F Q = agT Q) := by
  have a := ask_facts hq
  obtain ⟨-, h2, -, -⟩ := (rightQ_iff Q).1 hq
  have h2 := h2.2
  have z := h2.1 (.inr hk)
  refine ⟨?_, fun h0 => ?_⟩
  · unfold datE; simp (config := { decide := true }) only [hk, if_true, if_false] <;> rfl
  · have hne : ¬ datE F Q ≠ 0 := fun h => h h0
    refine ⟨?_, ?_⟩
    · unfold datF; rw [if_neg hne]; simp (config := { decide := true }) only [hk, if_true, if_false] <;> rfl
    · unfold datT agT; rw [if_neg hne]; simp (config := { decide := true }) only [hk, if_true, if_false, z.1, z.2.1, z.2.2.1] <;> rfl
theorem dat_is15 (hq : rightQ Q = true) (hk : Q.k = 15) : datE F Q = sbE F Q.ad Q.nb ∧ (datE F Q = 0 → datF F Q = sbF F Q.ad Q.nb Q.B ∧ datT F Q = agT Q) := by
  have a := ask_facts hq
  obtain ⟨-, h2, -, -⟩ := (rightQ_iff Q).1 hq
  have h2 := h2.2
  have z := h2.2.1 hk
  refine ⟨?_, fun h0 => ?_⟩
  · rw [sb_bit, (a.bt hk).2.2]; unfold datE; simp (config := { decide := true }) only [hk, if_true, if_false] <;> rfl
  · have hne : ¬ datE F Q ≠ 0 := fun h => h h0
    refine ⟨?_, ?_⟩
    · unfold datF; rw [if_neg hne]; simp (config := { decide := true }) only [hk, if_true, if_false] <;> rfl
    · unfold datT agT; rw [if_neg hne]; simp (config := { decide := true }) only [hk, if_true, if_false, z.1, z.2.1, z.2.2.1] <;> rfl
theorem dat_is16 (hq : rightQ Q = true) (hk : Q.k = 16) : datE F Q = swE F Q.ad Q.nr ∧ (datE F Q = 0 → datF F Q = swF F Q.ad Q.nr Q.R ∧ datT F Q = agT Q) := by
  have a := ask_facts hq
  obtain ⟨-, h2, -, -⟩ := (rightQ_iff Q).1 hq
  have h2 := h2.2
  have z := h2.2.2.1 hk
  refine ⟨?_, fun h0 => ?_⟩
  · rw [sw_wrd, (a.wd (.inl hk)).2.2]; unfold datE; simp (config := { decide := true }) only [hk, if_true, if_false] <;> rfl
  · have hne : ¬ datE F Q ≠ 0 := fun h => h h0
    refine ⟨?_, ?_⟩
    · unfold datF; rw [if_neg hne]; simp (config := { decide := true }) only [hk, if_true, if_false] <;> rfl
    · unfold datT agT; rw [if_neg hne]; simp (config := { decide := true }) only [hk, if_true, if_false, z.1, z.2.1, z.2.2.1] <;> rfl
theorem dat_is22 (hq : rightQ Q = true) (hk : Q.k = 22) : datE F Q = swE F Q.ad 1 ∧ (datE F Q = 0 → datF F Q = swF F Q.ad 1 (fun _ => mskQ (wrdL F false Q.ad 0) Q.an Q.oo) ∧ datT F Q = agT Q) := by
  have a := ask_facts hq
  obtain ⟨-, h2, -, -⟩ := (rightQ_iff Q).1 hq
  have h2 := h2.2
  have z := h2.2.2.2.1 hk
  refine ⟨?_, fun h0 => ?_⟩
  · unfold datE; simp (config := { decide := true }) only [hk, if_true, if_false] <;> rfl
  · have hne : ¬ datE F Q ≠ 0 := fun h => h h0
    refine ⟨?_, ?_⟩
    · unfold datF; rw [if_neg hne]; simp (config := { decide := true }) only [hk, if_true, if_false] <;> rfl
    · unfold datT agT; rw [if_neg hne]; simp (config := { decide := true }) only [hk, if_true, if_false, z.1, z.2.1, z.2.2.1] <;> rfl
theorem dat_is23 (hq : rightQ Q = true) (hr : rightB F = true) (hk : Q.k = 23) : datE F Q = fmoE (wrdE F false Q.fr Q.mn) (swE F Q.ad Q.nr) ∧ (datE F Q = 0 → wrdE F false Q.fr Q.mn = 0 ∧ swE F Q.ad Q.nr = 0 ∧ datF F Q = swF F Q.ad Q.nr Q.R ∧ datT F Q = { zeroT with k := Q.k, nr := wrdN (datF F Q) false Q.fr Q.mn, R := wrdL (datF F Q) false Q.fr }) := by
  have a := ask_facts hq
  have hn := (a.wd (.inr hk)).2.2
  have e1 : datE F Q = bothE (wrdE F false Q.ad Q.ct) (wrdE F false Q.fr Q.mn) := by unfold datE; simp (config := { decide := true }) only [hk, if_true, if_false]
  have e2 : swE F Q.ad Q.nr = wrdE F false Q.ad Q.ct := by rw [sw_wrd, hn]
  have w1 := wrd_ways hr false Q.ad Q.ct (a.wd (.inr hk)).1
  have w2 := wrd_ways hr false Q.fr Q.mn (a.mn hk).1
  refine ⟨by rw [e1, e2, fmo_both w1 w2], fun h0 => ?_⟩
  have hne : ¬ datE F Q ≠ 0 := fun h => h h0
  have hz := both_zero (e1 ▸ h0)
  refine ⟨hz.2, e2.trans hz.1, ?_, ?_⟩
  · unfold datF; rw [if_neg hne]; simp (config := { decide := true }) only [hk, if_true, if_false]
  · unfold datT; rw [if_neg hne]; simp (config := { decide := true }) only [hk, if_true, if_false]
/-- Behind what was written as many places are there, and work. -/
theorem wrd_behind (hr : rightB F = true) {x : Int} {m : Nat} {v : Nat → Int} (h : swE F x m = 0) (i : Bool) (y k : Int) : wrdE (swF F x m v) i y k = wrdE F i y k := by
  have : swF F x m v = { F with H := wrF F.H v F.hf x m } := by unfold swF; rw [if_pos h]
  rw [this]; rfl
end
end Go.Proofs.YtlafnobjfajamaaGreat
