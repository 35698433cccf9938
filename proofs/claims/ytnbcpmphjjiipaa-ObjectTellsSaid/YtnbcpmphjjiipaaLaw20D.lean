/-
  THE LAWS OF LAYER 20: the walks for whatever comes in (package object's contracts as premises).
-/
import Derived.Test.YtnbcpmphjjiipaaLaw20C
namespace Go.Proofs.Ytnbcpmphjjiipaa
open Go.RowKit
set_option linter.unusedVariables false
set_option maxRecDepth 100000

set_option maxHeartbeats 4000000 in
theorem objectTells.walk0 (K : ObjC) (a : Option Addr) (n c : Nat) (L : List Ob) (b : Option Addr) (m d : Nat) (M : List Ob) (s id : Int) (w : World) (hL : ObjsAt w a n c L) (hn : n ≤ 1000000000000000) (hM : ObjsAt w b m d M) (hm : m ≤ 1000000000000000) (ws : (Lit.int .i64 s).wf = true) (wi : (Lit.int .i64 id).wf = true) :
    Calls Try.prog 3 #[.slice a n c, .slice b m d, .agg #[.int .i64 s, .int .i64 id]] w fun e w' => e = .returned (.bool true) ∧ Ext w w' := by
  by_cases hb : fewO L = true ∧ fewO M = true
  · exact objectTells.small K a b n m c d L M s id w hL hM hb.1 hb.2 ws wi
  · obtain ⟨W0, hW0, x0, HB⟩ : ∃ W0, W0 = w.alloc (.cells #[.int .i64 s, .int .i64 id] 23) ∧ Ext w W0 ∧ Hid (W0.heap[w.heap.size]? = some (.cells #[.int .i64 s, .int .i64 id] 23 (0, 0))) := ⟨_, rfl, Ext.alloc _ _, Lib.hid (heap_alloc_new _ _)⟩
    have c0 : W0.cell? ⟨w.heap.size, 0, none⟩ = some (.int .i64 s) := cell_of_heap HB.out rfl
    have c1 : W0.cell? ⟨w.heap.size, 1, none⟩ = some (.int .i64 id) := cell_of_heap HB.out rfl
    have HL := Lib.hid (hL.ext x0)
    have HM := Lib.hid (hM.ext x0)
    have HK := Lib.hid K
    have HX := Lib.hid x0
    have KFl := Lib.hid (fun W (x : Ext W0 W) => rfew20_any a n c L W (HL.out.ext x) hn)
    have KFm := Lib.hid (fun W (x : Ext W0 W) => rfew20_any b m d M W (HM.out.ext x) hm)
    clear K hL hM x0 ws wi hn hm
    cases hfl : fewO L with
    | false =>
      rw [hfl] at KFl
      clear hb hfl
      go_enter Try.func3, Try.ntmps3
      go_upto_region 1 with fail
      rw [← hW0]
      clear hW0
      go_wp2_with fail
      go_quiet (fail)
      obtain ⟨W1, hW1, x1⟩ : ∃ W1, W1 = W0.drewN nq ∧ Ext W0 W1 := ⟨_, rfl, below_drewN (Below.refl _ _) nq⟩
      rw [← hW1]
      clear hW1 c0 c1
      go_wp2_with fail
      refine (KFl.out _ x1).mono ?_; rintro e w2 ⟨rfl, hw2⟩
      rw [hw2]; clear hw2
      go_wp2_with fail
      refine (sure20 HK.out W1).mono ?_; rintro e w2 ⟨rfl, x2⟩
      go_wp2
      go_ret
      exact ⟨rfl, HX.out.trans (x1.trans x2)⟩
    | true =>
      have hfm : fewO M = false := by
        cases h : fewO M with
        | false => rfl
        | true => exact absurd ⟨hfl, h⟩ hb
      rw [hfl] at KFl
      rw [hfm] at KFm
      clear hb hfl hfm
      go_enter Try.func3, Try.ntmps3
      go_upto_region 1 with fail
      rw [← hW0]
      clear hW0
      go_wp2_with fail
      go_quiet (fail)
      obtain ⟨W1, hW1, x1⟩ : ∃ W1, W1 = W0.drewN nq ∧ Ext W0 W1 := ⟨_, rfl, below_drewN (Below.refl _ _) nq⟩
      rw [← hW1]
      clear hW1 c0 c1
      go_wp2_with fail
      refine (KFl.out _ x1).mono ?_; rintro e w2 ⟨rfl, hw2⟩
      rw [hw2]; clear hw2
      go_wp2_with fail
      refine (KFm.out _ x1).mono ?_; rintro e w2 ⟨rfl, hw2⟩
      rw [hw2]; clear hw2
      go_wp2_with fail
      refine (sure20 HK.out W1).mono ?_; rintro e w2 ⟨rfl, x2⟩
      go_wp2
      go_ret
      exact ⟨rfl, HX.out.trans (x1.trans x2)⟩
set_option maxHeartbeats 4000000 in
theorem objectSorts.walk0 (K : ObjC) (a : Option Addr) (n c : Nat) (L : List Ob) (J : Int) (w : World) (hL : ObjsAt w a n c L) (hn : n ≤ 1000000000000000) (wj : (Lit.int .u8 J).wf = true) :
    Calls Try.prog 4 #[.slice a n c, .int .u8 J] w fun e w' => e = .returned (.bool true) ∧ Ext w w' := by
  have hJ : 0 ≤ J ∧ J < 256 := by simp [Lit.wf, IntKind.min, IntKind.max, IntKind.signed, IntKind.bits] at wj; omega
  have HK := Lib.hid K
  have KFl := Lib.hid (rfew20_any a n c L w hL hn)
  cases hfl : fewO L with
  | false =>
    rw [hfl] at KFl
    clear K hL hn wj hJ hfl
    go_enter Try.func4, Try.ntmps4
    go_wp2_with fail
    refine KFl.out.mono ?_; rintro e w2 ⟨rfl, hw2⟩
    rw [hw2]; clear hw2
    go_wp2_with fail
    refine (sure20 HK.out w).mono ?_; rintro e w2 ⟨rfl, x2⟩
    go_wp2
    go_ret
    exact ⟨rfl, x2⟩
  | true =>
    cases hr : rightO L with
    | true => exact objectSorts.small K a n c L J w hL hfl hr hJ.1 hJ.2
    | false =>
      have KA := Lib.hid (K.right a n c L w hL (fewO_f hfl))
      rw [hfl] at KFl
      rw [hr] at KA
      clear K hL hn wj hJ hfl hr
      go_enter Try.func4, Try.ntmps4
      go_wp2_with fail
      refine KFl.out.mono ?_; rintro e w2 ⟨rfl, hw2⟩
      rw [hw2]; clear hw2
      go_wp2_with fail
      refine KA.out.mono ?_; rintro e w2 ⟨rfl, x1⟩
      go_wp2_with fail
      refine (sure20 HK.out w2).mono ?_; rintro e w3 ⟨rfl, x2⟩
      go_wp2
      go_ret
      exact ⟨rfl, x1.trans x2⟩
end Go.Proofs.Ytnbcpmphjjiipaa
