/-
  THE WALKS OF LAYER 9, as the frames want them: SplitShift.
-/
import Derived.Test.YtanoakebbfidiaaDoorOpenA
import Derived.Test.YtanoakebbfidiaaDoorWalk09A
import Derived.Test.YtanoakebbfidiaaDoorLaw09E
namespace Go.Proofs.YtanoakebbfidiaaDoor
open Go.RowKit
set_option linter.unusedVariables false
/-- Where nothing is asked: 'sure' alone. -/
theorem splitShift.out (a : Option Addr) (n cp : Nat) (L : List Byt) (c s l u d : Int) (w : World) (hr : Rd w) (ha : HoldsL 3 byt w a L) (hL : L.length = n) (hn : n ≤ 500) (hw : WfB L)
    (hout : rightB c s l u = false ∨ rightI L 0 = false ∨ 549755813888 < lastT 0 L) :
    Calls Tryd.prog 7 #[.slice a n cp, timesC c s l u, .int .u16 d] w fun e w' => e = .returned (.bool true) ∧ Ext w w' := by
  have hr0 := fun w => rright_any c s l u w
  have f1 := fun w' (x : Ext w w') => sright_any a n cp L 0 w' (ha.ext x) hL (by omega) hw rfl
  have f5 := fun w' (x : Ext w w') => sure9_any w' (hr.ext x)
  have h7 : ¬ (500 : Int) < (n : Int) := by omega
  have F1 := Lib.hid f1; have F5 := Lib.hid f5
  unfold timesC
  cases h1 : rightB c s l u
  · rw [h1] at hr0
    clear hr ha hL hn hw hout f1 f5 h1 F1
    go_enter Tryd.func7, Tryd.ntmps7
    go_wp2_with fail
    refine (hr0 _).mono ?_; rintro e w1 ⟨rfl, x1⟩
    have x2 := (Ext.alloc _ _).trans x1
    clear hr0 x1
    go_wp2_with fail
    refine (F5.out _ x2).mono ?_; rintro e w3 ⟨rfl, x3⟩
    go_wp2
    go_ret
    exact ⟨rfl, x2.trans x3⟩
  · rw [h1] at hr0
    cases h2 : rightI L 0
    · rw [h2] at F1
      clear hr ha hL hn hw hout f1 f5 h1 h2
      go_enter Tryd.func7, Tryd.ntmps7
      go_wp2_with fail
      refine (hr0 _).mono ?_; rintro e w1 ⟨rfl, x1⟩
      have x2 := (Ext.alloc _ _).trans x1
      clear hr0 x1
      go_wp2_with fail
      refine (F1.out _ x2).mono ?_; rintro e w2 ⟨rfl, x3⟩
      have x4 := x2.trans x3
      clear x2 x3
      go_wp2_with fail
      refine (F5.out _ x4).mono ?_; rintro e w3 ⟨rfl, x5⟩
      go_wp2
      go_ret
      exact ⟨rfl, x4.trans x5⟩
    · have h3 : 549755813888 < lastT 0 L := by
        rcases hout with e | e | e
        · rw [h1] at e; cases e
        · rw [h2] at e; cases e
        · exact e
      rw [h2] at F1
      have hn0 : 0 < n := by
        rcases Nat.eq_zero_or_pos n with e | e
        · rw [List.eq_nil_of_length_eq_zero (hL.trans e)] at h3
          exact absurd h3 (by decide)
        · exact e
      have hL0 : 0 < L.length := by omega
      have hn' : (0 : Int) < n := by omega
      obtain ⟨p, o, rfl, hp, -⟩ := ha.resolve_left (by intro e; rw [e] at hL0; simp at hL0)
      obtain ⟨c0, -, -⟩ := ha.byt_at (n - 1) (by omega)
      rw [lastT_get hL0] at h3
      have e : (L[n - 1]'(by omega)).1 = (L[L.length - 1]).1 := by congr 2; rw [hL]
      rw [← e] at h3
      generalize (L[n - 1]'(by omega)).1 = X at c0 h3 e
      have HC := Lib.hid (fun w' (x : Ext w w') => x.cell hp c0)
      have w1 : IntKind.i64.wrap ((n : Int) - 1) = ((n - 1 : Nat) : Int) := by rw [IntWalk.i64_in _ (by omega)]; omega
      have hlt : ((n - 1 : Nat) : Int) < n := by omega
      obtain ⟨k, hk⟩ : ∃ k, k = n - 1 := ⟨_, rfl⟩
      rw [← hk] at w1 HC hlt
      clear hr ha hL hn hw hout f1 f5 h1 h2 hk e c0 hL0 hn0
      go_enter Tryd.func7, Tryd.ntmps7
      go_wp2_with fail
      refine (hr0 _).mono ?_; rintro e w1 ⟨rfl, x1⟩
      have x2 := (Ext.alloc _ _).trans x1
      clear hr0 x1
      go_wp2_with fail
      refine (F1.out _ x2).mono ?_; rintro e w2 ⟨rfl, x3⟩
      have x4 := x2.trans x3
      have c1 := HC.out _ x4
      clear x2 x3
      go_wp2_with fail
      refine (F5.out _ x4).mono ?_; rintro e w3 ⟨rfl, x5⟩
      go_wp2
      go_ret
      exact ⟨rfl, x4.trans x5⟩
theorem splitShift.long (a : Option Addr) (n cp : Nat) (c s l u d : Int) (w : World) (hr : Rd w) (h : 500 < n) (hcp : n ≤ cp) (hcm : cp ≤ 8796093021952) :
    Calls Tryd.prog 7 #[.slice a n cp, timesC c s l u, .int .u16 d] w fun e w' => e = .returned (.bool true) ∧ Ext w w' := by
  have h7 : (500 : Int) < n := by omega
  have hs := fun w' (x : Ext w w') => sure9_any w' (hr.ext x)
  have HS := Lib.hid hs
  unfold timesC
  clear hr h hs hcp hcm
  go_enter Tryd.func7, Tryd.ntmps7
  go_wp2_with fail
  refine (HS.out _ (Ext.alloc _ _)).mono ?_; rintro e w3 ⟨rfl, x3⟩
  go_wp2
  go_ret
  exact ⟨rfl, (Ext.alloc _ _).trans x3⟩
theorem splitShift.walk (a : Option Addr) (n cp : Nat) (L : List Byt) (c s l u d : Int) (w : World) (hr : Rd w) (ha : HoldsL 3 byt w a L) (hL : L.length = n) (hcp : n ≤ cp) (hcm : cp ≤ 8796093021952) (hw : WfB L)
    (hc : (Lit.int .i64 c).wf = true) (hs : (Lit.int .i64 s).wf = true) (hl : (Lit.int .i64 l).wf = true) (hu : (Lit.int .i64 u).wf = true) (hd : (Lit.int .u16 d).wf = true) :
    Calls Tryd.prog 7 #[.slice a n cp, .agg #[.int .i64 c, .int .i64 s, .int .i64 l, .int .i64 u], .int .u16 d] w fun e w' => e = .returned (.bool true) ∧ Ext w w' := by
  have hd2 := bounds_u16 hd
  by_cases h : n ≤ 500
  · by_cases h1 : rightB c s l u = true
    · by_cases h2 : rightI L 0 = true
      · by_cases h3 : lastT 0 L ≤ 549755813888
        · exact splitShift.most a n cp L c s l u d w hr ha hL hcp (by unfold maxLen; omega) h hw hc hs hl hu hd2.1 (by omega) h1 h2 h3 sure9_any
        · exact splitShift.out a n cp L c s l u d w hr ha hL h hw (.inr (.inr (by omega)))
      · exact splitShift.out a n cp L c s l u d w hr ha hL h hw (.inr (.inl (by simpa using h2)))
    · exact splitShift.out a n cp L c s l u d w hr ha hL h hw (.inl (by simpa using h1))
  · exact splitShift.long a n cp c s l u d w hr (by omega) hcp hcm
end Go.Proofs.YtanoakebbfidiaaDoor
