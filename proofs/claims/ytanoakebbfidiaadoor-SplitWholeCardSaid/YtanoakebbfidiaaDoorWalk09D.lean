/-
  THE WALKS OF LAYER 9, as the frames want them: SplitWhole.
-/
import Derived.Test.YtanoakebbfidiaaDoorOpenA
import Derived.Test.YtanoakebbfidiaaDoorWalk09A
import Derived.Test.YtanoakebbfidiaaDoorLaw09G
namespace Go.Proofs.YtanoakebbfidiaaDoor
open Go.RowKit
set_option linter.unusedVariables false
set_option maxRecDepth 100000 in
theorem splitWhole.out (a : Option Addr) (n cp : Nat) (L : List Byt) (c s l u f : Int) (w : World) (hr : Rd w) (ha : HoldsL 3 byt w a L) (hL : L.length = n) (h700 : n ≤ 700) (hw : WfB L) (hf : (Lit.int .i64 f).wf = true)
    (hout : rightB c s l u = false ∨ rightI L f = false) :
    Calls Tryd.prog 5 #[.slice a n cp, timesC c s l u, .int .i64 f] w fun e w' => e = .returned (.bool true) ∧ Ext w w' := by
  have hr0 := fun w => rright_any c s l u w
  have f1 := fun w' (x : Ext w w') => sright_any a n cp L f w' (ha.ext x) hL (by omega) hw hf
  have f5 := fun w' (x : Ext w w') => sure9_any w' (hr.ext x)
  have h7 : ¬ (700 : Int) < (n : Int) := by omega
  have F1 := Lib.hid f1; have F5 := Lib.hid f5
  unfold timesC
  cases h1 : rightB c s l u
  · rw [h1] at hr0
    clear hr ha hL h700 hw hout f1 f5 h1 F1 hf
    go_enter Tryd.func5, Tryd.ntmps5
    go_wp2_with fail
    refine (hr0 _).mono ?_; rintro e w1 ⟨rfl, x1⟩
    have x2 := (Ext.alloc _ _).trans x1
    clear hr0 x1
    go_wp2_with fail
    refine (F5.out _ x2).mono ?_; rintro e w3 ⟨rfl, x3⟩
    go_wp2
    go_ret
    exact ⟨rfl, x2.trans x3⟩
  · rw [h1] at hr0 hout
    have h2 : rightI L f = false := by simpa using hout
    rw [h2] at F1
    clear hr ha hL h700 hw hout f1 f5 h1 h2 hf
    go_enter Tryd.func5, Tryd.ntmps5
    go_wp2_with fail
    refine (hr0 _).mono ?_; rintro e w1 ⟨rfl, x1⟩
    have x2 := (Ext.alloc _ _).trans x1
    clear hr0 x1
    go_wp2_with fail
    refine (F1.out _ x2).mono ?_; rintro e w2 ⟨rfl, x3⟩
    have x4 := x2.trans x3
    clear x2 x3
    go_wp2_with fail
    refine (F5.out _ x4).mono ?_; rintro e w3 ⟨rfl, x5⟩
    go_wp2
    go_ret
    exact ⟨rfl, x4.trans x5⟩
set_option maxRecDepth 100000 in
theorem splitWhole.long (a : Option Addr) (n cp : Nat) (c s l u f : Int) (w : World) (hr : Rd w) (h : 700 < n) (hcp : n ≤ cp) (hcm : cp ≤ 8796093021952) :
    Calls Tryd.prog 5 #[.slice a n cp, timesC c s l u, .int .i64 f] w fun e w' => e = .returned (.bool true) ∧ Ext w w' := by
  have h7 : (700 : Int) < n := by omega
  have hs := fun w' (x : Ext w w') => sure9_any w' (hr.ext x)
  have HS := Lib.hid hs
  unfold timesC
  clear hr h hs hcp hcm
  go_enter Tryd.func5, Tryd.ntmps5
  go_wp2_with fail
  refine (HS.out _ (Ext.alloc _ _)).mono ?_; rintro e w3 ⟨rfl, x3⟩
  go_wp2
  go_ret
  exact ⟨rfl, (Ext.alloc _ _).trans x3⟩
theorem splitWhole.walk (a : Option Addr) (n cp : Nat) (L : List Byt) (c s l u f : Int) (w : World) (hr : Rd w) (ha : HoldsL 3 byt w a L) (hL : L.length = n) (hcp : n ≤ cp) (hcm : cp ≤ 8796093021952) (hw : WfB L)
    (hc : (Lit.int .i64 c).wf = true) (hs : (Lit.int .i64 s).wf = true) (hl : (Lit.int .i64 l).wf = true) (hu : (Lit.int .i64 u).wf = true) (hf : (Lit.int .i64 f).wf = true) :
    Calls Tryd.prog 5 #[.slice a n cp, .agg #[.int .i64 c, .int .i64 s, .int .i64 l, .int .i64 u], .int .i64 f] w fun e w' => e = .returned (.bool true) ∧ Ext w w' := by
  by_cases h : n ≤ 700
  · by_cases h1 : rightB c s l u = true
    · by_cases h2 : rightI L f = true
      · exact splitWhole.most a n cp L c s l u f w hr ha hL hcp (by unfold maxLen; omega) h hw hc hs hl hu hf h1 h2 sure9_any
      · exact splitWhole.out a n cp L c s l u f w hr ha hL h hw hf (.inr (by simpa using h2))
    · exact splitWhole.out a n cp L c s l u f w hr ha hL h hw hf (.inl (by simpa using h1))
  · exact splitWhole.long a n cp c s l u f w hr (by omega) hcp hcm
end Go.Proofs.YtanoakebbfidiaaDoor
